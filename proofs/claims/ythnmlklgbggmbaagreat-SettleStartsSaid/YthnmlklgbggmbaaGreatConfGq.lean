import Derived.Test.YthnmlklgbggmbaaGreatPlDq
import Derived.Test.YthnmlklgbggmbaaGreatConfCq
import Derived.Test.YthnmlklgbggmbaaGreatObjq
import Derived.LoopN
import Derived.Deep.RegionHeld3
namespace Go.Proofs.YthnmlklgbggmbaaGreat
open Go.ChangeShapes Go.WideShapes Go.ChangeAt Go.RowKit
set_option linter.unusedVariables false
set_option linter.unusedSimpArgs false
def objF (c : CfD) (o : Nat → Int) : Int := if o 0 < 1 ∨ 4 < o 0 then 12 else if o 0 = 1 ∧ roomB (o 1) = false then 13 else if rightS o = false then 2 else if ownF c o = false then 10 else 0
theorem objs1_l (c : CfD) (PB : Nat) (i : Nat) (w : World) (hc : CfIn w c) (ho : c.Ok) (hb : w.heap[PB]? = some (.cells c.cells 112 (0, 0))) (hi : i < c.nO) (hk : c.ob i 0 < 1) :
    Calls Tryz.prog 102 #[.int .i64 (i : Int), .pointer (some ⟨PB, 0, none⟩)] w fun e w' => e = .returned (.int .i64 (objF c (c.ob i))) ∧ Keeps (fun _ => False) w w' := by
  obtain ⟨b, off, hta, hbl, hrow⟩ := hc.o (by omega)
  have hr := fun j hj => hrow i hi j hj
  have c0 : w.cell? ⟨b, off + i * 10, none⟩ = some (.int .i64 (c.ob i 0)) := hr 0 (by omega)
  have c1 : w.cell? ⟨b, off + i * 10 + 1, none⟩ = some (.int .i64 (c.ob i 1)) := hr 1 (by omega)
  have c2 : w.cell? ⟨b, off + i * 10 + 2, none⟩ = some (.int .i64 (c.ob i 2)) := hr 2 (by omega)
  have c3 : w.cell? ⟨b, off + i * 10 + 3, none⟩ = some (.int .i64 (c.ob i 3)) := hr 3 (by omega)
  have c4 : w.cell? ⟨b, off + i * 10 + 4, none⟩ = some (.int .i64 (c.ob i 4)) := hr 4 (by omega)
  have c5 : w.cell? ⟨b, off + i * 10 + 5, none⟩ = some (.int .i64 (c.ob i 5)) := hr 5 (by omega)
  have c6 : w.cell? ⟨b, off + i * 10 + 6, none⟩ = some (.int .u32 (c.oi i 0)) := hr 6 (by omega)
  have c7 : w.cell? ⟨b, off + i * 10 + 7, none⟩ = some (.int .u32 (c.oi i 1)) := hr 7 (by omega)
  have c8 : w.cell? ⟨b, off + i * 10 + 8, none⟩ = some (.int .u32 (c.oi i 2)) := hr 8 (by omega)
  have c9 : w.cell? ⟨b, off + i * 10 + 9, none⟩ = some (.int .u32 (c.oi i 3)) := hr 9 (by omega)
  have hlim := ho.o
  unfold maxLen at hlim
  have hbd := ho.ob i hi 1 (by omega)
  have HRoom := Lib.hid (fun w => room_any (c.ob i 1) w hbd.1 hbd.2)
  have HRight := Lib.hid (fun w => right_any (c.ob i) (c.oi i) w hbd)
  have HOwn := Lib.hid (fun w => own_any c (c.ob i) (c.oi i) w ho)
  obtain ⟨e0, e1, e2, e3⟩ := four_cells hb
  rw [hta] at e2
  have lx := lt_of hb
  have HB := Lib.hid (((Has.start w).old hb).alloc (.cells (objC (c.ob i) (c.oi i)) 74))
  clear hrow hr ho hc hb hbd hta
  generalize c.ob i = o at *
  generalize c.oi i = oi at *
  have HV := Lib.hid (show objF c o = 12 from by unfold objF; rw [if_pos (by omega)])
  have d0 : decide (o 0 < 1) = true := decide_eq_true hk
  clear hk
  go_enter Tryz.func102, Tryz.ntmps102
  go_wp2
  go_ret
  exact ⟨ret_i64 HV.out.symm, HB.out.keeps⟩
theorem objs1_h (c : CfD) (PB : Nat) (i : Nat) (w : World) (hc : CfIn w c) (ho : c.Ok) (hb : w.heap[PB]? = some (.cells c.cells 112 (0, 0))) (hi : i < c.nO) (hk : 4 < c.ob i 0) :
    Calls Tryz.prog 102 #[.int .i64 (i : Int), .pointer (some ⟨PB, 0, none⟩)] w fun e w' => e = .returned (.int .i64 (objF c (c.ob i))) ∧ Keeps (fun _ => False) w w' := by
  obtain ⟨b, off, hta, hbl, hrow⟩ := hc.o (by omega)
  have hr := fun j hj => hrow i hi j hj
  have c0 : w.cell? ⟨b, off + i * 10, none⟩ = some (.int .i64 (c.ob i 0)) := hr 0 (by omega)
  have c1 : w.cell? ⟨b, off + i * 10 + 1, none⟩ = some (.int .i64 (c.ob i 1)) := hr 1 (by omega)
  have c2 : w.cell? ⟨b, off + i * 10 + 2, none⟩ = some (.int .i64 (c.ob i 2)) := hr 2 (by omega)
  have c3 : w.cell? ⟨b, off + i * 10 + 3, none⟩ = some (.int .i64 (c.ob i 3)) := hr 3 (by omega)
  have c4 : w.cell? ⟨b, off + i * 10 + 4, none⟩ = some (.int .i64 (c.ob i 4)) := hr 4 (by omega)
  have c5 : w.cell? ⟨b, off + i * 10 + 5, none⟩ = some (.int .i64 (c.ob i 5)) := hr 5 (by omega)
  have c6 : w.cell? ⟨b, off + i * 10 + 6, none⟩ = some (.int .u32 (c.oi i 0)) := hr 6 (by omega)
  have c7 : w.cell? ⟨b, off + i * 10 + 7, none⟩ = some (.int .u32 (c.oi i 1)) := hr 7 (by omega)
  have c8 : w.cell? ⟨b, off + i * 10 + 8, none⟩ = some (.int .u32 (c.oi i 2)) := hr 8 (by omega)
  have c9 : w.cell? ⟨b, off + i * 10 + 9, none⟩ = some (.int .u32 (c.oi i 3)) := hr 9 (by omega)
  have hlim := ho.o
  unfold maxLen at hlim
  have hbd := ho.ob i hi 1 (by omega)
  have HRoom := Lib.hid (fun w => room_any (c.ob i 1) w hbd.1 hbd.2)
  have HRight := Lib.hid (fun w => right_any (c.ob i) (c.oi i) w hbd)
  have HOwn := Lib.hid (fun w => own_any c (c.ob i) (c.oi i) w ho)
  obtain ⟨e0, e1, e2, e3⟩ := four_cells hb
  rw [hta] at e2
  have lx := lt_of hb
  have HB := Lib.hid (((Has.start w).old hb).alloc (.cells (objC (c.ob i) (c.oi i)) 74))
  clear hrow hr ho hc hb hbd hta
  generalize c.ob i = o at *
  generalize c.oi i = oi at *
  have HV := Lib.hid (show objF c o = 12 from by unfold objF; rw [if_pos (by omega)])
  have d0 : decide (o 0 < 1) = false := decide_eq_false (by omega)
  have d1 : decide (4 < o 0) = true := decide_eq_true hk
  clear hk
  go_enter Tryz.func102, Tryz.ntmps102
  go_wp2
  go_ret
  exact ⟨ret_i64 HV.out.symm, HB.out.keeps⟩
theorem objs1_1 (c : CfD) (PB : Nat) (i : Nat) (w : World) (hc : CfIn w c) (ho : c.Ok) (hb : w.heap[PB]? = some (.cells c.cells 112 (0, 0))) (hi : i < c.nO) (hk : c.ob i 0 = 1) :
    Calls Tryz.prog 102 #[.int .i64 (i : Int), .pointer (some ⟨PB, 0, none⟩)] w fun e w' => e = .returned (.int .i64 (objF c (c.ob i))) ∧ Keeps (fun _ => False) w w' := by
  obtain ⟨b, off, hta, hbl, hrow⟩ := hc.o (by omega)
  have hr := fun j hj => hrow i hi j hj
  have c0 : w.cell? ⟨b, off + i * 10, none⟩ = some (.int .i64 (c.ob i 0)) := hr 0 (by omega)
  have c1 : w.cell? ⟨b, off + i * 10 + 1, none⟩ = some (.int .i64 (c.ob i 1)) := hr 1 (by omega)
  have c2 : w.cell? ⟨b, off + i * 10 + 2, none⟩ = some (.int .i64 (c.ob i 2)) := hr 2 (by omega)
  have c3 : w.cell? ⟨b, off + i * 10 + 3, none⟩ = some (.int .i64 (c.ob i 3)) := hr 3 (by omega)
  have c4 : w.cell? ⟨b, off + i * 10 + 4, none⟩ = some (.int .i64 (c.ob i 4)) := hr 4 (by omega)
  have c5 : w.cell? ⟨b, off + i * 10 + 5, none⟩ = some (.int .i64 (c.ob i 5)) := hr 5 (by omega)
  have c6 : w.cell? ⟨b, off + i * 10 + 6, none⟩ = some (.int .u32 (c.oi i 0)) := hr 6 (by omega)
  have c7 : w.cell? ⟨b, off + i * 10 + 7, none⟩ = some (.int .u32 (c.oi i 1)) := hr 7 (by omega)
  have c8 : w.cell? ⟨b, off + i * 10 + 8, none⟩ = some (.int .u32 (c.oi i 2)) := hr 8 (by omega)
  have c9 : w.cell? ⟨b, off + i * 10 + 9, none⟩ = some (.int .u32 (c.oi i 3)) := hr 9 (by omega)
  have hlim := ho.o
  unfold maxLen at hlim
  have hbd := ho.ob i hi 1 (by omega)
  have HRoom := Lib.hid (fun w => room_any (c.ob i 1) w hbd.1 hbd.2)
  have HRight := Lib.hid (fun w => right_any (c.ob i) (c.oi i) w hbd)
  have HOwn := Lib.hid (fun w => own_any c (c.ob i) (c.oi i) w ho)
  obtain ⟨e0, e1, e2, e3⟩ := four_cells hb
  rw [hta] at e2
  have lx := lt_of hb
  have HB := Lib.hid (((Has.start w).old hb).alloc (.cells (objC (c.ob i) (c.oi i)) 74))
  clear hrow hr ho hc hb hbd hta
  generalize c.ob i = o at *
  generalize c.oi i = oi at *
  have d0 : decide (o 0 < 1) = false := decide_eq_false (by omega)
  have d1 : decide (4 < o 0) = false := decide_eq_false (by omega)
  have d2 : (o 0 == 1) = true := beq_iff_eq.mpr hk
  have HK := Lib.hid hk
  clear hk
  go_enter Tryz.func102, Tryz.ntmps102
  go_wp2_with fail
  refine (HRoom.out _).mono ?_
  rintro e w2 ⟨rfl, k2⟩
  replace HB := Lib.hid (HB.out.none k2)
  clear k2 e0 e1 e2 e3
  obtain ⟨x0, x1, x2, x3, x4, x5, x6, x7, x8, x9⟩ := ten_cells (HB.out.at 0 rfl)
  obtain ⟨e0, e1, e2, e3⟩ := four_cells (HB.out.at 1 rfl)
  rcases hQ : roomB (o 1)
  · have HV := Lib.hid (show objF c o = 13 from by unfold objF; simp [HK.out, hQ])
    go_wp2
    go_ret
    exact ⟨ret_i64 HV.out.symm, HB.out.keeps⟩
  have HQ := Lib.hid (show ¬ (o 0 = 1 ∧ roomB (o 1) = false) from by rw [hQ]; simp)
  go_wp2_with fail
  clear x0 x1 x2 x3 x4 x5 x6 x7 x8 x9 e0 e1 e2 e3
  refine (HRight.out _).mono ?_
  rintro e w3 ⟨rfl, k3⟩
  replace HB := Lib.hid (HB.out.none k3)
  clear k3
  obtain ⟨x0, x1, x2, x3, x4, x5, x6, x7, x8, x9⟩ := ten_cells (HB.out.at 0 rfl)
  obtain ⟨e0, e1, e2, e3⟩ := four_cells (HB.out.at 1 rfl)
  rcases hR : rightS o
  · have HV := Lib.hid (show objF c o = 2 from by unfold objF; simp [HK.out, hQ, hR])
    go_wp2
    go_ret
    exact ⟨ret_i64 HV.out.symm, HB.out.keeps⟩
  · go_wp2_with fail
    refine (HOwn.out _).mono ?_
    rintro e w4 ⟨rfl, k4⟩
    replace HB := Lib.hid (HB.out.none k4)
    clear k4
    rcases hO : ownF c o
    · have HV := Lib.hid (show objF c o = 10 from by unfold objF; simp [HK.out, hQ, hR, hO])
      go_wp2
      go_ret
      exact ⟨ret_i64 HV.out.symm, HB.out.keeps⟩
    · have HV := Lib.hid (show objF c o = 0 from by unfold objF; simp [HK.out, hQ, hR, hO])
      go_wp2
      go_ret
      exact ⟨ret_i64 HV.out.symm, HB.out.keeps⟩
theorem objs1_2 (c : CfD) (PB : Nat) (i : Nat) (w : World) (hc : CfIn w c) (ho : c.Ok) (hb : w.heap[PB]? = some (.cells c.cells 112 (0, 0))) (hi : i < c.nO) (hk : c.ob i 0 = 2) :
    Calls Tryz.prog 102 #[.int .i64 (i : Int), .pointer (some ⟨PB, 0, none⟩)] w fun e w' => e = .returned (.int .i64 (objF c (c.ob i))) ∧ Keeps (fun _ => False) w w' := by
  obtain ⟨b, off, hta, hbl, hrow⟩ := hc.o (by omega)
  have hr := fun j hj => hrow i hi j hj
  have c0 : w.cell? ⟨b, off + i * 10, none⟩ = some (.int .i64 (c.ob i 0)) := hr 0 (by omega)
  have c1 : w.cell? ⟨b, off + i * 10 + 1, none⟩ = some (.int .i64 (c.ob i 1)) := hr 1 (by omega)
  have c2 : w.cell? ⟨b, off + i * 10 + 2, none⟩ = some (.int .i64 (c.ob i 2)) := hr 2 (by omega)
  have c3 : w.cell? ⟨b, off + i * 10 + 3, none⟩ = some (.int .i64 (c.ob i 3)) := hr 3 (by omega)
  have c4 : w.cell? ⟨b, off + i * 10 + 4, none⟩ = some (.int .i64 (c.ob i 4)) := hr 4 (by omega)
  have c5 : w.cell? ⟨b, off + i * 10 + 5, none⟩ = some (.int .i64 (c.ob i 5)) := hr 5 (by omega)
  have c6 : w.cell? ⟨b, off + i * 10 + 6, none⟩ = some (.int .u32 (c.oi i 0)) := hr 6 (by omega)
  have c7 : w.cell? ⟨b, off + i * 10 + 7, none⟩ = some (.int .u32 (c.oi i 1)) := hr 7 (by omega)
  have c8 : w.cell? ⟨b, off + i * 10 + 8, none⟩ = some (.int .u32 (c.oi i 2)) := hr 8 (by omega)
  have c9 : w.cell? ⟨b, off + i * 10 + 9, none⟩ = some (.int .u32 (c.oi i 3)) := hr 9 (by omega)
  have hlim := ho.o
  unfold maxLen at hlim
  have hbd := ho.ob i hi 1 (by omega)
  have HRoom := Lib.hid (fun w => room_any (c.ob i 1) w hbd.1 hbd.2)
  have HRight := Lib.hid (fun w => right_any (c.ob i) (c.oi i) w hbd)
  have HOwn := Lib.hid (fun w => own_any c (c.ob i) (c.oi i) w ho)
  obtain ⟨e0, e1, e2, e3⟩ := four_cells hb
  rw [hta] at e2
  have lx := lt_of hb
  have HB := Lib.hid (((Has.start w).old hb).alloc (.cells (objC (c.ob i) (c.oi i)) 74))
  clear hrow hr ho hc hb hbd hta
  generalize c.ob i = o at *
  generalize c.oi i = oi at *
  have d0 : decide (o 0 < 1) = false := decide_eq_false (by omega)
  have d1 : decide (4 < o 0) = false := decide_eq_false (by omega)
  have d2 : (o 0 == 1) = false := beq_eq_false_iff_ne.mpr (by omega)
  have HQ := Lib.hid (show ¬ (o 0 = 1 ∧ roomB (o 1) = false) from by omega)
  have HK := Lib.hid hk
  clear hk
  go_enter Tryz.func102, Tryz.ntmps102
  go_wp2_with fail
  clear e0 e1 e2 e3
  refine (HRight.out _).mono ?_
  rintro e w3 ⟨rfl, k3⟩
  replace HB := Lib.hid (HB.out.none k3)
  clear k3
  obtain ⟨x0, x1, x2, x3, x4, x5, x6, x7, x8, x9⟩ := ten_cells (HB.out.at 0 rfl)
  obtain ⟨e0, e1, e2, e3⟩ := four_cells (HB.out.at 1 rfl)
  rcases hR : rightS o
  · have HV := Lib.hid (show objF c o = 2 from by unfold objF; simp [HK.out, hR])
    go_wp2
    go_ret
    exact ⟨ret_i64 HV.out.symm, HB.out.keeps⟩
  · go_wp2_with fail
    refine (HOwn.out _).mono ?_
    rintro e w4 ⟨rfl, k4⟩
    replace HB := Lib.hid (HB.out.none k4)
    clear k4
    rcases hO : ownF c o
    · have HV := Lib.hid (show objF c o = 10 from by unfold objF; simp [HK.out, hR, hO])
      go_wp2
      go_ret
      exact ⟨ret_i64 HV.out.symm, HB.out.keeps⟩
    · have HV := Lib.hid (show objF c o = 0 from by unfold objF; simp [HK.out, hR, hO])
      go_wp2
      go_ret
      exact ⟨ret_i64 HV.out.symm, HB.out.keeps⟩
theorem objs1_3 (c : CfD) (PB : Nat) (i : Nat) (w : World) (hc : CfIn w c) (ho : c.Ok) (hb : w.heap[PB]? = some (.cells c.cells 112 (0, 0))) (hi : i < c.nO) (hk : c.ob i 0 = 3) :
    Calls Tryz.prog 102 #[.int .i64 (i : Int), .pointer (some ⟨PB, 0, none⟩)] w fun e w' => e = .returned (.int .i64 (objF c (c.ob i))) ∧ Keeps (fun _ => False) w w' := by
  obtain ⟨b, off, hta, hbl, hrow⟩ := hc.o (by omega)
  have hr := fun j hj => hrow i hi j hj
  have c0 : w.cell? ⟨b, off + i * 10, none⟩ = some (.int .i64 (c.ob i 0)) := hr 0 (by omega)
  have c1 : w.cell? ⟨b, off + i * 10 + 1, none⟩ = some (.int .i64 (c.ob i 1)) := hr 1 (by omega)
  have c2 : w.cell? ⟨b, off + i * 10 + 2, none⟩ = some (.int .i64 (c.ob i 2)) := hr 2 (by omega)
  have c3 : w.cell? ⟨b, off + i * 10 + 3, none⟩ = some (.int .i64 (c.ob i 3)) := hr 3 (by omega)
  have c4 : w.cell? ⟨b, off + i * 10 + 4, none⟩ = some (.int .i64 (c.ob i 4)) := hr 4 (by omega)
  have c5 : w.cell? ⟨b, off + i * 10 + 5, none⟩ = some (.int .i64 (c.ob i 5)) := hr 5 (by omega)
  have c6 : w.cell? ⟨b, off + i * 10 + 6, none⟩ = some (.int .u32 (c.oi i 0)) := hr 6 (by omega)
  have c7 : w.cell? ⟨b, off + i * 10 + 7, none⟩ = some (.int .u32 (c.oi i 1)) := hr 7 (by omega)
  have c8 : w.cell? ⟨b, off + i * 10 + 8, none⟩ = some (.int .u32 (c.oi i 2)) := hr 8 (by omega)
  have c9 : w.cell? ⟨b, off + i * 10 + 9, none⟩ = some (.int .u32 (c.oi i 3)) := hr 9 (by omega)
  have hlim := ho.o
  unfold maxLen at hlim
  have hbd := ho.ob i hi 1 (by omega)
  have HRoom := Lib.hid (fun w => room_any (c.ob i 1) w hbd.1 hbd.2)
  have HRight := Lib.hid (fun w => right_any (c.ob i) (c.oi i) w hbd)
  have HOwn := Lib.hid (fun w => own_any c (c.ob i) (c.oi i) w ho)
  obtain ⟨e0, e1, e2, e3⟩ := four_cells hb
  rw [hta] at e2
  have lx := lt_of hb
  have HB := Lib.hid (((Has.start w).old hb).alloc (.cells (objC (c.ob i) (c.oi i)) 74))
  clear hrow hr ho hc hb hbd hta
  generalize c.ob i = o at *
  generalize c.oi i = oi at *
  have d0 : decide (o 0 < 1) = false := decide_eq_false (by omega)
  have d1 : decide (4 < o 0) = false := decide_eq_false (by omega)
  have d2 : (o 0 == 1) = false := beq_eq_false_iff_ne.mpr (by omega)
  have HQ := Lib.hid (show ¬ (o 0 = 1 ∧ roomB (o 1) = false) from by omega)
  have HK := Lib.hid hk
  clear hk
  go_enter Tryz.func102, Tryz.ntmps102
  go_wp2_with fail
  clear e0 e1 e2 e3
  refine (HRight.out _).mono ?_
  rintro e w3 ⟨rfl, k3⟩
  replace HB := Lib.hid (HB.out.none k3)
  clear k3
  obtain ⟨x0, x1, x2, x3, x4, x5, x6, x7, x8, x9⟩ := ten_cells (HB.out.at 0 rfl)
  obtain ⟨e0, e1, e2, e3⟩ := four_cells (HB.out.at 1 rfl)
  rcases hR : rightS o
  · have HV := Lib.hid (show objF c o = 2 from by unfold objF; simp [HK.out, hR])
    go_wp2
    go_ret
    exact ⟨ret_i64 HV.out.symm, HB.out.keeps⟩
  · go_wp2_with fail
    refine (HOwn.out _).mono ?_
    rintro e w4 ⟨rfl, k4⟩
    replace HB := Lib.hid (HB.out.none k4)
    clear k4
    rcases hO : ownF c o
    · have HV := Lib.hid (show objF c o = 10 from by unfold objF; simp [HK.out, hR, hO])
      go_wp2
      go_ret
      exact ⟨ret_i64 HV.out.symm, HB.out.keeps⟩
    · have HV := Lib.hid (show objF c o = 0 from by unfold objF; simp [HK.out, hR, hO])
      go_wp2
      go_ret
      exact ⟨ret_i64 HV.out.symm, HB.out.keeps⟩
theorem objs1_4 (c : CfD) (PB : Nat) (i : Nat) (w : World) (hc : CfIn w c) (ho : c.Ok) (hb : w.heap[PB]? = some (.cells c.cells 112 (0, 0))) (hi : i < c.nO) (hk : c.ob i 0 = 4) :
    Calls Tryz.prog 102 #[.int .i64 (i : Int), .pointer (some ⟨PB, 0, none⟩)] w fun e w' => e = .returned (.int .i64 (objF c (c.ob i))) ∧ Keeps (fun _ => False) w w' := by
  obtain ⟨b, off, hta, hbl, hrow⟩ := hc.o (by omega)
  have hr := fun j hj => hrow i hi j hj
  have c0 : w.cell? ⟨b, off + i * 10, none⟩ = some (.int .i64 (c.ob i 0)) := hr 0 (by omega)
  have c1 : w.cell? ⟨b, off + i * 10 + 1, none⟩ = some (.int .i64 (c.ob i 1)) := hr 1 (by omega)
  have c2 : w.cell? ⟨b, off + i * 10 + 2, none⟩ = some (.int .i64 (c.ob i 2)) := hr 2 (by omega)
  have c3 : w.cell? ⟨b, off + i * 10 + 3, none⟩ = some (.int .i64 (c.ob i 3)) := hr 3 (by omega)
  have c4 : w.cell? ⟨b, off + i * 10 + 4, none⟩ = some (.int .i64 (c.ob i 4)) := hr 4 (by omega)
  have c5 : w.cell? ⟨b, off + i * 10 + 5, none⟩ = some (.int .i64 (c.ob i 5)) := hr 5 (by omega)
  have c6 : w.cell? ⟨b, off + i * 10 + 6, none⟩ = some (.int .u32 (c.oi i 0)) := hr 6 (by omega)
  have c7 : w.cell? ⟨b, off + i * 10 + 7, none⟩ = some (.int .u32 (c.oi i 1)) := hr 7 (by omega)
  have c8 : w.cell? ⟨b, off + i * 10 + 8, none⟩ = some (.int .u32 (c.oi i 2)) := hr 8 (by omega)
  have c9 : w.cell? ⟨b, off + i * 10 + 9, none⟩ = some (.int .u32 (c.oi i 3)) := hr 9 (by omega)
  have hlim := ho.o
  unfold maxLen at hlim
  have hbd := ho.ob i hi 1 (by omega)
  have HRoom := Lib.hid (fun w => room_any (c.ob i 1) w hbd.1 hbd.2)
  have HRight := Lib.hid (fun w => right_any (c.ob i) (c.oi i) w hbd)
  have HOwn := Lib.hid (fun w => own_any c (c.ob i) (c.oi i) w ho)
  obtain ⟨e0, e1, e2, e3⟩ := four_cells hb
  rw [hta] at e2
  have lx := lt_of hb
  have HB := Lib.hid (((Has.start w).old hb).alloc (.cells (objC (c.ob i) (c.oi i)) 74))
  clear hrow hr ho hc hb hbd hta
  generalize c.ob i = o at *
  generalize c.oi i = oi at *
  have d0 : decide (o 0 < 1) = false := decide_eq_false (by omega)
  have d1 : decide (4 < o 0) = false := decide_eq_false (by omega)
  have d2 : (o 0 == 1) = false := beq_eq_false_iff_ne.mpr (by omega)
  have HQ := Lib.hid (show ¬ (o 0 = 1 ∧ roomB (o 1) = false) from by omega)
  have HK := Lib.hid hk
  clear hk
  go_enter Tryz.func102, Tryz.ntmps102
  go_wp2_with fail
  clear e0 e1 e2 e3
  refine (HRight.out _).mono ?_
  rintro e w3 ⟨rfl, k3⟩
  replace HB := Lib.hid (HB.out.none k3)
  clear k3
  obtain ⟨x0, x1, x2, x3, x4, x5, x6, x7, x8, x9⟩ := ten_cells (HB.out.at 0 rfl)
  obtain ⟨e0, e1, e2, e3⟩ := four_cells (HB.out.at 1 rfl)
  rcases hR : rightS o
  · have HV := Lib.hid (show objF c o = 2 from by unfold objF; simp [HK.out, hR])
    go_wp2
    go_ret
    exact ⟨ret_i64 HV.out.symm, HB.out.keeps⟩
  · go_wp2_with fail
    refine (HOwn.out _).mono ?_
    rintro e w4 ⟨rfl, k4⟩
    replace HB := Lib.hid (HB.out.none k4)
    clear k4
    rcases hO : ownF c o
    · have HV := Lib.hid (show objF c o = 10 from by unfold objF; simp [HK.out, hR, hO])
      go_wp2
      go_ret
      exact ⟨ret_i64 HV.out.symm, HB.out.keeps⟩
    · have HV := Lib.hid (show objF c o = 0 from by unfold objF; simp [HK.out, hR, hO])
      go_wp2
      go_ret
      exact ⟨ret_i64 HV.out.symm, HB.out.keeps⟩
theorem objs1_any (c : CfD) (PB : Nat) (i : Nat) (w : World) (hc : CfIn w c) (ho : c.Ok) (hb : w.heap[PB]? = some (.cells c.cells 112 (0, 0))) (hi : i < c.nO) :
    Calls Tryz.prog 102 #[.int .i64 (i : Int), .pointer (some ⟨PB, 0, none⟩)] w fun e w' => e = .returned (.int .i64 (objF c (c.ob i))) ∧ Keeps (fun _ => False) w w' := by
  rcases (by omega : c.ob i 0 < 1 ∨ c.ob i 0 = 1 ∨ c.ob i 0 = 2 ∨ c.ob i 0 = 3 ∨ c.ob i 0 = 4 ∨ 4 < c.ob i 0) with h | h | h | h | h | h
  · exact objs1_l c PB i w hc ho hb hi h
  · exact objs1_1 c PB i w hc ho hb hi h
  · exact objs1_2 c PB i w hc ho hb hi h
  · exact objs1_3 c PB i w hc ho hb hi h
  · exact objs1_4 c PB i w hc ho hb hi h
  · exact objs1_h c PB i w hc ho hb hi h
end Go.Proofs.YthnmlklgbggmbaaGreat
