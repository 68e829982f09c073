import Derived.Test.YthnmlklgbggmbaaGreatConfDFz
import Derived.Test.YthnmlklgbggmbaaGreatConfAz
import Derived.LoopN
import Derived.Test.YthnmlklgbggmbaaGreatBaseZ
namespace Go.Proofs.YthnmlklgbggmbaaGreat
open Go.ChangeShapes Go.WideShapes Go.ChangeAt Go.RowKit
set_option linter.unusedVariables false
set_option linter.unusedSimpArgs false
def objF (c : CfD) (o : Nat → Int) : Int := if o 0 < 1 ∨ 4 < o 0 then 12 else if o 0 = 1 ∧ roomB (o 1) = false then 13 else if rightS o = false then 2 else if ownF c o = false then 10 else 0
theorem objs1_l (c : CfD) (PB : Nat) (i : Nat) (w : World) (hc : CfIn w c) (ho : c.Ok) (hb : w.heap[PB]? = some (.cells c.cells 112 (0, 0))) (hi : i < c.nO) (hk : c.ob i 0 < 1) :
    Calls Tryz.prog 102 #[.int .i64 (i : Int), .pointer (some ⟨PB, 0, none⟩)] w fun e w' => e = .returned (.int .i64 (objF c (c.ob i))) ∧ Keeps (fun _ => False) w w' := by
  obtain ⟨b, off, hta, hbl, hrow⟩ := hc.o (by omega)
  have hr := fun j hj => hrow i hi j hj
  have c0 : w.cell? ⟨b, off + i * 10, none⟩ = some (.int .i64 (c.ob i 0)) := hr 0 (by omega)
  have c1 : w.cell? ⟨b, off + i * 10 + 1, none⟩ = some (.int .i64 (c.ob i 1)) := hr 1 (by omega)
  have c2 : w.cell? ⟨b, off + i * 10 + 2, none⟩ = some (.int .i64 (c.ob i 2)) := hr 2 (by omega)
  have c3 : w.cell? ⟨b, off + i * 10 + 3, none⟩ = some (.int .i64 (c.ob i 3)) := hr 3 (by omega)
  have c4 : w.cell? ⟨b, off + i * 10 + 4, none⟩ = some (.int .i64 (c.ob i 4)) := hr 4 (by omega)
  have c5 : w.cell? ⟨b, off + i * 10 + 5, none⟩ = some (.int .i64 (c.ob i 5)) := hr 5 (by omega)
  have c6 : w.cell? ⟨b, off + i * 10 + 6, none⟩ = some (.int .u32 (c.oi i 0)) := hr 6 (by omega)
  have c7 : w.cell? ⟨b, off + i * 10 + 7, none⟩ = some (.int .u32 (c.oi i 1)) := hr 7 (by omega)
  have c8 : w.cell? ⟨b, off + i * 10 + 8, none⟩ = some (.int .u32 (c.oi i 2)) := hr 8 (by omega)
  have c9 : w.cell? ⟨b, off + i * 10 + 9, none⟩ = some (.int .u32 (c.oi i 3)) := hr 9 (by omega)
  have hlim := ho.o
  unfold maxLen at hlim
  have hbd := ho.ob i hi 1 (by omega)
  have HRoom := Lib.hid (fun w => room_any (c.ob i 1) w hbd.1 hbd.2)
  have HRight := Lib.hid (fun w => right_any (c.ob i) (c.oi i) w hbd)
  have HOwn := Lib.hid (fun w => own_any c (c.ob i) (c.oi i) w ho)
  obtain ⟨e0, e1, e2, e3⟩ := four_cells hb
  rw [hta] at e2
  have lx := lt_of hb
  have HB := Lib.hid (((Has.start w).old hb).alloc (.cells (objC (c.ob i) (c.oi i)) 74))
  clear hrow hr ho hc hb hbd hta
  generalize c.ob i = o at *
  generalize c.oi i = oi at *
  have HV := Lib.hid (show objF c o = 12 from by unfold objF; rw [if_pos (by omega)])
  have d0 : decide (o 0 < 1) = true := decide_eq_true hk
  clear hk
  go_enter Tryz.func102, Tryz.ntmps102
  go_wp2
  go_ret
  exact ⟨ret_i64 HV.out.symm, HB.out.keeps⟩
theorem objs1_h (c : CfD) (PB : Nat) (i : Nat) (w : World) (hc : CfIn w c) (ho : c.Ok) (hb : w.heap[PB]? = some (.cells c.cells 112 (0, 0))) (hi : i < c.nO) (hk : 4 < c.ob i 0) :
    Calls Tryz.prog 102 #[.int .i64 (i : Int), .pointer (some ⟨PB, 0, none⟩)] w fun e w' => e = .returned (.int .i64 (objF c (c.ob i))) ∧ Keeps (fun _ => False) w w' := by
  obtain ⟨b, off, hta, hbl, hrow⟩ := hc.o (by omega)
  have hr := fun j hj => hrow i hi j hj
  have c0 : w.cell? ⟨b, off + i * 10, none⟩ = some (.int .i64 (c.ob i 0)) := hr 0 (by omega)
  have c1 : w.cell? ⟨b, off + i * 10 + 1, none⟩ = some (.int .i64 (c.ob i 1)) := hr 1 (by omega)
  have c2 : w.cell? ⟨b, off + i * 10 + 2, none⟩ = some (.int .i64 (c.ob i 2)) := hr 2 (by omega)
  have c3 : w.cell? ⟨b, off + i * 10 + 3, none⟩ = some (.int .i64 (c.ob i 3)) := hr 3 (by omega)
  have c4 : w.cell? ⟨b, off + i * 10 + 4, none⟩ = some (.int .i64 (c.ob i 4)) := hr 4 (by omega)
  have c5 : w.cell? ⟨b, off + i * 10 + 5, none⟩ = some (.int .i64 (c.ob i 5)) := hr 5 (by omega)
  have c6 : w.cell? ⟨b, off + i * 10 + 6, none⟩ = some (.int .u32 (c.oi i 0)) := hr 6 (by omega)
  have c7 : w.cell? ⟨b, off + i * 10 + 7, none⟩ = some (.int .u32 (c.oi i 1)) := hr 7 (by omega)
  have c8 : w.cell? ⟨b, off + i * 10 + 8, none⟩ = some (.int .u32 (c.oi i 2)) := hr 8 (by omega)
  have c9 : w.cell? ⟨b, off + i * 10 + 9, none⟩ = some (.int .u32 (c.oi i 3)) := hr 9 (by omega)
  have hlim := ho.o
  unfold maxLen at hlim
  have hbd := ho.ob i hi 1 (by omega)
  have HRoom := Lib.hid (fun w => room_any (c.ob i 1) w hbd.1 hbd.2)
  have HRight := Lib.hid (fun w => right_any (c.ob i) (c.oi i) w hbd)
  have HOwn := Lib.hid (fun w => own_any c (c.ob i) (c.oi i) w ho)
  obtain ⟨e0, e1, e2, e3⟩ := four_cells hb
  rw [hta] at e2
  have lx := lt_of hb
  have HB := Lib.hid (((Has.start w).old hb).alloc (.cells (objC (c.ob i) (c.oi i)) 74))
  clear hrow hr ho hc hb hbd hta
  generalize c.ob i = o at *
  generalize c.oi i = oi at *
  have HV := Lib.hid (show objF c o = 12 from by unfold objF; rw [if_pos (by omega)])
  have d0 : decide (o 0 < 1) = false := decide_eq_false (by omega)
  have d1 : decide (4 < o 0) = true := decide_eq_true hk
  clear hk
  go_enter Tryz.func102, Tryz.ntmps102
  go_wp2
  go_ret
  exact ⟨ret_i64 HV.out.symm, HB.out.keeps⟩
theorem objs1_1 (c : CfD) (PB : Nat) (i : Nat) (w : World) (hc : CfIn w c) (ho : c.Ok) (hb : w.heap[PB]? = some (.cells c.cells 112 (0, 0))) (hi : i < c.nO) (hk : c.ob i 0 = 1) :
    Calls Tryz.prog 102 #[.int .i64 (i : Int), .pointer (some ⟨PB, 0, none⟩)] w fun e w' => e = .returned (.int .i64 (objF c (c.ob i))) ∧ Keeps (fun _ => False) w w' := by
  obtain ⟨b, off, hta, hbl, hrow⟩ := hc.o (by omega)
  have hr := fun j hj => hrow i hi j hj
  have c0 : w.cell? ⟨b, off + i * 10, none⟩ = some (.int .i64 (c.ob i 0)) := hr 0 (by omega)
  have c1 : w.cell? ⟨b, off + i * 10 + 1, none⟩ = some (.int .i64 (c.ob i 1)) := hr 1 (by omega)
  have c2 : w.cell? ⟨b, off + i * 10 + 2, none⟩ = some (.int .i64 (c.ob i 2)) := hr 2 (by omega)
  have c3 : w.cell? ⟨b, off + i * 10 + 3, none⟩ = some (.int .i64 (c.ob i 3)) := hr 3 (by omega)
  have c4 : w.cell? ⟨b, off + i * 10 + 4, none⟩ = some (.int .i64 (c.ob i 4)) := hr 4 (by omega)
  have c5 : w.cell? ⟨b, off + i * 10 + 5, none⟩ = some (.int .i64 (c.ob i 5)) := hr 5 (by omega)
  have c6 : w.cell? ⟨b, off + i * 10 + 6, none⟩ = some (.int .u32 (c.oi i 0)) := hr 6 (by omega)
  have c7 : w.cell? ⟨b, off + i * 10 + 7, none⟩ = some (.int .u32 (c.oi i 1)) := hr 7 (by omega)
  have c8 : w.cell? ⟨b, off + i * 10 + 8, none⟩ = some (.int .u32 (c.oi i 2)) := hr 8 (by omega)
  have c9 : w.cell? ⟨b, off + i * 10 + 9, none⟩ = some (.int .u32 (c.oi i 3)) := hr 9 (by omega)
  have hlim := ho.o
  unfold maxLen at hlim
  have hbd := ho.ob i hi 1 (by omega)
  have HRoom := Lib.hid (fun w => room_any (c.ob i 1) w hbd.1 hbd.2)
  have HRight := Lib.hid (fun w => right_any (c.ob i) (c.oi i) w hbd)
  have HOwn := Lib.hid (fun w => own_any c (c.ob i) (c.oi i) w ho)
  obtain ⟨e0, e1, e2, e3⟩ := four_cells hb
  rw [hta] at e2
  have lx := lt_of hb
  have HB := Lib.hid (((Has.start w).old hb).alloc (.cells (objC (c.ob i) (c.oi i)) 74))
  clear hrow hr ho hc hb hbd hta
  generalize c.ob i = o at *
  generalize c.oi i = oi at *
  have d0 : decide (o 0 < 1) = false := decide_eq_false (by omega)
  have d1 : decide (4 < o 0) = false := decide_eq_false (by omega)
  have d2 : (o 0 == 1) = true := beq_iff_eq.mpr hk
  have HK := Lib.hid hk
  clear hk
  go_enter Tryz.func102, Tryz.ntmps102
  go_wp2_with fail
  refine (HRoom.out _).mono ?_
  rintro e w2 ⟨rfl, k2⟩
  replace HB := Lib.hid (HB.out.none k2)
  clear k2 e0 e1 e2 e3
  obtain ⟨x0, x1, x2, x3, x4, x5, x6, x7, x8, x9⟩ := ten_cells (HB.out.at 0 rfl)
  obtain ⟨e0, e1, e2, e3⟩ := four_cells (HB.out.at 1 rfl)
  rcases hQ : roomB (o 1)
  · have HV := Lib.hid (show objF c o = 13 from by unfold objF; simp [HK.out, hQ])
    go_wp2
    go_ret
    exact ⟨ret_i64 HV.out.symm, HB.out.keeps⟩
  have HQ := Lib.hid (show ¬ (o 0 = 1 ∧ roomB (o 1) = false) from by rw [hQ]; simp)
  go_wp2_with fail
  clear x0 x1 x2 x3 x4 x5 x6 x7 x8 x9 e0 e1 e2 e3
  refine (HRight.out _).mono ?_
  rintro e w3 ⟨rfl, k3⟩
  replace HB := Lib.hid (HB.out.none k3)
  clear k3
  obtain ⟨x0, x1, x2, x3, x4, x5, x6, x7, x8, x9⟩ := ten_cells (HB.out.at 0 rfl)
  obtain ⟨e0, e1, e2, e3⟩ := four_cells (HB.out.at 1 rfl)
  rcases hR : rightS o
  · have HV := Lib.hid (show objF c o = 2 from by unfold objF; simp [HK.out, hQ, hR])
    go_wp2
    go_ret
    exact ⟨ret_i64 HV.out.symm, HB.out.keeps⟩
  · go_wp2_with fail
    refine (HOwn.out _).mono ?_
    rintro e w4 ⟨rfl, k4⟩
    replace HB := Lib.hid (HB.out.none k4)
    clear k4
    rcases hO : ownF c o
    · have HV := Lib.hid (show objF c o = 10 from by unfold objF; simp [HK.out, hQ, hR, hO])
      go_wp2
      go_ret
      exact ⟨ret_i64 HV.out.symm, HB.out.keeps⟩
    · have HV := Lib.hid (show objF c o = 0 from by unfold objF; simp [HK.out, hQ, hR, hO])
      go_wp2
      go_ret
      exact ⟨ret_i64 HV.out.symm, HB.out.keeps⟩
theorem objs1_2 (c : CfD) (PB : Nat) (i : Nat) (w : World) (hc : CfIn w c) (ho : c.Ok) (hb : w.heap[PB]? = some (.cells c.cells 112 (0, 0))) (hi : i < c.nO) (hk : c.ob i 0 = 2) :
    Calls Tryz.prog 102 #[.int .i64 (i : Int), .pointer (some ⟨PB, 0, none⟩)] w fun e w' => e = .returned (.int .i64 (objF c (c.ob i))) ∧ Keeps (fun _ => False) w w' := by
  obtain ⟨b, off, hta, hbl, hrow⟩ := hc.o (by omega)
  have hr := fun j hj => hrow i hi j hj
  have c0 : w.cell? ⟨b, off + i * 10, none⟩ = some (.int .i64 (c.ob i 0)) := hr 0 (by omega)
  have c1 : w.cell? ⟨b, off + i * 10 + 1, none⟩ = some (.int .i64 (c.ob i 1)) := hr 1 (by omega)
  have c2 : w.cell? ⟨b, off + i * 10 + 2, none⟩ = some (.int .i64 (c.ob i 2)) := hr 2 (by omega)
  have c3 : w.cell? ⟨b, off + i * 10 + 3, none⟩ = some (.int .i64 (c.ob i 3)) := hr 3 (by omega)
  have c4 : w.cell? ⟨b, off + i * 10 + 4, none⟩ = some (.int .i64 (c.ob i 4)) := hr 4 (by omega)
  have c5 : w.cell? ⟨b, off + i * 10 + 5, none⟩ = some (.int .i64 (c.ob i 5)) := hr 5 (by omega)
  have c6 : w.cell? ⟨b, off + i * 10 + 6, none⟩ = some (.int .u32 (c.oi i 0)) := hr 6 (by omega)
  have c7 : w.cell? ⟨b, off + i * 10 + 7, none⟩ = some (.int .u32 (c.oi i 1)) := hr 7 (by omega)
  have c8 : w.cell? ⟨b, off + i * 10 + 8, none⟩ = some (.int .u32 (c.oi i 2)) := hr 8 (by omega)
  have c9 : w.cell? ⟨b, off + i * 10 + 9, none⟩ = some (.int .u32 (c.oi i 3)) := hr 9 (by omega)
  have hlim := ho.o
  unfold maxLen at hlim
  have hbd := ho.ob i hi 1 (by omega)
  have HRoom := Lib.hid (fun w => room_any (c.ob i 1) w hbd.1 hbd.2)
  have HRight := Lib.hid (fun w => right_any (c.ob i) (c.oi i) w hbd)
  have HOwn := Lib.hid (fun w => own_any c (c.ob i) (c.oi i) w ho)
  obtain ⟨e0, e1, e2, e3⟩ := four_cells hb
  rw [hta] at e2
  have lx := lt_of hb
  have HB := Lib.hid (((Has.start w).old hb).alloc (.cells (objC (c.ob i) (c.oi i)) 74))
  clear hrow hr ho hc hb hbd hta
  generalize c.ob i = o at *
  generalize c.oi i = oi at *
  have d0 : decide (o 0 < 1) = false := decide_eq_false (by omega)
  have d1 : decide (4 < o 0) = false := decide_eq_false (by omega)
  have d2 : (o 0 == 1) = false := beq_eq_false_iff_ne.mpr (by omega)
  have HQ := Lib.hid (show ¬ (o 0 = 1 ∧ roomB (o 1) = false) from by omega)
  have HK := Lib.hid hk
  clear hk
  go_enter Tryz.func102, Tryz.ntmps102
  go_wp2_with fail
  clear e0 e1 e2 e3
  refine (HRight.out _).mono ?_
  rintro e w3 ⟨rfl, k3⟩
  replace HB := Lib.hid (HB.out.none k3)
  clear k3
  obtain ⟨x0, x1, x2, x3, x4, x5, x6, x7, x8, x9⟩ := ten_cells (HB.out.at 0 rfl)
  obtain ⟨e0, e1, e2, e3⟩ := four_cells (HB.out.at 1 rfl)
  rcases hR : rightS o
  · have HV := Lib.hid (show objF c o = 2 from by unfold objF; simp [HK.out, hR])
    go_wp2
    go_ret
    exact ⟨ret_i64 HV.out.symm, HB.out.keeps⟩
  · go_wp2_with fail
    refine (HOwn.out _).mono ?_
    rintro e w4 ⟨rfl, k4⟩
    replace HB := Lib.hid (HB.out.none k4)
    clear k4
    rcases hO : ownF c o
    · have HV := Lib.hid (show objF c o = 10 from by unfold objF; simp [HK.out, hR, hO])
      go_wp2
      go_ret
      exact ⟨ret_i64 HV.out.symm, HB.out.keeps⟩
    · have HV := Lib.hid (show objF c o = 0 from by unfold objF; simp [HK.out, hR, hO])
      go_wp2
      go_ret
      exact ⟨ret_i64 HV.out.symm, HB.out.keeps⟩
theorem objs1_3 (c : CfD) (PB : Nat) (i : Nat) (w : World) (hc : CfIn w c) (ho : c.Ok) (hb : w.heap[PB]? = some (.cells c.cells 112 (0, 0))) (hi : i < c.nO) (hk : c.ob i 0 = 3) :
    Calls Tryz.prog 102 #[.int .i64 (i : Int), .pointer (some ⟨PB, 0, none⟩)] w fun e w' => e = .returned (.int .i64 (objF c (c.ob i))) ∧ Keeps (fun _ => False) w w' := by
  obtain ⟨b, off, hta, hbl, hrow⟩ := hc.o (by omega)
  have hr := fun j hj => hrow i hi j hj
  have c0 : w.cell? ⟨b, off + i * 10, none⟩ = some (.int .i64 (c.ob i 0)) := hr 0 (by omega)
  have c1 : w.cell? ⟨b, off + i * 10 + 1, none⟩ = some (.int .i64 (c.ob i 1)) := hr 1 (by omega)
  have c2 : w.cell? ⟨b, off + i * 10 + 2, none⟩ = some (.int .i64 (c.ob i 2)) := hr 2 (by omega)
  have c3 : w.cell? ⟨b, off + i * 10 + 3, none⟩ = some (.int .i64 (c.ob i 3)) := hr 3 (by omega)
  have c4 : w.cell? ⟨b, off + i * 10 + 4, none⟩ = some (.int .i64 (c.ob i 4)) := hr 4 (by omega)
  have c5 : w.cell? ⟨b, off + i * 10 + 5, none⟩ = some (.int .i64 (c.ob i 5)) := hr 5 (by omega)
  have c6 : w.cell? ⟨b, off + i * 10 + 6, none⟩ = some (.int .u32 (c.oi i 0)) := hr 6 (by omega)
  have c7 : w.cell? ⟨b, off + i * 10 + 7, none⟩ = some (.int .u32 (c.oi i 1)) := hr 7 (by omega)
  have c8 : w.cell? ⟨b, off + i * 10 + 8, none⟩ = some (.int .u32 (c.oi i 2)) := hr 8 (by omega)
  have c9 : w.cell? ⟨b, off + i * 10 + 9, none⟩ = some (.int .u32 (c.oi i 3)) := hr 9 (by omega)
  have hlim := ho.o
  unfold maxLen at hlim
  have hbd := ho.ob i hi 1 (by omega)
  have HRoom := Lib.hid (fun w => room_any (c.ob i 1) w hbd.1 hbd.2)
  have HRight := Lib.hid (fun w => right_any (c.ob i) (c.oi i) w hbd)
  have HOwn := Lib.hid (fun w => own_any c (c.ob i) (c.oi i) w ho)
  obtain ⟨e0, e1, e2, e3⟩ := four_cells hb
  rw [hta] at e2
  have lx := lt_of hb
  have HB := Lib.hid (((Has.start w).old hb).alloc (.cells (objC (c.ob i) (c.oi i)) 74))
  clear hrow hr ho hc hb hbd hta
  generalize c.ob i = o at *
  generalize c.oi i = oi at *
  have d0 : decide (o 0 < 1) = false := decide_eq_false (by omega)
  have d1 : decide (4 < o 0) = false := decide_eq_false (by omega)
  have d2 : (o 0 == 1) = false := beq_eq_false_iff_ne.mpr (by omega)
  have HQ := Lib.hid (show ¬ (o 0 = 1 ∧ roomB (o 1) = false) from by omega)
  have HK := Lib.hid hk
  clear hk
  go_enter Tryz.func102, Tryz.ntmps102
  go_wp2_with fail
  clear e0 e1 e2 e3
  refine (HRight.out _).mono ?_
  rintro e w3 ⟨rfl, k3⟩
  replace HB := Lib.hid (HB.out.none k3)
  clear k3
  obtain ⟨x0, x1, x2, x3, x4, x5, x6, x7, x8, x9⟩ := ten_cells (HB.out.at 0 rfl)
  obtain ⟨e0, e1, e2, e3⟩ := four_cells (HB.out.at 1 rfl)
  rcases hR : rightS o
  · have HV := Lib.hid (show objF c o = 2 from by unfold objF; simp [HK.out, hR])
    go_wp2
    go_ret
    exact ⟨ret_i64 HV.out.symm, HB.out.keeps⟩
  · go_wp2_with fail
    refine (HOwn.out _).mono ?_
    rintro e w4 ⟨rfl, k4⟩
    replace HB := Lib.hid (HB.out.none k4)
    clear k4
    rcases hO : ownF c o
    · have HV := Lib.hid (show objF c o = 10 from by unfold objF; simp [HK.out, hR, hO])
      go_wp2
      go_ret
      exact ⟨ret_i64 HV.out.symm, HB.out.keeps⟩
    · have HV := Lib.hid (show objF c o = 0 from by unfold objF; simp [HK.out, hR, hO])
      go_wp2
      go_ret
      exact ⟨ret_i64 HV.out.symm, HB.out.keeps⟩
theorem objs1_4 (c : CfD) (PB : Nat) (i : Nat) (w : World) (hc : CfIn w c) (ho : c.Ok) (hb : w.heap[PB]? = some (.cells c.cells 112 (0, 0))) (hi : i < c.nO) (hk : c.ob i 0 = 4) :
    Calls Tryz.prog 102 #[.int .i64 (i : Int), .pointer (some ⟨PB, 0, none⟩)] w fun e w' => e = .returned (.int .i64 (objF c (c.ob i))) ∧ Keeps (fun _ => False) w w' := by
  obtain ⟨b, off, hta, hbl, hrow⟩ := hc.o (by omega)
  have hr := fun j hj => hrow i hi j hj
  have c0 : w.cell? ⟨b, off + i * 10, none⟩ = some (.int .i64 (c.ob i 0)) := hr 0 (by omega)
  have c1 : w.cell? ⟨b, off + i * 10 + 1, none⟩ = some (.int .i64 (c.ob i 1)) := hr 1 (by omega)
  have c2 : w.cell? ⟨b, off + i * 10 + 2, none⟩ = some (.int .i64 (c.ob i 2)) := hr 2 (by omega)
  have c3 : w.cell? ⟨b, off + i * 10 + 3, none⟩ = some (.int .i64 (c.ob i 3)) := hr 3 (by omega)
  have c4 : w.cell? ⟨b, off + i * 10 + 4, none⟩ = some (.int .i64 (c.ob i 4)) := hr 4 (by omega)
  have c5 : w.cell? ⟨b, off + i * 10 + 5, none⟩ = some (.int .i64 (c.ob i 5)) := hr 5 (by omega)
  have c6 : w.cell? ⟨b, off + i * 10 + 6, none⟩ = some (.int .u32 (c.oi i 0)) := hr 6 (by omega)
  have c7 : w.cell? ⟨b, off + i * 10 + 7, none⟩ = some (.int .u32 (c.oi i 1)) := hr 7 (by omega)
  have c8 : w.cell? ⟨b, off + i * 10 + 8, none⟩ = some (.int .u32 (c.oi i 2)) := hr 8 (by omega)
  have c9 : w.cell? ⟨b, off + i * 10 + 9, none⟩ = some (.int .u32 (c.oi i 3)) := hr 9 (by omega)
  have hlim := ho.o
  unfold maxLen at hlim
  have hbd := ho.ob i hi 1 (by omega)
  have HRoom := Lib.hid (fun w => room_any (c.ob i 1) w hbd.1 hbd.2)
  have HRight := Lib.hid (fun w => right_any (c.ob i) (c.oi i) w hbd)
  have HOwn := Lib.hid (fun w => own_any c (c.ob i) (c.oi i) w ho)
  obtain ⟨e0, e1, e2, e3⟩ := four_cells hb
  rw [hta] at e2
  have lx := lt_of hb
  have HB := Lib.hid (((Has.start w).old hb).alloc (.cells (objC (c.ob i) (c.oi i)) 74))
  clear hrow hr ho hc hb hbd hta
  generalize c.ob i = o at *
  generalize c.oi i = oi at *
  have d0 : decide (o 0 < 1) = false := decide_eq_false (by omega)
  have d1 : decide (4 < o 0) = false := decide_eq_false (by omega)
  have d2 : (o 0 == 1) = false := beq_eq_false_iff_ne.mpr (by omega)
  have HQ := Lib.hid (show ¬ (o 0 = 1 ∧ roomB (o 1) = false) from by omega)
  have HK := Lib.hid hk
  clear hk
  go_enter Tryz.func102, Tryz.ntmps102
  go_wp2_with fail
  clear e0 e1 e2 e3
  refine (HRight.out _).mono ?_
  rintro e w3 ⟨rfl, k3⟩
  replace HB := Lib.hid (HB.out.none k3)
  clear k3
  obtain ⟨x0, x1, x2, x3, x4, x5, x6, x7, x8, x9⟩ := ten_cells (HB.out.at 0 rfl)
  obtain ⟨e0, e1, e2, e3⟩ := four_cells (HB.out.at 1 rfl)
  rcases hR : rightS o
  · have HV := Lib.hid (show objF c o = 2 from by unfold objF; simp [HK.out, hR])
    go_wp2
    go_ret
    exact ⟨ret_i64 HV.out.symm, HB.out.keeps⟩
  · go_wp2_with fail
    refine (HOwn.out _).mono ?_
    rintro e w4 ⟨rfl, k4⟩
    replace HB := Lib.hid (HB.out.none k4)
    clear k4
    rcases hO : ownF c o
    · have HV := Lib.hid (show objF c o = 10 from by unfold objF; simp [HK.out, hR, hO])
      go_wp2
      go_ret
      exact ⟨ret_i64 HV.out.symm, HB.out.keeps⟩
    · have HV := Lib.hid (show objF c o = 0 from by unfold objF; simp [HK.out, hR, hO])
      go_wp2
      go_ret
      exact ⟨ret_i64 HV.out.symm, HB.out.keeps⟩
theorem objs1_any (c : CfD) (PB : Nat) (i : Nat) (w : World) (hc : CfIn w c) (ho : c.Ok) (hb : w.heap[PB]? = some (.cells c.cells 112 (0, 0))) (hi : i < c.nO) :
    Calls Tryz.prog 102 #[.int .i64 (i : Int), .pointer (some ⟨PB, 0, none⟩)] w fun e w' => e = .returned (.int .i64 (objF c (c.ob i))) ∧ Keeps (fun _ => False) w w' := by
  rcases (by omega : c.ob i 0 < 1 ∨ c.ob i 0 = 1 ∨ c.ob i 0 = 2 ∨ c.ob i 0 = 3 ∨ c.ob i 0 = 4 ∨ 4 < c.ob i 0) with h | h | h | h | h | h
  · exact objs1_l c PB i w hc ho hb hi h
  · exact objs1_1 c PB i w hc ho hb hi h
  · exact objs1_2 c PB i w hc ho hb hi h
  · exact objs1_3 c PB i w hc ho hb hi h
  · exact objs1_4 c PB i w hc ho hb hi h
  · exact objs1_h c PB i w hc ho hb hi h
end Go.Proofs.YthnmlklgbggmbaaGreat
namespace Go.Proofs.YthnmlklgbggmbaaGreat
open Go.ChangeShapes Go.WideShapes Go.ChangeAt Go.RowKit
set_option linter.unusedVariables false
set_option linter.unusedSimpArgs false
def cntB (c : CfD) : Nat → Bool
  | 0 => decide ((1 : Int) ≤ (c.nT : Int)) && decide ((c.nT : Int) ≤ 16)
  | 1 => decide ((c.nL : Int) ≤ 31)
  | 2 => decide ((c.nO : Int) ≤ 16)
  | _ => decide (0 ≤ c.tick) && decide (c.tick ≤ (c.nL : Int))
def cntF (c : CfD) (i : Nat) : Int := if cntB c i = true then 0 else 2
theorem tasks_any (c : CfD) (w : World) (hc : CfIn w c) (ho : c.Ok) :
    Calls Tryz.prog 56 #[.agg c.cells] w fun e w' => e = .returned (.agg (badC (eachV 2 (fun i => taskF (c.tp i) (c.tl i)) c.nT))) ∧ Keeps (fun _ => False) w w' := by
  have HB := Lib.hid (((Has.start w).alloc (.cells c.cells 112)).alloc (.cells #[.int .i64 0, .int .i64 0, .int .i64 0] 30) |>.eq (M := [(w.heap.size + 1, .cells #[.int .i64 0, .int .i64 0, .int .i64 0] 30 (0, 0)), (w.heap.size, .cells c.cells 112 (0, 0))]) (by simp))
  have HE := Lib.hid (fun w' (h : Has w w' [(w.heap.size + 1, .cells #[.int .i64 0, .int .i64 0, .int .i64 0] 30 (0, 0)), (w.heap.size, .cells c.cells 112 (0, 0))]) => each_tasks 2 (c.nT : Int) c.nT w.heap.size (fun i => taskF (c.tp i) (c.tl i)) w' rfl ho.t (fun i hi w2 k => tasks1_any c w.heap.size i w2 (hc.none (h.keeps.trans k)) ho (k.at (h.at 1 rfl) fun h => h) hi))
  generalize eachV 2 (fun i => taskF (c.tp i) (c.tl i)) c.nT = bv at *
  obtain ⟨b0, b1, b2⟩ := bv
  clear hc ho
  go_enter Tryz.func56, Tryz.ntmps56
  go_wp2_with fail
  refine (HE.out _ HB.out).mono ?_
  rintro e w2 ⟨rfl, k2⟩
  replace HB := Lib.hid (HB.out.none k2)
  clear k2
  obtain ⟨⟨r0, r1, r2⟩, g0, g1, g2, lr⟩ := three_cells (HB.out.at 0 rfl)
  have hle : w.heap.size ≤ w.heap.size + 1 := Nat.le_succ _
  go_wp2
  refine bodyPost_ret (v := .agg #[.int .i64 b0, .int .i64 b1, .int .i64 b2]) (by simp [results, Tryz.results56, go_sem, *]) rfl ⟨rfl, ?_⟩
  exact ((HB.out.keeps.setCell (p := ⟨w.heap.size + 1, 0, none⟩) (.inr hle) _).setCell (p := ⟨w.heap.size + 1, 1, none⟩) (.inr hle) _).setCell (p := ⟨w.heap.size + 1, 2, none⟩) (.inr hle) _
theorem levels_any (c : CfD) (w : World) (hc : CfIn w c) (ho : c.Ok) :
    Calls Tryz.prog 57 #[.agg c.cells] w fun e w' => e = .returned (.agg (badC (eachV 3 (fun i => levelF (c.lr i) (c.ll i)) c.nL))) ∧ Keeps (fun _ => False) w w' := by
  have HB := Lib.hid (((Has.start w).alloc (.cells c.cells 112)).alloc (.cells #[.int .i64 0, .int .i64 0, .int .i64 0] 30) |>.eq (M := [(w.heap.size + 1, .cells #[.int .i64 0, .int .i64 0, .int .i64 0] 30 (0, 0)), (w.heap.size, .cells c.cells 112 (0, 0))]) (by simp))
  have HE := Lib.hid (fun w' (h : Has w w' [(w.heap.size + 1, .cells #[.int .i64 0, .int .i64 0, .int .i64 0] 30 (0, 0)), (w.heap.size, .cells c.cells 112 (0, 0))]) => each_levels 3 (c.nL : Int) c.nL w.heap.size (fun i => levelF (c.lr i) (c.ll i)) w' rfl ho.l (fun i hi w2 k => levels1_any c w.heap.size i w2 (hc.none (h.keeps.trans k)) ho (k.at (h.at 1 rfl) fun h => h) hi))
  generalize eachV 3 (fun i => levelF (c.lr i) (c.ll i)) c.nL = bv at *
  obtain ⟨b0, b1, b2⟩ := bv
  clear hc ho
  go_enter Tryz.func57, Tryz.ntmps57
  go_wp2_with fail
  refine (HE.out _ HB.out).mono ?_
  rintro e w2 ⟨rfl, k2⟩
  replace HB := Lib.hid (HB.out.none k2)
  clear k2
  obtain ⟨⟨r0, r1, r2⟩, g0, g1, g2, lr⟩ := three_cells (HB.out.at 0 rfl)
  have hle : w.heap.size ≤ w.heap.size + 1 := Nat.le_succ _
  go_wp2
  refine bodyPost_ret (v := .agg #[.int .i64 b0, .int .i64 b1, .int .i64 b2]) (by simp [results, Tryz.results57, go_sem, *]) rfl ⟨rfl, ?_⟩
  exact ((HB.out.keeps.setCell (p := ⟨w.heap.size + 1, 0, none⟩) (.inr hle) _).setCell (p := ⟨w.heap.size + 1, 1, none⟩) (.inr hle) _).setCell (p := ⟨w.heap.size + 1, 2, none⟩) (.inr hle) _
theorem objects_any (c : CfD) (w : World) (hc : CfIn w c) (ho : c.Ok) :
    Calls Tryz.prog 58 #[.agg c.cells] w fun e w' => e = .returned (.agg (badC (eachV 4 (fun i => objF c (c.ob i)) c.nO))) ∧ Keeps (fun _ => False) w w' := by
  have HB := Lib.hid (((Has.start w).alloc (.cells c.cells 112)).alloc (.cells #[.int .i64 0, .int .i64 0, .int .i64 0] 30) |>.eq (M := [(w.heap.size + 1, .cells #[.int .i64 0, .int .i64 0, .int .i64 0] 30 (0, 0)), (w.heap.size, .cells c.cells 112 (0, 0))]) (by simp))
  have HE := Lib.hid (fun w' (h : Has w w' [(w.heap.size + 1, .cells #[.int .i64 0, .int .i64 0, .int .i64 0] 30 (0, 0)), (w.heap.size, .cells c.cells 112 (0, 0))]) => each_objects 4 (c.nO : Int) c.nO w.heap.size (fun i => objF c (c.ob i)) w' rfl ho.o (fun i hi w2 k => objs1_any c w.heap.size i w2 (hc.none (h.keeps.trans k)) ho (k.at (h.at 1 rfl) fun h => h) hi))
  generalize eachV 4 (fun i => objF c (c.ob i)) c.nO = bv at *
  obtain ⟨b0, b1, b2⟩ := bv
  clear hc ho
  go_enter Tryz.func58, Tryz.ntmps58
  go_wp2_with fail
  refine (HE.out _ HB.out).mono ?_
  rintro e w2 ⟨rfl, k2⟩
  replace HB := Lib.hid (HB.out.none k2)
  clear k2
  obtain ⟨⟨r0, r1, r2⟩, g0, g1, g2, lr⟩ := three_cells (HB.out.at 0 rfl)
  have hle : w.heap.size ≤ w.heap.size + 1 := Nat.le_succ _
  go_wp2
  refine bodyPost_ret (v := .agg #[.int .i64 b0, .int .i64 b1, .int .i64 b2]) (by simp [results, Tryz.results58, go_sem, *]) rfl ⟨rfl, ?_⟩
  exact ((HB.out.keeps.setCell (p := ⟨w.heap.size + 1, 0, none⟩) (.inr hle) _).setCell (p := ⟨w.heap.size + 1, 1, none⟩) (.inr hle) _).setCell (p := ⟨w.heap.size + 1, 2, none⟩) (.inr hle) _
theorem counts_tt (c : CfD) (w : World) (ho : c.Ok) (h1 : (1 : Int) ≤ (c.nT : Int)) (h2 : 0 ≤ c.tick) :
    Calls Tryz.prog 55 #[.agg c.cells] w fun e w' => e = .returned (.agg (badC (eachV 1 (cntF c) 4))) ∧ Keeps (fun _ => False) w w' := by
  have HB := Lib.hid (((Has.start w).alloc (.cells c.cells 112)).alloc (.cells #[.int .i64 0, .int .i64 0, .int .i64 0] 30) |>.eq (M := [(w.heap.size + 1, .cells #[.int .i64 0, .int .i64 0, .int .i64 0] 30 (0, 0)), (w.heap.size, .cells c.cells 112 (0, 0))]) (by simp))
  have d1 : decide ((1 : Int) ≤ (c.nT : Int)) = true := decide_eq_true h1
  have d2 : decide (0 ≤ c.tick) = true := decide_eq_true h2
  have hB0 : cntB c 0 = decide ((c.nT : Int) ≤ 16) := by show (decide ((1 : Int) ≤ (c.nT : Int)) && decide ((c.nT : Int) ≤ 16)) = _; rw [d1]; simp
  have hB3 : cntB c 3 = decide (c.tick ≤ (c.nL : Int)) := by show (decide (0 ≤ c.tick) && decide (c.tick ≤ (c.nL : Int))) = _; rw [d2]; simp
  have HBB := Lib.hid (And.intro hB0 hB3)
  have HE := Lib.hid (fun w' Q (h : w'.heap[Q]? = some (.cells #[.bool (cntB c 0), .bool (cntB c 1), .bool (cntB c 2), .bool (cntB c 3)] 191 (0, 0))) => each_counts 1 4 4 Q (cntF c) w' rfl (by unfold maxLen; omega) (fun i hi w2 k => counts1_any (cntB c) Q i w2 (k.at h fun h => h) hi))
  have hle : w.heap.size ≤ w.heap.size + 1 := Nat.le_succ _
  generalize eachV 1 (cntF c) 4 = bv at *
  obtain ⟨b0, b1, b2⟩ := bv
  clear ho h1 h2 hB0 hB3
  obtain ⟨e0, e1, e2, e3⟩ := four_cells (HB.out.at 1 rfl)
  go_enter Tryz.func55, Tryz.ntmps55
  go_wp2_with fail
  go_quiet (fail)
  replace HB := Lib.hid (HB.out.none ((Keeps.refl _ _).drewN nq))
  clear e0 e1 e2 e3
  obtain ⟨e0, e1, e2, e3⟩ := four_cells (HB.out.at 1 rfl)
  go_wp2_with fail
  replace HB := Lib.hid (HB.out.alloc (.cells #[.bool (cntB c 0), .bool (cntB c 1), .bool (cntB c 2), .bool (cntB c 3)] 191))
  refine (HE.out _ _ ?_).mono ?_
  · have hn := HB.out.at 0 rfl
    simp only [HBB.out.1, HBB.out.2] at hn ⊢
    simpa [cntB] using hn
  rintro e w2 ⟨rfl, k2⟩
  have HB2 := Lib.hid (show Has w w2 [(w.heap.size + 1, .cells #[.int .i64 0, .int .i64 0, .int .i64 0] 30 (0, 0)), (w.heap.size, .cells c.cells 112 (0, 0))] from by
    have hn := (HB.out.tl)
    simp only [HBB.out.1, HBB.out.2] at hn
    exact Has.none hn (by simpa [cntB] using k2))
  clear k2 HB
  obtain ⟨⟨r0, r1, r2⟩, g0, g1, g2, lr⟩ := three_cells (HB2.out.at 0 rfl)
  go_wp2
  refine bodyPost_ret (v := .agg #[.int .i64 b0, .int .i64 b1, .int .i64 b2]) (by simp [results, Tryz.results55, go_sem, *]) rfl ⟨rfl, ?_⟩
  exact ((HB2.out.keeps.setCell (p := ⟨w.heap.size + 1, 0, none⟩) (.inr hle) _).setCell (p := ⟨w.heap.size + 1, 1, none⟩) (.inr hle) _).setCell (p := ⟨w.heap.size + 1, 2, none⟩) (.inr hle) _
theorem counts_tf (c : CfD) (w : World) (ho : c.Ok) (h1 : (1 : Int) ≤ (c.nT : Int)) (h2 : ¬ 0 ≤ c.tick) :
    Calls Tryz.prog 55 #[.agg c.cells] w fun e w' => e = .returned (.agg (badC (eachV 1 (cntF c) 4))) ∧ Keeps (fun _ => False) w w' := by
  have HB := Lib.hid (((Has.start w).alloc (.cells c.cells 112)).alloc (.cells #[.int .i64 0, .int .i64 0, .int .i64 0] 30) |>.eq (M := [(w.heap.size + 1, .cells #[.int .i64 0, .int .i64 0, .int .i64 0] 30 (0, 0)), (w.heap.size, .cells c.cells 112 (0, 0))]) (by simp))
  have d1 : decide ((1 : Int) ≤ (c.nT : Int)) = true := decide_eq_true h1
  have d2 : decide (0 ≤ c.tick) = false := decide_eq_false h2
  have hB0 : cntB c 0 = decide ((c.nT : Int) ≤ 16) := by show (decide ((1 : Int) ≤ (c.nT : Int)) && decide ((c.nT : Int) ≤ 16)) = _; rw [d1]; simp
  have hB3 : cntB c 3 = false := by show (decide (0 ≤ c.tick) && decide (c.tick ≤ (c.nL : Int))) = _; rw [d2]; simp
  have HBB := Lib.hid (And.intro hB0 hB3)
  have HE := Lib.hid (fun w' Q (h : w'.heap[Q]? = some (.cells #[.bool (cntB c 0), .bool (cntB c 1), .bool (cntB c 2), .bool (cntB c 3)] 191 (0, 0))) => each_counts 1 4 4 Q (cntF c) w' rfl (by unfold maxLen; omega) (fun i hi w2 k => counts1_any (cntB c) Q i w2 (k.at h fun h => h) hi))
  have hle : w.heap.size ≤ w.heap.size + 1 := Nat.le_succ _
  generalize eachV 1 (cntF c) 4 = bv at *
  obtain ⟨b0, b1, b2⟩ := bv
  clear ho h1 h2 hB0 hB3
  obtain ⟨e0, e1, e2, e3⟩ := four_cells (HB.out.at 1 rfl)
  go_enter Tryz.func55, Tryz.ntmps55
  go_wp2_with fail
  go_quiet (fail)
  replace HB := Lib.hid (HB.out.none ((Keeps.refl _ _).drewN nq))
  clear e0 e1 e2 e3
  obtain ⟨e0, e1, e2, e3⟩ := four_cells (HB.out.at 1 rfl)
  go_wp2_with fail
  replace HB := Lib.hid (HB.out.alloc (.cells #[.bool (cntB c 0), .bool (cntB c 1), .bool (cntB c 2), .bool (cntB c 3)] 191))
  refine (HE.out _ _ ?_).mono ?_
  · have hn := HB.out.at 0 rfl
    simp only [HBB.out.1, HBB.out.2] at hn ⊢
    simpa [cntB] using hn
  rintro e w2 ⟨rfl, k2⟩
  have HB2 := Lib.hid (show Has w w2 [(w.heap.size + 1, .cells #[.int .i64 0, .int .i64 0, .int .i64 0] 30 (0, 0)), (w.heap.size, .cells c.cells 112 (0, 0))] from by
    have hn := (HB.out.tl)
    simp only [HBB.out.1, HBB.out.2] at hn
    exact Has.none hn (by simpa [cntB] using k2))
  clear k2 HB
  obtain ⟨⟨r0, r1, r2⟩, g0, g1, g2, lr⟩ := three_cells (HB2.out.at 0 rfl)
  go_wp2
  refine bodyPost_ret (v := .agg #[.int .i64 b0, .int .i64 b1, .int .i64 b2]) (by simp [results, Tryz.results55, go_sem, *]) rfl ⟨rfl, ?_⟩
  exact ((HB2.out.keeps.setCell (p := ⟨w.heap.size + 1, 0, none⟩) (.inr hle) _).setCell (p := ⟨w.heap.size + 1, 1, none⟩) (.inr hle) _).setCell (p := ⟨w.heap.size + 1, 2, none⟩) (.inr hle) _
theorem counts_ft (c : CfD) (w : World) (ho : c.Ok) (h1 : ¬ (1 : Int) ≤ (c.nT : Int)) (h2 : 0 ≤ c.tick) :
    Calls Tryz.prog 55 #[.agg c.cells] w fun e w' => e = .returned (.agg (badC (eachV 1 (cntF c) 4))) ∧ Keeps (fun _ => False) w w' := by
  have HB := Lib.hid (((Has.start w).alloc (.cells c.cells 112)).alloc (.cells #[.int .i64 0, .int .i64 0, .int .i64 0] 30) |>.eq (M := [(w.heap.size + 1, .cells #[.int .i64 0, .int .i64 0, .int .i64 0] 30 (0, 0)), (w.heap.size, .cells c.cells 112 (0, 0))]) (by simp))
  have d1 : decide ((1 : Int) ≤ (c.nT : Int)) = false := decide_eq_false h1
  have d2 : decide (0 ≤ c.tick) = true := decide_eq_true h2
  have hB0 : cntB c 0 = false := by show (decide ((1 : Int) ≤ (c.nT : Int)) && decide ((c.nT : Int) ≤ 16)) = _; rw [d1]; simp
  have hB3 : cntB c 3 = decide (c.tick ≤ (c.nL : Int)) := by show (decide (0 ≤ c.tick) && decide (c.tick ≤ (c.nL : Int))) = _; rw [d2]; simp
  have HBB := Lib.hid (And.intro hB0 hB3)
  have HE := Lib.hid (fun w' Q (h : w'.heap[Q]? = some (.cells #[.bool (cntB c 0), .bool (cntB c 1), .bool (cntB c 2), .bool (cntB c 3)] 191 (0, 0))) => each_counts 1 4 4 Q (cntF c) w' rfl (by unfold maxLen; omega) (fun i hi w2 k => counts1_any (cntB c) Q i w2 (k.at h fun h => h) hi))
  have hle : w.heap.size ≤ w.heap.size + 1 := Nat.le_succ _
  generalize eachV 1 (cntF c) 4 = bv at *
  obtain ⟨b0, b1, b2⟩ := bv
  clear ho h1 h2 hB0 hB3
  obtain ⟨e0, e1, e2, e3⟩ := four_cells (HB.out.at 1 rfl)
  go_enter Tryz.func55, Tryz.ntmps55
  go_wp2_with fail
  go_quiet (fail)
  replace HB := Lib.hid (HB.out.none ((Keeps.refl _ _).drewN nq))
  clear e0 e1 e2 e3
  obtain ⟨e0, e1, e2, e3⟩ := four_cells (HB.out.at 1 rfl)
  go_wp2_with fail
  replace HB := Lib.hid (HB.out.alloc (.cells #[.bool (cntB c 0), .bool (cntB c 1), .bool (cntB c 2), .bool (cntB c 3)] 191))
  refine (HE.out _ _ ?_).mono ?_
  · have hn := HB.out.at 0 rfl
    simp only [HBB.out.1, HBB.out.2] at hn ⊢
    simpa [cntB] using hn
  rintro e w2 ⟨rfl, k2⟩
  have HB2 := Lib.hid (show Has w w2 [(w.heap.size + 1, .cells #[.int .i64 0, .int .i64 0, .int .i64 0] 30 (0, 0)), (w.heap.size, .cells c.cells 112 (0, 0))] from by
    have hn := (HB.out.tl)
    simp only [HBB.out.1, HBB.out.2] at hn
    exact Has.none hn (by simpa [cntB] using k2))
  clear k2 HB
  obtain ⟨⟨r0, r1, r2⟩, g0, g1, g2, lr⟩ := three_cells (HB2.out.at 0 rfl)
  go_wp2
  refine bodyPost_ret (v := .agg #[.int .i64 b0, .int .i64 b1, .int .i64 b2]) (by simp [results, Tryz.results55, go_sem, *]) rfl ⟨rfl, ?_⟩
  exact ((HB2.out.keeps.setCell (p := ⟨w.heap.size + 1, 0, none⟩) (.inr hle) _).setCell (p := ⟨w.heap.size + 1, 1, none⟩) (.inr hle) _).setCell (p := ⟨w.heap.size + 1, 2, none⟩) (.inr hle) _
theorem counts_ff (c : CfD) (w : World) (ho : c.Ok) (h1 : ¬ (1 : Int) ≤ (c.nT : Int)) (h2 : ¬ 0 ≤ c.tick) :
    Calls Tryz.prog 55 #[.agg c.cells] w fun e w' => e = .returned (.agg (badC (eachV 1 (cntF c) 4))) ∧ Keeps (fun _ => False) w w' := by
  have HB := Lib.hid (((Has.start w).alloc (.cells c.cells 112)).alloc (.cells #[.int .i64 0, .int .i64 0, .int .i64 0] 30) |>.eq (M := [(w.heap.size + 1, .cells #[.int .i64 0, .int .i64 0, .int .i64 0] 30 (0, 0)), (w.heap.size, .cells c.cells 112 (0, 0))]) (by simp))
  have d1 : decide ((1 : Int) ≤ (c.nT : Int)) = false := decide_eq_false h1
  have d2 : decide (0 ≤ c.tick) = false := decide_eq_false h2
  have hB0 : cntB c 0 = false := by show (decide ((1 : Int) ≤ (c.nT : Int)) && decide ((c.nT : Int) ≤ 16)) = _; rw [d1]; simp
  have hB3 : cntB c 3 = false := by show (decide (0 ≤ c.tick) && decide (c.tick ≤ (c.nL : Int))) = _; rw [d2]; simp
  have HBB := Lib.hid (And.intro hB0 hB3)
  have HE := Lib.hid (fun w' Q (h : w'.heap[Q]? = some (.cells #[.bool (cntB c 0), .bool (cntB c 1), .bool (cntB c 2), .bool (cntB c 3)] 191 (0, 0))) => each_counts 1 4 4 Q (cntF c) w' rfl (by unfold maxLen; omega) (fun i hi w2 k => counts1_any (cntB c) Q i w2 (k.at h fun h => h) hi))
  have hle : w.heap.size ≤ w.heap.size + 1 := Nat.le_succ _
  generalize eachV 1 (cntF c) 4 = bv at *
  obtain ⟨b0, b1, b2⟩ := bv
  clear ho h1 h2 hB0 hB3
  obtain ⟨e0, e1, e2, e3⟩ := four_cells (HB.out.at 1 rfl)
  go_enter Tryz.func55, Tryz.ntmps55
  go_wp2_with fail
  go_quiet (fail)
  replace HB := Lib.hid (HB.out.none ((Keeps.refl _ _).drewN nq))
  clear e0 e1 e2 e3
  obtain ⟨e0, e1, e2, e3⟩ := four_cells (HB.out.at 1 rfl)
  go_wp2_with fail
  replace HB := Lib.hid (HB.out.alloc (.cells #[.bool (cntB c 0), .bool (cntB c 1), .bool (cntB c 2), .bool (cntB c 3)] 191))
  refine (HE.out _ _ ?_).mono ?_
  · have hn := HB.out.at 0 rfl
    simp only [HBB.out.1, HBB.out.2] at hn ⊢
    simpa [cntB] using hn
  rintro e w2 ⟨rfl, k2⟩
  have HB2 := Lib.hid (show Has w w2 [(w.heap.size + 1, .cells #[.int .i64 0, .int .i64 0, .int .i64 0] 30 (0, 0)), (w.heap.size, .cells c.cells 112 (0, 0))] from by
    have hn := (HB.out.tl)
    simp only [HBB.out.1, HBB.out.2] at hn
    exact Has.none hn (by simpa [cntB] using k2))
  clear k2 HB
  obtain ⟨⟨r0, r1, r2⟩, g0, g1, g2, lr⟩ := three_cells (HB2.out.at 0 rfl)
  go_wp2
  refine bodyPost_ret (v := .agg #[.int .i64 b0, .int .i64 b1, .int .i64 b2]) (by simp [results, Tryz.results55, go_sem, *]) rfl ⟨rfl, ?_⟩
  exact ((HB2.out.keeps.setCell (p := ⟨w.heap.size + 1, 0, none⟩) (.inr hle) _).setCell (p := ⟨w.heap.size + 1, 1, none⟩) (.inr hle) _).setCell (p := ⟨w.heap.size + 1, 2, none⟩) (.inr hle) _
theorem counts_any (c : CfD) (w : World) (ho : c.Ok) :
    Calls Tryz.prog 55 #[.agg c.cells] w fun e w' => e = .returned (.agg (badC (eachV 1 (cntF c) 4))) ∧ Keeps (fun _ => False) w w' := by
  by_cases h1 : (1 : Int) ≤ (c.nT : Int)
  · by_cases h2 : 0 ≤ c.tick
    · exact counts_tt c w ho h1 h2
    · exact counts_tf c w ho h1 h2
  · by_cases h2 : 0 ≤ c.tick
    · exact counts_ft c w ho h1 h2
    · exact counts_ff c w ho h1 h2
end Go.Proofs.YthnmlklgbggmbaaGreat
namespace Go.Proofs.YthnmlklgbggmbaaGreat
open Go.ChangeShapes Go.WideShapes Go.ChangeAt Go.RowKit
set_option linter.unusedVariables false
set_option linter.unusedSimpArgs false
theorem eachV_zero {part : Int} {f : Nat → Int} {n : Nat} (h : (eachV part f n).1 = 0) : eachV part f n = (0, 0, 0) := by
  unfold eachV at *
  cases h1 : firstN f n with
  | none => rfl
  | some i =>
    rw [h1] at h
    exact absurd h (firstN_some h1).2.1
def bad1 (c : CfD) : Int × Int × Int := eachV 1 (cntF c) 4
def bad2 (c : CfD) : Int × Int × Int := eachV 2 (fun i => taskF (c.tp i) (c.tl i)) c.nT
def bad3 (c : CfD) : Int × Int × Int := eachV 3 (fun i => levelF (c.lr i) (c.ll i)) c.nL
def bad4 (c : CfD) : Int × Int × Int := eachV 4 (fun i => objF c (c.ob i)) c.nO
/-- What Check returns. -/
def badOf (c : CfD) : Int × Int × Int := if (bad1 c).1 = 0 then (if (bad2 c).1 = 0 then (if (bad3 c).1 = 0 then bad4 c else bad3 c) else bad2 c) else bad1 c
/-- What Check stands on. -/
structure CkB (w wr : World) (f0 f1 f2 : Int) : Prop where
  keeps : Keeps (fun _ => False) w wr
  first : wr.heap[w.heap.size + 1 + 1 + 1]? = some (.cells #[.int .i64 f0, .int .i64 f1, .int .i64 f2] 30 (0, 0))
  res : wr.heap[w.heap.size + 1]? = some (.cells #[.int .i64 0, .int .i64 0, .int .i64 0] 30 (0, 0))
theorem CkB.none {w wr w2 : World} {f0 f1 f2 : Int} (h : CkB w wr f0 f1 f2) (k : Keeps (fun _ => False) wr w2) : CkB w w2 f0 f1 f2 := ⟨h.keeps.trans k, k.at h.first fun h => h, k.at h.res fun h => h⟩
theorem CkB.put {w wr : World} {f0 f1 f2 g0 g1 g2 : Int} (h : CkB w wr f0 f1 f2) : CkB w (((wr.setCell ⟨w.heap.size + 1 + 1 + 1, 0, Option.none⟩ (.int .i64 g0)).setCell ⟨w.heap.size + 1 + 1 + 1, 1, Option.none⟩ (.int .i64 g1)).setCell ⟨w.heap.size + 1 + 1 + 1, 2, Option.none⟩ (.int .i64 g2)) g0 g1 g2 := by
  have e0 := heap_set h.first 0 (.int .i64 g0)
  simp only [List.setIfInBounds_toArray, List.set_cons_zero, List.set_cons_succ] at e0
  have e1 := heap_set e0 1 (.int .i64 g1)
  simp only [List.setIfInBounds_toArray, List.set_cons_zero, List.set_cons_succ] at e1
  have e2 := heap_set e1 2 (.int .i64 g2)
  simp only [List.setIfInBounds_toArray, List.set_cons_zero, List.set_cons_succ] at e2
  have hle : w.heap.size ≤ w.heap.size + 1 + 1 + 1 := by omega
  exact ⟨((h.keeps.setCell (p := ⟨w.heap.size + 1 + 1 + 1, 0, Option.none⟩) (.inr hle) _).setCell (p := ⟨w.heap.size + 1 + 1 + 1, 1, Option.none⟩) (.inr hle) _).setCell (p := ⟨w.heap.size + 1 + 1 + 1, 2, Option.none⟩) (.inr hle) _, e2, heap_other (heap_other (heap_other h.res (by simp) _) (by simp) _) (by simp) _⟩
theorem CkB.fin {w wr : World} {f0 f1 f2 g0 g1 g2 : Int} (h : CkB w wr f0 f1 f2) : Keeps (fun _ => False) w (((wr.setCell ⟨w.heap.size + 1, 0, Option.none⟩ (.int .i64 g0)).setCell ⟨w.heap.size + 1, 1, Option.none⟩ (.int .i64 g1)).setCell ⟨w.heap.size + 1, 2, Option.none⟩ (.int .i64 g2)) := by
  have hle : w.heap.size ≤ w.heap.size + 1 := Nat.le_succ _
  exact ((h.keeps.setCell (p := ⟨w.heap.size + 1, 0, Option.none⟩) (.inr hle) _).setCell (p := ⟨w.heap.size + 1, 1, Option.none⟩) (.inr hle) _).setCell (p := ⟨w.heap.size + 1, 2, Option.none⟩) (.inr hle) _
set_option maxHeartbeats 1000000 in
theorem check_any (c : CfD) (w : World) (hc : CfIn w c) (ho : c.Ok) :
    Calls Tryz.prog 21 #[.agg c.cells] w fun e w' => e = .returned (.agg (badC (badOf c))) ∧ Keeps (fun _ => False) w w' := by
  have HB := Lib.hid (show CkB w ((((w.alloc (.cells c.cells 26)).alloc (.cells #[.int .i64 0, .int .i64 0, .int .i64 0] 30)).alloc (.cells c.cells 112)).alloc (.cells #[.int .i64 0, .int .i64 0, .int .i64 0] 30)) 0 0 0 from by
    have h := ((((Has.start w).alloc (.cells c.cells 26)).alloc (.cells #[.int .i64 0, .int .i64 0, .int .i64 0] 30)).alloc (.cells c.cells 112)).alloc (.cells #[.int .i64 0, .int .i64 0, .int .i64 0] 30)
    have h0 := h.at 0 rfl
    have h2 := h.at 2 rfl
    exact ⟨h.keeps, by simpa using h0, by simpa using h2⟩)
  have H1 := Lib.hid (fun w' => counts_any c w' ho)
  have H2 := Lib.hid (fun w' (k : Keeps (fun _ => False) w w') => tasks_any c w' (hc.none k) ho)
  have H3 := Lib.hid (fun w' (k : Keeps (fun _ => False) w w') => levels_any c w' (hc.none k) ho)
  have H4 := Lib.hid (fun w' (k : Keeps (fun _ => False) w w') => objects_any c w' (hc.none k) ho)
  have HV := Lib.hid (show badOf c = if (bad1 c).1 = 0 then (if (bad2 c).1 = 0 then (if (bad3 c).1 = 0 then bad4 c else bad3 c) else bad2 c) else bad1 c from rfl)
  have Z1 := Lib.hid (show (bad1 c).1 = 0 → bad1 c = (0, 0, 0) from eachV_zero)
  have Z2 := Lib.hid (show (bad2 c).1 = 0 → bad2 c = (0, 0, 0) from eachV_zero)
  have Z3 := Lib.hid (show (bad3 c).1 = 0 → bad3 c = (0, 0, 0) from eachV_zero)
  have Z4 := Lib.hid (show (bad4 c).1 = 0 → bad4 c = (0, 0, 0) from eachV_zero)
  change Hid (∀ w', Calls Tryz.prog _ _ w' fun e w2 => e = .returned (.agg (badC (bad1 c))) ∧ Keeps (fun _ => False) w' w2) at H1
  change Hid (∀ w' (k : Keeps (fun _ => False) w w'), Calls Tryz.prog _ _ w' fun e w2 => e = .returned (.agg (badC (bad2 c))) ∧ Keeps (fun _ => False) w' w2) at H2
  change Hid (∀ w' (k : Keeps (fun _ => False) w w'), Calls Tryz.prog _ _ w' fun e w2 => e = .returned (.agg (badC (bad3 c))) ∧ Keeps (fun _ => False) w' w2) at H3
  change Hid (∀ w' (k : Keeps (fun _ => False) w w'), Calls Tryz.prog _ _ w' fun e w2 => e = .returned (.agg (badC (bad4 c))) ∧ Keeps (fun _ => False) w' w2) at H4
  generalize badOf c = bo at *
  generalize bad1 c = v1 at *
  generalize bad2 c = v2 at *
  generalize bad3 c = v3 at *
  generalize bad4 c = v4 at *
  obtain ⟨a1, p1, q1⟩ := v1
  obtain ⟨a2, p2, q2⟩ := v2
  obtain ⟨a3, p3, q3⟩ := v3
  obtain ⟨a4, p4, q4⟩ := v4
  have X0 : ∀ (f0 f1 f2 f3 : Value) (w : World), (Instr.index 114 (.agg #[f0, f1, f2, f3]) (.int .i64 0)).run Tryz.prog w = .ok f0 w := fun _ _ _ _ _ => by kernel_rfl
  have X1 : ∀ (f0 f1 f2 f3 : Value) (w : World), (Instr.index 114 (.agg #[f0, f1, f2, f3]) (.int .i64 1)).run Tryz.prog w = .ok f1 w := fun _ _ _ _ _ => by kernel_rfl
  have X2 : ∀ (f0 f1 f2 f3 : Value) (w : World), (Instr.index 114 (.agg #[f0, f1, f2, f3]) (.int .i64 2)).run Tryz.prog w = .ok f2 w := fun _ _ _ _ _ => by kernel_rfl
  have X3 : ∀ (f0 f1 f2 f3 : Value) (w : World), (Instr.index 114 (.agg #[f0, f1, f2, f3]) (.int .i64 3)).run Tryz.prog w = .ok f3 w := fun _ _ _ _ _ => by kernel_rfl
  clear hc ho
  go_enter Tryz.func21, Tryz.ntmps21
  go_wp2_with fail
  go_step3
  go_wp2_with fail
  go_step3
  go_wp2_with fail
  refine wp_loop_rounds 5 ?_
  rw [rounds_succ]
  go_wp2_with fail
  refine (H1.out _).mono ?_
  rintro e w2 ⟨rfl, k2⟩
  replace HB := Lib.hid (HB.out.none k2)
  clear k2
  obtain ⟨⟨x0, x1, x2⟩, f0, f1, f2, lx⟩ := three_cells HB.out.first
  obtain ⟨⟨y0, y1, y2⟩, j0, j1, j2, ly⟩ := three_cells HB.out.res
  rcases Decidable.em (a1 = 0) with hz | hz
  · obtain ⟨rfl, rfl, rfl⟩ : a1 = 0 ∧ p1 = 0 ∧ q1 = 0 := by simpa using Z1.out hz
    replace HB := Lib.hid (HB.out.put (g0 := 0) (g1 := 0) (g2 := 0))
    clear hz
    obtain ⟨⟨s0, s1, s2⟩, t0, t1, t2, lt⟩ := three_cells HB.out.first
    obtain ⟨⟨v0, v1, v2⟩, z0, z1, z2, lz⟩ := three_cells HB.out.res
    go_wp2_with fail
    clear x0 x1 x2 f0 f1 f2 lx y0 y1 y2 j0 j1 j2 ly s0 s1 s2 t0 t1 t2 lt v0 v1 v2 z0 z1 z2 lz
    rw [rounds_succ]
    go_wp2_with fail
    refine (H2.out _ HB.out.keeps).mono ?_
    rintro e w3 ⟨rfl, k3⟩
    replace HB := Lib.hid (HB.out.none k3)
    clear k3
    obtain ⟨⟨x0, x1, x2⟩, f0, f1, f2, lx⟩ := three_cells HB.out.first
    obtain ⟨⟨y0, y1, y2⟩, j0, j1, j2, ly⟩ := three_cells HB.out.res
    rcases Decidable.em (a2 = 0) with hz | hz
    · obtain ⟨rfl, rfl, rfl⟩ : a2 = 0 ∧ p2 = 0 ∧ q2 = 0 := by simpa using Z2.out hz
      replace HB := Lib.hid (HB.out.put (g0 := 0) (g1 := 0) (g2 := 0))
      clear hz
      obtain ⟨⟨s0, s1, s2⟩, t0, t1, t2, lt⟩ := three_cells HB.out.first
      obtain ⟨⟨v0, v1, v2⟩, z0, z1, z2, lz⟩ := three_cells HB.out.res
      go_wp2_with fail
      clear x0 x1 x2 f0 f1 f2 lx y0 y1 y2 j0 j1 j2 ly s0 s1 s2 t0 t1 t2 lt v0 v1 v2 z0 z1 z2 lz
      rw [rounds_succ]
      go_wp2_with fail
      refine (H3.out _ HB.out.keeps).mono ?_
      rintro e w4 ⟨rfl, k4⟩
      replace HB := Lib.hid (HB.out.none k4)
      clear k4
      obtain ⟨⟨x0, x1, x2⟩, f0, f1, f2, lx⟩ := three_cells HB.out.first
      obtain ⟨⟨y0, y1, y2⟩, j0, j1, j2, ly⟩ := three_cells HB.out.res
      rcases Decidable.em (a3 = 0) with hz | hz
      · obtain ⟨rfl, rfl, rfl⟩ : a3 = 0 ∧ p3 = 0 ∧ q3 = 0 := by simpa using Z3.out hz
        replace HB := Lib.hid (HB.out.put (g0 := 0) (g1 := 0) (g2 := 0))
        clear hz
        obtain ⟨⟨s0, s1, s2⟩, t0, t1, t2, lt⟩ := three_cells HB.out.first
        obtain ⟨⟨v0, v1, v2⟩, z0, z1, z2, lz⟩ := three_cells HB.out.res
        go_wp2_with fail
        clear x0 x1 x2 f0 f1 f2 lx y0 y1 y2 j0 j1 j2 ly s0 s1 s2 t0 t1 t2 lt v0 v1 v2 z0 z1 z2 lz
        rw [rounds_succ]
        go_wp2_with fail
        refine (H4.out _ HB.out.keeps).mono ?_
        rintro e w5 ⟨rfl, k5⟩
        replace HB := Lib.hid (HB.out.none k5)
        clear k5
        obtain ⟨⟨x0, x1, x2⟩, f0, f1, f2, lx⟩ := three_cells HB.out.first
        obtain ⟨⟨y0, y1, y2⟩, j0, j1, j2, ly⟩ := three_cells HB.out.res
        rcases Decidable.em (a4 = 0) with hz | hz
        · obtain ⟨rfl, rfl, rfl⟩ : a4 = 0 ∧ p4 = 0 ∧ q4 = 0 := by simpa using Z4.out hz
          replace HB := Lib.hid (HB.out.put (g0 := 0) (g1 := 0) (g2 := 0))
          clear hz
          obtain ⟨⟨s0, s1, s2⟩, t0, t1, t2, lt⟩ := three_cells HB.out.first
          obtain ⟨⟨v0, v1, v2⟩, z0, z1, z2, lz⟩ := three_cells HB.out.res
          go_wp2_with fail
          have HVV := Lib.hid (show bo = (0, 0, 0) from by rw [HV.out]; simp)
          rw [rounds_succ]
          go_wp2
          (try rw [Exit.noGoto_ret])
          refine bodyPost_ret (v := .agg #[.int .i64 (0), .int .i64 (0), .int .i64 (0)]) (by simp [results, Tryz.results21, go_sem, *]) rfl ⟨by rw [HVV.out], HB.out.fin⟩
        · have hb0 : (a4 == 0) = false := beq_eq_false_iff_ne.mpr hz
          have HVV := Lib.hid (show bo = (a4, p4, q4) from by rw [HV.out]; simp [hz])
          clear hz
          replace HB := Lib.hid (HB.out.put (g0 := a4) (g1 := p4) (g2 := q4))
          obtain ⟨⟨s0, s1, s2⟩, t0, t1, t2, lt⟩ := three_cells HB.out.first
          obtain ⟨⟨v0, v1, v2⟩, z0, z1, z2, lz⟩ := three_cells HB.out.res
          go_wp2
          (try rw [Exit.noGoto_ret])
          refine bodyPost_ret (v := .agg #[.int .i64 (a4), .int .i64 (p4), .int .i64 (q4)]) (by simp [results, Tryz.results21, go_sem, *]) rfl ⟨by rw [HVV.out], HB.out.fin⟩
      · have hb0 : (a3 == 0) = false := beq_eq_false_iff_ne.mpr hz
        have HVV := Lib.hid (show bo = (a3, p3, q3) from by rw [HV.out]; simp [hz])
        clear hz
        replace HB := Lib.hid (HB.out.put (g0 := a3) (g1 := p3) (g2 := q3))
        obtain ⟨⟨s0, s1, s2⟩, t0, t1, t2, lt⟩ := three_cells HB.out.first
        obtain ⟨⟨v0, v1, v2⟩, z0, z1, z2, lz⟩ := three_cells HB.out.res
        go_wp2
        (try rw [Exit.noGoto_ret])
        refine bodyPost_ret (v := .agg #[.int .i64 (a3), .int .i64 (p3), .int .i64 (q3)]) (by simp [results, Tryz.results21, go_sem, *]) rfl ⟨by rw [HVV.out], HB.out.fin⟩
    · have hb0 : (a2 == 0) = false := beq_eq_false_iff_ne.mpr hz
      have HVV := Lib.hid (show bo = (a2, p2, q2) from by rw [HV.out]; simp [hz])
      clear hz
      replace HB := Lib.hid (HB.out.put (g0 := a2) (g1 := p2) (g2 := q2))
      obtain ⟨⟨s0, s1, s2⟩, t0, t1, t2, lt⟩ := three_cells HB.out.first
      obtain ⟨⟨v0, v1, v2⟩, z0, z1, z2, lz⟩ := three_cells HB.out.res
      go_wp2
      (try rw [Exit.noGoto_ret])
      refine bodyPost_ret (v := .agg #[.int .i64 (a2), .int .i64 (p2), .int .i64 (q2)]) (by simp [results, Tryz.results21, go_sem, *]) rfl ⟨by rw [HVV.out], HB.out.fin⟩
  · have hb0 : (a1 == 0) = false := beq_eq_false_iff_ne.mpr hz
    have HVV := Lib.hid (show bo = (a1, p1, q1) from by rw [HV.out]; simp [hz])
    clear hz
    replace HB := Lib.hid (HB.out.put (g0 := a1) (g1 := p1) (g2 := q1))
    obtain ⟨⟨s0, s1, s2⟩, t0, t1, t2, lt⟩ := three_cells HB.out.first
    obtain ⟨⟨v0, v1, v2⟩, z0, z1, z2, lz⟩ := three_cells HB.out.res
    go_wp2
    (try rw [Exit.noGoto_ret])
    refine bodyPost_ret (v := .agg #[.int .i64 (a1), .int .i64 (p1), .int .i64 (q1)]) (by simp [results, Tryz.results21, go_sem, *]) rfl ⟨by rw [HVV.out], HB.out.fin⟩
end Go.Proofs.YthnmlklgbggmbaaGreat
namespace Go.Proofs.YthnmlklgbggmbaaGreat
open Go.ChangeShapes Go.WideShapes Go.ChangeAt Go.RowKit
set_option linter.unusedVariables false
set_option linter.unusedSimpArgs false
theorem each_ok {part : Int} {f : Nat → Int} {n : Nat} (h : (eachV part f n).1 = 0) : ∀ i, i < n → f i = 0 := by
  intro i hi
  unfold eachV at h
  cases hf : firstN f n with
  | none => exact firstN_none hf i hi
  | some k =>
    rw [hf] at h
    exact absurd h (firstN_some hf).2.1
/-- A configuration that is told right. -/
structure GoodC (c : CfD) : Prop where
  t1 : 1 ≤ c.nT
  t : c.nT ≤ 16
  l : c.nL ≤ 31
  o : c.nO ≤ 16
  room : ∀ i, i < c.nL → pow2 (c.lr i) = true ∧ 1 ≤ c.lr i ∧ c.lr i ≤ 64
  right : ∀ i, i < c.nO → rightS (c.ob i) = true
theorem good_of {c : CfD} (h : badOf c = (0, 0, 0)) : GoodC c := by
  have h0 : (badOf c).1 = 0 := by rw [h]
  unfold badOf at h0
  by_cases h1 : (bad1 c).1 = 0
  · rw [if_pos h1] at h0
    by_cases h2 : (bad2 c).1 = 0
    · rw [if_pos h2] at h0
      by_cases h3 : (bad3 c).1 = 0
      · rw [if_pos h3] at h0
        have c1 := each_ok h1
        have c3 := each_ok h3
        have c4 := each_ok h0
        have hb : ∀ i, i < 4 → cntB c i = true := fun i hi => by
          have := c1 i hi
          unfold cntF at this
          split at this
          · assumption
          · cases this
        have b0 := hb 0 (by omega); have b1 := hb 1 (by omega); have b2 := hb 2 (by omega)
        simp [cntB] at b0 b1 b2
        refine ⟨by omega, by omega, by omega, by omega, fun i hi => ?_, fun i hi => ?_⟩
        · have := c3 i hi
          unfold levelF at this
          split at this
          · rename_i hr
            unfold roomB at hr
            simp only [Bool.and_eq_true, decide_eq_true_eq] at hr
            exact ⟨hr.1, pow2_pos hr.1, hr.2⟩
          · cases this
        · have := c4 i hi
          cases hr : rightS (c.ob i) with
          | true => rfl
          | false =>
            unfold objF at this
            rw [hr] at this
            split at this
            · cases this
            · split at this
              · cases this
              · rw [if_pos rfl] at this; cases this
      · rw [if_neg h3] at h0; exact absurd h0 h3
    · rw [if_neg h2] at h0; exact absurd h0 h2
  · rw [if_neg h1] at h0; exact absurd h0 h1
end Go.Proofs.YthnmlklgbggmbaaGreat
namespace Go.Proofs.YthnmlklgbggmbaaGreat
open Go.ChangeShapes Go.WideShapes Go.ChangeAt Go.RowKit
set_option linter.unusedVariables false
set_option maxRecDepth 100000 in
theorem task_cells {w : World} {cs : List Value} (h : Reads Tryz.prog w 66 cs) : ∃ (p : Int) (b : Bool) (a : Option Addr) (n c : Nat), cs = [.int .i64 p, .bool b, .slice a n c] := by
  obtain ⟨hl, hf⟩ := h.struct Tryz.underlying66
  have hc : Tryz.prog.cellsOf 66 = 3 := by kernel_rfl
  rw [hc] at hl
  match cs, hl with
  | [v0, v1, v2], _ =>
    obtain ⟨p, e0, _⟩ := (h.field Tryz.underlying66 0 3 0 1 rfl (by kernel_rfl)).int Tryz.underlying3
    obtain ⟨b, e1⟩ := (h.field Tryz.underlying66 1 4 1 1 rfl (by kernel_rfl)).bool Tryz.underlying4
    obtain ⟨a, n, c, e2, _⟩ := (h.field Tryz.underlying66 2 64 2 1 rfl (by kernel_rfl)).slice Tryz.underlying64
    simp at e0 e1 e2
    exact ⟨p, b, a, n, c, by simp [e0, e1, e2]⟩
set_option maxRecDepth 100000 in
theorem level_cells {w : World} {cs : List Value} (h : Reads Tryz.prog w 69 cs) : ∃ (p : Int) (a : Option Addr) (n c : Nat), cs = [.int .i64 p, .slice a n c] ∧ (-9223372036854775808 ≤ p ∧ p ≤ 9223372036854775807) := by
  obtain ⟨hl, hf⟩ := h.struct Tryz.underlying69
  have hc : Tryz.prog.cellsOf 69 = 2 := by kernel_rfl
  rw [hc] at hl
  match cs, hl with
  | [v0, v1], _ =>
    obtain ⟨p, e0, hp⟩ := (h.field Tryz.underlying69 0 3 0 1 rfl (by kernel_rfl)).int Tryz.underlying3
    obtain ⟨a, n, c, e2, _⟩ := (h.field Tryz.underlying69 1 64 1 1 rfl (by kernel_rfl)).slice Tryz.underlying64
    simp at e0 e2
    exact ⟨p, a, n, c, by simp [e0, e2], by simpa [Lit.wf, IntKind.min, IntKind.max, IntKind.signed, IntKind.bits] using hp⟩
set_option maxRecDepth 100000 in
theorem object_cells {w : World} {cs : List Value} (h : Reads Tryz.prog w 74 cs) : ∃ o oi : Nat → Int, cs = [.int .i64 (o 0), .int .i64 (o 1), .int .i64 (o 2), .int .i64 (o 3), .int .i64 (o 4), .int .i64 (o 5), .int .u32 (oi 0), .int .u32 (oi 1), .int .u32 (oi 2), .int .u32 (oi 3)] ∧ ∀ j, j < 6 → -9223372036854775808 ≤ o j ∧ o j ≤ 9223372036854775807 := by
  obtain ⟨hl, hf⟩ := h.struct Tryz.underlying74
  have hc : Tryz.prog.cellsOf 74 = 10 := by kernel_rfl
  rw [hc] at hl
  match cs, hl with
  | [v0, v1, v2, v3, v4, v5, v6, v7, v8, v9], _ =>
    obtain ⟨p0, e0, h0⟩ := (h.field Tryz.underlying74 0 3 0 1 rfl (by kernel_rfl)).int Tryz.underlying3
    obtain ⟨p1, e1, h1⟩ := (h.field Tryz.underlying74 1 3 1 1 rfl (by kernel_rfl)).int Tryz.underlying3
    obtain ⟨p2, e2, h2⟩ := (h.field Tryz.underlying74 2 3 2 1 rfl (by kernel_rfl)).int Tryz.underlying3
    obtain ⟨p3, e3, h3⟩ := (h.field Tryz.underlying74 3 3 3 1 rfl (by kernel_rfl)).int Tryz.underlying3
    obtain ⟨p4, e4, h4⟩ := (h.field Tryz.underlying74 4 3 4 1 rfl (by kernel_rfl)).int Tryz.underlying3
    obtain ⟨p5, e5, h5⟩ := (h.field Tryz.underlying74 5 3 5 1 rfl (by kernel_rfl)).int Tryz.underlying3
    have hv := (h.field Tryz.underlying74 6 72 6 4 rfl (by kernel_rfl)).array Tryz.underlying72
    have hu : Tryz.prog.cellsOf 38 = 1 := by kernel_rfl
    obtain ⟨q0, f0, _⟩ := (hv.2 0 (by omega)).int Tryz.underlying38
    obtain ⟨q1, f1, _⟩ := (hv.2 1 (by omega)).int Tryz.underlying38
    obtain ⟨q2, f2, _⟩ := (hv.2 2 (by omega)).int Tryz.underlying38
    obtain ⟨q3, f3, _⟩ := (hv.2 3 (by omega)).int Tryz.underlying38
    rw [hu] at f0 f1 f2 f3
    simp at e0 e1 e2 e3 e4 e5 f0 f1 f2 f3
    refine ⟨fun j => match j with | 0 => p0 | 1 => p1 | 2 => p2 | 3 => p3 | 4 => p4 | _ => p5, fun j => match j with | 0 => q0 | 1 => q1 | 2 => q2 | _ => q3, by simp [e0, e1, e2, e3, e4, e5, f0, f1, f2, f3], fun j hj => ?_⟩
    have bd : ∀ q : Int, (Lit.int .i64 q).wf = true → -9223372036854775808 ≤ q ∧ q ≤ 9223372036854775807 := fun q hp => by simpa [Lit.wf, IntKind.min, IntKind.max, IntKind.signed, IntKind.bits] using hp
    rcases (by omega : j = 0 ∨ j = 1 ∨ j = 2 ∨ j = 3 ∨ j = 4 ∨ j = 5) with rfl | rfl | rfl | rfl | rfl | rfl
    · exact bd _ h0
    · exact bd _ h1
    · exact bd _ h2
    · exact bd _ h3
    · exact bd _ h4
    · exact bd _ h5
set_option maxRecDepth 100000 in
theorem cfg_of {w : World} {cs : List Value} (h : Reads Tryz.prog w 26 cs) : ∃ c : CfD, cs = c.cells.toList ∧ CfIn w c ∧ c.Ok := by
  obtain ⟨hl, hf⟩ := h.struct Tryz.underlying26
  have hc : Tryz.prog.cellsOf 26 = 4 := by kernel_rfl
  rw [hc] at hl
  match cs, hl with
  | [v0, v1, v2, v3], _ =>
    obtain ⟨ta, nT, tc, e0, lt1, lt2, rt⟩ := (h.field Tryz.underlying26 0 22 0 1 rfl (by kernel_rfl)).rows Tryz.underlying22 (n := 3) (by kernel_rfl) (by omega)
    obtain ⟨la, nL, lc, e1, ll1, ll2, rl⟩ := (h.field Tryz.underlying26 1 23 1 1 rfl (by kernel_rfl)).rows Tryz.underlying23 (n := 2) (by kernel_rfl) (by omega)
    obtain ⟨oa, nO, oc, e2, lo1, lo2, ro⟩ := (h.field Tryz.underlying26 2 24 2 1 rfl (by kernel_rfl)).rows Tryz.underlying24 (n := 10) (by kernel_rfl) (by omega)
    obtain ⟨tick, e3, ht⟩ := (h.field Tryz.underlying26 3 3 3 1 rfl (by kernel_rfl)).int Tryz.underlying3
    simp at e0 e1 e2 e3
    have hT : ∃ (tp : Nat → Int) (tb : Nat → Bool) (tl : Nat → Nat) (tca : Nat → Option Addr) (tcc : Nat → Nat), 0 < nT → ∃ b off, ta = some ⟨b, off, none⟩ ∧ b < w.heap.size ∧ ∀ i, i < nT → w.cell? ⟨b, off + i * 3, none⟩ = some (.int .i64 (tp i)) ∧ w.cell? ⟨b, off + i * 3 + 1, none⟩ = some (.bool (tb i)) ∧ w.cell? ⟨b, off + i * 3 + 2, none⟩ = some (.slice (tca i) (tl i) (tcc i)) := by
      by_cases hn : 0 < nT
      · obtain ⟨b, off, ha, hb, hr⟩ := rt hn
        obtain ⟨F, hF⟩ := Deep.choose_lt (n := nT) (p := fun i (x : Int × Bool × Option Addr × Nat × Nat) => w.cell? ⟨b, off + i * 3, none⟩ = some (.int .i64 x.1) ∧ w.cell? ⟨b, off + i * 3 + 1, none⟩ = some (.bool x.2.1) ∧ w.cell? ⟨b, off + i * 3 + 2, none⟩ = some (.slice x.2.2.1 x.2.2.2.1 x.2.2.2.2)) (fun i hi => by
          obtain ⟨cs', _, hcell, hrd⟩ := hr i hi
          obtain ⟨p, q, a, n, c, rfl⟩ := task_cells hrd
          exact ⟨(p, q, a, n, c), hcell 0 (by omega), hcell 1 (by omega), hcell 2 (by omega)⟩)
        exact ⟨fun i => (F i).1, fun i => (F i).2.1, fun i => (F i).2.2.2.1, fun i => (F i).2.2.1, fun i => (F i).2.2.2.2, fun _ => ⟨b, off, ha, hb, hF⟩⟩
      · exact ⟨fun _ => 0, fun _ => false, fun _ => 0, fun _ => none, fun _ => 0, fun h => absurd h hn⟩
    have hL : ∃ (lr : Nat → Int) (ll : Nat → Nat) (lca : Nat → Option Addr) (lcc : Nat → Nat), (∀ i, i < nL → -9223372036854775808 ≤ lr i ∧ lr i ≤ 9223372036854775807) ∧ (0 < nL → ∃ b off, la = some ⟨b, off, none⟩ ∧ b < w.heap.size ∧ ∀ i, i < nL → w.cell? ⟨b, off + i * 2, none⟩ = some (.int .i64 (lr i)) ∧ w.cell? ⟨b, off + i * 2 + 1, none⟩ = some (.slice (lca i) (ll i) (lcc i))) := by
      by_cases hn : 0 < nL
      · obtain ⟨b, off, ha, hb, hr⟩ := rl hn
        obtain ⟨F, hF⟩ := Deep.choose_lt (n := nL) (p := fun i (x : Int × Option Addr × Nat × Nat) => (-9223372036854775808 ≤ x.1 ∧ x.1 ≤ 9223372036854775807) ∧ w.cell? ⟨b, off + i * 2, none⟩ = some (.int .i64 x.1) ∧ w.cell? ⟨b, off + i * 2 + 1, none⟩ = some (.slice x.2.1 x.2.2.1 x.2.2.2)) (fun i hi => by
          obtain ⟨cs', _, hcell, hrd⟩ := hr i hi
          obtain ⟨p, a, n, c, rfl, hp⟩ := level_cells hrd
          exact ⟨(p, a, n, c), hp, hcell 0 (by omega), hcell 1 (by omega)⟩)
        exact ⟨fun i => (F i).1, fun i => (F i).2.2.1, fun i => (F i).2.1, fun i => (F i).2.2.2, fun i hi => (hF i hi).1, fun _ => ⟨b, off, ha, hb, fun i hi => (hF i hi).2⟩⟩
      · exact ⟨fun _ => 0, fun _ => 0, fun _ => none, fun _ => 0, fun i hi => by omega, fun h => absurd h hn⟩
    have hO : ∃ (ob oi : Nat → Nat → Int), (∀ i, i < nO → ∀ j, j < 6 → -9223372036854775808 ≤ ob i j ∧ ob i j ≤ 9223372036854775807) ∧ (0 < nO → ∃ b off, oa = some ⟨b, off, none⟩ ∧ b < w.heap.size ∧ ∀ i, i < nO → ∀ j, j < 10 → w.cell? ⟨b, off + i * 10 + j, none⟩ = (#[.int .i64 (ob i 0), .int .i64 (ob i 1), .int .i64 (ob i 2), .int .i64 (ob i 3), .int .i64 (ob i 4), .int .i64 (ob i 5), .int .u32 (oi i 0), .int .u32 (oi i 1), .int .u32 (oi i 2), .int .u32 (oi i 3)] : Array Value)[j]?) := by
      by_cases hn : 0 < nO
      · obtain ⟨b, off, ha, hb, hr⟩ := ro hn
        obtain ⟨F, hF⟩ := Deep.choose_lt (n := nO) (p := fun i (x : (Nat → Int) × (Nat → Int)) => (∀ j, j < 6 → -9223372036854775808 ≤ x.1 j ∧ x.1 j ≤ 9223372036854775807) ∧ ∀ j, j < 10 → w.cell? ⟨b, off + i * 10 + j, none⟩ = (#[.int .i64 (x.1 0), .int .i64 (x.1 1), .int .i64 (x.1 2), .int .i64 (x.1 3), .int .i64 (x.1 4), .int .i64 (x.1 5), .int .u32 (x.2 0), .int .u32 (x.2 1), .int .u32 (x.2 2), .int .u32 (x.2 3)] : Array Value)[j]?) (fun i hi => by
          obtain ⟨cs', _, hcell, hrd⟩ := hr i hi
          obtain ⟨o, oi, rfl, ho⟩ := object_cells hrd
          exact ⟨(o, oi), ho, fun j hj => (hcell j hj).trans (by simp)⟩)
        exact ⟨fun i => (F i).1, fun i => (F i).2, fun i hi => (hF i hi).1, fun _ => ⟨b, off, ha, hb, fun i hi => (hF i hi).2⟩⟩
      · exact ⟨fun _ _ => 0, fun _ _ => 0, fun i hi => by omega, fun h => absurd h hn⟩
    obtain ⟨tp, tb, tl, tca, tcc, hT⟩ := hT
    obtain ⟨lr, ll, lca, lcc, hLb, hL⟩ := hL
    obtain ⟨ob, oi, hOb, hO⟩ := hO
    refine ⟨⟨nT, nL, nO, tick, ta, la, oa, tc, lc, oc, tp, tb, tl, tca, tcc, lr, ll, lca, lcc, ob, oi⟩, by simp [e0, e1, e2, e3], ⟨hT, hL, hO⟩, ⟨by show nT ≤ maxLen; omega, by show nL ≤ maxLen; omega, by show nO ≤ maxLen; omega, ?_, hLb, hOb⟩⟩
    simpa [Lit.wf, IntKind.min, IntKind.max, IntKind.signed, IntKind.bits] using ht
end Go.Proofs.YthnmlklgbggmbaaGreat
