import Derived.Test.YtdhfppflhmoejacRuleB
import Derived.LoopN
namespace Go.Proofs.Ytdhfppflhmoejac
open Go.ChangeShapes Go.WideShapes Go.ChangeAt Go.RowKit
set_option linter.unusedVariables false
set_option linter.unusedSimpArgs false
def needL (k : Int) : List Int := if k = 1 ∨ k = 2 ∨ k = 14 ∨ k = 15 then [1] else if k = 3 then [2, 3] else if k = 4 then [2] else if k = 5 ∨ k = 6 then [3] else if k = 7 ∨ k = 8 ∨ k = 9 ∨ k = 16 ∨ k = 17 then [4] else []
def objectF (c : CfD) (x k o : Int) : Int := if needL k = [] then 0 else if o < 0 ∨ (c.nO : Int) ≤ o then 4 else if (needL k).contains (c.ob o.toNat 0) = false then 12 else if k = 1 ∨ k = 14 ∨ k = 3 then whenF (x != c.ob o.toNat 4) 10 else if k = 2 ∨ k = 15 ∨ k = 4 then whenF (x != c.ob o.toNat 5) 10 else 0
theorem obj1_l (c : CfD) (x o : Int) (v : Nat → Int) (n : Int) (w : World) (hc : CfIn w c) (ho : c.Ok) (h : o < 0) : Calls Try.prog 38 #[.agg c.cells, .int .i64 x, .agg (callC 1 o v n)] w fun e w' => e = .returned (.int .i64 (objectF c x 1 o)) ∧ Keeps (fun _ => False) w w' := by
  have HV := Lib.hid (show objectF c x 1 o = 4 from by unfold objectF; rw [if_neg (by decide), if_pos (by omega)])
  have HB := Lib.hid (((Has.start w).alloc (.cells c.cells 46)).alloc (.cells (callC 1 o v n) 59) |>.eq (M := [(w.heap.size + 1, .cells (callC 1 o v n) 59 (0, 0)), (w.heap.size, .cells c.cells 46 (0, 0))]) (by simp))
  have d0 : decide (o < 0) = true := decide_eq_true h
  clear h hc ho
  go_enter Try.func38, Try.ntmps38
  go_wp2_with fail
  refine (needs_1 _).mono ?_
  rintro e w2 ⟨b, rfl, hN, k2⟩
  replace HB := Lib.hid (HB.out.none k2)
  clear k2
  obtain ⟨e0, e1, e2, e3⟩ := four_cells (HB.out.at 1 rfl)
  obtain ⟨z0, z1, z2, z3, z4, z5, z6⟩ := seven_at (HB.out.at 0 rfl)
  go_wp2
  go_ret
  exact ⟨ret_i64 HV.out.symm, HB.out.keeps⟩
theorem obj1_h (c : CfD) (x o : Int) (v : Nat → Int) (n : Int) (w : World) (hc : CfIn w c) (ho : c.Ok) (h : ¬ o < 0 ∧ (c.nO : Int) ≤ o) : Calls Try.prog 38 #[.agg c.cells, .int .i64 x, .agg (callC 1 o v n)] w fun e w' => e = .returned (.int .i64 (objectF c x 1 o)) ∧ Keeps (fun _ => False) w w' := by
  have HV := Lib.hid (show objectF c x 1 o = 4 from by unfold objectF; rw [if_neg (by decide), if_pos (by omega)])
  have HB := Lib.hid (((Has.start w).alloc (.cells c.cells 46)).alloc (.cells (callC 1 o v n) 59) |>.eq (M := [(w.heap.size + 1, .cells (callC 1 o v n) 59 (0, 0)), (w.heap.size, .cells c.cells 46 (0, 0))]) (by simp))
  have d0 : decide (o < 0) = false := decide_eq_false h.1
  have d1 : decide ((c.nO : Int) ≤ o) = true := decide_eq_true h.2
  clear h hc ho
  go_enter Try.func38, Try.ntmps38
  go_wp2_with fail
  refine (needs_1 _).mono ?_
  rintro e w2 ⟨b, rfl, hN, k2⟩
  replace HB := Lib.hid (HB.out.none k2)
  clear k2
  obtain ⟨e0, e1, e2, e3⟩ := four_cells (HB.out.at 1 rfl)
  obtain ⟨z0, z1, z2, z3, z4, z5, z6⟩ := seven_at (HB.out.at 0 rfl)
  go_wp2
  go_ret
  exact ⟨ret_i64 HV.out.symm, HB.out.keeps⟩
theorem obj1_m (c : CfD) (x : Int) (i : Nat) (v : Nat → Int) (n : Int) (w : World) (hc : CfIn w c) (ho : c.Ok) (hi : i < c.nO) : Calls Try.prog 38 #[.agg c.cells, .int .i64 x, .agg (callC 1 (i : Int) v n)] w fun e w' => e = .returned (.int .i64 (objectF c x 1 (i : Int))) ∧ Keeps (fun _ => False) w w' := by
  have d0 : decide ((i : Int) < 0) = false := decide_eq_false (by omega)
  have d1 : decide ((c.nO : Int) ≤ (i : Int)) = false := decide_eq_false (by omega)
  have hlim := ho.o
  unfold maxLen at hlim
  have HB := Lib.hid (((Has.start w).alloc (.cells c.cells 46)).alloc (.cells (callC 1 (i : Int) v n) 59) |>.eq (M := [(w.heap.size + 1, .cells (callC 1 (i : Int) v n) 59 (0, 0)), (w.heap.size, .cells c.cells 46 (0, 0))]) (by simp))
  obtain ⟨bb, off, hta, hbl, hrow⟩ := hc.o (by omega)
  have HRW := Lib.hid (show ∀ w', Keeps (fun _ => False) w w' → ∀ j, j < 10 → w'.cell? ⟨bb, off + i * 10 + j, none⟩ = (c.obj i)[j]? from fun w' kk j hj => (kk.none.cell (p := ⟨bb, off + i * 10 + j, none⟩) hbl).trans (hrow i hi j hj))
  have HBL := Lib.hid hbl
  have HTA := Lib.hid hta
  have HV := Lib.hid (show objectF c x 1 (i : Int) = if ((c.ob i 0 == 1)) = false then 12 else whenF (x != c.ob i 4) 10 from by unfold objectF; rw [if_neg (by decide), if_neg (by omega)]; simp [needL])
  clear hrow hbl hta hc ho
  generalize hob : c.ob i = ob at *
  generalize hoi : c.oi i = oi at *
  have HOB := Lib.hid (And.intro hob hoi)
  clear hob hoi
  go_enter Try.func38, Try.ntmps38
  go_wp2_with fail
  refine (needs_1 _).mono ?_
  rintro e w2 ⟨b, rfl, hN, k2⟩
  replace HB := Lib.hid (HB.out.none k2)
  clear k2
  obtain ⟨e0, e1, e2, e3⟩ := four_cells (HB.out.at 1 rfl)
  obtain ⟨z0, z1, z2, z3, z4, z5, z6⟩ := seven_at (HB.out.at 0 rfl)
  rw [HTA.out] at e2
  have hr := HRW.out w2 HB.out.keeps
  rw [show c.obj i = objC ob oi from by unfold CfD.obj objC; rw [HOB.out.1, HOB.out.2]] at hr
  have c0 : w2.cell? ⟨bb, off + i * 10, none⟩ = some (.int .i64 (ob 0)) := hr 0 (by omega)
  have c1 : w2.cell? ⟨bb, off + i * 10 + 1, none⟩ = some (.int .i64 (ob 1)) := hr 1 (by omega)
  have c2 : w2.cell? ⟨bb, off + i * 10 + 2, none⟩ = some (.int .i64 (ob 2)) := hr 2 (by omega)
  have c3 : w2.cell? ⟨bb, off + i * 10 + 3, none⟩ = some (.int .i64 (ob 3)) := hr 3 (by omega)
  have c4 : w2.cell? ⟨bb, off + i * 10 + 4, none⟩ = some (.int .i64 (ob 4)) := hr 4 (by omega)
  have c5 : w2.cell? ⟨bb, off + i * 10 + 5, none⟩ = some (.int .i64 (ob 5)) := hr 5 (by omega)
  have c6 : w2.cell? ⟨bb, off + i * 10 + 6, none⟩ = some (.int .u32 (oi 0)) := hr 6 (by omega)
  have c7 : w2.cell? ⟨bb, off + i * 10 + 7, none⟩ = some (.int .u32 (oi 1)) := hr 7 (by omega)
  have c8 : w2.cell? ⟨bb, off + i * 10 + 8, none⟩ = some (.int .u32 (oi 2)) := hr 8 (by omega)
  have c9 : w2.cell? ⟨bb, off + i * 10 + 9, none⟩ = some (.int .u32 (oi 3)) := hr 9 (by omega)
  have HN := Lib.hid (heap_old hN (.cells (objC ob oi) 63))
  replace HB := Lib.hid (HB.out.alloc (.cells (objC ob oi) 63))
  clear hr hN
  go_wp2_with fail
  refine (cont1 b 1 1 (ob 0) _ (cell_of HN.out 0) (lt_of HN.out)).mono ?_
  rintro e w3 ⟨rfl, k3⟩
  replace HB := Lib.hid (HB.out.none k3)
  clear k3 c0 c1 c2 c3 c4 c5 c6 c7 c8 c9 e0 e1 e2 e3 z0 z1 z2 z3 z4 z5 z6
  obtain ⟨x0, x1, x2, x3, x4, x5, x6, x7, x8, x9⟩ := ten_cells (HB.out.at 0 rfl)
  obtain ⟨z0, z1, z2, z3, z4, z5, z6⟩ := seven_at (HB.out.at 1 rfl)
  rcases hq : ((ob 0 == 1))
  · have HVV := Lib.hid (show objectF c x 1 (i : Int) = 12 from by rw [HV.out, hq]; rfl)
    go_wp2
    go_ret
    exact ⟨ret_i64 HVV.out.symm, HB.out.keeps⟩
  · have HVV := Lib.hid (show objectF c x 1 (i : Int) = whenF (x != ob 4) 10 from by rw [HV.out, hq]; rfl)
    go_wp2_with fail
    refine (when_any _ _ _).mono ?_
    rintro e w4 ⟨rfl, k4⟩
    go_wp2
    go_ret
    exact ⟨ret_i64 HVV.out.symm, HB.out.keeps.trans k4⟩
theorem obj1_any (c : CfD) (x o : Int) (v : Nat → Int) (n : Int) (w : World) (hc : CfIn w c) (ho : c.Ok) : Calls Try.prog 38 #[.agg c.cells, .int .i64 x, .agg (callC 1 o v n)] w fun e w' => e = .returned (.int .i64 (objectF c x 1 o)) ∧ Keeps (fun _ => False) w w' := by
  by_cases h1 : o < 0
  · exact obj1_l c x o v n w hc ho h1
  by_cases h2 : (c.nO : Int) ≤ o
  · exact obj1_h c x o v n w hc ho ⟨h1, h2⟩
  obtain ⟨i, rfl⟩ : ∃ i : Nat, o = (i : Int) := ⟨o.toNat, by omega⟩
  exact obj1_m c x i v n w hc ho (by omega)
theorem obj2_l (c : CfD) (x o : Int) (v : Nat → Int) (n : Int) (w : World) (hc : CfIn w c) (ho : c.Ok) (h : o < 0) : Calls Try.prog 38 #[.agg c.cells, .int .i64 x, .agg (callC 2 o v n)] w fun e w' => e = .returned (.int .i64 (objectF c x 2 o)) ∧ Keeps (fun _ => False) w w' := by
  have HV := Lib.hid (show objectF c x 2 o = 4 from by unfold objectF; rw [if_neg (by decide), if_pos (by omega)])
  have HB := Lib.hid (((Has.start w).alloc (.cells c.cells 46)).alloc (.cells (callC 2 o v n) 59) |>.eq (M := [(w.heap.size + 1, .cells (callC 2 o v n) 59 (0, 0)), (w.heap.size, .cells c.cells 46 (0, 0))]) (by simp))
  have d0 : decide (o < 0) = true := decide_eq_true h
  clear h hc ho
  go_enter Try.func38, Try.ntmps38
  go_wp2_with fail
  refine (needs_2 _).mono ?_
  rintro e w2 ⟨b, rfl, hN, k2⟩
  replace HB := Lib.hid (HB.out.none k2)
  clear k2
  obtain ⟨e0, e1, e2, e3⟩ := four_cells (HB.out.at 1 rfl)
  obtain ⟨z0, z1, z2, z3, z4, z5, z6⟩ := seven_at (HB.out.at 0 rfl)
  go_wp2
  go_ret
  exact ⟨ret_i64 HV.out.symm, HB.out.keeps⟩
theorem obj2_h (c : CfD) (x o : Int) (v : Nat → Int) (n : Int) (w : World) (hc : CfIn w c) (ho : c.Ok) (h : ¬ o < 0 ∧ (c.nO : Int) ≤ o) : Calls Try.prog 38 #[.agg c.cells, .int .i64 x, .agg (callC 2 o v n)] w fun e w' => e = .returned (.int .i64 (objectF c x 2 o)) ∧ Keeps (fun _ => False) w w' := by
  have HV := Lib.hid (show objectF c x 2 o = 4 from by unfold objectF; rw [if_neg (by decide), if_pos (by omega)])
  have HB := Lib.hid (((Has.start w).alloc (.cells c.cells 46)).alloc (.cells (callC 2 o v n) 59) |>.eq (M := [(w.heap.size + 1, .cells (callC 2 o v n) 59 (0, 0)), (w.heap.size, .cells c.cells 46 (0, 0))]) (by simp))
  have d0 : decide (o < 0) = false := decide_eq_false h.1
  have d1 : decide ((c.nO : Int) ≤ o) = true := decide_eq_true h.2
  clear h hc ho
  go_enter Try.func38, Try.ntmps38
  go_wp2_with fail
  refine (needs_2 _).mono ?_
  rintro e w2 ⟨b, rfl, hN, k2⟩
  replace HB := Lib.hid (HB.out.none k2)
  clear k2
  obtain ⟨e0, e1, e2, e3⟩ := four_cells (HB.out.at 1 rfl)
  obtain ⟨z0, z1, z2, z3, z4, z5, z6⟩ := seven_at (HB.out.at 0 rfl)
  go_wp2
  go_ret
  exact ⟨ret_i64 HV.out.symm, HB.out.keeps⟩
theorem obj2_m (c : CfD) (x : Int) (i : Nat) (v : Nat → Int) (n : Int) (w : World) (hc : CfIn w c) (ho : c.Ok) (hi : i < c.nO) : Calls Try.prog 38 #[.agg c.cells, .int .i64 x, .agg (callC 2 (i : Int) v n)] w fun e w' => e = .returned (.int .i64 (objectF c x 2 (i : Int))) ∧ Keeps (fun _ => False) w w' := by
  have d0 : decide ((i : Int) < 0) = false := decide_eq_false (by omega)
  have d1 : decide ((c.nO : Int) ≤ (i : Int)) = false := decide_eq_false (by omega)
  have hlim := ho.o
  unfold maxLen at hlim
  have HB := Lib.hid (((Has.start w).alloc (.cells c.cells 46)).alloc (.cells (callC 2 (i : Int) v n) 59) |>.eq (M := [(w.heap.size + 1, .cells (callC 2 (i : Int) v n) 59 (0, 0)), (w.heap.size, .cells c.cells 46 (0, 0))]) (by simp))
  obtain ⟨bb, off, hta, hbl, hrow⟩ := hc.o (by omega)
  have HRW := Lib.hid (show ∀ w', Keeps (fun _ => False) w w' → ∀ j, j < 10 → w'.cell? ⟨bb, off + i * 10 + j, none⟩ = (c.obj i)[j]? from fun w' kk j hj => (kk.none.cell (p := ⟨bb, off + i * 10 + j, none⟩) hbl).trans (hrow i hi j hj))
  have HBL := Lib.hid hbl
  have HTA := Lib.hid hta
  have HV := Lib.hid (show objectF c x 2 (i : Int) = if ((c.ob i 0 == 1)) = false then 12 else whenF (x != c.ob i 5) 10 from by unfold objectF; rw [if_neg (by decide), if_neg (by omega)]; simp [needL])
  clear hrow hbl hta hc ho
  generalize hob : c.ob i = ob at *
  generalize hoi : c.oi i = oi at *
  have HOB := Lib.hid (And.intro hob hoi)
  clear hob hoi
  go_enter Try.func38, Try.ntmps38
  go_wp2_with fail
  refine (needs_2 _).mono ?_
  rintro e w2 ⟨b, rfl, hN, k2⟩
  replace HB := Lib.hid (HB.out.none k2)
  clear k2
  obtain ⟨e0, e1, e2, e3⟩ := four_cells (HB.out.at 1 rfl)
  obtain ⟨z0, z1, z2, z3, z4, z5, z6⟩ := seven_at (HB.out.at 0 rfl)
  rw [HTA.out] at e2
  have hr := HRW.out w2 HB.out.keeps
  rw [show c.obj i = objC ob oi from by unfold CfD.obj objC; rw [HOB.out.1, HOB.out.2]] at hr
  have c0 : w2.cell? ⟨bb, off + i * 10, none⟩ = some (.int .i64 (ob 0)) := hr 0 (by omega)
  have c1 : w2.cell? ⟨bb, off + i * 10 + 1, none⟩ = some (.int .i64 (ob 1)) := hr 1 (by omega)
  have c2 : w2.cell? ⟨bb, off + i * 10 + 2, none⟩ = some (.int .i64 (ob 2)) := hr 2 (by omega)
  have c3 : w2.cell? ⟨bb, off + i * 10 + 3, none⟩ = some (.int .i64 (ob 3)) := hr 3 (by omega)
  have c4 : w2.cell? ⟨bb, off + i * 10 + 4, none⟩ = some (.int .i64 (ob 4)) := hr 4 (by omega)
  have c5 : w2.cell? ⟨bb, off + i * 10 + 5, none⟩ = some (.int .i64 (ob 5)) := hr 5 (by omega)
  have c6 : w2.cell? ⟨bb, off + i * 10 + 6, none⟩ = some (.int .u32 (oi 0)) := hr 6 (by omega)
  have c7 : w2.cell? ⟨bb, off + i * 10 + 7, none⟩ = some (.int .u32 (oi 1)) := hr 7 (by omega)
  have c8 : w2.cell? ⟨bb, off + i * 10 + 8, none⟩ = some (.int .u32 (oi 2)) := hr 8 (by omega)
  have c9 : w2.cell? ⟨bb, off + i * 10 + 9, none⟩ = some (.int .u32 (oi 3)) := hr 9 (by omega)
  have HN := Lib.hid (heap_old hN (.cells (objC ob oi) 63))
  replace HB := Lib.hid (HB.out.alloc (.cells (objC ob oi) 63))
  clear hr hN
  go_wp2_with fail
  refine (cont1 b 1 1 (ob 0) _ (cell_of HN.out 0) (lt_of HN.out)).mono ?_
  rintro e w3 ⟨rfl, k3⟩
  replace HB := Lib.hid (HB.out.none k3)
  clear k3 c0 c1 c2 c3 c4 c5 c6 c7 c8 c9 e0 e1 e2 e3 z0 z1 z2 z3 z4 z5 z6
  obtain ⟨x0, x1, x2, x3, x4, x5, x6, x7, x8, x9⟩ := ten_cells (HB.out.at 0 rfl)
  obtain ⟨z0, z1, z2, z3, z4, z5, z6⟩ := seven_at (HB.out.at 1 rfl)
  rcases hq : ((ob 0 == 1))
  · have HVV := Lib.hid (show objectF c x 2 (i : Int) = 12 from by rw [HV.out, hq]; rfl)
    go_wp2
    go_ret
    exact ⟨ret_i64 HVV.out.symm, HB.out.keeps⟩
  · have HVV := Lib.hid (show objectF c x 2 (i : Int) = whenF (x != ob 5) 10 from by rw [HV.out, hq]; rfl)
    go_wp2_with fail
    refine (when_any _ _ _).mono ?_
    rintro e w4 ⟨rfl, k4⟩
    go_wp2
    go_ret
    exact ⟨ret_i64 HVV.out.symm, HB.out.keeps.trans k4⟩
theorem obj2_any (c : CfD) (x o : Int) (v : Nat → Int) (n : Int) (w : World) (hc : CfIn w c) (ho : c.Ok) : Calls Try.prog 38 #[.agg c.cells, .int .i64 x, .agg (callC 2 o v n)] w fun e w' => e = .returned (.int .i64 (objectF c x 2 o)) ∧ Keeps (fun _ => False) w w' := by
  by_cases h1 : o < 0
  · exact obj2_l c x o v n w hc ho h1
  by_cases h2 : (c.nO : Int) ≤ o
  · exact obj2_h c x o v n w hc ho ⟨h1, h2⟩
  obtain ⟨i, rfl⟩ : ∃ i : Nat, o = (i : Int) := ⟨o.toNat, by omega⟩
  exact obj2_m c x i v n w hc ho (by omega)
theorem obj3_l (c : CfD) (x o : Int) (v : Nat → Int) (n : Int) (w : World) (hc : CfIn w c) (ho : c.Ok) (h : o < 0) : Calls Try.prog 38 #[.agg c.cells, .int .i64 x, .agg (callC 3 o v n)] w fun e w' => e = .returned (.int .i64 (objectF c x 3 o)) ∧ Keeps (fun _ => False) w w' := by
  have HV := Lib.hid (show objectF c x 3 o = 4 from by unfold objectF; rw [if_neg (by decide), if_pos (by omega)])
  have HB := Lib.hid (((Has.start w).alloc (.cells c.cells 46)).alloc (.cells (callC 3 o v n) 59) |>.eq (M := [(w.heap.size + 1, .cells (callC 3 o v n) 59 (0, 0)), (w.heap.size, .cells c.cells 46 (0, 0))]) (by simp))
  have d0 : decide (o < 0) = true := decide_eq_true h
  clear h hc ho
  go_enter Try.func38, Try.ntmps38
  go_wp2_with fail
  refine (needs_3 _).mono ?_
  rintro e w2 ⟨b, rfl, hN, k2⟩
  replace HB := Lib.hid (HB.out.none k2)
  clear k2
  obtain ⟨e0, e1, e2, e3⟩ := four_cells (HB.out.at 1 rfl)
  obtain ⟨z0, z1, z2, z3, z4, z5, z6⟩ := seven_at (HB.out.at 0 rfl)
  go_wp2
  go_ret
  exact ⟨ret_i64 HV.out.symm, HB.out.keeps⟩
theorem obj3_h (c : CfD) (x o : Int) (v : Nat → Int) (n : Int) (w : World) (hc : CfIn w c) (ho : c.Ok) (h : ¬ o < 0 ∧ (c.nO : Int) ≤ o) : Calls Try.prog 38 #[.agg c.cells, .int .i64 x, .agg (callC 3 o v n)] w fun e w' => e = .returned (.int .i64 (objectF c x 3 o)) ∧ Keeps (fun _ => False) w w' := by
  have HV := Lib.hid (show objectF c x 3 o = 4 from by unfold objectF; rw [if_neg (by decide), if_pos (by omega)])
  have HB := Lib.hid (((Has.start w).alloc (.cells c.cells 46)).alloc (.cells (callC 3 o v n) 59) |>.eq (M := [(w.heap.size + 1, .cells (callC 3 o v n) 59 (0, 0)), (w.heap.size, .cells c.cells 46 (0, 0))]) (by simp))
  have d0 : decide (o < 0) = false := decide_eq_false h.1
  have d1 : decide ((c.nO : Int) ≤ o) = true := decide_eq_true h.2
  clear h hc ho
  go_enter Try.func38, Try.ntmps38
  go_wp2_with fail
  refine (needs_3 _).mono ?_
  rintro e w2 ⟨b, rfl, hN, k2⟩
  replace HB := Lib.hid (HB.out.none k2)
  clear k2
  obtain ⟨e0, e1, e2, e3⟩ := four_cells (HB.out.at 1 rfl)
  obtain ⟨z0, z1, z2, z3, z4, z5, z6⟩ := seven_at (HB.out.at 0 rfl)
  go_wp2
  go_ret
  exact ⟨ret_i64 HV.out.symm, HB.out.keeps⟩
theorem obj3_m (c : CfD) (x : Int) (i : Nat) (v : Nat → Int) (n : Int) (w : World) (hc : CfIn w c) (ho : c.Ok) (hi : i < c.nO) : Calls Try.prog 38 #[.agg c.cells, .int .i64 x, .agg (callC 3 (i : Int) v n)] w fun e w' => e = .returned (.int .i64 (objectF c x 3 (i : Int))) ∧ Keeps (fun _ => False) w w' := by
  have d0 : decide ((i : Int) < 0) = false := decide_eq_false (by omega)
  have d1 : decide ((c.nO : Int) ≤ (i : Int)) = false := decide_eq_false (by omega)
  have hlim := ho.o
  unfold maxLen at hlim
  have HB := Lib.hid (((Has.start w).alloc (.cells c.cells 46)).alloc (.cells (callC 3 (i : Int) v n) 59) |>.eq (M := [(w.heap.size + 1, .cells (callC 3 (i : Int) v n) 59 (0, 0)), (w.heap.size, .cells c.cells 46 (0, 0))]) (by simp))
  obtain ⟨bb, off, hta, hbl, hrow⟩ := hc.o (by omega)
  have HRW := Lib.hid (show ∀ w', Keeps (fun _ => False) w w' → ∀ j, j < 10 → w'.cell? ⟨bb, off + i * 10 + j, none⟩ = (c.obj i)[j]? from fun w' kk j hj => (kk.none.cell (p := ⟨bb, off + i * 10 + j, none⟩) hbl).trans (hrow i hi j hj))
  have HBL := Lib.hid hbl
  have HTA := Lib.hid hta
  have HV := Lib.hid (show objectF c x 3 (i : Int) = if ((c.ob i 0 == 2) || (c.ob i 0 == 3)) = false then 12 else whenF (x != c.ob i 4) 10 from by unfold objectF; rw [if_neg (by decide), if_neg (by omega)]; simp [needL])
  clear hrow hbl hta hc ho
  generalize hob : c.ob i = ob at *
  generalize hoi : c.oi i = oi at *
  have HOB := Lib.hid (And.intro hob hoi)
  clear hob hoi
  go_enter Try.func38, Try.ntmps38
  go_wp2_with fail
  refine (needs_3 _).mono ?_
  rintro e w2 ⟨b, rfl, hN, k2⟩
  replace HB := Lib.hid (HB.out.none k2)
  clear k2
  obtain ⟨e0, e1, e2, e3⟩ := four_cells (HB.out.at 1 rfl)
  obtain ⟨z0, z1, z2, z3, z4, z5, z6⟩ := seven_at (HB.out.at 0 rfl)
  rw [HTA.out] at e2
  have hr := HRW.out w2 HB.out.keeps
  rw [show c.obj i = objC ob oi from by unfold CfD.obj objC; rw [HOB.out.1, HOB.out.2]] at hr
  have c0 : w2.cell? ⟨bb, off + i * 10, none⟩ = some (.int .i64 (ob 0)) := hr 0 (by omega)
  have c1 : w2.cell? ⟨bb, off + i * 10 + 1, none⟩ = some (.int .i64 (ob 1)) := hr 1 (by omega)
  have c2 : w2.cell? ⟨bb, off + i * 10 + 2, none⟩ = some (.int .i64 (ob 2)) := hr 2 (by omega)
  have c3 : w2.cell? ⟨bb, off + i * 10 + 3, none⟩ = some (.int .i64 (ob 3)) := hr 3 (by omega)
  have c4 : w2.cell? ⟨bb, off + i * 10 + 4, none⟩ = some (.int .i64 (ob 4)) := hr 4 (by omega)
  have c5 : w2.cell? ⟨bb, off + i * 10 + 5, none⟩ = some (.int .i64 (ob 5)) := hr 5 (by omega)
  have c6 : w2.cell? ⟨bb, off + i * 10 + 6, none⟩ = some (.int .u32 (oi 0)) := hr 6 (by omega)
  have c7 : w2.cell? ⟨bb, off + i * 10 + 7, none⟩ = some (.int .u32 (oi 1)) := hr 7 (by omega)
  have c8 : w2.cell? ⟨bb, off + i * 10 + 8, none⟩ = some (.int .u32 (oi 2)) := hr 8 (by omega)
  have c9 : w2.cell? ⟨bb, off + i * 10 + 9, none⟩ = some (.int .u32 (oi 3)) := hr 9 (by omega)
  have HN := Lib.hid (heap_old hN (.cells (objC ob oi) 63))
  replace HB := Lib.hid (HB.out.alloc (.cells (objC ob oi) 63))
  clear hr hN
  go_wp2_with fail
  refine (cont2 b 2 2 3 (ob 0) _ (cell_of HN.out 0) (cell_of HN.out 1) (lt_of HN.out)).mono ?_
  rintro e w3 ⟨rfl, k3⟩
  replace HB := Lib.hid (HB.out.none k3)
  clear k3 c0 c1 c2 c3 c4 c5 c6 c7 c8 c9 e0 e1 e2 e3 z0 z1 z2 z3 z4 z5 z6
  obtain ⟨x0, x1, x2, x3, x4, x5, x6, x7, x8, x9⟩ := ten_cells (HB.out.at 0 rfl)
  obtain ⟨z0, z1, z2, z3, z4, z5, z6⟩ := seven_at (HB.out.at 1 rfl)
  rcases hq : ((ob 0 == 2) || (ob 0 == 3))
  · have HVV := Lib.hid (show objectF c x 3 (i : Int) = 12 from by rw [HV.out, hq]; rfl)
    go_wp2
    go_ret
    exact ⟨ret_i64 HVV.out.symm, HB.out.keeps⟩
  · have HVV := Lib.hid (show objectF c x 3 (i : Int) = whenF (x != ob 4) 10 from by rw [HV.out, hq]; rfl)
    go_wp2_with fail
    refine (when_any _ _ _).mono ?_
    rintro e w4 ⟨rfl, k4⟩
    go_wp2
    go_ret
    exact ⟨ret_i64 HVV.out.symm, HB.out.keeps.trans k4⟩
theorem obj3_any (c : CfD) (x o : Int) (v : Nat → Int) (n : Int) (w : World) (hc : CfIn w c) (ho : c.Ok) : Calls Try.prog 38 #[.agg c.cells, .int .i64 x, .agg (callC 3 o v n)] w fun e w' => e = .returned (.int .i64 (objectF c x 3 o)) ∧ Keeps (fun _ => False) w w' := by
  by_cases h1 : o < 0
  · exact obj3_l c x o v n w hc ho h1
  by_cases h2 : (c.nO : Int) ≤ o
  · exact obj3_h c x o v n w hc ho ⟨h1, h2⟩
  obtain ⟨i, rfl⟩ : ∃ i : Nat, o = (i : Int) := ⟨o.toNat, by omega⟩
  exact obj3_m c x i v n w hc ho (by omega)
theorem obj4_l (c : CfD) (x o : Int) (v : Nat → Int) (n : Int) (w : World) (hc : CfIn w c) (ho : c.Ok) (h : o < 0) : Calls Try.prog 38 #[.agg c.cells, .int .i64 x, .agg (callC 4 o v n)] w fun e w' => e = .returned (.int .i64 (objectF c x 4 o)) ∧ Keeps (fun _ => False) w w' := by
  have HV := Lib.hid (show objectF c x 4 o = 4 from by unfold objectF; rw [if_neg (by decide), if_pos (by omega)])
  have HB := Lib.hid (((Has.start w).alloc (.cells c.cells 46)).alloc (.cells (callC 4 o v n) 59) |>.eq (M := [(w.heap.size + 1, .cells (callC 4 o v n) 59 (0, 0)), (w.heap.size, .cells c.cells 46 (0, 0))]) (by simp))
  have d0 : decide (o < 0) = true := decide_eq_true h
  clear h hc ho
  go_enter Try.func38, Try.ntmps38
  go_wp2_with fail
  refine (needs_4 _).mono ?_
  rintro e w2 ⟨b, rfl, hN, k2⟩
  replace HB := Lib.hid (HB.out.none k2)
  clear k2
  obtain ⟨e0, e1, e2, e3⟩ := four_cells (HB.out.at 1 rfl)
  obtain ⟨z0, z1, z2, z3, z4, z5, z6⟩ := seven_at (HB.out.at 0 rfl)
  go_wp2
  go_ret
  exact ⟨ret_i64 HV.out.symm, HB.out.keeps⟩
theorem obj4_h (c : CfD) (x o : Int) (v : Nat → Int) (n : Int) (w : World) (hc : CfIn w c) (ho : c.Ok) (h : ¬ o < 0 ∧ (c.nO : Int) ≤ o) : Calls Try.prog 38 #[.agg c.cells, .int .i64 x, .agg (callC 4 o v n)] w fun e w' => e = .returned (.int .i64 (objectF c x 4 o)) ∧ Keeps (fun _ => False) w w' := by
  have HV := Lib.hid (show objectF c x 4 o = 4 from by unfold objectF; rw [if_neg (by decide), if_pos (by omega)])
  have HB := Lib.hid (((Has.start w).alloc (.cells c.cells 46)).alloc (.cells (callC 4 o v n) 59) |>.eq (M := [(w.heap.size + 1, .cells (callC 4 o v n) 59 (0, 0)), (w.heap.size, .cells c.cells 46 (0, 0))]) (by simp))
  have d0 : decide (o < 0) = false := decide_eq_false h.1
  have d1 : decide ((c.nO : Int) ≤ o) = true := decide_eq_true h.2
  clear h hc ho
  go_enter Try.func38, Try.ntmps38
  go_wp2_with fail
  refine (needs_4 _).mono ?_
  rintro e w2 ⟨b, rfl, hN, k2⟩
  replace HB := Lib.hid (HB.out.none k2)
  clear k2
  obtain ⟨e0, e1, e2, e3⟩ := four_cells (HB.out.at 1 rfl)
  obtain ⟨z0, z1, z2, z3, z4, z5, z6⟩ := seven_at (HB.out.at 0 rfl)
  go_wp2
  go_ret
  exact ⟨ret_i64 HV.out.symm, HB.out.keeps⟩
theorem obj4_m (c : CfD) (x : Int) (i : Nat) (v : Nat → Int) (n : Int) (w : World) (hc : CfIn w c) (ho : c.Ok) (hi : i < c.nO) : Calls Try.prog 38 #[.agg c.cells, .int .i64 x, .agg (callC 4 (i : Int) v n)] w fun e w' => e = .returned (.int .i64 (objectF c x 4 (i : Int))) ∧ Keeps (fun _ => False) w w' := by
  have d0 : decide ((i : Int) < 0) = false := decide_eq_false (by omega)
  have d1 : decide ((c.nO : Int) ≤ (i : Int)) = false := decide_eq_false (by omega)
  have hlim := ho.o
  unfold maxLen at hlim
  have HB := Lib.hid (((Has.start w).alloc (.cells c.cells 46)).alloc (.cells (callC 4 (i : Int) v n) 59) |>.eq (M := [(w.heap.size + 1, .cells (callC 4 (i : Int) v n) 59 (0, 0)), (w.heap.size, .cells c.cells 46 (0, 0))]) (by simp))
  obtain ⟨bb, off, hta, hbl, hrow⟩ := hc.o (by omega)
  have HRW := Lib.hid (show ∀ w', Keeps (fun _ => False) w w' → ∀ j, j < 10 → w'.cell? ⟨bb, off + i * 10 + j, none⟩ = (c.obj i)[j]? from fun w' kk j hj => (kk.none.cell (p := ⟨bb, off + i * 10 + j, none⟩) hbl).trans (hrow i hi j hj))
  have HBL := Lib.hid hbl
  have HTA := Lib.hid hta
  have HV := Lib.hid (show objectF c x 4 (i : Int) = if ((c.ob i 0 == 2)) = false then 12 else whenF (x != c.ob i 5) 10 from by unfold objectF; rw [if_neg (by decide), if_neg (by omega)]; simp [needL])
  clear hrow hbl hta hc ho
  generalize hob : c.ob i = ob at *
  generalize hoi : c.oi i = oi at *
  have HOB := Lib.hid (And.intro hob hoi)
  clear hob hoi
  go_enter Try.func38, Try.ntmps38
  go_wp2_with fail
  refine (needs_4 _).mono ?_
  rintro e w2 ⟨b, rfl, hN, k2⟩
  replace HB := Lib.hid (HB.out.none k2)
  clear k2
  obtain ⟨e0, e1, e2, e3⟩ := four_cells (HB.out.at 1 rfl)
  obtain ⟨z0, z1, z2, z3, z4, z5, z6⟩ := seven_at (HB.out.at 0 rfl)
  rw [HTA.out] at e2
  have hr := HRW.out w2 HB.out.keeps
  rw [show c.obj i = objC ob oi from by unfold CfD.obj objC; rw [HOB.out.1, HOB.out.2]] at hr
  have c0 : w2.cell? ⟨bb, off + i * 10, none⟩ = some (.int .i64 (ob 0)) := hr 0 (by omega)
  have c1 : w2.cell? ⟨bb, off + i * 10 + 1, none⟩ = some (.int .i64 (ob 1)) := hr 1 (by omega)
  have c2 : w2.cell? ⟨bb, off + i * 10 + 2, none⟩ = some (.int .i64 (ob 2)) := hr 2 (by omega)
  have c3 : w2.cell? ⟨bb, off + i * 10 + 3, none⟩ = some (.int .i64 (ob 3)) := hr 3 (by omega)
  have c4 : w2.cell? ⟨bb, off + i * 10 + 4, none⟩ = some (.int .i64 (ob 4)) := hr 4 (by omega)
  have c5 : w2.cell? ⟨bb, off + i * 10 + 5, none⟩ = some (.int .i64 (ob 5)) := hr 5 (by omega)
  have c6 : w2.cell? ⟨bb, off + i * 10 + 6, none⟩ = some (.int .u32 (oi 0)) := hr 6 (by omega)
  have c7 : w2.cell? ⟨bb, off + i * 10 + 7, none⟩ = some (.int .u32 (oi 1)) := hr 7 (by omega)
  have c8 : w2.cell? ⟨bb, off + i * 10 + 8, none⟩ = some (.int .u32 (oi 2)) := hr 8 (by omega)
  have c9 : w2.cell? ⟨bb, off + i * 10 + 9, none⟩ = some (.int .u32 (oi 3)) := hr 9 (by omega)
  have HN := Lib.hid (heap_old hN (.cells (objC ob oi) 63))
  replace HB := Lib.hid (HB.out.alloc (.cells (objC ob oi) 63))
  clear hr hN
  go_wp2_with fail
  refine (cont1 b 1 2 (ob 0) _ (cell_of HN.out 0) (lt_of HN.out)).mono ?_
  rintro e w3 ⟨rfl, k3⟩
  replace HB := Lib.hid (HB.out.none k3)
  clear k3 c0 c1 c2 c3 c4 c5 c6 c7 c8 c9 e0 e1 e2 e3 z0 z1 z2 z3 z4 z5 z6
  obtain ⟨x0, x1, x2, x3, x4, x5, x6, x7, x8, x9⟩ := ten_cells (HB.out.at 0 rfl)
  obtain ⟨z0, z1, z2, z3, z4, z5, z6⟩ := seven_at (HB.out.at 1 rfl)
  rcases hq : ((ob 0 == 2))
  · have HVV := Lib.hid (show objectF c x 4 (i : Int) = 12 from by rw [HV.out, hq]; rfl)
    go_wp2
    go_ret
    exact ⟨ret_i64 HVV.out.symm, HB.out.keeps⟩
  · have HVV := Lib.hid (show objectF c x 4 (i : Int) = whenF (x != ob 5) 10 from by rw [HV.out, hq]; rfl)
    go_wp2_with fail
    refine (when_any _ _ _).mono ?_
    rintro e w4 ⟨rfl, k4⟩
    go_wp2
    go_ret
    exact ⟨ret_i64 HVV.out.symm, HB.out.keeps.trans k4⟩
theorem obj4_any (c : CfD) (x o : Int) (v : Nat → Int) (n : Int) (w : World) (hc : CfIn w c) (ho : c.Ok) : Calls Try.prog 38 #[.agg c.cells, .int .i64 x, .agg (callC 4 o v n)] w fun e w' => e = .returned (.int .i64 (objectF c x 4 o)) ∧ Keeps (fun _ => False) w w' := by
  by_cases h1 : o < 0
  · exact obj4_l c x o v n w hc ho h1
  by_cases h2 : (c.nO : Int) ≤ o
  · exact obj4_h c x o v n w hc ho ⟨h1, h2⟩
  obtain ⟨i, rfl⟩ : ∃ i : Nat, o = (i : Int) := ⟨o.toNat, by omega⟩
  exact obj4_m c x i v n w hc ho (by omega)
theorem obj5_l (c : CfD) (x o : Int) (v : Nat → Int) (n : Int) (w : World) (hc : CfIn w c) (ho : c.Ok) (h : o < 0) : Calls Try.prog 38 #[.agg c.cells, .int .i64 x, .agg (callC 5 o v n)] w fun e w' => e = .returned (.int .i64 (objectF c x 5 o)) ∧ Keeps (fun _ => False) w w' := by
  have HV := Lib.hid (show objectF c x 5 o = 4 from by unfold objectF; rw [if_neg (by decide), if_pos (by omega)])
  have HB := Lib.hid (((Has.start w).alloc (.cells c.cells 46)).alloc (.cells (callC 5 o v n) 59) |>.eq (M := [(w.heap.size + 1, .cells (callC 5 o v n) 59 (0, 0)), (w.heap.size, .cells c.cells 46 (0, 0))]) (by simp))
  have d0 : decide (o < 0) = true := decide_eq_true h
  clear h hc ho
  go_enter Try.func38, Try.ntmps38
  go_wp2_with fail
  refine (needs_5 _).mono ?_
  rintro e w2 ⟨b, rfl, hN, k2⟩
  replace HB := Lib.hid (HB.out.none k2)
  clear k2
  obtain ⟨e0, e1, e2, e3⟩ := four_cells (HB.out.at 1 rfl)
  obtain ⟨z0, z1, z2, z3, z4, z5, z6⟩ := seven_at (HB.out.at 0 rfl)
  go_wp2
  go_ret
  exact ⟨ret_i64 HV.out.symm, HB.out.keeps⟩
theorem obj5_h (c : CfD) (x o : Int) (v : Nat → Int) (n : Int) (w : World) (hc : CfIn w c) (ho : c.Ok) (h : ¬ o < 0 ∧ (c.nO : Int) ≤ o) : Calls Try.prog 38 #[.agg c.cells, .int .i64 x, .agg (callC 5 o v n)] w fun e w' => e = .returned (.int .i64 (objectF c x 5 o)) ∧ Keeps (fun _ => False) w w' := by
  have HV := Lib.hid (show objectF c x 5 o = 4 from by unfold objectF; rw [if_neg (by decide), if_pos (by omega)])
  have HB := Lib.hid (((Has.start w).alloc (.cells c.cells 46)).alloc (.cells (callC 5 o v n) 59) |>.eq (M := [(w.heap.size + 1, .cells (callC 5 o v n) 59 (0, 0)), (w.heap.size, .cells c.cells 46 (0, 0))]) (by simp))
  have d0 : decide (o < 0) = false := decide_eq_false h.1
  have d1 : decide ((c.nO : Int) ≤ o) = true := decide_eq_true h.2
  clear h hc ho
  go_enter Try.func38, Try.ntmps38
  go_wp2_with fail
  refine (needs_5 _).mono ?_
  rintro e w2 ⟨b, rfl, hN, k2⟩
  replace HB := Lib.hid (HB.out.none k2)
  clear k2
  obtain ⟨e0, e1, e2, e3⟩ := four_cells (HB.out.at 1 rfl)
  obtain ⟨z0, z1, z2, z3, z4, z5, z6⟩ := seven_at (HB.out.at 0 rfl)
  go_wp2
  go_ret
  exact ⟨ret_i64 HV.out.symm, HB.out.keeps⟩
theorem obj5_m (c : CfD) (x : Int) (i : Nat) (v : Nat → Int) (n : Int) (w : World) (hc : CfIn w c) (ho : c.Ok) (hi : i < c.nO) : Calls Try.prog 38 #[.agg c.cells, .int .i64 x, .agg (callC 5 (i : Int) v n)] w fun e w' => e = .returned (.int .i64 (objectF c x 5 (i : Int))) ∧ Keeps (fun _ => False) w w' := by
  have d0 : decide ((i : Int) < 0) = false := decide_eq_false (by omega)
  have d1 : decide ((c.nO : Int) ≤ (i : Int)) = false := decide_eq_false (by omega)
  have hlim := ho.o
  unfold maxLen at hlim
  have HB := Lib.hid (((Has.start w).alloc (.cells c.cells 46)).alloc (.cells (callC 5 (i : Int) v n) 59) |>.eq (M := [(w.heap.size + 1, .cells (callC 5 (i : Int) v n) 59 (0, 0)), (w.heap.size, .cells c.cells 46 (0, 0))]) (by simp))
  obtain ⟨bb, off, hta, hbl, hrow⟩ := hc.o (by omega)
  have HRW := Lib.hid (show ∀ w', Keeps (fun _ => False) w w' → ∀ j, j < 10 → w'.cell? ⟨bb, off + i * 10 + j, none⟩ = (c.obj i)[j]? from fun w' kk j hj => (kk.none.cell (p := ⟨bb, off + i * 10 + j, none⟩) hbl).trans (hrow i hi j hj))
  have HBL := Lib.hid hbl
  have HTA := Lib.hid hta
  have HV := Lib.hid (show objectF c x 5 (i : Int) = if ((c.ob i 0 == 3)) = false then 12 else 0 from by unfold objectF; rw [if_neg (by decide), if_neg (by omega)]; simp [needL])
  clear hrow hbl hta hc ho
  generalize hob : c.ob i = ob at *
  generalize hoi : c.oi i = oi at *
  have HOB := Lib.hid (And.intro hob hoi)
  clear hob hoi
  go_enter Try.func38, Try.ntmps38
  go_wp2_with fail
  refine (needs_5 _).mono ?_
  rintro e w2 ⟨b, rfl, hN, k2⟩
  replace HB := Lib.hid (HB.out.none k2)
  clear k2
  obtain ⟨e0, e1, e2, e3⟩ := four_cells (HB.out.at 1 rfl)
  obtain ⟨z0, z1, z2, z3, z4, z5, z6⟩ := seven_at (HB.out.at 0 rfl)
  rw [HTA.out] at e2
  have hr := HRW.out w2 HB.out.keeps
  rw [show c.obj i = objC ob oi from by unfold CfD.obj objC; rw [HOB.out.1, HOB.out.2]] at hr
  have c0 : w2.cell? ⟨bb, off + i * 10, none⟩ = some (.int .i64 (ob 0)) := hr 0 (by omega)
  have c1 : w2.cell? ⟨bb, off + i * 10 + 1, none⟩ = some (.int .i64 (ob 1)) := hr 1 (by omega)
  have c2 : w2.cell? ⟨bb, off + i * 10 + 2, none⟩ = some (.int .i64 (ob 2)) := hr 2 (by omega)
  have c3 : w2.cell? ⟨bb, off + i * 10 + 3, none⟩ = some (.int .i64 (ob 3)) := hr 3 (by omega)
  have c4 : w2.cell? ⟨bb, off + i * 10 + 4, none⟩ = some (.int .i64 (ob 4)) := hr 4 (by omega)
  have c5 : w2.cell? ⟨bb, off + i * 10 + 5, none⟩ = some (.int .i64 (ob 5)) := hr 5 (by omega)
  have c6 : w2.cell? ⟨bb, off + i * 10 + 6, none⟩ = some (.int .u32 (oi 0)) := hr 6 (by omega)
  have c7 : w2.cell? ⟨bb, off + i * 10 + 7, none⟩ = some (.int .u32 (oi 1)) := hr 7 (by omega)
  have c8 : w2.cell? ⟨bb, off + i * 10 + 8, none⟩ = some (.int .u32 (oi 2)) := hr 8 (by omega)
  have c9 : w2.cell? ⟨bb, off + i * 10 + 9, none⟩ = some (.int .u32 (oi 3)) := hr 9 (by omega)
  have HN := Lib.hid (heap_old hN (.cells (objC ob oi) 63))
  replace HB := Lib.hid (HB.out.alloc (.cells (objC ob oi) 63))
  clear hr hN
  go_wp2_with fail
  refine (cont1 b 1 3 (ob 0) _ (cell_of HN.out 0) (lt_of HN.out)).mono ?_
  rintro e w3 ⟨rfl, k3⟩
  replace HB := Lib.hid (HB.out.none k3)
  clear k3 c0 c1 c2 c3 c4 c5 c6 c7 c8 c9 e0 e1 e2 e3 z0 z1 z2 z3 z4 z5 z6
  obtain ⟨x0, x1, x2, x3, x4, x5, x6, x7, x8, x9⟩ := ten_cells (HB.out.at 0 rfl)
  obtain ⟨z0, z1, z2, z3, z4, z5, z6⟩ := seven_at (HB.out.at 1 rfl)
  rcases hq : ((ob 0 == 3))
  · have HVV := Lib.hid (show objectF c x 5 (i : Int) = 12 from by rw [HV.out, hq]; rfl)
    go_wp2
    go_ret
    exact ⟨ret_i64 HVV.out.symm, HB.out.keeps⟩
  · have HVV := Lib.hid (show objectF c x 5 (i : Int) = 0 from by rw [HV.out, hq]; rfl)
    go_wp2
    go_ret
    exact ⟨ret_i64 HVV.out.symm, HB.out.keeps⟩
theorem obj5_any (c : CfD) (x o : Int) (v : Nat → Int) (n : Int) (w : World) (hc : CfIn w c) (ho : c.Ok) : Calls Try.prog 38 #[.agg c.cells, .int .i64 x, .agg (callC 5 o v n)] w fun e w' => e = .returned (.int .i64 (objectF c x 5 o)) ∧ Keeps (fun _ => False) w w' := by
  by_cases h1 : o < 0
  · exact obj5_l c x o v n w hc ho h1
  by_cases h2 : (c.nO : Int) ≤ o
  · exact obj5_h c x o v n w hc ho ⟨h1, h2⟩
  obtain ⟨i, rfl⟩ : ∃ i : Nat, o = (i : Int) := ⟨o.toNat, by omega⟩
  exact obj5_m c x i v n w hc ho (by omega)
theorem obj6_l (c : CfD) (x o : Int) (v : Nat → Int) (n : Int) (w : World) (hc : CfIn w c) (ho : c.Ok) (h : o < 0) : Calls Try.prog 38 #[.agg c.cells, .int .i64 x, .agg (callC 6 o v n)] w fun e w' => e = .returned (.int .i64 (objectF c x 6 o)) ∧ Keeps (fun _ => False) w w' := by
  have HV := Lib.hid (show objectF c x 6 o = 4 from by unfold objectF; rw [if_neg (by decide), if_pos (by omega)])
  have HB := Lib.hid (((Has.start w).alloc (.cells c.cells 46)).alloc (.cells (callC 6 o v n) 59) |>.eq (M := [(w.heap.size + 1, .cells (callC 6 o v n) 59 (0, 0)), (w.heap.size, .cells c.cells 46 (0, 0))]) (by simp))
  have d0 : decide (o < 0) = true := decide_eq_true h
  clear h hc ho
  go_enter Try.func38, Try.ntmps38
  go_wp2_with fail
  refine (needs_6 _).mono ?_
  rintro e w2 ⟨b, rfl, hN, k2⟩
  replace HB := Lib.hid (HB.out.none k2)
  clear k2
  obtain ⟨e0, e1, e2, e3⟩ := four_cells (HB.out.at 1 rfl)
  obtain ⟨z0, z1, z2, z3, z4, z5, z6⟩ := seven_at (HB.out.at 0 rfl)
  go_wp2
  go_ret
  exact ⟨ret_i64 HV.out.symm, HB.out.keeps⟩
theorem obj6_h (c : CfD) (x o : Int) (v : Nat → Int) (n : Int) (w : World) (hc : CfIn w c) (ho : c.Ok) (h : ¬ o < 0 ∧ (c.nO : Int) ≤ o) : Calls Try.prog 38 #[.agg c.cells, .int .i64 x, .agg (callC 6 o v n)] w fun e w' => e = .returned (.int .i64 (objectF c x 6 o)) ∧ Keeps (fun _ => False) w w' := by
  have HV := Lib.hid (show objectF c x 6 o = 4 from by unfold objectF; rw [if_neg (by decide), if_pos (by omega)])
  have HB := Lib.hid (((Has.start w).alloc (.cells c.cells 46)).alloc (.cells (callC 6 o v n) 59) |>.eq (M := [(w.heap.size + 1, .cells (callC 6 o v n) 59 (0, 0)), (w.heap.size, .cells c.cells 46 (0, 0))]) (by simp))
  have d0 : decide (o < 0) = false := decide_eq_false h.1
  have d1 : decide ((c.nO : Int) ≤ o) = true := decide_eq_true h.2
  clear h hc ho
  go_enter Try.func38, Try.ntmps38
  go_wp2_with fail
  refine (needs_6 _).mono ?_
  rintro e w2 ⟨b, rfl, hN, k2⟩
  replace HB := Lib.hid (HB.out.none k2)
  clear k2
  obtain ⟨e0, e1, e2, e3⟩ := four_cells (HB.out.at 1 rfl)
  obtain ⟨z0, z1, z2, z3, z4, z5, z6⟩ := seven_at (HB.out.at 0 rfl)
  go_wp2
  go_ret
  exact ⟨ret_i64 HV.out.symm, HB.out.keeps⟩
theorem obj6_m (c : CfD) (x : Int) (i : Nat) (v : Nat → Int) (n : Int) (w : World) (hc : CfIn w c) (ho : c.Ok) (hi : i < c.nO) : Calls Try.prog 38 #[.agg c.cells, .int .i64 x, .agg (callC 6 (i : Int) v n)] w fun e w' => e = .returned (.int .i64 (objectF c x 6 (i : Int))) ∧ Keeps (fun _ => False) w w' := by
  have d0 : decide ((i : Int) < 0) = false := decide_eq_false (by omega)
  have d1 : decide ((c.nO : Int) ≤ (i : Int)) = false := decide_eq_false (by omega)
  have hlim := ho.o
  unfold maxLen at hlim
  have HB := Lib.hid (((Has.start w).alloc (.cells c.cells 46)).alloc (.cells (callC 6 (i : Int) v n) 59) |>.eq (M := [(w.heap.size + 1, .cells (callC 6 (i : Int) v n) 59 (0, 0)), (w.heap.size, .cells c.cells 46 (0, 0))]) (by simp))
  obtain ⟨bb, off, hta, hbl, hrow⟩ := hc.o (by omega)
  have HRW := Lib.hid (show ∀ w', Keeps (fun _ => False) w w' → ∀ j, j < 10 → w'.cell? ⟨bb, off + i * 10 + j, none⟩ = (c.obj i)[j]? from fun w' kk j hj => (kk.none.cell (p := ⟨bb, off + i * 10 + j, none⟩) hbl).trans (hrow i hi j hj))
  have HBL := Lib.hid hbl
  have HTA := Lib.hid hta
  have HV := Lib.hid (show objectF c x 6 (i : Int) = if ((c.ob i 0 == 3)) = false then 12 else 0 from by unfold objectF; rw [if_neg (by decide), if_neg (by omega)]; simp [needL])
  clear hrow hbl hta hc ho
  generalize hob : c.ob i = ob at *
  generalize hoi : c.oi i = oi at *
  have HOB := Lib.hid (And.intro hob hoi)
  clear hob hoi
  go_enter Try.func38, Try.ntmps38
  go_wp2_with fail
  refine (needs_6 _).mono ?_
  rintro e w2 ⟨b, rfl, hN, k2⟩
  replace HB := Lib.hid (HB.out.none k2)
  clear k2
  obtain ⟨e0, e1, e2, e3⟩ := four_cells (HB.out.at 1 rfl)
  obtain ⟨z0, z1, z2, z3, z4, z5, z6⟩ := seven_at (HB.out.at 0 rfl)
  rw [HTA.out] at e2
  have hr := HRW.out w2 HB.out.keeps
  rw [show c.obj i = objC ob oi from by unfold CfD.obj objC; rw [HOB.out.1, HOB.out.2]] at hr
  have c0 : w2.cell? ⟨bb, off + i * 10, none⟩ = some (.int .i64 (ob 0)) := hr 0 (by omega)
  have c1 : w2.cell? ⟨bb, off + i * 10 + 1, none⟩ = some (.int .i64 (ob 1)) := hr 1 (by omega)
  have c2 : w2.cell? ⟨bb, off + i * 10 + 2, none⟩ = some (.int .i64 (ob 2)) := hr 2 (by omega)
  have c3 : w2.cell? ⟨bb, off + i * 10 + 3, none⟩ = some (.int .i64 (ob 3)) := hr 3 (by omega)
  have c4 : w2.cell? ⟨bb, off + i * 10 + 4, none⟩ = some (.int .i64 (ob 4)) := hr 4 (by omega)
  have c5 : w2.cell? ⟨bb, off + i * 10 + 5, none⟩ = some (.int .i64 (ob 5)) := hr 5 (by omega)
  have c6 : w2.cell? ⟨bb, off + i * 10 + 6, none⟩ = some (.int .u32 (oi 0)) := hr 6 (by omega)
  have c7 : w2.cell? ⟨bb, off + i * 10 + 7, none⟩ = some (.int .u32 (oi 1)) := hr 7 (by omega)
  have c8 : w2.cell? ⟨bb, off + i * 10 + 8, none⟩ = some (.int .u32 (oi 2)) := hr 8 (by omega)
  have c9 : w2.cell? ⟨bb, off + i * 10 + 9, none⟩ = some (.int .u32 (oi 3)) := hr 9 (by omega)
  have HN := Lib.hid (heap_old hN (.cells (objC ob oi) 63))
  replace HB := Lib.hid (HB.out.alloc (.cells (objC ob oi) 63))
  clear hr hN
  go_wp2_with fail
  refine (cont1 b 1 3 (ob 0) _ (cell_of HN.out 0) (lt_of HN.out)).mono ?_
  rintro e w3 ⟨rfl, k3⟩
  replace HB := Lib.hid (HB.out.none k3)
  clear k3 c0 c1 c2 c3 c4 c5 c6 c7 c8 c9 e0 e1 e2 e3 z0 z1 z2 z3 z4 z5 z6
  obtain ⟨x0, x1, x2, x3, x4, x5, x6, x7, x8, x9⟩ := ten_cells (HB.out.at 0 rfl)
  obtain ⟨z0, z1, z2, z3, z4, z5, z6⟩ := seven_at (HB.out.at 1 rfl)
  rcases hq : ((ob 0 == 3))
  · have HVV := Lib.hid (show objectF c x 6 (i : Int) = 12 from by rw [HV.out, hq]; rfl)
    go_wp2
    go_ret
    exact ⟨ret_i64 HVV.out.symm, HB.out.keeps⟩
  · have HVV := Lib.hid (show objectF c x 6 (i : Int) = 0 from by rw [HV.out, hq]; rfl)
    go_wp2
    go_ret
    exact ⟨ret_i64 HVV.out.symm, HB.out.keeps⟩
theorem obj6_any (c : CfD) (x o : Int) (v : Nat → Int) (n : Int) (w : World) (hc : CfIn w c) (ho : c.Ok) : Calls Try.prog 38 #[.agg c.cells, .int .i64 x, .agg (callC 6 o v n)] w fun e w' => e = .returned (.int .i64 (objectF c x 6 o)) ∧ Keeps (fun _ => False) w w' := by
  by_cases h1 : o < 0
  · exact obj6_l c x o v n w hc ho h1
  by_cases h2 : (c.nO : Int) ≤ o
  · exact obj6_h c x o v n w hc ho ⟨h1, h2⟩
  obtain ⟨i, rfl⟩ : ∃ i : Nat, o = (i : Int) := ⟨o.toNat, by omega⟩
  exact obj6_m c x i v n w hc ho (by omega)
theorem obj7_l (c : CfD) (x o : Int) (v : Nat → Int) (n : Int) (w : World) (hc : CfIn w c) (ho : c.Ok) (h : o < 0) : Calls Try.prog 38 #[.agg c.cells, .int .i64 x, .agg (callC 7 o v n)] w fun e w' => e = .returned (.int .i64 (objectF c x 7 o)) ∧ Keeps (fun _ => False) w w' := by
  have HV := Lib.hid (show objectF c x 7 o = 4 from by unfold objectF; rw [if_neg (by decide), if_pos (by omega)])
  have HB := Lib.hid (((Has.start w).alloc (.cells c.cells 46)).alloc (.cells (callC 7 o v n) 59) |>.eq (M := [(w.heap.size + 1, .cells (callC 7 o v n) 59 (0, 0)), (w.heap.size, .cells c.cells 46 (0, 0))]) (by simp))
  have d0 : decide (o < 0) = true := decide_eq_true h
  clear h hc ho
  go_enter Try.func38, Try.ntmps38
  go_wp2_with fail
  refine (needs_7 _).mono ?_
  rintro e w2 ⟨b, rfl, hN, k2⟩
  replace HB := Lib.hid (HB.out.none k2)
  clear k2
  obtain ⟨e0, e1, e2, e3⟩ := four_cells (HB.out.at 1 rfl)
  obtain ⟨z0, z1, z2, z3, z4, z5, z6⟩ := seven_at (HB.out.at 0 rfl)
  go_wp2
  go_ret
  exact ⟨ret_i64 HV.out.symm, HB.out.keeps⟩
theorem obj7_h (c : CfD) (x o : Int) (v : Nat → Int) (n : Int) (w : World) (hc : CfIn w c) (ho : c.Ok) (h : ¬ o < 0 ∧ (c.nO : Int) ≤ o) : Calls Try.prog 38 #[.agg c.cells, .int .i64 x, .agg (callC 7 o v n)] w fun e w' => e = .returned (.int .i64 (objectF c x 7 o)) ∧ Keeps (fun _ => False) w w' := by
  have HV := Lib.hid (show objectF c x 7 o = 4 from by unfold objectF; rw [if_neg (by decide), if_pos (by omega)])
  have HB := Lib.hid (((Has.start w).alloc (.cells c.cells 46)).alloc (.cells (callC 7 o v n) 59) |>.eq (M := [(w.heap.size + 1, .cells (callC 7 o v n) 59 (0, 0)), (w.heap.size, .cells c.cells 46 (0, 0))]) (by simp))
  have d0 : decide (o < 0) = false := decide_eq_false h.1
  have d1 : decide ((c.nO : Int) ≤ o) = true := decide_eq_true h.2
  clear h hc ho
  go_enter Try.func38, Try.ntmps38
  go_wp2_with fail
  refine (needs_7 _).mono ?_
  rintro e w2 ⟨b, rfl, hN, k2⟩
  replace HB := Lib.hid (HB.out.none k2)
  clear k2
  obtain ⟨e0, e1, e2, e3⟩ := four_cells (HB.out.at 1 rfl)
  obtain ⟨z0, z1, z2, z3, z4, z5, z6⟩ := seven_at (HB.out.at 0 rfl)
  go_wp2
  go_ret
  exact ⟨ret_i64 HV.out.symm, HB.out.keeps⟩
theorem obj7_m (c : CfD) (x : Int) (i : Nat) (v : Nat → Int) (n : Int) (w : World) (hc : CfIn w c) (ho : c.Ok) (hi : i < c.nO) : Calls Try.prog 38 #[.agg c.cells, .int .i64 x, .agg (callC 7 (i : Int) v n)] w fun e w' => e = .returned (.int .i64 (objectF c x 7 (i : Int))) ∧ Keeps (fun _ => False) w w' := by
  have d0 : decide ((i : Int) < 0) = false := decide_eq_false (by omega)
  have d1 : decide ((c.nO : Int) ≤ (i : Int)) = false := decide_eq_false (by omega)
  have hlim := ho.o
  unfold maxLen at hlim
  have HB := Lib.hid (((Has.start w).alloc (.cells c.cells 46)).alloc (.cells (callC 7 (i : Int) v n) 59) |>.eq (M := [(w.heap.size + 1, .cells (callC 7 (i : Int) v n) 59 (0, 0)), (w.heap.size, .cells c.cells 46 (0, 0))]) (by simp))
  obtain ⟨bb, off, hta, hbl, hrow⟩ := hc.o (by omega)
  have HRW := Lib.hid (show ∀ w', Keeps (fun _ => False) w w' → ∀ j, j < 10 → w'.cell? ⟨bb, off + i * 10 + j, none⟩ = (c.obj i)[j]? from fun w' kk j hj => (kk.none.cell (p := ⟨bb, off + i * 10 + j, none⟩) hbl).trans (hrow i hi j hj))
  have HBL := Lib.hid hbl
  have HTA := Lib.hid hta
  have HV := Lib.hid (show objectF c x 7 (i : Int) = if ((c.ob i 0 == 4)) = false then 12 else 0 from by unfold objectF; rw [if_neg (by decide), if_neg (by omega)]; simp [needL])
  clear hrow hbl hta hc ho
  generalize hob : c.ob i = ob at *
  generalize hoi : c.oi i = oi at *
  have HOB := Lib.hid (And.intro hob hoi)
  clear hob hoi
  go_enter Try.func38, Try.ntmps38
  go_wp2_with fail
  refine (needs_7 _).mono ?_
  rintro e w2 ⟨b, rfl, hN, k2⟩
  replace HB := Lib.hid (HB.out.none k2)
  clear k2
  obtain ⟨e0, e1, e2, e3⟩ := four_cells (HB.out.at 1 rfl)
  obtain ⟨z0, z1, z2, z3, z4, z5, z6⟩ := seven_at (HB.out.at 0 rfl)
  rw [HTA.out] at e2
  have hr := HRW.out w2 HB.out.keeps
  rw [show c.obj i = objC ob oi from by unfold CfD.obj objC; rw [HOB.out.1, HOB.out.2]] at hr
  have c0 : w2.cell? ⟨bb, off + i * 10, none⟩ = some (.int .i64 (ob 0)) := hr 0 (by omega)
  have c1 : w2.cell? ⟨bb, off + i * 10 + 1, none⟩ = some (.int .i64 (ob 1)) := hr 1 (by omega)
  have c2 : w2.cell? ⟨bb, off + i * 10 + 2, none⟩ = some (.int .i64 (ob 2)) := hr 2 (by omega)
  have c3 : w2.cell? ⟨bb, off + i * 10 + 3, none⟩ = some (.int .i64 (ob 3)) := hr 3 (by omega)
  have c4 : w2.cell? ⟨bb, off + i * 10 + 4, none⟩ = some (.int .i64 (ob 4)) := hr 4 (by omega)
  have c5 : w2.cell? ⟨bb, off + i * 10 + 5, none⟩ = some (.int .i64 (ob 5)) := hr 5 (by omega)
  have c6 : w2.cell? ⟨bb, off + i * 10 + 6, none⟩ = some (.int .u32 (oi 0)) := hr 6 (by omega)
  have c7 : w2.cell? ⟨bb, off + i * 10 + 7, none⟩ = some (.int .u32 (oi 1)) := hr 7 (by omega)
  have c8 : w2.cell? ⟨bb, off + i * 10 + 8, none⟩ = some (.int .u32 (oi 2)) := hr 8 (by omega)
  have c9 : w2.cell? ⟨bb, off + i * 10 + 9, none⟩ = some (.int .u32 (oi 3)) := hr 9 (by omega)
  have HN := Lib.hid (heap_old hN (.cells (objC ob oi) 63))
  replace HB := Lib.hid (HB.out.alloc (.cells (objC ob oi) 63))
  clear hr hN
  go_wp2_with fail
  refine (cont1 b 1 4 (ob 0) _ (cell_of HN.out 0) (lt_of HN.out)).mono ?_
  rintro e w3 ⟨rfl, k3⟩
  replace HB := Lib.hid (HB.out.none k3)
  clear k3 c0 c1 c2 c3 c4 c5 c6 c7 c8 c9 e0 e1 e2 e3 z0 z1 z2 z3 z4 z5 z6
  obtain ⟨x0, x1, x2, x3, x4, x5, x6, x7, x8, x9⟩ := ten_cells (HB.out.at 0 rfl)
  obtain ⟨z0, z1, z2, z3, z4, z5, z6⟩ := seven_at (HB.out.at 1 rfl)
  rcases hq : ((ob 0 == 4))
  · have HVV := Lib.hid (show objectF c x 7 (i : Int) = 12 from by rw [HV.out, hq]; rfl)
    go_wp2
    go_ret
    exact ⟨ret_i64 HVV.out.symm, HB.out.keeps⟩
  · have HVV := Lib.hid (show objectF c x 7 (i : Int) = 0 from by rw [HV.out, hq]; rfl)
    go_wp2
    go_ret
    exact ⟨ret_i64 HVV.out.symm, HB.out.keeps⟩
theorem obj7_any (c : CfD) (x o : Int) (v : Nat → Int) (n : Int) (w : World) (hc : CfIn w c) (ho : c.Ok) : Calls Try.prog 38 #[.agg c.cells, .int .i64 x, .agg (callC 7 o v n)] w fun e w' => e = .returned (.int .i64 (objectF c x 7 o)) ∧ Keeps (fun _ => False) w w' := by
  by_cases h1 : o < 0
  · exact obj7_l c x o v n w hc ho h1
  by_cases h2 : (c.nO : Int) ≤ o
  · exact obj7_h c x o v n w hc ho ⟨h1, h2⟩
  obtain ⟨i, rfl⟩ : ∃ i : Nat, o = (i : Int) := ⟨o.toNat, by omega⟩
  exact obj7_m c x i v n w hc ho (by omega)
theorem obj8_l (c : CfD) (x o : Int) (v : Nat → Int) (n : Int) (w : World) (hc : CfIn w c) (ho : c.Ok) (h : o < 0) : Calls Try.prog 38 #[.agg c.cells, .int .i64 x, .agg (callC 8 o v n)] w fun e w' => e = .returned (.int .i64 (objectF c x 8 o)) ∧ Keeps (fun _ => False) w w' := by
  have HV := Lib.hid (show objectF c x 8 o = 4 from by unfold objectF; rw [if_neg (by decide), if_pos (by omega)])
  have HB := Lib.hid (((Has.start w).alloc (.cells c.cells 46)).alloc (.cells (callC 8 o v n) 59) |>.eq (M := [(w.heap.size + 1, .cells (callC 8 o v n) 59 (0, 0)), (w.heap.size, .cells c.cells 46 (0, 0))]) (by simp))
  have d0 : decide (o < 0) = true := decide_eq_true h
  clear h hc ho
  go_enter Try.func38, Try.ntmps38
  go_wp2_with fail
  refine (needs_8 _).mono ?_
  rintro e w2 ⟨b, rfl, hN, k2⟩
  replace HB := Lib.hid (HB.out.none k2)
  clear k2
  obtain ⟨e0, e1, e2, e3⟩ := four_cells (HB.out.at 1 rfl)
  obtain ⟨z0, z1, z2, z3, z4, z5, z6⟩ := seven_at (HB.out.at 0 rfl)
  go_wp2
  go_ret
  exact ⟨ret_i64 HV.out.symm, HB.out.keeps⟩
theorem obj8_h (c : CfD) (x o : Int) (v : Nat → Int) (n : Int) (w : World) (hc : CfIn w c) (ho : c.Ok) (h : ¬ o < 0 ∧ (c.nO : Int) ≤ o) : Calls Try.prog 38 #[.agg c.cells, .int .i64 x, .agg (callC 8 o v n)] w fun e w' => e = .returned (.int .i64 (objectF c x 8 o)) ∧ Keeps (fun _ => False) w w' := by
  have HV := Lib.hid (show objectF c x 8 o = 4 from by unfold objectF; rw [if_neg (by decide), if_pos (by omega)])
  have HB := Lib.hid (((Has.start w).alloc (.cells c.cells 46)).alloc (.cells (callC 8 o v n) 59) |>.eq (M := [(w.heap.size + 1, .cells (callC 8 o v n) 59 (0, 0)), (w.heap.size, .cells c.cells 46 (0, 0))]) (by simp))
  have d0 : decide (o < 0) = false := decide_eq_false h.1
  have d1 : decide ((c.nO : Int) ≤ o) = true := decide_eq_true h.2
  clear h hc ho
  go_enter Try.func38, Try.ntmps38
  go_wp2_with fail
  refine (needs_8 _).mono ?_
  rintro e w2 ⟨b, rfl, hN, k2⟩
  replace HB := Lib.hid (HB.out.none k2)
  clear k2
  obtain ⟨e0, e1, e2, e3⟩ := four_cells (HB.out.at 1 rfl)
  obtain ⟨z0, z1, z2, z3, z4, z5, z6⟩ := seven_at (HB.out.at 0 rfl)
  go_wp2
  go_ret
  exact ⟨ret_i64 HV.out.symm, HB.out.keeps⟩
theorem obj8_m (c : CfD) (x : Int) (i : Nat) (v : Nat → Int) (n : Int) (w : World) (hc : CfIn w c) (ho : c.Ok) (hi : i < c.nO) : Calls Try.prog 38 #[.agg c.cells, .int .i64 x, .agg (callC 8 (i : Int) v n)] w fun e w' => e = .returned (.int .i64 (objectF c x 8 (i : Int))) ∧ Keeps (fun _ => False) w w' := by
  have d0 : decide ((i : Int) < 0) = false := decide_eq_false (by omega)
  have d1 : decide ((c.nO : Int) ≤ (i : Int)) = false := decide_eq_false (by omega)
  have hlim := ho.o
  unfold maxLen at hlim
  have HB := Lib.hid (((Has.start w).alloc (.cells c.cells 46)).alloc (.cells (callC 8 (i : Int) v n) 59) |>.eq (M := [(w.heap.size + 1, .cells (callC 8 (i : Int) v n) 59 (0, 0)), (w.heap.size, .cells c.cells 46 (0, 0))]) (by simp))
  obtain ⟨bb, off, hta, hbl, hrow⟩ := hc.o (by omega)
  have HRW := Lib.hid (show ∀ w', Keeps (fun _ => False) w w' → ∀ j, j < 10 → w'.cell? ⟨bb, off + i * 10 + j, none⟩ = (c.obj i)[j]? from fun w' kk j hj => (kk.none.cell (p := ⟨bb, off + i * 10 + j, none⟩) hbl).trans (hrow i hi j hj))
  have HBL := Lib.hid hbl
  have HTA := Lib.hid hta
  have HV := Lib.hid (show objectF c x 8 (i : Int) = if ((c.ob i 0 == 4)) = false then 12 else 0 from by unfold objectF; rw [if_neg (by decide), if_neg (by omega)]; simp [needL])
  clear hrow hbl hta hc ho
  generalize hob : c.ob i = ob at *
  generalize hoi : c.oi i = oi at *
  have HOB := Lib.hid (And.intro hob hoi)
  clear hob hoi
  go_enter Try.func38, Try.ntmps38
  go_wp2_with fail
  refine (needs_8 _).mono ?_
  rintro e w2 ⟨b, rfl, hN, k2⟩
  replace HB := Lib.hid (HB.out.none k2)
  clear k2
  obtain ⟨e0, e1, e2, e3⟩ := four_cells (HB.out.at 1 rfl)
  obtain ⟨z0, z1, z2, z3, z4, z5, z6⟩ := seven_at (HB.out.at 0 rfl)
  rw [HTA.out] at e2
  have hr := HRW.out w2 HB.out.keeps
  rw [show c.obj i = objC ob oi from by unfold CfD.obj objC; rw [HOB.out.1, HOB.out.2]] at hr
  have c0 : w2.cell? ⟨bb, off + i * 10, none⟩ = some (.int .i64 (ob 0)) := hr 0 (by omega)
  have c1 : w2.cell? ⟨bb, off + i * 10 + 1, none⟩ = some (.int .i64 (ob 1)) := hr 1 (by omega)
  have c2 : w2.cell? ⟨bb, off + i * 10 + 2, none⟩ = some (.int .i64 (ob 2)) := hr 2 (by omega)
  have c3 : w2.cell? ⟨bb, off + i * 10 + 3, none⟩ = some (.int .i64 (ob 3)) := hr 3 (by omega)
  have c4 : w2.cell? ⟨bb, off + i * 10 + 4, none⟩ = some (.int .i64 (ob 4)) := hr 4 (by omega)
  have c5 : w2.cell? ⟨bb, off + i * 10 + 5, none⟩ = some (.int .i64 (ob 5)) := hr 5 (by omega)
  have c6 : w2.cell? ⟨bb, off + i * 10 + 6, none⟩ = some (.int .u32 (oi 0)) := hr 6 (by omega)
  have c7 : w2.cell? ⟨bb, off + i * 10 + 7, none⟩ = some (.int .u32 (oi 1)) := hr 7 (by omega)
  have c8 : w2.cell? ⟨bb, off + i * 10 + 8, none⟩ = some (.int .u32 (oi 2)) := hr 8 (by omega)
  have c9 : w2.cell? ⟨bb, off + i * 10 + 9, none⟩ = some (.int .u32 (oi 3)) := hr 9 (by omega)
  have HN := Lib.hid (heap_old hN (.cells (objC ob oi) 63))
  replace HB := Lib.hid (HB.out.alloc (.cells (objC ob oi) 63))
  clear hr hN
  go_wp2_with fail
  refine (cont1 b 1 4 (ob 0) _ (cell_of HN.out 0) (lt_of HN.out)).mono ?_
  rintro e w3 ⟨rfl, k3⟩
  replace HB := Lib.hid (HB.out.none k3)
  clear k3 c0 c1 c2 c3 c4 c5 c6 c7 c8 c9 e0 e1 e2 e3 z0 z1 z2 z3 z4 z5 z6
  obtain ⟨x0, x1, x2, x3, x4, x5, x6, x7, x8, x9⟩ := ten_cells (HB.out.at 0 rfl)
  obtain ⟨z0, z1, z2, z3, z4, z5, z6⟩ := seven_at (HB.out.at 1 rfl)
  rcases hq : ((ob 0 == 4))
  · have HVV := Lib.hid (show objectF c x 8 (i : Int) = 12 from by rw [HV.out, hq]; rfl)
    go_wp2
    go_ret
    exact ⟨ret_i64 HVV.out.symm, HB.out.keeps⟩
  · have HVV := Lib.hid (show objectF c x 8 (i : Int) = 0 from by rw [HV.out, hq]; rfl)
    go_wp2
    go_ret
    exact ⟨ret_i64 HVV.out.symm, HB.out.keeps⟩
theorem obj8_any (c : CfD) (x o : Int) (v : Nat → Int) (n : Int) (w : World) (hc : CfIn w c) (ho : c.Ok) : Calls Try.prog 38 #[.agg c.cells, .int .i64 x, .agg (callC 8 o v n)] w fun e w' => e = .returned (.int .i64 (objectF c x 8 o)) ∧ Keeps (fun _ => False) w w' := by
  by_cases h1 : o < 0
  · exact obj8_l c x o v n w hc ho h1
  by_cases h2 : (c.nO : Int) ≤ o
  · exact obj8_h c x o v n w hc ho ⟨h1, h2⟩
  obtain ⟨i, rfl⟩ : ∃ i : Nat, o = (i : Int) := ⟨o.toNat, by omega⟩
  exact obj8_m c x i v n w hc ho (by omega)
theorem obj9_l (c : CfD) (x o : Int) (v : Nat → Int) (n : Int) (w : World) (hc : CfIn w c) (ho : c.Ok) (h : o < 0) : Calls Try.prog 38 #[.agg c.cells, .int .i64 x, .agg (callC 9 o v n)] w fun e w' => e = .returned (.int .i64 (objectF c x 9 o)) ∧ Keeps (fun _ => False) w w' := by
  have HV := Lib.hid (show objectF c x 9 o = 4 from by unfold objectF; rw [if_neg (by decide), if_pos (by omega)])
  have HB := Lib.hid (((Has.start w).alloc (.cells c.cells 46)).alloc (.cells (callC 9 o v n) 59) |>.eq (M := [(w.heap.size + 1, .cells (callC 9 o v n) 59 (0, 0)), (w.heap.size, .cells c.cells 46 (0, 0))]) (by simp))
  have d0 : decide (o < 0) = true := decide_eq_true h
  clear h hc ho
  go_enter Try.func38, Try.ntmps38
  go_wp2_with fail
  refine (needs_9 _).mono ?_
  rintro e w2 ⟨b, rfl, hN, k2⟩
  replace HB := Lib.hid (HB.out.none k2)
  clear k2
  obtain ⟨e0, e1, e2, e3⟩ := four_cells (HB.out.at 1 rfl)
  obtain ⟨z0, z1, z2, z3, z4, z5, z6⟩ := seven_at (HB.out.at 0 rfl)
  go_wp2
  go_ret
  exact ⟨ret_i64 HV.out.symm, HB.out.keeps⟩
theorem obj9_h (c : CfD) (x o : Int) (v : Nat → Int) (n : Int) (w : World) (hc : CfIn w c) (ho : c.Ok) (h : ¬ o < 0 ∧ (c.nO : Int) ≤ o) : Calls Try.prog 38 #[.agg c.cells, .int .i64 x, .agg (callC 9 o v n)] w fun e w' => e = .returned (.int .i64 (objectF c x 9 o)) ∧ Keeps (fun _ => False) w w' := by
  have HV := Lib.hid (show objectF c x 9 o = 4 from by unfold objectF; rw [if_neg (by decide), if_pos (by omega)])
  have HB := Lib.hid (((Has.start w).alloc (.cells c.cells 46)).alloc (.cells (callC 9 o v n) 59) |>.eq (M := [(w.heap.size + 1, .cells (callC 9 o v n) 59 (0, 0)), (w.heap.size, .cells c.cells 46 (0, 0))]) (by simp))
  have d0 : decide (o < 0) = false := decide_eq_false h.1
  have d1 : decide ((c.nO : Int) ≤ o) = true := decide_eq_true h.2
  clear h hc ho
  go_enter Try.func38, Try.ntmps38
  go_wp2_with fail
  refine (needs_9 _).mono ?_
  rintro e w2 ⟨b, rfl, hN, k2⟩
  replace HB := Lib.hid (HB.out.none k2)
  clear k2
  obtain ⟨e0, e1, e2, e3⟩ := four_cells (HB.out.at 1 rfl)
  obtain ⟨z0, z1, z2, z3, z4, z5, z6⟩ := seven_at (HB.out.at 0 rfl)
  go_wp2
  go_ret
  exact ⟨ret_i64 HV.out.symm, HB.out.keeps⟩
theorem obj9_m (c : CfD) (x : Int) (i : Nat) (v : Nat → Int) (n : Int) (w : World) (hc : CfIn w c) (ho : c.Ok) (hi : i < c.nO) : Calls Try.prog 38 #[.agg c.cells, .int .i64 x, .agg (callC 9 (i : Int) v n)] w fun e w' => e = .returned (.int .i64 (objectF c x 9 (i : Int))) ∧ Keeps (fun _ => False) w w' := by
  have d0 : decide ((i : Int) < 0) = false := decide_eq_false (by omega)
  have d1 : decide ((c.nO : Int) ≤ (i : Int)) = false := decide_eq_false (by omega)
  have hlim := ho.o
  unfold maxLen at hlim
  have HB := Lib.hid (((Has.start w).alloc (.cells c.cells 46)).alloc (.cells (callC 9 (i : Int) v n) 59) |>.eq (M := [(w.heap.size + 1, .cells (callC 9 (i : Int) v n) 59 (0, 0)), (w.heap.size, .cells c.cells 46 (0, 0))]) (by simp))
  obtain ⟨bb, off, hta, hbl, hrow⟩ := hc.o (by omega)
  have HRW := Lib.hid (show ∀ w', Keeps (fun _ => False) w w' → ∀ j, j < 10 → w'.cell? ⟨bb, off + i * 10 + j, none⟩ = (c.obj i)[j]? from fun w' kk j hj => (kk.none.cell (p := ⟨bb, off + i * 10 + j, none⟩) hbl).trans (hrow i hi j hj))
  have HBL := Lib.hid hbl
  have HTA := Lib.hid hta
  have HV := Lib.hid (show objectF c x 9 (i : Int) = if ((c.ob i 0 == 4)) = false then 12 else 0 from by unfold objectF; rw [if_neg (by decide), if_neg (by omega)]; simp [needL])
  clear hrow hbl hta hc ho
  generalize hob : c.ob i = ob at *
  generalize hoi : c.oi i = oi at *
  have HOB := Lib.hid (And.intro hob hoi)
  clear hob hoi
  go_enter Try.func38, Try.ntmps38
  go_wp2_with fail
  refine (needs_9 _).mono ?_
  rintro e w2 ⟨b, rfl, hN, k2⟩
  replace HB := Lib.hid (HB.out.none k2)
  clear k2
  obtain ⟨e0, e1, e2, e3⟩ := four_cells (HB.out.at 1 rfl)
  obtain ⟨z0, z1, z2, z3, z4, z5, z6⟩ := seven_at (HB.out.at 0 rfl)
  rw [HTA.out] at e2
  have hr := HRW.out w2 HB.out.keeps
  rw [show c.obj i = objC ob oi from by unfold CfD.obj objC; rw [HOB.out.1, HOB.out.2]] at hr
  have c0 : w2.cell? ⟨bb, off + i * 10, none⟩ = some (.int .i64 (ob 0)) := hr 0 (by omega)
  have c1 : w2.cell? ⟨bb, off + i * 10 + 1, none⟩ = some (.int .i64 (ob 1)) := hr 1 (by omega)
  have c2 : w2.cell? ⟨bb, off + i * 10 + 2, none⟩ = some (.int .i64 (ob 2)) := hr 2 (by omega)
  have c3 : w2.cell? ⟨bb, off + i * 10 + 3, none⟩ = some (.int .i64 (ob 3)) := hr 3 (by omega)
  have c4 : w2.cell? ⟨bb, off + i * 10 + 4, none⟩ = some (.int .i64 (ob 4)) := hr 4 (by omega)
  have c5 : w2.cell? ⟨bb, off + i * 10 + 5, none⟩ = some (.int .i64 (ob 5)) := hr 5 (by omega)
  have c6 : w2.cell? ⟨bb, off + i * 10 + 6, none⟩ = some (.int .u32 (oi 0)) := hr 6 (by omega)
  have c7 : w2.cell? ⟨bb, off + i * 10 + 7, none⟩ = some (.int .u32 (oi 1)) := hr 7 (by omega)
  have c8 : w2.cell? ⟨bb, off + i * 10 + 8, none⟩ = some (.int .u32 (oi 2)) := hr 8 (by omega)
  have c9 : w2.cell? ⟨bb, off + i * 10 + 9, none⟩ = some (.int .u32 (oi 3)) := hr 9 (by omega)
  have HN := Lib.hid (heap_old hN (.cells (objC ob oi) 63))
  replace HB := Lib.hid (HB.out.alloc (.cells (objC ob oi) 63))
  clear hr hN
  go_wp2_with fail
  refine (cont1 b 1 4 (ob 0) _ (cell_of HN.out 0) (lt_of HN.out)).mono ?_
  rintro e w3 ⟨rfl, k3⟩
  replace HB := Lib.hid (HB.out.none k3)
  clear k3 c0 c1 c2 c3 c4 c5 c6 c7 c8 c9 e0 e1 e2 e3 z0 z1 z2 z3 z4 z5 z6
  obtain ⟨x0, x1, x2, x3, x4, x5, x6, x7, x8, x9⟩ := ten_cells (HB.out.at 0 rfl)
  obtain ⟨z0, z1, z2, z3, z4, z5, z6⟩ := seven_at (HB.out.at 1 rfl)
  rcases hq : ((ob 0 == 4))
  · have HVV := Lib.hid (show objectF c x 9 (i : Int) = 12 from by rw [HV.out, hq]; rfl)
    go_wp2
    go_ret
    exact ⟨ret_i64 HVV.out.symm, HB.out.keeps⟩
  · have HVV := Lib.hid (show objectF c x 9 (i : Int) = 0 from by rw [HV.out, hq]; rfl)
    go_wp2
    go_ret
    exact ⟨ret_i64 HVV.out.symm, HB.out.keeps⟩
theorem obj9_any (c : CfD) (x o : Int) (v : Nat → Int) (n : Int) (w : World) (hc : CfIn w c) (ho : c.Ok) : Calls Try.prog 38 #[.agg c.cells, .int .i64 x, .agg (callC 9 o v n)] w fun e w' => e = .returned (.int .i64 (objectF c x 9 o)) ∧ Keeps (fun _ => False) w w' := by
  by_cases h1 : o < 0
  · exact obj9_l c x o v n w hc ho h1
  by_cases h2 : (c.nO : Int) ≤ o
  · exact obj9_h c x o v n w hc ho ⟨h1, h2⟩
  obtain ⟨i, rfl⟩ : ∃ i : Nat, o = (i : Int) := ⟨o.toNat, by omega⟩
  exact obj9_m c x i v n w hc ho (by omega)
theorem obj14_l (c : CfD) (x o : Int) (v : Nat → Int) (n : Int) (w : World) (hc : CfIn w c) (ho : c.Ok) (h : o < 0) : Calls Try.prog 38 #[.agg c.cells, .int .i64 x, .agg (callC 14 o v n)] w fun e w' => e = .returned (.int .i64 (objectF c x 14 o)) ∧ Keeps (fun _ => False) w w' := by
  have HV := Lib.hid (show objectF c x 14 o = 4 from by unfold objectF; rw [if_neg (by decide), if_pos (by omega)])
  have HB := Lib.hid (((Has.start w).alloc (.cells c.cells 46)).alloc (.cells (callC 14 o v n) 59) |>.eq (M := [(w.heap.size + 1, .cells (callC 14 o v n) 59 (0, 0)), (w.heap.size, .cells c.cells 46 (0, 0))]) (by simp))
  have d0 : decide (o < 0) = true := decide_eq_true h
  clear h hc ho
  go_enter Try.func38, Try.ntmps38
  go_wp2_with fail
  refine (needs_14 _).mono ?_
  rintro e w2 ⟨b, rfl, hN, k2⟩
  replace HB := Lib.hid (HB.out.none k2)
  clear k2
  obtain ⟨e0, e1, e2, e3⟩ := four_cells (HB.out.at 1 rfl)
  obtain ⟨z0, z1, z2, z3, z4, z5, z6⟩ := seven_at (HB.out.at 0 rfl)
  go_wp2
  go_ret
  exact ⟨ret_i64 HV.out.symm, HB.out.keeps⟩
theorem obj14_h (c : CfD) (x o : Int) (v : Nat → Int) (n : Int) (w : World) (hc : CfIn w c) (ho : c.Ok) (h : ¬ o < 0 ∧ (c.nO : Int) ≤ o) : Calls Try.prog 38 #[.agg c.cells, .int .i64 x, .agg (callC 14 o v n)] w fun e w' => e = .returned (.int .i64 (objectF c x 14 o)) ∧ Keeps (fun _ => False) w w' := by
  have HV := Lib.hid (show objectF c x 14 o = 4 from by unfold objectF; rw [if_neg (by decide), if_pos (by omega)])
  have HB := Lib.hid (((Has.start w).alloc (.cells c.cells 46)).alloc (.cells (callC 14 o v n) 59) |>.eq (M := [(w.heap.size + 1, .cells (callC 14 o v n) 59 (0, 0)), (w.heap.size, .cells c.cells 46 (0, 0))]) (by simp))
  have d0 : decide (o < 0) = false := decide_eq_false h.1
  have d1 : decide ((c.nO : Int) ≤ o) = true := decide_eq_true h.2
  clear h hc ho
  go_enter Try.func38, Try.ntmps38
  go_wp2_with fail
  refine (needs_14 _).mono ?_
  rintro e w2 ⟨b, rfl, hN, k2⟩
  replace HB := Lib.hid (HB.out.none k2)
  clear k2
  obtain ⟨e0, e1, e2, e3⟩ := four_cells (HB.out.at 1 rfl)
  obtain ⟨z0, z1, z2, z3, z4, z5, z6⟩ := seven_at (HB.out.at 0 rfl)
  go_wp2
  go_ret
  exact ⟨ret_i64 HV.out.symm, HB.out.keeps⟩
theorem obj14_m (c : CfD) (x : Int) (i : Nat) (v : Nat → Int) (n : Int) (w : World) (hc : CfIn w c) (ho : c.Ok) (hi : i < c.nO) : Calls Try.prog 38 #[.agg c.cells, .int .i64 x, .agg (callC 14 (i : Int) v n)] w fun e w' => e = .returned (.int .i64 (objectF c x 14 (i : Int))) ∧ Keeps (fun _ => False) w w' := by
  have d0 : decide ((i : Int) < 0) = false := decide_eq_false (by omega)
  have d1 : decide ((c.nO : Int) ≤ (i : Int)) = false := decide_eq_false (by omega)
  have hlim := ho.o
  unfold maxLen at hlim
  have HB := Lib.hid (((Has.start w).alloc (.cells c.cells 46)).alloc (.cells (callC 14 (i : Int) v n) 59) |>.eq (M := [(w.heap.size + 1, .cells (callC 14 (i : Int) v n) 59 (0, 0)), (w.heap.size, .cells c.cells 46 (0, 0))]) (by simp))
  obtain ⟨bb, off, hta, hbl, hrow⟩ := hc.o (by omega)
  have HRW := Lib.hid (show ∀ w', Keeps (fun _ => False) w w' → ∀ j, j < 10 → w'.cell? ⟨bb, off + i * 10 + j, none⟩ = (c.obj i)[j]? from fun w' kk j hj => (kk.none.cell (p := ⟨bb, off + i * 10 + j, none⟩) hbl).trans (hrow i hi j hj))
  have HBL := Lib.hid hbl
  have HTA := Lib.hid hta
  have HV := Lib.hid (show objectF c x 14 (i : Int) = if ((c.ob i 0 == 1)) = false then 12 else whenF (x != c.ob i 4) 10 from by unfold objectF; rw [if_neg (by decide), if_neg (by omega)]; simp [needL])
  clear hrow hbl hta hc ho
  generalize hob : c.ob i = ob at *
  generalize hoi : c.oi i = oi at *
  have HOB := Lib.hid (And.intro hob hoi)
  clear hob hoi
  go_enter Try.func38, Try.ntmps38
  go_wp2_with fail
  refine (needs_14 _).mono ?_
  rintro e w2 ⟨b, rfl, hN, k2⟩
  replace HB := Lib.hid (HB.out.none k2)
  clear k2
  obtain ⟨e0, e1, e2, e3⟩ := four_cells (HB.out.at 1 rfl)
  obtain ⟨z0, z1, z2, z3, z4, z5, z6⟩ := seven_at (HB.out.at 0 rfl)
  rw [HTA.out] at e2
  have hr := HRW.out w2 HB.out.keeps
  rw [show c.obj i = objC ob oi from by unfold CfD.obj objC; rw [HOB.out.1, HOB.out.2]] at hr
  have c0 : w2.cell? ⟨bb, off + i * 10, none⟩ = some (.int .i64 (ob 0)) := hr 0 (by omega)
  have c1 : w2.cell? ⟨bb, off + i * 10 + 1, none⟩ = some (.int .i64 (ob 1)) := hr 1 (by omega)
  have c2 : w2.cell? ⟨bb, off + i * 10 + 2, none⟩ = some (.int .i64 (ob 2)) := hr 2 (by omega)
  have c3 : w2.cell? ⟨bb, off + i * 10 + 3, none⟩ = some (.int .i64 (ob 3)) := hr 3 (by omega)
  have c4 : w2.cell? ⟨bb, off + i * 10 + 4, none⟩ = some (.int .i64 (ob 4)) := hr 4 (by omega)
  have c5 : w2.cell? ⟨bb, off + i * 10 + 5, none⟩ = some (.int .i64 (ob 5)) := hr 5 (by omega)
  have c6 : w2.cell? ⟨bb, off + i * 10 + 6, none⟩ = some (.int .u32 (oi 0)) := hr 6 (by omega)
  have c7 : w2.cell? ⟨bb, off + i * 10 + 7, none⟩ = some (.int .u32 (oi 1)) := hr 7 (by omega)
  have c8 : w2.cell? ⟨bb, off + i * 10 + 8, none⟩ = some (.int .u32 (oi 2)) := hr 8 (by omega)
  have c9 : w2.cell? ⟨bb, off + i * 10 + 9, none⟩ = some (.int .u32 (oi 3)) := hr 9 (by omega)
  have HN := Lib.hid (heap_old hN (.cells (objC ob oi) 63))
  replace HB := Lib.hid (HB.out.alloc (.cells (objC ob oi) 63))
  clear hr hN
  go_wp2_with fail
  refine (cont1 b 1 1 (ob 0) _ (cell_of HN.out 0) (lt_of HN.out)).mono ?_
  rintro e w3 ⟨rfl, k3⟩
  replace HB := Lib.hid (HB.out.none k3)
  clear k3 c0 c1 c2 c3 c4 c5 c6 c7 c8 c9 e0 e1 e2 e3 z0 z1 z2 z3 z4 z5 z6
  obtain ⟨x0, x1, x2, x3, x4, x5, x6, x7, x8, x9⟩ := ten_cells (HB.out.at 0 rfl)
  obtain ⟨z0, z1, z2, z3, z4, z5, z6⟩ := seven_at (HB.out.at 1 rfl)
  rcases hq : ((ob 0 == 1))
  · have HVV := Lib.hid (show objectF c x 14 (i : Int) = 12 from by rw [HV.out, hq]; rfl)
    go_wp2
    go_ret
    exact ⟨ret_i64 HVV.out.symm, HB.out.keeps⟩
  · have HVV := Lib.hid (show objectF c x 14 (i : Int) = whenF (x != ob 4) 10 from by rw [HV.out, hq]; rfl)
    go_wp2_with fail
    refine (when_any _ _ _).mono ?_
    rintro e w4 ⟨rfl, k4⟩
    go_wp2
    go_ret
    exact ⟨ret_i64 HVV.out.symm, HB.out.keeps.trans k4⟩
theorem obj14_any (c : CfD) (x o : Int) (v : Nat → Int) (n : Int) (w : World) (hc : CfIn w c) (ho : c.Ok) : Calls Try.prog 38 #[.agg c.cells, .int .i64 x, .agg (callC 14 o v n)] w fun e w' => e = .returned (.int .i64 (objectF c x 14 o)) ∧ Keeps (fun _ => False) w w' := by
  by_cases h1 : o < 0
  · exact obj14_l c x o v n w hc ho h1
  by_cases h2 : (c.nO : Int) ≤ o
  · exact obj14_h c x o v n w hc ho ⟨h1, h2⟩
  obtain ⟨i, rfl⟩ : ∃ i : Nat, o = (i : Int) := ⟨o.toNat, by omega⟩
  exact obj14_m c x i v n w hc ho (by omega)
theorem obj15_l (c : CfD) (x o : Int) (v : Nat → Int) (n : Int) (w : World) (hc : CfIn w c) (ho : c.Ok) (h : o < 0) : Calls Try.prog 38 #[.agg c.cells, .int .i64 x, .agg (callC 15 o v n)] w fun e w' => e = .returned (.int .i64 (objectF c x 15 o)) ∧ Keeps (fun _ => False) w w' := by
  have HV := Lib.hid (show objectF c x 15 o = 4 from by unfold objectF; rw [if_neg (by decide), if_pos (by omega)])
  have HB := Lib.hid (((Has.start w).alloc (.cells c.cells 46)).alloc (.cells (callC 15 o v n) 59) |>.eq (M := [(w.heap.size + 1, .cells (callC 15 o v n) 59 (0, 0)), (w.heap.size, .cells c.cells 46 (0, 0))]) (by simp))
  have d0 : decide (o < 0) = true := decide_eq_true h
  clear h hc ho
  go_enter Try.func38, Try.ntmps38
  go_wp2_with fail
  refine (needs_15 _).mono ?_
  rintro e w2 ⟨b, rfl, hN, k2⟩
  replace HB := Lib.hid (HB.out.none k2)
  clear k2
  obtain ⟨e0, e1, e2, e3⟩ := four_cells (HB.out.at 1 rfl)
  obtain ⟨z0, z1, z2, z3, z4, z5, z6⟩ := seven_at (HB.out.at 0 rfl)
  go_wp2
  go_ret
  exact ⟨ret_i64 HV.out.symm, HB.out.keeps⟩
theorem obj15_h (c : CfD) (x o : Int) (v : Nat → Int) (n : Int) (w : World) (hc : CfIn w c) (ho : c.Ok) (h : ¬ o < 0 ∧ (c.nO : Int) ≤ o) : Calls Try.prog 38 #[.agg c.cells, .int .i64 x, .agg (callC 15 o v n)] w fun e w' => e = .returned (.int .i64 (objectF c x 15 o)) ∧ Keeps (fun _ => False) w w' := by
  have HV := Lib.hid (show objectF c x 15 o = 4 from by unfold objectF; rw [if_neg (by decide), if_pos (by omega)])
  have HB := Lib.hid (((Has.start w).alloc (.cells c.cells 46)).alloc (.cells (callC 15 o v n) 59) |>.eq (M := [(w.heap.size + 1, .cells (callC 15 o v n) 59 (0, 0)), (w.heap.size, .cells c.cells 46 (0, 0))]) (by simp))
  have d0 : decide (o < 0) = false := decide_eq_false h.1
  have d1 : decide ((c.nO : Int) ≤ o) = true := decide_eq_true h.2
  clear h hc ho
  go_enter Try.func38, Try.ntmps38
  go_wp2_with fail
  refine (needs_15 _).mono ?_
  rintro e w2 ⟨b, rfl, hN, k2⟩
  replace HB := Lib.hid (HB.out.none k2)
  clear k2
  obtain ⟨e0, e1, e2, e3⟩ := four_cells (HB.out.at 1 rfl)
  obtain ⟨z0, z1, z2, z3, z4, z5, z6⟩ := seven_at (HB.out.at 0 rfl)
  go_wp2
  go_ret
  exact ⟨ret_i64 HV.out.symm, HB.out.keeps⟩
theorem obj15_m (c : CfD) (x : Int) (i : Nat) (v : Nat → Int) (n : Int) (w : World) (hc : CfIn w c) (ho : c.Ok) (hi : i < c.nO) : Calls Try.prog 38 #[.agg c.cells, .int .i64 x, .agg (callC 15 (i : Int) v n)] w fun e w' => e = .returned (.int .i64 (objectF c x 15 (i : Int))) ∧ Keeps (fun _ => False) w w' := by
  have d0 : decide ((i : Int) < 0) = false := decide_eq_false (by omega)
  have d1 : decide ((c.nO : Int) ≤ (i : Int)) = false := decide_eq_false (by omega)
  have hlim := ho.o
  unfold maxLen at hlim
  have HB := Lib.hid (((Has.start w).alloc (.cells c.cells 46)).alloc (.cells (callC 15 (i : Int) v n) 59) |>.eq (M := [(w.heap.size + 1, .cells (callC 15 (i : Int) v n) 59 (0, 0)), (w.heap.size, .cells c.cells 46 (0, 0))]) (by simp))
  obtain ⟨bb, off, hta, hbl, hrow⟩ := hc.o (by omega)
  have HRW := Lib.hid (show ∀ w', Keeps (fun _ => False) w w' → ∀ j, j < 10 → w'.cell? ⟨bb, off + i * 10 + j, none⟩ = (c.obj i)[j]? from fun w' kk j hj => (kk.none.cell (p := ⟨bb, off + i * 10 + j, none⟩) hbl).trans (hrow i hi j hj))
  have HBL := Lib.hid hbl
  have HTA := Lib.hid hta
  have HV := Lib.hid (show objectF c x 15 (i : Int) = if ((c.ob i 0 == 1)) = false then 12 else whenF (x != c.ob i 5) 10 from by unfold objectF; rw [if_neg (by decide), if_neg (by omega)]; simp [needL])
  clear hrow hbl hta hc ho
  generalize hob : c.ob i = ob at *
  generalize hoi : c.oi i = oi at *
  have HOB := Lib.hid (And.intro hob hoi)
  clear hob hoi
  go_enter Try.func38, Try.ntmps38
  go_wp2_with fail
  refine (needs_15 _).mono ?_
  rintro e w2 ⟨b, rfl, hN, k2⟩
  replace HB := Lib.hid (HB.out.none k2)
  clear k2
  obtain ⟨e0, e1, e2, e3⟩ := four_cells (HB.out.at 1 rfl)
  obtain ⟨z0, z1, z2, z3, z4, z5, z6⟩ := seven_at (HB.out.at 0 rfl)
  rw [HTA.out] at e2
  have hr := HRW.out w2 HB.out.keeps
  rw [show c.obj i = objC ob oi from by unfold CfD.obj objC; rw [HOB.out.1, HOB.out.2]] at hr
  have c0 : w2.cell? ⟨bb, off + i * 10, none⟩ = some (.int .i64 (ob 0)) := hr 0 (by omega)
  have c1 : w2.cell? ⟨bb, off + i * 10 + 1, none⟩ = some (.int .i64 (ob 1)) := hr 1 (by omega)
  have c2 : w2.cell? ⟨bb, off + i * 10 + 2, none⟩ = some (.int .i64 (ob 2)) := hr 2 (by omega)
  have c3 : w2.cell? ⟨bb, off + i * 10 + 3, none⟩ = some (.int .i64 (ob 3)) := hr 3 (by omega)
  have c4 : w2.cell? ⟨bb, off + i * 10 + 4, none⟩ = some (.int .i64 (ob 4)) := hr 4 (by omega)
  have c5 : w2.cell? ⟨bb, off + i * 10 + 5, none⟩ = some (.int .i64 (ob 5)) := hr 5 (by omega)
  have c6 : w2.cell? ⟨bb, off + i * 10 + 6, none⟩ = some (.int .u32 (oi 0)) := hr 6 (by omega)
  have c7 : w2.cell? ⟨bb, off + i * 10 + 7, none⟩ = some (.int .u32 (oi 1)) := hr 7 (by omega)
  have c8 : w2.cell? ⟨bb, off + i * 10 + 8, none⟩ = some (.int .u32 (oi 2)) := hr 8 (by omega)
  have c9 : w2.cell? ⟨bb, off + i * 10 + 9, none⟩ = some (.int .u32 (oi 3)) := hr 9 (by omega)
  have HN := Lib.hid (heap_old hN (.cells (objC ob oi) 63))
  replace HB := Lib.hid (HB.out.alloc (.cells (objC ob oi) 63))
  clear hr hN
  go_wp2_with fail
  refine (cont1 b 1 1 (ob 0) _ (cell_of HN.out 0) (lt_of HN.out)).mono ?_
  rintro e w3 ⟨rfl, k3⟩
  replace HB := Lib.hid (HB.out.none k3)
  clear k3 c0 c1 c2 c3 c4 c5 c6 c7 c8 c9 e0 e1 e2 e3 z0 z1 z2 z3 z4 z5 z6
  obtain ⟨x0, x1, x2, x3, x4, x5, x6, x7, x8, x9⟩ := ten_cells (HB.out.at 0 rfl)
  obtain ⟨z0, z1, z2, z3, z4, z5, z6⟩ := seven_at (HB.out.at 1 rfl)
  rcases hq : ((ob 0 == 1))
  · have HVV := Lib.hid (show objectF c x 15 (i : Int) = 12 from by rw [HV.out, hq]; rfl)
    go_wp2
    go_ret
    exact ⟨ret_i64 HVV.out.symm, HB.out.keeps⟩
  · have HVV := Lib.hid (show objectF c x 15 (i : Int) = whenF (x != ob 5) 10 from by rw [HV.out, hq]; rfl)
    go_wp2_with fail
    refine (when_any _ _ _).mono ?_
    rintro e w4 ⟨rfl, k4⟩
    go_wp2
    go_ret
    exact ⟨ret_i64 HVV.out.symm, HB.out.keeps.trans k4⟩
theorem obj15_any (c : CfD) (x o : Int) (v : Nat → Int) (n : Int) (w : World) (hc : CfIn w c) (ho : c.Ok) : Calls Try.prog 38 #[.agg c.cells, .int .i64 x, .agg (callC 15 o v n)] w fun e w' => e = .returned (.int .i64 (objectF c x 15 o)) ∧ Keeps (fun _ => False) w w' := by
  by_cases h1 : o < 0
  · exact obj15_l c x o v n w hc ho h1
  by_cases h2 : (c.nO : Int) ≤ o
  · exact obj15_h c x o v n w hc ho ⟨h1, h2⟩
  obtain ⟨i, rfl⟩ : ∃ i : Nat, o = (i : Int) := ⟨o.toNat, by omega⟩
  exact obj15_m c x i v n w hc ho (by omega)
theorem obj16_l (c : CfD) (x o : Int) (v : Nat → Int) (n : Int) (w : World) (hc : CfIn w c) (ho : c.Ok) (h : o < 0) : Calls Try.prog 38 #[.agg c.cells, .int .i64 x, .agg (callC 16 o v n)] w fun e w' => e = .returned (.int .i64 (objectF c x 16 o)) ∧ Keeps (fun _ => False) w w' := by
  have HV := Lib.hid (show objectF c x 16 o = 4 from by unfold objectF; rw [if_neg (by decide), if_pos (by omega)])
  have HB := Lib.hid (((Has.start w).alloc (.cells c.cells 46)).alloc (.cells (callC 16 o v n) 59) |>.eq (M := [(w.heap.size + 1, .cells (callC 16 o v n) 59 (0, 0)), (w.heap.size, .cells c.cells 46 (0, 0))]) (by simp))
  have d0 : decide (o < 0) = true := decide_eq_true h
  clear h hc ho
  go_enter Try.func38, Try.ntmps38
  go_wp2_with fail
  refine (needs_16 _).mono ?_
  rintro e w2 ⟨b, rfl, hN, k2⟩
  replace HB := Lib.hid (HB.out.none k2)
  clear k2
  obtain ⟨e0, e1, e2, e3⟩ := four_cells (HB.out.at 1 rfl)
  obtain ⟨z0, z1, z2, z3, z4, z5, z6⟩ := seven_at (HB.out.at 0 rfl)
  go_wp2
  go_ret
  exact ⟨ret_i64 HV.out.symm, HB.out.keeps⟩
theorem obj16_h (c : CfD) (x o : Int) (v : Nat → Int) (n : Int) (w : World) (hc : CfIn w c) (ho : c.Ok) (h : ¬ o < 0 ∧ (c.nO : Int) ≤ o) : Calls Try.prog 38 #[.agg c.cells, .int .i64 x, .agg (callC 16 o v n)] w fun e w' => e = .returned (.int .i64 (objectF c x 16 o)) ∧ Keeps (fun _ => False) w w' := by
  have HV := Lib.hid (show objectF c x 16 o = 4 from by unfold objectF; rw [if_neg (by decide), if_pos (by omega)])
  have HB := Lib.hid (((Has.start w).alloc (.cells c.cells 46)).alloc (.cells (callC 16 o v n) 59) |>.eq (M := [(w.heap.size + 1, .cells (callC 16 o v n) 59 (0, 0)), (w.heap.size, .cells c.cells 46 (0, 0))]) (by simp))
  have d0 : decide (o < 0) = false := decide_eq_false h.1
  have d1 : decide ((c.nO : Int) ≤ o) = true := decide_eq_true h.2
  clear h hc ho
  go_enter Try.func38, Try.ntmps38
  go_wp2_with fail
  refine (needs_16 _).mono ?_
  rintro e w2 ⟨b, rfl, hN, k2⟩
  replace HB := Lib.hid (HB.out.none k2)
  clear k2
  obtain ⟨e0, e1, e2, e3⟩ := four_cells (HB.out.at 1 rfl)
  obtain ⟨z0, z1, z2, z3, z4, z5, z6⟩ := seven_at (HB.out.at 0 rfl)
  go_wp2
  go_ret
  exact ⟨ret_i64 HV.out.symm, HB.out.keeps⟩
theorem obj16_m (c : CfD) (x : Int) (i : Nat) (v : Nat → Int) (n : Int) (w : World) (hc : CfIn w c) (ho : c.Ok) (hi : i < c.nO) : Calls Try.prog 38 #[.agg c.cells, .int .i64 x, .agg (callC 16 (i : Int) v n)] w fun e w' => e = .returned (.int .i64 (objectF c x 16 (i : Int))) ∧ Keeps (fun _ => False) w w' := by
  have d0 : decide ((i : Int) < 0) = false := decide_eq_false (by omega)
  have d1 : decide ((c.nO : Int) ≤ (i : Int)) = false := decide_eq_false (by omega)
  have hlim := ho.o
  unfold maxLen at hlim
  have HB := Lib.hid (((Has.start w).alloc (.cells c.cells 46)).alloc (.cells (callC 16 (i : Int) v n) 59) |>.eq (M := [(w.heap.size + 1, .cells (callC 16 (i : Int) v n) 59 (0, 0)), (w.heap.size, .cells c.cells 46 (0, 0))]) (by simp))
  obtain ⟨bb, off, hta, hbl, hrow⟩ := hc.o (by omega)
  have HRW := Lib.hid (show ∀ w', Keeps (fun _ => False) w w' → ∀ j, j < 10 → w'.cell? ⟨bb, off + i * 10 + j, none⟩ = (c.obj i)[j]? from fun w' kk j hj => (kk.none.cell (p := ⟨bb, off + i * 10 + j, none⟩) hbl).trans (hrow i hi j hj))
  have HBL := Lib.hid hbl
  have HTA := Lib.hid hta
  have HV := Lib.hid (show objectF c x 16 (i : Int) = if ((c.ob i 0 == 4)) = false then 12 else 0 from by unfold objectF; rw [if_neg (by decide), if_neg (by omega)]; simp [needL])
  clear hrow hbl hta hc ho
  generalize hob : c.ob i = ob at *
  generalize hoi : c.oi i = oi at *
  have HOB := Lib.hid (And.intro hob hoi)
  clear hob hoi
  go_enter Try.func38, Try.ntmps38
  go_wp2_with fail
  refine (needs_16 _).mono ?_
  rintro e w2 ⟨b, rfl, hN, k2⟩
  replace HB := Lib.hid (HB.out.none k2)
  clear k2
  obtain ⟨e0, e1, e2, e3⟩ := four_cells (HB.out.at 1 rfl)
  obtain ⟨z0, z1, z2, z3, z4, z5, z6⟩ := seven_at (HB.out.at 0 rfl)
  rw [HTA.out] at e2
  have hr := HRW.out w2 HB.out.keeps
  rw [show c.obj i = objC ob oi from by unfold CfD.obj objC; rw [HOB.out.1, HOB.out.2]] at hr
  have c0 : w2.cell? ⟨bb, off + i * 10, none⟩ = some (.int .i64 (ob 0)) := hr 0 (by omega)
  have c1 : w2.cell? ⟨bb, off + i * 10 + 1, none⟩ = some (.int .i64 (ob 1)) := hr 1 (by omega)
  have c2 : w2.cell? ⟨bb, off + i * 10 + 2, none⟩ = some (.int .i64 (ob 2)) := hr 2 (by omega)
  have c3 : w2.cell? ⟨bb, off + i * 10 + 3, none⟩ = some (.int .i64 (ob 3)) := hr 3 (by omega)
  have c4 : w2.cell? ⟨bb, off + i * 10 + 4, none⟩ = some (.int .i64 (ob 4)) := hr 4 (by omega)
  have c5 : w2.cell? ⟨bb, off + i * 10 + 5, none⟩ = some (.int .i64 (ob 5)) := hr 5 (by omega)
  have c6 : w2.cell? ⟨bb, off + i * 10 + 6, none⟩ = some (.int .u32 (oi 0)) := hr 6 (by omega)
  have c7 : w2.cell? ⟨bb, off + i * 10 + 7, none⟩ = some (.int .u32 (oi 1)) := hr 7 (by omega)
  have c8 : w2.cell? ⟨bb, off + i * 10 + 8, none⟩ = some (.int .u32 (oi 2)) := hr 8 (by omega)
  have c9 : w2.cell? ⟨bb, off + i * 10 + 9, none⟩ = some (.int .u32 (oi 3)) := hr 9 (by omega)
  have HN := Lib.hid (heap_old hN (.cells (objC ob oi) 63))
  replace HB := Lib.hid (HB.out.alloc (.cells (objC ob oi) 63))
  clear hr hN
  go_wp2_with fail
  refine (cont1 b 1 4 (ob 0) _ (cell_of HN.out 0) (lt_of HN.out)).mono ?_
  rintro e w3 ⟨rfl, k3⟩
  replace HB := Lib.hid (HB.out.none k3)
  clear k3 c0 c1 c2 c3 c4 c5 c6 c7 c8 c9 e0 e1 e2 e3 z0 z1 z2 z3 z4 z5 z6
  obtain ⟨x0, x1, x2, x3, x4, x5, x6, x7, x8, x9⟩ := ten_cells (HB.out.at 0 rfl)
  obtain ⟨z0, z1, z2, z3, z4, z5, z6⟩ := seven_at (HB.out.at 1 rfl)
  rcases hq : ((ob 0 == 4))
  · have HVV := Lib.hid (show objectF c x 16 (i : Int) = 12 from by rw [HV.out, hq]; rfl)
    go_wp2
    go_ret
    exact ⟨ret_i64 HVV.out.symm, HB.out.keeps⟩
  · have HVV := Lib.hid (show objectF c x 16 (i : Int) = 0 from by rw [HV.out, hq]; rfl)
    go_wp2
    go_ret
    exact ⟨ret_i64 HVV.out.symm, HB.out.keeps⟩
theorem obj16_any (c : CfD) (x o : Int) (v : Nat → Int) (n : Int) (w : World) (hc : CfIn w c) (ho : c.Ok) : Calls Try.prog 38 #[.agg c.cells, .int .i64 x, .agg (callC 16 o v n)] w fun e w' => e = .returned (.int .i64 (objectF c x 16 o)) ∧ Keeps (fun _ => False) w w' := by
  by_cases h1 : o < 0
  · exact obj16_l c x o v n w hc ho h1
  by_cases h2 : (c.nO : Int) ≤ o
  · exact obj16_h c x o v n w hc ho ⟨h1, h2⟩
  obtain ⟨i, rfl⟩ : ∃ i : Nat, o = (i : Int) := ⟨o.toNat, by omega⟩
  exact obj16_m c x i v n w hc ho (by omega)
theorem obj17_l (c : CfD) (x o : Int) (v : Nat → Int) (n : Int) (w : World) (hc : CfIn w c) (ho : c.Ok) (h : o < 0) : Calls Try.prog 38 #[.agg c.cells, .int .i64 x, .agg (callC 17 o v n)] w fun e w' => e = .returned (.int .i64 (objectF c x 17 o)) ∧ Keeps (fun _ => False) w w' := by
  have HV := Lib.hid (show objectF c x 17 o = 4 from by unfold objectF; rw [if_neg (by decide), if_pos (by omega)])
  have HB := Lib.hid (((Has.start w).alloc (.cells c.cells 46)).alloc (.cells (callC 17 o v n) 59) |>.eq (M := [(w.heap.size + 1, .cells (callC 17 o v n) 59 (0, 0)), (w.heap.size, .cells c.cells 46 (0, 0))]) (by simp))
  have d0 : decide (o < 0) = true := decide_eq_true h
  clear h hc ho
  go_enter Try.func38, Try.ntmps38
  go_wp2_with fail
  refine (needs_17 _).mono ?_
  rintro e w2 ⟨b, rfl, hN, k2⟩
  replace HB := Lib.hid (HB.out.none k2)
  clear k2
  obtain ⟨e0, e1, e2, e3⟩ := four_cells (HB.out.at 1 rfl)
  obtain ⟨z0, z1, z2, z3, z4, z5, z6⟩ := seven_at (HB.out.at 0 rfl)
  go_wp2
  go_ret
  exact ⟨ret_i64 HV.out.symm, HB.out.keeps⟩
theorem obj17_h (c : CfD) (x o : Int) (v : Nat → Int) (n : Int) (w : World) (hc : CfIn w c) (ho : c.Ok) (h : ¬ o < 0 ∧ (c.nO : Int) ≤ o) : Calls Try.prog 38 #[.agg c.cells, .int .i64 x, .agg (callC 17 o v n)] w fun e w' => e = .returned (.int .i64 (objectF c x 17 o)) ∧ Keeps (fun _ => False) w w' := by
  have HV := Lib.hid (show objectF c x 17 o = 4 from by unfold objectF; rw [if_neg (by decide), if_pos (by omega)])
  have HB := Lib.hid (((Has.start w).alloc (.cells c.cells 46)).alloc (.cells (callC 17 o v n) 59) |>.eq (M := [(w.heap.size + 1, .cells (callC 17 o v n) 59 (0, 0)), (w.heap.size, .cells c.cells 46 (0, 0))]) (by simp))
  have d0 : decide (o < 0) = false := decide_eq_false h.1
  have d1 : decide ((c.nO : Int) ≤ o) = true := decide_eq_true h.2
  clear h hc ho
  go_enter Try.func38, Try.ntmps38
  go_wp2_with fail
  refine (needs_17 _).mono ?_
  rintro e w2 ⟨b, rfl, hN, k2⟩
  replace HB := Lib.hid (HB.out.none k2)
  clear k2
  obtain ⟨e0, e1, e2, e3⟩ := four_cells (HB.out.at 1 rfl)
  obtain ⟨z0, z1, z2, z3, z4, z5, z6⟩ := seven_at (HB.out.at 0 rfl)
  go_wp2
  go_ret
  exact ⟨ret_i64 HV.out.symm, HB.out.keeps⟩
theorem obj17_m (c : CfD) (x : Int) (i : Nat) (v : Nat → Int) (n : Int) (w : World) (hc : CfIn w c) (ho : c.Ok) (hi : i < c.nO) : Calls Try.prog 38 #[.agg c.cells, .int .i64 x, .agg (callC 17 (i : Int) v n)] w fun e w' => e = .returned (.int .i64 (objectF c x 17 (i : Int))) ∧ Keeps (fun _ => False) w w' := by
  have d0 : decide ((i : Int) < 0) = false := decide_eq_false (by omega)
  have d1 : decide ((c.nO : Int) ≤ (i : Int)) = false := decide_eq_false (by omega)
  have hlim := ho.o
  unfold maxLen at hlim
  have HB := Lib.hid (((Has.start w).alloc (.cells c.cells 46)).alloc (.cells (callC 17 (i : Int) v n) 59) |>.eq (M := [(w.heap.size + 1, .cells (callC 17 (i : Int) v n) 59 (0, 0)), (w.heap.size, .cells c.cells 46 (0, 0))]) (by simp))
  obtain ⟨bb, off, hta, hbl, hrow⟩ := hc.o (by omega)
  have HRW := Lib.hid (show ∀ w', Keeps (fun _ => False) w w' → ∀ j, j < 10 → w'.cell? ⟨bb, off + i * 10 + j, none⟩ = (c.obj i)[j]? from fun w' kk j hj => (kk.none.cell (p := ⟨bb, off + i * 10 + j, none⟩) hbl).trans (hrow i hi j hj))
  have HBL := Lib.hid hbl
  have HTA := Lib.hid hta
  have HV := Lib.hid (show objectF c x 17 (i : Int) = if ((c.ob i 0 == 4)) = false then 12 else 0 from by unfold objectF; rw [if_neg (by decide), if_neg (by omega)]; simp [needL])
  clear hrow hbl hta hc ho
  generalize hob : c.ob i = ob at *
  generalize hoi : c.oi i = oi at *
  have HOB := Lib.hid (And.intro hob hoi)
  clear hob hoi
  go_enter Try.func38, Try.ntmps38
  go_wp2_with fail
  refine (needs_17 _).mono ?_
  rintro e w2 ⟨b, rfl, hN, k2⟩
  replace HB := Lib.hid (HB.out.none k2)
  clear k2
  obtain ⟨e0, e1, e2, e3⟩ := four_cells (HB.out.at 1 rfl)
  obtain ⟨z0, z1, z2, z3, z4, z5, z6⟩ := seven_at (HB.out.at 0 rfl)
  rw [HTA.out] at e2
  have hr := HRW.out w2 HB.out.keeps
  rw [show c.obj i = objC ob oi from by unfold CfD.obj objC; rw [HOB.out.1, HOB.out.2]] at hr
  have c0 : w2.cell? ⟨bb, off + i * 10, none⟩ = some (.int .i64 (ob 0)) := hr 0 (by omega)
  have c1 : w2.cell? ⟨bb, off + i * 10 + 1, none⟩ = some (.int .i64 (ob 1)) := hr 1 (by omega)
  have c2 : w2.cell? ⟨bb, off + i * 10 + 2, none⟩ = some (.int .i64 (ob 2)) := hr 2 (by omega)
  have c3 : w2.cell? ⟨bb, off + i * 10 + 3, none⟩ = some (.int .i64 (ob 3)) := hr 3 (by omega)
  have c4 : w2.cell? ⟨bb, off + i * 10 + 4, none⟩ = some (.int .i64 (ob 4)) := hr 4 (by omega)
  have c5 : w2.cell? ⟨bb, off + i * 10 + 5, none⟩ = some (.int .i64 (ob 5)) := hr 5 (by omega)
  have c6 : w2.cell? ⟨bb, off + i * 10 + 6, none⟩ = some (.int .u32 (oi 0)) := hr 6 (by omega)
  have c7 : w2.cell? ⟨bb, off + i * 10 + 7, none⟩ = some (.int .u32 (oi 1)) := hr 7 (by omega)
  have c8 : w2.cell? ⟨bb, off + i * 10 + 8, none⟩ = some (.int .u32 (oi 2)) := hr 8 (by omega)
  have c9 : w2.cell? ⟨bb, off + i * 10 + 9, none⟩ = some (.int .u32 (oi 3)) := hr 9 (by omega)
  have HN := Lib.hid (heap_old hN (.cells (objC ob oi) 63))
  replace HB := Lib.hid (HB.out.alloc (.cells (objC ob oi) 63))
  clear hr hN
  go_wp2_with fail
  refine (cont1 b 1 4 (ob 0) _ (cell_of HN.out 0) (lt_of HN.out)).mono ?_
  rintro e w3 ⟨rfl, k3⟩
  replace HB := Lib.hid (HB.out.none k3)
  clear k3 c0 c1 c2 c3 c4 c5 c6 c7 c8 c9 e0 e1 e2 e3 z0 z1 z2 z3 z4 z5 z6
  obtain ⟨x0, x1, x2, x3, x4, x5, x6, x7, x8, x9⟩ := ten_cells (HB.out.at 0 rfl)
  obtain ⟨z0, z1, z2, z3, z4, z5, z6⟩ := seven_at (HB.out.at 1 rfl)
  rcases hq : ((ob 0 == 4))
  · have HVV := Lib.hid (show objectF c x 17 (i : Int) = 12 from by rw [HV.out, hq]; rfl)
    go_wp2
    go_ret
    exact ⟨ret_i64 HVV.out.symm, HB.out.keeps⟩
  · have HVV := Lib.hid (show objectF c x 17 (i : Int) = 0 from by rw [HV.out, hq]; rfl)
    go_wp2
    go_ret
    exact ⟨ret_i64 HVV.out.symm, HB.out.keeps⟩
theorem obj17_any (c : CfD) (x o : Int) (v : Nat → Int) (n : Int) (w : World) (hc : CfIn w c) (ho : c.Ok) : Calls Try.prog 38 #[.agg c.cells, .int .i64 x, .agg (callC 17 o v n)] w fun e w' => e = .returned (.int .i64 (objectF c x 17 o)) ∧ Keeps (fun _ => False) w w' := by
  by_cases h1 : o < 0
  · exact obj17_l c x o v n w hc ho h1
  by_cases h2 : (c.nO : Int) ≤ o
  · exact obj17_h c x o v n w hc ho ⟨h1, h2⟩
  obtain ⟨i, rfl⟩ : ∃ i : Nat, o = (i : Int) := ⟨o.toNat, by omega⟩
  exact obj17_m c x i v n w hc ho (by omega)
theorem object_any (c : CfD) (x k o : Int) (v : Nat → Int) (n : Int) (w : World) (hc : CfIn w c) (ho : c.Ok) : Calls Try.prog 38 #[.agg c.cells, .int .i64 x, .agg (callC k o v n)] w fun e w' => e = .returned (.int .i64 (objectF c x k o)) ∧ Keeps (fun _ => False) w w' := by
  by_cases h1 : k = 1
  · subst h1
    exact obj1_any c x o v n w hc ho
  by_cases h2 : k = 2
  · subst h2
    exact obj2_any c x o v n w hc ho
  by_cases h3 : k = 3
  · subst h3
    exact obj3_any c x o v n w hc ho
  by_cases h4 : k = 4
  · subst h4
    exact obj4_any c x o v n w hc ho
  by_cases h5 : k = 5
  · subst h5
    exact obj5_any c x o v n w hc ho
  by_cases h6 : k = 6
  · subst h6
    exact obj6_any c x o v n w hc ho
  by_cases h7 : k = 7
  · subst h7
    exact obj7_any c x o v n w hc ho
  by_cases h8 : k = 8
  · subst h8
    exact obj8_any c x o v n w hc ho
  by_cases h9 : k = 9
  · subst h9
    exact obj9_any c x o v n w hc ho
  by_cases h14 : k = 14
  · subst h14
    exact obj14_any c x o v n w hc ho
  by_cases h15 : k = 15
  · subst h15
    exact obj15_any c x o v n w hc ho
  by_cases h16 : k = 16
  · subst h16
    exact obj16_any c x o v n w hc ho
  by_cases h17 : k = 17
  · subst h17
    exact obj17_any c x o v n w hc ho
  have HV := Lib.hid (show objectF c x k o = 0 from by unfold objectF; rw [if_pos (by unfold needL; simp [h1, h2, h3, h4, h5, h6, h7, h8, h9, h14, h15, h16, h17])])
  have n1 : (k == 1) = false := beq_eq_false_iff_ne.mpr h1
  have n2 : (k == 2) = false := beq_eq_false_iff_ne.mpr h2
  have n3 : (k == 3) = false := beq_eq_false_iff_ne.mpr h3
  have n4 : (k == 4) = false := beq_eq_false_iff_ne.mpr h4
  have n5 : (k == 5) = false := beq_eq_false_iff_ne.mpr h5
  have n6 : (k == 6) = false := beq_eq_false_iff_ne.mpr h6
  have n7 : (k == 7) = false := beq_eq_false_iff_ne.mpr h7
  have n8 : (k == 8) = false := beq_eq_false_iff_ne.mpr h8
  have n9 : (k == 9) = false := beq_eq_false_iff_ne.mpr h9
  have n14 : (k == 14) = false := beq_eq_false_iff_ne.mpr h14
  have n15 : (k == 15) = false := beq_eq_false_iff_ne.mpr h15
  have n16 : (k == 16) = false := beq_eq_false_iff_ne.mpr h16
  have n17 : (k == 17) = false := beq_eq_false_iff_ne.mpr h17
  have HNN := Lib.hid (fun w => needs_x k w n1 n2 n3 n4 n5 n6 n7 n8 n9 n14 n15 n16 n17)
  clear h1 n1 h2 n2 h3 n3 h4 n4 h5 n5 h6 n6 h7 n7 h8 n8 h9 n9 h14 n14 h15 n15 h16 n16 h17 n17 hc ho
  have HB := Lib.hid (((Has.start w).alloc (.cells c.cells 46)).alloc (.cells (callC k o v n) 59))
  go_enter Try.func38, Try.ntmps38
  go_wp2_with fail
  refine (HNN.out _).mono ?_
  rintro e w2 ⟨rfl, k2⟩
  replace HB := Lib.hid (HB.out.none k2)
  clear k2
  go_wp2
  go_ret
  exact ⟨ret_i64 HV.out.symm, HB.out.keeps⟩
end Go.Proofs.Ytdhfppflhmoejac
