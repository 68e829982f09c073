import Derived.Test.YtnogdeihiiejkaaConfB
import Derived.Test.YtnogdeihiiejkaaObj
import Derived.LoopN
namespace Go.Proofs.Ytnogdeihiiejkaa
open Go.ChangeShapes Go.WideShapes Go.ChangeAt Go.RowKit
set_option linter.unusedVariables false
set_option linter.unusedSimpArgs false
def ownF (c : CfD) (o : Nat → Int) : Bool := (if o 0 = 4 then (o 4 == 0) else hasF c (o 4)) && (if o 0 = 1 ∨ o 0 = 2 then hasF c (o 5) else (o 5 == 0))
theorem own_1 (c : CfD) (o oi : Nat → Int) (w : World) (ho : c.Ok) (h : o 0 = 1) :
    Calls Try.prog 36 #[.agg c.cells, .agg (objC o oi)] w fun e w' => e = .returned (.bool (ownF c o)) ∧ Keeps (fun _ => False) w w' := by
  have HB := Lib.hid (((Has.start w).alloc (.cells c.cells 78)).alloc (.cells (objC o oi) 49) |>.eq (M := [(w.heap.size + 1, .cells (objC o oi) 49 (0, 0)), (w.heap.size, .cells c.cells 78 (0, 0))]) (by simp))
  have HF := Lib.hid (fun x w => has_any c x w ho)
  have HV := Lib.hid (show ownF c o = (hasF c (o 4) && hasF c (o 5)) from by unfold ownF; simp [h])
  have k0 := h
  clear h ho
  go_enter Try.func36, Try.ntmps36
  go_wp2_with fail
  go_quiet (fail)
  replace HB := Lib.hid (HB.out.none ((Keeps.refl _ _).drewN nq))
  obtain ⟨x0, x1, x2, x3, x4, x5, x6, x7, x8, x9⟩ := ten_cells (HB.out.at 0 rfl)
  obtain ⟨e0, e1, e2, e3⟩ := four_cells (HB.out.at 1 rfl)
  go_wp2_with fail
  refine (HF.out _ _).mono ?_
  rintro e w2 ⟨rfl, k2⟩
  replace HB := Lib.hid (HB.out.none k2)
  clear k2 x0 x1 x2 x3 x4 x5 x6 x7 x8 x9 e0 e1 e2 e3
  obtain ⟨x0, x1, x2, x3, x4, x5, x6, x7, x8, x9⟩ := ten_cells (HB.out.at 0 rfl)
  obtain ⟨e0, e1, e2, e3⟩ := four_cells (HB.out.at 1 rfl)
  go_wp2_with fail
  refine (HF.out _ _).mono ?_
  rintro e w3 ⟨rfl, k3⟩
  replace HB := Lib.hid (HB.out.none k3)
  clear k3 x0 x1 x2 x3 x4 x5 x6 x7 x8 x9 e0 e1 e2 e3
  obtain ⟨x0, x1, x2, x3, x4, x5, x6, x7, x8, x9⟩ := ten_cells (HB.out.at 0 rfl)
  obtain ⟨e0, e1, e2, e3⟩ := four_cells (HB.out.at 1 rfl)
  go_wp2
  all_goals
    go_ret
    exact ⟨ret_bool (by rw [HV.out]; simp [*]), HB.out.keeps⟩
theorem own_2 (c : CfD) (o oi : Nat → Int) (w : World) (ho : c.Ok) (h : o 0 = 2) :
    Calls Try.prog 36 #[.agg c.cells, .agg (objC o oi)] w fun e w' => e = .returned (.bool (ownF c o)) ∧ Keeps (fun _ => False) w w' := by
  have HB := Lib.hid (((Has.start w).alloc (.cells c.cells 78)).alloc (.cells (objC o oi) 49) |>.eq (M := [(w.heap.size + 1, .cells (objC o oi) 49 (0, 0)), (w.heap.size, .cells c.cells 78 (0, 0))]) (by simp))
  have HF := Lib.hid (fun x w => has_any c x w ho)
  have HV := Lib.hid (show ownF c o = (hasF c (o 4) && hasF c (o 5)) from by unfold ownF; simp [h])
  have k0 := h
  clear h ho
  go_enter Try.func36, Try.ntmps36
  go_wp2_with fail
  go_quiet (fail)
  replace HB := Lib.hid (HB.out.none ((Keeps.refl _ _).drewN nq))
  obtain ⟨x0, x1, x2, x3, x4, x5, x6, x7, x8, x9⟩ := ten_cells (HB.out.at 0 rfl)
  obtain ⟨e0, e1, e2, e3⟩ := four_cells (HB.out.at 1 rfl)
  go_wp2_with fail
  refine (HF.out _ _).mono ?_
  rintro e w2 ⟨rfl, k2⟩
  replace HB := Lib.hid (HB.out.none k2)
  clear k2 x0 x1 x2 x3 x4 x5 x6 x7 x8 x9 e0 e1 e2 e3
  obtain ⟨x0, x1, x2, x3, x4, x5, x6, x7, x8, x9⟩ := ten_cells (HB.out.at 0 rfl)
  obtain ⟨e0, e1, e2, e3⟩ := four_cells (HB.out.at 1 rfl)
  go_wp2_with fail
  refine (HF.out _ _).mono ?_
  rintro e w3 ⟨rfl, k3⟩
  replace HB := Lib.hid (HB.out.none k3)
  clear k3 x0 x1 x2 x3 x4 x5 x6 x7 x8 x9 e0 e1 e2 e3
  obtain ⟨x0, x1, x2, x3, x4, x5, x6, x7, x8, x9⟩ := ten_cells (HB.out.at 0 rfl)
  obtain ⟨e0, e1, e2, e3⟩ := four_cells (HB.out.at 1 rfl)
  go_wp2
  all_goals
    go_ret
    exact ⟨ret_bool (by rw [HV.out]; simp [*]), HB.out.keeps⟩
theorem own_4 (c : CfD) (o oi : Nat → Int) (w : World) (ho : c.Ok) (h : o 0 = 4) :
    Calls Try.prog 36 #[.agg c.cells, .agg (objC o oi)] w fun e w' => e = .returned (.bool (ownF c o)) ∧ Keeps (fun _ => False) w w' := by
  have HB := Lib.hid (((Has.start w).alloc (.cells c.cells 78)).alloc (.cells (objC o oi) 49) |>.eq (M := [(w.heap.size + 1, .cells (objC o oi) 49 (0, 0)), (w.heap.size, .cells c.cells 78 (0, 0))]) (by simp))
  have HF := Lib.hid (fun x w => has_any c x w ho)
  have HV := Lib.hid (show ownF c o = ((o 4 == 0) && (o 5 == 0)) from by unfold ownF; simp [h])
  have k0 := h
  clear h ho
  go_enter Try.func36, Try.ntmps36
  go_wp2_with fail
  go_quiet (fail)
  replace HB := Lib.hid (HB.out.none ((Keeps.refl _ _).drewN nq))
  obtain ⟨x0, x1, x2, x3, x4, x5, x6, x7, x8, x9⟩ := ten_cells (HB.out.at 0 rfl)
  obtain ⟨e0, e1, e2, e3⟩ := four_cells (HB.out.at 1 rfl)
  go_wp2
  all_goals
    go_ret
    exact ⟨ret_bool (by rw [HV.out]; simp [*]), HB.out.keeps⟩
theorem own_x (c : CfD) (o oi : Nat → Int) (w : World) (ho : c.Ok) (h : o 0 ≠ 1 ∧ o 0 ≠ 2 ∧ o 0 ≠ 4) :
    Calls Try.prog 36 #[.agg c.cells, .agg (objC o oi)] w fun e w' => e = .returned (.bool (ownF c o)) ∧ Keeps (fun _ => False) w w' := by
  have HB := Lib.hid (((Has.start w).alloc (.cells c.cells 78)).alloc (.cells (objC o oi) 49) |>.eq (M := [(w.heap.size + 1, .cells (objC o oi) 49 (0, 0)), (w.heap.size, .cells c.cells 78 (0, 0))]) (by simp))
  have HF := Lib.hid (fun x w => has_any c x w ho)
  have HV := Lib.hid (show ownF c o = (hasF c (o 4) && (o 5 == 0)) from by unfold ownF; simp [h])
  have n1 : (o 0 == 1) = false := beq_eq_false_iff_ne.mpr h.1
  have n2 : (o 0 == 2) = false := beq_eq_false_iff_ne.mpr h.2.1
  have n4 : (o 0 == 4) = false := beq_eq_false_iff_ne.mpr h.2.2
  have m4 : ¬ o 0 = 4 := h.2.2
  clear h ho
  go_enter Try.func36, Try.ntmps36
  go_wp2_with fail
  go_quiet (fail)
  replace HB := Lib.hid (HB.out.none ((Keeps.refl _ _).drewN nq))
  obtain ⟨x0, x1, x2, x3, x4, x5, x6, x7, x8, x9⟩ := ten_cells (HB.out.at 0 rfl)
  obtain ⟨e0, e1, e2, e3⟩ := four_cells (HB.out.at 1 rfl)
  go_wp2_with fail
  refine (HF.out _ _).mono ?_
  rintro e w2 ⟨rfl, k2⟩
  replace HB := Lib.hid (HB.out.none k2)
  clear k2 x0 x1 x2 x3 x4 x5 x6 x7 x8 x9 e0 e1 e2 e3
  obtain ⟨x0, x1, x2, x3, x4, x5, x6, x7, x8, x9⟩ := ten_cells (HB.out.at 0 rfl)
  obtain ⟨e0, e1, e2, e3⟩ := four_cells (HB.out.at 1 rfl)
  go_wp2
  all_goals
    go_ret
    exact ⟨ret_bool (by rw [HV.out]; simp [*]), HB.out.keeps⟩
theorem own_any (c : CfD) (o oi : Nat → Int) (w : World) (ho : c.Ok) :
    Calls Try.prog 36 #[.agg c.cells, .agg (objC o oi)] w fun e w' => e = .returned (.bool (ownF c o)) ∧ Keeps (fun _ => False) w w' := by
  by_cases h1 : o 0 = 1
  · exact own_1 c o oi w ho h1
  by_cases h2 : o 0 = 2
  · exact own_2 c o oi w ho h2
  by_cases h4 : o 0 = 4
  · exact own_4 c o oi w ho h4
  exact own_x c o oi w ho ⟨h1, h2, h4⟩
end Go.Proofs.Ytnogdeihiiejkaa
