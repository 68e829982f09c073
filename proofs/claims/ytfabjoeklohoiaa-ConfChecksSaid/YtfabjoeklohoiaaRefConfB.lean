import Derived.Test.YtfabjoeklohoiaaRefConfA
import Derived.LoopN
namespace Go.Proofs.Ytfabjoeklohoiaa
open Go.ChangeShapes Go.WideShapes Go.ChangeAt Go.RowKit
set_option linter.unusedVariables false
set_option linter.unusedSimpArgs false
theorem within_any (a lo hi : Int) (w : World) :
    Calls Try.prog 28 #[.int .i64 a, .int .i64 lo, .int .i64 hi] w fun e w' => e = .returned (.bool (decide (lo ≤ a) && decide (a ≤ hi))) ∧ w = w' := by
  rcases h : decide (lo ≤ a)
  all_goals
    go_enter Try.func28, Try.ntmps28
    go_wp2
    go_ret
    exact ⟨by simp, rfl⟩
set_option maxHeartbeats 2000000 in
theorem rright_1 (o oi : Nat → Int) (w : World) (hb : -9223372036854775808 ≤ o 1 ∧ o 1 ≤ 9223372036854775807) (hk : o 0 = 1) :
    Calls Try.prog 16 #[.agg (objC o oi)] w fun e w' => e = .returned (.bool (rightS o)) ∧ Keeps (fun _ => False) w w' := by
  have HB := Lib.hid ((Has.start w).alloc (.cells (objC o oi) 50))
  have HP := Lib.hid (fun w => rpower_any (o 1) w hb.1 hb.2)
  have HV := Lib.hid (show rightS o = ((pow2 (o 1) && decide (o 1 ≤ 64)) && ((decide (1 ≤ o 2) && decide (o 2 ≤ 4)) && (o 3 == 0))) from by unfold rightS; simp [hk])
  have HL := Lib.hid (show decide (64 < o 1) = !decide (o 1 ≤ 64) from by rw [Bool.eq_iff_iff]; simp)
  have hn : ∀ q : Int, (q != 0) = !(q == 0) := fun _ => rfl
  have d1 : (o 0 == 1) = true := by rw [hk]; rfl
  have d3 : (o 0 == 3) = false := by rw [hk]; rfl
  have d4 : (o 0 == 4) = false := by rw [hk]; rfl
  have d5 : decide (1 ≤ o 0) = true := decide_eq_true (by omega)
  have d6 : decide (o 0 ≤ 4) = true := decide_eq_true (by omega)
  clear hb hk
  go_enter Try.func16, Try.ntmps16
  go_wp2_with fail
  go_quiet (fail)
  replace HB := Lib.hid (HB.out.none ((Keeps.refl _ _).drewN nq))
  obtain ⟨x0, x1, x2, x3, x4, x5, x6, x7, x8, x9⟩ := ten_cells (HB.out.at 0 rfl)
  go_wp2_with (first
    | (go_at_call 28; refine (within_any _ _ _ _).mono ?_; rintro e w' ⟨rfl, rfl⟩)
    | (go_at_call 27; refine (HP.out _).mono ?_; rintro e w' ⟨rfl, rfl⟩))
  all_goals
    go_ret
    refine ⟨ret_bool ?_, HB.out.keeps⟩
    rw [HV.out]
    have hl := HL.out
    clear HB HP HV HL x0 x1 x2 x3 x4 x5 x6 x7 x8 x9
    simp_all
    all_goals first | omega | (rw [Bool.eq_iff_iff]; simp; omega)
set_option maxHeartbeats 2000000 in
theorem rright_2 (o oi : Nat → Int) (w : World) (hb : -9223372036854775808 ≤ o 1 ∧ o 1 ≤ 9223372036854775807) (hk : o 0 = 2) :
    Calls Try.prog 16 #[.agg (objC o oi)] w fun e w' => e = .returned (.bool (rightS o)) ∧ Keeps (fun _ => False) w w' := by
  have HB := Lib.hid ((Has.start w).alloc (.cells (objC o oi) 50))
  have HP := Lib.hid (fun w => rpower_any (o 1) w hb.1 hb.2)
  have HV := Lib.hid (show rightS o = ((o 1 == 0) && ((decide (1 ≤ o 2) && decide (o 2 ≤ 4)) && (o 3 == 0))) from by unfold rightS; simp [hk])
  have HL := Lib.hid (show decide (64 < o 1) = !decide (o 1 ≤ 64) from by rw [Bool.eq_iff_iff]; simp)
  have hn : ∀ q : Int, (q != 0) = !(q == 0) := fun _ => rfl
  have d1 : (o 0 == 1) = false := by rw [hk]; rfl
  have d3 : (o 0 == 3) = false := by rw [hk]; rfl
  have d4 : (o 0 == 4) = false := by rw [hk]; rfl
  have d5 : decide (1 ≤ o 0) = true := decide_eq_true (by omega)
  have d6 : decide (o 0 ≤ 4) = true := decide_eq_true (by omega)
  clear hb hk
  go_enter Try.func16, Try.ntmps16
  go_wp2_with fail
  go_quiet (fail)
  replace HB := Lib.hid (HB.out.none ((Keeps.refl _ _).drewN nq))
  obtain ⟨x0, x1, x2, x3, x4, x5, x6, x7, x8, x9⟩ := ten_cells (HB.out.at 0 rfl)
  go_wp2_with (first
    | (go_at_call 28; refine (within_any _ _ _ _).mono ?_; rintro e w' ⟨rfl, rfl⟩)
    | (go_at_call 27; refine (HP.out _).mono ?_; rintro e w' ⟨rfl, rfl⟩))
  all_goals
    go_ret
    refine ⟨ret_bool ?_, HB.out.keeps⟩
    rw [HV.out]
    have hl := HL.out
    clear HB HP HV HL x0 x1 x2 x3 x4 x5 x6 x7 x8 x9
    simp_all
    all_goals first | omega | (rw [Bool.eq_iff_iff]; simp; omega)
set_option maxHeartbeats 2000000 in
theorem rright_3 (o oi : Nat → Int) (w : World) (hb : -9223372036854775808 ≤ o 1 ∧ o 1 ≤ 9223372036854775807) (hk : o 0 = 3) :
    Calls Try.prog 16 #[.agg (objC o oi)] w fun e w' => e = .returned (.bool (rightS o)) ∧ Keeps (fun _ => False) w w' := by
  have HB := Lib.hid ((Has.start w).alloc (.cells (objC o oi) 50))
  have HP := Lib.hid (fun w => rpower_any (o 1) w hb.1 hb.2)
  have HV := Lib.hid (show rightS o = ((o 1 == 0) && ((decide (1 ≤ o 2) && decide (o 2 ≤ 4)) && (decide (0 ≤ o 3) && decide (o 3 ≤ 8)))) from by unfold rightS; simp [hk])
  have HL := Lib.hid (show decide (64 < o 1) = !decide (o 1 ≤ 64) from by rw [Bool.eq_iff_iff]; simp)
  have hn : ∀ q : Int, (q != 0) = !(q == 0) := fun _ => rfl
  have d1 : (o 0 == 1) = false := by rw [hk]; rfl
  have d3 : (o 0 == 3) = true := by rw [hk]; rfl
  have d4 : (o 0 == 4) = false := by rw [hk]; rfl
  have d5 : decide (1 ≤ o 0) = true := decide_eq_true (by omega)
  have d6 : decide (o 0 ≤ 4) = true := decide_eq_true (by omega)
  clear hb hk
  go_enter Try.func16, Try.ntmps16
  go_wp2_with fail
  go_quiet (fail)
  replace HB := Lib.hid (HB.out.none ((Keeps.refl _ _).drewN nq))
  obtain ⟨x0, x1, x2, x3, x4, x5, x6, x7, x8, x9⟩ := ten_cells (HB.out.at 0 rfl)
  go_wp2_with (first
    | (go_at_call 28; refine (within_any _ _ _ _).mono ?_; rintro e w' ⟨rfl, rfl⟩)
    | (go_at_call 27; refine (HP.out _).mono ?_; rintro e w' ⟨rfl, rfl⟩))
  all_goals
    go_ret
    refine ⟨ret_bool ?_, HB.out.keeps⟩
    rw [HV.out]
    have hl := HL.out
    clear HB HP HV HL x0 x1 x2 x3 x4 x5 x6 x7 x8 x9
    simp_all
    all_goals first | omega | (rw [Bool.eq_iff_iff]; simp; omega)
set_option maxHeartbeats 2000000 in
theorem rright_4 (o oi : Nat → Int) (w : World) (hb : -9223372036854775808 ≤ o 1 ∧ o 1 ≤ 9223372036854775807) (hk : o 0 = 4) :
    Calls Try.prog 16 #[.agg (objC o oi)] w fun e w' => e = .returned (.bool (rightS o)) ∧ Keeps (fun _ => False) w w' := by
  have HB := Lib.hid ((Has.start w).alloc (.cells (objC o oi) 50))
  have HP := Lib.hid (fun w => rpower_any (o 1) w hb.1 hb.2)
  have HV := Lib.hid (show rightS o = ((o 1 == 0) && ((o 2 == 0) && (o 3 == 0))) from by unfold rightS; simp [hk])
  have HL := Lib.hid (show decide (64 < o 1) = !decide (o 1 ≤ 64) from by rw [Bool.eq_iff_iff]; simp)
  have hn : ∀ q : Int, (q != 0) = !(q == 0) := fun _ => rfl
  have d1 : (o 0 == 1) = false := by rw [hk]; rfl
  have d3 : (o 0 == 3) = false := by rw [hk]; rfl
  have d4 : (o 0 == 4) = true := by rw [hk]; rfl
  have d5 : decide (1 ≤ o 0) = true := decide_eq_true (by omega)
  have d6 : decide (o 0 ≤ 4) = true := decide_eq_true (by omega)
  clear hb hk
  go_enter Try.func16, Try.ntmps16
  go_wp2_with fail
  go_quiet (fail)
  replace HB := Lib.hid (HB.out.none ((Keeps.refl _ _).drewN nq))
  obtain ⟨x0, x1, x2, x3, x4, x5, x6, x7, x8, x9⟩ := ten_cells (HB.out.at 0 rfl)
  go_wp2_with (first
    | (go_at_call 28; refine (within_any _ _ _ _).mono ?_; rintro e w' ⟨rfl, rfl⟩)
    | (go_at_call 27; refine (HP.out _).mono ?_; rintro e w' ⟨rfl, rfl⟩))
  all_goals
    go_ret
    refine ⟨ret_bool ?_, HB.out.keeps⟩
    rw [HV.out]
    have hl := HL.out
    clear HB HP HV HL x0 x1 x2 x3 x4 x5 x6 x7 x8 x9
    simp_all
    all_goals first | omega | (rw [Bool.eq_iff_iff]; simp; omega)
theorem rright_any (o oi : Nat → Int) (w : World) (hb : -9223372036854775808 ≤ o 1 ∧ o 1 ≤ 9223372036854775807) (hk : 1 ≤ o 0 ∧ o 0 ≤ 4) :
    Calls Try.prog 16 #[.agg (objC o oi)] w fun e w' => e = .returned (.bool (rightS o)) ∧ Keeps (fun _ => False) w w' := by
  rcases (by omega : o 0 = 1 ∨ o 0 = 2 ∨ o 0 = 3 ∨ o 0 = 4) with h | h | h | h
  · exact rright_1 o oi w hb h
  · exact rright_2 o oi w hb h
  · exact rright_3 o oi w hb h
  · exact rright_4 o oi w hb h
theorem rown_1 (c : CfD) (o oi : Nat → Int) (w : World) (ho : c.Ok) (hL : c.nL ≤ 1000000) (hk : o 0 = 1) :
    Calls Try.prog 17 #[.agg c.cells, .agg (objC o oi)] w fun e w' => e = .returned (.bool (ownF c o)) ∧ Keeps (fun _ => False) w w' := by
  have HB := Lib.hid (((Has.start w).alloc (.cells c.cells 26)).alloc (.cells (objC o oi) 50) |>.eq (M := [(w.heap.size + 1, .cells (objC o oi) 50 (0, 0)), (w.heap.size, .cells c.cells 26 (0, 0))]) (by simp))
  have HF := Lib.hid (fun x w => rhas_any c x w ho hL)
  have HV := Lib.hid (show ownF c o = (hasF c (o 4) && hasF c (o 5)) from by unfold ownF; simp [hk])
  have d4 : (o 0 == 4) = false := by rw [hk]; rfl
  have d5 : (o 0 != 4) = true := by rw [bne, d4]; rfl
  have d6 : decide (o 0 ≤ 2) = true := decide_eq_true (by omega)
  have d7 : decide (3 ≤ o 0) = false := decide_eq_false (by omega)
  clear hk ho hL
  rcases hq1 : hasF c (o 4)
  all_goals
    go_enter Try.func17, Try.ntmps17
    go_wp2_with fail
    refine (HF.out _ _).mono ?_
    rintro e w2 ⟨rfl, k2⟩
    replace HB := Lib.hid (HB.out.none k2)
    clear k2
    obtain ⟨x0, x1, x2, x3, x4, x5, x6, x7, x8, x9⟩ := ten_cells (HB.out.at 0 rfl)
    obtain ⟨e0, e1, e2, e3⟩ := four_cells (HB.out.at 1 rfl)
    rw [hq1]
    go_wp2_with fail
    refine (HF.out _ _).mono ?_
    rintro e w3 ⟨rfl, k3⟩
    replace HB := Lib.hid (HB.out.none k3)
    clear k3
    obtain ⟨x0, x1, x2, x3, x4, x5, x6, x7, x8, x9⟩ := ten_cells (HB.out.at 0 rfl)
    obtain ⟨e0, e1, e2, e3⟩ := four_cells (HB.out.at 1 rfl)
    go_wp2
    all_goals
      go_ret
      exact ⟨ret_bool (by rw [HV.out]; simp [*]), HB.out.keeps⟩
theorem rown_2 (c : CfD) (o oi : Nat → Int) (w : World) (ho : c.Ok) (hL : c.nL ≤ 1000000) (hk : o 0 = 2) :
    Calls Try.prog 17 #[.agg c.cells, .agg (objC o oi)] w fun e w' => e = .returned (.bool (ownF c o)) ∧ Keeps (fun _ => False) w w' := by
  have HB := Lib.hid (((Has.start w).alloc (.cells c.cells 26)).alloc (.cells (objC o oi) 50) |>.eq (M := [(w.heap.size + 1, .cells (objC o oi) 50 (0, 0)), (w.heap.size, .cells c.cells 26 (0, 0))]) (by simp))
  have HF := Lib.hid (fun x w => rhas_any c x w ho hL)
  have HV := Lib.hid (show ownF c o = (hasF c (o 4) && hasF c (o 5)) from by unfold ownF; simp [hk])
  have d4 : (o 0 == 4) = false := by rw [hk]; rfl
  have d5 : (o 0 != 4) = true := by rw [bne, d4]; rfl
  have d6 : decide (o 0 ≤ 2) = true := decide_eq_true (by omega)
  have d7 : decide (3 ≤ o 0) = false := decide_eq_false (by omega)
  clear hk ho hL
  rcases hq1 : hasF c (o 4)
  all_goals
    go_enter Try.func17, Try.ntmps17
    go_wp2_with fail
    refine (HF.out _ _).mono ?_
    rintro e w2 ⟨rfl, k2⟩
    replace HB := Lib.hid (HB.out.none k2)
    clear k2
    obtain ⟨x0, x1, x2, x3, x4, x5, x6, x7, x8, x9⟩ := ten_cells (HB.out.at 0 rfl)
    obtain ⟨e0, e1, e2, e3⟩ := four_cells (HB.out.at 1 rfl)
    rw [hq1]
    go_wp2_with fail
    refine (HF.out _ _).mono ?_
    rintro e w3 ⟨rfl, k3⟩
    replace HB := Lib.hid (HB.out.none k3)
    clear k3
    obtain ⟨x0, x1, x2, x3, x4, x5, x6, x7, x8, x9⟩ := ten_cells (HB.out.at 0 rfl)
    obtain ⟨e0, e1, e2, e3⟩ := four_cells (HB.out.at 1 rfl)
    go_wp2
    all_goals
      go_ret
      exact ⟨ret_bool (by rw [HV.out]; simp [*]), HB.out.keeps⟩
theorem rown_3 (c : CfD) (o oi : Nat → Int) (w : World) (ho : c.Ok) (hL : c.nL ≤ 1000000) (hk : o 0 = 3) :
    Calls Try.prog 17 #[.agg c.cells, .agg (objC o oi)] w fun e w' => e = .returned (.bool (ownF c o)) ∧ Keeps (fun _ => False) w w' := by
  have HB := Lib.hid (((Has.start w).alloc (.cells c.cells 26)).alloc (.cells (objC o oi) 50) |>.eq (M := [(w.heap.size + 1, .cells (objC o oi) 50 (0, 0)), (w.heap.size, .cells c.cells 26 (0, 0))]) (by simp))
  have HF := Lib.hid (fun x w => rhas_any c x w ho hL)
  have HV := Lib.hid (show ownF c o = (hasF c (o 4) && (o 5 == 0)) from by unfold ownF; simp [hk])
  have d4 : (o 0 == 4) = false := by rw [hk]; rfl
  have d5 : (o 0 != 4) = true := by rw [bne, d4]; rfl
  have d6 : decide (o 0 ≤ 2) = false := decide_eq_false (by omega)
  have d7 : decide (3 ≤ o 0) = true := decide_eq_true (by omega)
  clear hk ho hL
  rcases hq1 : hasF c (o 4)
  all_goals
    go_enter Try.func17, Try.ntmps17
    go_wp2_with fail
    refine (HF.out _ _).mono ?_
    rintro e w2 ⟨rfl, k2⟩
    replace HB := Lib.hid (HB.out.none k2)
    clear k2
    obtain ⟨x0, x1, x2, x3, x4, x5, x6, x7, x8, x9⟩ := ten_cells (HB.out.at 0 rfl)
    obtain ⟨e0, e1, e2, e3⟩ := four_cells (HB.out.at 1 rfl)
    rw [hq1]
    go_wp2
    all_goals
      go_ret
      exact ⟨ret_bool (by rw [HV.out]; simp [*]), HB.out.keeps⟩
theorem rown_4 (c : CfD) (o oi : Nat → Int) (w : World) (ho : c.Ok) (hL : c.nL ≤ 1000000) (hk : o 0 = 4) :
    Calls Try.prog 17 #[.agg c.cells, .agg (objC o oi)] w fun e w' => e = .returned (.bool (ownF c o)) ∧ Keeps (fun _ => False) w w' := by
  have HB := Lib.hid (((Has.start w).alloc (.cells c.cells 26)).alloc (.cells (objC o oi) 50) |>.eq (M := [(w.heap.size + 1, .cells (objC o oi) 50 (0, 0)), (w.heap.size, .cells c.cells 26 (0, 0))]) (by simp))
  have HF := Lib.hid (fun x w => rhas_any c x w ho hL)
  have HV := Lib.hid (show ownF c o = ((o 4 == 0) && (o 5 == 0)) from by unfold ownF; simp [hk])
  have d4 : (o 0 == 4) = true := by rw [hk]; rfl
  have d5 : (o 0 != 4) = false := by rw [bne, d4]; rfl
  have d6 : decide (o 0 ≤ 2) = false := decide_eq_false (by omega)
  have d7 : decide (3 ≤ o 0) = true := decide_eq_true (by omega)
  clear hk ho hL
  go_enter Try.func17, Try.ntmps17
  go_wp2_with fail
  go_wp2
  all_goals
    go_ret
    exact ⟨ret_bool (by rw [HV.out]; simp [*]), HB.out.keeps⟩
theorem rown_any (c : CfD) (o oi : Nat → Int) (w : World) (ho : c.Ok) (hL : c.nL ≤ 1000000) (hk : 1 ≤ o 0 ∧ o 0 ≤ 4) :
    Calls Try.prog 17 #[.agg c.cells, .agg (objC o oi)] w fun e w' => e = .returned (.bool (ownF c o)) ∧ Keeps (fun _ => False) w w' := by
  rcases (by omega : o 0 = 1 ∨ o 0 = 2 ∨ o 0 = 3 ∨ o 0 = 4) with h | h | h | h
  · exact rown_1 c o oi w ho hL h
  · exact rown_2 c o oi w ho hL h
  · exact rown_3 c o oi w ho hL h
  · exact rown_4 c o oi w ho hL h
end Go.Proofs.Ytfabjoeklohoiaa
