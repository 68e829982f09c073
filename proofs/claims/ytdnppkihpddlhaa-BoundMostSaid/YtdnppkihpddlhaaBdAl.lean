import Derived.Test.YtdnppkihpddlhaaBdT
namespace Go.Proofs.Ytdnppkihpddlhaa
open Go.ChangeShapes Go.WideShapes Go.ChangeAt Go.RowKit
set_option linter.unusedVariables false
set_option linter.unusedSimpArgs false
set_option maxRecDepth 100000
theorem gap1_one (m : Int) (hm : 1 ≤ m) (w : World) : Calls Try.prog 22 #[.int .i64 1, .int .i64 m] w fun e w' => e = .returned (.int .i64 1) ∧ w' = w := by
  have h1 : ¬ m < 1 := by omega
  have d1 : decide (m < 1) = false := decide_eq_false h1
  have d2 : decide (1 < m) = decide (1 < m) := rfl
  clear hm
  go_enter Try.func22, Try.ntmps22
  go_wp2_with fail
  go_ret
  exact ⟨by simp [h1], rfl⟩
theorem gap_one (w : World) : Calls Try.prog 12 #[.int .i64 1, .int .i64 1, .int .i64 1] w fun e w' => e = .returned (.int .i64 480) ∧ w' = w := by
  go_enter Try.func12, Try.ntmps12
  go_wp2_with fail
  refine (gap1_one 65536 (by decide) w).mono ?_
  rintro e w1 ⟨rfl, rfl⟩
  go_wp2_with fail
  refine (gap1_one 65536 (by decide) w1).mono ?_
  rintro e w2 ⟨rfl, rfl⟩
  go_wp2_with fail
  refine (gap1_one 2147483648 (by decide) w2).mono ?_
  rintro e w3 ⟨rfl, rfl⟩
  go_wp2_with fail
  go_ret
  exact ⟨rfl, rfl⟩
theorem wakes_one (w : World) : Calls Try.prog 21 #[.int .i64 1] w fun e w' => e = .returned (.bool true) ∧ w' = w := by
  go_enter Try.func21, Try.ntmps21
  go_wp2_with fail
  go_ret
  exact ⟨rfl, rfl⟩
def pA : Nat → Int := fun j => match j with | 0 => 1 | 1 => 0 | 2 => 1 | 3 => 2 | _ => 0
set_option maxHeartbeats 4000000 in
theorem steps_one (w : World) : Calls Try.prog 11 #[.int .i64 1, .agg (plC pA)] w fun e w' => e = .returned (.int .i64 7) ∧ Keeps (fun _ => False) w w' := by
  have HB := Lib.hid ((Has.start w).alloc (.cells (plC pA) 41))
  obtain ⟨c0, c1, c2, c3, c4⟩ := five_cells (HB.out.at 0 rfl)
  have l0 := lt_of (HB.out.at 0 rfl)
  go_enter Try.func11, Try.ntmps11
  go_wp2_with fail
  refine (acts_any 1 pA _ (by decide)).mono ?_
  rintro e w1 ⟨he, k1⟩
  rw [show actsP 1 pA = 5 from by decide] at he
  subst he
  have HB1 := Lib.hid (HB.out.none k1)
  clear k1 c0 c1 c2 c3 c4 l0
  go_wp2_with fail
  refine (wakes_one _).mono ?_
  rintro e w2 ⟨rfl, rfl⟩
  go_wp2_with fail
  go_ret
  exact ⟨rfl, HB1.out.keeps⟩
set_option maxHeartbeats 4000000 in
theorem alive17_any (w : World) : Calls Try.prog 6 #[] w fun e w' => e = .returned (.bool true) ∧ Keeps (fun _ => False) w w' := by
  have HB := Lib.hid ((Has.start w).alloc (.cells (plC pA) 41))
  obtain ⟨c0, c1, c2, c3, c4⟩ := five_cells (HB.out.at 0 rfl)
  have l0 := lt_of (HB.out.at 0 rfl)
  go_enter Try.func6, Try.ntmps6
  go_wp2_with fail
  refine (acts_any 1 pA _ (by decide)).mono ?_
  rintro e w1 ⟨he, k1⟩
  rw [show actsP 1 pA = 5 from by decide] at he
  subst he
  have HB1 := Lib.hid (HB.out.none k1)
  clear k1 c0 c1 c2 c3 c4 l0
  obtain ⟨c0, c1, c2, c3, c4⟩ := five_cells (HB1.out.at 0 rfl)
  have l0 := lt_of (HB1.out.at 0 rfl)
  go_wp2_with fail
  refine (steps_one _).mono ?_
  rintro e w2 ⟨rfl, k2⟩
  have HB2 := Lib.hid (HB1.out.none k2)
  clear k2 c0 c1 c2 c3 c4 l0
  go_wp2_with fail
  refine (gap_one _).mono ?_
  rintro e w3 ⟨rfl, rfl⟩
  go_wp2_with fail
  go_ret
  exact ⟨rfl, HB2.out.keeps⟩
end Go.Proofs.Ytdnppkihpddlhaa
