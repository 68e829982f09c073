import Derived.Test.YtkhmfjfclpehfaaGreatOpB
namespace Go.Proofs.YtkhmfjfclpehfaaGreat
open Go.ChangeShapes Go.WideShapes Go.ChangeAt Go.RowKit
set_option linter.unusedVariables false
set_option linter.unusedSimpArgs false
def plainP (k : Int) : Int := if k = 14 then 1 else if k = 15 then 2 else k
def knownP (k : Int) : Bool := (decide (1 ≤ k) && decide (k ≤ 9)) || (k == 16) || (k == 17)
theorem plain_any (w : World) (k : Int) : Calls Tryz.prog 83 #[.int .i64 k] w fun e w' => e = .returned (.int .i64 (plainP k)) ∧ w' = w := by
  have HP := Lib.hid (show plainP k = if k = 14 then 1 else if k = 15 then 2 else k from rfl)
  by_cases h1 : k = 14
  · have e1 : (k == 14) = true := by simpa using h1
    rw [if_pos h1] at HP
    clear h1
    go_enter Tryz.func83, Tryz.ntmps83
    go_wp2_with fail
    go_ret
    exact ⟨by rw [HP.out]; rfl, rfl⟩
  have e1 : (k == 14) = false := by simpa using h1
  rw [if_neg h1] at HP
  by_cases h2 : k = 15
  · have e2 : (k == 15) = true := by simpa using h2
    rw [if_pos h2] at HP
    clear h1 h2
    go_enter Tryz.func83, Tryz.ntmps83
    go_wp2_with fail
    go_ret
    exact ⟨by rw [HP.out]; rfl, rfl⟩
  have e2 : (k == 15) = false := by simpa using h2
  rw [if_neg h2] at HP
  clear h1 h2
  go_enter Tryz.func83, Tryz.ntmps83
  go_wp2_with fail
  go_ret
  exact ⟨by rw [HP.out]; rfl, rfl⟩
theorem known_any (w : World) (k : Int) : Calls Tryz.prog 94 #[.int .i64 k] w fun e w' => e = .returned (.bool (knownP k)) ∧ w' = w := by
  have HK := Lib.hid (show knownP k = ((decide (1 ≤ k) && decide (k ≤ 9)) || (k == 16) || (k == 17)) from rfl)
  cases h1 : decide (1 ≤ k) <;> cases h2 : decide (k ≤ 9) <;> cases h3 : (k == 16) <;> cases h4 : (k == 17)
  all_goals
    rw [h1, h2, h3, h4] at HK
    go_enter Tryz.func94, Tryz.ntmps94
    go_wp2_with fail
    go_ret
    exact ⟨by rw [HK.out]; rfl, rfl⟩
end Go.Proofs.YtkhmfjfclpehfaaGreat
