import Derived.Test.YtdnppkihpddlhaaPlCa
import Derived.Deep.RegionHeld3
namespace Go.Proofs.Ytdnppkihpddlhaa
open Go.ChangeShapes Go.WideShapes Go.ChangeAt Go.RowKit
set_option linter.unusedVariables false
set_option linter.unusedSimpArgs false
/-- How far a part lies behind the beginning; -1: such objects have none. -/
def offP (part : Int) : Int × Int := if part = 1 then (0, 1) else if part = 2 then (1, 1) else if part = 4 then (0, 2) else if part = 5 then (1, 2) else if part = 6 then (2, 2) else if part = 7 then (0, 3) else (0, 4)
def singP (k part : Int) : Int := if (offP part).2 = k then (offP part).1 else -1
theorem single_any (k part : Int) (w : World) (hp : 1 ≤ part ∧ part ≤ 8) (h3 : part ≠ 3) : Calls Try.prog 47 #[.int .i64 k, .int .i64 part] w fun e w' => e = .returned (.int .i64 (singP k part)) ∧ w' = w := by
  unfold singP
  rcases (by omega : part = 1 ∨ part = 2 ∨ part = 4 ∨ part = 5 ∨ part = 6 ∨ part = 7 ∨ part = 8) with rfl | rfl | rfl | rfl | rfl | rfl | rfl
  · rw [show offP 1 = (0, 1) from rfl]
    dsimp only
    by_cases hk : (1 : Int) = k
    · rw [if_pos hk]
      subst hk
      go_enter Try.func47, Try.ntmps47
      go_wp2_with fail
      go_ret
      exact ⟨rfl, rfl⟩
    · rw [if_neg hk]
      have hk2 : ((1 : Int) == k) = false := by rw [beq_eq_false_iff_ne]; exact hk
      go_enter Try.func47, Try.ntmps47
      go_wp2_with fail
      go_ret
      exact ⟨rfl, rfl⟩
  · rw [show offP 2 = (1, 1) from rfl]
    dsimp only
    by_cases hk : (1 : Int) = k
    · rw [if_pos hk]
      subst hk
      go_enter Try.func47, Try.ntmps47
      go_wp2_with fail
      go_ret
      exact ⟨rfl, rfl⟩
    · rw [if_neg hk]
      have hk2 : ((1 : Int) == k) = false := by rw [beq_eq_false_iff_ne]; exact hk
      go_enter Try.func47, Try.ntmps47
      go_wp2_with fail
      go_ret
      exact ⟨rfl, rfl⟩
  · rw [show offP 4 = (0, 2) from rfl]
    dsimp only
    by_cases hk : (2 : Int) = k
    · rw [if_pos hk]
      subst hk
      go_enter Try.func47, Try.ntmps47
      go_wp2_with fail
      go_ret
      exact ⟨rfl, rfl⟩
    · rw [if_neg hk]
      have hk2 : ((2 : Int) == k) = false := by rw [beq_eq_false_iff_ne]; exact hk
      go_enter Try.func47, Try.ntmps47
      go_wp2_with fail
      go_ret
      exact ⟨rfl, rfl⟩
  · rw [show offP 5 = (1, 2) from rfl]
    dsimp only
    by_cases hk : (2 : Int) = k
    · rw [if_pos hk]
      subst hk
      go_enter Try.func47, Try.ntmps47
      go_wp2_with fail
      go_ret
      exact ⟨rfl, rfl⟩
    · rw [if_neg hk]
      have hk2 : ((2 : Int) == k) = false := by rw [beq_eq_false_iff_ne]; exact hk
      go_enter Try.func47, Try.ntmps47
      go_wp2_with fail
      go_ret
      exact ⟨rfl, rfl⟩
  · rw [show offP 6 = (2, 2) from rfl]
    dsimp only
    by_cases hk : (2 : Int) = k
    · rw [if_pos hk]
      subst hk
      go_enter Try.func47, Try.ntmps47
      go_wp2_with fail
      go_ret
      exact ⟨rfl, rfl⟩
    · rw [if_neg hk]
      have hk2 : ((2 : Int) == k) = false := by rw [beq_eq_false_iff_ne]; exact hk
      go_enter Try.func47, Try.ntmps47
      go_wp2_with fail
      go_ret
      exact ⟨rfl, rfl⟩
  · rw [show offP 7 = (0, 3) from rfl]
    dsimp only
    by_cases hk : (3 : Int) = k
    · rw [if_pos hk]
      subst hk
      go_enter Try.func47, Try.ntmps47
      go_wp2_with fail
      go_ret
      exact ⟨rfl, rfl⟩
    · rw [if_neg hk]
      have hk2 : ((3 : Int) == k) = false := by rw [beq_eq_false_iff_ne]; exact hk
      go_enter Try.func47, Try.ntmps47
      go_wp2_with fail
      go_ret
      exact ⟨rfl, rfl⟩
  · rw [show offP 8 = (0, 4) from rfl]
    dsimp only
    by_cases hk : (4 : Int) = k
    · rw [if_pos hk]
      subst hk
      go_enter Try.func47, Try.ntmps47
      go_wp2_with fail
      go_ret
      exact ⟨rfl, rfl⟩
    · rw [if_neg hk]
      have hk2 : ((4 : Int) == k) = false := by rw [beq_eq_false_iff_ne]; exact hk
      go_enter Try.func47, Try.ntmps47
      go_wp2_with fail
      go_ret
      exact ⟨rfl, rfl⟩
end Go.Proofs.Ytdnppkihpddlhaa
