import Derived.Test.YtffhmlngnnfaeaaDoorWordCount
namespace Go.Proofs.YtffhmlngnnfaeaaDoor
open Go.ChangeShapes Go.WideShapes Go.ChangeAt Go.RowKit
set_option linter.unusedVariables false
/-- The word with the bits that F names. -/
def ofs (F : Nat → Int) : Nat → Nat
  | 0 => 0
  | k + 1 => setB (ofs F k) (F k)
theorem ofs_lt (F : Nat → Int) (k : Nat) : ofs F k < 4294967296 := by
  induction k with
  | zero => simp [ofs]
  | succ k ih => exact setB_lt ih _

theorem of_zero (a0 : Option Addr) (cap : Nat) (w : World) :
    Calls Tryd.prog 21 #[.slice a0 0 cap] w fun e w' => e = .returned (.int .u32 0) ∧ w = w' := by
  go_enter Tryd.func21, Tryd.ntmps21
  go_wp2
  go_loop [4, 9] (fun t i => i = .int .i64 0 ∧ t = .int .u32 0) (fun _ i => 0)
  case atStart => exact ⟨rfl, rfl⟩
  case round =>
    obtain ⟨rfl, rfl⟩ := hrel
    go_wp2
    go_ret
    exact ⟨rfl, rfl⟩
theorem of_any (b off n cap : Nat) (F : Nat → Int) (w : World) (hn : n ≤ maxLen) (hc : ∀ i, i < n → w.cell? ⟨b, off + i, none⟩ = some (.int .i64 (F i))) :
    Calls Tryd.prog 21 #[.slice (some ⟨b, off, none⟩) n cap] w fun e w' => e = .returned (.int .u32 (ofs F n)) ∧ w = w' := by
  unfold maxLen at hn
  have HC := Lib.hid hc
  clear hc
  go_enter Tryd.func21, Tryd.ntmps21
  go_wp2
  go_loop [4, 9] (fun t i => ∃ k : Nat, k ≤ n ∧ i = .int .i64 k ∧ t = .int .u32 (ofs F k)) (fun _ i => n - (intOf i).toNat)
  case atStart => exact ⟨0, Nat.zero_le _, rfl, rfl⟩
  case round =>
    obtain ⟨k, hk, rfl, rfl⟩ := hrel
    by_cases hlt : k < n
    · have hcell := HC.out k hlt
      have hlt' := ofs_lt F k
      by_cases hr : 0 ≤ F k ∧ F k < 32
      · have hd : decide (0 ≤ F k ∧ F k < 32) = true := decide_eq_true hr
        have HD := Lib.hid hd
        have HR := Lib.hid hr
        clear hd hr
        go_wp2_with fail
        refine (known_any _ _).mono ?_
        rintro e w' ⟨rfl, rfl⟩
        rw [HD.out]
        go_wp2_with fail
        refine (with_any _ _ _ hlt').mono ?_
        rintro e w' ⟨rfl, rfl⟩
        go_wp2
        go_round
        case rel => exact ⟨k + 1, by omega, by go_num, rfl⟩
        case measure => simp [intOf]; omega
      · have hd : decide (0 ≤ F k ∧ F k < 32) = false := decide_eq_false hr
        have hs : ofs F (k + 1) = ofs F k := setB_out hr
        have HD := Lib.hid hd
        have HS := Lib.hid hs
        clear hd hs hr
        go_wp2_with fail
        refine (known_any _ _).mono ?_
        rintro e w' ⟨rfl, rfl⟩
        rw [HD.out]
        go_wp2
        go_round
        case rel => exact ⟨k + 1, by omega, by go_num, by rw [HS.out]⟩
        case measure => simp [intOf]; omega
    · obtain rfl : k = n := by omega
      go_wp2
      go_ret
      exact ⟨rfl, rfl⟩
end Go.Proofs.YtffhmlngnnfaeaaDoor
