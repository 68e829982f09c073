import Derived.Test.YtlpnobpgphmngaaWordRefA
namespace Go.Proofs.Ytlpnobpgphmngaa
open Go.ChangeShapes Go.WideShapes Go.ChangeAt Go.RowKit
set_option linter.unusedVariables false
theorem rhas_any (x : Nat) (i : Int) (w : World) (hx : x < 4294967296) :
    Calls Try.prog 109 #[.int .u32 x, .int .i64 i] w fun e w' => e = .returned (.bool (hasB x i)) ∧ Keeps (fun _ => False) w w' := by
  by_cases hi : 0 ≤ i ∧ i < 32
  · obtain ⟨k, rfl⟩ := Int.eq_ofNat_of_zero_le hi.1
    have hk : k < 32 := by omega
    have hget := bools_get x.testBit 32 k hk
    have HG := Lib.hid hget
    rw [hasB_nat hk]
    clear hget hi
    go_enter Try.func109, Try.ntmps109
    go_wp2_with fail
    refine (bits_any x _ hx).mono ?_
    rintro e w' ⟨rfl, hK⟩
    have hix := index_bools x.testBit k hk
    go_wp2
    go_ret
    exact ⟨rfl, hK⟩
  · have e : hasB x i = false := by simp [hasB, hi]
    rw [e]
    rcases (by omega : i < 0 ∨ 32 ≤ i) with h | h
    · have d0 : decide (0 ≤ i) = false := by simp; omega
      clear hi
      go_enter Try.func109, Try.ntmps109
      go_wp2
      go_ret
      exact ⟨rfl, Keeps.refl _ _⟩
    · have d0 : decide (0 ≤ i) = true := by simp; omega
      have d1 : decide (i < 32) = false := by simp; omega
      clear hi
      go_enter Try.func109, Try.ntmps109
      go_wp2
      go_ret
      exact ⟨rfl, Keeps.refl _ _⟩
end Go.Proofs.Ytlpnobpgphmngaa
