import Derived.Lib.Hide
import Derived.WalkKit
namespace Go.Proofs.Ytakaclkhnajpeaa
set_option linter.unusedVariables false
/-- The decimal digits of a number, as bytes. -/
def digL (m : Nat) : List UInt8 := if h : m < 10 then [UInt8.ofNat (48 + m)] else digL (m / 10) ++ [UInt8.ofNat (48 + m % 10)]
termination_by m
decreasing_by omega
theorem digL_small {m : Nat} (h : m < 10) : digL m = [UInt8.ofNat (48 + m)] := by rw [digL, dif_pos h]
theorem digL_big {m : Nat} (h : ¬ m < 10) : digL m = digL (m / 10) ++ [UInt8.ofNat (48 + m % 10)] := by rw [digL, dif_neg h]
/-- The same, but none for 0. -/
def tailL (m : Nat) : List UInt8 := if m = 0 then [] else digL m
theorem tailL_zero : tailL 0 = [] := rfl
theorem tailL_pos {m : Nat} (h : m ≠ 0) : tailL m = digL m := by unfold tailL; rw [if_neg h]
theorem digL_tail (m : Nat) : digL m = tailL (m / 10) ++ [UInt8.ofNat (48 + m % 10)] := by
  by_cases h : m < 10
  · have e : m / 10 = 0 := by omega
    have e2 : m % 10 = m := by omega
    rw [digL_small h, e, e2, tailL_zero, List.nil_append]
  · rw [digL_big h, tailL_pos (by omega)]
theorem tailL_step {m : Nat} (h : m ≠ 0) : tailL m = tailL (m / 10) ++ [UInt8.ofNat (48 + m % 10)] := by rw [tailL_pos h, digL_tail]
theorem digL_len : ∀ (k m : Nat), m < 10 ^ (k + 1) → (digL m).length ≤ k + 1
  | 0, m, h => by rw [digL_small (by simpa using h)]; simp
  | k + 1, m, h => by
    by_cases hm : m < 10
    · rw [digL_small hm]; simp
    · rw [digL_big hm, List.length_append]
      have := digL_len k (m / 10) (by rw [Nat.pow_succ] at h; omega)
      simp
      omega
theorem digL_pos (m : Nat) : 0 < (digL m).length := by rw [digL_tail, List.length_append]; simp
def prnL (n : Int) : List UInt8 := if n < 0 then 45 :: digL n.natAbs else digL n.natAbs
def prnB (n : Int) : ByteArray := ⟨(prnL n).toArray⟩
theorem digL_len20 {m : Nat} (h : m < 18446744073709551616) : (digL m).length ≤ 20 := digL_len 19 m (by omega)
theorem prnL_len {n : Int} (h : -9223372036854775808 ≤ n ∧ n ≤ 9223372036854775807) : (prnL n).length ≤ 21 := by
  have := digL_len20 (m := n.natAbs) (by omega)
  unfold prnL
  split
  · simp; omega
  · omega
theorem byte_of (m : Nat) (h : m < 10) : ((UInt8.ofNat (48 + m)).toNat : Int) = 48 + (m : Int) := by
  rw [UInt8.toNat_ofNat']
  omega
end Go.Proofs.Ytakaclkhnajpeaa
