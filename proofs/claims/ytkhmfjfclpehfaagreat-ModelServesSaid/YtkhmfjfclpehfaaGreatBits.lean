import Derived.WalkKit
import Derived.Laws.BitsAllLaws
namespace Go.Proofs.YtkhmfjfclpehfaaGreat
open Go.RowKit

/-- Is n one of the powers of two from 1 to 2^31? -/
def pow2 (n : Int) : Bool := (List.range 32).any fun i => n == (2 : Int) ^ i

theorem pow2_iff (n : Int) : pow2 n = true ↔ ∃ i : Nat, i < 32 ∧ n = 2 ^ i := by
  unfold pow2
  simp

/-- What holds of k ahead of a round of the loop that doubles k: k is a power of two, and n is no lesser one. -/
def PowInv (n p : Int) : Prop := ∃ j : Nat, p = 2 ^ j ∧ ∀ i : Nat, i < j → n ≠ 2 ^ i

theorem PowInv.one (n : Int) : PowInv n 1 := ⟨0, rfl, fun i h => by omega⟩
theorem PowInv.twice {n p : Int} (h : PowInv n p) (hn : n ≠ p) : PowInv n (2 * p) := by
  obtain ⟨j, rfl, hj⟩ := h
  refine ⟨j + 1, by rw [Int.pow_succ]; omega, fun i hi => ?_⟩
  by_cases e : i = j
  · subst e; exact hn
  · exact hj i (by omega)
theorem pow_lt_iff (i j : Nat) : (2 : Int) ^ i < 2 ^ j ↔ i < j := by
  have h : ((2 ^ i : Nat) : Int) < ((2 ^ j : Nat) : Int) ↔ i < j := by
    rw [Int.ofNat_lt]
    exact Nat.pow_lt_pow_iff_right (by omega)
  simpa using h
theorem PowInv.hit {p : Int} (h : PowInv p p) (hp : p ≤ 2147483648) : pow2 p = true := by
  obtain ⟨j, e, _⟩ := h
  rw [pow2_iff]
  refine ⟨j, ?_, e⟩
  have : (2 : Int) ^ j < 2 ^ 32 := by rw [← e]; omega
  exact (pow_lt_iff _ _).1 this
theorem PowInv.miss {n p : Int} (h : PowInv n p) (hp : 2147483648 < p) : pow2 n = false := by
  obtain ⟨j, e, hj⟩ := h
  rw [Bool.eq_false_iff]
  intro hc
  obtain ⟨i, hi, e2⟩ := (pow2_iff n).1 hc
  have : (2 : Int) ^ 31 < 2 ^ j := by rw [← e]; omega
  exact hj i (by have := (pow_lt_iff _ _).1 this; omega) e2

theorem i64_and_nat (a b : Nat) (ha : a < 9223372036854775808) (hb : b < 9223372036854775808) : bits .and .i64 (a : Int) (b : Int) = ((a &&& b : Nat) : Int) := by
  exact (bits_nat .i64 63 (by decide) (fun n h0 h1 => by rw [IntKind.wrap_i64]; omega) a b (by omega) (by omega)).1

/-- The program's test of a power of two. -/
theorem pow2_bits (n : Int) (h1 : 1 ≤ n) (h2 : n ≤ 2147483648) : (bits .and .i64 n (n - 1) == 0) = pow2 n := by
  obtain ⟨m, rfl⟩ := Int.eq_ofNat_of_zero_le (by omega : 0 ≤ n)
  have e : ((m : Int) - 1) = ((m - 1 : Nat) : Int) := by omega
  rw [e, i64_and_nat m (m - 1) (by omega) (by omega), Bool.eq_iff_iff, pow2_iff]
  have hm : m ≠ 0 := by omega
  have hi := Nat.and_sub_one_eq_zero_iff_isPowerOfTwo hm
  constructor
  · intro h
    have h' : m &&& m - 1 = 0 := by simpa using h
    obtain ⟨k, hk⟩ := hi.1 h'
    refine ⟨k, ?_, by rw [hk]; simp⟩
    have : 2 ^ k < 2 ^ 32 := by omega
    exact (Nat.pow_lt_pow_iff_right (by omega)).1 this
  · rintro ⟨i, _, h⟩
    have h' : m = 2 ^ i := by
      have : ((2 ^ i : Nat) : Int) = 2 ^ i := by simp
      rw [← this] at h; exact Int.ofNat.inj h
    simpa using hi.2 ⟨i, h'⟩
theorem pow2_low (n : Int) (h : n < 1) : pow2 n = false := by
  rw [Bool.eq_false_iff]
  intro hc
  obtain ⟨i, _, e⟩ := (pow2_iff n).1 hc
  have : (0 : Int) < 2 ^ i := Int.pow_pos (by omega)
  omega
theorem pow2_high (n : Int) (h : 2147483648 < n) : pow2 n = false := by
  rw [Bool.eq_false_iff]
  intro hc
  obtain ⟨i, hi, e⟩ := (pow2_iff n).1 hc
  have : (2 : Int) ^ i < 2 ^ 32 := (pow_lt_iff _ _).2 hi
  have h31 : i ≤ 31 := by omega
  have : (2 : Int) ^ i ≤ 2 ^ 31 := by
    by_cases h : i = 31
    · subst h; omega
    · have := (pow_lt_iff i 31).2 (by omega); omega
  omega
end Go.Proofs.YtkhmfjfclpehfaaGreat
