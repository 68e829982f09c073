import Derived.Lib.TrailingZeros
import Derived.Lib.BitFns
namespace Go.Proofs.YtkhmfjfclpehfaaGreat

/-- Bit i of w, for any integer i. -/
def hasB (w : Nat) (i : Int) : Bool := decide (0 ≤ i ∧ i < 32) && w.testBit i.toNat
/-- The word with only bit i. -/
def bitW (i : Int) : Nat := if 0 ≤ i ∧ i < 32 then 2 ^ i.toNat else 0
def setB (w : Nat) (i : Int) : Nat := w ||| bitW i
def clrB (w : Nat) (i : Int) : Nat := w &&& (4294967295 - bitW i)
/-- The bits that are 1, from the least on. -/
def bitsL (w : Nat) : List Nat := (List.range 32).filter w.testBit

theorem bitW_lt (i : Int) : bitW i < 4294967296 := by
  unfold bitW
  split
  · have : 2 ^ i.toNat < 2 ^ 32 := Nat.pow_lt_pow_right (by omega) (by omega)
    omega
  · omega
theorem setB_lt {w : Nat} (h : w < 4294967296) (i : Int) : setB w i < 4294967296 := Nat.or_lt_two_pow (n := 32) h (bitW_lt i)
theorem clrB_lt {w : Nat} (h : w < 4294967296) (i : Int) : clrB w i < 4294967296 := by
  have : w &&& (4294967295 - bitW i) ≤ w := Nat.and_le_left
  unfold clrB; omega
theorem testBit_ge {w j : Nat} (h : w < 4294967296) (hj : 32 ≤ j) : w.testBit j = false :=
  Nat.testBit_lt_two_pow (Nat.lt_of_lt_of_le h (Nat.pow_le_pow_right (by omega) hj : 2 ^ 32 ≤ 2 ^ j))
theorem ext32 {a b : Nat} (ha : a < 4294967296) (hb : b < 4294967296) (h : ∀ j, j < 32 → a.testBit j = b.testBit j) : a = b := by
  apply Nat.eq_of_testBit_eq
  intro j
  by_cases hj : j < 32
  · exact h j hj
  · rw [testBit_ge ha (by omega), testBit_ge hb (by omega)]
theorem bitW_testBit (i : Int) (j : Nat) : (bitW i).testBit j = decide ((j : Int) = i ∧ j < 32) := by
  unfold bitW
  split
  · rename_i h
    rw [Nat.testBit_two_pow, Bool.eq_iff_iff]
    simp only [decide_eq_true_eq]
    omega
  · rename_i h
    rw [Nat.zero_testBit]
    symm
    simp only [decide_eq_false_iff_not]
    omega
theorem setB_testBit (w : Nat) (i : Int) (j : Nat) : (setB w i).testBit j = (w.testBit j || decide ((j : Int) = i ∧ j < 32)) := by
  unfold setB; rw [Nat.testBit_or, bitW_testBit]
theorem clrB_testBit {w : Nat} (h : w < 4294967296) (i : Int) (j : Nat) : (clrB w i).testBit j = (w.testBit j && !decide ((j : Int) = i)) := by
  by_cases hj : j < 32
  · have e : (4294967295 - bitW i).testBit j = !(bitW i).testBit j := by
      have := Nat.testBit_two_pow_sub_succ (n := 32) (bitW_lt i) j
      have e2 : 2 ^ 32 - (bitW i + 1) = 4294967295 - bitW i := by omega
      rw [e2] at this
      rw [this]; simp [hj]
    unfold clrB
    rw [Nat.testBit_and, e, bitW_testBit]
    simp [hj]
  · rw [testBit_ge (clrB_lt h i) (by omega), testBit_ge h (by omega)]; rfl
theorem setB_out {w : Nat} {i : Int} (h : ¬ (0 ≤ i ∧ i < 32)) : setB w i = w := by simp [setB, bitW, h]
theorem clrB_out {w : Nat} (hw : w < 4294967296) {i : Int} (h : ¬ (0 ≤ i ∧ i < 32)) : clrB w i = w := by
  apply ext32 (clrB_lt hw i) hw
  intro j hj
  rw [clrB_testBit hw]
  have : ¬ (j : Int) = i := by omega
  simp [this]
theorem hasB_nat {w j : Nat} (h : j < 32) : hasB w j = w.testBit j := by
  unfold hasB
  have : (0 : Int) ≤ j ∧ (j : Int) < 32 := by omega
  simp [this]
/-- Has, as the program asks it. -/
theorem hasB_and (w : Nat) (i : Int) : (bitW i &&& w != 0) = hasB w i := by
  unfold hasB bitW
  split
  · rename_i h
    have hw : 2 ^ i.toNat &&& w = if w.testBit i.toNat then 2 ^ i.toNat else 0 := by
      apply Nat.eq_of_testBit_eq
      intro j
      rw [Nat.testBit_and, Nat.testBit_two_pow]
      by_cases hj : i.toNat = j
      · subst hj; cases hb : w.testBit i.toNat <;> simp
      · cases hb : w.testBit i.toNat <;> simp [hj]
    rw [hw]
    cases hb : w.testBit i.toNat
    · simp
    · have : 0 < 2 ^ i.toNat := Nat.two_pow_pos _
      simp [h]
  · rename_i h; simp [h]

theorem zero_bits {w : Nat} (h : w < 4294967296) (hz : ∀ j, j < 32 → w.testBit j = false) : w = 0 :=
  ext32 h (by omega) fun j hj => by rw [hz j hj, Nat.zero_testBit]
theorem mem_bitsL {w j : Nat} : j ∈ bitsL w ↔ j < 32 ∧ w.testBit j = true := by simp [bitsL]
theorem bitsL_zero : bitsL 0 = [] := by simp [bitsL]
theorem bitsL_nil {w : Nat} (h : w < 4294967296) (hn : bitsL w = []) : w = 0 := by
  apply zero_bits h
  intro j hj
  cases hb : w.testBit j
  · rfl
  · have : j ∈ bitsL w := mem_bitsL.2 ⟨hj, hb⟩
    rw [hn] at this; cases this

/-- The lowest bit: what w is. -/
theorem low_spec {w : Nat} (h : w < 4294967296) (h0 : w ≠ 0) : Lib.ctz 32 w < 32 ∧ w.testBit (Lib.ctz 32 w) = true ∧ (∀ j, j < Lib.ctz 32 w → w.testBit j = false) ∧ ∀ j, (w &&& (w - 1)).testBit j = (w.testBit j && decide (j ≠ Lib.ctz 32 w)) := by
  obtain ⟨m, e, hc⟩ := Lib.ctzFrom_spec 32 w (by omega) h
  have hcz : Lib.ctz 32 w = Lib.ctzFrom 32 w := by simp [Lib.ctz, h0]
  rw [hcz]
  generalize Lib.ctzFrom 32 w = c at *
  have hp : 0 < 2 ^ c := Nat.two_pow_pos _
  have t1 : ∀ j, w.testBit j = if j < c then false else (2 * m + 1).testBit (j - c) := by
    intro j
    have := Nat.testBit_two_pow_mul_add (2 * m + 1) hp j
    rw [Nat.add_zero, ← e] at this
    rw [this]; simp
  have e2 : w - 1 = 2 ^ c * (2 * m) + (2 ^ c - 1) := by rw [e, Nat.mul_add, Nat.mul_one]; omega
  have t2 : ∀ j, (w - 1).testBit j = if j < c then (2 ^ c - 1).testBit j else (2 * m).testBit (j - c) := by
    intro j
    rw [e2]
    exact Nat.testBit_two_pow_mul_add (2 * m) (by omega) j
  refine ⟨hc, ?_, ?_, ?_⟩
  · rw [t1]; simp
  · intro j hj; rw [t1]; simp [hj]
  · intro j
    rw [Nat.testBit_and, t2, t1]
    by_cases hj : j < c
    · simp [hj]
    · rw [if_neg hj, if_neg hj]
      by_cases hjc : j = c
      · subst hjc; simp
      · obtain ⟨k, hk⟩ : ∃ k, j - c = k + 1 := ⟨j - c - 1, by omega⟩
        have h1 : (2 * m + 1) / 2 = m := by omega
        have h2 : (2 * m) / 2 = m := by omega
        rw [hk, Nat.testBit_succ, Nat.testBit_succ, h1, h2]
        simp [hjc]
theorem low_and_lt {w : Nat} (h : w < 4294967296) : w &&& (w - 1) < 4294967296 := by
  have : w &&& (w - 1) ≤ w := Nat.and_le_left
  omega
theorem filter_range_low (n c : Nat) (p : Nat → Bool) (hc : c < n) (hp : p c = true) (hl : ∀ j, j < c → p j = false) :
    (List.range n).filter p = c :: (List.range n).filter fun j => p j && decide (j ≠ c) := by
  have e : List.range n = List.range c ++ c :: (List.range (n - (c + 1))).map (c + 1 + ·) := by
    have h1 : n = c + 1 + (n - (c + 1)) := by omega
    conv => lhs; rw [h1, List.range_add, List.range_succ]
    simp
  rw [e, List.filter_append, List.filter_append, List.filter_cons, List.filter_cons]
  have z1 : (List.range c).filter p = [] := by simp; intro j hj; exact hl j hj
  have z2 : (List.range c).filter (fun j => p j && decide (j ≠ c)) = [] := by
    simp; intro j hj hpj; rw [hl j hj] at hpj; cases hpj
  rw [z1, z2]
  simp [hp]
  apply List.filter_congr
  intro j hj
  simp at hj
  obtain ⟨k, hk, rfl⟩ := hj
  have : ¬ c + 1 + k = c := by omega
  simp [this]
theorem bitsL_cons {w : Nat} (h : w < 4294967296) (h0 : w ≠ 0) : bitsL w = Lib.ctz 32 w :: bitsL (w &&& (w - 1)) := by
  obtain ⟨h1, h2, h3, h4⟩ := low_spec h h0
  unfold bitsL
  rw [filter_range_low 32 _ _ h1 h2 h3]
  congr 1
  apply List.filter_congr
  intro j _
  rw [h4]
theorem filter_range_high (n c : Nat) (p : Nat → Bool) (hc : c < n) (hp : p c = true) (hh : ∀ j, c < j → j < n → p j = false) :
    (List.range n).filter p = (List.range c).filter p ++ [c] := by
  have e : List.range n = List.range c ++ c :: (List.range (n - (c + 1))).map (c + 1 + ·) := by
    have h1 : n = c + 1 + (n - (c + 1)) := by omega
    conv => lhs; rw [h1, List.range_add, List.range_succ]
    simp
  rw [e, List.filter_append, List.filter_cons]
  have z : ((List.range (n - (c + 1))).map (c + 1 + ·)).filter p = [] := by
    simp
    intro j hj
    exact hh _ (by omega) (by omega)
  rw [z]; simp [hp]
theorem bitLenAux_bds : ∀ (f x : Nat), x < 2 ^ f → x ≠ 0 → 1 ≤ Lib.bitLenAux f x ∧ 2 ^ (Lib.bitLenAux f x - 1) ≤ x ∧ x < 2 ^ Lib.bitLenAux f x
  | 0, x, h, h0 => by simp at h; omega
  | f + 1, x, h, h0 => by
    simp only [Lib.bitLenAux, if_neg h0]
    by_cases h2 : x / 2 = 0
    · have : x = 1 := by omega
      subst this
      cases f <;> simp [Lib.bitLenAux]
    · obtain ⟨a, b, c⟩ := bitLenAux_bds f (x / 2) (by rw [Nat.pow_succ] at h; omega) h2
      generalize Lib.bitLenAux f (x / 2) = k at *
      obtain ⟨k, rfl⟩ : ∃ m, k = m + 1 := ⟨k - 1, by omega⟩
      refine ⟨by omega, ?_, ?_⟩
      · have e : 1 + (k + 1) - 1 = (k + 1 - 1) + 1 := by omega
        rw [e, Nat.pow_succ]; omega
      · have e : 1 + (k + 1) = (k + 1) + 1 := by omega
        rw [e, Nat.pow_succ]; omega
theorem high_spec {w : Nat} (h : w < 4294967296) (h0 : w ≠ 0) : 1 ≤ Lib.bitLen w ∧ Lib.bitLen w ≤ 32 ∧ w.testBit (Lib.bitLen w - 1) = true ∧ ∀ j, Lib.bitLen w ≤ j → w.testBit j = false := by
  obtain ⟨a, b, c⟩ := bitLenAux_bds 64 w (by omega) h0
  have hl : Lib.bitLen w = Lib.bitLenAux 64 w := rfl
  rw [hl]
  generalize Lib.bitLenAux 64 w = k at *
  have hz : ∀ j, k ≤ j → w.testBit j = false := fun j hj => Nat.testBit_lt_two_pow (Nat.lt_of_lt_of_le c (Nat.pow_le_pow_right (by omega) hj))
  refine ⟨a, ?_, ?_, hz⟩
  · rcases Nat.lt_or_ge 32 k with h1 | h1
    · have : 2 ^ 32 ≤ 2 ^ (k - 1) := Nat.pow_le_pow_right (by omega) (by omega)
      omega
    · exact h1
  · obtain ⟨i, hi, ht⟩ := Nat.exists_ge_and_testBit_of_ge_two_pow b
    rcases Nat.lt_or_ge i k with h1 | h1
    · have : i = k - 1 := by omega
      rw [← this]; exact ht
    · rw [hz i h1] at ht; cases ht
theorem bitLen_zero : Lib.bitLen 0 = 0 := by simp [Lib.bitLen, Lib.bitLenAux]
theorem bitsL_high {w : Nat} (h : w < 4294967296) (h0 : w ≠ 0) : bitsL w = (List.range (Lib.bitLen w - 1)).filter w.testBit ++ [Lib.bitLen w - 1] := by
  obtain ⟨a, b, c, d⟩ := high_spec h h0
  exact filter_range_high 32 _ _ (by omega) c fun j h1 _ => d j (by omega)
theorem bitsL_last {w : Nat} (h : w < 4294967296) (h0 : w ≠ 0) : (bitsL w)[(bitsL w).length - 1]? = some (Lib.bitLen w - 1) := by
  rw [bitsL_high h h0]; simp
theorem bitsL_len (w : Nat) : (bitsL w).length ≤ 32 := by
  have := List.length_filter_le w.testBit (List.range 32)
  simpa [bitsL] using this
/-- How many bits of the n least are 1. -/
def pop (n w : Nat) : Nat := ((List.range n).filter w.testBit).length
theorem pop_eq (w : Nat) : (bitsL w).length = pop 32 w := rfl
theorem pop_split (n m w : Nat) : pop (n + m) w = pop n w + pop m (w / 2 ^ n) := by
  unfold pop
  rw [List.range_add, List.filter_append, List.length_append, List.filter_map, List.length_map]
  congr 2
  apply List.filter_congr
  intro j _
  simp [Nat.testBit_div_two_pow, Nat.add_comm]
theorem pop_mod (n w : Nat) : pop n (w % 2 ^ n) = pop n w := by
  unfold pop
  congr 1
  apply List.filter_congr
  intro j hj
  simp at hj
  simp [Nat.testBit_mod_two_pow, hj]
theorem pop_bytes (w : Nat) : (bitsL w).length = pop 8 (w / 16777216 % 256) + pop 8 (w / 65536 % 256) + pop 8 (w / 256 % 256) + pop 8 (w % 256) := by
  rw [pop_eq]
  have e1 := pop_split 8 24 w
  have e2 := pop_split 8 16 (w / 2 ^ 8)
  have e3 := pop_split 8 8 (w / 2 ^ 8 / 2 ^ 8)
  have m1 := pop_mod 8 w
  have m2 := pop_mod 8 (w / 256)
  have m3 := pop_mod 8 (w / 65536)
  have m4 := pop_mod 8 (w / 16777216)
  simp only [Nat.div_div_eq_div_mul] at e2 e3
  simp at e1 e2 e3 m1 m2 m3 m4
  omega
theorem pop_le (n w : Nat) : pop n w ≤ n := by
  have := List.length_filter_le w.testBit (List.range n)
  simpa [pop] using this
/-- Horner's way, from the greatest bit on. -/
theorem half_bit (x k : Nat) : x / 2 ^ k = 2 * (x / 2 ^ (k + 1)) + (x.testBit k).toNat := by
  rw [Nat.toNat_testBit, Nat.pow_succ, ← Nat.div_div_eq_div_mul]
  omega
theorem mask_set (k : Nat) (h : k < 32) : setB (2 ^ k - 1) k = 2 ^ (k + 1) - 1 := by
  have l1 : 2 ^ k ≤ 2 ^ 31 := Nat.pow_le_pow_right (by omega) (by omega)
  have l2 : 2 ^ (k + 1) ≤ 2 ^ 32 := Nat.pow_le_pow_right (by omega) (by omega)
  apply ext32 (setB_lt (by omega) _) (by omega)
  intro j hj
  rw [setB_testBit, Nat.testBit_two_pow_sub_one, Nat.testBit_two_pow_sub_one, Bool.eq_iff_iff]
  simp
  omega
end Go.Proofs.YtkhmfjfclpehfaaGreat
