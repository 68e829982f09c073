import Derived.Test.YtlpnobpgphmngaaWordMath
namespace Go.Proofs.Ytlpnobpgphmngaa

theorem filt_one (p q : Nat → Bool) (c : Nat) (hpc : p c = true) (hqc : q c = false) (h : ∀ j, j ≠ c → p j = q j) :
    ∀ n, ((List.range n).filter p).length = ((List.range n).filter q).length + if c < n then 1 else 0
  | 0 => by simp
  | n + 1 => by
    have ih := filt_one p q c hpc hqc h n
    rw [List.range_succ, List.filter_append, List.filter_append, List.length_append, List.length_append, ih]
    by_cases e : n = c
    · subst e
      simp [hpc, hqc]
    · rw [List.filter_cons, List.filter_cons, h n e]
      have : (if c < n + 1 then 1 else 0) = if c < n then 1 else 0 := by
        by_cases h1 : c < n
        · rw [if_pos h1, if_pos (by omega)]
        · rw [if_neg h1, if_neg (by omega)]
      rw [this]
      cases q n <;> simp <;> omega
/-- How many bits are 1. -/
def popc (x : Nat) : Nat := (bitsL x).length
theorem popc_le (x : Nat) : popc x ≤ 32 := bitsL_len x
theorem popc_zero : popc 0 = 0 := by simp [popc, bitsL_zero]
theorem popc_set {x k : Nat} (hk : k < 32) (hb : x.testBit k = false) : popc (setB x k) = popc x + 1 := by
  have := filt_one (setB x k).testBit x.testBit k (by rw [setB_testBit]; simp [hk]) hb (fun j hj => by
    rw [setB_testBit]
    have : ¬ (j : Int) = (k : Int) := by omega
    simp [this]) 32
  rw [if_pos hk] at this
  exact this
theorem popc_clr {x k : Nat} (hx : x < 4294967296) (hk : k < 32) (hb : x.testBit k = true) : popc x = popc (clrB x k) + 1 := by
  have := filt_one x.testBit (clrB x k).testBit k hb (by rw [clrB_testBit hx]; simp) (fun j hj => by
    rw [clrB_testBit hx]
    have : ¬ (j : Int) = (k : Int) := by omega
    simp [this]) 32
  rw [if_pos hk] at this
  exact this
theorem popc_pos {x : Nat} (hx : x < 4294967296) (h0 : x ≠ 0) : 0 < popc x := by
  unfold popc
  rw [bitsL_cons hx h0]
  simp
theorem clr_low {x : Nat} (hx : x < 4294967296) (h0 : x ≠ 0) : clrB x (Lib.ctz 32 x) = x &&& (x - 1) := by
  obtain ⟨h1, h2, h3, h4⟩ := low_spec hx h0
  apply Nat.eq_of_testBit_eq
  intro j
  rw [clrB_testBit hx, h4]
  congr 1
  by_cases e : j = Lib.ctz 32 x
  · simp [e]
  · have : ¬ (j : Int) = (Lib.ctz 32 x : Int) := by omega
    simp [e, this]
theorem popc_low {x : Nat} (hx : x < 4294967296) (h0 : x ≠ 0) : popc x = popc (clrB x (Lib.ctz 32 x)) + 1 := by
  obtain ⟨h1, h2, h3, h4⟩ := low_spec hx h0
  exact popc_clr hx h1 h2
theorem pop_succ (j x : Nat) : pop (j + 1) x = pop j x + x / 2 ^ j % 2 := by
  unfold pop
  rw [List.range_succ, List.filter_append, List.length_append]
  congr 1
  rw [List.filter_cons, Nat.testBit_eq_decide_div_mod_eq]
  by_cases h : x / 2 ^ j % 2 = 1
  · simp [h]
  · have : x / 2 ^ j % 2 = 0 := by omega
    simp [this]
theorem pop_done {j x : Nat} (hj : j ≤ 32) (h : x / 2 ^ j = 0) : pop j x = popc x := by
  have e : 32 = j + (32 - j) := by omega
  have := pop_split j (32 - j) x
  rw [← e, h] at this
  have z : pop (32 - j) 0 = 0 := by simp [pop]
  rw [z] at this
  show pop j x = pop 32 x
  omega
theorem put_mod (x k : Nat) (hk : k < 32) : (if x.testBit k then setB (x % 2 ^ k) k else clrB (x % 2 ^ k) k) = x % 2 ^ (k + 1) := by
  have hlt : x % 2 ^ k < 4294967296 := Nat.lt_of_lt_of_le (Nat.mod_lt _ (Nat.two_pow_pos k)) (Nat.pow_le_pow_right (by omega) (by omega) : 2 ^ k ≤ 2 ^ 32)
  apply Nat.eq_of_testBit_eq
  intro j
  rw [Nat.testBit_mod_two_pow]
  have key : ∀ y : Nat, y = (if x.testBit k then setB (x % 2 ^ k) k else clrB (x % 2 ^ k) k) → y.testBit j = (decide (j < k + 1) && x.testBit j) := by
    intro y hy
    subst hy
    by_cases e : j = k
    · subst e
      cases hb : x.testBit j
      · rw [if_neg Bool.false_ne_true, clrB_testBit hlt]; simp
      · rw [if_pos rfl, setB_testBit]; simp [hk]
    · have h : ¬ (j : Int) = (k : Int) := by omega
      have h2 : decide (j < k + 1) = decide (j < k) := by rw [Bool.eq_iff_iff]; simp; omega
      rw [h2]
      cases hb : x.testBit k
      · rw [if_neg Bool.false_ne_true, clrB_testBit hlt, Nat.testBit_mod_two_pow]; simp [h]
      · rw [if_pos rfl, setB_testBit, Nat.testBit_mod_two_pow]; simp [h]
  exact key _ rfl
end Go.Proofs.Ytlpnobpgphmngaa
