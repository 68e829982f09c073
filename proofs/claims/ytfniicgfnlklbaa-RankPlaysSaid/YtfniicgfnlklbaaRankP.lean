import Derived.Test.YtfniicgfnlklbaaRankNil
namespace Go.Proofs.Ytfniicgfnlklbaa
set_option linter.unusedVariables false
set_option linter.unusedSimpArgs false
/-- The rows when the tasks 0, 1, .. k - 1 have been added, task i with priority F i. -/
def rowsOf (F : Nat → Int) (k : Nat) : RkT := (fun p => (List.range k).filter (fun i => decide (F i = (p : Int) ∧ p < 32)), fun t => if t < k ∧ 0 ≤ F t ∧ F t < 32 then (F t).toNat + 1 else 0)
theorem rowsOf_zero (F : Nat → Int) : rowsOf F 0 = rk0 := by
  unfold rowsOf rk0
  refine Prod.ext ?_ ?_
  · funext p; simp
  · funext t; simp
theorem rowsOf_can (F : Nat → Int) (k : Nat) (hk : k < 16) : canAdd (rowsOf F k).2 (k : Int) (F k) = decide (0 ≤ F k ∧ F k < 32) := by
  unfold canAdd rowsOf
  by_cases h : 0 ≤ F k ∧ F k < 32
  · rw [decide_eq_true h]
    exact decide_eq_true ⟨⟨by omega, by omega⟩, h, by simp⟩
  · rw [decide_eq_false h]
    exact decide_eq_false fun hh => h hh.2.1
theorem rowsOf_add (F : Nat → Int) (k : Nat) (hk : k < 16) : addT (rowsOf F k) (k : Int) (F k) = rowsOf F (k + 1) := by
  unfold addT
  rw [rowsOf_can F k hk]
  by_cases h : 0 ≤ F k ∧ F k < 32
  · rw [decide_eq_true h, if_pos rfl]
    refine Prod.ext ?_ ?_
    · funext p
      show addL (fun p => (List.range k).filter (fun i => decide (F i = (p : Int) ∧ p < 32))) (F k).toNat k p = (List.range (k + 1)).filter (fun i => decide (F i = (p : Int) ∧ p < 32))
      unfold addL
      rw [List.range_succ, List.filter_append]
      by_cases e : p = (F k).toNat
      · have e2 : F k = (p : Int) ∧ p < 32 := by omega
        rw [if_pos e, ← e]
        simp [e2]
      · have e2 : ¬ (F k = (p : Int) ∧ p < 32) := by omega
        rw [if_neg e]
        rw [show [k].filter (fun i => decide (F i = (p : Int) ∧ p < 32)) = [] by simp [e2], List.append_nil]
    · funext t
      show setP (fun t => if t < k ∧ 0 ≤ F t ∧ F t < 32 then (F t).toNat + 1 else 0) k ((F k).toNat + 1) t = if t < k + 1 ∧ 0 ≤ F t ∧ F t < 32 then (F t).toNat + 1 else 0
      unfold setP
      by_cases e : t = k
      · subst e
        rw [if_pos rfl, if_pos ⟨by omega, h⟩]
      · rw [if_neg e]
        by_cases h2 : t < k ∧ 0 ≤ F t ∧ F t < 32
        · exact (if_pos h2).trans (if_pos ⟨by omega, h2.2⟩).symm
        · exact (if_neg h2).trans (if_neg fun hh => h2 ⟨by omega, hh.2⟩).symm
  · rw [decide_eq_false h, if_neg (by simp)]
    refine Prod.ext ?_ ?_
    · funext p
      show (List.range k).filter (fun i => decide (F i = (p : Int) ∧ p < 32)) = (List.range (k + 1)).filter (fun i => decide (F i = (p : Int) ∧ p < 32))
      have e2 : ¬ (F k = (p : Int) ∧ p < 32) := by omega
      rw [List.range_succ, List.filter_append, show [k].filter (fun i => decide (F i = (p : Int) ∧ p < 32)) = [] by simp [e2], List.append_nil]
    · funext t
      show (if t < k ∧ 0 ≤ F t ∧ F t < 32 then (F t).toNat + 1 else 0) = if t < k + 1 ∧ 0 ≤ F t ∧ F t < 32 then (F t).toNat + 1 else 0
      by_cases e : t = k
      · subst e
        rw [if_neg (by omega), if_neg (by omega)]
      · by_cases h2 : t < k ∧ 0 ≤ F t ∧ F t < 32
        · rw [if_pos h2, if_pos ⟨by omega, h2.2⟩]
        · rw [if_neg h2, if_neg fun hh => h2 ⟨by omega, hh.2⟩]
theorem mem_rowsOf (F : Nat → Int) (n p t : Nat) (hp : p < 32) : t ∈ (rowsOf F n).1 p ↔ t < n ∧ F t = (p : Int) := by
  show t ∈ (List.range n).filter (fun i => decide (F i = (p : Int) ∧ p < 32)) ↔ _
  rw [List.mem_filter, List.mem_range, decide_eq_true_eq]
  constructor
  · exact fun h => ⟨h.1, h.2.1⟩
  · exact fun h => ⟨h.1, h.2, hp⟩
theorem mem_list (F : Nat → Int) (n t : Nat) : t ∈ listT (rowsOf F n) ↔ t < n ∧ 0 ≤ F t ∧ F t < 32 := by
  unfold listT
  rw [mem_flat]
  constructor
  · rintro ⟨q, _, hq, ht⟩
    have := (mem_rowsOf F n q t hq).1 ht
    omega
  · rintro ⟨h1, h2, h3⟩
    exact ⟨(F t).toNat, by omega, by omega, (mem_rowsOf F n _ t (by omega)).2 ⟨h1, by omega⟩⟩
theorem list_pairwise (F : Nat → Int) (n : Nat) : (listT (rowsOf F n)).Pairwise (fun a b => F b < F a ∨ (F a = F b ∧ a < b)) := by
  unfold listT flat
  rw [List.pairwise_flatten]
  constructor
  · intro l hl
    obtain ⟨i, hi, rfl⟩ := List.mem_map.1 hl
    have hi := List.mem_range.1 hi
    have h1 : ((rowsOf F n).1 (31 - i)).Pairwise (· < ·) := (List.pairwise_lt_range (n := n)).sublist List.filter_sublist
    refine List.Pairwise.imp_of_mem ?_ h1
    intro a b ha hb hab
    have h2 := (mem_rowsOf F n (31 - i) a (by omega)).1 ha
    have h3 := (mem_rowsOf F n (31 - i) b (by omega)).1 hb
    exact .inr ⟨by omega, hab⟩
  · rw [List.pairwise_map]
    refine List.Pairwise.imp_of_mem ?_ (List.pairwise_lt_range (n := 32 - 0))
    intro i j hi hj hij a ha b hb
    have hi := List.mem_range.1 hi
    have hj := List.mem_range.1 hj
    have h2 := (mem_rowsOf F n (31 - i) a (by omega)).1 ha
    have h3 := (mem_rowsOf F n (31 - j) b (by omega)).1 hb
    exact .inl (by omega)
theorem list_order (F : Nat → Int) (n i a b : Nat) (ha : (listT (rowsOf F n))[i]? = some a) (hb : (listT (rowsOf F n))[i + 1]? = some b) : F b < F a ∨ (F a = F b ∧ a < b) := by
  obtain ⟨h1, rfl⟩ := List.getElem?_eq_some_iff.1 ha
  obtain ⟨h2, rfl⟩ := List.getElem?_eq_some_iff.1 hb
  exact List.pairwise_iff_getElem.1 (list_pairwise F n) i (i + 1) h1 h2 (by omega)
/-- The priorities that have tasks, by the list. -/
theorem list_bits (F : Nat → Int) (n j : Nat) (hj : j < 32) : ((listT (rowsOf F n)).any fun t => decide (F t = (j : Int))) = !((rowsOf F n).1 j).isEmpty := by
  rw [Bool.eq_iff_iff, List.any_eq_true, Bool.not_eq_true', List.isEmpty_eq_false_iff]
  constructor
  · rintro ⟨t, ht, he⟩ hn
    have h1 := (mem_list F n t).1 ht
    have h2 := (mem_rowsOf F n j t hj).2 ⟨h1.1, of_decide_eq_true he⟩
    rw [hn] at h2
    cases h2
  · intro hn
    obtain ⟨t, ht⟩ := List.exists_mem_of_ne_nil _ hn
    have h1 := (mem_rowsOf F n j t hj).1 ht
    exact ⟨t, (mem_list F n t).2 ⟨h1.1, by omega, by omega⟩, decide_eq_true h1.2⟩
theorem prio_rowsOf (F : Nat → Int) (n t : Nat) (hn : n ≤ 16) (ht : t < n) (h : 0 ≤ F t ∧ F t < 32) : canRem (rowsOf F n).2 (t : Int) = true ∧ (prioT (rowsOf F n) (t : Int) : Int) = F t := by
  have e : (rowsOf F n).2 t = (F t).toNat + 1 := if_pos ⟨ht, h⟩
  have hc : canRem (rowsOf F n).2 (t : Int) = true := decide_eq_true ⟨⟨by omega, by omega⟩, by simp [e]⟩
  refine ⟨hc, ?_⟩
  unfold prioT
  rw [if_pos hc, Int.toNat_natCast, e]
  omega
theorem list_len (s : RkT) (h : ∀ p, p < 32 → (s.1 p).length ≤ 16) : (listT s).length ≤ 512 := flat_len s.1 h 32 0 (by omega)
/-- The word of the priorities of the first k. -/
theorem or_step {F : Nat → Int} {l : List Nat} {B k t p : Nat} (hB : B < 4294967296) (h : ∀ j, j < 32 → B.testBit j = (l.take k).any fun t => decide (F t = (j : Int))) (ht : l[k]? = some t) (hp : F t = (p : Int)) : ∀ j, j < 32 → (setB B (p : Int)).testBit j = (l.take (k + 1)).any fun t => decide (F t = (j : Int)) := by
  intro j hj
  rw [setB_testBit, h j hj, List.take_add_one, ht]
  simp only [Option.toList, List.any_append, List.any_cons, List.any_nil, Bool.or_false, hp]
  congr 1
  by_cases e : j = p
  · subst e; simp [hj]
  · rw [decide_eq_false (by omega), decide_eq_false (by omega)]
end Go.Proofs.Ytfniicgfnlklbaa
