import Derived.Test.YtfniicgfnlklbabDeltaRefV
namespace Go.Proofs.Ytfniicgfnlklbab
open Go.ChangeShapes Go.WideShapes Go.ChangeAt Go.RowKit
set_option linter.unusedVariables false
set_option linter.unusedSimpArgs false
/-- A row of tasks with the ticks that are left, as cells. -/
def flatP (R : List (Int × Nat)) : List Value := R.flatMap fun a => [.int .i64 a.1, .int .u64 (a.2 : Int)]
theorem flatP_app (R S : List (Int × Nat)) : flatP (R ++ S) = flatP R ++ flatP S := List.flatMap_append
theorem flatP_len : ∀ R : List (Int × Nat), (flatP R).length = R.length * 2
  | [] => rfl
  | a :: R => by
    have := flatP_len R
    unfold flatP at this ⊢
    rw [List.flatMap_cons, List.length_append, this, List.length_cons]
    simp
    omega
theorem flatP_at (R : List (Int × Nat)) (i : Nat) (a : Int × Nat) (h : R[i]? = some a) : (flatP R)[i * 2]? = some (.int .i64 a.1) ∧ (flatP R)[i * 2 + 1]? = some (.int .u64 (a.2 : Int)) := by
  induction R generalizing i with
  | nil => simp at h
  | cons b R ih =>
    have e : flatP (b :: R) = [.int .i64 b.1, .int .u64 (b.2 : Int)] ++ flatP R := rfl
    rw [e]
    rcases i with _ | i
    · have : b = a := by simpa using h
      subst this
      exact ⟨rfl, rfl⟩
    · have h' : R[i]? = some a := by simpa using h
      rw [List.getElem?_append_right (by simp; omega), List.getElem?_append_right (by simp; omega)]
      have := ih i h'
      simp only [List.length_cons, List.length_nil]
      rw [show (i + 1) * 2 - (0 + 1 + 1) = i * 2 by omega, show (i + 1) * 2 + 1 - (0 + 1 + 1) = i * 2 + 1 by omega]
      exact this
theorem flatP_one (R : List (Int × Nat)) : ∀ u ∈ flatP R, u.oneCell' = true := by
  intro u hu
  obtain ⟨a, _, hu⟩ := List.mem_flatMap.1 hu
  simp at hu
  rcases hu with rfl | rfl <;> rfl
theorem flatP_take (R : List (Int × Nat)) (k j : Nat) (u : Value) (h : (flatP (R.take k))[j]? = some u) : (flatP R)[j]? = some u := by
  have hj : j < (flatP (R.take k)).length := by
    rcases Nat.lt_or_ge j (flatP (R.take k)).length with h1 | h1
    · exact h1
    · rw [List.getElem?_eq_none h1] at h; cases h
  have : flatP R = flatP (R.take k) ++ flatP (R.drop k) := by rw [← flatP_app, List.take_append_drop]
  rw [this, List.getElem?_append_left hj]
  exact h
theorem flatP_drop (R : List (Int × Nat)) (k j : Nat) (hk : k ≤ R.length) (u : Value) (h : (flatP (R.drop k))[j]? = some u) : (flatP R)[k * 2 + j]? = some u := by
  have : flatP R = flatP (R.take k) ++ flatP (R.drop k) := by rw [← flatP_app, List.take_append_drop]
  have hl : (flatP (R.take k)).length = k * 2 := by rw [flatP_len, List.length_take, Nat.min_eq_left hk]
  rw [this, List.getElem?_append_right (by omega), hl, Nat.add_sub_cancel_left]
  exact h
theorem flatP_W (P : Nat → Int) (X : Nat → Nat) : ∀ n, flatP ((List.range n).map fun i => (P i, X i)) = flatW P X n
  | 0 => rfl
  | n + 1 => by
    rw [List.range_succ, List.map_append, flatP_app, flatP_W P X n]
    rfl
/-- Put in behind all that are as near: where the document's insertion sort puts it. -/
def insS (l : List (Int × Nat)) (y : Int × Nat) : List (Int × Nat) := l.filter (fun a => decide (a.2 ≤ y.2)) ++ [y] ++ l.filter (fun a => decide (y.2 < a.2))
def sortS (R : List (Int × Nat)) : List (Int × Nat) := R.foldl insS []
theorem sortS_snoc (R : List (Int × Nat)) (y : Int × Nat) : sortS (R ++ [y]) = insS (sortS R) y := by
  unfold sortS
  rw [List.foldl_append]
  rfl
theorem insS_len (l : List (Int × Nat)) (y : Int × Nat) : (insS l y).length = l.length + 1 := by
  unfold insS
  simp only [List.length_append, List.length_cons, List.length_nil]
  have h : (l.filter (fun a => decide (a.2 ≤ y.2))).length + (l.filter (fun a => decide (y.2 < a.2))).length = l.length := by
    induction l with
    | nil => rfl
    | cons a l ih =>
      by_cases e : a.2 ≤ y.2
      · have e2 : ¬ y.2 < a.2 := by omega
        rw [List.filter_cons_of_pos (by simpa using e), List.filter_cons_of_neg (by simpa using e2)]
        simp only [List.length_cons]
        omega
      · have e2 : y.2 < a.2 := by omega
        rw [List.filter_cons_of_neg (by simpa using e), List.filter_cons_of_pos (by simpa using e2)]
        simp only [List.length_cons]
        omega
  omega
theorem snoc_ind {α : Type} {Q : List α → Prop} (h0 : Q []) (hs : ∀ R y, Q R → Q (R ++ [y])) (R : List α) : Q R := by
  have h : ∀ S : List α, Q S.reverse := by
    intro S
    induction S with
    | nil => exact h0
    | cons a S ih => rw [List.reverse_cons]; exact hs _ _ ih
  have := h R.reverse
  rwa [List.reverse_reverse] at this
theorem sortS_len (R : List (Int × Nat)) : (sortS R).length = R.length := by
  refine snoc_ind (Q := fun R => (sortS R).length = R.length) rfl (fun R y ih => ?_) R
  rw [sortS_snoc, insS_len, ih]
  simp
theorem mem_insS (l : List (Int × Nat)) (y a : Int × Nat) : a ∈ insS l y ↔ a ∈ l ∨ a = y := by
  unfold insS
  simp only [List.mem_append, List.mem_filter, List.mem_singleton, decide_eq_true_eq]
  constructor
  · rintro ((⟨h, _⟩ | h) | ⟨h, _⟩)
    · exact .inl h
    · exact .inr h
    · exact .inl h
  · rintro (h | h)
    · by_cases e : a.2 ≤ y.2
      · exact .inl (.inl ⟨h, e⟩)
      · exact .inr ⟨h, by omega⟩
    · exact .inl (.inr h)
theorem insS_sorted (l : List (Int × Nat)) (y : Int × Nat) (h : l.Pairwise (fun a b => a.2 ≤ b.2)) : (insS l y).Pairwise (fun a b => a.2 ≤ b.2) := by
  unfold insS
  rw [List.pairwise_append, List.pairwise_append]
  refine ⟨⟨h.sublist List.filter_sublist, List.pairwise_singleton _ _, fun a ha b hb => ?_⟩, h.sublist List.filter_sublist, fun a ha b hb => ?_⟩
  · have h1 := of_decide_eq_true (List.mem_filter.1 ha).2
    have h2 : b = y := by simpa using hb
    rw [h2]
    exact h1
  · have h2 := of_decide_eq_true (List.mem_filter.1 hb).2
    rcases List.mem_append.1 ha with ha | ha
    · have h1 := of_decide_eq_true (List.mem_filter.1 ha).2
      omega
    · have h1 : a = y := by simpa using ha
      rw [h1]
      omega
theorem sortS_sorted (R : List (Int × Nat)) : (sortS R).Pairwise (fun a b => a.2 ≤ b.2) := by
  refine snoc_ind (Q := fun R => (sortS R).Pairwise (fun a b => a.2 ≤ b.2)) List.Pairwise.nil (fun R y ih => ?_) R
  rw [sortS_snoc]
  exact insS_sorted _ _ ih
/-- In a sorted row the place is found by going down from the end. -/
theorem insS_at (l : List (Int × Nat)) (y : Int × Nat) (k : Nat) (hk : k ≤ l.length) (h : l.Pairwise (fun a b => a.2 ≤ b.2)) (hi : ∀ j a, k ≤ j → l[j]? = some a → y.2 < a.2) (lo : ∀ a, 0 < k → l[k - 1]? = some a → a.2 ≤ y.2) : insS l y = l.take k ++ [y] ++ l.drop k := by
  have hsp : l = l.take k ++ l.drop k := (List.take_append_drop k l).symm
  have h1 : ∀ a, a ∈ l.take k → a.2 ≤ y.2 := fun a ha => by
    obtain ⟨j, hj⟩ := List.getElem?_of_mem ha
    have hjk : j < k := by
      rcases Nat.lt_or_ge j k with h1 | h1
      · exact h1
      · rw [List.getElem?_take, if_neg (by omega)] at hj; cases hj
    rw [List.getElem?_take, if_pos hjk] at hj
    have hl : k - 1 < l.length := by omega
    have h2 := lo l[k - 1] (by omega) (List.getElem?_eq_getElem hl)
    rcases Nat.lt_or_ge j (k - 1) with h3 | h3
    · obtain ⟨hjl, rfl⟩ := List.getElem?_eq_some_iff.1 hj
      exact Nat.le_trans (List.pairwise_iff_getElem.1 h j (k - 1) hjl hl h3) h2
    · obtain rfl : j = k - 1 := by omega
      obtain ⟨hjl, rfl⟩ := List.getElem?_eq_some_iff.1 hj
      exact h2
  have h2 : ∀ a, a ∈ l.drop k → y.2 < a.2 := fun a ha => by
    obtain ⟨j, hj⟩ := List.getElem?_of_mem ha
    rw [List.getElem?_drop] at hj
    exact hi (k + j) a (by omega) hj
  unfold insS
  have e1 : l.filter (fun a => decide (a.2 ≤ y.2)) = l.take k := by
    rw [congrArg (List.filter _) hsp, List.filter_append, List.filter_eq_self.2 fun a ha => decide_eq_true (h1 a ha), List.filter_eq_nil_iff.2 fun a ha => by have := h2 a ha; simp; omega, List.append_nil]
  have e2 : l.filter (fun a => decide (y.2 < a.2)) = l.drop k := by
    rw [congrArg (List.filter _) hsp, List.filter_append, (List.filter_eq_self (l := l.drop k)).2 fun a ha => decide_eq_true (h2 a ha), List.filter_eq_nil_iff.2 fun a ha => by have := h1 a ha; simp; omega, List.nil_append]
  rw [e1, e2]
end Go.Proofs.Ytfniicgfnlklbab
