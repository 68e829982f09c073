import Derived.Test.YtfniicgfnlklbaaQRf
namespace Go.Proofs.Ytfniicgfnlklbaa
open Go.ChangeShapes Go.WideShapes Go.ChangeAt Go.RowKit
set_option linter.unusedVariables false
set_option linter.unusedSimpArgs false
/-- The program's rank and the document's row say the same. -/
structure RelQ (s : RkT) (R : List (Nat × Nat)) : Prop where
  rows : ∀ p, p < 32 → s.1 p = rowsR R p
  bds : ∀ a, a ∈ R → a.1 < 16 ∧ a.2 < 32
  nd : (R.map (·.1)).Nodup
theorem mem_rowsR (R : List (Nat × Nat)) (p t : Nat) : t ∈ rowsR R p ↔ (t, p) ∈ R := by
  unfold rowsR
  simp only [List.mem_map, List.mem_filter, decide_eq_true_eq]
  constructor
  · rintro ⟨⟨a, b⟩, ⟨h1, h2⟩, h3⟩
    dsimp only at h2 h3
    subst h2 h3
    exact h1
  · intro h
    exact ⟨(t, p), ⟨h, rfl⟩, rfl⟩
theorem RelQ.len {s : RkT} {R : List (Nat × Nat)} (h : RelQ s R) : R.length ≤ 16 := by
  have := nodup_le 16 _ h.nd fun x hx => by
    obtain ⟨a, ha, rfl⟩ := List.mem_map.1 hx
    exact (h.bds a ha).1
  simpa using this
theorem RelQ.list {s : RkT} {R : List (Nat × Nat)} (h : RelQ s R) : listT s = flat (rowsR R) 0 := flat_congr _ _ 0 fun q _ hq => h.rows q hq
theorem rel_start : RelQ rk0 [] := ⟨fun p hp => rfl, (fun a ha => by cases ha), List.nodup_nil⟩
/-- Where a task stands, or that it doesn't. -/
theorem q_find (R : List (Nat × Nat)) (t : Int) : (∀ a, a ∈ R → (a.1 : Int) ≠ t) ∨ ∃ (q : Nat) (y : Nat × Nat), R[q]? = some y ∧ (y.1 : Int) = t ∧ ∀ (i : Nat) (a : Nat × Nat), i < q → R[i]? = some a → (a.1 : Int) ≠ t := by
  induction R with
  | nil => exact .inl fun a ha => by cases ha
  | cons x R ih =>
    by_cases e : (x.1 : Int) = t
    · exact .inr ⟨0, x, rfl, e, fun i a hi => by omega⟩
    · rcases ih with h | ⟨q, y, h1, h2, h3⟩
      · exact .inl fun a ha => by
          rcases List.mem_cons.1 ha with rfl | ha
          · exact e
          · exact h a ha
      · refine .inr ⟨q + 1, y, by simpa using h1, h2, fun i a hi ha => ?_⟩
        rcases i with _ | i
        · have : x = a := by simpa using ha
          rw [← this]
          exact e
        · exact h3 i a (by omega) (by simpa using ha)
theorem rel_can_no {s : RkT} {R : List (Nat × Nat)} (h : RelQ s R) (hm : ∀ p t, p < 32 → (t ∈ s.1 p ↔ t < 16 ∧ s.2 t = p + 1)) (hs : ∀ t, t < 16 → s.2 t ≤ 32) (t : Int) (ht : ∀ a, a ∈ R → (a.1 : Int) ≠ t) : canRem s.2 t = false := by
  refine decide_eq_false ?_
  rintro ⟨⟨h1, h2⟩, h3⟩
  obtain ⟨T, rfl⟩ := Int.eq_ofNat_of_zero_le h1
  rw [Int.toNat_natCast] at h3
  have h4 := hs T (by omega)
  obtain ⟨p, hp⟩ : ∃ p, s.2 T = p + 1 := ⟨s.2 T - 1, by omega⟩
  have h5 := (hm p T (by omega)).2 ⟨by omega, hp⟩
  rw [h.rows p (by omega), mem_rowsR] at h5
  exact ht _ h5 rfl
theorem rel_can_yes {s : RkT} {R : List (Nat × Nat)} (h : RelQ s R) (hm : ∀ p t, p < 32 → (t ∈ s.1 p ↔ t < 16 ∧ s.2 t = p + 1)) (y : Nat × Nat) (hy : y ∈ R) : s.2 y.1 = y.2 + 1 := by
  have hb := h.bds y hy
  have h1 : y.1 ∈ s.1 y.2 := by rw [h.rows _ hb.2, mem_rowsR]; exact hy
  exact ((hm _ _ hb.2).1 h1).2
theorem rel_canRem {s : RkT} {R : List (Nat × Nat)} (h : RelQ s R) (hm : ∀ p t, p < 32 → (t ∈ s.1 p ↔ t < 16 ∧ s.2 t = p + 1)) (y : Nat × Nat) (hy : y ∈ R) : canRem s.2 (y.1 : Int) = true ∧ prioT s (y.1 : Int) = y.2 := by
  have hb := h.bds y hy
  have h1 := rel_can_yes h hm y hy
  have hc : canRem s.2 (y.1 : Int) = true := decide_eq_true ⟨⟨by omega, by omega⟩, by rw [Int.toNat_natCast]; omega⟩
  refine ⟨hc, ?_⟩
  unfold prioT
  rw [if_pos hc, Int.toNat_natCast, h1]
  omega
theorem rel_canAdd {s : RkT} {R : List (Nat × Nat)} (h : RelQ s R) (hm : ∀ p t, p < 32 → (t ∈ s.1 p ↔ t < 16 ∧ s.2 t = p + 1)) (hs : ∀ t, t < 16 → s.2 t ≤ 32) (t p : Int) : canAdd s.2 t p = true ↔ ((0 ≤ t ∧ t < 16) ∧ (0 ≤ p ∧ p < 32)) ∧ ∀ a, a ∈ R → (a.1 : Int) ≠ t := by
  unfold canAdd
  rw [decide_eq_true_eq]
  constructor
  · rintro ⟨h1, h2, h3⟩
    refine ⟨⟨h1, h2⟩, fun a ha e => ?_⟩
    have h4 := rel_can_yes h hm a ha
    rw [← e, Int.toNat_natCast] at h3
    omega
  · rintro ⟨⟨h1, h2⟩, h3⟩
    refine ⟨h1, h2, ?_⟩
    have h4 := rel_can_no h hm hs t h3
    have h5 := of_decide_eq_false h4
    rcases Nat.eq_zero_or_pos (s.2 t.toNat) with h6 | h6
    · exact h6
    · exact absurd ⟨h1, by omega⟩ h5
theorem rel_add {s : RkT} {R : List (Nat × Nat)} (h : RelQ s R) (t p : Nat) (hc : canAdd s.2 (t : Int) (p : Int) = true) (ht : ∀ a, a ∈ R → (a.1 : Int) ≠ (t : Int)) (hb : t < 16 ∧ p < 32) : RelQ (addT s (t : Int) (p : Int)) (R ++ [(t, p)]) := by
  unfold addT
  rw [if_pos hc, Int.toNat_natCast, Int.toNat_natCast]
  refine ⟨fun q hq => ?_, fun a ha => ?_, ?_⟩
  · show addL s.1 p t q = rowsR (R ++ [(t, p)]) q
    unfold addL rowsR
    rw [List.filter_append, List.map_append]
    by_cases e : q = p
    · subst e
      rw [if_pos rfl, h.rows q hq]
      unfold rowsR
      simp
    · have e2 : ¬ p = q := fun e2 => e e2.symm
      rw [if_neg e, h.rows q hq]
      unfold rowsR
      simp [e2]
  · rcases List.mem_append.1 ha with ha | ha
    · exact h.bds a ha
    · have : a = (t, p) := by simpa using ha
      rw [this]
      exact hb
  · rw [List.map_append]
    refine List.nodup_append.2 ⟨h.nd, by simp, fun a ha b hb2 => ?_⟩
    obtain ⟨x, hx, rfl⟩ := List.mem_map.1 ha
    have : b = t := by simpa using hb2
    rw [this]
    exact fun e => ht x hx (by rw [e])
theorem erase_filter : ∀ (R : List (Nat × Nat)) (q : Nat) (y : Nat × Nat), (R.map (·.1)).Nodup → R[q]? = some y → R.eraseIdx q = R.filter (fun a => a.1 != y.1)
  | [], q, y, _, h => by simp at h
  | a :: R, 0, y, hn, h => by
    have e : a = y := by simpa using h
    subst e
    have hn' := List.nodup_cons.1 hn
    have : R.filter (fun x => x.1 != a.1) = R := List.filter_eq_self.2 (fun x hx => by
      have : x.1 ≠ a.1 := fun e => hn'.1 (List.mem_map.2 ⟨x, hx, e⟩)
      simpa using this)
    simp [this]
  | a :: R, q + 1, y, hn, h => by
    have hn' := List.nodup_cons.1 hn
    have h1 : R[q]? = some y := by simpa using h
    have e : a.1 ≠ y.1 := fun e => hn'.1 (List.mem_map.2 ⟨y, List.mem_of_getElem? h1, e.symm⟩)
    have h3 : (a :: R).filter (fun x => x.1 != y.1) = a :: R.filter (fun x => x.1 != y.1) := by simp [e]
    rw [h3, ← erase_filter R q y hn'.2 h1]
    rfl
theorem rel_rem {s : RkT} {R : List (Nat × Nat)} (h : RelQ s R) (q : Nat) (y : Nat × Nat) (hq : R[q]? = some y) (hc : canRem s.2 (y.1 : Int) = true) : RelQ (remT s (y.1 : Int)) (R.eraseIdx q) ∧ ∀ a, a ∈ R.eraseIdx q → (a.1 : Int) ≠ (y.1 : Int) := by
  have he := erase_filter R q y h.nd hq
  unfold remT
  rw [if_pos hc, Int.toNat_natCast]
  refine ⟨⟨fun p hp => ?_, fun a ha => h.bds a (List.mem_of_mem_eraseIdx ha), ?_⟩, fun a ha e => ?_⟩
  · show remL s.1 y.1 p = rowsR (R.eraseIdx q) p
    unfold remL rowsR
    rw [he, h.rows p hp]
    unfold rowsR
    rw [List.filter_map, List.filter_filter, List.filter_filter]
    congr 2
    funext a
    simp [Bool.and_comm]
  · exact h.nd.sublist ((List.eraseIdx_sublist _ _).map _)
  · rw [he] at ha
    have := (List.mem_filter.1 ha).2
    simp at this
    omega
theorem rel_turn {s : RkT} {R : List (Nat × Nat)} (h : RelQ s R) (hs : ∀ t, t < 16 → s.2 t ≤ 32) (q : Nat) (y : Nat × Nat) (hq : R[q]? = some y) (hc : canRem s.2 (y.1 : Int) = true) (hp : prioT s (y.1 : Int) = y.2) : RelQ (turnT s (y.1 : Int)) (R.eraseIdx q ++ [y]) := by
  have hr := rel_rem h q y hq hc
  have hb := h.bds y (List.mem_of_getElem? hq)
  have hca := canAdd_back s (y.1 : Int) hc hs
  unfold turnT
  rw [if_pos hc]
  rw [hp] at hca ⊢
  exact rel_add hr.1 y.1 y.2 hca hr.2 hb
/-- The words of the priorities, by the rows and by the list. -/
theorem rel_bits {s : RkT} {R : List (Nat × Nat)} (h : RelQ s R) {bs B : Nat} (hbs : bs < 4294967296) (hB : B < 4294967296) (h1 : ∀ p, p < 32 → bs.testBit p = !(s.1 p).isEmpty) (h2 : ∀ j, j < 32 → B.testBit j = R.any fun a => decide (a.2 = j)) : bs = B := Nat.eq_of_testBit_eq fun j => by
  by_cases hj : j < 32
  · rw [h1 j hj, h2 j hj, h.rows j hj]
    rw [Bool.eq_iff_iff, List.any_eq_true, Bool.not_eq_true', List.isEmpty_eq_false_iff]
    constructor
    · intro hn
      obtain ⟨t, ht⟩ := List.exists_mem_of_ne_nil _ hn
      exact ⟨(t, j), (mem_rowsR R j t).1 ht, decide_eq_true rfl⟩
    · rintro ⟨⟨t, p⟩, ha, he⟩ hn
      have he := of_decide_eq_true he
      dsimp only at he
      subst he
      have := (mem_rowsR R p t).2 ha
      rw [hn] at this
      cases this
  · rw [testBit_ge hbs (by omega), testBit_ge hB (by omega)]
end Go.Proofs.Ytfniicgfnlklbaa
