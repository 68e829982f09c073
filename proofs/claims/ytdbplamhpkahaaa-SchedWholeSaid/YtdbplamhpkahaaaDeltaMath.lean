import Derived.Test.YtdbplamhpkahaaaDelta
namespace Go.Proofs.Ytdbplamhpkahaaa
open Go.ChangeShapes Go.WideShapes Go.ChangeAt Go.RowKit
set_option linter.unusedVariables false
theorem get_lt {L : List Nd} {i : Nat} {a : Nd} (h : L[i]? = some a) : i < L.length := by
  rcases Nat.lt_or_ge i L.length with h1 | h1
  · exact h1
  · rw [List.getElem?_eq_none h1] at h; cases h
theorem get_ge {L : List Nd} {i : Nat} (h : L[i]? = none) : L.length ≤ i := by
  rcases Nat.lt_or_ge i L.length with h1 | h1
  · rw [List.getElem?_eq_getElem h1] at h; cases h
  · exact h1
/-- L' is L with a node n before its k-th, whose ticks are fewer by n's. -/
structure Ins (L L' : List Nd) (k : Nat) (n : Nd) : Prop where
  len : L'.length = L.length + 1
  lo : ∀ i, i < k → L'[i]? = L[i]?
  at_ : L'[k]? = some n
  nx : L'[k + 1]? = (L[k]?).map fun a => ⟨a.g, a.t, a.x - n.x⟩
  hi : ∀ i, k < i → L'[i + 1]? = L[i]?
  le : k ≤ L.length
theorem ins_make (L : List Nd) (k : Nat) (n : Nd) (hk : k ≤ L.length) : ∃ L', Ins L L' k n := by
  have ht : (L.take k).length = k := by rw [List.length_take]; omega
  cases hd : L.drop k with
  | nil =>
    have hl : L.length = k := by
      have := congrArg List.length hd
      rw [List.length_drop] at this
      simp at this
      omega
    refine ⟨L ++ [n], ⟨by simp, ?_, ?_, ?_, ?_, hk⟩⟩
    · intro i hi; rw [List.getElem?_append_left (by omega)]
    · rw [List.getElem?_append_right (by omega), hl]; simp
    · rw [List.getElem?_append_right (by omega), hl, List.getElem?_eq_none (l := L) (by omega)]
      rw [show k + 1 - k = 1 by omega]; rfl
    · intro i hi; rw [List.getElem?_append_right (by omega), List.getElem?_eq_none (l := L) (by omega), List.getElem?_eq_none (by simp; omega)]
  | cons a r =>
    have hs : L = L.take k ++ a :: r := by rw [← hd, List.take_append_drop]
    have hg : ∀ j, L[k + j]? = (a :: r)[j]? := by
      intro j
      rw [hs, List.getElem?_append_right (by omega), ht]
      congr 1
      omega
    refine ⟨L.take k ++ n :: ⟨a.g, a.t, a.x - n.x⟩ :: r, ⟨?_, ?_, ?_, ?_, ?_, hk⟩⟩
    · have := congrArg List.length hs
      simp at this ⊢
      omega
    · intro i hi
      rw [List.getElem?_append_left (by omega), List.getElem?_take_of_lt hi]
    · rw [List.getElem?_append_right (by omega), ht]; simp
    · rw [List.getElem?_append_right (by omega), ht, show k + 1 - k = 1 by omega]
      have := hg 0
      rw [Nat.add_zero] at this
      rw [this]; rfl
    · intro i hi
      rw [List.getElem?_append_right (by omega), ht]
      obtain ⟨j, rfl⟩ : ∃ j, i = k + (j + 1) := ⟨i - k - 1, by omega⟩
      rw [hg, show k + (j + 1) + 1 - k = j + 2 by omega]
      rfl
theorem Ins.cases {L L' : List Nd} {k : Nat} {n : Nd} (h : Ins L L' k n) {i : Nat} {a : Nd} (ha : L'[i]? = some a) :
    (i < k ∧ L[i]? = some a) ∨ (i = k ∧ a = n) ∨ (i = k + 1 ∧ ∃ b, L[k]? = some b ∧ a = ⟨b.g, b.t, b.x - n.x⟩) ∨ (k + 1 < i ∧ L[i - 1]? = some a) := by
  rcases Nat.lt_trichotomy i k with h1 | h1 | h1
  · exact .inl ⟨h1, by rw [← h.lo i h1]; exact ha⟩
  · subst h1
    rw [h.at_] at ha
    cases ha
    exact .inr (.inl ⟨rfl, rfl⟩)
  · by_cases h2 : i = k + 1
    · subst h2
      rw [h.nx] at ha
      cases hb : L[k]? with
      | none => rw [hb] at ha; cases ha
      | some b =>
        rw [hb] at ha
        cases ha
        exact .inr (.inr (.inl ⟨rfl, b, rfl, rfl⟩))
    · obtain ⟨j, rfl⟩ : ∃ j, i = j + 1 := ⟨i - 1, by omega⟩
      rw [h.hi j (by omega)] at ha
      exact .inr (.inr (.inr ⟨by omega, ha⟩))
theorem Ins.sum_lo {L L' : List Nd} {k : Nat} {n : Nd} (h : Ins L L' k n) : ∀ i, i ≤ k → sumX L' i = sumX L i
  | 0, _ => rfl
  | i + 1, hi => by
    show sumX L' i + _ = sumX L i + _
    rw [h.sum_lo i (by omega), h.lo i (by omega)]
theorem Ins.sum_at {L L' : List Nd} {k : Nat} {n : Nd} (h : Ins L L' k n) : sumX L' (k + 1) = sumX L k + n.x := by
  rw [sumX_succ h.at_, h.sum_lo k (Nat.le_refl _)]
theorem Ins.sum_hi {L L' : List Nd} {k : Nat} {n : Nd} (h : Ins L L' k n) (hx : ∀ b, L[k]? = some b → n.x ≤ b.x) : ∀ i, k < i → i ≤ L.length → sumX L' (i + 1) = sumX L i := by
  intro i hi hl
  induction i with
  | zero => omega
  | succ i ih =>
    by_cases e : i = k
    · subst e
      cases hb : L[i]? with
      | none => have := get_ge hb; omega
      | some b =>
        have hn := h.nx
        rw [hb] at hn
        have hn' : L'[i + 1]? = some ⟨b.g, b.t, b.x - n.x⟩ := hn
        have := hx b hb
        rw [sumX_succ hn', h.sum_at, sumX_succ hb]
        show sumX L i + n.x + (b.x - n.x) = _
        omega
    · show sumX L' (i + 1) + _ = sumX L i + _
      rw [ih (by omega) (by omega), h.hi i (by omega)]
/-- The block of the i-th node. -/
def gOf (L : List Nd) (i : Nat) : Nat := match L[i]? with | some a => a.g | none => 0
theorem gOf_some {L : List Nd} {i : Nat} {a : Nd} (h : L[i]? = some a) : gOf L i = a.g := by simp [gOf, h]
/-- Where the pointer to the i-th node stands. -/
def atA (D : Nat) (L : List Nd) : Nat → Addr
  | 0 => ⟨D, 0, none⟩
  | i + 1 => ⟨gOf L i, 2, none⟩
theorem at_cell {w : World} {D : Nat} {L : List Nd} (h : IsDelta w D L) {i : Nat} (hi : i ≤ L.length) : w.cell? (atA D L i) = some (.pointer (ptrOf L i)) ∧ w.frozen? (atA D L i) = false ∧ (atA D L i).block < w.heap.size := by
  cases i with
  | zero => exact ⟨cell_of h.head 0, free_of h.head 0, lt_of h.head⟩
  | succ i =>
    cases ha : L[i]? with
    | none => have := get_ge ha; omega
    | some a =>
      have hn := h.node i a ha
      simp only [atA, gOf_some ha]
      exact ⟨cell_of hn 2, free_of hn 2, lt_of hn⟩
/-- What the list is behind an Add. -/
theorem ins_delta {w w' : World} {D k : Nat} {L L' : List Nd} {n : Nd} (h : IsDelta w D L) (hI : Ins L L' k n) (hnew : w.heap.size ≤ n.g)
    (hN : w'.heap[n.g]? = some (.cells #[.int .i64 n.t, .int .u32 (n.x : Int), .pointer (ptrOf L k)] 112 (0, 0)))
    (hD : w'.heap[D]? = some (.cells #[.pointer (if k = 0 then some ⟨n.g, 0, none⟩ else ptrOf L 0)] 48 (0, 0)))
    (hO : ∀ (j : Nat) (a : Nd), L[j]? = some a → w'.heap[a.g]? = some (.cells #[.int .i64 a.t, .int .u32 ((if j = k then a.x - n.x else a.x : Nat) : Int), .pointer (if j + 1 = k then some ⟨n.g, 0, none⟩ else ptrOf L (j + 1))] 112 (0, 0))) : IsDelta w' D L' := by
  have hp : ∀ i, i ≤ L.length → ptrOf L' i = if i = k then some ⟨n.g, 0, none⟩ else if i < k then ptrOf L i else ptrOf L (i - 1) := by
    intro i hi
    by_cases e : i = k
    · subst e; rw [if_pos rfl, ptrOf_some hI.at_]
    · rw [if_neg e]
      by_cases e2 : i < k
      · rw [if_pos e2]; simp only [ptrOf, hI.lo i e2]
      · rw [if_neg e2]
        obtain ⟨j, rfl⟩ : ∃ j, i = j + 1 := ⟨i - 1, by omega⟩
        simp only [Nat.add_sub_cancel]
        by_cases e3 : j = k
        · subst e3
          simp only [ptrOf, hI.nx]
          cases L[j]? <;> rfl
        · simp only [ptrOf, hI.hi j (by omega)]
  have hp2 : ∀ i, L.length < i → ptrOf L' (i + 1) = none := fun i hi => ptrOf_none (by rw [hI.len]; omega)
  have hpt : ∀ i, k < i → ptrOf L' (i + 1) = ptrOf L i := by
    intro i hi
    simp only [ptrOf, hI.hi i hi]
  have hpk : ptrOf L' (k + 1) = ptrOf L k := by
    simp only [ptrOf, hI.nx]
    cases L[k]? <;> rfl
  refine ⟨?_, ?_, ?_⟩
  · rw [hD]
    by_cases e : k = 0
    · subst e; rw [if_pos rfl, ptrOf_some hI.at_]
    · rw [if_neg e]
      simp only [ptrOf, hI.lo 0 (by omega)]
  · intro i a ha
    rcases hI.cases ha with ⟨h1, h2⟩ | ⟨rfl, rfl⟩ | ⟨rfl, b, h2, rfl⟩ | ⟨h1, h2⟩
    · rw [hO i a h2, if_neg (by omega)]
      by_cases e : i + 1 = k
      · rw [if_pos e, e, ptrOf_some hI.at_]
      · rw [if_neg e]
        simp only [ptrOf, hI.lo (i + 1) (by omega)]
    · rw [hN, hpk]
    · rw [hO k b h2, if_pos rfl, if_neg (by omega), hpt (k + 1) (by omega)]
    · obtain ⟨j, rfl⟩ : ∃ j, i = j + 1 := ⟨i - 1, by omega⟩
      simp only [Nat.add_sub_cancel] at h2
      rw [hO j a h2, if_neg (by omega), if_neg (by omega), hpt (j + 1) (by omega)]
  · intro i j a b ha hb hab
    have hlt : ∀ (z : Nat) (c : Nd), L[z]? = some c → c.g < n.g := fun z c hc => Nat.lt_of_lt_of_le (lt_of (h.node z c hc)) hnew
    have key : ∀ {i : Nat} {a : Nd}, L'[i]? = some a → (i = k ∧ a.g = n.g) ∨ ∃ (z : Nat) (c : Nd), L[z]? = some c ∧ c.g = a.g ∧ i = if z < k then z else z + 1 := by
      intro i a ha
      rcases hI.cases ha with ⟨h1, h2⟩ | ⟨rfl, rfl⟩ | ⟨rfl, b, h2, rfl⟩ | ⟨h1, h2⟩
      · exact .inr ⟨i, a, h2, rfl, by rw [if_pos h1]⟩
      · exact .inl ⟨rfl, rfl⟩
      · exact .inr ⟨k, b, h2, rfl, by rw [if_neg (by omega)]⟩
      · exact .inr ⟨i - 1, a, h2, rfl, by rw [if_neg (by omega)]; omega⟩
    rcases key ha with ⟨e1, e2⟩ | ⟨z, c, hc, hcg, e⟩
    · rcases key hb with ⟨e3, e4⟩ | ⟨z2, c2, hc2, hcg2, e5⟩
      · omega
      · have := hlt z2 c2 hc2; omega
    · rcases key hb with ⟨e3, e4⟩ | ⟨z2, c2, hc2, hcg2, e5⟩
      · have := hlt z c hc; omega
      · have := h.inj z z2 c c2 hc hc2 (by omega)
        subst this
        rw [e, e5]
end Go.Proofs.Ytdbplamhpkahaaa
