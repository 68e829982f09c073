import Derived.Test.YtdbplamhpkahaaaDeltaAdd
namespace Go.Proofs.Ytdbplamhpkahaaa
open Go.ChangeShapes Go.WideShapes Go.ChangeAt Go.RowKit
set_option linter.unusedVariables false
/-- L' is L without its k-th node, whose ticks went to the next. -/
structure Del (L L' : List Nd) (k : Nat) (n : Nd) : Prop where
  len : L'.length + 1 = L.length
  at_ : L[k]? = some n
  lo : ∀ i, i < k → L'[i]? = L[i]?
  nx : L'[k]? = (L[k + 1]?).map fun a => ⟨a.g, a.t, a.x + n.x⟩
  hi : ∀ i, k < i → L'[i]? = L[i + 1]?
theorem del_make (L : List Nd) (k : Nat) (n : Nd) (hk : L[k]? = some n) : ∃ L', Del L L' k n := by
  have hl := get_lt hk
  have ht : (L.take k).length = k := by rw [List.length_take]; omega
  cases hd : L.drop (k + 1) with
  | nil =>
    have hl2 : L.length = k + 1 := by
      have := congrArg List.length hd
      rw [List.length_drop] at this
      simp at this
      omega
    refine ⟨L.take k, ⟨by rw [ht]; omega, hk, ?_, ?_, ?_⟩⟩
    · intro i hi; rw [List.getElem?_take_of_lt hi]
    · rw [List.getElem?_eq_none (by omega), List.getElem?_eq_none (l := L) (by omega)]; rfl
    · intro i hi; rw [List.getElem?_eq_none (by omega), List.getElem?_eq_none (l := L) (by omega)]
  | cons a r =>
    have hg : ∀ j, L[k + 1 + j]? = (a :: r)[j]? := by
      intro j
      rw [← hd, List.getElem?_drop]
    have hlen : L.length = k + 1 + (r.length + 1) := by
      have := congrArg List.length hd
      rw [List.length_drop] at this
      simp at this
      omega
    refine ⟨L.take k ++ ⟨a.g, a.t, a.x + n.x⟩ :: r, ⟨?_, hk, ?_, ?_, ?_⟩⟩
    · rw [List.length_append, ht, List.length_cons]; omega
    · intro i hi
      rw [List.getElem?_append_left (by omega), List.getElem?_take_of_lt hi]
    · rw [List.getElem?_append_right (by omega), ht, Nat.sub_self]
      have := hg 0
      rw [Nat.add_zero] at this
      rw [this]; rfl
    · intro i hi
      rw [List.getElem?_append_right (by omega), ht]
      obtain ⟨j, rfl⟩ : ∃ j, i = k + (j + 1) := ⟨i - k - 1, by omega⟩
      rw [show k + (j + 1) + 1 = k + 1 + (j + 1) by omega, hg, show k + (j + 1) - k = j + 1 by omega]
      rfl
theorem Del.cases {L L' : List Nd} {k : Nat} {n : Nd} (h : Del L L' k n) {i : Nat} {a : Nd} (ha : L'[i]? = some a) :
    (i < k ∧ L[i]? = some a) ∨ (i = k ∧ ∃ b, L[k + 1]? = some b ∧ a = ⟨b.g, b.t, b.x + n.x⟩) ∨ (k < i ∧ L[i + 1]? = some a) := by
  rcases Nat.lt_trichotomy i k with h1 | h1 | h1
  · exact .inl ⟨h1, by rw [← h.lo i h1]; exact ha⟩
  · subst h1
    rw [h.nx] at ha
    cases hb : L[i + 1]? with
    | none => rw [hb] at ha; cases ha
    | some b =>
      rw [hb] at ha
      cases ha
      exact .inr (.inl ⟨rfl, b, rfl, rfl⟩)
  · exact .inr (.inr ⟨h1, by rw [← h.hi i h1]; exact ha⟩)
theorem Del.sum_lo {L L' : List Nd} {k : Nat} {n : Nd} (h : Del L L' k n) : ∀ i, i ≤ k → sumX L' i = sumX L i
  | 0, _ => rfl
  | i + 1, hi => by
    show sumX L' i + _ = sumX L i + _
    rw [h.sum_lo i (by omega), h.lo i (by omega)]
theorem Del.sum_hi {L L' : List Nd} {k : Nat} {n : Nd} (h : Del L L' k n) : ∀ i, k < i → i ≤ L'.length → sumX L' i = sumX L (i + 1) := by
  intro i hi hl
  induction i with
  | zero => omega
  | succ i ih =>
    by_cases e : i = k
    · subst e
      cases hb : L[i + 1]? with
      | none => have := get_ge hb; have := h.len; omega
      | some b =>
        have hn := h.nx
        rw [hb] at hn
        have hn' : L'[i]? = some ⟨b.g, b.t, b.x + n.x⟩ := hn
        rw [sumX_succ hn', h.sum_lo i (Nat.le_refl _), sumX_succ hb, sumX_succ h.at_]
        show sumX L i + (b.x + n.x) = _
        omega
    · show sumX L' i + _ = sumX L (i + 1) + _
      rw [ih (by omega) (by omega), h.hi i (by omega)]
/-- What the list is behind a Remove. -/
theorem del_delta {w w' : World} {D k : Nat} {L L' : List Nd} {n : Nd} (h : IsDelta w D L) (hI : Del L L' k n)
    (hD : w'.heap[D]? = some (.cells #[.pointer (if k = 0 then ptrOf L 1 else ptrOf L 0)] 48 (0, 0)))
    (hO : ∀ (j : Nat) (a : Nd), L[j]? = some a → j ≠ k → w'.heap[a.g]? = some (.cells #[.int .i64 a.t, .int .u32 ((if j = k + 1 then a.x + n.x else a.x : Nat) : Int), .pointer (if j + 1 = k then ptrOf L (k + 1) else ptrOf L (j + 1))] 112 (0, 0))) : IsDelta w' D L' := by
  have hlo : ∀ i, i < k → ptrOf L' i = ptrOf L i := fun i hi => by simp only [ptrOf, hI.lo i hi]
  have hk : ptrOf L' k = ptrOf L (k + 1) := by
    simp only [ptrOf, hI.nx]
    cases L[k + 1]? <;> rfl
  have hhi : ∀ i, k < i → ptrOf L' i = ptrOf L (i + 1) := fun i hi => by simp only [ptrOf, hI.hi i hi]
  refine ⟨?_, ?_, ?_⟩
  · rw [hD]
    by_cases e : k = 0
    · subst e; rw [if_pos rfl, hk]
    · rw [if_neg e, hlo 0 (by omega)]
  · intro i a ha
    rcases hI.cases ha with ⟨h1, h2⟩ | ⟨rfl, b, h2, rfl⟩ | ⟨h1, h2⟩
    · rw [hO i a h2 (by omega), if_neg (by omega)]
      by_cases e : i + 1 = k
      · rw [if_pos e, e, hk]
      · rw [if_neg e, hlo (i + 1) (by omega)]
    · rw [hO (i + 1) b h2 (by omega), if_pos rfl, if_neg (by omega), hhi (i + 1) (by omega)]
    · rw [hO (i + 1) a h2 (by omega), if_neg (by omega), if_neg (by omega), hhi (i + 1) (by omega)]
  · intro i j a b ha hb hab
    have key : ∀ {i : Nat} {a : Nd}, L'[i]? = some a → ∃ (z : Nat) (c : Nd), L[z]? = some c ∧ c.g = a.g ∧ z = if i < k then i else i + 1 := by
      intro i a ha
      rcases hI.cases ha with ⟨h1, h2⟩ | ⟨rfl, b, h2, rfl⟩ | ⟨h1, h2⟩
      · exact ⟨i, a, h2, rfl, by rw [if_pos h1]⟩
      · exact ⟨i + 1, b, h2, rfl, by rw [if_neg (by omega)]⟩
      · exact ⟨i + 1, a, h2, rfl, by rw [if_neg (by omega)]⟩
    obtain ⟨z, c, hc, hcg, e⟩ := key ha
    obtain ⟨z2, c2, hc2, hcg2, e5⟩ := key hb
    have := h.inj z z2 c c2 hc hc2 (by omega)
    subst this
    by_cases h1 : i < k <;> by_cases h2 : j < k
    · rw [if_pos h1] at e; rw [if_pos h2] at e5; omega
    · rw [if_pos h1] at e; rw [if_neg h2] at e5; omega
    · rw [if_neg h1] at e; rw [if_pos h2] at e5; omega
    · rw [if_neg h1] at e; rw [if_neg h2] at e5; omega
theorem del_blocks {D k : Nat} {w : World} {L : List Nd} {n : Nd} (h : IsDelta w D L) (hk : L[k]? = some n) (j : Nat) (a : Nd) (ha : L[j]? = some a) (hne : j + 1 ≠ k) : a.g ≠ (atA D L k).block := by
  have hkl := get_lt hk
  cases k with
  | zero => exact h.ne ha
  | succ z =>
    have hg := List.getElem?_eq_getElem (show z < L.length by omega)
    show a.g ≠ gOf L z
    rw [gOf_some hg]
    intro he
    have := h.inj j z a _ ha hg he
    omega
theorem dne_at {D k : Nat} {w : World} {L : List Nd} {n : Nd} (h : IsDelta w D L) (hk : L[k]? = some n) (h0 : k ≠ 0) : D ≠ (atA D L k).block := by
  have hkl := get_lt hk
  obtain ⟨z, rfl⟩ : ∃ z, k = z + 1 := ⟨k - 1, by omega⟩
  have hg := List.getElem?_eq_getElem (show z < L.length by omega)
  show D ≠ gOf L z
  rw [gOf_some hg]
  exact (h.ne hg).symm
def Removed (w w' : World) (D : Nat) (L : List Nd) (k : Nat) (n : Nd) : Prop :=
  ∃ L', Del L L' k n ∧ IsDelta w' D L' ∧ Keeps (Own D L) w w'
theorem at_set {w : World} {D k : Nat} {L : List Nd} {n : Nd} (h1 : IsDelta w D L) (hk : L[k]? = some n) (p : Option Addr) :
    (w.setCell (atA D L k) (.pointer p)).heap[D]? = some (.cells #[.pointer (if k = 0 then p else ptrOf L 0)] 48 (0, 0)) ∧
    ∀ (j : Nat) (a : Nd), L[j]? = some a → (w.setCell (atA D L k) (.pointer p)).heap[a.g]? = some (.cells #[.int .i64 a.t, .int .u32 (a.x : Int), .pointer (if j + 1 = k then p else ptrOf L (j + 1))] 112 (0, 0)) := by
  refine ⟨?_, ?_⟩
  · by_cases e : k = 0
    · subst e
      rw [if_pos rfl]
      exact heap_set h1.head 0 _
    · rw [if_neg e]
      exact heap_other h1.head (dne_at h1 hk e) _
  · intro j a ha
    by_cases e : j + 1 = k
    · subst e
      rw [if_pos rfl]
      show (World.setCell _ ⟨gOf L j, 2, none⟩ _).heap[a.g]? = _
      rw [gOf_some ha]
      exact heap_set (h1.node j a ha) 2 _
    · rw [if_neg e]
      exact heap_other (h1.node j a ha) (del_blocks h1 hk j a ha e) _
theorem drem_last (D : Nat) (L : List Nd) (k : Nat) (n : Nd) (w w1 : World) (h1 : IsDelta w1 D L) (hK : Keeps (fun _ => False) w w1) (hk : L[k]? = some n) (hl : L[k + 1]? = none) :
    Removed w (w1.setCell (atA D L k) (.pointer none)) D L k n := by
  obtain ⟨L', hI⟩ := del_make L k n hk
  obtain ⟨s1, s2⟩ := at_set h1 hk (none : Option Addr)
  have hp : ptrOf L (k + 1) = none := ptrOf_none (get_ge hl)
  refine ⟨L', hI, del_delta h1 hI ?_ ?_, ?_⟩
  · rw [s1]
    by_cases e : k = 0
    · subst e; rw [if_pos rfl, if_pos rfl, hp]
    · rw [if_neg e, if_neg e]
  · intro j a ha hj
    rw [s2 j a ha, if_neg (show ¬ j = k + 1 from fun e => by rw [e, hl] at ha; cases ha), hp]
  · exact (hK.mono fun _ _ h => h.elim).trans ((Keeps.refl (Own D L) w1).setCell (p := atA D L k) (.inl (at_block (by have := get_lt hk; omega))) _)
theorem drem_more (D : Nat) (L : List Nd) (k : Nat) (n b : Nd) (w w1 : World) (h1 : IsDelta w1 D L) (hK : Keeps (fun _ => False) w w1) (hk : L[k]? = some n) (hl : L[k + 1]? = some b) :
    Removed w ((w1.setCell (atA D L k) (.pointer (some ⟨b.g, 0, none⟩))).setCell ⟨b.g, 1, none⟩ (.int .u32 ((b.x + n.x : Nat) : Int))) D L k n := by
  obtain ⟨L', hI⟩ := del_make L k n hk
  obtain ⟨s1, s2⟩ := at_set h1 hk (some ⟨b.g, 0, none⟩)
  have hp : ptrOf L (k + 1) = some ⟨b.g, 0, none⟩ := ptrOf_some hl
  refine ⟨L', hI, del_delta h1 hI ?_ ?_, ?_⟩
  · rw [heap_other s1 (h1.ne hl).symm]
    by_cases e : k = 0
    · subst e; rw [if_pos rfl, if_pos rfl, hp]
    · rw [if_neg e, if_neg e]
  · intro j a ha hj
    by_cases e : j = k + 1
    · subst e
      rw [hl] at ha
      cases ha
      rw [if_pos rfl]
      have := heap_set (s2 (k + 1) b hl) 1 (.int .u32 ((b.x + n.x : Nat) : Int))
      rw [if_neg (by omega)] at this
      rw [if_neg (by omega)]
      exact this
    · rw [if_neg e, hp]
      exact heap_other (s2 j a ha) (fun he => e (h1.inj j (k + 1) a b ha hl he)) _
  · exact (hK.mono fun _ _ h => h.elim).trans (((Keeps.refl (Own D L) w1).setCell (p := atA D L k) (.inl (at_block (by have := get_lt hk; omega))) _).setCell (p := ⟨b.g, 1, none⟩) (.inl (.inr ⟨k + 1, b, hl, rfl⟩)) _)
end Go.Proofs.Ytdbplamhpkahaaa
