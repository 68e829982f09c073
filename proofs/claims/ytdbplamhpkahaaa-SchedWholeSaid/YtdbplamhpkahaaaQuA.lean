import Derived.Test.YtdbplamhpkahaaaQuG
namespace Go.Proofs.Ytdbplamhpkahaaa
open Go.RowKit
set_option linter.unusedVariables false
theorem bk_zero (Q : Nat) (L : List QN) : bk Q L 0 = Q := rfl
theorem bk_app_lt {Q : Nat} {L : List QN} {nd : QN} {i : Nat} (h : i ≤ L.length) : bk Q (L ++ [nd]) i = bk Q L i := by
  cases i with
  | zero => rfl
  | succ i => simp only [bk]; rw [List.getElem?_append_left (by omega)]
theorem bk_app_eq {Q : Nat} {L : List QN} {nd : QN} : bk Q (L ++ [nd]) (L.length + 1) = nd.g := by simp [bk]
theorem bk_app_end {Q : Nat} {L : List QN} {nd : QN} : bk Q (L ++ [nd]) (L.length + 2) = Q := bk_end (by simp)
theorem get_lt' {L : List QN} {i : Nat} {x : QN} (h : L[i]? = some x) : i < L.length := by
  rcases Nat.lt_or_ge i L.length with h1 | h1
  · exact h1
  · rw [List.getElem?_eq_none h1] at h; cases h
theorem q_first {w : World} {Q : Nat} (hq : IsQ w Q [] false) : IsQ ((w.setCell ⟨Q, 4, none⟩ (.pointer (some ⟨Q, 0, none⟩))).setCell ⟨Q, 5, none⟩ (.pointer (some ⟨Q, 0, none⟩))) Q [] true :=
  ⟨heap_set (heap_set hq.head 4 _) 5 _, fun i x hi => by simp at hi, fun i j a b hi => by simp at hi, fun h => by cases h⟩
/-- A block's number on the ring is the head's, or a node's. -/
theorem bk_cases (Q : Nat) (L : List QN) (i : Nat) : bk Q L i = Q ∨ ∃ j x, i = j + 1 ∧ L[j]? = some x ∧ bk Q L i = x.g := by
  cases i with
  | zero => exact .inl rfl
  | succ i =>
    cases h : L[i]? with
    | none => exact .inl (by simp [bk, h])
    | some x => exact .inr ⟨i, x, rfl, h, bk_some h⟩
theorem node_blocks {w : World} {Q : Nat} {L : List QN} {h : Bool} (hq : IsQ w Q L h) {i : Nat} {x : QN} (hi : L[i]? = some x) {j : Nat} (hj : j ≠ i + 1) : x.g ≠ bk Q L j := by
  intro e
  rcases bk_cases Q L j with h1 | ⟨k, y, rfl, hk, h1⟩
  · rw [h1] at e; exact hq.ne hi e
  · rw [h1] at e
    have := hq.inj i k x y hi hk e
    omega
theorem heap_set4 {w : World} {b : Nat} {a0 a1 a2 a3 a4 a5 : Value} {T : TypeId} (h : w.heap[b]? = some (.cells #[a0, a1, a2, a3, a4, a5] T (0, 0))) (v : Value) : (w.setCell ⟨b, 4, none⟩ v).heap[b]? = some (.cells #[a0, a1, a2, a3, v, a5] T (0, 0)) := heap_set h 4 v
theorem heap_set5 {w : World} {b : Nat} {a0 a1 a2 a3 a4 a5 : Value} {T : TypeId} (h : w.heap[b]? = some (.cells #[a0, a1, a2, a3, a4, a5] T (0, 0))) (v : Value) : (w.setCell ⟨b, 5, none⟩ v).heap[b]? = some (.cells #[a0, a1, a2, a3, a4, v] T (0, 0)) := heap_set h 5 v
theorem q_push_at {w W : World} {Q : Nat} {L : List QN} (hq : IsQ w Q L true) (nd : QN) (hold : ∀ (b : Nat) (x : Obj), w.heap[b]? = some x → W.heap[b]? = some x) (hg : w.heap.size = nd.g)
    (hnew : W.heap[nd.g]? = some (.cells #[.int .i64 nd.t, .int .i64 nd.k, .int .i64 nd.o, .int .u32 (nd.m : Int), .pointer (some ⟨Q, 0, none⟩), .pointer (some ⟨bk Q L L.length, 0, none⟩)] 59 (0, 0))) :
    IsQ ((W.setCell ⟨bk Q L L.length, 4, none⟩ (.pointer (some ⟨nd.g, 0, none⟩))).setCell ⟨Q, 5, none⟩ (.pointer (some ⟨nd.g, 0, none⟩))) Q (L ++ [nd]) true := by
  have hQl := lt_of hq.head
  have hnl : ∀ (i : Nat) (x : QN), L[i]? = some x → x.g < nd.g := fun i x hi => by rw [← hg]; exact lt_of (hq.node i x hi)
  have hh := hold _ _ hq.head
  have hlast : bk Q L L.length < nd.g := by
    rcases bk_cases Q L L.length with h | ⟨j, x, _, hj, h⟩
    · omega
    · rw [h]; exact hnl j x hj
  refine ⟨?_, ?_, ?_, fun h => by cases h⟩
  · have e1 : nx Q (L ++ [nd]) true (L ++ [nd]).length = some ⟨nd.g, 0, none⟩ := by
      simp only [List.length_append, List.length_cons, List.length_nil, nx, if_true]; rw [bk_app_eq]
    rw [e1]
    rcases Nat.eq_zero_or_pos L.length with h0 | hp
    · have hL : L = [] := List.length_eq_zero_iff.1 h0
      subst hL
      have := heap_set5 (heap_set4 hh (.pointer (some ⟨nd.g, 0, none⟩))) (.pointer (some ⟨nd.g, 0, none⟩))
      exact this
    · have e2 : nx Q (L ++ [nd]) true 1 = nx Q L true 1 := by simp only [nx, if_true]; rw [bk_app_lt (i := 1) (by omega)]
      rw [e2]
      obtain ⟨x, hx⟩ : ∃ x, L[L.length - 1]? = some x := ⟨_, List.getElem?_eq_getElem (by omega)⟩
      have hb : bk Q L L.length = x.g := by have := bk_some (Q := Q) hx; rwa [Nat.sub_add_cancel hp] at this
      have hne : Q ≠ bk Q L L.length := by rw [hb]; exact (hq.ne hx).symm
      exact heap_set5 (heap_other hh hne _) _
  · intro i x hi
    rcases Nat.lt_trichotomy i L.length with h1 | h1 | h1
    · rw [List.getElem?_append_left h1] at hi
      have hn := hold _ _ (hq.node i x hi)
      rw [bk_app_lt (i := i) (by omega)]
      rcases Nat.lt_or_ge (i + 1) L.length with h2 | h2
      · rw [bk_app_lt (i := i + 2) (by omega)]
        exact heap_other (heap_other hn (node_blocks hq hi (by omega)) _) (hq.ne hi) _
      · have e : i + 1 = L.length := by omega
        have hb : bk Q L L.length = x.g := by rw [← e]; exact bk_some hi
        have e3 : bk Q (L ++ [nd]) (i + 2) = nd.g := by
          have h9 := bk_app_eq (Q := Q) (L := L) (nd := nd)
          have h8 : i + 2 = L.length + 1 := by omega
          rw [h8]; exact h9
        rw [e3, hb]
        exact heap_other (heap_set4 hn _) (hq.ne hi) _
    · subst h1
      simp at hi
      subst hi
      rw [bk_app_end, bk_app_lt (Nat.le_refl _)]
      refine heap_other (heap_other hnew ?_ _) ?_ _
      · show nd.g ≠ bk Q L L.length
        omega
      · show nd.g ≠ Q
        omega
    · rw [List.getElem?_eq_none (by simp; omega)] at hi; cases hi
  · intro i j a b hi hj e
    have key : ∀ (i : Nat) (a : QN), (L ++ [nd])[i]? = some a → (i < L.length ∧ L[i]? = some a ∧ a.g < nd.g) ∨ (i = L.length ∧ a.g = nd.g) := by
      intro i a hi
      rcases Nat.lt_trichotomy i L.length with h1 | h1 | h1
      · rw [List.getElem?_append_left h1] at hi
        exact .inl ⟨h1, hi, hnl i a hi⟩
      · subst h1
        simp at hi
        subst hi
        exact .inr ⟨rfl, rfl⟩
      · rw [List.getElem?_eq_none (by simp; omega)] at hi; cases hi
    rcases key i a hi with ⟨_, h1, h2⟩ | ⟨h1, h2⟩ <;> rcases key j b hj with ⟨_, h3, h4⟩ | ⟨h3, h4⟩
    · exact hq.inj i j a b h1 h3 e
    · omega
    · omega
    · omega
theorem erase_lt {L : List QN} {j i : Nat} (h : i < j) : (L.eraseIdx j)[i]? = L[i]? := by rw [List.getElem?_eraseIdx]; simp [h]
theorem erase_ge {L : List QN} {j i : Nat} (h : j ≤ i) : (L.eraseIdx j)[i]? = L[i + 1]? := by rw [List.getElem?_eraseIdx]; simp [show ¬ i < j by omega]
theorem bk_erase_le {Q : Nat} {L : List QN} {j i : Nat} (h : i ≤ j) : bk Q (L.eraseIdx j) i = bk Q L i := by
  cases i with
  | zero => rfl
  | succ i => simp only [bk]; rw [erase_lt (by omega)]
theorem bk_erase_gt {Q : Nat} {L : List QN} {j i : Nat} (h : j < i) : bk Q (L.eraseIdx j) i = bk Q L (i + 1) := by
  cases i with
  | zero => omega
  | succ i => simp only [bk]; rw [erase_ge (by omega)]
theorem q_drop {w : World} {Q : Nat} {L : List QN} {h : Bool} (hq : IsQ w Q L h) {j : Nat} {x : QN} (hj : L[j]? = some x) :
    IsQ ((w.setCell ⟨bk Q L j, 4, none⟩ (.pointer (some ⟨bk Q L (j + 2), 0, none⟩))).setCell ⟨bk Q L (j + 2), 5, none⟩ (.pointer (some ⟨bk Q L j, 0, none⟩))) Q (L.eraseIdx j) true := by
  have hjl := get_lt' hj
  have hh : h = true := by rcases Bool.eq_false_or_eq_true h with e | e; exact e; (have := hq.ever e; simp [this] at hj)
  subst hh
  have hlen : (L.eraseIdx j).length = L.length - 1 := by rw [List.length_eraseIdx, if_pos hjl]
  refine ⟨?_, ?_, ?_, fun h => by cases h⟩
  · rw [hlen]
    have e1 : nx Q (L.eraseIdx j) true 1 = if j = 0 then some ⟨bk Q L 2, 0, none⟩ else nx Q L true 1 := by
      by_cases h0 : j = 0
      · subst h0; simp only [nx, if_true]; rw [bk_erase_gt (by omega)]
      · simp only [nx, if_true, h0, if_false]; rw [bk_erase_le (by omega)]
    have e2 : nx Q (L.eraseIdx j) true (L.length - 1) = if j + 1 = L.length then some ⟨bk Q L j, 0, none⟩ else nx Q L true L.length := by
      by_cases h0 : j + 1 = L.length
      · rw [if_pos h0]; simp only [nx, if_true]; rw [bk_erase_le (by omega), show L.length - 1 = j by omega]
      · rw [if_neg h0]; simp only [nx, if_true]; rw [bk_erase_gt (by omega), show L.length - 1 + 1 = L.length by omega]
    rw [e1, e2]
    have q1 : (w.setCell ⟨bk Q L j, 4, none⟩ (.pointer (some ⟨bk Q L (j + 2), 0, none⟩))).heap[Q]? = some (.cells #[.int .i64 0, .int .i64 0, .int .i64 0, .int .u32 0, .pointer (if j = 0 then some ⟨bk Q L 2, 0, none⟩ else nx Q L true 1), .pointer (nx Q L true L.length)] 61 (0, 0)) := by
      by_cases h0 : j = 0
      · subst h0; rw [if_pos rfl]; exact heap_set4 hq.head _
      · rw [if_neg h0]
        refine heap_other hq.head ?_ _
        show Q ≠ bk Q L j
        obtain ⟨y, hy⟩ : ∃ y, L[j - 1]? = some y := ⟨_, List.getElem?_eq_getElem (by omega)⟩
        have := bk_some (Q := Q) hy
        rw [show j - 1 + 1 = j by omega] at this
        rw [this]
        exact (hq.ne hy).symm
    by_cases h1 : j + 1 = L.length
    · rw [if_pos h1]
      have e3 : bk Q L (j + 2) = Q := bk_end (by omega)
      rw [e3] at q1 ⊢
      exact heap_set5 q1 _
    · rw [if_neg h1]
      refine heap_other q1 ?_ _
      show Q ≠ bk Q L (j + 2)
      obtain ⟨y, hy⟩ : ∃ y, L[j + 1]? = some y := ⟨_, List.getElem?_eq_getElem (by omega)⟩
      rw [bk_some hy]
      exact (hq.ne hy).symm
  · -- a node that stays: its old place is i or i + 1
    have stay : ∀ (i : Nat) (y : QN), i ≠ j → L[i]? = some y → ((w.setCell ⟨bk Q L j, 4, none⟩ (.pointer (some ⟨bk Q L (j + 2), 0, none⟩))).setCell ⟨bk Q L (j + 2), 5, none⟩ (.pointer (some ⟨bk Q L j, 0, none⟩))).heap[y.g]? = some (.cells #[.int .i64 y.t, .int .i64 y.k, .int .i64 y.o, .int .u32 (y.m : Int), .pointer (some ⟨if i + 1 = j then bk Q L (j + 2) else bk Q L (i + 2), 0, none⟩), .pointer (some ⟨if i = j + 1 then bk Q L j else bk Q L i, 0, none⟩)] 59 (0, 0)) := by
      intro i y hij hy
      have hn := hq.node i y hy
      have s1 : (w.setCell ⟨bk Q L j, 4, none⟩ (.pointer (some ⟨bk Q L (j + 2), 0, none⟩))).heap[y.g]? = some (.cells #[.int .i64 y.t, .int .i64 y.k, .int .i64 y.o, .int .u32 (y.m : Int), .pointer (some ⟨if i + 1 = j then bk Q L (j + 2) else bk Q L (i + 2), 0, none⟩), .pointer (some ⟨bk Q L i, 0, none⟩)] 59 (0, 0)) := by
        by_cases h0 : i + 1 = j
        · rw [if_pos h0]
          have : bk Q L j = y.g := by rw [← h0]; exact bk_some hy
          rw [this]
          exact heap_set4 hn _
        · rw [if_neg h0]
          exact heap_other hn (node_blocks hq hy (by omega)) _
      by_cases h0 : i = j + 1
      · rw [if_pos h0]
        have : bk Q L (j + 2) = y.g := by rw [show j + 2 = i + 1 by omega]; exact bk_some hy
        rw [this] at s1 ⊢
        exact heap_set5 s1 _
      · rw [if_neg h0]
        exact heap_other s1 (node_blocks (j := j + 2) hq hy (by omega)) _
    intro i y hi
    rcases Nat.lt_or_ge i j with h1 | h1
    · rw [erase_lt h1] at hi
      have s := stay i y (by omega) hi
      rw [if_neg (by omega : ¬ i = j + 1)] at s
      rw [bk_erase_le (by omega : i ≤ j)]
      by_cases h2 : i + 1 = j
      · rw [if_pos h2] at s
        rw [bk_erase_gt (by omega : j < i + 2), show i + 2 + 1 = j + 2 by omega]
        exact s
      · rw [if_neg h2] at s
        rw [bk_erase_le (by omega : i + 2 ≤ j)]
        exact s
    · rw [erase_ge h1] at hi
      have s := stay (i + 1) y (by omega) hi
      rw [if_neg (by omega : ¬ i + 1 + 1 = j)] at s
      rw [bk_erase_gt (by omega : j < i + 2)]
      by_cases h2 : i = j
      · rw [if_pos (by omega : i + 1 = j + 1)] at s
        rw [bk_erase_le (by omega : i ≤ j)]
        rw [h2] at s ⊢
        exact s
      · rw [if_neg (by omega : ¬ i + 1 = j + 1)] at s
        rw [bk_erase_gt (by omega : j < i)]
        exact s
  · intro i k a b hi hk e
    have key : ∀ (i : Nat) (a : QN), (L.eraseIdx j)[i]? = some a → (i < j ∧ L[i]? = some a) ∨ (j ≤ i ∧ L[i + 1]? = some a) := by
      intro i a hi
      rcases Nat.lt_or_ge i j with h1 | h1
      · rw [erase_lt h1] at hi; exact .inl ⟨h1, hi⟩
      · rw [erase_ge h1] at hi; exact .inr ⟨h1, hi⟩
    rcases key i a hi with ⟨h1, h2⟩ | ⟨h1, h2⟩ <;> rcases key k b hk with ⟨h3, h4⟩ | ⟨h3, h4⟩
    · exact hq.inj _ _ a b h2 h4 e
    · have := hq.inj _ _ a b h2 h4 e; omega
    · have := hq.inj _ _ a b h2 h4 e; omega
    · have := hq.inj _ _ a b h2 h4 e; omega
end Go.Proofs.Ytdbplamhpkahaaa
