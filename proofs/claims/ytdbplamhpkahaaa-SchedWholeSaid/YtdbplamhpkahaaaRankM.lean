import Derived.Test.YtdbplamhpkahaaaWordMath
namespace Go.Proofs.Ytdbplamhpkahaaa
set_option linter.unusedVariables false
set_option linter.unusedSimpArgs false
/-- No more different numbers below n than n. -/
theorem nodup_le : ∀ (n : Nat) (l : List Nat), l.Nodup → (∀ x, x ∈ l → x < n) → l.length ≤ n
  | 0, [], _, _ => Nat.le_refl _
  | 0, x :: l, _, h => absurd (h x (by simp)) (by omega)
  | n + 1, l, hn, h => by
    have h1 := nodup_le n (l.filter (fun x => x != n)) (hn.filter _) (fun x hx => by
      have := List.mem_filter.1 hx
      have h2 := h x this.1
      have h3 : x ≠ n := by simpa using this.2
      omega)
    have h2 : l.length ≤ (l.filter (fun x => x != n)).length + 1 := by
      clear h h1
      induction l with
      | nil => simp
      | cons a l ih =>
        have hn' := List.nodup_cons.1 hn
        by_cases e : a = n
        · subst e
          have : l.filter (fun x => x != a) = l := List.filter_eq_self.2 (fun x hx => by
            have : x ≠ a := fun e => hn'.1 (e ▸ hx)
            simpa using this)
          simp [this]
        · have h3 : (a :: l).filter (fun x => x != n) = a :: l.filter (fun x => x != n) := by simp [e]
          rw [h3]
          have := ih hn'.2
          simp only [List.length_cons]
          omega
    omega
theorem filter_eraseIdx : ∀ (l : List Nat) (k t : Nat), l.Nodup → l[k]? = some t → l.filter (fun x => x != t) = l.eraseIdx k
  | [], k, t, _, h => by simp at h
  | a :: l, 0, t, hn, h => by
    have e : a = t := by simpa using h
    subst e
    have hn' := List.nodup_cons.1 hn
    have : l.filter (fun x => x != a) = l := List.filter_eq_self.2 (fun x hx => by
      have : x ≠ a := fun e => hn'.1 (e ▸ hx)
      simpa using this)
    simp [this]
  | a :: l, k + 1, t, hn, h => by
    have hn' := List.nodup_cons.1 hn
    have h1 : l[k]? = some t := by simpa using h
    have e : a ≠ t := fun e => hn'.1 (e ▸ List.mem_of_getElem? h1)
    have h3 : (a :: l).filter (fun x => x != t) = a :: l.filter (fun x => x != t) := by simp [e]
    rw [h3, filter_eraseIdx l k t hn'.2 h1]
    rfl
theorem filter_notMem (l : List Nat) (t : Nat) (h : t ∉ l) : l.filter (fun x => x != t) = l :=
  List.filter_eq_self.2 (fun x hx => by
    have : x ≠ t := fun e => h (e ▸ hx)
    simpa using this)
/-- What the cells of a rank say of its rows: the tasks of each priority, in order. -/
structure RkOk (X : Nat → Nat → Int) (m pr : Nat → Nat) (bs : Nat) (L : Nat → List Nat) : Prop where
  len : ∀ p, p < 32 → m p = (L p).length
  row : ∀ p i t : Nat, p < 32 → (L p)[i]? = some t → X p i = (t : Int)
  nd : ∀ p, p < 32 → (L p).Nodup
  mem : ∀ p t, p < 32 → (t ∈ L p ↔ t < 16 ∧ pr t = p + 1)
  small : ∀ t, t < 16 → pr t ≤ 32
  lt : bs < 4294967296
  bit : ∀ p, p < 32 → bs.testBit p = !(L p).isEmpty
section
variable {X : Nat → Nat → Int} {m pr : Nat → Nat} {bs : Nat} {L : Nat → List Nat}
theorem RkOk.le (h : RkOk X m pr bs L) (p : Nat) (hp : p < 32) : (L p).length ≤ 16 :=
  nodup_le 16 _ (h.nd p hp) fun x hx => ((h.mem p x hp).1 hx).1
theorem RkOk.less (h : RkOk X m pr bs L) (p t : Nat) (hp : p < 32) (ht : t < 16) (h0 : pr t = 0) : (L p).length < 16 := by
  have hm : t ∉ L p := fun hm => by have := ((h.mem p t hp).1 hm).2; omega
  have := nodup_le 16 (t :: L p) (List.nodup_cons.2 ⟨hm, h.nd p hp⟩) fun x hx => by
    rcases List.mem_cons.1 hx with rfl | hx
    · exact ht
    · exact ((h.mem p x hp).1 hx).1
  simp at this; omega
theorem RkOk.add (h : RkOk X m pr bs L) (p t : Nat) (hp : p < 32) (ht : t < 16) (h0 : pr t = 0) :
    RkOk (fun q j => if q = p ∧ j = m p then (t : Int) else X q j) (fun q => if q = p then m p + 1 else m q) (fun q => if q = t then p + 1 else pr q) (setB bs (p : Int)) (fun q => if q = p then L p ++ [t] else L q) := by
  have hm : ∀ q, q < 32 → t ∉ L q := fun q hq hm => by have := ((h.mem q t hq).1 hm).2; omega
  have hl := h.len p hp
  refine ⟨fun q hq => ?_, fun q i u hq hi => ?_, fun q hq => ?_, fun q u hq => ?_, fun u hu => ?_, setB_lt h.lt _, fun q hq => ?_⟩
  · by_cases e : q = p
    · subst e
      simp [hl]
    · simp only [if_neg e]; exact h.len q hq
  · by_cases e : q = p
    · subst e
      simp only [if_pos] at hi
      by_cases e2 : i = m q
      · simp only [e2, and_self, if_pos]
        rw [e2, hl, List.getElem?_append_right (Nat.le_refl _)] at hi
        simp at hi
        rw [hi]
      · simp only [e2, and_false, if_false]
        rcases Nat.lt_or_ge i (L q).length with h1 | h1
        · rw [List.getElem?_append_left h1] at hi
          exact h.row q i u hq hi
        · rw [List.getElem?_eq_none (by simp; omega)] at hi; cases hi
    · simp only [if_neg e] at hi
      simp only [e, false_and, if_false]
      exact h.row q i u hq hi
  · by_cases e : q = p
    · subst e
      simp only [if_pos]
      exact List.nodup_append.2 ⟨h.nd q hq, by simp, fun a ha b hb => by
        have : b = t := by simpa using hb
        rintro rfl
        exact hm q hq (this ▸ ha)⟩
    · simp only [if_neg e]; exact h.nd q hq
  · by_cases e : q = p
    · subst e
      simp only [if_pos, List.mem_append, List.mem_singleton]
      by_cases e2 : u = t
      · subst e2; simp [ht]
      · simp only [e2, or_false, if_neg e2]; exact h.mem q u hq
    · simp only [if_neg e]
      by_cases e2 : u = t
      · subst e2
        simp only [if_pos]
        exact ⟨fun hh => absurd hh (hm q hq), fun hh => by omega⟩
      · simp only [if_neg e2]; exact h.mem q u hq
  · by_cases e2 : u = t
    · simp only [if_pos e2]; omega
    · simp only [if_neg e2]; exact h.small u hu
  · rw [setB_testBit]
    by_cases e : q = p
    · subst e
      simp [hq]
    · have : ¬ ((q : Int) = (p : Int) ∧ q < 32) := by omega
      simp only [if_neg e, decide_eq_false this, Bool.or_false]
      exact h.bit q hq
/-- A task taken out: what the row's cells then hold. -/
theorem RkOk.remove (h : RkOk X m pr bs L) (p t k : Nat) (hp : p < 32) (hk : (L p)[k]? = some t) :
    RkOk (fun q j => if q = p ∧ k ≤ j ∧ j + 1 < m p then X p (j + 1) else X q j) (fun q => if q = p then m p - 1 else m q) (fun q => if q = t then 0 else pr q) (if m p - 1 = 0 then clrB bs (p : Int) else bs) (fun q => (L q).filter (fun x => x != t)) := by
  have hm := (h.mem p t hp).1 (List.mem_of_getElem? hk)
  have ho : ∀ q, q < 32 → q ≠ p → t ∉ L q := fun q hq hne hm2 => by have := ((h.mem q t hq).1 hm2).2; omega
  have he := filter_eraseIdx (L p) k t (h.nd p hp) hk
  have hkl : k < (L p).length := by
    rcases Nat.lt_or_ge k (L p).length with h1 | h1
    · exact h1
    · rw [List.getElem?_eq_none h1] at hk; cases hk
  have hlen : ((L p).filter (fun x => x != t)).length = (L p).length - 1 := by rw [he, List.length_eraseIdx, if_pos hkl]
  have hl := h.len p hp
  refine ⟨fun q hq => ?_, fun q i u hq hi => ?_, fun q hq => (h.nd q hq).filter _, fun q u hq => ?_, fun u hu => ?_, ?_, fun q hq => ?_⟩
  · by_cases e : q = p
    · subst e
      simp only [if_pos]
      rw [hlen, hl]
    · simp only [if_neg e, filter_notMem _ _ (ho q hq e)]; exact h.len q hq
  · by_cases e : q = p
    · subst e
      simp only [true_and]
      simp only [he, List.getElem?_eraseIdx] at hi
      by_cases h1 : i < k
      · rw [if_pos h1] at hi
        rw [if_neg (by omega)]
        exact h.row q i u hq hi
      · rw [if_neg h1] at hi
        have h2 : i + 1 < (L q).length := by
          rcases Nat.lt_or_ge (i + 1) (L q).length with h1 | h1
          · exact h1
          · rw [List.getElem?_eq_none h1] at hi; cases hi
        rw [if_pos ⟨by omega, by omega⟩]
        exact h.row q (i + 1) u hq hi
    · simp only [filter_notMem _ _ (ho q hq e)] at hi
      simp only [e, false_and, if_false]
      exact h.row q i u hq hi
  · simp only [List.mem_filter, h.mem q u hq]
    by_cases e2 : u = t
    · subst e2; simp
    · simp [e2]
  · by_cases e2 : u = t
    · simp only [if_pos e2]; omega
    · simp only [if_neg e2]; exact h.small u hu
  · split
    · exact clrB_lt h.lt _
    · exact h.lt
  · by_cases e : q = p
    · subst e
      by_cases h1 : m q - 1 = 0
      · have h2 : (L q).filter (fun x => x != t) = [] := List.eq_nil_of_length_eq_zero (by omega)
        rw [if_pos h1, h2, clrB_testBit h.lt]
        simp
      · rw [if_neg h1, h.bit q hq]
        have h2 : ((L q).filter (fun x => x != t)).isEmpty = false := by
          rw [List.isEmpty_eq_false_iff]
          intro h3
          rw [h3] at hlen
          simp at hlen
          omega
        have h3 : (L q).isEmpty = false := by
          rw [List.isEmpty_eq_false_iff]
          intro h3
          rw [h3] at hkl
          simp at hkl
        rw [h2, h3]
    · simp only [filter_notMem _ _ (ho q hq e)]
      rw [← h.bit q hq]
      split
      · rw [clrB_testBit h.lt]
        have : ¬ ((q : Int) = (p : Int)) := by omega
        simp [this]
      · rfl
/-- The rows of the priorities from 31 down to p, one behind the other. -/
def flat (L : Nat → List Nat) (p : Nat) : List Nat := ((List.range (32 - p)).map fun i => L (31 - i)).flatten
theorem flat_top (L : Nat → List Nat) : flat L 32 = [] := by simp [flat]
theorem flat_down (L : Nat → List Nat) (p : Nat) (hp : p < 32) : flat L p = flat L (p + 1) ++ L p := by
  unfold flat
  rw [show 32 - p = (32 - (p + 1)) + 1 by omega, List.range_succ, List.map_append, List.flatten_append]
  rw [show List.map (fun i => L (31 - i)) [32 - (p + 1)] = [L p] by simp only [List.map_cons, List.map_nil]; rw [show 31 - (32 - (p + 1)) = p by omega]]
  simp
theorem flat_same (L : Nat → List Nat) (p : Nat) : ∀ n, p + n ≤ 32 → (∀ q, p ≤ q → q < p + n → L q = []) → flat L p = flat L (p + n)
  | 0, _, _ => rfl
  | n + 1, h, he => by
    rw [flat_down L p (by omega), he p (Nat.le_refl _) (by omega), List.append_nil]
    have := flat_same L (p + 1) n (by omega) fun q h1 h2 => he q (by omega) (by omega)
    rw [this]
    congr 1
    omega
theorem mem_flat (L : Nat → List Nat) (p t : Nat) : t ∈ flat L p ↔ ∃ q, p ≤ q ∧ q < 32 ∧ t ∈ L q := by
  unfold flat
  simp only [List.mem_flatten, List.mem_map, List.mem_range]
  constructor
  · rintro ⟨l, ⟨i, hi, rfl⟩, ht⟩
    exact ⟨31 - i, by omega, by omega, ht⟩
  · rintro ⟨q, h1, h2, ht⟩
    exact ⟨L q, ⟨31 - q, by omega, by rw [show 31 - (31 - q) = q by omega]⟩, ht⟩
theorem flat_len (L : Nat → List Nat) (h : ∀ p, p < 32 → (L p).length ≤ 16) : ∀ n p, p + n = 32 → (flat L p).length ≤ n * 16
  | 0, p, hp => by
    obtain rfl : p = 32 := by omega
    simp [flat_top]
  | n + 1, p, hp => by
    rw [flat_down L p (by omega), List.length_append]
    have := flat_len L h n (p + 1) (by omega)
    have := h p (by omega)
    omega
end
theorem flat_pre (L : Nat → List Nat) : ∀ n q, q + n ≤ 32 → ∃ s, flat L q = flat L (q + n) ++ s
  | 0, q, _ => ⟨[], by simp⟩
  | n + 1, q, h => by
    obtain ⟨s, hs⟩ := flat_pre L n (q + 1) (by omega)
    refine ⟨s ++ L q, ?_⟩
    rw [flat_down L q (by omega), hs, List.append_assoc]
    congr 2
    omega
theorem RkOk.empty {X : Nat → Nat → Int} {m pr : Nat → Nat} {L : Nat → List Nat} (h : RkOk X m pr 0 L) : flat L 0 = [] := by
  have := flat_same L 0 32 (by omega) fun q _ hq => by
    have := h.bit q (by omega)
    simpa using this
  rw [this, flat_top]
/-- The rows that are looked at next: the highest one that has tasks, and none between. -/
theorem RkOk.next {X : Nat → Nat → Int} {m pr : Nat → Nat} {bs : Nat} {L : Nat → List Nat} (h : RkOk X m pr bs L) (rest q : Nat) (hq : q ≤ 32) (hr : rest < 4294967296) (h0 : rest ≠ 0) (hs : ∀ j, rest.testBit j = (bs.testBit j && decide (j < q))) :
    ∃ p, Lib.bitLen rest = p + 1 ∧ p < q ∧ L p ≠ [] ∧ flat L q = flat L (p + 1) ∧ (∀ j, (clrB rest (p : Int)).testBit j = (bs.testBit j && decide (j < p))) ∧ clrB rest (p : Int) < rest := by
  obtain ⟨h1, h2, h3, h4⟩ := high_spec hr h0
  obtain ⟨p, hp⟩ : ∃ p, Lib.bitLen rest = p + 1 := ⟨Lib.bitLen rest - 1, by omega⟩
  rw [hp] at h3 h4 h2
  have h5 : rest.testBit p = true := h3
  have h6 := hs p
  rw [h5] at h6
  have h7 : bs.testBit p = true ∧ p < q := by simpa using h6.symm
  refine ⟨p, hp, h7.2, ?_, ?_, fun j => ?_, ?_⟩
  · have := h.bit p (by omega)
    rw [h7.1] at this
    intro e
    rw [e] at this
    simp at this
  · have := flat_same L (p + 1) (q - (p + 1)) (by omega) fun j h8 h9 => by
      have h10 := h4 j (by omega)
      rw [hs j, decide_eq_true (by omega : j < q), Bool.and_true] at h10
      have := h.bit j (by omega)
      rw [h10] at this
      simpa using this.symm
    rw [this]
    congr 1
    omega
  · rw [clrB_testBit hr, hs j]
    by_cases h8 : j < p
    · have : ¬ ((j : Int) = (p : Int)) := by omega
      simp [h8, this]
      omega
    · by_cases h9 : j = p
      · subst h9; simp
      · have := h4 j (by omega)
        rw [hs j] at this
        rw [this]
        simp [h8]
  · have h8 : clrB rest (p : Int) ≤ rest := Nat.and_le_left
    have h9 : clrB rest (p : Int) ≠ rest := fun e => by
      have h10 := clrB_testBit hr (p : Int) p
      rw [e, h5] at h10
      simp at h10
    omega
/-- Who is first: by the word, and by the list. -/
theorem RkOk.first {X : Nat → Nat → Int} {m pr : Nat → Nat} {bs : Nat} {L : Nat → List Nat} (h : RkOk X m pr bs L) (h0 : bs ≠ 0) :
    ∃ p t, Lib.bitLen bs = p + 1 ∧ p < 32 ∧ X p 0 = ((t : Nat) : Int) ∧ t < 16 ∧ (flat L 0).head? = some t := by
  obtain ⟨p, hp, hlt, hne, hf, _, _⟩ := h.next bs 32 (Nat.le_refl _) h.lt h0 fun j => by
    by_cases hj : j < 32
    · simp [hj]
    · rw [testBit_ge h.lt (by omega)]; simp
  obtain ⟨s, hs⟩ := flat_pre L p 0 (by omega)
  rw [flat_top] at hf
  rw [Nat.zero_add, flat_down L p hlt, ← hf, List.nil_append] at hs
  cases hL : L p with
  | nil => exact absurd hL hne
  | cons t l =>
    refine ⟨p, t, hp, hlt, h.row p 0 t hlt (by rw [hL]; rfl), ((h.mem p t hlt).1 (by rw [hL]; simp)).1, ?_⟩
    rw [hs, hL]
    rfl
end Go.Proofs.Ytdbplamhpkahaaa
