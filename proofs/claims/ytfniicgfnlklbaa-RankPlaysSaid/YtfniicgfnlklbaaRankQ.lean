import Derived.Test.YtfniicgfnlklbaaRankP
namespace Go.Proofs.Ytfniicgfnlklbaa
set_option linter.unusedVariables false
set_option linter.unusedSimpArgs false
/-- The rows of the priorities below p, the greatest first. -/
def low (L : Nat → List Nat) (p : Nat) : List Nat := ((List.range p).map fun i => L (p - 1 - i)).flatten
theorem low_up (L : Nat → List Nat) (p : Nat) : low L (p + 1) = L p ++ low L p := by
  unfold low
  rw [List.range_succ_eq_map, List.map_cons, List.flatten_cons, List.map_map]
  congr 1
  congr 1
  apply List.map_congr_left
  intro i _
  show L (p + 1 - 1 - (i + 1)) = L (p - 1 - i)
  congr 1
  omega
theorem flat_split (L : Nat → List Nat) : ∀ p, p ≤ 32 → flat L 0 = flat L p ++ low L p
  | 0, _ => by simp [low]
  | p + 1, h => by
    rw [flat_split L p (by omega), flat_down L p (by omega), low_up, List.append_assoc]
theorem low_congr (L L' : Nat → List Nat) (p : Nat) (h : ∀ q, q < p → L q = L' q) : low L p = low L' p := by
  unfold low
  congr 1
  apply List.map_congr_left
  intro i hi
  exact h _ (by have := List.mem_range.1 hi; omega)
theorem flat_congr (L L' : Nat → List Nat) (p : Nat) (h : ∀ q, p ≤ q → q < 32 → L q = L' q) : flat L p = flat L' p := by
  unfold flat
  congr 1
  apply List.map_congr_left
  intro i hi
  have := List.mem_range.1 hi
  exact h _ (by omega) (by omega)
theorem mem_low (L : Nat → List Nat) (p t : Nat) (h : t ∈ low L p) : ∃ q, q < p ∧ t ∈ L q := by
  unfold low at h
  obtain ⟨l, hl, ht⟩ := List.mem_flatten.1 h
  obtain ⟨i, hi, rfl⟩ := List.mem_map.1 hl
  have := List.mem_range.1 hi
  exact ⟨p - 1 - i, by omega, ht⟩
/-- Who is first turns: it stands behind the others of its priority then. -/
theorem turn_list (s : RkT) (hmem : ∀ p t, p < 32 → (t ∈ s.1 p ↔ t < 16 ∧ s.2 t = p + 1)) (hnd : ∀ p, p < 32 → (s.1 p).Nodup) (t0 : Nat) (ts : List Nat) (hl : listT s = t0 :: ts) :
    ∃ p tl rest, p < 32 ∧ s.1 p = t0 :: tl ∧ listT s = (t0 :: tl) ++ rest ∧ listT (turnT s (t0 : Int)) = (tl ++ [t0]) ++ rest ∧ (∀ x, x ∈ rest → ∃ q, q < p ∧ x ∈ s.1 q) ∧ canRem s.2 (t0 : Int) = true := by
  have h0 : t0 ∈ flat s.1 0 := by
    have : t0 ∈ listT s := by rw [hl]; simp
    exact this
  obtain ⟨p, _, hp, hin⟩ := (mem_flat s.1 0 t0).1 h0
  have hm := (hmem p t0 hp).1 hin
  have hother : ∀ q, q < 32 → q ≠ p → t0 ∉ s.1 q := fun q hq hne h => by have := ((hmem q t0 hq).1 h).2; omega
  have hs := flat_split s.1 (p + 1) (by omega)
  have hnil : flat s.1 (p + 1) = [] := by
    cases hf : flat s.1 (p + 1) with
    | nil => rfl
    | cons a l =>
      rw [hf] at hs
      have e : t0 :: ts = a :: l ++ low s.1 (p + 1) := by rw [← hl]; exact hs
      have e1 : t0 = a := by simpa using congrArg List.head? e
      have h2 : t0 ∈ flat s.1 (p + 1) := by rw [hf, e1]; simp
      obtain ⟨q, h3, h4, h5⟩ := (mem_flat s.1 (p + 1) t0).1 h2
      exact absurd h5 (hother q h4 (by omega))
  rw [hnil, low_up, List.nil_append] at hs
  cases hL : s.1 p with
  | nil => rw [hL] at hin; cases hin
  | cons a tl =>
    rw [hL] at hs
    have e : t0 :: ts = a :: tl ++ low s.1 p := by rw [← hl]; exact hs
    have e1 : t0 = a := by simpa using congrArg List.head? e
    subst e1
    have hc : canRem s.2 (t0 : Int) = true := decide_eq_true ⟨⟨by omega, by omega⟩, by rw [Int.toNat_natCast]; omega⟩
    have hpr : prioT s (t0 : Int) = p := by
      unfold prioT
      rw [if_pos hc, Int.toNat_natCast, hm.2]
      omega
    have hr : remT s (t0 : Int) = (remL s.1 t0, setP s.2 t0 0) := by
      unfold remT
      rw [if_pos hc, Int.toNat_natCast]
    have hca : canAdd (remT s (t0 : Int)).2 (t0 : Int) (p : Int) = true := by
      rw [hr]
      exact decide_eq_true ⟨⟨by omega, by omega⟩, ⟨by omega, by omega⟩, by simp [setP]⟩
    have ht : (turnT s (t0 : Int)).1 = addL (remL s.1 t0) p t0 := by
      unfold turnT
      rw [if_pos hc, hpr]
      unfold addT
      rw [if_pos hca, hr]
      simp only [Int.toNat_natCast]
    have hq : ∀ q, q < 32 → q ≠ p → addL (remL s.1 t0) p t0 q = s.1 q := fun q hq hne => by
      unfold addL remL
      rw [if_neg hne]
      exact filter_notMem _ _ (hother q hq hne)
    have hpp : addL (remL s.1 t0) p t0 p = tl ++ [t0] := by
      unfold addL remL
      rw [if_pos rfl, hL]
      have hn := hnd p hp
      rw [hL] at hn
      have hn' := List.nodup_cons.1 hn
      simp [filter_notMem tl t0 hn'.1]
    refine ⟨p, tl, low s.1 p, hp, hL, hs, ?_, fun x hx => mem_low s.1 p x hx, hc⟩
    unfold listT
    rw [ht, flat_split _ (p + 1) (by omega), low_up, hpp, low_congr _ s.1 p fun q hq' => hq q (by omega) (by omega), flat_congr _ s.1 (p + 1) fun q h1 h2 => hq q h2 (by omega), hnil]
    simp
theorem turn_at (t0 : Nat) (tl rest : List Nat) (i : Nat) (hi : i < tl.length + 1 + rest.length) :
    ((tl ++ [t0]) ++ rest).getD i 0 = if i < tl.length then ((t0 :: tl) ++ rest).getD (i + 1) 0 else if i = tl.length then t0 else ((t0 :: tl) ++ rest).getD i 0 := by
  simp only [List.getD_eq_getElem?_getD]
  by_cases h1 : i < tl.length
  · rw [if_pos h1, List.append_assoc, List.getElem?_append_left h1, List.cons_append, List.getElem?_cons_succ, List.getElem?_append_left h1]
  · rw [if_neg h1]
    by_cases h2 : i = tl.length
    · rw [if_pos h2, List.append_assoc, List.getElem?_append_right (by omega)]
      subst h2
      simp
    · rw [if_neg h2, List.getElem?_append_right (by simp; omega), List.getElem?_append_right (by simp; omega)]
      simp
/-- How many of the first ones have the priority of f. -/
def likes (F : Nat → Int) (f : Nat) (l : List Nat) : Nat := (l.filter fun x => decide (F x = F f)).length
theorem likes_step (F : Nat → Int) (f : Nat) (l : List Nat) (i t : Nat) (h : l[i]? = some t) : likes F f (l.take (i + 1)) = likes F f (l.take i) + (if F t = F f then 1 else 0) := by
  unfold likes
  rw [List.take_add_one, h, List.filter_append, List.length_append]
  by_cases e : F t = F f <;> simp [e]
theorem likes_le (F : Nat → Int) (f : Nat) (l : List Nat) : likes F f l ≤ l.length := List.length_filter_le _ _
theorem likes_all (F : Nat → Int) (n p t0 : Nat) (tl rest : List Nat) (hp : p < 32) (h1 : (rowsOf F n).1 p = t0 :: tl) (h2 : ∀ x, x ∈ rest → ∃ q, q < p ∧ x ∈ (rowsOf F n).1 q) : likes F t0 ((t0 :: tl) ++ rest) = tl.length + 1 := by
  have hf : F t0 = (p : Int) := ((mem_rowsOf F n p t0 hp).1 (by rw [h1]; simp)).2
  unfold likes
  rw [List.filter_append, List.length_append]
  have e1 : (t0 :: tl).filter (fun x => decide (F x = F t0)) = t0 :: tl := List.filter_eq_self.2 fun x hx => by
    have := ((mem_rowsOf F n p x hp).1 (by rw [h1]; exact hx)).2
    rw [decide_eq_true_eq, this, hf]
  have e2 : rest.filter (fun x => decide (F x = F t0)) = [] := List.filter_eq_nil_iff.2 fun x hx => by
    obtain ⟨q, hq, hx'⟩ := h2 x hx
    have := ((mem_rowsOf F n q x (by omega)).1 hx').2
    rw [decide_eq_true_eq, this, hf]
    omega
  rw [e1, e2]
  simp
end Go.Proofs.Ytfniicgfnlklbaa
