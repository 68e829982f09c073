import Derived.Test.YtfniicgfnlklbabDeltaRelB
namespace Go.Proofs.Ytfniicgfnlklbab
open Go.ChangeShapes Go.WideShapes Go.ChangeAt Go.RowKit
set_option linter.unusedVariables false
set_option linter.unusedSimpArgs false
/-- Where a task stands in the document's row, or that it doesn't. -/
theorem d_find (R : List (Int × Nat)) (t : Int) : (∀ a, a ∈ R → a.1 ≠ t) ∨ ∃ (q : Nat) (y : Int × Nat), R[q]? = some y ∧ y.1 = t ∧ ∀ (i : Nat) (a : Int × Nat), i < q → R[i]? = some a → a.1 ≠ t := by
  induction R with
  | nil => exact .inl fun a ha => by cases ha
  | cons x R ih =>
    by_cases e : x.1 = t
    · exact .inr ⟨0, x, rfl, e, fun i a hi => by omega⟩
    · rcases ih with h | ⟨q, y, h1, h2, h3⟩
      · exact .inl fun a ha => by
          rcases List.mem_cons.1 ha with rfl | ha
          · exact e
          · exact h a ha
      · refine .inr ⟨q + 1, y, by simpa using h1, h2, fun i a hi ha => ?_⟩
        rcases i with _ | i
        · have : x = a := by simpa using ha
          rw [← this]
          exact e
        · exact h3 i a (by omega) (by simpa using ha)
theorem eraseP_filter : ∀ (R : List (Int × Nat)) (q : Nat) (y : Int × Nat), (R.map (·.1)).Nodup → R[q]? = some y → R.eraseIdx q = R.filter (fun a => a.1 != y.1)
  | [], q, y, _, h => by simp at h
  | a :: R, 0, y, hn, h => by
    have e : a = y := by simpa using h
    subst e
    have hn' := List.nodup_cons.1 hn
    have : R.filter (fun x => x.1 != a.1) = R := List.filter_eq_self.2 (fun x hx => by
      have : x.1 ≠ a.1 := fun e => hn'.1 (List.mem_map.2 ⟨x, hx, e⟩)
      simpa using this)
    simp [this]
  | a :: R, q + 1, y, hn, h => by
    have hn' := List.nodup_cons.1 hn
    have h1 : R[q]? = some y := by simpa using h
    have e : a.1 ≠ y.1 := fun e => hn'.1 (List.mem_map.2 ⟨y, List.mem_of_getElem? h1, e.symm⟩)
    have h3 : (a :: R).filter (fun x => x.1 != y.1) = a :: R.filter (fun x => x.1 != y.1) := by simp [e]
    rw [h3, ← eraseP_filter R q y hn'.2 h1]
    rfl
/-- The document's row says how many ticks are left to each task. -/
structure Says (T : Int → Nat) (R : List (Int × Nat)) : Prop where
  val : ∀ a, a ∈ R → T a.1 = a.2 ∧ 0 < a.2
  all : ∀ t, T t ≠ 0 → ∃ x, (t, x) ∈ R
  nd : (R.map (·.1)).Nodup
  lt : ∀ t, T t < 4294967296
  few : R.length ≤ 100
theorem Says.no {T : Int → Nat} {R : List (Int × Nat)} (h : Says T R) {t : Int} (ht : ∀ a, a ∈ R → a.1 ≠ t) : T t = 0 := by
  rcases Nat.eq_zero_or_pos (T t) with h0 | h0
  · exact h0
  · obtain ⟨x, hx⟩ := h.all t (by omega)
    exact absurd rfl (ht _ hx)
section
variable (T : Int → Nat) (A : Option Addr) (c : Nat) (R : List (Int × Nat)) (w : World)
theorem doc24_left (h : LP w A c R) (hs : Says T R) (t : Int) :
    Calls Try.prog 15 #[.agg #[.slice A R.length c], .int .i64 t] w fun e w' => e = .returned (.tuple #[.int .u32 (T t : Int), .bool (decide (T t ≠ 0))]) ∧ Keeps (fun _ => False) w w' := by
  have hf := hs.few
  rcases d_find R t with hn | ⟨q, y, h1, h2, h3⟩
  · rw [hs.no hn, decide_eq_false (by omega)]
    exact rleft_no A R.length c (pL R) (xL R) t w (by omega) h.rrow (pL_ne hn)
  · have hv := hs.val y (List.mem_of_getElem? h1)
    have hlt := hs.lt t
    have hq : q < R.length := (List.getElem?_eq_some_iff.1 h1).1
    rw [h2] at hv
    have ex : xL R q = T t := by unfold xL; rw [h1]; exact hv.1.symm
    rw [decide_eq_true (by omega), ← ex]
    exact rleft_yes A R.length c (pL R) (xL R) t w (by omega) q hq h.rrow (pL_lt hq h3) (pL_at h1 h2) (by omega)
theorem doc24_add (h : LP w A c R) (hs : Says T R) (t : Int) (x : Nat) (hx : x < 4294967296) :
    Calls Try.prog 8 #[.agg #[.slice A R.length c], .int .i64 t, .int .u32 (x : Int)] w fun e w' => ∃ A' c', e = .returned (.tuple #[.agg #[.slice A' (if T t = 0 ∧ (0 ≤ t ∧ t < 16) ∧ 0 < x then R ++ [(t, x)] else R).length c'], .bool (decide (T t = 0 ∧ (0 ≤ t ∧ t < 16) ∧ 0 < x))]) ∧ LP w' A' c' (if T t = 0 ∧ (0 ≤ t ∧ t < 16) ∧ 0 < x then R ++ [(t, x)] else R) ∧ (A' = A ∨ ∀ b off, A' = some ⟨b, off, none⟩ → w.heap.size ≤ b) ∧ Keeps (fun _ => False) w w' := by
  have hf := hs.few
  by_cases hc : T t = 0 ∧ (0 ≤ t ∧ t < 16) ∧ 0 < x
  · rw [if_pos hc, decide_eq_true hc]
    have hn : ∀ a, a ∈ R → a.1 ≠ t := fun a ha e => by
      have := hs.val a ha
      rw [e] at this
      omega
    refine (radd_list A c R w t x (by omega) h hn ⟨hc.2.1, hc.2.2, hx⟩).mono ?_
    rintro e w' ⟨A', c', rfl, hp, hfa, k⟩
    exact ⟨A', c', rfl, hp, .inr hfa, k⟩
  · rw [if_neg hc, decide_eq_false hc]
    have out : ∀ {e : Ending} {w' : World}, (e = .returned (.tuple #[.agg #[.slice A R.length c], .bool false]) ∧ Keeps (fun _ => False) w w') → ∃ A' c', e = .returned (.tuple #[.agg #[.slice A' R.length c'], .bool false]) ∧ LP w' A' c' R ∧ (A' = A ∨ ∀ b off, A' = some ⟨b, off, none⟩ → w.heap.size ≤ b) ∧ Keeps (fun _ => False) w w' := by
      rintro e w' ⟨rfl, k⟩
      exact ⟨A, c, rfl, h.none k, .inl rfl, k⟩
    by_cases h1 : t < 0
    · exact (radd_lo A R.length c (pL R) (xL R) t x w h1).mono fun e w' hh => out hh
    · by_cases h2 : 15 < t
      · exact (radd_hi A R.length c (pL R) (xL R) t x w h2).mono fun e w' hh => out hh
      · by_cases h3 : x = 0
        · exact (radd_zero A R.length c (pL R) (xL R) t x w ⟨by omega, by omega⟩ h3).mono fun e w' hh => out hh
        · rcases d_find R t with hn | ⟨q, y, g1, g2, g3⟩
          · exact absurd ⟨hs.no hn, ⟨by omega, by omega⟩, by omega⟩ hc
          · have hq : q < R.length := (List.getElem?_eq_some_iff.1 g1).1
            exact (radd_in A R.length c (pL R) (xL R) t x w (by omega) q hq h.rrow (pL_lt hq g3) (pL_at g1 g2) ⟨by omega, by omega⟩ (by omega)).mono fun e w' hh => out hh
theorem doc24_rem (h : LP w A c R) (hs : Says T R) (t : Int) :
    Calls Try.prog 10 #[.agg #[.slice A R.length c], .int .i64 t] w fun e w' => ∃ A' c', e = .returned (.tuple #[.agg #[.slice A' (R.filter fun a => a.1 != t).length c'], .int .u32 (T t : Int), .bool (decide (T t ≠ 0))]) ∧ LP w' A' c' (R.filter fun a => a.1 != t) ∧ (A' = A ∨ ∀ b off, A' = some ⟨b, off, none⟩ → w.heap.size ≤ b) ∧ Keeps (fun _ => False) w w' := by
  have hf := hs.few
  rcases d_find R t with hn | ⟨q, y, h1, h2, h3⟩
  · have e : (R.filter fun a => a.1 != t) = R := List.filter_eq_self.2 fun a ha => by simpa using hn a ha
    rw [e, hs.no hn, decide_eq_false (by omega)]
    refine (rrem_no A R.length c (pL R) (xL R) t w (by omega) h.rrow (pL_ne hn)).mono ?_
    rintro e w' ⟨rfl, k⟩
    exact ⟨A, c, rfl, h.none k, .inl rfl, k⟩
  · have hv := hs.val y (List.mem_of_getElem? h1)
    have hlt := hs.lt t
    rw [h2] at hv
    have e : (R.filter fun a => a.1 != t) = R.eraseIdx q := by rw [eraseP_filter R q y hs.nd h1, h2]
    rw [e, decide_eq_true (by omega), hv.1]
    refine (rrem_list A c R w t (by omega) h q y h1 h2 h3 (by omega)).mono ?_
    rintro e w' ⟨A', c', rfl, hp, hfa, k⟩
    exact ⟨A', c', rfl, hp, .inr hfa, k⟩
end
end Go.Proofs.Ytfniicgfnlklbab
