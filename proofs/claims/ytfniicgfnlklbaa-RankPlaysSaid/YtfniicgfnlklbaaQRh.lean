import Derived.Test.YtfniicgfnlklbaaQRg
namespace Go.Proofs.Ytfniicgfnlklbaa
open Go.ChangeShapes Go.WideShapes Go.ChangeAt Go.RowKit
set_option linter.unusedVariables false
set_option linter.unusedSimpArgs false
section
variable (s : RkT) (A : Option Addr) (c : Nat) (R : List (Nat × Nat)) (w : World)
theorem doc_add (h : QR w A c R) (hr : RelQ s R) (hm : ∀ p t, p < 32 → (t ∈ s.1 p ↔ t < 16 ∧ s.2 t = p + 1)) (hs : ∀ t, t < 16 → s.2 t ≤ 32) (t p : Int) :
    Calls Try.prog 8 #[.agg #[.slice A R.length c], .int .i64 t, .int .i64 p] w fun e w' => ∃ A' c' R', e = .returned (.tuple #[.agg #[.slice A' R'.length c'], .bool (canAdd s.2 t p)]) ∧ QR w' A' c' R' ∧ RelQ (addT s t p) R' ∧ (A' = A ∨ ∀ b off, A' = some ⟨b, off, none⟩ → w.heap.size ≤ b) ∧ Keeps (fun _ => False) w w' := by
  have hl := hr.len
  have hiff := rel_canAdd hr hm hs t p
  rcases hc : canAdd s.2 t p with _ | _
  · have hno : addT s t p = s := by unfold addT; rw [hc]; rfl
    rw [hno]
    have hno2 : ¬ (((0 ≤ t ∧ t < 16) ∧ (0 ≤ p ∧ p < 32)) ∧ ∀ a, a ∈ R → (a.1 : Int) ≠ t) := fun hh => by rw [hiff.2 hh] at hc; cases hc
    by_cases hb : (0 ≤ t ∧ t < 16) ∧ (0 ≤ p ∧ p < 32)
    · rcases q_find R t with hf | ⟨q, y, h1, h2, h3⟩
      · exact absurd ⟨hb, hf⟩ hno2
      · refine (qadd_in A c R w t p (by omega) h q y h1 h2 h3 hb).mono ?_
        rintro e w' ⟨rfl, k⟩
        exact ⟨A, c, R, rfl, h.none k, hr, .inl rfl, k⟩
    · refine (qadd_out A c R w t p hb).mono ?_
      rintro e w' ⟨rfl, k⟩
      exact ⟨A, c, R, rfl, h.none k, hr, .inl rfl, k⟩
  · obtain ⟨⟨h1, h2⟩, h3⟩ := hiff.1 hc
    obtain ⟨T, rfl⟩ := Int.eq_ofNat_of_zero_le h1.1
    obtain ⟨P, rfl⟩ := Int.eq_ofNat_of_zero_le h2.1
    refine (qadd_yes A c R w T P (by omega) h h3 ⟨by omega, by omega⟩).mono ?_
    rintro e w' ⟨A', c', rfl, hq, hf, k⟩
    exact ⟨A', c', _, rfl, hq, rel_add hr T P hc h3 ⟨by omega, by omega⟩, .inr hf, k⟩
theorem doc_rem (h : QR w A c R) (hr : RelQ s R) (hm : ∀ p t, p < 32 → (t ∈ s.1 p ↔ t < 16 ∧ s.2 t = p + 1)) (hs : ∀ t, t < 16 → s.2 t ≤ 32) (t : Int) :
    Calls Try.prog 10 #[.agg #[.slice A R.length c], .int .i64 t] w fun e w' => ∃ A' c' R', e = .returned (.tuple #[.agg #[.slice A' R'.length c'], .bool (canRem s.2 t)]) ∧ QR w' A' c' R' ∧ RelQ (remT s t) R' ∧ (A' = A ∨ ∀ b off, A' = some ⟨b, off, none⟩ → w.heap.size ≤ b) ∧ Keeps (fun _ => False) w w' := by
  have hl := hr.len
  rcases q_find R t with hf | ⟨q, y, h1, h2, h3⟩
  · have hc := rel_can_no hr hm hs t hf
    have hno : remT s t = s := by unfold remT; rw [hc]; rfl
    rw [hno, hc]
    refine (qrem_no A c R t w (by omega) h hf).mono ?_
    rintro e w' ⟨rfl, k⟩
    exact ⟨A, c, R, rfl, h.none k, hr, .inl rfl, k⟩
  · have hc := rel_canRem hr hm y (List.mem_of_getElem? h1)
    subst h2
    rw [hc.1]
    refine (qrem_yes A c R (y.1 : Int) w (by omega) h q y h1 rfl h3).mono ?_
    rintro e w' ⟨A', c', rfl, hq, hf, k⟩
    exact ⟨A', c', _, rfl, hq, (rel_rem hr q y h1 hc.1).1, .inr hf, k⟩
theorem doc_turn (h : QR w A c R) (hr : RelQ s R) (hm : ∀ p t, p < 32 → (t ∈ s.1 p ↔ t < 16 ∧ s.2 t = p + 1)) (hs : ∀ t, t < 16 → s.2 t ≤ 32) (t : Int) :
    Calls Try.prog 12 #[.agg #[.slice A R.length c], .int .i64 t] w fun e w' => ∃ A' c' R', e = .returned (.tuple #[.agg #[.slice A' R'.length c'], .bool (canRem s.2 t)]) ∧ QR w' A' c' R' ∧ RelQ (turnT s t) R' ∧ (A' = A ∨ ∀ b off, A' = some ⟨b, off, none⟩ → w.heap.size ≤ b) ∧ Keeps (fun _ => False) w w' := by
  have hl := hr.len
  rcases q_find R t with hf | ⟨q, y, h1, h2, h3⟩
  · have hc := rel_can_no hr hm hs t hf
    have hno : turnT s t = s := by unfold turnT; rw [hc]; rfl
    rw [hno, hc]
    refine (qturn_no A c R t w (by omega) h hf).mono ?_
    rintro e w' ⟨rfl, k⟩
    exact ⟨A, c, R, rfl, h.none k, hr, .inl rfl, k⟩
  · have hc := rel_canRem hr hm y (List.mem_of_getElem? h1)
    subst h2
    rw [hc.1]
    refine (qturn_yes A c R (y.1 : Int) w (by omega) h q y h1 rfl h3 (rel_rem hr q y h1 hc.1).2 (hr.bds y (List.mem_of_getElem? h1))).mono ?_
    rintro e w' ⟨A', c', rfl, hq, hf, k⟩
    exact ⟨A', c', _, rfl, hq, rel_turn hr hs q y h1 hc.1 hc.2, .inr hf, k⟩
theorem doc_prio (h : QR w A c R) (hr : RelQ s R) (hm : ∀ p t, p < 32 → (t ∈ s.1 p ↔ t < 16 ∧ s.2 t = p + 1)) (hs : ∀ t, t < 16 → s.2 t ≤ 32) (t : Int) :
    Calls Try.prog 16 #[.agg #[.slice A R.length c], .int .i64 t] w fun e w' => e = .returned (.tuple #[.int .i64 (prioT s t : Int), .bool (canRem s.2 t)]) ∧ Keeps (fun _ => False) w w' := by
  have hl := hr.len
  rcases q_find R t with hf | ⟨q, y, h1, h2, h3⟩
  · have hc := rel_can_no hr hm hs t hf
    have hp : prioT s t = 0 := by unfold prioT; rw [hc]; rfl
    rw [hp, hc]
    exact qprio_no A c R t w (by omega) h hf
  · have hc := rel_canRem hr hm y (List.mem_of_getElem? h1)
    subst h2
    rw [hc.1, hc.2]
    exact qprio_yes A c R (y.1 : Int) w (by omega) h q y h1 rfl h3
theorem doc_first (h : QR w A c R) (hr : RelQ s R) :
    Calls Try.prog 14 #[.agg #[.slice A R.length c]] w fun e w' => e = .returned (.tuple #[.int .i64 ((listT s).headD 0 : Int), .bool (!(listT s).isEmpty)]) ∧ Keeps (fun _ => False) w w' := by
  rw [hr.list]
  exact qfirst_any A c R w hr.len h
theorem doc_list (h : QR w A c R) (hr : RelQ s R) :
    Calls Try.prog 22 #[.agg #[.slice A R.length c]] w fun e w' => ∃ v, e = .returned v ∧ w'.ownsRow w.heap.size 3 1 v (listT s).length (ints (listT s)) ∧ Keeps (fun _ => False) w w' := by
  rw [hr.list]
  exact qlist_any A c R w hr.len h
end
/-- How many there are: by the list and by the document's row. -/
theorem rowsR_app (R S : List (Nat × Nat)) (p : Nat) : rowsR (R ++ S) p = rowsR R p ++ rowsR S p := by
  unfold rowsR
  rw [List.filter_append, List.map_append]
theorem flat_rows_len : ∀ R : List (Nat × Nat), (∀ a, a ∈ R → a.2 < 32) → (flat (rowsR R) 0).length = R.length
  | [], _ => by
    have : flat (rowsR []) 0 = [] := by
      have := flat_same (rowsR []) 0 32 (by omega) fun q _ _ => rfl
      rw [this, flat_top]
    rw [this]
    rfl
  | a :: R, h => by
    have ih := flat_rows_len R fun x hx => h x (List.mem_cons_of_mem _ hx)
    have ha := h a List.mem_cons_self
    rw [flat_split (rowsR (a :: R)) (a.2 + 1) (by omega), low_up]
    rw [flat_split (rowsR R) (a.2 + 1) (by omega), low_up] at ih
    have h1 : flat (rowsR (a :: R)) (a.2 + 1) = flat (rowsR R) (a.2 + 1) := flat_congr _ _ _ fun q h1 _ => by
      unfold rowsR
      rw [List.filter_cons_of_neg (by simp; omega)]
    have h2 : low (rowsR (a :: R)) a.2 = low (rowsR R) a.2 := low_congr _ _ _ fun q h1 => by
      unfold rowsR
      rw [List.filter_cons_of_neg (by simp; omega)]
    have h3 : rowsR (a :: R) a.2 = a.1 :: rowsR R a.2 := by
      unfold rowsR
      rw [List.filter_cons_of_pos (by simp), List.map_cons]
    rw [h1, h2, h3]
    simp only [List.length_append, List.length_cons] at ih ⊢
    omega
theorem RelQ.count {s : RkT} {R : List (Nat × Nat)} (h : RelQ s R) : (listT s).length = R.length := by
  rw [h.list]
  exact flat_rows_len R fun a ha => (h.bds a ha).2
end Go.Proofs.Ytfniicgfnlklbaa
