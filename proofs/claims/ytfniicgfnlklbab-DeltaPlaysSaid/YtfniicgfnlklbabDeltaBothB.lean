import Derived.Test.YtfniicgfnlklbabDeltaBoth
namespace Go.Proofs.Ytfniicgfnlklbab
open Go.ChangeShapes Go.WideShapes Go.ChangeAt Go.RowKit
set_option linter.unusedVariables false
set_option linter.unusedSimpArgs false
theorem nums_tk (L : List Nd) : ∀ k, k ≤ L.length → nums (tk L) k = intsL ((L.take k).map (·.t))
  | 0, _ => rfl
  | k + 1, h => by
    have hx : L[k]? = some L[k] := List.getElem?_eq_getElem (by omega)
    rw [← nums_snoc', nums_tk L k (by omega), List.take_add_one, hx, tk_some hx]
    unfold intsL
    rw [List.map_append, List.map_append]
    rfl
theorem sort_nums (R : List (Int × Nat)) : ((sortS R).map fun a => Value.int .i64 a.1) = nums (pL (sortS R)) R.length := by
  rw [← sortS_len R]
  apply List.ext_getElem?
  intro i
  rcases Nat.lt_or_ge i (sortS R).length with h | h
  · rw [nums_get _ _ _ h]
    have hx : (sortS R)[i]? = some (sortS R)[i] := List.getElem?_eq_getElem h
    have e1 : pL (sortS R) i = (sortS R)[i].1 := by unfold pL; rw [hx]
    rw [List.getElem?_map, hx, e1]
    rfl
  · rw [List.getElem?_eq_none (by simpa using h), List.getElem?_eq_none (by rw [nums_len]; exact h)]
theorem intsL_nums (l : List Int) : intsL l = nums (fun i => l.getD i 0) l.length := by
  apply List.ext_getElem?
  intro i
  rcases Nat.lt_or_ge i l.length with h | h
  · rw [nums_get _ _ _ h]
    simp [intsL, h]
  · rw [List.getElem?_eq_none (by simpa [intsL] using h), List.getElem?_eq_none (by rw [nums_len]; exact h)]
section
variable (W w : World) (D X m : Nat) (L : List Nd) (T : Int → Nat) (A : Option Addr) (c : Nat) (R : List (Int × Nat))
theorem bd_list (h : BD W w D X L T A c R) (hr : RelD L T R) (hl : L.length ≤ 1000) :
    Calls Try.prog 17 #[.pointer (some ⟨D, 0, none⟩)] w fun e w' => ∃ v, e = .returned v ∧ w'.ownsRow w.heap.size 3 1 v R.length ((sortS R).map fun a => .int .i64 a.1) ∧ Keeps (fun _ => False) w w' := by
  refine (dlist D L w h.is hl).mono fun e w' ⟨v, h1, h2, h3⟩ => ⟨v, h1, ?_, h3⟩
  rw [nums_tk L L.length (Nat.le_refl _), List.take_length, hr.list h.abs, hr.len h.abs] at h2
  unfold intsL at h2
  rw [List.map_map] at h2
  exact h2
theorem bd_rem (h : BD W w D X L T A c R) (hr : RelD L T R) (t : Int) :
    Calls Try.prog 9 #[.pointer (some ⟨D, 0, none⟩), .int .i64 t] w fun e w' => e = .returned (.tuple #[.int .u32 (T t : Int), .bool (decide (T t ≠ 0))]) ∧ ∃ L' T', BD W w' D X L' T' A c R ∧ RelD L' T' (R.filter fun a => a.1 != t) ∧ L'.length ≤ L.length := by
  by_cases h0 : T t = 0
  · rw [h0, decide_eq_false (by omega)]
    have e : (R.filter fun a => a.1 != t) = R := List.filter_eq_self.2 fun a ha => by simpa using hr.notIn h0 a ha
    rw [e]
    exact (drem_no D L t w h.is h.abs.lt (h.abs.no h0)).mono fun e w' ⟨h1, h2⟩ => ⟨h1, L, T, h.none h2, hr, Nat.le_refl _⟩
  · obtain ⟨k, a, ha, he, hfirst, hs⟩ := h.abs.yes h0
    rw [decide_eq_true h0, ← hs]
    refine (drem_yes D L t k a w h.is h.abs.lt h.abs.x_lt ⟨ha, he, hfirst⟩).mono fun e w' ⟨h1, h2⟩ => ⟨h1, ?_⟩
    obtain ⟨L', hI, hd, hk⟩ := h2
    have hA' := h.abs.del hI
    have hr' := hr.del h.abs hI hA'
    rw [he] at hr' hA'
    refine ⟨L', _, h.step hk hd hA' fun j hj => ?_, hr', by have := hI.len; omega⟩
    rcases hj with rfl | ⟨i, b, hb, rfl⟩
    · exact .inl (.inl rfl)
    · rcases hI.cases hb with ⟨c1, c2⟩ | ⟨rfl, d, c2, rfl⟩ | ⟨c1, c2⟩
      · exact .inl (.inr ⟨i, b, c2, rfl⟩)
      · exact .inl (.inr ⟨i + 1, d, c2, rfl⟩)
      · exact .inl (.inr ⟨i + 1, b, c2, rfl⟩)
theorem bd_tick (R0 : List (Int × Nat)) (h : BD W w D X L T A c R0) (hr : RelD L T R) (hl : L.length ≤ 1000) :
    Calls Try.prog 13 #[.pointer (some ⟨D, 0, none⟩)] w fun e w' => ∃ v, e = .returned v ∧ w'.ownsRow w.heap.size 3 1 v (outR R).length (intsL (outR R)) ∧ Keeps (Own D L) w w' ∧ ∃ L' T', BD W w' D X L' T' A c R0 ∧ RelD L' T' (decR R) ∧ L'.length ≤ L.length := by
  cases L with
  | nil =>
    have e : R = [] := List.eq_nil_of_length_eq_zero (by rw [← hr.len h.abs]; rfl)
    subst e
    refine (dtick_none D w h.is).mono fun e w' ⟨h1, h2⟩ => ⟨_, h1, ?_, ?_, [], T, ?_, hr, Nat.le_refl _⟩
    · exact World.ownsRow_nil _ _ _ _
    · subst h2; exact Keeps.refl _ _
    · subst h2; exact h
  | cons a r =>
    have h3 : 0 < sumX (a :: r) 1 := h.abs.pos 0 a rfl
    have h2 : sumX (a :: r) 1 = 0 + a.x := rfl
    simp only [List.length_cons] at hl
    refine (dtick_some D a r w h.is (by omega) (by omega) h.abs.x_lt).mono fun e w' ⟨v, h1, h2⟩ => ⟨v, h1, ?_⟩
    obtain ⟨k, hk, hz, hnz, ho, hd, hK⟩ := h2
    have hA' := h.abs.tick hk hz hnz
    have hkl : k ≤ r.length + 1 := hk
    have htold := hr.told h.abs hkl hz hA'
    have htk : ((⟨a.g, a.t, a.x - 1⟩ :: r : List Nd).take k).map (·.t) = ((a :: r).take k).map (·.t) := by
      cases k with
      | zero => rfl
      | succ k => simp
    rw [nums_tk _ k hk, htk, htold] at ho
    have hlen : k = (outR R).length := by
      rw [← htold, List.length_map, List.length_take]
      simp only [List.length_cons]
      omega
    rw [hlen] at ho
    refine ⟨ho, hK, _, _, h.step hK hd hA' fun j hj => ?_, hr.tick h.abs hA', by rw [List.length_drop]; simp only [List.length_cons]; omega⟩
    rcases hj with rfl | ⟨i, b, hb, rfl⟩
    · exact .inl (.inl rfl)
    · rw [List.getElem?_drop] at hb
      cases hki : k + i with
      | zero =>
        rw [hki] at hb
        have e : (⟨a.g, a.t, a.x - 1⟩ : Nd) = b := by simpa using hb
        exact .inl (.inr ⟨0, a, rfl, by rw [← e]⟩)
      | succ j =>
        rw [hki] at hb
        exact .inl (.inr ⟨j + 1, b, by simpa using hb, rfl⟩)
end
/-- What an Add is answered, and what it leaves: under names that no walk opens. -/
def addOk (T : Int → Nat) (t : Int) (x : Nat) : Bool := decide (T t = 0 ∧ (0 ≤ t ∧ t < 16) ∧ 0 < x)
def addR (T : Int → Nat) (R : List (Int × Nat)) (t : Int) (x : Nat) : List (Int × Nat) := if T t = 0 ∧ (0 ≤ t ∧ t < 16) ∧ 0 < x then R ++ [(t, x)] else R
def delR (R : List (Int × Nat)) (t : Int) : List (Int × Nat) := R.filter fun a => a.1 != t
theorem bd_add' (W w : World) (D X m : Nat) (L : List Nd) (T : Int → Nat) (A : Option Addr) (c : Nat) (R : List (Int × Nat)) (h : BD W w D X L T A c R) (hr : RelD L T R) (task : Int) (ticks : Nat) (ht2 : ticks < 4294967296) :
    Calls Try.prog 7 #[.pointer (some ⟨D, 0, none⟩), .int .i64 task, .int .u32 (ticks : Int)] w fun e w' => e = .returned (.bool (addOk T task ticks)) ∧ ∃ L' T', BD W w' D X L' T' A c R ∧ RelD L' T' (addR T R task ticks) ∧ L'.length ≤ L.length + 1 := bd_add W w D X L T A c R h hr task ticks ht2
theorem doc24_add' (T : Int → Nat) (A : Option Addr) (c : Nat) (R : List (Int × Nat)) (w : World) (h : LP w A c R) (hs : Says T R) (t : Int) (x : Nat) (hx : x < 4294967296) :
    Calls Try.prog 8 #[.agg #[.slice A R.length c], .int .i64 t, .int .u32 (x : Int)] w fun e w' => ∃ A' c', e = .returned (.tuple #[.agg #[.slice A' (addR T R t x).length c'], .bool (addOk T t x)]) ∧ LP w' A' c' (addR T R t x) ∧ (A' = A ∨ ∀ b off, A' = some ⟨b, off, none⟩ → w.heap.size ≤ b) ∧ Keeps (fun _ => False) w w' := doc24_add T A c R w h hs t x hx
theorem bd_rem' (W w : World) (D X m : Nat) (L : List Nd) (T : Int → Nat) (A : Option Addr) (c : Nat) (R : List (Int × Nat)) (h : BD W w D X L T A c R) (hr : RelD L T R) (t : Int) :
    Calls Try.prog 9 #[.pointer (some ⟨D, 0, none⟩), .int .i64 t] w fun e w' => e = .returned (.tuple #[.int .u32 (T t : Int), .bool (decide (T t ≠ 0))]) ∧ ∃ L' T', BD W w' D X L' T' A c R ∧ RelD L' T' (delR R t) ∧ L'.length ≤ L.length := bd_rem W w D X L T A c R h hr t
theorem doc24_rem' (T : Int → Nat) (A : Option Addr) (c : Nat) (R : List (Int × Nat)) (w : World) (h : LP w A c R) (hs : Says T R) (t : Int) :
    Calls Try.prog 10 #[.agg #[.slice A R.length c], .int .i64 t] w fun e w' => ∃ A' c', e = .returned (.tuple #[.agg #[.slice A' (delR R t).length c'], .int .u32 (T t : Int), .bool (decide (T t ≠ 0))]) ∧ LP w' A' c' (delR R t) ∧ (A' = A ∨ ∀ b off, A' = some ⟨b, off, none⟩ → w.heap.size ≤ b) ∧ Keeps (fun _ => False) w w' := doc24_rem T A c R w h hs t
end Go.Proofs.Ytfniicgfnlklbab
