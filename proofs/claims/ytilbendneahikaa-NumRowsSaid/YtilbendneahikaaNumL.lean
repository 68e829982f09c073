import Derived.Test.YtilbendneahikaaNumK
import Derived.Lib.Index
namespace Go.Proofs.Ytilbendneahikaa
open Go.RowKit Go.Shelf
set_option linter.unusedVariables false
/-- The first place, or none. -/
theorem occ_least (s sub : List UInt8) : ∀ n, (∀ j, j < n → Lib.occAt s sub j = false) ∨ ∃ i, i < n ∧ Lib.occAt s sub i = true ∧ ∀ j, j < i → Lib.occAt s sub j = false
  | 0 => .inl fun j h => by omega
  | n + 1 => by
    rcases occ_least s sub n with h | ⟨i, hi, h1, h2⟩
    · cases hn : Lib.occAt s sub n with
      | true => exact .inr ⟨n, by omega, hn, h⟩
      | false =>
        refine .inl fun j hj => ?_
        by_cases e : j = n
        · rw [e]; exact hn
        · exact h j (by omega)
    · exact .inr ⟨i, by omega, h1, h2⟩
theorem index_cases (s sub : List UInt8) : (Lib.index s sub = -1 ∧ ∀ j, j ≤ s.length → Lib.occAt s sub j = false) ∨ ∃ i, i ≤ s.length ∧ Lib.index s sub = (i : Int) ∧ Lib.occAt s sub i = true ∧ ∀ j, j < i → Lib.occAt s sub j = false := by
  rcases occ_least s sub (s.length + 1) with h | ⟨i, hi, h1, h2⟩
  · exact .inl ⟨Lib.index_none fun j hj => h j (by omega), fun j hj => h j (by omega)⟩
  · exact .inr ⟨i, by omega, Lib.index_first (by omega) h1 h2, h1, h2⟩
theorem occ_split {s sub : List UInt8} {i : Nat} (hi : i ≤ s.length) (h : Lib.occAt s sub i = true) : s = s.take i ++ (sub ++ s.drop (i + sub.length)) := by
  unfold Lib.occAt at h
  obtain ⟨t, ht⟩ := List.isPrefixOf_iff_prefix.1 h
  have e : s.drop (i + sub.length) = t := by
    rw [← List.drop_drop, ← ht, List.drop_left]
  rw [e, ht, List.take_append_drop]
/-- There are pieces, between the places that index finds. -/
theorem cuts_ex (sep : List UInt8) (hsep : 0 < sep.length) : ∀ (n : Nat) (s : List UInt8), s.length ≤ n → ∃ L, Cuts sep (fun r => Lib.index r sep) L s ∧ L.length ≤ s.length + 1 ∧ ∀ p, p ∈ L → p.length ≤ s.length
  | n, s, hn => by
    rcases index_cases s sep with ⟨h, _⟩ | ⟨i, hi, h, ho, _⟩
    · exact ⟨[s], ⟨rfl, h⟩, by simp, fun p hp => by simp at hp; subst hp; exact Nat.le_refl _⟩
    · have hs := occ_split hi ho
      have hl : (s.take i).length = i := by rw [List.length_take]; omega
      have hlen : s.length = i + (sep.length + (s.drop (i + sep.length)).length) := by
        have := congrArg List.length hs
        rw [List.length_append, List.length_append, hl] at this
        exact this
      match n, hn with
      | 0, hn => omega
      | n + 1, hn =>
        obtain ⟨L, hL, hLl, hLp⟩ := cuts_ex sep hsep n (s.drop (i + sep.length)) (by omega)
        match L, hL, hLl, hLp with
        | [], hL, _, _ => exact hL.elim
        | q :: qs, hL, hLl, hLp =>
          refine ⟨s.take i :: q :: qs, ⟨s.drop (i + sep.length), hs, by rw [hl]; exact h, hL⟩, by simp at hLl ⊢; omega, fun p hp => ?_⟩
          rcases List.mem_cons.1 hp with rfl | hp
          · rw [hl]; exact hi
          · have := hLp p hp; omega
end Go.Proofs.Ytilbendneahikaa
