import Derived.Test.YtilbendneahikaaNumL
import Derived.Test.YtilbendneahikaaNumJ
import Derived.Test.YtilbendneahikaaRow
import Derived.Laws.DeepStrings4
namespace Go.Proofs.Ytilbendneahikaa
open Go.ChangeShapes Go.WideShapes Go.ChangeAt Go.RowKit
set_option linter.unusedVariables false
set_option linter.unusedSimpArgs false
theorem cut_last {sep p r : List UInt8} (h : Cuts sep (fun r => Lib.index r sep) [p] r) : p = r ∧ ∀ j, j ≤ r.length → Lib.occAt r sep j = false := by
  obtain ⟨h1, h2⟩ := h
  have h2 : Lib.index r sep = -1 := h2
  refine ⟨h1, ?_⟩
  rcases index_cases r sep with ⟨_, h⟩ | ⟨i, _, h, _⟩
  · exact h
  · rw [h] at h2; omega
theorem cut_more {sep p q r : List UInt8} {t : List (List UInt8)} (h : Cuts sep (fun r => Lib.index r sep) (p :: q :: t) r) :
    ∃ r', r = p ++ (sep ++ r') ∧ Lib.occAt r sep p.length = true ∧ (∀ j, j < p.length → Lib.occAt r sep j = false) ∧ Cuts sep (fun r => Lib.index r sep) (q :: t) r' := by
  obtain ⟨r', h1, h2, h3⟩ := h
  have h2 : Lib.index r sep = (p.length : Int) := h2
  refine ⟨r', h1, ?_⟩
  rcases index_cases r sep with ⟨h, _⟩ | ⟨i, _, h, ho, hn⟩
  · rw [h] at h2; omega
  · rw [h] at h2
    obtain rfl : i = p.length := by omega
    exact ⟨ho, hn, h3⟩
/-- Where the walk through the text stands: the piece that begins at fr is not over ahead of i. -/
structure AtS (s sep : List UInt8) (fr i : Nat) (ps : List (List UInt8)) : Prop where
  cuts : Cuts sep (fun r => Lib.index r sep) ps (s.drop fr)
  le : fr ≤ s.length
  head : ∀ p t, ps = p :: t → i ≤ fr + p.length
theorem occ_here (s sep : List UInt8) (fr i : Nat) (hi : fr ≤ i) (hr : i + sep.length ≤ s.length) : Lib.occAt (s.drop fr) sep (i - fr) = ((s.drop i).take sep.length == sep) := by
  rw [Lib.occAt_iff_take (s.drop fr) sep (i - fr) (by rw [List.length_drop]; omega), List.drop_drop, show fr + (i - fr) = i by omega]
theorem AtS.skip {s sep : List UInt8} {fr i : Nat} {ps : List (List UInt8)} (h : AtS s sep fr i ps) (hi : i < fr) : AtS s sep fr (i + 1) ps := ⟨h.cuts, h.le, fun p t e => by omega⟩
theorem AtS.room {s sep : List UInt8} {fr i : Nat} {ps : List (List UInt8)} (h : AtS s sep fr i ps) (hi : fr ≤ i) (hl : i < s.length) (hr : s.length < i + sep.length) : AtS s sep fr (i + 1) ps := by
  refine ⟨h.cuts, h.le, fun p t e => ?_⟩
  subst e
  have h1 := h.head p t rfl
  have h2 := h.le
  cases t with
  | nil =>
    obtain ⟨rfl, _⟩ := cut_last h.cuts
    rw [List.length_drop]; omega
  | cons q t =>
    obtain ⟨r', e, _⟩ := cut_more h.cuts
    have e := congrArg List.length e
    rw [List.length_append, List.length_append, List.length_drop] at e
    omega
theorem AtS.miss {s sep : List UInt8} {fr i : Nat} {ps : List (List UInt8)} (h : AtS s sep fr i ps) (hi : fr ≤ i) (hl : i < s.length) (hr : i + sep.length ≤ s.length) (hn : ((s.drop i).take sep.length == sep) = false) : AtS s sep fr (i + 1) ps := by
  refine ⟨h.cuts, h.le, fun p t e => ?_⟩
  subst e
  have h1 := h.head p t rfl
  have h2 := h.le
  cases t with
  | nil =>
    obtain ⟨rfl, _⟩ := cut_last h.cuts
    rw [List.length_drop]; omega
  | cons q t =>
    obtain ⟨r', e, ho, _⟩ := cut_more h.cuts
    rcases Nat.lt_or_ge i (fr + p.length) with h3 | h3
    · omega
    · rw [show p.length = i - fr by omega, occ_here s sep fr i hi hr, hn] at ho
      cases ho
/-- Here a piece ends: at the end, or where the separator stands. -/
theorem AtS.hit {s sep : List UInt8} {fr i : Nat} {ps : List (List UInt8)} (h : AtS s sep fr i ps) (hsep : 0 < sep.length) (hi : fr ≤ i)
    (he : i = s.length ∨ (i < s.length ∧ i + sep.length ≤ s.length ∧ ((s.drop i).take sep.length == sep) = true)) :
    ∃ t, ps = (s.drop fr).take (i - fr) :: t ∧ ((t = [] ∧ i = s.length) ∨ (AtS s sep (i + sep.length) (i + 1) t ∧ i < s.length ∧ t ≠ [])) := by
  have h2 := h.le
  match ps, h.cuts, h.head with
  | [], hc, _ => exact hc.elim
  | [p], hc, hh =>
    have h1 := hh p [] rfl
    obtain ⟨hp, hn⟩ := cut_last hc
    rcases he with rfl | ⟨h3, h4, h5⟩
    · exact ⟨[], by rw [hp, List.take_of_length_le (by rw [List.length_drop]; omega)], .inl ⟨rfl, rfl⟩⟩
    · rw [← occ_here s sep fr i hi h4, hn (i - fr) (by rw [List.length_drop]; omega)] at h5
      cases h5
  | p :: q :: t, hc, hh =>
    have h1 := hh p _ rfl
    obtain ⟨r', e, ho, hn, hc'⟩ := cut_more hc
    have el := congrArg List.length e
    rw [List.length_append, List.length_append, List.length_drop] at el
    rcases he with rfl | ⟨h3, h4, h5⟩
    · omega
    · have hip : i = fr + p.length := by
        rcases Nat.lt_or_ge i (fr + p.length) with h6 | h6
        · rw [← occ_here s sep fr i hi h4, hn (i - fr) (by omega)] at h5
          cases h5
        · omega
      refine ⟨q :: t, ?_, .inr ⟨⟨?_, h4, fun p' t' _ => by omega⟩, h3, by simp⟩⟩
      · rw [e, show i - fr = p.length by omega, List.take_left]
      · rw [show i + sep.length = fr + (p ++ sep).length by rw [List.length_append]; omega, ← List.drop_drop, e, ← List.append_assoc, List.drop_left]
        exact hc'
theorem str_mid (w : World) (s : List UInt8) (i j : Nat) (hij : i ≤ j) (hj : j ≤ s.length) :
    (Instr.slice 9 (.string ⟨s.toArray⟩) (some (.int .i64 (i : Int))) (some (.int .i64 (j : Int))) none).run Try.prog w = .ok (.string ⟨((s.drop i).take (j - i)).toArray⟩) w := by
  rw [run_slice_string_if w 9 _ .i64 .i64 _ _ (by kernel_rfl), if_pos ⟨by omega, by rw [str_size]; omega⟩, if_pos ⟨by omega, by omega⟩, ByteArray.extract_mk]
  congr 4

theorem rsplit_bad (w : World) (B : ByteArray) (a b : Int) (hB : (B.toList == ([] : List UInt8)) = false) :
    Calls Try.prog 14 #[.string B, .string ⟨#[]⟩, .int .i64 a, .int .i64 b] w fun e w' => e = .returned (.tuple #[.slice none 0 0, .int .i64 3]) ∧ w' = w := by
  have e3 : (ByteArray.mk #[]).toList = [] := ByteArray.toList_mk []
  go_enter Try.func14, Try.ntmps14
  go_wp2_with fail
  refine bodyPost_ret (v := .tuple #[.slice none 0 0, .int .i64 3]) (by simp [results, Try.results14, go_sem]) rfl ?_
  exact ⟨rfl, rfl⟩
theorem rsplit_none (w : World) (B : ByteArray) (a b : Int) :
    Calls Try.prog 14 #[.string ⟨#[]⟩, .string B, .int .i64 a, .int .i64 b] w fun e w' => e = .returned (.tuple #[.slice none 0 0, .int .i64 0]) ∧ w' = w := by
  have e3 : (ByteArray.mk #[]).toList = [] := ByteArray.toList_mk []
  go_enter Try.func14, Try.ntmps14
  go_wp2_with fail
  refine bodyPost_ret (v := .tuple #[.slice none 0 0, .int .i64 0]) (by simp [results, Try.results14, go_sem]) rfl ?_
  exact ⟨rfl, rfl⟩
end Go.Proofs.Ytilbendneahikaa
