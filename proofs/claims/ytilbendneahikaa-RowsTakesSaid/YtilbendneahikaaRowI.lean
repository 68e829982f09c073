import Derived.Test.YtilbendneahikaaRowH
namespace Go.Proofs.Ytilbendneahikaa
open Go.ChangeShapes Go.WideShapes Go.ChangeAt Go.RowKit
set_option linter.unusedVariables false
set_option linter.unusedSimpArgs false
theorem rwords_zero (a b : Option Addr) (c0 c1 : Nat) (w : World) : Calls Try.prog 26 #[.slice a 0 c0, .slice b 0 c1] w fun e w' => e = .returned (.bool true) ∧ Keeps (fun _ => False) w w' := by
  go_enter Try.func26, Try.ntmps26
  go_wp2_with fail
  obtain ⟨wo, rfl⟩ : ∃ wo : World, wo = w := ⟨_, rfl⟩
  go_loopw [5] (fun i wr => i = .int .i64 0 ∧ wr = wo) (fun _ _ => 0)
  case atStart => exact ⟨rfl, rfl⟩
  case round =>
    obtain ⟨rfl, rfl⟩ := hrel
    go_wp2
    go_ret
    exact ⟨rfl, Keeps.refl _ _⟩
theorem rwords_some (g0 o0 g1 o1 n c0 c1 : Nat) (F : Nat → Int) (w : World) (hn : n ≤ maxLen) (h0 : ∀ i, i < n → w.cell? ⟨g0, o0 + i, none⟩ = some (.int .u32 (F i))) (h1 : ∀ i, i < n → w.cell? ⟨g1, o1 + i, none⟩ = some (.int .u32 (F i))) :
    Calls Try.prog 26 #[.slice (some ⟨g0, o0, none⟩) n c0, .slice (some ⟨g1, o1, none⟩) n c1] w fun e w' => e = .returned (.bool true) ∧ Keeps (fun _ => False) w w' := by
  unfold maxLen at hn
  have H0 := Lib.hid h0
  have H1 := Lib.hid h1
  clear h0 h1
  go_enter Try.func26, Try.ntmps26
  go_wp2_with fail
  obtain ⟨wo, rfl⟩ : ∃ wo : World, wo = w := ⟨_, rfl⟩
  go_loopw [5] (fun i wr => ∃ k m : Nat, k ≤ n ∧ i = .int .i64 k ∧ wr = wo.drewN m) (fun i _ => n - (intOf i).toNat)
  case atStart => exact ⟨0, 0, by omega, rfl, rfl⟩
  case round =>
    obtain ⟨k, m, hk, rfl, rfl⟩ := hrel
    by_cases hlt : k < n
    · have c0 : wo.cell? ⟨g0, o0 + k, none⟩ = some (.int .u32 (F k)) := H0.out k hlt
      have c1 : wo.cell? ⟨g1, o1 + k, none⟩ = some (.int .u32 (F k)) := H1.out k hlt
      go_wp2_with fail
      go_quiet (fail)
      go_wp2
      go_roundw
      case rel => exact ⟨k + 1, m + nq, by omega, by go_num, rfl⟩
      case measure => simp [intOf]; omega
    · obtain rfl : k = n := by omega
      go_wp2
      go_ret
      exact ⟨rfl, (Keeps.refl _ _).drewN m⟩
theorem cellsW_at (N : List Int) (i : Nat) (h : i < N.length) : (cellsW N)[i]? = some (.int .u32 (N.getD i 0)) := by
  simp [cellsW, List.getElem?_map, List.getElem?_eq_getElem h, List.getD_eq_getElem?_getD]
theorem ownw_cell {W : World} {B n : Nat} {e : TypeId} {g c : Nat} {N : List Int} (h : W.ownsRow B e 1 (.slice (some ⟨g, 0, none⟩) n c) N.length (cellsW N)) (i : Nat) (hi : i < N.length) : W.cell? ⟨g, 0 + i, none⟩ = some (.int .u32 (N.getD i 0)) := by
  have := h.cells (g := g) rfl i _ (cellsW_at N i hi)
  rw [show ((⟨g, 0, none⟩ : Addr).add i) = ⟨g, 0 + i, none⟩ by unfold Addr.add; split <;> simp_all] at this
  exact this
theorem same_words (w : World) (B C : Nat) (u v : Value) (e : TypeId) (N : List Int) (hN : N.length ≤ 1000001) (hu : w.ownsRow B e 1 u N.length (cellsW N)) (hv : w.ownsRow C e 1 v N.length (cellsW N)) :
    Calls Try.prog 26 #[u, v] w fun e w' => e = .returned (.bool true) ∧ Keeps (fun _ => False) w w' := by
  cases hl : N.length with
  | zero =>
    have h0 : ∀ {D : Nat} {x : Value}, w.ownsRow D e 1 x N.length (cellsW N) → ∃ a c, x = .slice a 0 c := by
      intro D x h
      rw [hl] at h
      rcases h.2 with ⟨rfl, _⟩ | ⟨g, cap, cur, rfl, _⟩
      · exact ⟨none, 0, rfl⟩
      · exact ⟨_, _, rfl⟩
    obtain ⟨a, c, rfl⟩ := h0 hu
    obtain ⟨a', c', rfl⟩ := h0 hv
    exact rwords_zero a a' c c' w
  | succ k =>
    obtain ⟨g, c, rfl⟩ := ownsRow_succ (k := k) (hl ▸ hu)
    obtain ⟨g', c', rfl⟩ := ownsRow_succ (k := k) (hl ▸ hv)
    rw [← hl]
    exact rwords_some g 0 g' 0 N.length c c' (fun i => N.getD i 0) w (by unfold maxLen; omega) (fun i hi => ownw_cell hu i hi) (fun i hi => ownw_cell hv i hi)
/-- Both Numbers of a row. -/
theorem both_numbers (w : World) (N : Int) (A : Option Addr) (n c : Nat) (F : Nat → List UInt8) (at' : Int) (hn : n ≤ 20) (hr : StrRow w A n F) (hF : ∀ i, i < n → (F i).length < 1000000) (hat : -9223372036854775808 ≤ at' ∧ at' ≤ 9223372036854775807) :
    ∃ (L : List (List UInt8)), L.length ≤ 20 ∧ (∀ w1, Below w.heap.size w w1 → Calls Try.prog 24 #[.agg #[.int .i64 N, .slice A n c], .int .i64 at'] w1 (NumsSays w1 L)) ∧
      (∀ w1, Below w.heap.size w w1 → Calls Try.prog 25 #[.agg #[.int .i64 N, .slice A n c], .int .i64 at'] w1 (NumsSays w1 L)) := by
  obtain ⟨s, hs⟩ : ∃ s : Nat, max at' 0 = (s : Int) := ⟨(max at' 0).toNat, by omega⟩
  rcases Nat.lt_or_ge s n with h | h
  · obtain ⟨g, o, rfl, hg, hc⟩ := hr (by omega)
    refine ⟨fromW F n s, by unfold fromW; rw [List.length_map, List.length_range']; omega, fun w1 hb => ?_, fun w1 hb => ?_⟩
    · exact numbers_some w1 N g o n c F at' s hs (by omega) h (Nat.lt_of_lt_of_le hg hb.size) (fun i hi => (hb.cell (p := ⟨g, o + i, none⟩) hg).trans (hc i hi)) hF
    · exact rnumbers_some w1 N g o n c F at' s hs (by omega) h (Nat.lt_of_lt_of_le hg hb.size) (fun i hi => (hb.cell (p := ⟨g, o + i, none⟩) hg).trans (hc i hi)) hF
  · refine ⟨[], by simp, fun w1 hb => (numbers_none w1 N A n c at' s hs (by unfold maxLen; omega) h).mono ?_, fun w1 hb => (rnumbers_none w1 N A n c at' s hs (by unfold maxLen; omega) h).mono ?_⟩
    · rintro e w' ⟨rfl, hB⟩; exact ⟨_, rfl, World.ownsRow_nil _ _ _ _, hB⟩
    · rintro e w' ⟨rfl, hB⟩; exact ⟨_, rfl, World.ownsRow_nil _ _ _ _, hB⟩
end Go.Proofs.Ytilbendneahikaa
