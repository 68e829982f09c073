import Derived.Test.YtfniicgfnlklbacQuP
import Derived.Laws.OwnMore
import Derived.Deep.RegionHeld3
namespace Go.Proofs.Ytfniicgfnlklbac
open Go.ChangeShapes Go.WideShapes Go.ChangeAt Go.RowKit
set_option linter.unusedVariables false
attribute [local go_sem ↓ 2000] app_pre
attribute [local go_sem] app_run
theorem flat_get (L : List QN) (i j : Nat) (hj : j < 4) (x : QN) (hx : L[i]? = some x) : (flat L)[i * 4 + j]? = x.cells[j]? := by
  induction L generalizing i with
  | nil => simp at hx
  | cons y L ih =>
    rw [flat, List.flatMap_cons]
    cases i with
    | zero =>
      simp at hx; subst hx
      rw [List.getElem?_append_left (by simp [QN.cells]; omega)]
      simp
    | succ i =>
      simp at hx
      rw [List.getElem?_append_right (by simp [QN.cells]; omega)]
      have : (i + 1) * 4 + j - y.cells.length = i * 4 + j := by simp [QN.cells]; omega
      rw [this]
      exact ih i hx
/-- The document's row of waits. -/
def DW (w : World) (B : Nat) (v : Value) (L : List QN) : Prop := w.ownsRow B 34 4 v L.length (flat L)
theorem DW.slice {w : World} {B : Nat} {v : Value} {L : List QN} (h : DW w B v L) : ∃ a c, v = .slice a L.length c := owns_slice h
theorem DW.cell {w : World} {B c : Nat} {a : Option Addr} {L : List QN} (h : DW w B (.slice a L.length c) L) {i : Nat} {x : QN} (hx : L[i]? = some x) :
    ∃ b, a = some ⟨b, 0, none⟩ ∧ b < w.heap.size ∧ w.cell? ⟨b, i * 4, none⟩ = some (.int .i64 x.t) ∧ w.cell? ⟨b, i * 4 + 1, none⟩ = some (.int .i64 x.k) ∧ w.cell? ⟨b, i * 4 + 2, none⟩ = some (.int .i64 x.o) ∧ w.cell? ⟨b, i * 4 + 3, none⟩ = some (.int .u32 (x.m : Int)) := by
  have hi := get_lt' hx
  obtain ⟨h1, h | ⟨g, cap, cur, e, hg, hb, hc1, hc2, hs, ht⟩⟩ := h
  · omega
  · cases e
    have key : ∀ j, j < 4 → w.cell? ⟨g, i * 4 + j, none⟩ = x.cells[j]? := by
      intro j hj
      rw [cell_of hb, ← flat_get L i j hj x hx, ← ht, List.getElem?_take, if_pos (by omega)]
      simp
    exact ⟨g, rfl, lt_of hb, key 0 (by omega), key 1 (by omega), key 2 (by omega), key 3 (by omega)⟩
theorem DW.keeps {w w' : World} {S : Nat → Prop} {B : Nat} {v : Value} {L : List QN} (h : DW w B v L) (hk : Keeps S w w') (hS : ∀ k, S k → ∀ cs, w.heap[k]? ≠ some (.cells cs 34 (0, 0))) : DW w' B v L := owns_keeps h hk hS
theorem DW.below {w w' : World} {B : Nat} {v : Value} {L : List QN} (h : DW w B v L) (hk : Below w.heap.size w w') : DW w' B v L := owns_keeps h (keeps_of_below hk (Nat.le_refl _) (fun _ => False)) (fun _ h => h.elim)
theorem DW.base {w : World} {B B' : Nat} {v : Value} {L : List QN} (h : DW w B v L) (hB : B' ≤ B) : DW w B' v L := owns_base h hB
theorem info_rwait : (Try.prog.info? 34).map (fun i => (i.zero, i.size, i.bytes)) = some (some (.agg #[.int .i64 0, .int .i64 0, .int .i64 0, .int .u32 0]), 4, 32) := by kernel_rfl
theorem flat_one (L : List QN) : ∀ u ∈ flat L, u.oneCell' = true := by
  intro u hu
  rw [flat, List.mem_flatMap] at hu
  obtain ⟨x, _, hx⟩ := hu
  exact x_one x u hx
theorem flat_app (L M : List QN) : flat (L ++ M) = flat L ++ flat M := by simp [flat]
/-- An append of waits to a row of one's own. -/
theorem app_rw {W : World} {B : Nat} {v : Value} {L M : List QN} (hrow : DW W B v L) (hB : B ≤ W.heap.size) (A : Option Addr) (c : Nat) (hA : A = none → M.length = 0 ∧ c = 0)
    (hM : ∀ ad, A = some ad → ∀ j u, (flat M)[j]? = some u → W.cell? (ad.add j) = some u) (hn : L.length + M.length < 1000000) :
    ∃ a' c' w1, appRun Try.prog #[33, 33] 33 #[v, .slice A M.length c] W = .ok (.slice a' (L.length + M.length) c') w1 ∧ DW w1 B (.slice a' (L.length + M.length) c') (L ++ M) ∧
      Keeps (fun k => B ≤ k ∧ some k = v.ownBlock ∧ ∃ cs, W.heap[k]? = some (.cells cs 34 (0, 0))) W w1 := by
  obtain ⟨i0, hi, hz0, hz1, hz2⟩ := info_parts info_rwait
  cases A with
  | none =>
    obtain ⟨h0, rfl⟩ := hA rfl
    have hMn : M = [] := List.length_eq_zero_iff.1 h0
    subst hMn
    have hrun := run_append_owned_none (P := Try.prog) (w := W) B 33 33 34 i0 4 Try.underlying33 hi v L.length (flat L) hrow
    obtain ⟨a, c', rfl⟩ := hrow.slice
    exact ⟨a, c', W, hrun, by simpa using hrow, Keeps.refl _ _⟩
  | some ad =>
    obtain ⟨v', w1, hrun, hown, hgrow, _⟩ := run_append_own (P := Try.prog) W B 33 33 34 i0 _ 4 32 Try.underlying33 hi hz0 hz1 hz2 rfl (by decide) v L.length (flat L) hrow ad M.length c (flat M) (flat_len M) (hM ad rfl) (flat_one M) (by unfold maxLen; omega) (by omega) hB
    obtain ⟨a', c', rfl⟩ := owns_slice hown
    refine ⟨a', c', w1, hrun, by unfold DW; rw [flat_app, List.length_append]; exact hown, ?_⟩
    have h1 := keeps_grown hgrow
    refine h1.mono fun k hk e => ?_
    obtain ⟨_, h | ⟨g', cap', cur, rfl, hg, hb, _⟩⟩ := hrow
    · rw [h.1] at e; cases e
    · simp [Value.ownBlock] at e
      subst e
      exact ⟨hg, rfl, cur, hb⟩
/-- A part of a row, cell by cell, from an address on. -/
theorem DW.part {w : World} {B c n : Nat} {a : Option Addr} {L : List QN} (h : DW w B (.slice a n c) L) (hn : n = L.length) (s : Nat) (hs : s < L.length ∨ (s = 0 ∧ a ≠ none)) : ∃ b, a = some ⟨b, 0, none⟩ ∧ b < w.heap.size ∧ ∀ j u, (flat (L.drop s))[j]? = some u → w.cell? ((⟨b, s * 4, none⟩ : Addr).add j) = some u := by
  obtain ⟨h1, h | ⟨g, cap, cur, e, hg, hb, hc1, hc2, hs2, ht⟩⟩ := h
  · exfalso
    rcases hs with hs | ⟨_, hs⟩
    · omega
    · exact hs (by injection h.1)
  · cases e
    refine ⟨g, rfl, lt_of hb, fun j u hj => ?_⟩
    have e : ((⟨g, s * 4, none⟩ : Addr).add j) = ⟨g, s * 4 + j, none⟩ := by
      simp only [Addr.add]
      by_cases h : j = 0 <;> simp [h]
    have hjl : j < (L.drop s).length * 4 := by
      rw [← flat_len]
      rcases Nat.lt_or_ge j (flat (L.drop s)).length with h2 | h2
      · exact h2
      · rw [List.getElem?_eq_none h2] at hj; cases hj
    rw [List.length_drop] at hjl
    rw [e, cell_of hb]
    have hfl : (flat L)[s * 4 + j]? = some u := by
      have hsl : s ≤ L.length := by
        rcases hs with hs | ⟨hs, _⟩ <;> omega
      have h3 : flat L = flat (L.take s) ++ flat (L.drop s) := by rw [← flat_app, List.take_append_drop]
      have h4 : (flat (L.take s)).length = s * 4 := by rw [flat_len, List.length_take]; congr 1; omega
      rw [h3, List.getElem?_append_right (by omega), h4, Nat.add_sub_cancel_left]
      exact hj
    rw [← ht, List.getElem?_take, if_pos (by omega)] at hfl
    simpa using hfl
set_option maxRecDepth 20000 in
theorem rplace_no (a : Option Addr) (c B : Nat) (L : List QN) (t : Int) (w : World) (h : DW w B (.slice a L.length c) L) (hl : L.length < 1000000) (hf : fnd L t = none) :
    Calls Try.prog 14 #[.slice a L.length c, .int .i64 t] w fun e w' => e = .returned (.int .i64 (-1)) ∧ w' = w := by
  have H := Lib.hid h
  have HF := Lib.hid hf
  clear h hf
  go_enter Try.func14, Try.ntmps14
  go_wp2_with fail
  go_loopw [5] (fun i wr => ∃ k : Nat, k ≤ L.length ∧ i = .int .i64 (k : Int) ∧ wr = w) (fun i _ => L.length - (intOf i).toNat)
  case atStart => exact ⟨0, by omega, rfl, rfl⟩
  case round =>
    obtain ⟨k, hk, rfl, rfl⟩ := hrel
    by_cases hlt : k < L.length
    · have d0 : decide ((k : Int) < (L.length : Int)) = true := decide_eq_true (by omega)
      obtain ⟨x, hx⟩ : ∃ x, L[k]? = some x := ⟨_, List.getElem?_eq_getElem hlt⟩
      obtain ⟨b, rfl, hb, c0, c1, c2, c3⟩ := H.out.cell hx
      have hne : x.t ≠ t := by simpa using List.find?_eq_none.1 HF.out x (List.mem_of_getElem? hx)
      have d1 : (x.t == t) = false := beq_eq_false_iff_ne.mpr hne
      have d2 : (x.t = t) = False := eq_false hne
      clear hx hne
      go_wp2
      go_roundw
      case rel => exact ⟨k + 1, by omega, by go_num, trivial⟩
      case measure => simp [intOf]; omega
    · have d0 : decide ((k : Int) < (L.length : Int)) = false := decide_eq_false (by omega)
      go_wp2
      go_ret
      exact ⟨rfl, rfl⟩
set_option maxRecDepth 20000 in
theorem rplace_yes (a : Option Addr) (c B n : Nat) (P R : List QN) (x : QN) (w : World) (h : DW w B (.slice a n c) (P ++ x :: R)) (hn : n = (P ++ x :: R).length) (hl : n < 1000000) (hP : ∀ y, y ∈ P → y.t ≠ x.t) :
    Calls Try.prog 14 #[.slice a n c, .int .i64 x.t] w fun e w' => e = .returned (.int .i64 (P.length : Int)) ∧ w' = w := by
  have hPn : P.length < n := by rw [hn]; simp
  have H := Lib.hid (show DW w B (.slice a (P ++ x :: R).length c) (P ++ x :: R) by rw [← hn]; exact h)
  have HP := Lib.hid hP
  clear h hP hn
  go_enter Try.func14, Try.ntmps14
  go_wp2_with fail
  go_loopw [5] (fun i wr => ∃ k : Nat, k ≤ P.length ∧ i = .int .i64 (k : Int) ∧ wr = w) (fun i _ => n - (intOf i).toNat)
  case atStart => exact ⟨0, by omega, rfl, rfl⟩
  case round =>
    obtain ⟨k, hk, rfl, rfl⟩ := hrel
    have d0 : decide ((k : Int) < (n : Int)) = true := decide_eq_true (by omega)
    by_cases hlt : k < P.length
    · obtain ⟨y, hy⟩ : ∃ y, P[k]? = some y := ⟨_, List.getElem?_eq_getElem hlt⟩
      obtain ⟨b, rfl, hb, c0, c1, c2, c3⟩ := H.out.cell (i := k) (x := y) (by rw [List.getElem?_append_left hlt]; exact hy)
      have hne := HP.out y (List.mem_of_getElem? hy)
      have d1 : (y.t == x.t) = false := beq_eq_false_iff_ne.mpr hne
      have d2 : (y.t = x.t) = False := eq_false hne
      clear hy hne
      go_wp2
      go_roundw
      case rel => exact ⟨k + 1, by omega, by go_num, trivial⟩
      case measure => simp [intOf]; omega
    · obtain rfl : k = P.length := by omega
      obtain ⟨b, rfl, hb, c0, c1, c2, c3⟩ := H.out.cell (i := P.length) (x := x) (by simp)
      have d1 : (x.t == x.t) = true := beq_self_eq_true _
      go_wp2
      go_ret
      exact ⟨rfl, rfl⟩
end Go.Proofs.Ytfniicgfnlklbac
