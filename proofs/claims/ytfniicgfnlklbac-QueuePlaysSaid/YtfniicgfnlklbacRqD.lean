import Derived.Test.YtfniicgfnlklbacRqC
namespace Go.Proofs.Ytfniicgfnlklbac
open Go.ChangeShapes Go.WideShapes Go.ChangeAt Go.RowKit
set_option linter.unusedVariables false
/-- The program's queue, and the document's row, in memory. -/
structure QX (w wr : World) (L M : List QN) (a : Option Addr) (c : Nat) : Prop where
  own : OwnQ w.heap.size wr w.heap.size L
  keep : Keeps (fun j => w.heap.size ≤ j) w wr
  row : DW wr w.heap.size (.slice a M.length c) M
theorem QX.below {w wr wn : World} {L M : List QN} {a : Option Addr} {c : Nat} (h : QX w wr L M a c) (hk : Below wr.heap.size wr wn) : QX w wn L M a c :=
  ⟨h.own.below hk, h.keep.trans (keeps_of_below hk (Nat.le_refl _) _), h.row.below hk⟩
theorem QX.drew {w wr : World} {L M : List QN} {a : Option Addr} {c : Nat} (h : QX w wr L M a c) : QX w wr.drew L M a c := h.below (Below.refl _ _).drew
theorem RS_rw {w : World} {Q : Nat} {L : List QN} {h : Bool} (hq : IsQ w Q L h) : ∀ k, RS Q L k → ∀ cs, w.heap[k]? ≠ some (.cells cs 34 (0, 0)) := by
  intro k hk cs e
  obtain ⟨c2, h1 | h1⟩ := RS_cells hq hk <;> (rw [e] at h1; injection h1 with h1; injection h1 with _ h1 _; exact absurd h1 (by decide))
theorem wv_qv (r : Option QN) : ∃ y : QN, wv r = qv y := by
  cases r with
  | none => exact ⟨⟨0, 0, 0, 0, 0⟩, rfl⟩
  | some x => exact ⟨x, rfl⟩
theorem good_wo {L : List QN} (h : Good L) (t : Int) : Good (wo L t) := by
  cases hf : fnd L t with
  | none => rw [wo_none hf]; exact h
  | some x =>
    obtain ⟨P, R, rfl, rfl, hP⟩ := fnd_split hf
    rw [wo_drop h]; exact good_drop h
theorem pair_rem {w wr : World} {L : List QN} {a : Option Addr} {c : Nat} (h : QX w wr L L a c) (hg : Good L) (hl : L.length < 1000) (t : Int) :
    ∃ (y : QN) (ok : Bool), Calls Try.prog 7 #[.pointer (some ⟨w.heap.size, 0, none⟩), .int .i64 t] wr (fun e W' => e = .returned (.tuple #[qv y, .bool ok]) ∧ QX w W' (wo L t) L a c) ∧
      ∀ w2, QX w w2 (wo L t) L a c → Calls Try.prog 8 #[.slice a L.length c, .int .i64 t] w2 fun e W' => ∃ a' c', e = .returned (.tuple #[.slice a' (wo L t).length c', qv y, .bool ok]) ∧ QX w W' (wo L t) (wo L t) a' c' ∧ Below w2.heap.size w2 W' := by
  cases hf : fnd L t with
  | none =>
    rw [wo_none hf]
    refine ⟨⟨0, 0, 0, 0, 0⟩, false, ?_, fun w2 h2 => ?_⟩
    · refine (Remove_no _ L t wr h.own.qp hf).mono ?_
      rintro e W' ⟨rfl, hk⟩
      exact ⟨rfl, h.below hk⟩
    · refine (rrem_no a c _ L t w2 h2.row (by omega) hf).mono ?_
      rintro e W' ⟨rfl, hk⟩
      exact ⟨a, c, rfl, h2.below hk, hk⟩
  | some x =>
    obtain ⟨P, R, rfl, rfl, hP⟩ := fnd_split hf
    rw [wo_drop hg]
    obtain ⟨b, hr⟩ := h.own.ring
    refine ⟨x, true, ?_, fun w2 h2 => ?_⟩
    · refine (ownq_rem w.heap.size w.heap.size P R x x.t wr w h.own h.keep rfl hP).mono ?_
      rintro e W' ⟨rfl, h1, h2, h3⟩
      exact ⟨rfl, h1, h2, h.row.keeps h3 (RS_rw hr)⟩
    · refine (rrem_yes a c _ _ P R x w2 h2.row rfl (by omega) hP).mono ?_
      rintro e W' ⟨⟨a', c', rfl, hd⟩, hk⟩
      have h3 := h2.below hk
      exact ⟨a', c', rfl, ⟨h3.own, h3.keep, hd.base h2.keep.size⟩, hk⟩
theorem pair_add {w wr : World} {L : List QN} {a : Option Addr} {c : Nat} (h : QX w wr L L a c) (hg : Good L) (hl : L.length < 1000) (t k o : Int) (m : Nat) :
    ∃ ok : Bool, Calls Try.prog 9 #[.pointer (some ⟨w.heap.size, 0, none⟩), av t k o m] wr fun e W' => e = .returned (.bool ok) ∧ ∃ L', Good L' ∧ L'.length ≤ L.length + 1 ∧ QX w W' L' L a c ∧
      ∀ w2, QX w w2 L' L a c → Calls Try.prog 10 #[.slice a L.length c, av t k o m] w2 fun e W' => ∃ a' c', e = .returned (.tuple #[.slice a' L'.length c', .bool ok]) ∧ QX w W' L' L' a' c' := by
  by_cases hadd : (0 ≤ t ∧ t < 16) ∧ fnd L t = none
  · obtain ⟨b, hr⟩ := h.own.ring
    refine ⟨true, (ownq_add w.heap.size w.heap.size L t k o m wr w h.own h.keep (Nat.le_refl _) hadd.1 hadd.2).mono ?_⟩
    rintro e W' ⟨rfl, g, h1, h2, h3⟩
    refine ⟨rfl, L ++ [⟨g, t, k, o, m⟩], good_add hg _ hadd.1 hadd.2, by simp, ⟨h1, h2, h.row.keeps h3 (RS_rw hr)⟩, fun w2 h2 => ?_⟩
    refine (radd_yes a c _ L ⟨g, t, k, o, m⟩ w2 h2.row (by omega) hadd.1 hadd.2).mono ?_
    rintro e W' ⟨⟨a', c', rfl, hd⟩, hk⟩
    have h3 := h2.below hk
    exact ⟨a', c', by rw [List.length_append]; rfl, h3.own, h3.keep, by rw [List.length_append]; exact hd.base h2.keep.size⟩
  · have hno : t < 0 ∨ 16 ≤ t ∨ fnd L t ≠ none := by
      by_cases h1 : 0 ≤ t ∧ t < 16
      · exact .inr (.inr fun h2 => hadd ⟨h1, h2⟩)
      · omega
    refine ⟨false, (ownq_no w.heap.size w.heap.size L t k o m wr w h.own h.keep hno).mono ?_⟩
    rintro e W' ⟨rfl, h1, h2, h3⟩
    refine ⟨rfl, L, hg, by omega, ⟨h1, h2, h.row.keeps h3 fun _ h => h.elim⟩, fun w2 h2 => ?_⟩
    refine (radd_no a c _ L t k o m w2 h2.row (by omega) (by rcases hno with h | h | h; exact .inl h; exact .inr (.inl (by omega)); exact .inr (.inr h))).mono ?_
    rintro e W' ⟨rfl, hk⟩
    exact ⟨a, c, rfl, h2.below hk⟩
/-- What Next and Find tell of a task, on both sides. -/
theorem both_next {L : List QN} (hg : Good L) (hl : L.length < 1000) (task : Int) :
    ∃ (y : QN) (ok : Bool) (p : Int), (∀ (w wr : World) (a : Option Addr) (c : Nat), QX w wr L L a c →
        Calls Try.prog 11 #[.pointer (some ⟨w.heap.size, 0, none⟩), .int .i64 task] wr fun e W' => e = .returned (.tuple #[qv y, .bool ok]) ∧ QX w W' L L a c ∧ Below wr.heap.size wr W') ∧
      (∀ (w wr : World) (a : Option Addr) (c : Nat), QX w wr L L a c → Calls Try.prog 12 #[.slice a L.length c, .int .i64 task] wr fun e W' => e = .returned (.tuple #[qv y, .bool ok]) ∧ QX w W' L L a c ∧ Below wr.heap.size wr W') ∧
      (∀ (w wr : World) (a : Option Addr) (c : Nat), QX w wr L L a c → Calls Try.prog 14 #[.slice a L.length c, .int .i64 task] wr fun e W' => e = .returned (.int .i64 p) ∧ W' = wr) ∧
      ((fnd L task = none ∧ p = -1) ∨ ∃ (q : Nat) (x : QN), fnd L task = some x ∧ p = (q : Int) ∧ L[q]? = some x) := by
  have key : ∃ (i0 : Nat) (p : Int) (X : QN) (b0 : Bool), i0 ≤ L.length ∧ p + 1 = (i0 : Int) ∧ wv (fnd L task) = qv X ∧ (fnd L task).isSome = !b0 ∧ scan X.wait b0 L = L[i0]? ∧
      (∀ (w1 : World) (a : Option Addr) (c B : Nat), DW w1 B (.slice a L.length c) L → Calls Try.prog 14 #[.slice a L.length c, .int .i64 task] w1 fun e w' => e = .returned (.int .i64 p) ∧ w' = w1) ∧
      ((fnd L task = none ∧ p = -1) ∨ ∃ (q : Nat) (x : QN), fnd L task = some x ∧ p = (q : Int) ∧ L[q]? = some x) := by
    cases hf : fnd L task with
    | none => exact ⟨0, -1, ⟨0, 0, 0, 0, 0⟩, true, by omega, by omega, rfl, rfl, scan_true _ _, fun w1 a c B h => rplace_no a c B L task w1 h (by omega) hf, .inl ⟨rfl, rfl⟩⟩
    | some x =>
      obtain ⟨P, R, rfl, rfl, hP⟩ := fnd_split hf
      refine ⟨P.length + 1, (P.length : Int), x, false, by simp, by omega, rfl, rfl, ?_, fun w1 a c B h => rplace_yes a c B _ P R x w1 h rfl (by omega) hP, .inr ⟨P.length, x, rfl, rfl, by simp⟩⟩
      rw [scan_split x P R (fun y hy e => hP y hy (congrArg (fun v => v.1) e))]
      rw [List.getElem?_append_right (by omega), Nat.add_sub_cancel_left]
      rfl
  obtain ⟨i0, p, X, b0, hi, hp, hX, hb, hs, hpl, hfin⟩ := key
  obtain ⟨y, hy⟩ := wv_qv L[i0]?
  refine ⟨y, L[i0]?.isSome, p, fun w wr a c h => ?_, fun w wr a c h => ?_, fun w wr a c h => hpl wr a c _ h.row, hfin⟩
  · refine (Next_scan _ L task X b0 wr h.own.qp hX hb).mono ?_
    rintro e W' ⟨rfl, hk⟩
    rw [hs, hy]
    exact ⟨rfl, h.below hk, hk⟩
  · refine (rnext_any a c _ i0 L task p wr h.row (by omega) hi hp (fun w1 h1 => hpl w1 a c _ h1)).mono ?_
    rintro e W' ⟨rfl, hk⟩
    rw [hy]
    exact ⟨rfl, h.below hk, hk⟩
end Go.Proofs.Ytfniicgfnlklbac
