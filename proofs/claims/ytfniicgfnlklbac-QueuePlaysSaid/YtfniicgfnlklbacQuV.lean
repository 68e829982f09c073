import Derived.Test.YtfniicgfnlklbacQuC
namespace Go.Proofs.Ytfniicgfnlklbac
open Go.ChangeShapes Go.WideShapes Go.ChangeAt Go.RowKit
set_option linter.unusedVariables false
theorem queue_made (w : World) : IsQ (w.alloc (.cells #[.int .i64 0, .int .i64 0, .int .i64 0, .int .u32 0, .pointer none, .pointer none] 32)) w.heap.size [] false :=
  ⟨heap_new _ _, fun i x hi => by simp at hi, fun i j a b hi => by simp at hi, fun _ => rfl⟩
theorem keeps_of_below {w w' : World} {B : Nat} (h : Below B w w') (hB : w.heap.size ≤ B) (S : Nat → Prop) : Keeps S w w' := ⟨h.os, h.tape, h.output, h.size, fun k hk _ => h.block k (by omega)⟩
/-- A queue of one's own: its blocks lie at or beyond B. -/
structure OwnQ (B : Nat) (w : World) (Q : Nat) (L : List QN) : Prop where
  ring : ∃ h, IsQ w Q L h
  lowQ : B ≤ Q
  low : ∀ x, x ∈ L → B ≤ x.g
theorem OwnQ.qp {B : Nat} {w : World} {Q : Nat} {L : List QN} (h : OwnQ B w Q L) : QP w (some ⟨Q, 0, none⟩) L := by
  obtain ⟨b, hq⟩ := h.ring
  exact .inr ⟨Q, b, rfl, hq⟩
theorem OwnQ.below {B : Nat} {w w' : World} {Q : Nat} {L : List QN} (h : OwnQ B w Q L) (hk : Below w.heap.size w w') : OwnQ B w' Q L := by
  obtain ⟨b, hq⟩ := h.ring
  exact ⟨⟨b, hq.below (Nat.le_refl _) hk⟩, h.lowQ, h.low⟩
theorem OwnQ.alloc {B : Nat} {w : World} {Q : Nat} {L : List QN} (h : OwnQ B w Q L) (o : Obj) : OwnQ B (w.alloc o) Q L := h.below ((Below.refl _ _).alloc (Nat.le_refl _) _)
theorem OwnQ.RS {B : Nat} {w : World} {Q : Nat} {L : List QN} (h : OwnQ B w Q L) {k : Nat} (hk : RS Q L k) : B ≤ k := by
  rcases hk with rfl | ⟨y, hy, rfl⟩
  · exact h.lowQ
  · exact h.low y hy
theorem ownq_add (B Q : Nat) (L : List QN) (t k o : Int) (m : Nat) (w w0 : World) (hq : OwnQ B w Q L) (hw : Keeps (fun j => B ≤ j) w0 w) (hB : B ≤ w0.heap.size) (ht : 0 ≤ t ∧ t < 16) (hf : fnd L t = none) :
    Calls Try.prog 9 #[.pointer (some ⟨Q, 0, none⟩), av t k o m] w fun e W' => e = .returned (.bool true) ∧ ∃ g, OwnQ B W' Q (L ++ [⟨g, t, k, o, m⟩]) ∧ Keeps (fun j => B ≤ j) w0 W' ∧ Keeps (RS Q L) w W' := by
  obtain ⟨b, hi⟩ := hq.ring
  refine (Add_yes Q L b t k o m w hi ht hf).mono ?_
  rintro e W' ⟨rfl, g, hg, h1, h2⟩
  refine ⟨rfl, g, ⟨⟨true, h1⟩, hq.lowQ, fun x hx => ?_⟩, hw.trans (h2.mono fun k _ hk => hq.RS hk), h2⟩
  rcases List.mem_append.1 hx with h3 | h3
  · exact hq.low x h3
  · simp at h3; subst h3; exact Nat.le_trans hB (Nat.le_trans hw.size hg)
theorem ownq_no (B Q : Nat) (L : List QN) (t k o : Int) (m : Nat) (w w0 : World) (hq : OwnQ B w Q L) (hw : Keeps (fun j => B ≤ j) w0 w) (ht : t < 0 ∨ 16 ≤ t ∨ fnd L t ≠ none) :
    Calls Try.prog 9 #[.pointer (some ⟨Q, 0, none⟩), av t k o m] w fun e W' => e = .returned (.bool false) ∧ OwnQ B W' Q L ∧ Keeps (fun j => B ≤ j) w0 W' ∧ Keeps (fun _ => False) w W' := by
  obtain ⟨b, hi⟩ := hq.ring
  have key : Calls Try.prog 9 #[.pointer (some ⟨Q, 0, none⟩), av t k o m] w fun e W' => e = .returned (.bool false) ∧ Below w.heap.size w W' := by
    by_cases h1 : t < 0 ∨ 16 ≤ t
    · exact Add_bad Q t k o m w h1
    · obtain ⟨y, hy⟩ : ∃ y, fnd L t = some y := by
        rcases ht with h | h | h
        · exact absurd (.inl h) h1
        · exact absurd (.inr h) h1
        · exact Option.ne_none_iff_exists'.1 h
      exact Add_twice Q L b t k o m w hi (by omega) y hy
  refine key.mono ?_
  rintro e W' ⟨rfl, h1⟩
  exact ⟨rfl, hq.below h1, hw.trans (keeps_of_below h1 (Nat.le_refl _) _), keeps_of_below h1 (Nat.le_refl _) _⟩
theorem ownq_rem (B Q : Nat) (P R : List QN) (x : QN) (t : Int) (w w0 : World) (hq : OwnQ B w Q (P ++ x :: R)) (hw : Keeps (fun j => B ≤ j) w0 w) (hx : x.t = t) (hP : ∀ y, y ∈ P → y.t ≠ t) :
    Calls Try.prog 7 #[.pointer (some ⟨Q, 0, none⟩), .int .i64 t] w fun e W' => e = .returned (.tuple #[qv x, .bool true]) ∧ OwnQ B W' Q (P ++ R) ∧ Keeps (fun j => B ≤ j) w0 W' ∧ Keeps (RS Q (P ++ x :: R)) w W' := by
  obtain ⟨b, hi⟩ := hq.ring
  refine (Remove_yes Q P R x b t w hi hx hP).mono ?_
  rintro e W' ⟨rfl, h1, h2⟩
  refine ⟨rfl, ⟨⟨true, h1⟩, hq.lowQ, fun y hy => hq.low y ?_⟩, hw.trans (h2.mono fun k _ hk => hq.RS hk), h2⟩
  simp at hy ⊢
  rcases hy with h | h
  · exact .inl h
  · exact .inr (.inr h)
theorem ownq_next (B Q : Nat) (L : List QN) (t : Int) (X : QN) (b0 : Bool) (w w0 : World) (hq : OwnQ B w Q L) (hw : Keeps (fun j => B ≤ j) w0 w) (hX : wv (fnd L t) = qv X) (hb : (fnd L t).isSome = !b0) :
    Calls Try.prog 11 #[.pointer (some ⟨Q, 0, none⟩), .int .i64 t] w fun e W' => e = .returned (.tuple #[wv (scan X.wait b0 L), .bool (scan X.wait b0 L).isSome]) ∧ OwnQ B W' Q L ∧ Keeps (fun j => B ≤ j) w0 W' ∧ Keeps (fun _ => False) w W' := by
  refine (Next_scan (some ⟨Q, 0, none⟩) L t X b0 w hq.qp hX hb).mono ?_
  rintro e W' ⟨rfl, h1⟩
  exact ⟨rfl, hq.below h1, hw.trans (keeps_of_below h1 (Nat.le_refl _) _), keeps_of_below h1 (Nat.le_refl _) _⟩
theorem ownq_len (B Q : Nat) (L : List QN) (w w0 : World) (hq : OwnQ B w Q L) (hw : Keeps (fun j => B ≤ j) w0 w) (hl : L.length < 1000000) :
    Calls Try.prog 20 #[.pointer (some ⟨Q, 0, none⟩)] w fun e W' => e = .returned (.int .i64 (L.length : Int)) ∧ OwnQ B W' Q L ∧ Keeps (fun j => B ≤ j) w0 W' ∧ Keeps (fun _ => False) w W' := by
  refine (Len_any (some ⟨Q, 0, none⟩) L w hq.qp hl).mono ?_
  rintro e W' ⟨rfl, h1⟩
  exact ⟨rfl, hq.below h1, hw.trans (keeps_of_below h1 (Nat.le_refl _) _), keeps_of_below h1 (Nat.le_refl _) _⟩
theorem ownq_made (w : World) : OwnQ w.heap.size (w.alloc (.cells #[.int .i64 0, .int .i64 0, .int .i64 0, .int .u32 0, .pointer none, .pointer none] 32)) w.heap.size [] :=
  ⟨⟨false, queue_made w⟩, Nat.le_refl _, fun x hx => by cases hx⟩
set_option maxRecDepth 20000 in
set_option maxHeartbeats 1000000 in
theorem alive25_any (w : World) : Calls Try.prog 6 #[] w fun e W' => e = .returned (.bool true) ∧ Keeps (fun _ => False) w W' := by
  have HM := Lib.hid (ownq_made w)
  have HK := Lib.hid (show Keeps (fun j => w.heap.size ≤ j) w (w.alloc (.cells #[.int .i64 0, .int .i64 0, .int .i64 0, .int .u32 0, .pointer none, .pointer none] 32)) from (Keeps.refl _ _).alloc _)
  go_enter Try.func6, Try.ntmps6
  go_wp2_with fail
  refine (ownq_add w.heap.size w.heap.size [] 1 0 0 0 _ w HM.out HK.out (Nat.le_refl _) (by omega) rfl).mono ?_
  rintro e w1 ⟨rfl, g1, hm, hk, _⟩
  clear HM HK
  have HM := Lib.hid hm
  have HK := Lib.hid hk
  clear hm hk
  go_wp2_with fail
  refine (ownq_add w.heap.size w.heap.size _ 2 0 0 0 _ w HM.out HK.out (Nat.le_refl _) (by omega) rfl).mono ?_
  rintro e w2 ⟨rfl, g2, hm, hk, _⟩
  clear HM HK
  have HM := Lib.hid hm
  have HK := Lib.hid hk
  clear hm hk
  go_wp2_with fail
  refine (ownq_add w.heap.size w.heap.size _ 3 0 0 0 _ w HM.out HK.out (Nat.le_refl _) (by omega) rfl).mono ?_
  rintro e w3 ⟨rfl, g3, hm, hk, _⟩
  clear HM HK
  have HM := Lib.hid hm
  have HK := Lib.hid hk
  clear hm hk
  go_wp2_with fail
  refine (ownq_rem w.heap.size w.heap.size [⟨g1, 1, 0, 0, 0⟩] [⟨g3, 3, 0, 0, 0⟩] ⟨g2, 2, 0, 0, 0⟩ 2 _ w HM.out HK.out rfl (by intro y hy; simp at hy; subst hy; exact (by decide : (1 : Int) ≠ 2))).mono ?_
  rintro e w4 ⟨rfl, hm, hk, _⟩
  clear HM HK
  have HM := Lib.hid hm
  have HK := Lib.hid hk
  clear hm hk
  go_wp2_with fail
  refine (ownq_next w.heap.size w.heap.size _ 1 ⟨g1, 1, 0, 0, 0⟩ false _ w HM.out HK.out rfl rfl).mono ?_
  rintro e w5 ⟨rfl, hm, hk, _⟩
  clear HM HK
  have HM := Lib.hid hm
  have HK := Lib.hid hk
  clear hm hk
  rw [show scan (QN.wait ⟨g1, 1, 0, 0, 0⟩) false ([⟨g1, 1, 0, 0, 0⟩] ++ [⟨g3, 3, 0, 0, 0⟩]) = some ⟨g3, 3, 0, 0, 0⟩ from rfl]
  simp only [wv, qv, Option.isSome]
  go_wp2_with fail
  obtain ⟨w6, hw6⟩ : ∃ w6, w5.alloc (.cells #[.int .i64 3, .int .i64 0, .int .i64 0, .int .u32 0] 27) = w6 := ⟨_, rfl⟩
  have hn6 : w6.heap[w5.heap.size]? = some (.cells #[.int .i64 3, .int .i64 0, .int .i64 0, .int .u32 0] 27 (0, 0)) := by rw [← hw6]; exact heap_new _ _
  have hm6 := HM.out.alloc (.cells #[.int .i64 3, .int .i64 0, .int .i64 0, .int .u32 0] 27)
  have hk6 := HK.out.alloc (.cells #[.int .i64 3, .int .i64 0, .int .i64 0, .int .u32 0] 27)
  rw [hw6] at hm6 hk6
  rw [hw6]
  clear HM HK hw6
  refine (ownq_next w.heap.size w.heap.size _ 2 ⟨0, 0, 0, 0, 0⟩ true _ w hm6 hk6 rfl rfl).mono ?_
  rintro e w7 ⟨rfl, hm, hk, hk7⟩
  have hn7 := hk7.at hn6 (fun h => h)
  clear hm6 hk6 hn6 hk7
  have HM := Lib.hid hm
  have HK := Lib.hid hk
  have HN := Lib.hid hn7
  clear hm hk
  rw [show scan (QN.wait ⟨0, 0, 0, 0, 0⟩) true ([⟨g1, 1, 0, 0, 0⟩] ++ [⟨g3, 3, 0, 0, 0⟩]) = some ⟨g1, 1, 0, 0, 0⟩ from rfl]
  simp only [wv, qv, Option.isSome]
  have c7 : w7.cell? ⟨w5.heap.size, 0, none⟩ = some (.int .i64 3) := cell_of hn7 0
  have l7 := lt_of hn7
  clear hn7
  go_wp2_with fail
  obtain ⟨w8, hw8⟩ : ∃ w8, w7.alloc (.cells #[.int .i64 1, .int .i64 0, .int .i64 0, .int .u32 0] 27) = w8 := ⟨_, rfl⟩
  have hm8 := HM.out.alloc (.cells #[.int .i64 1, .int .i64 0, .int .i64 0, .int .u32 0] 27)
  have hk8 := HK.out.alloc (.cells #[.int .i64 1, .int .i64 0, .int .i64 0, .int .u32 0] 27)
  rw [hw8] at hm8 hk8
  rw [hw8]
  refine (ownq_len w.heap.size w.heap.size _ _ w hm8 hk8 (by simp)).mono ?_
  rintro e w9 ⟨rfl, hm, hk, _⟩
  clear HM HK
  have HK := Lib.hid hk
  clear hm hk hm8 hk8
  go_wp2
  go_ret
  exact ⟨rfl, HK.out.mono fun k h1 h2 => by omega⟩
end Go.Proofs.Ytfniicgfnlklbac
