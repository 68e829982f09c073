import Derived.Test.YtdbplamhpkahaaaQuC
import Derived.Test.YtdbplamhpkahaaaQuL
import Derived.Test.YtdbplamhpkahaaaRow
namespace Go.Proofs.Ytdbplamhpkahaaa
open Go.ChangeShapes Go.WideShapes Go.ChangeAt Go.RowKit
set_option linter.unusedVariables false
theorem queue_made (w : World) : IsQ (w.alloc (.cells #[.int .i64 0, .int .i64 0, .int .i64 0, .int .u32 0, .pointer none, .pointer none] 61)) w.heap.size [] false :=
  ⟨heap_new _ _, fun i x hi => by simp at hi, fun i j a b hi => by simp at hi, fun _ => rfl⟩
theorem keeps_of_below {w w' : World} {B : Nat} (h : Below B w w') (hB : w.heap.size ≤ B) (S : Nat → Prop) : Keeps S w w' := ⟨h.os, h.tape, h.output, h.size, fun k hk _ => h.block k (by omega)⟩
/-- A queue of one's own: its blocks lie at or beyond B. -/
structure OwnQ (B : Nat) (w : World) (Q : Nat) (L : List QN) : Prop where
  ring : ∃ h, IsQ w Q L h
  lowQ : B ≤ Q
  low : ∀ x, x ∈ L → B ≤ x.g
theorem OwnQ.qp {B : Nat} {w : World} {Q : Nat} {L : List QN} (h : OwnQ B w Q L) : QP w (some ⟨Q, 0, none⟩) L := by
  obtain ⟨b, hq⟩ := h.ring
  exact .inr ⟨Q, b, rfl, hq⟩
theorem OwnQ.below {B : Nat} {w w' : World} {Q : Nat} {L : List QN} (h : OwnQ B w Q L) (hk : Below w.heap.size w w') : OwnQ B w' Q L := by
  obtain ⟨b, hq⟩ := h.ring
  exact ⟨⟨b, hq.below (Nat.le_refl _) hk⟩, h.lowQ, h.low⟩
theorem OwnQ.alloc {B : Nat} {w : World} {Q : Nat} {L : List QN} (h : OwnQ B w Q L) (o : Obj) : OwnQ B (w.alloc o) Q L := h.below ((Below.refl _ _).alloc (Nat.le_refl _) _)
theorem OwnQ.RS {B : Nat} {w : World} {Q : Nat} {L : List QN} (h : OwnQ B w Q L) {k : Nat} (hk : RS Q L k) : B ≤ k := by
  rcases hk with rfl | ⟨y, hy, rfl⟩
  · exact h.lowQ
  · exact h.low y hy
theorem ownq_add (B Q : Nat) (L : List QN) (t k o : Int) (m : Nat) (w w0 : World) (hq : OwnQ B w Q L) (hw : Keeps (fun j => B ≤ j) w0 w) (hB : B ≤ w0.heap.size) (ht : 0 ≤ t ∧ t < 16) (hf : fnd L t = none) :
    Calls Try.prog 31 #[.pointer (some ⟨Q, 0, none⟩), av t k o m] w fun e W' => e = .returned (.bool true) ∧ ∃ g, OwnQ B W' Q (L ++ [⟨g, t, k, o, m⟩]) ∧ Keeps (fun j => B ≤ j) w0 W' ∧ Keeps (RS Q L) w W' := by
  obtain ⟨b, hi⟩ := hq.ring
  refine (Add_yes Q L b t k o m w hi ht hf).mono ?_
  rintro e W' ⟨rfl, g, hg, h1, h2⟩
  refine ⟨rfl, g, ⟨⟨true, h1⟩, hq.lowQ, fun x hx => ?_⟩, hw.trans (h2.mono fun k _ hk => hq.RS hk), h2⟩
  rcases List.mem_append.1 hx with h3 | h3
  · exact hq.low x h3
  · simp at h3; subst h3; exact Nat.le_trans hB (Nat.le_trans hw.size hg)
theorem ownq_no (B Q : Nat) (L : List QN) (t k o : Int) (m : Nat) (w w0 : World) (hq : OwnQ B w Q L) (hw : Keeps (fun j => B ≤ j) w0 w) (ht : t < 0 ∨ 16 ≤ t ∨ fnd L t ≠ none) :
    Calls Try.prog 31 #[.pointer (some ⟨Q, 0, none⟩), av t k o m] w fun e W' => e = .returned (.bool false) ∧ OwnQ B W' Q L ∧ Keeps (fun j => B ≤ j) w0 W' ∧ Keeps (fun _ => False) w W' := by
  obtain ⟨b, hi⟩ := hq.ring
  have key : Calls Try.prog 31 #[.pointer (some ⟨Q, 0, none⟩), av t k o m] w fun e W' => e = .returned (.bool false) ∧ Below w.heap.size w W' := by
    by_cases h1 : t < 0 ∨ 16 ≤ t
    · exact Add_bad Q t k o m w h1
    · obtain ⟨y, hy⟩ : ∃ y, fnd L t = some y := by
        rcases ht with h | h | h
        · exact absurd (.inl h) h1
        · exact absurd (.inr h) h1
        · exact Option.ne_none_iff_exists'.1 h
      exact Add_twice Q L b t k o m w hi (by omega) y hy
  refine key.mono ?_
  rintro e W' ⟨rfl, h1⟩
  exact ⟨rfl, hq.below h1, hw.trans (keeps_of_below h1 (Nat.le_refl _) _), keeps_of_below h1 (Nat.le_refl _) _⟩
theorem ownq_rem (B Q : Nat) (P R : List QN) (x : QN) (t : Int) (w w0 : World) (hq : OwnQ B w Q (P ++ x :: R)) (hw : Keeps (fun j => B ≤ j) w0 w) (hx : x.t = t) (hP : ∀ y, y ∈ P → y.t ≠ t) :
    Calls Try.prog 33 #[.pointer (some ⟨Q, 0, none⟩), .int .i64 t] w fun e W' => e = .returned (.tuple #[qv x, .bool true]) ∧ OwnQ B W' Q (P ++ R) ∧ Keeps (fun j => B ≤ j) w0 W' ∧ Keeps (RS Q (P ++ x :: R)) w W' := by
  obtain ⟨b, hi⟩ := hq.ring
  refine (Remove_yes Q P R x b t w hi hx hP).mono ?_
  rintro e W' ⟨rfl, h1, h2⟩
  refine ⟨rfl, ⟨⟨true, h1⟩, hq.lowQ, fun y hy => hq.low y ?_⟩, hw.trans (h2.mono fun k _ hk => hq.RS hk), h2⟩
  simp at hy ⊢
  rcases hy with h | h
  · exact .inl h
  · exact .inr (.inr h)
theorem ownq_next (B Q : Nat) (L : List QN) (t : Int) (X : QN) (b0 : Bool) (w w0 : World) (hq : OwnQ B w Q L) (hw : Keeps (fun j => B ≤ j) w0 w) (hX : wv (fnd L t) = qv X) (hb : (fnd L t).isSome = !b0) :
    Calls Try.prog 34 #[.pointer (some ⟨Q, 0, none⟩), .int .i64 t] w fun e W' => e = .returned (.tuple #[wv (scan X.wait b0 L), .bool (scan X.wait b0 L).isSome]) ∧ OwnQ B W' Q L ∧ Keeps (fun j => B ≤ j) w0 W' ∧ Keeps (fun _ => False) w W' := by
  refine (Next_scan (some ⟨Q, 0, none⟩) L t X b0 w hq.qp hX hb).mono ?_
  rintro e W' ⟨rfl, h1⟩
  exact ⟨rfl, hq.below h1, hw.trans (keeps_of_below h1 (Nat.le_refl _) _), keeps_of_below h1 (Nat.le_refl _) _⟩
theorem ownq_len (B Q : Nat) (L : List QN) (w w0 : World) (hq : OwnQ B w Q L) (hw : Keeps (fun j => B ≤ j) w0 w) (hl : L.length < 1000000) :
    Calls Try.prog 35 #[.pointer (some ⟨Q, 0, none⟩)] w fun e W' => e = .returned (.int .i64 (L.length : Int)) ∧ OwnQ B W' Q L ∧ Keeps (fun j => B ≤ j) w0 W' ∧ Keeps (fun _ => False) w W' := by
  refine (Len_any (some ⟨Q, 0, none⟩) L w hq.qp hl).mono ?_
  rintro e W' ⟨rfl, h1⟩
  exact ⟨rfl, hq.below h1, hw.trans (keeps_of_below h1 (Nat.le_refl _) _), keeps_of_below h1 (Nat.le_refl _) _⟩
theorem ownq_made (w : World) : OwnQ w.heap.size (w.alloc (.cells #[.int .i64 0, .int .i64 0, .int .i64 0, .int .u32 0, .pointer none, .pointer none] 61)) w.heap.size [] :=
  ⟨⟨false, queue_made w⟩, Nat.le_refl _, fun x hx => by cases hx⟩
set_option maxRecDepth 20000 in
set_option maxHeartbeats 1000000 in
theorem alive25_any (w : World) : Calls Try.prog 30 #[] w fun e W' => e = .returned (.bool true) ∧ Keeps (fun _ => False) w W' := by
  have HM := Lib.hid (ownq_made w)
  have HK := Lib.hid (show Keeps (fun j => w.heap.size ≤ j) w (w.alloc (.cells #[.int .i64 0, .int .i64 0, .int .i64 0, .int .u32 0, .pointer none, .pointer none] 61)) from (Keeps.refl _ _).alloc _)
  go_enter Try.func30, Try.ntmps30
  go_wp2_with fail
  refine (ownq_add w.heap.size w.heap.size [] 1 0 0 0 _ w HM.out HK.out (Nat.le_refl _) (by omega) rfl).mono ?_
  rintro e w1 ⟨rfl, g1, hm, hk, _⟩
  clear HM HK
  have HM := Lib.hid hm
  have HK := Lib.hid hk
  clear hm hk
  go_wp2_with fail
  refine (ownq_add w.heap.size w.heap.size _ 2 0 0 0 _ w HM.out HK.out (Nat.le_refl _) (by omega) rfl).mono ?_
  rintro e w2 ⟨rfl, g2, hm, hk, _⟩
  clear HM HK
  have HM := Lib.hid hm
  have HK := Lib.hid hk
  clear hm hk
  go_wp2_with fail
  refine (ownq_add w.heap.size w.heap.size _ 3 0 0 0 _ w HM.out HK.out (Nat.le_refl _) (by omega) rfl).mono ?_
  rintro e w3 ⟨rfl, g3, hm, hk, _⟩
  clear HM HK
  have HM := Lib.hid hm
  have HK := Lib.hid hk
  clear hm hk
  go_wp2_with fail
  refine (ownq_rem w.heap.size w.heap.size [⟨g1, 1, 0, 0, 0⟩] [⟨g3, 3, 0, 0, 0⟩] ⟨g2, 2, 0, 0, 0⟩ 2 _ w HM.out HK.out rfl (by intro y hy; simp at hy; subst hy; exact (by decide : (1 : Int) ≠ 2))).mono ?_
  rintro e w4 ⟨rfl, hm, hk, _⟩
  clear HM HK
  have HM := Lib.hid hm
  have HK := Lib.hid hk
  clear hm hk
  go_wp2_with fail
  refine (ownq_next w.heap.size w.heap.size _ 1 ⟨g1, 1, 0, 0, 0⟩ false _ w HM.out HK.out rfl rfl).mono ?_
  rintro e w5 ⟨rfl, hm, hk, _⟩
  clear HM HK
  have HM := Lib.hid hm
  have HK := Lib.hid hk
  clear hm hk
  rw [show scan (QN.wait ⟨g1, 1, 0, 0, 0⟩) false ([⟨g1, 1, 0, 0, 0⟩] ++ [⟨g3, 3, 0, 0, 0⟩]) = some ⟨g3, 3, 0, 0, 0⟩ from rfl]
  simp only [wv, qv, Option.isSome]
  go_wp2_with fail
  obtain ⟨w6, hw6⟩ : ∃ w6, w5.alloc (.cells #[.int .i64 3, .int .i64 0, .int .i64 0, .int .u32 0] 56) = w6 := ⟨_, rfl⟩
  have hn6 : w6.heap[w5.heap.size]? = some (.cells #[.int .i64 3, .int .i64 0, .int .i64 0, .int .u32 0] 56 (0, 0)) := by rw [← hw6]; exact heap_new _ _
  have hm6 := HM.out.alloc (.cells #[.int .i64 3, .int .i64 0, .int .i64 0, .int .u32 0] 56)
  have hk6 := HK.out.alloc (.cells #[.int .i64 3, .int .i64 0, .int .i64 0, .int .u32 0] 56)
  rw [hw6] at hm6 hk6
  rw [hw6]
  clear HM HK hw6
  refine (ownq_next w.heap.size w.heap.size _ 2 ⟨0, 0, 0, 0, 0⟩ true _ w hm6 hk6 rfl rfl).mono ?_
  rintro e w7 ⟨rfl, hm, hk, hk7⟩
  have hn7 := hk7.at hn6 (fun h => h)
  clear hm6 hk6 hn6 hk7
  have HM := Lib.hid hm
  have HK := Lib.hid hk
  have HN := Lib.hid hn7
  clear hm hk
  rw [show scan (QN.wait ⟨0, 0, 0, 0, 0⟩) true ([⟨g1, 1, 0, 0, 0⟩] ++ [⟨g3, 3, 0, 0, 0⟩]) = some ⟨g1, 1, 0, 0, 0⟩ from rfl]
  simp only [wv, qv, Option.isSome]
  have c7 : w7.cell? ⟨w5.heap.size, 0, none⟩ = some (.int .i64 3) := cell_of hn7 0
  have l7 := lt_of hn7
  clear hn7
  go_wp2_with fail
  obtain ⟨w8, hw8⟩ : ∃ w8, w7.alloc (.cells #[.int .i64 1, .int .i64 0, .int .i64 0, .int .u32 0] 56) = w8 := ⟨_, rfl⟩
  have hm8 := HM.out.alloc (.cells #[.int .i64 1, .int .i64 0, .int .i64 0, .int .u32 0] 56)
  have hk8 := HK.out.alloc (.cells #[.int .i64 1, .int .i64 0, .int .i64 0, .int .u32 0] 56)
  rw [hw8] at hm8 hk8
  rw [hw8]
  refine (ownq_len w.heap.size w.heap.size _ _ w hm8 hk8 (by simp)).mono ?_
  rintro e w9 ⟨rfl, hm, hk, _⟩
  clear HM HK
  have HK := Lib.hid hk
  clear hm hk hm8 hk8
  go_wp2
  go_ret
  exact ⟨rfl, HK.out.mono fun k h1 h2 => by omega⟩
end Go.Proofs.Ytdbplamhpkahaaa
namespace Go.Proofs.Ytdbplamhpkahaaa
open Go.RowKit Go.Shelf
set_option linter.unusedVariables false
attribute [local go_sem] Oper.semAt_some
attribute [local go_sem ↓ 2000] app_pre
attribute [local go_sem] app_run
def ofs (L : List QN) (obj : Int) : List QN := L.filter fun x => x.o == obj
theorem ofs_le (L : List QN) (obj : Int) : (ofs L obj).length ≤ L.length := List.length_filter_le _ _
theorem ofs_hit (L : List QN) (obj : Int) (x : QN) (h : x.o = obj) : ofs (L ++ [x]) obj = ofs L obj ++ [x] := by simp [ofs, h]
theorem ofs_miss (L : List QN) (obj : Int) (x : QN) (h : x.o ≠ obj) : ofs (L ++ [x]) obj = ofs L obj := by simp [ofs, h]
set_option maxRecDepth 100000 in
set_option maxHeartbeats 2000000 in
theorem Of_any (p : Option Addr) (L : List QN) (obj : Int) (w : World) (hQ : QP w p L) (hlen : L.length < 1000000) :
    Calls Try.prog 38 #[.pointer p, .int .i64 obj] w fun e W' => ∃ v, e = .returned v ∧ W'.ownsRow w.heap.size 56 4 v (ofs L obj).length (flatN (ofs L obj)) ∧ Below w.heap.size w W' := by
  have hf : Fence.wide.fn 73 := trivial
  refine (callsIn_wide (n := 9)).1 ?_
  refine callsIn_of_wp_marks Try.func38 rfl trivial ?_ rfl
  simp only [Try.ntmps38, List.size_toArray, List.length_cons, List.length_nil, Nat.reduceAdd, Nat.reduceSub, Array.replicate_succ, Array.replicate_zero, List.push_toArray, List.append_toArray, List.nil_append, List.cons_append]
  gi_wp2_with (gi_at_call 73; refine (links_in _ _ _).mono ?_; rintro e w' ⟨rfl, rfl⟩)
  have bo := Boxed.new w 3 (.int .i64 obj)
  have b0 := Boxed.new (w.alloc (.cells #[.int .i64 obj] 3)) 66 (.slice none 0 0)
  have b2 := Boxed.new ((w.alloc (.cells #[.int .i64 obj] 3)).alloc (.cells #[.slice none 0 0] 66)) 54 (.pointer p)
  simp only [World.size_alloc] at b0 b2
  have hB0 : Below w.heap.size w (((w.alloc (.cells #[.int .i64 obj] 3)).alloc (.cells #[.slice none 0 0] 66)).alloc (.cells #[.pointer p] 54)) := (((Below.refl _ w).alloc (Nat.le_refl _) _).alloc (by simp) _).alloc (by simp; omega) _
  refine wpIn_rangeFunc_ownG (n := 9) (F := Fence.wide) rfl (by decide) (gf := 85) (lb := #[.pointer (some ⟨w.heap.size + 1 + 1, 0, none⟩)]) rfl trivial (enters_of Try.func85 (by kernel_rfl) rfl)
    (links_stops (9 - 1) (by decide) (w.heap.size + 1 + 1) w.heap.size w _ (Nat.le_refl _) (by simp; omega) p L hQ hB0 b2) KQ.t (KQ.b (by simp; omega)) (Below.refl _ _) (fun _ => rfl)
    (fun pre W => ((∃ v, Boxed W (w.heap.size + 1) 66 v ∧ W.ownsRow w.heap.size 56 4 v (ofs (pre.map (fun x => x.1)) obj).length (flatN (ofs (pre.map (fun x => x.1)) obj)) ∧ True) ∧ Boxed W w.heap.size 3 (.int .i64 obj)) ∧ Below w.heap.size w W)
    (fun _ _ _ => False)
    (OwnFrom.and (OwnFrom.and (Own.from (holdsRow_own w.heap.size (w.heap.size + 1) 66 56 4 (fun pre : List {x : QN // x ∈ L} => (ofs (pre.map (fun x => x.1)) obj).length) (fun pre => flatN (ofs (pre.map (fun x => x.1)) obj)) (fun _ _ => True)) _) (Own.from (boxed_own _ _ _) _)) (ownFrom_below (Nat.le_refl _) (by simp; omega)))
    (fun _ _ _ _ _ hs _ _ => hs)
    ⟨⟨⟨_, b0.alloc _, World.ownsRow_nil _ _ _ _, trivial⟩, (bo.alloc _).alloc _⟩, hB0⟩
    (fun x => { tmps := #[.pointer p, .int .i64 obj, undef, .pointer (some ⟨w.heap.size, 0, none⟩), .slice none 0 0, .pointer (some ⟨w.heap.size + 1, 0, none⟩), .pointer (some ⟨x.1.g, 0, none⟩), .pointer p, .func (.func 85) #[] #[.pointer (some ⟨w.heap.size + 1 + 1, 0, none⟩)], .pointer (some ⟨x.1.g, 0, none⟩), undef, undef, undef, undef, undef, undef, undef, undef, undef, undef, undef, undef, undef, undef, undef], defers := [] }) ?assign ?body ?done ?stop
  case assign =>
    intro l x W K hK
    gi_wp2
    exact hK
  case body =>
    rintro l pre x W ⟨⟨⟨v, hv, hrow, _⟩, hbo⟩, hB⟩ hpl
    obtain ⟨nn, pp, hnd⟩ := (hQ.below (Nat.le_refl _) hB).node x.2
    have hml : (ofs (pre.map (fun x => x.1)) obj).length < 1000000 := by have := ofs_le (pre.map (fun x => x.1)) obj; simp at hpl this ⊢; omega
    obtain ⟨g, cap, w1, hrun, h1, h2, h3, h4, h5, h6⟩ := app_wait (W := W.drew) x.1 hv hrow hB.size (Nat.le_succ _) hml
    have c0 := hv.cell
    have l0 := hv.lt
    have c0a := (hv.alloc (.cells #[.int .i64 x.1.t, .int .i64 x.1.k, .int .i64 x.1.o, .int .u32 (x.1.m : Int)] 56)).cell
    have cbo := hbo.cell
    rw [show (W.drew.alloc (.cells #[.int .i64 x.1.t, .int .i64 x.1.k, .int .i64 x.1.o, .int .u32 (x.1.m : Int)] 56)).drew = (W.alloc (.cells #[.int .i64 x.1.t, .int .i64 x.1.k, .int .i64 x.1.o, .int .u32 (x.1.m : Int)] 56)).drew.drew from rfl, show W.drew.heap.size = W.heap.size from rfl] at hrun
    have c1 := h1.cell
    have f1 := h1.frozen
    have l1 := h1.lt
    have x0 : W.cell? ⟨x.1.g, 0, none⟩ = some (.int .i64 x.1.t) := cell_of hnd 0
    have x1 : W.cell? ⟨x.1.g, 1, none⟩ = some (.int .i64 x.1.k) := cell_of hnd 1
    have x2 : W.cell? ⟨x.1.g, 2, none⟩ = some (.int .i64 x.1.o) := cell_of hnd 2
    have x3 : W.cell? ⟨x.1.g, 3, none⟩ = some (.int .u32 (x.1.m : Int)) := cell_of hnd 3
    have lx := lt_of hnd
    have hmx : Try.prog.follows .mixedOrders = true := by kernel_rfl
    generalize hnl : (ofs (pre.map (fun x => x.1)) obj).length = nl at *
    have HB := Lib.hid (And.intro hB (And.intro h2 (And.intro h3 (And.intro h4 (And.intro h5 (And.intro h6 (And.intro hbo (And.intro hv (And.intro hrow hnl)))))))))
    clear hB h2 h3 h4 h5 h6 hv hrow h1 hnd hpl hml hbo hnl
    gi_wp2
    gi_region_o
    all_goals gi_wp2
    all_goals (try go_bits)
    all_goals first
      | (have hx : x.1.o ≠ obj := by simpa using ‹(x.1.o == obj) = false›
         obtain ⟨hB, h2, h3, h4, h5, h6, hbo, hv, hrow, hnl⟩ := HB.out
         exact ⟨(KeepsOthers.drew _).from _, ⟨(Below.refl _ _).drew, fun v hv => hv.drew⟩, ⟨⟨v, hv.drew, by rw [List.map_append]; show World.ownsRow _ _ _ _ _ (ofs (_ ++ [x.1]) obj).length (flatN (ofs (_ ++ [x.1]) obj)); rw [ofs_miss _ _ _ hx, hnl]; exact hrow, trivial⟩, hbo.drew⟩, hB.drew⟩)
      | (rename_i hh
         have HX := Lib.hid (show x.1.o = obj by simpa using hh)
         clear hh
         gi_region_o
         all_goals gi_wp2
         all_goals
           obtain ⟨hB, h2, h3, h4, h5, h6, hbo, hv, hrow, hnl⟩ := HB.out
           exact ⟨((KeepsOthers.drew _).trans h4).from _, ⟨(Below.refl _ _).drew.trans h5, fun u hu => h6 _ _ u (by omega) (by decide) hu⟩, ⟨⟨_, h2, by rw [List.map_append]; show World.ownsRow _ _ _ _ _ (ofs (_ ++ [x.1]) obj).length (flatN (ofs (_ ++ [x.1]) obj)); rw [ofs_hit _ _ _ HX.out]; exact h3, trivial⟩, h6 _ _ _ (by omega) (by decide) hbo⟩, (hB.drew).trans h5⟩)
  case done =>
    rintro D ys W hD rfl ⟨⟨⟨v, hv, hrow, _⟩, _⟩, hB⟩ hK
    have hc := hv.cell
    gi_wp2
    refine ⟨by simp, .inl ⟨_, _, rfl, run_takeDeferred hK, ?_⟩⟩
    rw [map_attach] at hrow
    exact ⟨_, results_tmp rfl _ _ _, v, rfl, ownsRow_putObj hrow _ hK rfl, hB.trans (belowK_b (w := w) (Nat.le_refl _) W D _ _ (by simp at hD; omega) hK rfl rfl)⟩
  case stop =>
    rintro D c pre W _ _ h _
    exact h.elim
end Go.Proofs.Ytdbplamhpkahaaa
namespace Go.Proofs.Ytdbplamhpkahaaa
open Go.ChangeShapes Go.WideShapes Go.ChangeAt Go.RowKit
set_option linter.unusedVariables false
/-- The tasks, as numbers. -/
def tv (L : List QN) : List Value := L.map fun x => Value.int .i64 x.t
theorem tv_len (L : List QN) : (tv L).length = L.length := by simp [tv]
theorem tv_get {L : List QN} {i : Nat} {x : QN} (h : L[i]? = some x) : (tv L)[i]? = some (.int .i64 x.t) := by simp [tv, h]
theorem tv_snoc (L : List QN) (x : QN) : tv (L ++ [x]) = tv L ++ [.int .i64 x.t] := by simp [tv]
theorem owns_keeps {w w' : World} {S : Nat → Prop} {B E s n : Nat} {v : Value} {xs : List Value} (h : w.ownsRow B E s v n xs) (hk : Keeps S w w') (hS : ∀ k, S k → ∀ cs, w.heap[k]? ≠ some (.cells cs E (0, 0))) : w'.ownsRow B E s v n xs := by
  obtain ⟨h1, h | ⟨g, cap, cur, rfl, hg, hb, hc1, hc2, hs, ht⟩⟩ := h
  · exact ⟨h1, .inl h⟩
  · exact ⟨h1, .inr ⟨g, cap, cur, rfl, hg, hk.at hb (fun hs => hS g hs cur hb), hc1, hc2, hs, ht⟩⟩
theorem owns_cell {w : World} {B E n : Nat} {a : Option Addr} {c : Nat} {xs : List Value} (h : w.ownsRow B E 1 (.slice a n c) n xs) {q : Nat} (hq : q < n) : ∃ b, a = some ⟨b, 0, none⟩ ∧ b < w.heap.size ∧ w.cell? ⟨b, q, none⟩ = xs[q]? := by
  obtain ⟨h1, h | ⟨g, cap, cur, e, hg, hb, hc1, hc2, hs, ht⟩⟩ := h
  · omega
  · cases e
    refine ⟨g, rfl, lt_of hb, ?_⟩
    rw [cell_of hb q, ← ht, List.getElem?_take, if_pos (by omega)]
    simp
theorem owns_base {w : World} {B B' E s n : Nat} {v : Value} {xs : List Value} (h : w.ownsRow B E s v n xs) (hB : B' ≤ B) : w.ownsRow B' E s v n xs := by
  obtain ⟨h1, h | ⟨g, cap, cur, rfl, hg, r⟩⟩ := h
  · exact ⟨h1, .inl h⟩
  · exact ⟨h1, .inr ⟨g, cap, cur, rfl, by omega, r⟩⟩
theorem keeps_grown {w w' : World} {r : Option Nat} (h : w.grownBy w' r) : Keeps (fun k => some k = r) w w' := ⟨h.os, h.tape, h.output, h.size, fun k hk hs => h.block k hk hs⟩
theorem info_int : (Try.prog.info? 3).map (fun i => (i.zero, i.size, i.bytes)) = some (some (.int .i64 0), 1, 8) := by kernel_rfl
/-- 'append(row, x)' of a number: the run, the new row; what else there was stands. -/
theorem app_int {W : World} {B : Nat} {v : Value} {n : Nat} {xs : List Value} (x : Int) (hrow : W.ownsRow B 3 1 v n xs) (hB : B ≤ W.heap.size) (hn : n < 1000000) :
    ∃ g cap w1, appRun Try.prog #[22, 22] 22 #[v, .slice (some ⟨W.heap.size, 0, none⟩) 1 1] (W.alloc (.cells #[.int .i64 x] 3)) = .ok (.slice (some ⟨g, 0, none⟩) (n + 1) cap) w1 ∧
      w1.ownsRow B 3 1 (.slice (some ⟨g, 0, none⟩) (n + 1) cap) (n + 1) (xs ++ [.int .i64 x]) ∧ Keeps (fun k => B ≤ k ∧ ∃ cs, W.heap[k]? = some (.cells cs 3 (0, 0))) W w1 := by
  obtain ⟨i0, hi, hz0, hz1, hz2⟩ := info_parts info_int
  obtain ⟨v', w1, hrun, hown, hgrow, _⟩ := run_append_own (P := Try.prog) (W.alloc (.cells #[.int .i64 x] 3)) B 22 22 3 i0 _ 1 8 Try.underlying22 hi hz0 hz1 hz2 rfl (by decide) v n xs (hrow.alloc _) ⟨W.heap.size, 0, none⟩ 1 1 [.int .i64 x] rfl (new_one _ _ _) (by simp [Value.oneCell']) (by unfold maxLen; omega) (by omega) (by rw [World.size_alloc]; exact Nat.le_succ_of_le hB)
  obtain ⟨g, cap, rfl⟩ := ownsRow_succ hown
  refine ⟨g, cap, w1, hrun, hown, ?_⟩
  have h1 := keeps_grown hgrow
  refine ⟨h1.os, h1.tape, h1.output, Nat.le_trans (by simp) h1.size, fun k hk hs => ?_⟩
  rw [h1.block k (by simp; omega) ?_, Below.heap_alloc _ _ _ hk]
  intro e
  obtain ⟨_, h | ⟨g', cap', cur, rfl, hg, hb, _⟩⟩ := hrow
  · rw [h.1] at e; cases e
  · simp [Value.ownBlock] at e
    subst e
    exact hs ⟨hg, cur, hb⟩
theorem OwnQ.ints {B : Nat} {w w' : World} {Q : Nat} {L : List QN} (h : OwnQ B w Q L) {P : Nat → Prop} (hk : Keeps (fun k => P k ∧ ∃ cs, w.heap[k]? = some (.cells cs 3 (0, 0))) w w') : OwnQ B w' Q L := by
  obtain ⟨b, hq⟩ := h.ring
  refine ⟨⟨b, hq.keeps hk ?_ ?_⟩, h.lowQ, h.low⟩
  · rintro ⟨_, cs, h1⟩
    rw [hq.head] at h1; injection h1 with h1; injection h1 with _ h1 _; exact absurd h1 (by decide)
  · rintro i x hx ⟨_, cs, h1⟩
    rw [hq.node i x hx] at h1; injection h1 with h1; injection h1 with _ h1 _; exact absurd h1 (by decide)
theorem RS_int {w : World} {Q : Nat} {L : List QN} {h : Bool} (hq : IsQ w Q L h) : ∀ k, RS Q L k → ∀ cs, w.heap[k]? ≠ some (.cells cs 3 (0, 0)) := by
  intro k hk cs e
  obtain ⟨c2, h1 | h1⟩ := RS_cells hq hk <;> (rw [e] at h1; injection h1 with h1; injection h1 with _ h1 _; exact absurd h1 (by decide))
/-- The waits of a queue as the laws make them. -/
structure Good (L : List QN) : Prop where
  rng : ∀ x, x ∈ L → 0 ≤ x.t ∧ x.t < 16
  one : (L.map fun x => x.t).Nodup
theorem good_nil : Good [] := ⟨fun x hx => (by cases hx), by simp⟩
theorem good_add {L : List QN} (h : Good L) (x : QN) (hx : 0 ≤ x.t ∧ x.t < 16) (hf : fnd L x.t = none) : Good (L ++ [x]) := by
  refine ⟨fun y hy => ?_, ?_⟩
  · rcases List.mem_append.1 hy with h1 | h1
    · exact h.rng y h1
    · simp at h1; subst h1; exact hx
  · rw [List.map_append, List.nodup_append]
    refine ⟨h.one, by simp, ?_⟩
    intro a ha b hb
    simp at hb
    subst hb
    obtain ⟨y, hy, rfl⟩ := List.mem_map.1 ha
    have := List.find?_eq_none.1 hf y hy
    simpa using this
theorem good_apart {P R : List QN} {x : QN} (h : Good (P ++ x :: R)) : (∀ y, y ∈ P → y.t ≠ x.t) ∧ ∀ y, y ∈ R → y.t ≠ x.t := by
  have h1 := h.one
  rw [List.map_append, List.map_cons, List.nodup_append] at h1
  obtain ⟨_, h2, h3⟩ := h1
  rw [List.nodup_cons] at h2
  exact ⟨fun y hy => h3 y.t (List.mem_map.2 ⟨y, hy, rfl⟩) x.t (by simp), fun y hy e => h2.1 (List.mem_map.2 ⟨y, hy, e⟩)⟩
theorem good_drop {P R : List QN} {x : QN} (h : Good (P ++ x :: R)) : Good (P ++ R) := by
  refine ⟨fun y hy => h.rng y ?_, ?_⟩
  · simp at hy ⊢
    rcases hy with h1 | h1
    · exact .inl h1
    · exact .inr (.inr h1)
  · refine List.Nodup.sublist ?_ h.one
    exact ((List.Sublist.refl P).append (List.sublist_cons_self x R)).map _
/-- What is left where a task has gone. -/
def wo (L : List QN) (g : Int) : List QN := L.filter fun x => x.t != g
theorem wo_drop {P R : List QN} {x : QN} (h : Good (P ++ x :: R)) : wo (P ++ x :: R) x.t = P ++ R := by
  obtain ⟨h1, h2⟩ := good_apart h
  have e1 : P.filter (fun y => y.t != x.t) = P := List.filter_eq_self.2 fun a ha => by simpa using h1 a ha
  have e2 : R.filter (fun y => y.t != x.t) = R := List.filter_eq_self.2 fun a ha => by simpa using h2 a ha
  rw [wo, List.filter_append, List.filter_cons, e1, e2]
  simp
theorem wo_none {L : List QN} {g : Int} (h : fnd L g = none) : wo L g = L := by
  rw [wo, List.filter_eq_self]
  intro x hx
  have := List.find?_eq_none.1 h x hx
  simpa using this
theorem wo_take_hit {L : List QN} {g : Int} {q : Nat} {x : QN} (hx : L[q]? = some x) (h : x.t ≠ g) : wo (L.take (q + 1)) g = wo (L.take q) g ++ [x] := by
  rw [List.take_add_one, hx, wo, List.filter_append]; simp [wo, h]
theorem wo_take_miss {L : List QN} {g : Int} {q : Nat} {x : QN} (hx : L[q]? = some x) (h : x.t = g) : wo (L.take (q + 1)) g = wo (L.take q) g := by
  rw [List.take_add_one, hx, wo, List.filter_append]; simp [wo, h]
theorem wo_le (L : List QN) (g : Int) : (wo L g).length ≤ L.length := List.length_filter_le _ _
theorem joinAll_good {L : List QN} (h : (L.map fun x => x.t).Nodup) : joinAll (L.map QN.wait) = L.map QN.wait := by
  have key : ∀ (R P : List QN), ((P ++ R).map fun x => x.t).Nodup → (R.map QN.wait).foldl joinW (P.map QN.wait) = (P ++ R).map QN.wait := by
    intro R
    induction R with
    | nil => intro P _; simp
    | cons x R ih =>
      intro P hn
      rw [List.map_cons, List.foldl_cons]
      have h1 : joinW (P.map QN.wait) x.wait = (P ++ [x]).map QN.wait := by
        rw [joinW, if_neg]
        · simp
        · rw [List.any_map]
          simp only [List.any_eq_true, not_exists, not_and]
          intro y hy e
          rw [List.map_append, List.map_cons, List.nodup_append] at hn
          have := hn.2.2 y.t (List.mem_map.2 ⟨y, hy, rfl⟩) x.t (by simp)
          exact this (by simpa [QN.wait] using e)
      rw [h1, ih (P ++ [x]) (by simpa using hn)]
      simp
  exact key L [] (by simpa using h)
/-- The task of the wait ahead of place k. -/
def atT (L : List QN) : Nat → Int
  | 0 => -1
  | k + 1 => match L[k]? with | some x => x.t | none => 0
theorem atT_succ {L : List QN} {k : Nat} {x : QN} (h : L[k]? = some x) : atT L (k + 1) = x.t := by simp [atT, h]
theorem scan_true (v : Int × Int × Int × Nat) (L : List QN) : scan v true L = L[0]? := by cases L <;> rfl
theorem scan_split (x : QN) : ∀ (A B : List QN), (∀ y, y ∈ A → y.wait ≠ x.wait) → scan x.wait false (A ++ x :: B) = B[0]?
  | [], B, _ => by
    show scan x.wait (decide (x.wait = x.wait)) B = _
    rw [decide_eq_true rfl, scan_true]
  | a :: A, B, h => by
    show scan x.wait (decide (a.wait = x.wait)) (A ++ x :: B) = _
    rw [decide_eq_false (h a (by simp))]
    exact scan_split x A B fun y hy => h y (by simp [hy])
theorem next_at {L : List QN} (hg : Good L) (k : Nat) (hk : k ≤ L.length) : ∃ X b0, wv (fnd L (atT L k)) = qv X ∧ (fnd L (atT L k)).isSome = !b0 ∧ scan X.wait b0 L = L[k]? := by
  cases k with
  | zero =>
    have hf : fnd L (-1) = none := by
      rw [fnd, List.find?_eq_none]
      intro x hx
      have := hg.rng x hx
      simp; omega
    refine ⟨⟨0, 0, 0, 0, 0⟩, true, ?_, ?_, scan_true _ _⟩
    · show wv (fnd L (-1)) = _
      rw [hf]; rfl
    · show (fnd L (-1)).isSome = _
      rw [hf]; rfl
  | succ k =>
    obtain ⟨x, hx⟩ : ∃ x, L[k]? = some x := ⟨_, List.getElem?_eq_getElem (by omega)⟩
    have hs : L = L.take k ++ x :: L.drop (k + 1) := by
      have := List.getElem?_eq_some_iff.1 hx
      obtain ⟨h1, rfl⟩ := this
      simp
    have ha := good_apart (hs ▸ hg)
    have hf : fnd L x.t = some x := by
      rw [hs]
      exact fnd_of_split rfl ha.1
    rw [atT_succ hx, hf]
    refine ⟨x, false, rfl, rfl, ?_⟩
    have := scan_split x (L.take k) (L.drop (k + 1)) (fun y hy e => ha.1 y hy (congrArg (fun v => v.1) e))
    rw [← hs] at this
    rw [this]
    simp
end Go.Proofs.Ytdbplamhpkahaaa
