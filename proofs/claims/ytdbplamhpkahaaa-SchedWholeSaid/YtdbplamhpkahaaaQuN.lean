import Derived.Test.YtdbplamhpkahaaaQuG
import Derived.Test.YtdbplamhpkahaaaQuE
namespace Go.Proofs.Ytdbplamhpkahaaa
open Go.RowKit Go.Shelf
set_option linter.unusedVariables false
attribute [local go_sem] Oper.semAt_some
attribute [local go_sem ↓ 2000] eqw
/-- A block of cells that stays as it is, for the law on ranges. -/
theorem cells_own {β : Type} (B : Nat) (cs : Array Value) (t : TypeId) : Own (fun (_ : β) W => W.heap[B]? = some (.cells cs t (0, 0))) := fun s X Y row hs hg hrow => by
  refine (hg.block B (lt_of hs) (fun e => ?_)).trans hs
  obtain ⟨o, ho, hc⟩ := hrow B e.symm
  rw [hs] at ho; cases ho; cases hc
/-- What Next looks for: the wait behind the first one that is v, or the first one of all. -/
def scan (v : Int × Int × Int × Nat) : Bool → List QN → Option QN
  | _, [] => none
  | true, y :: _ => some y
  | false, y :: L => scan v (decide (y.wait = v)) L
set_option maxRecDepth 100000 in
set_option maxHeartbeats 2000000 in
theorem Next_scan (p : Option Addr) (L : List QN) (task : Int) (X : QN) (b0 : Bool) (w : World) (hQ : QP w p L) (hX : wv (fnd L task) = qv X) (hb : (fnd L task).isSome = !b0) :
    Calls Try.prog 34 #[.pointer p, .int .i64 task] w fun e W' => e = .returned (.tuple #[wv (scan X.wait b0 L), .bool (scan X.wait b0 L).isSome]) ∧ Below w.heap.size w W' := by
  have hf1 : Fence.wide.fn 73 := trivial
  have hf2 : Fence.wide.fn 37 := trivial
  obtain ⟨w1, hw1⟩ : ∃ w1, (w.alloc (.cells #[.int .i64 0, .int .i64 0, .int .i64 0, .int .u32 0] 56)).alloc (.cells #[.bool false] 4) = w1 := ⟨_, rfl⟩
  have hz : w1.heap.size = w.heap.size + 2 := by rw [← hw1]; simp
  have hb1 : Below w.heap.size w w1 := by rw [← hw1]; exact ((Below.refl _ _).alloc (Nat.le_refl _) _).alloc (by simp) _
  have hn1 : w1.heap[w.heap.size]? = some (.cells #[.int .i64 0, .int .i64 0, .int .i64 0, .int .u32 0] 56 (0, 0)) := by rw [← hw1]; exact heap_old (heap_new _ _) _
  have hr1 : Boxed w1 (w.heap.size + 1) 4 (.bool false) := by
    rw [← hw1]
    have := Boxed.new (w.alloc (.cells #[.int .i64 0, .int .i64 0, .int .i64 0, .int .u32 0] 56)) 4 (.bool false)
    simpa using this
  have hF := Find_any p L task w1 (hQ.below (Nat.le_refl _) hb1)
  rw [hX, hb] at hF
  have HF := Lib.hid hF
  have HW := Lib.hid (And.intro hz (And.intro hb1 (And.intro hn1 hr1)))
  clear hF hz hb1 hn1 hr1 hX hb
  refine (callsIn_wide (n := 9)).1 ?_
  refine callsIn_of_wp_marks Try.func34 rfl trivial ?_ rfl
  simp only [Try.ntmps34, List.size_toArray, List.length_cons, List.length_nil, Nat.reduceAdd, Nat.reduceSub, Array.replicate_succ, Array.replicate_zero, List.push_toArray, List.append_toArray, List.nil_append, List.cons_append]
  gi_wp2_with fail
  refine (callsIn_wide.2 HF.out).mono ?_
  rintro e w2 ⟨rfl, k2⟩
  unfold qv
  obtain ⟨hz, hb1, hn1, hr1⟩ := HW.out
  have hb2 := hb1.trans (k2.mono (by rw [hz]; omega))
  have hn2 := at_below k2 hn1 (by rw [hz]; omega)
  have hr2 : Boxed w2 (w.heap.size + 1) 4 (.bool false) := at_below k2 hr1 (by rw [hz]; omega)
  have hs2 : w.heap.size + 1 < w2.heap.size := lt_of hr2
  have HH := Lib.hid (And.intro hb2 (And.intro hn2 (And.intro hr2 hs2)))
  clear k2 hz hb1 hn1 hr1 hb2 hn2 hr2 hs2
  gi_wp2_with (gi_at_call 73; refine (links_in _ _ _).mono ?_; rintro e w' ⟨rfl, rfl⟩)
  obtain ⟨hb2, hn2, hr2, hs2⟩ := HH.out
  obtain ⟨w3, hw3⟩ : ∃ w3, (((w2.alloc (.cells #[.int .i64 X.t, .int .i64 X.k, .int .i64 X.o, .int .u32 (X.m : Int)] 56)).alloc (.cells #[.bool b0] 4)).alloc (.cells #[.pointer p] 54)) = w3 := ⟨_, rfl⟩
  have hs3 : w3.heap.size = w2.heap.size + 3 := by rw [← hw3]; simp
  have hb3 : Below w.heap.size w w3 := by rw [← hw3]; exact ((hb2.alloc hb2.size _).alloc (Nat.le_trans hb2.size (by simp)) _).alloc (Nat.le_trans hb2.size (by simp; omega)) _
  have hb23 : Below w2.heap.size w2 w3 := by rw [← hw3]; exact (((Below.refl _ _).alloc (Nat.le_refl _) _).alloc (by simp) _).alloc (by simp; omega) _
  have hn3 := at_below hb23 hn2 (by omega)
  have hr3 : Boxed w3 (w.heap.size + 1) 4 (.bool false) := at_below hb23 hr2 hs2
  have hx3 : w3.heap[w2.heap.size]? = some (.cells #[.int .i64 X.t, .int .i64 X.k, .int .i64 X.o, .int .u32 (X.m : Int)] 56 (0, 0)) := by rw [← hw3]; exact heap_old (heap_old (heap_new _ _) _) _
  have hd3 : Boxed w3 (w2.heap.size + 1) 4 (.bool b0) := by
    rw [← hw3]
    have := (Boxed.new (w2.alloc (.cells #[.int .i64 X.t, .int .i64 X.k, .int .i64 X.o, .int .u32 (X.m : Int)] 56)) 4 (.bool b0)).alloc (.cells #[.pointer p] 54)
    simpa using this
  have hq3 : Boxed w3 (w2.heap.size + 1 + 1) 54 (.pointer p) := by
    rw [← hw3]
    have := Boxed.new ((w2.alloc (.cells #[.int .i64 X.t, .int .i64 X.k, .int .i64 X.o, .int .u32 (X.m : Int)] 56)).alloc (.cells #[.bool b0] 4)) 54 (.pointer p)
    simpa using this
  rw [hw3]
  clear hw3 hb2 hn2 hr2
  refine wpIn_rangeFunc_ownG (n := 9) (F := Fence.wide) rfl (by decide) (gf := 85) (lb := #[.pointer (some ⟨w2.heap.size + 1 + 1, 0, none⟩)]) rfl trivial (enters_of Try.func85 (by kernel_rfl) rfl)
    (links_stops (9 - 1) (by decide) (w2.heap.size + 1 + 1) w.heap.size w _ (Nat.le_refl _) hb3.size p L hQ hb3 hq3) KQ.t (KQ.b hb3.size) (Below.refl _ _) (fun _ => rfl)
    (fun pre W => (W.heap[w.heap.size]? = some (.cells #[.int .i64 0, .int .i64 0, .int .i64 0, .int .u32 0] 56 (0, 0)) ∧ Boxed W (w.heap.size + 1) 4 (.bool false) ∧ W.heap[w2.heap.size]? = some (.cells #[.int .i64 X.t, .int .i64 X.k, .int .i64 X.o, .int .u32 (X.m : Int)] 56 (0, 0)) ∧ ∃ b, Boxed W (w2.heap.size + 1) 4 (.bool b) ∧ ∀ R, scan X.wait b0 (pre.map (fun x => x.1) ++ R) = scan X.wait b R) ∧ Below w.heap.size w W)
    (fun c pre W => (c = .ret ∧ ∃ (z : QN), (∀ R, scan X.wait b0 (pre.map (fun x => x.1) ++ R) = some z) ∧ W.heap[w.heap.size]? = some (.cells #[.int .i64 z.t, .int .i64 z.k, .int .i64 z.o, .int .u32 (z.m : Int)] 56 (0, 0)) ∧ Boxed W (w.heap.size + 1) 4 (.bool true)) ∧ Below w.heap.size w W)
    (OwnFrom.and (OwnFrom.and (Own.from (cells_own _ _ _) _) (OwnFrom.and (Own.from (boxed_own _ _ _) _) (OwnFrom.and (Own.from (cells_own _ _ _) _) (Own.from (fun s A B row hs hg hr => by
      obtain ⟨b, h1, h2⟩ := hs
      exact ⟨b, boxed_own (β := Unit) _ _ (fun _ => .bool b) () A B row h1 hg hr, h2⟩) _)))) (ownFrom_below (Nat.le_refl _) hb3.size))
    (fun c => OwnFrom.and (Own.from (fun s A B row hs hg hr => by
      obtain ⟨h0, z, h1, h2, h3⟩ := hs
      exact ⟨h0, z, h1, cells_own (β := Unit) _ _ _ () A B row h2 hg hr, boxed_own (β := Unit) _ _ (fun _ => .bool true) () A B row h3 hg hr⟩) _) (ownFrom_below (Nat.le_refl _) hb3.size))
    ⟨⟨hn3, hr3, hx3, b0, hd3, fun R => rfl⟩, hb3⟩
    (fun x => { tmps := #[.pointer p, .int .i64 task, undef, undef, .pointer (some ⟨w.heap.size, 0, none⟩), .pointer (some ⟨w.heap.size + 1, 0, none⟩), .pointer (some ⟨w2.heap.size, 0, none⟩), .bool (!b0), .pointer (some ⟨w2.heap.size + 1, 0, none⟩), .pointer (some ⟨x.1.g, 0, none⟩), .tuple #[.agg #[.int .i64 X.t, .int .i64 X.k, .int .i64 X.o, .int .u32 (X.m : Int)], .bool (!b0)], .pointer p, .int .i64 task, .tuple #[.agg #[.int .i64 X.t, .int .i64 X.k, .int .i64 X.o, .int .u32 (X.m : Int)], .bool (!b0)], .agg #[.int .i64 X.t, .int .i64 X.k, .int .i64 X.o, .int .u32 (X.m : Int)], .bool (!b0), .bool (!b0), .bool b0, .pointer p, .func (.func 85) #[] #[.pointer (some ⟨w2.heap.size + 1 + 1, 0, none⟩)], .pointer (some ⟨x.1.g, 0, none⟩), undef, undef, undef, undef, undef, undef, undef, undef, undef, undef, undef, undef], defers := [] }) ?assign ?body ?done ?stop
  case assign =>
    intro l x W K hK
    gi_wp2
    exact hK
  case body =>
    rintro l pre x W ⟨⟨hn, hr, hx, b, hd, hsc⟩, hB⟩ hpl
    obtain ⟨nn, pp, hnd⟩ := (hQ.below (Nat.le_refl _) hB).node x.2
    have x0 : W.cell? ⟨x.1.g, 0, none⟩ = some (.int .i64 x.1.t) := cell_of hnd 0
    have x1 : W.cell? ⟨x.1.g, 1, none⟩ = some (.int .i64 x.1.k) := cell_of hnd 1
    have x2 : W.cell? ⟨x.1.g, 2, none⟩ = some (.int .i64 x.1.o) := cell_of hnd 2
    have x3 : W.cell? ⟨x.1.g, 3, none⟩ = some (.int .u32 (x.1.m : Int)) := cell_of hnd 3
    have lx := lt_of hnd
    have d0 := hd.cell
    have d1 := hd.frozen
    have ld := hd.lt
    have hmx : Try.prog.follows .mixedOrders = true := by kernel_rfl
    have HB := Lib.hid (And.intro hn (And.intro hr (And.intro hx (And.intro hd (And.intro hsc hB)))))
    cases b with
    | true =>
      have n0 : W.cell? ⟨w.heap.size, 0, none⟩ = some (.int .i64 0) := cell_of hn 0
      have n1 : W.cell? ⟨w.heap.size, 1, none⟩ = some (.int .i64 0) := cell_of hn 1
      have n2 : W.cell? ⟨w.heap.size, 2, none⟩ = some (.int .i64 0) := cell_of hn 2
      have n3 : W.cell? ⟨w.heap.size, 3, none⟩ = some (.int .u32 0) := cell_of hn 3
      have e0 : W.frozen? ⟨w.heap.size, 0, none⟩ = false := free_of hn 0
      have e1 : W.frozen? ⟨w.heap.size, 1, none⟩ = false := free_of hn 1
      have e2 : W.frozen? ⟨w.heap.size, 2, none⟩ = false := free_of hn 2
      have e3 : W.frozen? ⟨w.heap.size, 3, none⟩ = false := free_of hn 3
      have ln := lt_of hn
      have r0 := hr.cell
      have r1 := hr.frozen
      have lr := hr.lt
      clear hn hr hx hd hsc hB hnd hpl
      gi_wp2
      obtain ⟨hn, hr, hx, hd, hsc, hB⟩ := HB.out
      have h4 := set4 hn (.int .i64 x.1.t) (.int .i64 x.1.k) (.int .i64 x.1.o) (.int .u32 (x.1.m : Int))
      have hne : w.heap.size ≠ w.heap.size + 1 := by omega
      refine ⟨((others4 _ _ _ _ _ _).trans (KeepsOthers.setCell _ _ _)).from _, ⟨rfl, x.1, fun R => ?_, heap_other h4 hne _, ?_⟩, (below4 hB (Nat.le_refl _) _ _ _ _).setCell (p := ⟨w.heap.size + 1, 0, none⟩) (by simp) _⟩
      · rw [List.map_append, List.append_assoc, hsc]; rfl
      · exact Boxed.set _ (far4 hr hne.symm _ _ _ _)
    | false =>
      have y0 : W.cell? ⟨w2.heap.size, 0, none⟩ = some (.int .i64 X.t) := cell_of hx 0
      have y1 : W.cell? ⟨w2.heap.size, 1, none⟩ = some (.int .i64 X.k) := cell_of hx 1
      have y2 : W.cell? ⟨w2.heap.size, 2, none⟩ = some (.int .i64 X.o) := cell_of hx 2
      have y3 : W.cell? ⟨w2.heap.size, 3, none⟩ = some (.int .u32 (X.m : Int)) := cell_of hx 3
      have ly := lt_of hx
      clear hn hr hx hd hsc hB hnd hpl
      gi_wp2
      gi_region_o
      all_goals gi_wp2
      all_goals
        obtain ⟨hn, hr, hx, hd, hsc, hB⟩ := HB.out
        rw [eqW_wait]
        have hs2 := HH.out.2.2.2
        exact ⟨((KeepsOthers.setCell _ _ _).trans (KeepsOthers.drew _)).from _, ⟨((Below.refl _ W).setCell (p := ⟨w2.heap.size + 1, 0, none⟩) (by show w.heap.size ≤ w2.heap.size + 1; omega) _).drew, fun u hu => heap_other hu (by show w2.heap.size + 1 + 1 ≠ w2.heap.size + 1; omega) _⟩, ⟨heap_other hn (by show w.heap.size ≠ w2.heap.size + 1; omega) _, heap_other hr (by show w.heap.size + 1 ≠ w2.heap.size + 1; omega) _, heap_other hx (by show w2.heap.size ≠ w2.heap.size + 1; omega) _, _, (hd.set _).drew, fun R => by rw [List.map_append, List.append_assoc, hsc]; rfl⟩, (hB.setCell (p := ⟨w2.heap.size + 1, 0, none⟩) (by show w.heap.size ≤ w2.heap.size + 1; omega) _).drew⟩
  case done =>
    rintro D ys W hD rfl ⟨⟨hn, hr, hx, b, hd, hsc⟩, hB⟩ hK
    have n0 : W.cell? ⟨w.heap.size, 0, none⟩ = some (.int .i64 0) := cell_of hn 0
    have n1 : W.cell? ⟨w.heap.size, 1, none⟩ = some (.int .i64 0) := cell_of hn 1
    have n2 : W.cell? ⟨w.heap.size, 2, none⟩ = some (.int .i64 0) := cell_of hn 2
    have n3 : W.cell? ⟨w.heap.size, 3, none⟩ = some (.int .u32 0) := cell_of hn 3
    have e0 : W.frozen? ⟨w.heap.size, 0, none⟩ = false := free_of hn 0
    have e1 : W.frozen? ⟨w.heap.size, 1, none⟩ = false := free_of hn 1
    have e2 : W.frozen? ⟨w.heap.size, 2, none⟩ = false := free_of hn 2
    have e3 : W.frozen? ⟨w.heap.size, 3, none⟩ = false := free_of hn 3
    have ln := lt_of hn
    have r0 := hr.cell
    have r1 := hr.frozen
    have lr := hr.lt
    have hne : w.heap.size ≠ w.heap.size + 1 := by omega
    have HB := Lib.hid (And.intro hn (And.intro hr (And.intro hsc hB)))
    clear hn hr hx hd hsc hB
    gi_wp2
    obtain ⟨hn, hr, hsc, hB⟩ := HB.out
    have h4 := heap_other (set4 hn (.int .i64 0) (.int .i64 0) (.int .i64 0) (.int .u32 0)) hne (a := ⟨w.heap.size + 1, 0, none⟩) (.bool false)
    have h5 : Boxed _ (w.heap.size + 1) 4 (.bool false) := Boxed.set (.bool false) (far4 hr hne.symm (.int .i64 0) (.int .i64 0) (.int .i64 0) (.int .u32 0))
    have hK' := ((others4 W w.heap.size (.int .i64 0) (.int .i64 0) (.int .i64 0) (.int .u32 0)).trans (KeepsOthers.setCell _ ⟨w.heap.size + 1, 0, none⟩ (.bool false))).same D _ hK rfl
    have hB5 := (below4 hB (Nat.le_refl _) (.int .i64 0) (.int .i64 0) (.int .i64 0) (.int .u32 0)).setCell (p := ⟨w.heap.size + 1, 0, none⟩) (by simp) (.bool false)
    have hnone : scan X.wait b0 L = none := by
      have := hsc []
      rw [List.append_nil, map_attach] at this
      rw [this]
      cases b <;> rfl
    refine ⟨by simp, .inl ⟨_, _, rfl, run_takeDeferred hK', ?_⟩⟩
    generalize hWW : (((((W.setCell ⟨w.heap.size, 0, none⟩ (.int .i64 0)).setCell ⟨w.heap.size, 1, none⟩ (.int .i64 0)).setCell ⟨w.heap.size, 2, none⟩ (.int .i64 0)).setCell ⟨w.heap.size, 3, none⟩ (.int .u32 0)).setCell ⟨w.heap.size + 1, 0, none⟩ (.bool false)) = WW at *
    have h6 : (WW.putObj D (.deferred none)).heap[w.heap.size]? = some (.cells #[.int .i64 0, .int .i64 0, .int .i64 0, .int .u32 0] 56 (0, 0)) := ((grownBy_putObj' WW D (.deferred none)).block _ (lt_of h4) (fun e => by cases e; rw [h4] at hK'; cases hK')).trans h4
    have h7 := (h5.kept (grownBy_putObj' WW D (.deferred none)) (fun e => by cases e; rw [show _ = _ from h5] at hK'; cases hK')).cell
    have y0 := cell_of h6 0
    have y1 := cell_of h6 1
    have y2 := cell_of h6 2
    have y3 := cell_of h6 3
    refine ⟨.tuple #[zv, .bool false], ?_, by rw [hnone]; rfl, hB5.trans (belowK_b (w := w) (Nat.le_refl _) _ D _ _ (by have := hB5.size; have := hb3.size; omega) hK' rfl rfl)⟩
    simp [results, Try.results34, go_sem, y0, y1, y2, y3, h7, zv]
  case stop =>
    rintro D c pre W hD hpre ⟨⟨rfl, z, hsc, hn, hr⟩, hB⟩ hK
    have HB := Lib.hid (And.intro hn (And.intro hr (And.intro hsc hB)))
    clear hn hr hsc hB
    gi_wp2
    obtain ⟨hn, hr, hsc, hB⟩ := HB.out
    obtain ⟨R, hR⟩ := pre_map hpre
    have hsome : scan X.wait b0 L = some z := by rw [← hR]; exact hsc R
    refine ⟨by simp, .inl ⟨_, _, rfl, run_takeDeferred hK, ?_⟩⟩
    have h6 : (W.putObj D (.deferred none)).heap[w.heap.size]? = _ := ((grownBy_putObj' W D (.deferred none)).block _ (lt_of hn) (fun e => by cases e; rw [hn] at hK; cases hK)).trans hn
    have h7 := (hr.kept (grownBy_putObj' W D (.deferred none)) (fun e => by cases e; rw [show _ = _ from hr] at hK; cases hK)).cell
    have y0 := cell_of h6 0
    have y1 := cell_of h6 1
    have y2 := cell_of h6 2
    have y3 := cell_of h6 3
    refine ⟨.tuple #[qv z, .bool true], ?_, by rw [hsome]; rfl, hB.trans (belowK_b (w := w) (Nat.le_refl _) W D _ _ (by have := hb3.size; omega) hK rfl rfl)⟩
    simp [results, Try.results34, go_sem, y0, y1, y2, y3, h7, qv]
end Go.Proofs.Ytdbplamhpkahaaa
