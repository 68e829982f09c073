import Derived.Test.YtdbplamhpkahaaaQuF
import Derived.Test.YtdbplamhpkahaaaAppRun
import Derived.Maps.AppendAt
namespace Go.Proofs.Ytdbplamhpkahaaa
open Go.RowKit Go.Shelf
set_option linter.unusedVariables false
attribute [local go_sem] Oper.semAt_some
attribute [local go_sem ↓ 2000] app_pre
attribute [local go_sem] app_run
/-- The waits, cell by cell. -/
def flatN (L : List QN) : List Value := L.flatMap QN.cells
theorem flatN_snoc (L : List QN) (x : QN) : flatN (L ++ [x]) = flatN L ++ x.cells := by simp [flatN]
theorem flatN_len (L : List QN) : (flatN L).length = L.length * 4 := by
  induction L with
  | nil => rfl
  | cons x L ih => simp only [flatN, List.flatMap_cons, List.length_append, List.length_cons] at ih ⊢; rw [ih]; simp [QN.cells]; omega
theorem cell_four_new (w : World) (x : QN) (t : TypeId) : ∀ j u, x.cells[j]? = some u → (w.alloc (.cells x.cells.toArray t)).cell? ((⟨w.heap.size, 0, none⟩ : Addr).add j) = some u := by
  intro j u hj
  have e : ((⟨w.heap.size, 0, none⟩ : Addr).add j) = ⟨w.heap.size, j, none⟩ := by
    simp only [Addr.add]
    by_cases h : j = 0 <;> simp [h]
  rw [e, cell_of (heap_new w _) j]
  simpa using hj
theorem x_one (x : QN) : ∀ u ∈ x.cells, u.oneCell' = true := by
  intro u hu
  simp [QN.cells] at hu
  rcases hu with rfl | rfl | rfl | rfl <;> rfl
theorem info_wait : (Try.prog.info? 56).map (fun i => (i.zero, i.size, i.bytes)) = some (some (.agg #[.int .i64 0, .int .i64 0, .int .i64 0, .int .u32 0]), 4, 32) := by kernel_rfl
/-- What comes of 'append(all, l.wait)': the run, and all that the walk owes behind it. -/
theorem app_wait {W : World} {n₀ B : Nat} {v : Value} {M : List QN} (x : QN) (hv : Boxed W B 66 v) (hrow : W.ownsRow n₀ 56 4 v M.length (flatN M)) (hn₀ : n₀ ≤ W.heap.size) (hB : n₀ ≤ B) (hm : M.length < 1000000) :
    ∃ g cap w1, appRun Try.prog #[66, 66] 66 #[v, .slice (some ⟨W.heap.size, 0, none⟩) 1 1] (W.alloc (.cells #[.int .i64 x.t, .int .i64 x.k, .int .i64 x.o, .int .u32 (x.m : Int)] 56)).drew = .ok (.slice (some ⟨g, 0, none⟩) (M.length + 1) cap) w1 ∧
      Boxed w1 B 66 v ∧ Boxed (w1.setCell ⟨B, 0, none⟩ (.slice (some ⟨g, 0, none⟩) (M.length + 1) cap)) B 66 (.slice (some ⟨g, 0, none⟩) (M.length + 1) cap) ∧
      (w1.setCell ⟨B, 0, none⟩ (.slice (some ⟨g, 0, none⟩) (M.length + 1) cap)).ownsRow n₀ 56 4 (.slice (some ⟨g, 0, none⟩) (M.length + 1) cap) (M ++ [x]).length (flatN (M ++ [x])) ∧
      KeepsOthers W (w1.setCell ⟨B, 0, none⟩ (.slice (some ⟨g, 0, none⟩) (M.length + 1) cap)) ∧ Below n₀ W (w1.setCell ⟨B, 0, none⟩ (.slice (some ⟨g, 0, none⟩) (M.length + 1) cap)) ∧
      ∀ (k : Nat) (t : TypeId) (u : Value), k ≠ B → t ≠ 56 → Boxed W k t u → Boxed (w1.setCell ⟨B, 0, none⟩ (.slice (some ⟨g, 0, none⟩) (M.length + 1) cap)) k t u := by
  obtain ⟨i0, hi, hz0, hz1, hz2⟩ := info_parts info_wait
  have hrd : W.drew.ownsRow n₀ 56 4 v M.length (flatN M) := hrow
  obtain ⟨v', w1, hrun, hown, hgrow, _⟩ := run_append_own (P := Try.prog) (W.drew.alloc (.cells x.cells.toArray 56)) n₀ 66 66 56 i0 _ 4 32 Try.underlying66 hi hz0 hz1 hz2 rfl (by decide) v M.length (flatN M) (hrd.alloc _) ⟨W.drew.heap.size, 0, none⟩ 1 1 x.cells rfl (cell_four_new W.drew x _) (x_one x) (by unfold maxLen; omega) (by omega) (by rw [World.size_alloc]; exact Nat.le_succ_of_le hn₀)
  obtain ⟨g, cap, rfl⟩ := ownsRow_succ hown
  obtain ⟨h1, h2, h3, h4, h5⟩ := (show Boxed W.drew B 66 v from hv).appended (by decide) hrd hn₀ hB hown hgrow
  refine ⟨g, cap, w1, hrun, h1, h2, by rw [flatN_snoc, List.length_append]; exact h3, (KeepsOthers.drew W).trans h4, (Below.refl n₀ W).drew.trans h5, fun k t u hk ht hu => ?_⟩
  have a1 : Boxed w1 k t u := ((show Boxed W.drew k t u from hu).alloc _).kept hgrow ((show Boxed W.drew k t u from hu).not_row ht hrd)
  exact heap_other a1 hk _
set_option maxRecDepth 100000 in
set_option maxHeartbeats 2000000 in
theorem List_any (p : Option Addr) (L : List QN) (w : World) (hQ : QP w p L) (hlen : L.length < 1000000) :
    Calls Try.prog 36 #[.pointer p] w fun e W' => ∃ v, e = .returned v ∧ W'.ownsRow w.heap.size 56 4 v L.length (flatN L) ∧ Below w.heap.size w W' := by
  have hf : Fence.wide.fn 73 := trivial
  refine (callsIn_wide (n := 9)).1 ?_
  refine callsIn_of_wp_marks Try.func36 rfl trivial ?_ rfl
  simp only [Try.ntmps36, List.size_toArray, List.length_cons, List.length_nil, Nat.reduceAdd, Nat.reduceSub, Array.replicate_succ, Array.replicate_zero, List.push_toArray, List.append_toArray, List.nil_append, List.cons_append]
  gi_wp2_with (gi_at_call 73; refine (links_in _ _ _).mono ?_; rintro e w' ⟨rfl, rfl⟩)
  have b0 := Boxed.new w 66 (.slice none 0 0)
  have b2 := Boxed.new (w.alloc (.cells #[.slice none 0 0] 66)) 54 (.pointer p)
  simp only [World.size_alloc] at b2
  have hB0 : Below w.heap.size w ((w.alloc (.cells #[.slice none 0 0] 66)).alloc (.cells #[.pointer p] 54)) := ((Below.refl _ w).alloc (Nat.le_refl _) _).alloc (by simp) _
  refine wpIn_rangeFunc_ownG (n := 9) (F := Fence.wide) rfl (by decide) (gf := 85) (lb := #[.pointer (some ⟨w.heap.size + 1, 0, none⟩)]) rfl trivial (enters_of Try.func85 (by kernel_rfl) rfl)
    (links_stops (9 - 1) (by decide) (w.heap.size + 1) w.heap.size w _ (Nat.le_refl _) (by simp; omega) p L hQ hB0 b2) KQ.t (KQ.b (by simp; omega)) (Below.refl _ _) (fun _ => rfl)
    (fun pre W => (∃ v, Boxed W w.heap.size 66 v ∧ W.ownsRow w.heap.size 56 4 v (pre.map (fun x => x.1)).length (flatN (pre.map (fun x => x.1))) ∧ True) ∧ Below w.heap.size w W)
    (fun _ _ _ => False)
    (OwnFrom.and (Own.from (holdsRow_own w.heap.size w.heap.size 66 56 4 (fun pre : List {x : QN // x ∈ L} => (pre.map (fun x => x.1)).length) (fun pre => flatN (pre.map (fun x => x.1))) (fun _ _ => True)) _) (ownFrom_below (Nat.le_refl _) (by simp; omega)))
    (fun _ _ _ _ _ hs _ _ => hs)
    ⟨⟨_, b0.alloc _, World.ownsRow_nil _ _ _ _, trivial⟩, hB0⟩
    (fun x => { tmps := #[.pointer p, undef, .slice none 0 0, .pointer (some ⟨w.heap.size, 0, none⟩), .pointer (some ⟨x.1.g, 0, none⟩), .pointer p, .func (.func 85) #[] #[.pointer (some ⟨w.heap.size + 1, 0, none⟩)], .pointer (some ⟨x.1.g, 0, none⟩), undef, undef, undef, undef, undef, undef, undef, undef], defers := [] }) ?assign ?body ?done ?stop
  case assign =>
    intro l x W K hK
    gi_wp2
    exact hK
  case body =>
    rintro l pre x W ⟨⟨v, hv, hrow, _⟩, hB⟩ hpl
    obtain ⟨nn, pp, hnd⟩ := (hQ.below (Nat.le_refl _) hB).node x.2
    have hml : (pre.map (fun x => x.1)).length < 1000000 := by simp at hpl ⊢; omega
    obtain ⟨g, cap, w1, hrun, h1, h2, h3, h4, h5, h6⟩ := app_wait x.1 hv hrow hB.size (Nat.le_refl _) hml
    have c0 := hv.cell
    have l0 := hv.lt
    have c0a := (hv.alloc (.cells #[.int .i64 x.1.t, .int .i64 x.1.k, .int .i64 x.1.o, .int .u32 (x.1.m : Int)] 56)).cell
    have c1 := h1.cell
    have f1 := h1.frozen
    have l1 := h1.lt
    have x0 : W.cell? ⟨x.1.g, 0, none⟩ = some (.int .i64 x.1.t) := cell_of hnd 0
    have x1 : W.cell? ⟨x.1.g, 1, none⟩ = some (.int .i64 x.1.k) := cell_of hnd 1
    have x2 : W.cell? ⟨x.1.g, 2, none⟩ = some (.int .i64 x.1.o) := cell_of hnd 2
    have x3 : W.cell? ⟨x.1.g, 3, none⟩ = some (.int .u32 (x.1.m : Int)) := cell_of hnd 3
    have lx := lt_of hnd
    have hmx : Try.prog.follows .mixedOrders = true := by kernel_rfl
    simp only [List.length_map] at h2 h3 h4 h5 h6
    have HB := Lib.hid (And.intro hB (And.intro h2 (And.intro h3 (And.intro h4 (And.intro h5 h6)))))
    clear hB h2 h3 h4 h5 h6 hv hrow h1 hnd hpl hml
    gi_wp2
    gi_region_o
    all_goals gi_wp2
    all_goals (try go_bits)
    all_goals
      obtain ⟨hB, h2, h3, h4, h5, h6⟩ := HB.out
      exact ⟨h4.from _, ⟨h5, fun u hu => h6 _ _ u (by omega) (by decide) hu⟩, ⟨_, h2, by rw [List.map_append]; exact h3, trivial⟩, hB.trans h5⟩
  case done =>
    rintro D ys W hD rfl ⟨⟨v, hv, hrow, _⟩, hB⟩ hK
    have hc := hv.cell
    gi_wp2
    refine ⟨by simp, .inl ⟨_, _, rfl, run_takeDeferred hK, ?_⟩⟩
    rw [map_attach] at hrow
    exact ⟨_, results_tmp rfl _ _ _, v, rfl, ownsRow_putObj hrow _ hK rfl, hB.trans (belowK_b (w := w) (Nat.le_refl _) W D _ _ (by simp at hD; omega) hK rfl rfl)⟩
  case stop =>
    rintro D c pre W _ _ h _
    exact h.elim
end Go.Proofs.Ytdbplamhpkahaaa
