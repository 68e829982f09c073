import Derived.Test.YtfniicgfnlklbacQuL
namespace Go.Proofs.Ytfniicgfnlklbac
open Go.RowKit Go.Shelf
set_option linter.unusedVariables false
attribute [local go_sem] Oper.semAt_some
attribute [local go_sem ↓ 2000] app_pre
attribute [local go_sem] app_run
def ofs (L : List QN) (obj : Int) : List QN := L.filter fun x => x.o == obj
theorem ofs_le (L : List QN) (obj : Int) : (ofs L obj).length ≤ L.length := List.length_filter_le _ _
theorem ofs_hit (L : List QN) (obj : Int) (x : QN) (h : x.o = obj) : ofs (L ++ [x]) obj = ofs L obj ++ [x] := by simp [ofs, h]
theorem ofs_miss (L : List QN) (obj : Int) (x : QN) (h : x.o ≠ obj) : ofs (L ++ [x]) obj = ofs L obj := by simp [ofs, h]
set_option maxRecDepth 100000 in
set_option maxHeartbeats 2000000 in
theorem Of_any (p : Option Addr) (L : List QN) (obj : Int) (w : World) (hQ : QP w p L) (hlen : L.length < 1000000) :
    Calls Try.prog 18 #[.pointer p, .int .i64 obj] w fun e W' => ∃ v, e = .returned v ∧ W'.ownsRow w.heap.size 27 4 v (ofs L obj).length (flat (ofs L obj)) ∧ Below w.heap.size w W' := by
  have hf : Fence.wide.fn 30 := trivial
  refine (callsIn_wide (n := 9)).1 ?_
  refine callsIn_of_wp_marks Try.func18 rfl trivial ?_ rfl
  simp only [Try.ntmps18, List.size_toArray, List.length_cons, List.length_nil, Nat.reduceAdd, Nat.reduceSub, Array.replicate_succ, Array.replicate_zero, List.push_toArray, List.append_toArray, List.nil_append, List.cons_append]
  gi_wp2_with (gi_at_call 30; refine (links_in _ _ _).mono ?_; rintro e w' ⟨rfl, rfl⟩)
  have bo := Boxed.new w 3 (.int .i64 obj)
  have b0 := Boxed.new (w.alloc (.cells #[.int .i64 obj] 3)) 49 (.slice none 0 0)
  have b2 := Boxed.new ((w.alloc (.cells #[.int .i64 obj] 3)).alloc (.cells #[.slice none 0 0] 49)) 24 (.pointer p)
  simp only [World.size_alloc] at b0 b2
  have hB0 : Below w.heap.size w (((w.alloc (.cells #[.int .i64 obj] 3)).alloc (.cells #[.slice none 0 0] 49)).alloc (.cells #[.pointer p] 24)) := (((Below.refl _ w).alloc (Nat.le_refl _) _).alloc (by simp) _).alloc (by simp; omega) _
  refine wpIn_rangeFunc_ownG (n := 9) (F := Fence.wide) rfl (by decide) (gf := 40) (lb := #[.pointer (some ⟨w.heap.size + 1 + 1, 0, none⟩)]) rfl trivial (enters_of Try.func40 (by kernel_rfl) rfl)
    (links_stops (9 - 1) (by decide) (w.heap.size + 1 + 1) w.heap.size w _ (Nat.le_refl _) (by simp; omega) p L hQ hB0 b2) KQ.t (KQ.b (by simp; omega)) (Below.refl _ _) (fun _ => rfl)
    (fun pre W => ((∃ v, Boxed W (w.heap.size + 1) 49 v ∧ W.ownsRow w.heap.size 27 4 v (ofs (pre.map (fun x => x.1)) obj).length (flat (ofs (pre.map (fun x => x.1)) obj)) ∧ True) ∧ Boxed W w.heap.size 3 (.int .i64 obj)) ∧ Below w.heap.size w W)
    (fun _ _ _ => False)
    (OwnFrom.and (OwnFrom.and (Own.from (holdsRow_own w.heap.size (w.heap.size + 1) 49 27 4 (fun pre : List {x : QN // x ∈ L} => (ofs (pre.map (fun x => x.1)) obj).length) (fun pre => flat (ofs (pre.map (fun x => x.1)) obj)) (fun _ _ => True)) _) (Own.from (boxed_own _ _ _) _)) (ownFrom_below (Nat.le_refl _) (by simp; omega)))
    (fun _ _ _ _ _ hs _ _ => hs)
    ⟨⟨⟨_, b0.alloc _, World.ownsRow_nil _ _ _ _, trivial⟩, (bo.alloc _).alloc _⟩, hB0⟩
    (fun x => { tmps := #[.pointer p, .int .i64 obj, undef, .pointer (some ⟨w.heap.size, 0, none⟩), .slice none 0 0, .pointer (some ⟨w.heap.size + 1, 0, none⟩), .pointer (some ⟨x.1.g, 0, none⟩), .pointer p, .func (.func 40) #[] #[.pointer (some ⟨w.heap.size + 1 + 1, 0, none⟩)], .pointer (some ⟨x.1.g, 0, none⟩), undef, undef, undef, undef, undef, undef, undef, undef, undef, undef, undef, undef, undef, undef, undef], defers := [] }) ?assign ?body ?done ?stop
  case assign =>
    intro l x W K hK
    gi_wp2
    exact hK
  case body =>
    rintro l pre x W ⟨⟨⟨v, hv, hrow, _⟩, hbo⟩, hB⟩ hpl
    obtain ⟨nn, pp, hnd⟩ := (hQ.below (Nat.le_refl _) hB).node x.2
    have hml : (ofs (pre.map (fun x => x.1)) obj).length < 1000000 := by have := ofs_le (pre.map (fun x => x.1)) obj; simp at hpl this ⊢; omega
    obtain ⟨g, cap, w1, hrun, h1, h2, h3, h4, h5, h6⟩ := app_wait (W := W.drew) x.1 hv hrow hB.size (Nat.le_succ _) hml
    have c0 := hv.cell
    have l0 := hv.lt
    have c0a := (hv.alloc (.cells #[.int .i64 x.1.t, .int .i64 x.1.k, .int .i64 x.1.o, .int .u32 (x.1.m : Int)] 27)).cell
    have cbo := hbo.cell
    rw [show (W.drew.alloc (.cells #[.int .i64 x.1.t, .int .i64 x.1.k, .int .i64 x.1.o, .int .u32 (x.1.m : Int)] 27)).drew = (W.alloc (.cells #[.int .i64 x.1.t, .int .i64 x.1.k, .int .i64 x.1.o, .int .u32 (x.1.m : Int)] 27)).drew.drew from rfl, show W.drew.heap.size = W.heap.size from rfl] at hrun
    have c1 := h1.cell
    have f1 := h1.frozen
    have l1 := h1.lt
    have x0 : W.cell? ⟨x.1.g, 0, none⟩ = some (.int .i64 x.1.t) := cell_of hnd 0
    have x1 : W.cell? ⟨x.1.g, 1, none⟩ = some (.int .i64 x.1.k) := cell_of hnd 1
    have x2 : W.cell? ⟨x.1.g, 2, none⟩ = some (.int .i64 x.1.o) := cell_of hnd 2
    have x3 : W.cell? ⟨x.1.g, 3, none⟩ = some (.int .u32 (x.1.m : Int)) := cell_of hnd 3
    have lx := lt_of hnd
    have hmx : Try.prog.follows .mixedOrders = true := by kernel_rfl
    generalize hnl : (ofs (pre.map (fun x => x.1)) obj).length = nl at *
    have HB := Lib.hid (And.intro hB (And.intro h2 (And.intro h3 (And.intro h4 (And.intro h5 (And.intro h6 (And.intro hbo (And.intro hv (And.intro hrow hnl)))))))))
    clear hB h2 h3 h4 h5 h6 hv hrow h1 hnd hpl hml hbo hnl
    gi_wp2
    gi_region_o
    all_goals gi_wp2
    all_goals (try go_bits)
    all_goals first
      | (have hx : x.1.o ≠ obj := by simpa using ‹(x.1.o == obj) = false›
         obtain ⟨hB, h2, h3, h4, h5, h6, hbo, hv, hrow, hnl⟩ := HB.out
         exact ⟨(KeepsOthers.drew _).from _, ⟨(Below.refl _ _).drew, fun v hv => hv.drew⟩, ⟨⟨v, hv.drew, by rw [List.map_append]; show World.ownsRow _ _ _ _ _ (ofs (_ ++ [x.1]) obj).length (flat (ofs (_ ++ [x.1]) obj)); rw [ofs_miss _ _ _ hx, hnl]; exact hrow, trivial⟩, hbo.drew⟩, hB.drew⟩)
      | (rename_i hh
         have HX := Lib.hid (show x.1.o = obj by simpa using hh)
         clear hh
         gi_region_o
         all_goals gi_wp2
         all_goals
           obtain ⟨hB, h2, h3, h4, h5, h6, hbo, hv, hrow, hnl⟩ := HB.out
           exact ⟨((KeepsOthers.drew _).trans h4).from _, ⟨(Below.refl _ _).drew.trans h5, fun u hu => h6 _ _ u (by omega) (by decide) hu⟩, ⟨⟨_, h2, by rw [List.map_append]; show World.ownsRow _ _ _ _ _ (ofs (_ ++ [x.1]) obj).length (flat (ofs (_ ++ [x.1]) obj)); rw [ofs_hit _ _ _ HX.out]; exact h3, trivial⟩, h6 _ _ _ (by omega) (by decide) hbo⟩, (hB.drew).trans h5⟩)
  case done =>
    rintro D ys W hD rfl ⟨⟨⟨v, hv, hrow, _⟩, _⟩, hB⟩ hK
    have hc := hv.cell
    gi_wp2
    refine ⟨by simp, .inl ⟨_, _, rfl, run_takeDeferred hK, ?_⟩⟩
    rw [map_attach] at hrow
    exact ⟨_, results_tmp rfl _ _ _, v, rfl, ownsRow_putObj hrow _ hK rfl, hB.trans (belowK_b (w := w) (Nat.le_refl _) W D _ _ (by simp at hD; omega) hK rfl rfl)⟩
  case stop =>
    rintro D c pre W _ _ h _
    exact h.elim
end Go.Proofs.Ytfniicgfnlklbac
