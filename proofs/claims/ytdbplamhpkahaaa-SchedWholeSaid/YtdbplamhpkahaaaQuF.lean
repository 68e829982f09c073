import Derived.Test.YtdbplamhpkahaaaQu
namespace Go.Proofs.Ytdbplamhpkahaaa
open Go.RowKit Go.Shelf
set_option linter.unusedVariables false
attribute [local go_sem] Oper.semAt_some
theorem _root_.Go.Boxed.drew {W : World} {B : Nat} {t : TypeId} {v : Value} (h : Boxed W B t v) : Boxed W.drew B t v := h
/-- The first node of a task. -/
def fnd (L : List QN) (t : Int) : Option QN := L.find? (fun x => x.t == t)
def ptrO (o : Option QN) : Option Addr := o.map fun x => ⟨x.g, 0, none⟩
theorem QP.node {w : World} {p : Option Addr} {L : List QN} (h : QP w p L) {x : QN} (hx : x ∈ L) :
    ∃ (nn pp : Option Addr), w.heap[x.g]? = some (.cells #[.int .i64 x.t, .int .i64 x.k, .int .i64 x.o, .int .u32 (x.m : Int), .pointer nn, .pointer pp] 59 (0, 0)) := by
  rcases h with ⟨_, rfl⟩ | ⟨Q, h, _, hq⟩
  · cases hx
  · obtain ⟨i, hi⟩ := List.getElem?_of_mem hx
    exact ⟨_, _, hq.node i x hi⟩
theorem map_attach (L : List QN) : L.attach.map (fun x => x.1) = L := by simp
theorem pre_map {L : List QN} {pre : List {x : QN // x ∈ L}} (h : pre <+: L.attach) : pre.map (fun x => x.1) <+: L := by
  have := h.map (fun x => x.1)
  rwa [map_attach] at this
theorem fnd_none {L : List QN} {t : Int} (h : ∀ y, y ∈ L.attach → y.1.t ≠ t) : fnd L t = none := by
  rw [fnd, List.find?_eq_none]
  intro x hx
  have := h ⟨x, hx⟩ (List.mem_attach _ _)
  simpa using this
theorem fnd_pre {L : List QN} {t : Int} {pre : List {x : QN // x ∈ L}} {x : {x : QN // x ∈ L}} (hp : pre ++ [x] <+: L.attach) (h : ∀ y, y ∈ pre → y.1.t ≠ t) (hx : x.1.t = t) : fnd L t = some x.1 := by
  obtain ⟨s, hs⟩ := pre_map hp
  refine (congrArg (fun M => fnd M t) hs).symm.trans ?_
  show List.find? _ _ = _
  rw [List.map_append, List.append_assoc, List.find?_append]
  have : (pre.map (fun x => x.1)).find? (fun x => x.t == t) = none := by
    rw [List.find?_eq_none]
    intro y hy
    obtain ⟨z, hz, rfl⟩ := List.mem_map.1 hy
    simpa using h z hz
  rw [this]
  simp [hx]
set_option maxRecDepth 100000 in
set_option maxHeartbeats 2000000 in
theorem find_any (p : Option Addr) (L : List QN) (task : Int) (w : World) (hQ : QP w p L) :
    Calls Try.prog 72 #[.pointer p, .int .i64 task] w fun e W' => e = .returned (.pointer (ptrO (fnd L task))) ∧ Below w.heap.size w W' := by
  have hf : Fence.wide.fn 73 := trivial
  refine (callsIn_wide (n := 9)).1 ?_
  refine callsIn_of_wp_marks Try.func72 rfl trivial ?_ rfl
  simp only [Try.ntmps72, List.size_toArray, List.length_cons, List.length_nil, Nat.reduceAdd, Nat.reduceSub, Array.replicate_succ, Array.replicate_zero, List.push_toArray, List.append_toArray, List.nil_append, List.cons_append]
  gi_wp2_with (gi_at_call 73; refine (links_in _ _ _).mono ?_; rintro e w' ⟨rfl, rfl⟩)
  have b0 := Boxed.new w 3 (.int .i64 task)
  have b1 := Boxed.new (w.alloc (.cells #[.int .i64 task] 3)) 57 (.pointer none)
  have b2 := Boxed.new ((w.alloc (.cells #[.int .i64 task] 3)).alloc (.cells #[.pointer none] 57)) 54 (.pointer p)
  simp only [World.size_alloc] at b1 b2
  have hB0 : Below w.heap.size w (((w.alloc (.cells #[.int .i64 task] 3)).alloc (.cells #[.pointer none] 57)).alloc (.cells #[.pointer p] 54)) := (((Below.refl _ w).alloc (Nat.le_refl _) _).alloc (by simp) _).alloc (by simp; omega) _
  refine wpIn_rangeFunc_ownG (n := 9) (F := Fence.wide) rfl (by decide) (gf := 85) (lb := #[.pointer (some ⟨w.heap.size + 1 + 1, 0, none⟩)]) rfl trivial (enters_of Try.func85 (by kernel_rfl) rfl)
    (links_stops (9 - 1) (by decide) (w.heap.size + 1 + 1) w.heap.size w _ (Nat.le_refl _) (by simp; omega) p L hQ hB0 b2) KQ.t (KQ.b (by simp; omega)) (Below.refl _ _) (fun _ => rfl)
    (fun pre W => ((∀ y, y ∈ pre → y.1.t ≠ task) ∧ Boxed W w.heap.size 3 (.int .i64 task) ∧ Boxed W (w.heap.size + 1) 57 (.pointer none)) ∧ Below w.heap.size w W)
    (fun c pre W => (c = .ret ∧ ∃ (p0 : List {x : QN // x ∈ L}) (x : {x : QN // x ∈ L}), pre = p0 ++ [x] ∧ (∀ y, y ∈ p0 → y.1.t ≠ task) ∧ x.1.t = task ∧ Boxed W (w.heap.size + 1) 57 (.pointer (some ⟨x.1.g, 0, none⟩))) ∧ Below w.heap.size w W)
    (OwnFrom.and (OwnFrom.and (ownFrom_pure _ _) (OwnFrom.and (Own.from (boxed_own _ _ _) _) (Own.from (boxed_own _ _ _) _))) (ownFrom_below (Nat.le_refl _) (by simp; omega)))
    (fun c => OwnFrom.and (Own.from (fun s A B row hs hg hr => by
      obtain ⟨h0, p0, x, h1, h2, h3, h4⟩ := hs
      exact ⟨h0, p0, x, h1, h2, h3, boxed_own (β := Unit) _ _ (fun _ => .pointer (some ⟨x.1.g, 0, none⟩)) () A B row h4 hg hr⟩) _) (ownFrom_below (Nat.le_refl _) (by simp; omega)))
    ⟨⟨fun y hy => (by cases hy), (b0.alloc _).alloc _, b1.alloc _⟩, hB0⟩
    (fun x => { tmps := #[.pointer p, .int .i64 task, undef, .pointer (some ⟨w.heap.size, 0, none⟩), .pointer (some ⟨w.heap.size + 1, 0, none⟩), .pointer (some ⟨x.1.g, 0, none⟩), .pointer p, .func (.func 85) #[] #[.pointer (some ⟨w.heap.size + 1 + 1, 0, none⟩)], .pointer (some ⟨x.1.g, 0, none⟩), undef, undef, undef, undef, undef, undef, undef, undef], defers := [] }) ?assign ?body ?done ?stop
  case assign =>
    intro l x W K hK
    gi_wp2
    exact hK
  case body =>
    rintro l pre x W ⟨⟨hne, hb0, hb1⟩, hB⟩ _
    obtain ⟨nn, pp, hnd⟩ := (hQ.below (Nat.le_refl _) hB).node x.2
    have c0 := hb0.cell
    have c1 := hb1.cell
    have f1 := hb1.frozen
    have l1 := hb1.lt
    have c2 : W.cell? ⟨x.1.g, 0, none⟩ = some (.int .i64 x.1.t) := cell_of hnd 0
    have lx := lt_of hnd
    have hmx : Try.prog.follows .mixedOrders = true := by kernel_rfl
    have hB' := Lib.hid hB
    gi_wp2
    gi_region_o
    all_goals gi_wp2
    all_goals (try go_bits)
    all_goals first
      | (have hx : x.1.t = task := by simpa using ‹(x.1.t == task) = true›
         exact ⟨((KeepsOthers.setCell _ _ _).trans (KeepsOthers.drew _)).from _, ⟨rfl, pre, x, rfl, hne, hx, (hb1.set _).drew⟩, (hB.setCell (p := ⟨w.heap.size + 1, 0, none⟩) (by simp) _).drew⟩)
      | (have hx : x.1.t ≠ task := by simpa using ‹(x.1.t == task) = false›
         exact ⟨(KeepsOthers.drew _).from _, ⟨(Below.refl _ _).drew, fun v hv => hv.drew⟩, ⟨fun y hy => (List.mem_append.1 hy).elim (hne y) (fun e => by simp at e; subst e; exact hx), hb0.drew, hb1.drew⟩, hB.drew⟩)
  case done =>
    rintro D ys W hD rfl ⟨⟨hne, hb0, hb1⟩, hB⟩ hK
    have c1 := hb1.cell
    have f1 := hb1.frozen
    gi_wp2
    have hK' := (KeepsOthers.setCell W ⟨w.heap.size + 1, 0, none⟩ (.pointer none)).same D _ hK rfl
    refine ⟨by simp, .inl ⟨_, _, rfl, run_takeDeferred hK', ?_⟩⟩
    have hc5 := ((hb1.set (.pointer none)).kept (grownBy_putObj' _ D (.deferred none)) (fun e => by
      cases e
      have := hb1.set (.pointer none)
      rw [show _ = _ from this] at hK'
      cases hK')).cell
    refine ⟨.pointer none, ?_, by rw [fnd_none hne]; rfl, (hB.setCell (p := ⟨w.heap.size + 1, 0, none⟩) (by simp) _).trans (belowK_b (w := w) (Nat.le_refl _) _ D _ _ (by simp at hD; omega) hK' rfl rfl)⟩
    simp [results, Try.results72, go_sem, hc5]
  case stop =>
    rintro D c pre W hD hpre ⟨⟨rfl, p0, x, rfl, hne, hx, hb1⟩, hB⟩ hK
    have c1 := hb1.cell
    gi_wp2
    refine ⟨by simp, .inl ⟨_, _, rfl, run_takeDeferred hK, ?_⟩⟩
    have hc5 := (hb1.kept (grownBy_putObj' _ D (.deferred none)) (fun e => by
      cases e
      rw [show _ = _ from hb1] at hK
      cases hK)).cell
    refine ⟨.pointer (some ⟨x.1.g, 0, none⟩), ?_, by rw [fnd_pre hpre hne hx]; rfl, hB.trans (belowK_b (w := w) (Nat.le_refl _) W D _ _ (by simp at hD; omega) hK rfl rfl)⟩
    simp [results, Try.results72, go_sem, hc5]
end Go.Proofs.Ytdbplamhpkahaaa
