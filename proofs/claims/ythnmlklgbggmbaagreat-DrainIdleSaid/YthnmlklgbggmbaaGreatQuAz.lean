import Derived.Test.YthnmlklgbggmbaaGreatBaseZ
import Derived.ControlIn
import Derived.CallsIn
import Derived.TacticsInMore
import Derived.Test.YthnmlklgbggmbaaGreatRows
import Derived.ProofKit
import Derived.OpenShut
import Derived.WalkLawsBesides
import Derived.WalkSpells
import Derived.Lib.Hide
import Derived.RangeFuncNested
import Derived.RangeFuncBound
import Derived.RangeFuncCalls
import Derived.RangeFuncLeaves
import Derived.RangeFuncBox
import Derived.Shelf.Abstract
import Derived.Shelf.RegionOpen
import Derived.WalkKit
import Derived.OwnWalkIn
import Derived.LoopNIn
import Derived.LoopIn
import Derived.LaidEqlPtr
import Derived.Laws.AppendOwn
import Derived.Tactics
import Derived.BigFrame
import Derived.Maps.AppendAt
import Derived.Deep.QuietTactic
import Derived.BigQuiet
import Derived.BigRegion
import Derived.Laws.StructEq
namespace Go
section
variable {P : Program} {a : Act} {w : World} {Q : Exit → Act → World → Prop}
/-- XGhost's law inside the wide fence. -/
theorem wpIn_scope_ghost {n : Nat} {c rest : Code} (l : Nat) (J : Nat → Act → World → Prop) (hf : findLabel c l = some (Code.skip.seq rest))
    (pass : ∀ m a w, J m a w → rest.wpIn Fence.wide n P (Exit.jump l (fun a' w' => ∃ m', m' < m ∧ J m' a' w') Q) a w)
    (first : (∀ m a w, J m a w → rest.wpIn Fence.wide n P (Exit.jump l (fun a' w' => ∃ m', J m' a' w') Q) a w) → c.wpIn Fence.wide n P (Exit.jump l (fun a' w' => ∃ m', J m' a' w') Q) a w) : (Code.scope c).wpIn Fence.wide n P Q a w :=
  wpIn_wide.2 (wp_scope_ghost l J hf (fun m a w h => wpIn_wide.1 (pass m a w h)) fun h => wpIn_wide.1 (first fun m a w hj => wpIn_wide.2 (h m a w hj)))
end
end Go
namespace Go.Proofs.YthnmlklgbggmbaaGreat
open Go.RowKit Go.Shelf
set_option linter.unusedVariables false
attribute [local go_sem] Oper.semAt_some
/-- A node of the ring: its block, and its wait. -/
structure QN where
  g : Nat
  t : Int
  k : Int
  o : Int
  m : Nat
def QN.cells (x : QN) : List Value := [.int .i64 x.t, .int .i64 x.k, .int .i64 x.o, .int .u32 (x.m : Int)]
/-- The blocks of the ring: the head's, each node's, the head's. -/
def bk (Q : Nat) (L : List QN) : Nat → Nat
  | 0 => Q
  | i + 1 => match L[i]? with | some x => x.g | none => Q
theorem bk_some {Q : Nat} {L : List QN} {i : Nat} {x : QN} (h : L[i]? = some x) : bk Q L (i + 1) = x.g := by simp [bk, h]
theorem bk_end {Q : Nat} {L : List QN} {i : Nat} (h : L.length ≤ i) : bk Q L (i + 1) = Q := by simp [bk, h]
def nx (Q : Nat) (L : List QN) (h : Bool) (i : Nat) : Option Addr := if h then some ⟨bk Q L i, 0, none⟩ else none
/-- Block Q: a queue of these nodes; h: was there ever one? -/
structure IsQ (w : World) (Q : Nat) (L : List QN) (h : Bool) : Prop where
  head : w.heap[Q]? = some (.cells #[.int .i64 0, .int .i64 0, .int .i64 0, .int .u32 0, .pointer (nx Q L h 1), .pointer (nx Q L h L.length)] 162 (0, 0))
  node : ∀ (i : Nat) (x : QN), L[i]? = some x → w.heap[x.g]? = some (.cells #[.int .i64 x.t, .int .i64 x.k, .int .i64 x.o, .int .u32 (x.m : Int), .pointer (some ⟨bk Q L (i + 2), 0, none⟩), .pointer (some ⟨bk Q L i, 0, none⟩)] 160 (0, 0))
  inj : ∀ (i j : Nat) (a b : QN), L[i]? = some a → L[j]? = some b → a.g = b.g → i = j
  ever : h = false → L = []
theorem at_below {B : Nat} {w w' : World} (h : Below B w w') {b : Nat} {x : Obj} (hb : w.heap[b]? = some x) (hs : b < B) : w'.heap[b]? = some x := by
  rw [h.block b hs]; exact hb
section
variable {w w' : World} {Q : Nat} {L : List QN} {h : Bool}
theorem IsQ.keeps {S : Nat → Prop} (hq : IsQ w Q L h) (hk : Keeps S w w') (hD : ¬ S Q) (hN : ∀ (i : Nat) (x : QN), L[i]? = some x → ¬ S x.g) : IsQ w' Q L h :=
  ⟨hk.at hq.head hD, fun i nd hi => hk.at (hq.node i nd hi) (hN i nd hi), hq.inj, hq.ever⟩
theorem IsQ.none (hq : IsQ w Q L h) (hk : Keeps (fun _ => False) w w') : IsQ w' Q L h := hq.keeps hk (fun h => h) fun _ _ _ h => h
theorem IsQ.below {B : Nat} (hq : IsQ w Q L h) (hB : w.heap.size ≤ B) (hk : Below B w w') : IsQ w' Q L h :=
  ⟨at_below hk hq.head (Nat.lt_of_lt_of_le (lt_of hq.head) hB), fun i nd hi => at_below hk (hq.node i nd hi) (Nat.lt_of_lt_of_le (lt_of (hq.node i nd hi)) hB), hq.inj, hq.ever⟩
theorem IsQ.ne (hq : IsQ w Q L h) {i : Nat} {x : QN} (hi : L[i]? = some x) : x.g ≠ Q := by
  intro e
  have h1 := hq.node i x hi
  rw [e, hq.head] at h1
  injection h1 with h1
  injection h1 with _ h1
  exact absurd h1 (by decide)
end
/-- A pointer to a queue, or none. -/
def QP (w : World) (p : Option Addr) (L : List QN) : Prop := (p = none ∧ L = []) ∨ ∃ Q h, p = some ⟨Q, 0, none⟩ ∧ IsQ w Q L h
theorem QP.below {w w' : World} {p : Option Addr} {L : List QN} {B : Nat} (hq : QP w p L) (hB : w.heap.size ≤ B) (hk : Below B w w') : QP w' p L := by
  rcases hq with h | ⟨Q, h, e, hq⟩
  · exact .inl h
  · exact .inr ⟨Q, h, e, hq.below hB hk⟩
/-- What a round of a walk through the links must keep: what lay below, and the walk's own box. -/
def KQ (n₀ Bn : Nat) (W W' : World) : Prop := Below n₀ W W' ∧ ∀ v, Boxed W Bn 96 v → Boxed W' Bn 96 v
theorem KQ.t {n₀ Bn : Nat} {A B C : World} (h : KQ n₀ Bn A B) (k : KQ n₀ Bn B C) : KQ n₀ Bn A C := ⟨h.1.trans k.1, fun v hv => k.2 v (h.2 v hv)⟩
theorem KQ.refl {n₀ Bn : Nat} (A : World) : KQ n₀ Bn A A := ⟨Below.refl _ _, fun v hv => hv⟩
theorem KQ.b {n₀ Bn : Nat} {w : World} (hn : n₀ ≤ w.heap.size) (W : World) (l : Nat) (o o' : Obj) (hl : w.heap.size ≤ l) (h : W.heap[l]? = some o) (hc : o.isCells = false) (hw : o.isWalk = false) : KQ n₀ Bn W (W.putObj l o') :=
  ⟨belowK_b hn W l o o' hl h hc hw, fun v hv => hv.kept (grownBy_putObj' W l o') (fun e => by cases e; rw [show W.heap[Bn]? = _ from hv] at h; cases h; cases hc)⟩
theorem attach_get (L : List QN) (i : Nat) (x : QN) (hx : L[i]? = some x) : L.attach[i]? = some ⟨x, List.mem_of_getElem? hx⟩ := by
  have hi : i < L.length := by
    rcases Nat.lt_or_ge i L.length with h | h
    · exact h
    · rw [List.getElem?_eq_none h] at hx; cases hx
  rw [List.getElem?_eq_getElem (by simpa using hi)]
  congr 1
  apply Subtype.ext
  simp
  rw [List.getElem?_eq_getElem hi] at hx
  exact Option.some.inj hx
theorem attach_take (L : List QN) (i : Nat) (x : QN) (hx : L[i]? = some x) : L.attach.take i ++ [⟨x, List.mem_of_getElem? hx⟩] = L.attach.take (i + 1) := by
  have h := attach_get L i x hx
  rw [List.take_add_one, h]
  rfl
theorem attach_pre (L : List QN) (i : Nat) (x : QN) (hx : L[i]? = some x) : L.attach.take i ++ [⟨x, List.mem_of_getElem? hx⟩] <+: L.attach := by
  rw [attach_take L i x hx]
  exact List.take_prefix _ _
theorem link_size : (Tryz.prog.info? 160).map (fun i => i.size) = some 6 := by kernel_rfl
theorem link_same (a : Addr) (w : World) : (binOp .eql 158 (.pointer (some a)) (.pointer (some a))).run Tryz.prog w = .ok (.bool true) w := by
  have h := link_size
  cases hi : Tryz.prog.info? 160 with
  | none => rw [hi] at h; cases h
  | some j => exact run_eql_ptr_same w a (by kernel_rfl) hi
theorem link_other {a b : Nat} {ca cb : Array Value} {ta tb : TypeId} {w : World} (hne : a ≠ b) (ha : w.heap[a]? = some (.cells ca ta (0, 0))) (hb : w.heap[b]? = some (.cells cb tb (0, 0))) :
    (binOp .eql 158 (.pointer (some ⟨a, 0, none⟩)) (.pointer (some ⟨b, 0, none⟩))).run Tryz.prog w = .ok (.bool false) w := by
  have h := link_size
  cases hi : Tryz.prog.info? 160 with
  | none => rw [hi] at h; cases h
  | some j =>
    rw [hi] at h
    exact run_eql_ptr_other w (by kernel_rfl) hi (by have e : j.size = 6 := Option.some.inj h; rw [e]; decide) (fun e => hne (by injection e)) ha hb
set_option maxRecDepth 100000 in
set_option maxHeartbeats 1000000 in
/-- **links' closure: for every body that keeps what lay below n₀, and the box of q.** -/
theorem links1_in (n : Nat) (hn : 1 ≤ n) (l Bn n₀ : Nat) (W0 : World) (h0s : W0.heap.size ≤ n₀) (p : Option Addr) (L : List QN) (hQ : QP W0 p L) (J Jx : List {x : QN // x ∈ L} → World → Prop)
    (hY : ∀ pre x W, J pre W → pre.length < L.attach.length → YieldAt Fence.wide (n - 1) Tryz.prog l #[.pointer (some ⟨x.1.g, 0, none⟩)] W fun e W' =>
      (e = .returned (.bool true) ∧ J (pre ++ [x]) W' ∧ KQ n₀ Bn W W') ∨ (e = .returned (.bool false) ∧ Jx (pre ++ [x]) W'))
    (W : World) (hB : Below n₀ W0 W) (hBn : Boxed W Bn 96 (.pointer p)) (h0 : J [] W) :
    CallsIn Fence.wide n Tryz.prog 128 #[.func (.yield l) #[] #[], .pointer (some ⟨Bn, 0, none⟩)] W fun e W' => (∃ v, e = .returned v) ∧
      ((∃ ys, ys = L.attach ∧ J ys W') ∨ (∃ pre, pre <+: L.attach ∧ Jx pre W')) := by
  have c0 := hBn.cell
  have l0 := hBn.lt
  refine callsIn_of_wp Tryz.func128 rfl trivial ?_ rfl
  simp only [Tryz.ntmps128, List.size_toArray, List.length_cons, List.length_nil, Nat.reduceAdd, Nat.reduceSub, Array.replicate_succ, Array.replicate_zero, List.push_toArray, List.append_toArray, List.nil_append, List.cons_append]
  rcases hQ with ⟨rfl, rfl⟩ | ⟨Q, h, rfl, hQ⟩
  · refine wpIn_scope_ghost 0 (fun _ _ _ => False) rfl (fun _ _ _ h => h.elim) ?_
    intro _
    gi_wp2
    try simp only [Exit.jump]
    exact bodyPost_ret (results_none rfl _ _ _) rfl ⟨⟨_, rfl⟩, .inl ⟨[], rfl, h0⟩⟩
  · refine wpIn_scope_ghost 0 (fun m a' w' => ∃ (i : Nat) (u4 u5 u6 u7 u8 u9 u10 u11 u12 u13 u14 u15 u16 u17 u18 u19 u20 u21 u22 u23 u24 u25 u26 u27 : Value), a' = { tmps := #[.func (.yield l) #[] #[], .pointer (some ⟨Bn, 0, none⟩), undef, .pointer (nx Q L h (i + 1)), u4, u5, u6, u7, u8, u9, u10, u11, u12, u13, u14, u15, u16, u17, u18, u19, u20, u21, u22, u23, u24, u25, u26, u27], defers := [] } ∧ i + m = L.length ∧ J (L.attach.take i) w' ∧ KQ n₀ Bn W w') rfl ?_ ?_
    · rintro m a' w' ⟨i, u4, u5, u6, u7, u8, u9, u10, u11, u12, u13, u14, u15, u16, u17, u18, u19, u20, u21, u22, u23, u24, u25, u26, u27, rfl, him, hJ, hK⟩
      have hI := hQ.below h0s (hB.trans hK.1)
      have hB2 := hK.2 _ hBn
      have c1 := hB2.cell
      have l1 := hB2.lt
      by_cases hi : i < L.length
      · have hx := List.getElem?_eq_getElem hi
        generalize hxe : L[i] = x at hx
        have hh : h = true := by rcases Bool.eq_false_or_eq_true h with e | e; exact e; (have := hI.ever e; simp [this] at hi)
        subst hh
        have hnd := hI.node i x hx
        have hp : nx Q L true (i + 1) = some ⟨x.g, 0, none⟩ := by simp [nx, bk_some hx]
        have hne := hI.ne hx
        have lx := lt_of hnd
        rw [hp]
        obtain ⟨fn, tmps, assign, body, hy, hR⟩ := hY (L.attach.take i) ⟨x, List.mem_of_getElem? hx⟩ w' hJ (by simp; omega)
        dsimp only at hy
        have hq := link_other hne hnd hI.head
        gi_wp2
        refine hR.mono ?_
        rintro e W3 (⟨rfl, hJ3, hk3⟩ | ⟨rfl, hJx3⟩)
        · have hI3 := hQ.below h0s ((hB.trans hK.1).trans hk3.1)
          have hnd3 := hI3.node i x hx
          have q4 : W3.cell? ⟨x.g, 4, none⟩ = some (.pointer (some ⟨bk Q L (i + 2), 0, none⟩)) := cell_of hnd3 4
          have l4 := lt_of hnd3
          gi_wp2
          refine wpIn_goto ?_
          refine ⟨rfl, m - 1, by omega, ⟨i + 1, _, _, _, _, _, _, _, _, _, _, _, _, _, _, _, _, _, _, _, _, _, _, _, _, rfl, by omega, ?_, hK.t hk3⟩⟩
          rw [attach_take L i x hx] at hJ3
          exact hJ3
        · gi_wp2
          try simp only [Exit.jump]
          exact bodyPost_ret (results_none rfl _ _ _) rfl ⟨⟨_, rfl⟩, .inr ⟨_, attach_pre L i x hx, hJx3⟩⟩
      · have him2 : i = L.length := by omega
        subst him2
        cases h with
        | false =>
          rw [show nx Q L false (L.length + 1) = none from rfl]
          gi_wp2
          try simp only [Exit.jump]
          exact bodyPost_ret (results_none rfl _ _ _) rfl ⟨⟨_, rfl⟩, .inl ⟨_, rfl, by rw [← List.length_attach (l := L), List.take_length] at hJ; exact hJ⟩⟩
        | true =>
          rw [show nx Q L true (L.length + 1) = some ⟨Q, 0, none⟩ from by simp [nx, bk_end (Nat.le_refl _)]]
          have hq := link_same ⟨Q, 0, none⟩ w'
          have l3 := lt_of hI.head
          gi_wp2
          try simp only [Exit.jump]
          exact bodyPost_ret (results_none rfl _ _ _) rfl ⟨⟨_, rfl⟩, .inl ⟨_, rfl, by rw [← List.length_attach (l := L), List.take_length] at hJ; exact hJ⟩⟩
    · intro hpass
      have HP := Lib.hid hpass
      clear hpass
      have hI := hQ.below h0s hB
      have c2 : W.cell? ⟨Q, 4, none⟩ = some (.pointer (nx Q L h 1)) := cell_of hI.head 4
      have l2 := lt_of hI.head
      gi_wp2
      refine wpIn_label ?_
      rename_i K hK
      exact hK _ _ (HP.out _ _ _ ⟨0, _, _, _, _, _, _, _, _, _, _, _, _, _, _, _, _, _, _, _, _, _, _, _, _, rfl, Nat.zero_add _, h0, KQ.refl _⟩)
set_option maxHeartbeats 1000000 in
/-- **q.links()**: the receiver is boxed; the closure has the box. -/
theorem links_in (n : Nat) (p : Option Addr) (w : World) :
    CallsIn Fence.wide n Tryz.prog 78 #[.pointer p] w fun e w' => e = .returned (.func (.func 128) #[] #[.pointer (some ⟨w.heap.size, 0, none⟩)]) ∧ w' = w.alloc (.cells #[.pointer p] 96) := by
  refine callsIn_of_wp Tryz.func78 rfl trivial ?_ rfl
  simp only [Tryz.ntmps78, List.size_toArray, List.length_cons, List.length_nil, Nat.reduceAdd, Nat.reduceSub, Array.replicate_succ, Array.replicate_zero, List.push_toArray, List.append_toArray, List.nil_append, List.cons_append]
  gi_wp2
  go_ret
  exact ⟨rfl, rfl⟩
/-- What it hands back: all links, or a part of them where a round has said 'no more'. -/
theorem links_stops (n : Nat) (hn : 1 ≤ n) (Bn n₀ : Nat) (W0 w : World) (h0s : W0.heap.size ≤ n₀) (hn₀ : n₀ ≤ w.heap.size) (p : Option Addr) (L : List QN) (hQ : QP W0 p L) (hB : Below n₀ W0 w) (hc : Boxed w Bn 96 (.pointer p)) :
    SeqStopsK Fence.wide n Tryz.prog 128 #[.pointer (some ⟨Bn, 0, none⟩)] (fun x : {x : QN // x ∈ L} => #[Value.pointer (some ⟨x.1.g, 0, none⟩)]) (KQ n₀ Bn) (fun ys => ys = L.attach) (fun pre => pre <+: L.attach) L.attach.length w := fun l J Jx W hW _ _ hY h0 =>
  links1_in n hn l Bn n₀ W0 h0s p L hQ J Jx hY W (hB.trans (hW.mono hn₀)) ((hW.block Bn hc.lt).trans hc) h0
end Go.Proofs.YthnmlklgbggmbaaGreat
namespace Go.Proofs.YthnmlklgbggmbaaGreat
open Go.RowKit Go.Shelf
set_option linter.unusedVariables false
attribute [local go_sem] Oper.semAt_some
theorem _root_.Go.Boxed.drew {W : World} {B : Nat} {t : TypeId} {v : Value} (h : Boxed W B t v) : Boxed W.drew B t v := h
/-- The first node of a task. -/
def fnd (L : List QN) (t : Int) : Option QN := L.find? (fun x => x.t == t)
def ptrO (o : Option QN) : Option Addr := o.map fun x => ⟨x.g, 0, none⟩
theorem QP.node {w : World} {p : Option Addr} {L : List QN} (h : QP w p L) {x : QN} (hx : x ∈ L) :
    ∃ (nn pp : Option Addr), w.heap[x.g]? = some (.cells #[.int .i64 x.t, .int .i64 x.k, .int .i64 x.o, .int .u32 (x.m : Int), .pointer nn, .pointer pp] 160 (0, 0)) := by
  rcases h with ⟨_, rfl⟩ | ⟨Q, h, _, hq⟩
  · cases hx
  · obtain ⟨i, hi⟩ := List.getElem?_of_mem hx
    exact ⟨_, _, hq.node i x hi⟩
theorem map_attach (L : List QN) : L.attach.map (fun x => x.1) = L := by simp
theorem pre_map {L : List QN} {pre : List {x : QN // x ∈ L}} (h : pre <+: L.attach) : pre.map (fun x => x.1) <+: L := by
  have := h.map (fun x => x.1)
  rwa [map_attach] at this
theorem fnd_none {L : List QN} {t : Int} (h : ∀ y, y ∈ L.attach → y.1.t ≠ t) : fnd L t = none := by
  rw [fnd, List.find?_eq_none]
  intro x hx
  have := h ⟨x, hx⟩ (List.mem_attach _ _)
  simpa using this
theorem fnd_pre {L : List QN} {t : Int} {pre : List {x : QN // x ∈ L}} {x : {x : QN // x ∈ L}} (hp : pre ++ [x] <+: L.attach) (h : ∀ y, y ∈ pre → y.1.t ≠ t) (hx : x.1.t = t) : fnd L t = some x.1 := by
  obtain ⟨s, hs⟩ := pre_map hp
  refine (congrArg (fun M => fnd M t) hs).symm.trans ?_
  show List.find? _ _ = _
  rw [List.map_append, List.append_assoc, List.find?_append]
  have : (pre.map (fun x => x.1)).find? (fun x => x.t == t) = none := by
    rw [List.find?_eq_none]
    intro y hy
    obtain ⟨z, hz, rfl⟩ := List.mem_map.1 hy
    simpa using h z hz
  rw [this]
  simp [hx]
set_option maxRecDepth 100000 in
set_option maxHeartbeats 2000000 in
theorem find_any (p : Option Addr) (L : List QN) (task : Int) (w : World) (hQ : QP w p L) :
    Calls Tryz.prog 129 #[.pointer p, .int .i64 task] w fun e W' => e = .returned (.pointer (ptrO (fnd L task))) ∧ Below w.heap.size w W' := by
  have hf : Fence.wide.fn 78 := trivial
  refine (callsIn_wide (n := 9)).1 ?_
  refine callsIn_of_wp_marks Tryz.func129 rfl trivial ?_ rfl
  simp only [Tryz.ntmps129, List.size_toArray, List.length_cons, List.length_nil, Nat.reduceAdd, Nat.reduceSub, Array.replicate_succ, Array.replicate_zero, List.push_toArray, List.append_toArray, List.nil_append, List.cons_append]
  gi_wp2_with (gi_at_call 78; refine (links_in _ _ _).mono ?_; rintro e w' ⟨rfl, rfl⟩)
  have b0 := Boxed.new w 3 (.int .i64 task)
  have b1 := Boxed.new (w.alloc (.cells #[.int .i64 task] 3)) 158 (.pointer none)
  have b2 := Boxed.new ((w.alloc (.cells #[.int .i64 task] 3)).alloc (.cells #[.pointer none] 158)) 96 (.pointer p)
  simp only [World.size_alloc] at b1 b2
  have hB0 : Below w.heap.size w (((w.alloc (.cells #[.int .i64 task] 3)).alloc (.cells #[.pointer none] 158)).alloc (.cells #[.pointer p] 96)) := (((Below.refl _ w).alloc (Nat.le_refl _) _).alloc (by simp) _).alloc (by simp; omega) _
  refine wpIn_rangeFunc_ownG (n := 9) (F := Fence.wide) rfl (by decide) (gf := 128) (lb := #[.pointer (some ⟨w.heap.size + 1 + 1, 0, none⟩)]) rfl trivial (enters_of Tryz.func128 (by kernel_rfl) rfl)
    (links_stops (9 - 1) (by decide) (w.heap.size + 1 + 1) w.heap.size w _ (Nat.le_refl _) (by simp; omega) p L hQ hB0 b2) KQ.t (KQ.b (by simp; omega)) (Below.refl _ _) (fun _ => rfl)
    (fun pre W => ((∀ y, y ∈ pre → y.1.t ≠ task) ∧ Boxed W w.heap.size 3 (.int .i64 task) ∧ Boxed W (w.heap.size + 1) 158 (.pointer none)) ∧ Below w.heap.size w W)
    (fun c pre W => (c = .ret ∧ ∃ (p0 : List {x : QN // x ∈ L}) (x : {x : QN // x ∈ L}), pre = p0 ++ [x] ∧ (∀ y, y ∈ p0 → y.1.t ≠ task) ∧ x.1.t = task ∧ Boxed W (w.heap.size + 1) 158 (.pointer (some ⟨x.1.g, 0, none⟩))) ∧ Below w.heap.size w W)
    (OwnFrom.and (OwnFrom.and (ownFrom_pure _ _) (OwnFrom.and (Own.from (boxed_own _ _ _) _) (Own.from (boxed_own _ _ _) _))) (ownFrom_below (Nat.le_refl _) (by simp; omega)))
    (fun c => OwnFrom.and (Own.from (fun s A B row hs hg hr => by
      obtain ⟨h0, p0, x, h1, h2, h3, h4⟩ := hs
      exact ⟨h0, p0, x, h1, h2, h3, boxed_own (β := Unit) _ _ (fun _ => .pointer (some ⟨x.1.g, 0, none⟩)) () A B row h4 hg hr⟩) _) (ownFrom_below (Nat.le_refl _) (by simp; omega)))
    ⟨⟨fun y hy => (by cases hy), (b0.alloc _).alloc _, b1.alloc _⟩, hB0⟩
    (fun x => { tmps := #[.pointer p, .int .i64 task, undef, .pointer (some ⟨w.heap.size, 0, none⟩), .pointer (some ⟨w.heap.size + 1, 0, none⟩), .pointer (some ⟨x.1.g, 0, none⟩), .pointer p, .func (.func 128) #[] #[.pointer (some ⟨w.heap.size + 1 + 1, 0, none⟩)], .pointer (some ⟨x.1.g, 0, none⟩), undef, undef, undef, undef, undef, undef, undef, undef], defers := [] }) ?assign ?body ?done ?stop
  case assign =>
    intro l x W K hK
    gi_wp2
    exact hK
  case body =>
    rintro l pre x W ⟨⟨hne, hb0, hb1⟩, hB⟩ _
    obtain ⟨nn, pp, hnd⟩ := (hQ.below (Nat.le_refl _) hB).node x.2
    have c0 := hb0.cell
    have c1 := hb1.cell
    have f1 := hb1.frozen
    have l1 := hb1.lt
    have c2 : W.cell? ⟨x.1.g, 0, none⟩ = some (.int .i64 x.1.t) := cell_of hnd 0
    have lx := lt_of hnd
    have hmx : Tryz.prog.follows .mixedOrders = true := by kernel_rfl
    have hB' := Lib.hid hB
    gi_wp2
    gi_region_o
    all_goals gi_wp2
    all_goals (try go_bits)
    all_goals first
      | (have hx : x.1.t = task := by simpa using ‹(x.1.t == task) = true›
         exact ⟨((KeepsOthers.setCell _ _ _).trans (KeepsOthers.drew _)).from _, ⟨rfl, pre, x, rfl, hne, hx, (hb1.set _).drew⟩, (hB.setCell (p := ⟨w.heap.size + 1, 0, none⟩) (by simp) _).drew⟩)
      | (have hx : x.1.t ≠ task := by simpa using ‹(x.1.t == task) = false›
         exact ⟨(KeepsOthers.drew _).from _, ⟨(Below.refl _ _).drew, fun v hv => hv.drew⟩, ⟨fun y hy => (List.mem_append.1 hy).elim (hne y) (fun e => by simp at e; subst e; exact hx), hb0.drew, hb1.drew⟩, hB.drew⟩)
  case done =>
    rintro D ys W hD rfl ⟨⟨hne, hb0, hb1⟩, hB⟩ hK
    have c1 := hb1.cell
    have f1 := hb1.frozen
    gi_wp2
    have hK' := (KeepsOthers.setCell W ⟨w.heap.size + 1, 0, none⟩ (.pointer none)).same D _ hK rfl
    refine ⟨by simp, .inl ⟨_, _, rfl, run_takeDeferred hK', ?_⟩⟩
    have hc5 := ((hb1.set (.pointer none)).kept (grownBy_putObj' _ D (.deferred none)) (fun e => by
      cases e
      have := hb1.set (.pointer none)
      rw [show _ = _ from this] at hK'
      cases hK')).cell
    refine ⟨.pointer none, ?_, by rw [fnd_none hne]; rfl, (hB.setCell (p := ⟨w.heap.size + 1, 0, none⟩) (by simp) _).trans (belowK_b (w := w) (Nat.le_refl _) _ D _ _ (by simp at hD; omega) hK' rfl rfl)⟩
    simp [results, Tryz.results129, go_sem, hc5]
  case stop =>
    rintro D c pre W hD hpre ⟨⟨rfl, p0, x, rfl, hne, hx, hb1⟩, hB⟩ hK
    have c1 := hb1.cell
    gi_wp2
    refine ⟨by simp, .inl ⟨_, _, rfl, run_takeDeferred hK, ?_⟩⟩
    have hc5 := (hb1.kept (grownBy_putObj' _ D (.deferred none)) (fun e => by
      cases e
      rw [show _ = _ from hb1] at hK
      cases hK)).cell
    refine ⟨.pointer (some ⟨x.1.g, 0, none⟩), ?_, by rw [fnd_pre hpre hne hx]; rfl, hB.trans (belowK_b (w := w) (Nat.le_refl _) W D _ _ (by simp at hD; omega) hK rfl rfl)⟩
    simp [results, Tryz.results129, go_sem, hc5]
end Go.Proofs.YthnmlklgbggmbaaGreat
namespace Go
/-- The run of an append, kept whole: a walk that meets it takes what the context says of it. -/
def appRun (P : Program) (ats : Array TypeId) (ty : TypeId) (args : Array Value) (w : World) := (Builtin.append_ ats ty args).run P w
def appB (ats : Array TypeId) (ty : TypeId) (cs : Array Bool) (args : Array Value) := builtin .append ats ty cs args
theorem app_pre (ats : Array TypeId) (ty : TypeId) (cs : Array Bool) (args : Array Value) : builtin .append ats ty cs args = appB ats ty cs args := rfl
theorem app_run (P : Program) (ats : Array TypeId) (ty : TypeId) (cs : Array Bool) (args : Array Value) (w : World) : Sem.run P (appB ats ty cs args) w = (appRun P ats ty args w).andThen fun v w' => .ok (Next.value v) w' := by
  unfold appB appRun
  simp only [BigFrame.builtin_append, Sem.run_bind, Sem.run_pure]
end Go
namespace Go.Proofs.YthnmlklgbggmbaaGreat
open Go.RowKit Go.Shelf
set_option linter.unusedVariables false
attribute [local go_sem] Oper.semAt_some
attribute [local go_sem ↓ 2000] app_pre
attribute [local go_sem] app_run
/-- The waits, cell by cell. -/
def flatN (L : List QN) : List Value := L.flatMap QN.cells
theorem flatN_snoc (L : List QN) (x : QN) : flatN (L ++ [x]) = flatN L ++ x.cells := by simp [flatN]
theorem flatN_len (L : List QN) : (flatN L).length = L.length * 4 := by
  induction L with
  | nil => rfl
  | cons x L ih => simp only [flatN, List.flatMap_cons, List.length_append, List.length_cons] at ih ⊢; rw [ih]; simp [QN.cells]; omega
theorem cell_four_new (w : World) (x : QN) (t : TypeId) : ∀ j u, x.cells[j]? = some u → (w.alloc (.cells x.cells.toArray t)).cell? ((⟨w.heap.size, 0, none⟩ : Addr).add j) = some u := by
  intro j u hj
  have e : ((⟨w.heap.size, 0, none⟩ : Addr).add j) = ⟨w.heap.size, j, none⟩ := by
    simp only [Addr.add]
    by_cases h : j = 0 <;> simp [h]
  rw [e, cell_of (heap_new w _) j]
  simpa using hj
theorem x_one (x : QN) : ∀ u ∈ x.cells, u.oneCell' = true := by
  intro u hu
  simp [QN.cells] at hu
  rcases hu with rfl | rfl | rfl | rfl <;> rfl
theorem info_wait : (Tryz.prog.info? 88).map (fun i => (i.zero, i.size, i.bytes)) = some (some (.agg #[.int .i64 0, .int .i64 0, .int .i64 0, .int .u32 0]), 4, 32) := by kernel_rfl
/-- What comes of 'append(all, l.wait)': the run, and all that the walk owes behind it. -/
theorem app_wait {W : World} {n₀ B : Nat} {v : Value} {M : List QN} (x : QN) (hv : Boxed W B 55 v) (hrow : W.ownsRow n₀ 88 4 v M.length (flatN M)) (hn₀ : n₀ ≤ W.heap.size) (hB : n₀ ≤ B) (hm : M.length < 1000000) :
    ∃ g cap w1, appRun Tryz.prog #[55, 55] 55 #[v, .slice (some ⟨W.heap.size, 0, none⟩) 1 1] (W.alloc (.cells #[.int .i64 x.t, .int .i64 x.k, .int .i64 x.o, .int .u32 (x.m : Int)] 88)).drew = .ok (.slice (some ⟨g, 0, none⟩) (M.length + 1) cap) w1 ∧
      Boxed w1 B 55 v ∧ Boxed (w1.setCell ⟨B, 0, none⟩ (.slice (some ⟨g, 0, none⟩) (M.length + 1) cap)) B 55 (.slice (some ⟨g, 0, none⟩) (M.length + 1) cap) ∧
      (w1.setCell ⟨B, 0, none⟩ (.slice (some ⟨g, 0, none⟩) (M.length + 1) cap)).ownsRow n₀ 88 4 (.slice (some ⟨g, 0, none⟩) (M.length + 1) cap) (M ++ [x]).length (flatN (M ++ [x])) ∧
      KeepsOthers W (w1.setCell ⟨B, 0, none⟩ (.slice (some ⟨g, 0, none⟩) (M.length + 1) cap)) ∧ Below n₀ W (w1.setCell ⟨B, 0, none⟩ (.slice (some ⟨g, 0, none⟩) (M.length + 1) cap)) ∧
      ∀ (k : Nat) (t : TypeId) (u : Value), k ≠ B → t ≠ 88 → Boxed W k t u → Boxed (w1.setCell ⟨B, 0, none⟩ (.slice (some ⟨g, 0, none⟩) (M.length + 1) cap)) k t u := by
  obtain ⟨i0, hi, hz0, hz1, hz2⟩ := info_parts info_wait
  have hrd : W.drew.ownsRow n₀ 88 4 v M.length (flatN M) := hrow
  obtain ⟨v', w1, hrun, hown, hgrow, _⟩ := run_append_own (P := Tryz.prog) (W.drew.alloc (.cells x.cells.toArray 88)) n₀ 55 55 88 i0 _ 4 32 Tryz.underlying55 hi hz0 hz1 hz2 rfl (by decide) v M.length (flatN M) (hrd.alloc _) ⟨W.drew.heap.size, 0, none⟩ 1 1 x.cells rfl (cell_four_new W.drew x _) (x_one x) (by unfold maxLen; omega) (by omega) (by rw [World.size_alloc]; exact Nat.le_succ_of_le hn₀)
  obtain ⟨g, cap, rfl⟩ := ownsRow_succ hown
  obtain ⟨h1, h2, h3, h4, h5⟩ := (show Boxed W.drew B 55 v from hv).appended (by decide) hrd hn₀ hB hown hgrow
  refine ⟨g, cap, w1, hrun, h1, h2, by rw [flatN_snoc, List.length_append]; exact h3, (KeepsOthers.drew W).trans h4, (Below.refl n₀ W).drew.trans h5, fun k t u hk ht hu => ?_⟩
  have a1 : Boxed w1 k t u := ((show Boxed W.drew k t u from hu).alloc _).kept hgrow ((show Boxed W.drew k t u from hu).not_row ht hrd)
  exact heap_other a1 hk _
set_option maxRecDepth 100000 in
set_option maxHeartbeats 2000000 in
theorem List_any (p : Option Addr) (L : List QN) (w : World) (hQ : QP w p L) (hlen : L.length < 1000000) :
    Calls Tryz.prog 54 #[.pointer p] w fun e W' => ∃ v, e = .returned v ∧ W'.ownsRow w.heap.size 88 4 v L.length (flatN L) ∧ Below w.heap.size w W' := by
  have hf : Fence.wide.fn 78 := trivial
  refine (callsIn_wide (n := 9)).1 ?_
  refine callsIn_of_wp_marks Tryz.func54 rfl trivial ?_ rfl
  simp only [Tryz.ntmps54, List.size_toArray, List.length_cons, List.length_nil, Nat.reduceAdd, Nat.reduceSub, Array.replicate_succ, Array.replicate_zero, List.push_toArray, List.append_toArray, List.nil_append, List.cons_append]
  gi_wp2_with (gi_at_call 78; refine (links_in _ _ _).mono ?_; rintro e w' ⟨rfl, rfl⟩)
  have b0 := Boxed.new w 55 (.slice none 0 0)
  have b2 := Boxed.new (w.alloc (.cells #[.slice none 0 0] 55)) 96 (.pointer p)
  simp only [World.size_alloc] at b2
  have hB0 : Below w.heap.size w ((w.alloc (.cells #[.slice none 0 0] 55)).alloc (.cells #[.pointer p] 96)) := ((Below.refl _ w).alloc (Nat.le_refl _) _).alloc (by simp) _
  refine wpIn_rangeFunc_ownG (n := 9) (F := Fence.wide) rfl (by decide) (gf := 128) (lb := #[.pointer (some ⟨w.heap.size + 1, 0, none⟩)]) rfl trivial (enters_of Tryz.func128 (by kernel_rfl) rfl)
    (links_stops (9 - 1) (by decide) (w.heap.size + 1) w.heap.size w _ (Nat.le_refl _) (by simp; omega) p L hQ hB0 b2) KQ.t (KQ.b (by simp; omega)) (Below.refl _ _) (fun _ => rfl)
    (fun pre W => (∃ v, Boxed W w.heap.size 55 v ∧ W.ownsRow w.heap.size 88 4 v (pre.map (fun x => x.1)).length (flatN (pre.map (fun x => x.1))) ∧ True) ∧ Below w.heap.size w W)
    (fun _ _ _ => False)
    (OwnFrom.and (Own.from (holdsRow_own w.heap.size w.heap.size 55 88 4 (fun pre : List {x : QN // x ∈ L} => (pre.map (fun x => x.1)).length) (fun pre => flatN (pre.map (fun x => x.1))) (fun _ _ => True)) _) (ownFrom_below (Nat.le_refl _) (by simp; omega)))
    (fun _ _ _ _ _ hs _ _ => hs)
    ⟨⟨_, b0.alloc _, World.ownsRow_nil _ _ _ _, trivial⟩, hB0⟩
    (fun x => { tmps := #[.pointer p, undef, .slice none 0 0, .pointer (some ⟨w.heap.size, 0, none⟩), .pointer (some ⟨x.1.g, 0, none⟩), .pointer p, .func (.func 128) #[] #[.pointer (some ⟨w.heap.size + 1, 0, none⟩)], .pointer (some ⟨x.1.g, 0, none⟩), undef, undef, undef, undef, undef, undef, undef, undef], defers := [] }) ?assign ?body ?done ?stop
  case assign =>
    intro l x W K hK
    gi_wp2
    exact hK
  case body =>
    rintro l pre x W ⟨⟨v, hv, hrow, _⟩, hB⟩ hpl
    obtain ⟨nn, pp, hnd⟩ := (hQ.below (Nat.le_refl _) hB).node x.2
    have hml : (pre.map (fun x => x.1)).length < 1000000 := by simp at hpl ⊢; omega
    obtain ⟨g, cap, w1, hrun, h1, h2, h3, h4, h5, h6⟩ := app_wait x.1 hv hrow hB.size (Nat.le_refl _) hml
    have c0 := hv.cell
    have l0 := hv.lt
    have c0a := (hv.alloc (.cells #[.int .i64 x.1.t, .int .i64 x.1.k, .int .i64 x.1.o, .int .u32 (x.1.m : Int)] 88)).cell
    have c1 := h1.cell
    have f1 := h1.frozen
    have l1 := h1.lt
    have x0 : W.cell? ⟨x.1.g, 0, none⟩ = some (.int .i64 x.1.t) := cell_of hnd 0
    have x1 : W.cell? ⟨x.1.g, 1, none⟩ = some (.int .i64 x.1.k) := cell_of hnd 1
    have x2 : W.cell? ⟨x.1.g, 2, none⟩ = some (.int .i64 x.1.o) := cell_of hnd 2
    have x3 : W.cell? ⟨x.1.g, 3, none⟩ = some (.int .u32 (x.1.m : Int)) := cell_of hnd 3
    have lx := lt_of hnd
    have hmx : Tryz.prog.follows .mixedOrders = true := by kernel_rfl
    simp only [List.length_map] at h2 h3 h4 h5 h6
    have HB := Lib.hid (And.intro hB (And.intro h2 (And.intro h3 (And.intro h4 (And.intro h5 h6)))))
    clear hB h2 h3 h4 h5 h6 hv hrow h1 hnd hpl hml
    gi_wp2
    gi_region_o
    all_goals gi_wp2
    all_goals (try go_bits)
    all_goals
      obtain ⟨hB, h2, h3, h4, h5, h6⟩ := HB.out
      exact ⟨h4.from _, ⟨h5, fun u hu => h6 _ _ u (by omega) (by decide) hu⟩, ⟨_, h2, by rw [List.map_append]; exact h3, trivial⟩, hB.trans h5⟩
  case done =>
    rintro D ys W hD rfl ⟨⟨v, hv, hrow, _⟩, hB⟩ hK
    have hc := hv.cell
    gi_wp2
    refine ⟨by simp, .inl ⟨_, _, rfl, run_takeDeferred hK, ?_⟩⟩
    rw [map_attach] at hrow
    exact ⟨_, results_tmp rfl _ _ _, v, rfl, ownsRow_putObj hrow _ hK rfl, hB.trans (belowK_b (w := w) (Nat.le_refl _) W D _ _ (by simp at hD; omega) hK rfl rfl)⟩
  case stop =>
    rintro D c pre W _ _ h _
    exact h.elim
end Go.Proofs.YthnmlklgbggmbaaGreat
namespace Go.Proofs.YthnmlklgbggmbaaGreat
open Go.ChangeShapes Go.WideShapes Go.ChangeAt Go.RowKit
set_option linter.unusedVariables false
def qv (x : QN) : Value := .agg #[.int .i64 x.t, .int .i64 x.k, .int .i64 x.o, .int .u32 (x.m : Int)]
def zv : Value := .agg #[.int .i64 0, .int .i64 0, .int .i64 0, .int .u32 0]
def wv : Option QN → Value
  | some x => qv x
  | none => zv
theorem fnd_mem {L : List QN} {t : Int} {x : QN} (h : fnd L t = some x) : x ∈ L := List.mem_of_find?_eq_some h
theorem set4 {w : World} {b : Nat} {a0 a1 a2 a3 : Value} {t : TypeId} (h : w.heap[b]? = some (.cells #[a0, a1, a2, a3] t (0, 0))) (v0 v1 v2 v3 : Value) :
    ((((w.setCell ⟨b, 0, none⟩ v0).setCell ⟨b, 1, none⟩ v1).setCell ⟨b, 2, none⟩ v2).setCell ⟨b, 3, none⟩ v3).heap[b]? = some (.cells #[v0, v1, v2, v3] t (0, 0)) :=
  heap_set (heap_set (heap_set (heap_set h 0 v0) 1 v1) 2 v2) 3 v3
theorem below4 {B : Nat} {a w : World} (h : Below B a w) {b : Nat} (hb : B ≤ b) (v0 v1 v2 v3 : Value) :
    Below B a ((((w.setCell ⟨b, 0, none⟩ v0).setCell ⟨b, 1, none⟩ v1).setCell ⟨b, 2, none⟩ v2).setCell ⟨b, 3, none⟩ v3) :=
  (((h.setCell (p := ⟨b, 0, none⟩) hb v0).setCell (p := ⟨b, 1, none⟩) hb v1).setCell (p := ⟨b, 2, none⟩) hb v2).setCell (p := ⟨b, 3, none⟩) hb v3
set_option maxRecDepth 20000 in
theorem Find_any (p : Option Addr) (L : List QN) (task : Int) (w : World) (hQ : QP w p L) :
    Calls Tryz.prog 146 #[.pointer p, .int .i64 task] w fun e W' => e = .returned (.tuple #[wv (fnd L task), .bool (fnd L task).isSome]) ∧ Below w.heap.size w W' := by
  obtain ⟨w1, hw1⟩ : ∃ w1, w.alloc (.cells #[.int .i64 0, .int .i64 0, .int .i64 0, .int .u32 0] 88) = w1 := ⟨_, rfl⟩
  have hz : w1.heap.size = w.heap.size + 1 := by rw [← hw1]; simp
  have hb1 : Below w.heap.size w w1 := by rw [← hw1]; exact (Below.refl _ _).alloc (Nat.le_refl _) _
  have HW := Lib.hid (And.intro hz hb1)
  have hn1 : w1.heap[w.heap.size]? = some (.cells #[.int .i64 0, .int .i64 0, .int .i64 0, .int .u32 0] 88 (0, 0)) := by rw [← hw1]; exact heap_new _ _
  have HN := Lib.hid hn1
  have HF := Lib.hid (find_any p L task w1 (hQ.below (Nat.le_refl _) hb1))
  have HQ := Lib.hid hQ
  clear hQ hz hb1 hn1
  go_enter Tryz.func146, Tryz.ntmps146
  go_wp2_with fail
  refine HF.out.mono ?_
  rintro e w2 ⟨rfl, k2⟩
  have hb2 := HW.out.2.trans (k2.mono (by rw [HW.out.1]; omega))
  have hn2 := at_below k2 HN.out (by rw [HW.out.1]; omega)
  have c0 : w2.cell? ⟨w.heap.size, 0, none⟩ = some (.int .i64 0) := cell_of hn2 0
  have c1 : w2.cell? ⟨w.heap.size, 1, none⟩ = some (.int .i64 0) := cell_of hn2 1
  have c2 : w2.cell? ⟨w.heap.size, 2, none⟩ = some (.int .i64 0) := cell_of hn2 2
  have c3 : w2.cell? ⟨w.heap.size, 3, none⟩ = some (.int .u32 0) := cell_of hn2 3
  have f0 : w2.frozen? ⟨w.heap.size, 0, none⟩ = false := free_of hn2 0
  have f1 : w2.frozen? ⟨w.heap.size, 1, none⟩ = false := free_of hn2 1
  have f2 : w2.frozen? ⟨w.heap.size, 2, none⟩ = false := free_of hn2 2
  have f3 : w2.frozen? ⟨w.heap.size, 3, none⟩ = false := free_of hn2 3
  have l2 := lt_of hn2
  have HH := Lib.hid (And.intro hb2 hn2)
  clear k2 hb2 hn2
  cases hf : fnd L task with
  | none =>
    simp only [ptrO, Option.map]
    go_wp2
    have h4 := set4 HH.out.2 (.int .i64 0) (.int .i64 0) (.int .i64 0) (.int .u32 0)
    have y0 := cell_of h4 0
    have y1 := cell_of h4 1
    have y2 := cell_of h4 2
    have y3 := cell_of h4 3
    refine bodyPost_ret (v := .tuple #[zv, .bool false]) ?_ rfl ⟨by rw [hf]; rfl, below4 HH.out.1 (Nat.le_refl _) _ _ _ _⟩
    simp [results, Tryz.results146, go_sem, y0, y1, y2, y3, zv]
  | some x =>
    obtain ⟨nn, pp, hx⟩ := (HQ.out.below (Nat.le_refl _) HH.out.1).node (fnd_mem hf)
    have x0 : w2.cell? ⟨x.g, 0, none⟩ = some (.int .i64 x.t) := cell_of hx 0
    have x1 : w2.cell? ⟨x.g, 1, none⟩ = some (.int .i64 x.k) := cell_of hx 1
    have x2 : w2.cell? ⟨x.g, 2, none⟩ = some (.int .i64 x.o) := cell_of hx 2
    have x3 : w2.cell? ⟨x.g, 3, none⟩ = some (.int .u32 (x.m : Int)) := cell_of hx 3
    have xl := lt_of hx
    simp only [ptrO, Option.map]
    go_wp2
    have h4 := set4 HH.out.2 (.int .i64 x.t) (.int .i64 x.k) (.int .i64 x.o) (.int .u32 (x.m : Int))
    have y0 := cell_of h4 0
    have y1 := cell_of h4 1
    have y2 := cell_of h4 2
    have y3 := cell_of h4 3
    refine bodyPost_ret (v := .tuple #[qv x, .bool true]) ?_ rfl ⟨by rw [hf]; rfl, below4 HH.out.1 (Nat.le_refl _) _ _ _ _⟩
    simp [results, Tryz.results146, go_sem, y0, y1, y2, y3, qv]
end Go.Proofs.YthnmlklgbggmbaaGreat
namespace Go.Proofs.YthnmlklgbggmbaaGreat
open Go.RowKit
set_option linter.unusedVariables false
/-- Are two waits the same? -/
def eqW (a b c d a' b' c' d' : Int) : Bool := decide (a = a' ∧ b = b' ∧ c = c' ∧ d = d')
theorem eqw (a b c d a' b' c' d' : Int) (w : World) : (Op.equalIn 10000 88 (.agg #[.int .i64 a, .int .i64 b, .int .i64 c, .int .u32 d]) (.agg #[.int .i64 a', .int .i64 b', .int .i64 c', .int .u32 d'])).run Tryz.prog w = .ok (eqW a b c d a' b' c' d') w := by
  have u3 := Tryz.underlying3
  have u4 := Tryz.underlying38
  have a3 := Tryz.isAgg3
  have a4 := Tryz.isAgg38
  have z3 := Tryz.sizeOf3
  have z4 := Tryz.sizeOf38
  have hS : Tryz.prog.underlying 88 = some (.struct (Tryz.prog.fieldsOf 88)) := by kernel_rfl
  have hp : Tryz.prog.stoodInHeld 88 = false := by kernel_rfl
  rw [show (10000 : Nat) = 9999 + 1 from rfl, run_equalIn_agg w 9999 88 _ _ hS hp]
  simp only [Program.fieldsOf, Tryz.underlying88]
  go_simp
  simp only [eqW]
  by_cases h1 : a = a' <;> by_cases h2 : b = b' <;> by_cases h3 : c = c' <;> by_cases h4 : d = d' <;> simp [h1, h2, h3, h4]
def QN.wait (x : QN) : Int × Int × Int × Nat := (x.t, x.k, x.o, x.m)
theorem eqW_wait (x y : QN) : eqW x.t x.k x.o (x.m : Int) y.t y.k y.o (y.m : Int) = decide (x.wait = y.wait) := by
  simp only [eqW, QN.wait, Prod.mk.injEq, Int.ofNat_inj]
theorem others4 (W : World) (b : Nat) (v0 v1 v2 v3 : Value) : KeepsOthers W ((((W.setCell ⟨b, 0, none⟩ v0).setCell ⟨b, 1, none⟩ v1).setCell ⟨b, 2, none⟩ v2).setCell ⟨b, 3, none⟩ v3) :=
  (((KeepsOthers.setCell W _ _).trans (KeepsOthers.setCell _ _ _)).trans (KeepsOthers.setCell _ _ _)).trans (KeepsOthers.setCell _ _ _)
theorem far4 {W : World} {b k : Nat} {o : Obj} (h : W.heap[k]? = some o) (hk : k ≠ b) (v0 v1 v2 v3 : Value) : ((((W.setCell ⟨b, 0, none⟩ v0).setCell ⟨b, 1, none⟩ v1).setCell ⟨b, 2, none⟩ v2).setCell ⟨b, 3, none⟩ v3).heap[k]? = some o :=
  heap_other (heap_other (heap_other (heap_other h hk _) hk _) hk _) hk _
end Go.Proofs.YthnmlklgbggmbaaGreat
namespace Go.Proofs.YthnmlklgbggmbaaGreat
open Go.RowKit Go.Shelf
set_option linter.unusedVariables false
attribute [local go_sem] Oper.semAt_some
attribute [local go_sem ↓ 2000] eqw
/-- A block of cells that stays as it is, for the law on ranges. -/
theorem cells_own {β : Type} (B : Nat) (cs : Array Value) (t : TypeId) : Own (fun (_ : β) W => W.heap[B]? = some (.cells cs t (0, 0))) := fun s X Y row hs hg hrow => by
  refine (hg.block B (lt_of hs) (fun e => ?_)).trans hs
  obtain ⟨o, ho, hc⟩ := hrow B e.symm
  rw [hs] at ho; cases ho; cases hc
/-- What Next looks for: the wait behind the first one that is v, or the first one of all. -/
def scan (v : Int × Int × Int × Nat) : Bool → List QN → Option QN
  | _, [] => none
  | true, y :: _ => some y
  | false, y :: L => scan v (decide (y.wait = v)) L
set_option maxRecDepth 100000 in
set_option maxHeartbeats 2000000 in
theorem Next_scan (p : Option Addr) (L : List QN) (task : Int) (X : QN) (b0 : Bool) (w : World) (hQ : QP w p L) (hX : wv (fnd L task) = qv X) (hb : (fnd L task).isSome = !b0) :
    Calls Tryz.prog 91 #[.pointer p, .int .i64 task] w fun e W' => e = .returned (.tuple #[wv (scan X.wait b0 L), .bool (scan X.wait b0 L).isSome]) ∧ Below w.heap.size w W' := by
  have hf1 : Fence.wide.fn 78 := trivial
  have hf2 : Fence.wide.fn 146 := trivial
  obtain ⟨w1, hw1⟩ : ∃ w1, (w.alloc (.cells #[.int .i64 0, .int .i64 0, .int .i64 0, .int .u32 0] 88)).alloc (.cells #[.bool false] 4) = w1 := ⟨_, rfl⟩
  have hz : w1.heap.size = w.heap.size + 2 := by rw [← hw1]; simp
  have hb1 : Below w.heap.size w w1 := by rw [← hw1]; exact ((Below.refl _ _).alloc (Nat.le_refl _) _).alloc (by simp) _
  have hn1 : w1.heap[w.heap.size]? = some (.cells #[.int .i64 0, .int .i64 0, .int .i64 0, .int .u32 0] 88 (0, 0)) := by rw [← hw1]; exact heap_old (heap_new _ _) _
  have hr1 : Boxed w1 (w.heap.size + 1) 4 (.bool false) := by
    rw [← hw1]
    have := Boxed.new (w.alloc (.cells #[.int .i64 0, .int .i64 0, .int .i64 0, .int .u32 0] 88)) 4 (.bool false)
    simpa using this
  have hF := Find_any p L task w1 (hQ.below (Nat.le_refl _) hb1)
  rw [hX, hb] at hF
  have HF := Lib.hid hF
  have HW := Lib.hid (And.intro hz (And.intro hb1 (And.intro hn1 hr1)))
  clear hF hz hb1 hn1 hr1 hX hb
  refine (callsIn_wide (n := 9)).1 ?_
  refine callsIn_of_wp_marks Tryz.func91 rfl trivial ?_ rfl
  simp only [Tryz.ntmps91, List.size_toArray, List.length_cons, List.length_nil, Nat.reduceAdd, Nat.reduceSub, Array.replicate_succ, Array.replicate_zero, List.push_toArray, List.append_toArray, List.nil_append, List.cons_append]
  gi_wp2_with fail
  refine (callsIn_wide.2 HF.out).mono ?_
  rintro e w2 ⟨rfl, k2⟩
  unfold qv
  obtain ⟨hz, hb1, hn1, hr1⟩ := HW.out
  have hb2 := hb1.trans (k2.mono (by rw [hz]; omega))
  have hn2 := at_below k2 hn1 (by rw [hz]; omega)
  have hr2 : Boxed w2 (w.heap.size + 1) 4 (.bool false) := at_below k2 hr1 (by rw [hz]; omega)
  have hs2 : w.heap.size + 1 < w2.heap.size := lt_of hr2
  have HH := Lib.hid (And.intro hb2 (And.intro hn2 (And.intro hr2 hs2)))
  clear k2 hz hb1 hn1 hr1 hb2 hn2 hr2 hs2
  gi_wp2_with (gi_at_call 78; refine (links_in _ _ _).mono ?_; rintro e w' ⟨rfl, rfl⟩)
  obtain ⟨hb2, hn2, hr2, hs2⟩ := HH.out
  obtain ⟨w3, hw3⟩ : ∃ w3, (((w2.alloc (.cells #[.int .i64 X.t, .int .i64 X.k, .int .i64 X.o, .int .u32 (X.m : Int)] 88)).alloc (.cells #[.bool b0] 4)).alloc (.cells #[.pointer p] 96)) = w3 := ⟨_, rfl⟩
  have hs3 : w3.heap.size = w2.heap.size + 3 := by rw [← hw3]; simp
  have hb3 : Below w.heap.size w w3 := by rw [← hw3]; exact ((hb2.alloc hb2.size _).alloc (Nat.le_trans hb2.size (by simp)) _).alloc (Nat.le_trans hb2.size (by simp; omega)) _
  have hb23 : Below w2.heap.size w2 w3 := by rw [← hw3]; exact (((Below.refl _ _).alloc (Nat.le_refl _) _).alloc (by simp) _).alloc (by simp; omega) _
  have hn3 := at_below hb23 hn2 (by omega)
  have hr3 : Boxed w3 (w.heap.size + 1) 4 (.bool false) := at_below hb23 hr2 hs2
  have hx3 : w3.heap[w2.heap.size]? = some (.cells #[.int .i64 X.t, .int .i64 X.k, .int .i64 X.o, .int .u32 (X.m : Int)] 88 (0, 0)) := by rw [← hw3]; exact heap_old (heap_old (heap_new _ _) _) _
  have hd3 : Boxed w3 (w2.heap.size + 1) 4 (.bool b0) := by
    rw [← hw3]
    have := (Boxed.new (w2.alloc (.cells #[.int .i64 X.t, .int .i64 X.k, .int .i64 X.o, .int .u32 (X.m : Int)] 88)) 4 (.bool b0)).alloc (.cells #[.pointer p] 96)
    simpa using this
  have hq3 : Boxed w3 (w2.heap.size + 1 + 1) 96 (.pointer p) := by
    rw [← hw3]
    have := Boxed.new ((w2.alloc (.cells #[.int .i64 X.t, .int .i64 X.k, .int .i64 X.o, .int .u32 (X.m : Int)] 88)).alloc (.cells #[.bool b0] 4)) 96 (.pointer p)
    simpa using this
  rw [hw3]
  clear hw3 hb2 hn2 hr2
  refine wpIn_rangeFunc_ownG (n := 9) (F := Fence.wide) rfl (by decide) (gf := 128) (lb := #[.pointer (some ⟨w2.heap.size + 1 + 1, 0, none⟩)]) rfl trivial (enters_of Tryz.func128 (by kernel_rfl) rfl)
    (links_stops (9 - 1) (by decide) (w2.heap.size + 1 + 1) w.heap.size w _ (Nat.le_refl _) hb3.size p L hQ hb3 hq3) KQ.t (KQ.b hb3.size) (Below.refl _ _) (fun _ => rfl)
    (fun pre W => (W.heap[w.heap.size]? = some (.cells #[.int .i64 0, .int .i64 0, .int .i64 0, .int .u32 0] 88 (0, 0)) ∧ Boxed W (w.heap.size + 1) 4 (.bool false) ∧ W.heap[w2.heap.size]? = some (.cells #[.int .i64 X.t, .int .i64 X.k, .int .i64 X.o, .int .u32 (X.m : Int)] 88 (0, 0)) ∧ ∃ b, Boxed W (w2.heap.size + 1) 4 (.bool b) ∧ ∀ R, scan X.wait b0 (pre.map (fun x => x.1) ++ R) = scan X.wait b R) ∧ Below w.heap.size w W)
    (fun c pre W => (c = .ret ∧ ∃ (z : QN), (∀ R, scan X.wait b0 (pre.map (fun x => x.1) ++ R) = some z) ∧ W.heap[w.heap.size]? = some (.cells #[.int .i64 z.t, .int .i64 z.k, .int .i64 z.o, .int .u32 (z.m : Int)] 88 (0, 0)) ∧ Boxed W (w.heap.size + 1) 4 (.bool true)) ∧ Below w.heap.size w W)
    (OwnFrom.and (OwnFrom.and (Own.from (cells_own _ _ _) _) (OwnFrom.and (Own.from (boxed_own _ _ _) _) (OwnFrom.and (Own.from (cells_own _ _ _) _) (Own.from (fun s A B row hs hg hr => by
      obtain ⟨b, h1, h2⟩ := hs
      exact ⟨b, boxed_own (β := Unit) _ _ (fun _ => .bool b) () A B row h1 hg hr, h2⟩) _)))) (ownFrom_below (Nat.le_refl _) hb3.size))
    (fun c => OwnFrom.and (Own.from (fun s A B row hs hg hr => by
      obtain ⟨h0, z, h1, h2, h3⟩ := hs
      exact ⟨h0, z, h1, cells_own (β := Unit) _ _ _ () A B row h2 hg hr, boxed_own (β := Unit) _ _ (fun _ => .bool true) () A B row h3 hg hr⟩) _) (ownFrom_below (Nat.le_refl _) hb3.size))
    ⟨⟨hn3, hr3, hx3, b0, hd3, fun R => rfl⟩, hb3⟩
    (fun x => { tmps := #[.pointer p, .int .i64 task, undef, undef, .pointer (some ⟨w.heap.size, 0, none⟩), .pointer (some ⟨w.heap.size + 1, 0, none⟩), .pointer (some ⟨w2.heap.size, 0, none⟩), .bool (!b0), .pointer (some ⟨w2.heap.size + 1, 0, none⟩), .pointer (some ⟨x.1.g, 0, none⟩), .tuple #[.agg #[.int .i64 X.t, .int .i64 X.k, .int .i64 X.o, .int .u32 (X.m : Int)], .bool (!b0)], .pointer p, .int .i64 task, .tuple #[.agg #[.int .i64 X.t, .int .i64 X.k, .int .i64 X.o, .int .u32 (X.m : Int)], .bool (!b0)], .agg #[.int .i64 X.t, .int .i64 X.k, .int .i64 X.o, .int .u32 (X.m : Int)], .bool (!b0), .bool (!b0), .bool b0, .pointer p, .func (.func 128) #[] #[.pointer (some ⟨w2.heap.size + 1 + 1, 0, none⟩)], .pointer (some ⟨x.1.g, 0, none⟩), undef, undef, undef, undef, undef, undef, undef, undef, undef, undef, undef, undef], defers := [] }) ?assign ?body ?done ?stop
  case assign =>
    intro l x W K hK
    gi_wp2
    exact hK
  case body =>
    rintro l pre x W ⟨⟨hn, hr, hx, b, hd, hsc⟩, hB⟩ hpl
    obtain ⟨nn, pp, hnd⟩ := (hQ.below (Nat.le_refl _) hB).node x.2
    have x0 : W.cell? ⟨x.1.g, 0, none⟩ = some (.int .i64 x.1.t) := cell_of hnd 0
    have x1 : W.cell? ⟨x.1.g, 1, none⟩ = some (.int .i64 x.1.k) := cell_of hnd 1
    have x2 : W.cell? ⟨x.1.g, 2, none⟩ = some (.int .i64 x.1.o) := cell_of hnd 2
    have x3 : W.cell? ⟨x.1.g, 3, none⟩ = some (.int .u32 (x.1.m : Int)) := cell_of hnd 3
    have lx := lt_of hnd
    have d0 := hd.cell
    have d1 := hd.frozen
    have ld := hd.lt
    have hmx : Tryz.prog.follows .mixedOrders = true := by kernel_rfl
    have HB := Lib.hid (And.intro hn (And.intro hr (And.intro hx (And.intro hd (And.intro hsc hB)))))
    cases b with
    | true =>
      have n0 : W.cell? ⟨w.heap.size, 0, none⟩ = some (.int .i64 0) := cell_of hn 0
      have n1 : W.cell? ⟨w.heap.size, 1, none⟩ = some (.int .i64 0) := cell_of hn 1
      have n2 : W.cell? ⟨w.heap.size, 2, none⟩ = some (.int .i64 0) := cell_of hn 2
      have n3 : W.cell? ⟨w.heap.size, 3, none⟩ = some (.int .u32 0) := cell_of hn 3
      have e0 : W.frozen? ⟨w.heap.size, 0, none⟩ = false := free_of hn 0
      have e1 : W.frozen? ⟨w.heap.size, 1, none⟩ = false := free_of hn 1
      have e2 : W.frozen? ⟨w.heap.size, 2, none⟩ = false := free_of hn 2
      have e3 : W.frozen? ⟨w.heap.size, 3, none⟩ = false := free_of hn 3
      have ln := lt_of hn
      have r0 := hr.cell
      have r1 := hr.frozen
      have lr := hr.lt
      clear hn hr hx hd hsc hB hnd hpl
      gi_wp2
      obtain ⟨hn, hr, hx, hd, hsc, hB⟩ := HB.out
      have h4 := set4 hn (.int .i64 x.1.t) (.int .i64 x.1.k) (.int .i64 x.1.o) (.int .u32 (x.1.m : Int))
      have hne : w.heap.size ≠ w.heap.size + 1 := by omega
      refine ⟨((others4 _ _ _ _ _ _).trans (KeepsOthers.setCell _ _ _)).from _, ⟨rfl, x.1, fun R => ?_, heap_other h4 hne _, ?_⟩, (below4 hB (Nat.le_refl _) _ _ _ _).setCell (p := ⟨w.heap.size + 1, 0, none⟩) (by simp) _⟩
      · rw [List.map_append, List.append_assoc, hsc]; rfl
      · exact Boxed.set _ (far4 hr hne.symm _ _ _ _)
    | false =>
      have y0 : W.cell? ⟨w2.heap.size, 0, none⟩ = some (.int .i64 X.t) := cell_of hx 0
      have y1 : W.cell? ⟨w2.heap.size, 1, none⟩ = some (.int .i64 X.k) := cell_of hx 1
      have y2 : W.cell? ⟨w2.heap.size, 2, none⟩ = some (.int .i64 X.o) := cell_of hx 2
      have y3 : W.cell? ⟨w2.heap.size, 3, none⟩ = some (.int .u32 (X.m : Int)) := cell_of hx 3
      have ly := lt_of hx
      clear hn hr hx hd hsc hB hnd hpl
      gi_wp2
      gi_region_o
      all_goals gi_wp2
      all_goals
        obtain ⟨hn, hr, hx, hd, hsc, hB⟩ := HB.out
        rw [eqW_wait]
        have hs2 := HH.out.2.2.2
        exact ⟨((KeepsOthers.setCell _ _ _).trans (KeepsOthers.drew _)).from _, ⟨((Below.refl _ W).setCell (p := ⟨w2.heap.size + 1, 0, none⟩) (by show w.heap.size ≤ w2.heap.size + 1; omega) _).drew, fun u hu => heap_other hu (by show w2.heap.size + 1 + 1 ≠ w2.heap.size + 1; omega) _⟩, ⟨heap_other hn (by show w.heap.size ≠ w2.heap.size + 1; omega) _, heap_other hr (by show w.heap.size + 1 ≠ w2.heap.size + 1; omega) _, heap_other hx (by show w2.heap.size ≠ w2.heap.size + 1; omega) _, _, (hd.set _).drew, fun R => by rw [List.map_append, List.append_assoc, hsc]; rfl⟩, (hB.setCell (p := ⟨w2.heap.size + 1, 0, none⟩) (by show w.heap.size ≤ w2.heap.size + 1; omega) _).drew⟩
  case done =>
    rintro D ys W hD rfl ⟨⟨hn, hr, hx, b, hd, hsc⟩, hB⟩ hK
    have n0 : W.cell? ⟨w.heap.size, 0, none⟩ = some (.int .i64 0) := cell_of hn 0
    have n1 : W.cell? ⟨w.heap.size, 1, none⟩ = some (.int .i64 0) := cell_of hn 1
    have n2 : W.cell? ⟨w.heap.size, 2, none⟩ = some (.int .i64 0) := cell_of hn 2
    have n3 : W.cell? ⟨w.heap.size, 3, none⟩ = some (.int .u32 0) := cell_of hn 3
    have e0 : W.frozen? ⟨w.heap.size, 0, none⟩ = false := free_of hn 0
    have e1 : W.frozen? ⟨w.heap.size, 1, none⟩ = false := free_of hn 1
    have e2 : W.frozen? ⟨w.heap.size, 2, none⟩ = false := free_of hn 2
    have e3 : W.frozen? ⟨w.heap.size, 3, none⟩ = false := free_of hn 3
    have ln := lt_of hn
    have r0 := hr.cell
    have r1 := hr.frozen
    have lr := hr.lt
    have hne : w.heap.size ≠ w.heap.size + 1 := by omega
    have HB := Lib.hid (And.intro hn (And.intro hr (And.intro hsc hB)))
    clear hn hr hx hd hsc hB
    gi_wp2
    obtain ⟨hn, hr, hsc, hB⟩ := HB.out
    have h4 := heap_other (set4 hn (.int .i64 0) (.int .i64 0) (.int .i64 0) (.int .u32 0)) hne (a := ⟨w.heap.size + 1, 0, none⟩) (.bool false)
    have h5 : Boxed _ (w.heap.size + 1) 4 (.bool false) := Boxed.set (.bool false) (far4 hr hne.symm (.int .i64 0) (.int .i64 0) (.int .i64 0) (.int .u32 0))
    have hK' := ((others4 W w.heap.size (.int .i64 0) (.int .i64 0) (.int .i64 0) (.int .u32 0)).trans (KeepsOthers.setCell _ ⟨w.heap.size + 1, 0, none⟩ (.bool false))).same D _ hK rfl
    have hB5 := (below4 hB (Nat.le_refl _) (.int .i64 0) (.int .i64 0) (.int .i64 0) (.int .u32 0)).setCell (p := ⟨w.heap.size + 1, 0, none⟩) (by simp) (.bool false)
    have hnone : scan X.wait b0 L = none := by
      have := hsc []
      rw [List.append_nil, map_attach] at this
      rw [this]
      cases b <;> rfl
    refine ⟨by simp, .inl ⟨_, _, rfl, run_takeDeferred hK', ?_⟩⟩
    generalize hWW : (((((W.setCell ⟨w.heap.size, 0, none⟩ (.int .i64 0)).setCell ⟨w.heap.size, 1, none⟩ (.int .i64 0)).setCell ⟨w.heap.size, 2, none⟩ (.int .i64 0)).setCell ⟨w.heap.size, 3, none⟩ (.int .u32 0)).setCell ⟨w.heap.size + 1, 0, none⟩ (.bool false)) = WW at *
    have h6 : (WW.putObj D (.deferred none)).heap[w.heap.size]? = some (.cells #[.int .i64 0, .int .i64 0, .int .i64 0, .int .u32 0] 88 (0, 0)) := ((grownBy_putObj' WW D (.deferred none)).block _ (lt_of h4) (fun e => by cases e; rw [h4] at hK'; cases hK')).trans h4
    have h7 := (h5.kept (grownBy_putObj' WW D (.deferred none)) (fun e => by cases e; rw [show _ = _ from h5] at hK'; cases hK')).cell
    have y0 := cell_of h6 0
    have y1 := cell_of h6 1
    have y2 := cell_of h6 2
    have y3 := cell_of h6 3
    refine ⟨.tuple #[zv, .bool false], ?_, by rw [hnone]; rfl, hB5.trans (belowK_b (w := w) (Nat.le_refl _) _ D _ _ (by have := hB5.size; have := hb3.size; omega) hK' rfl rfl)⟩
    simp [results, Tryz.results91, go_sem, y0, y1, y2, y3, h7, zv]
  case stop =>
    rintro D c pre W hD hpre ⟨⟨rfl, z, hsc, hn, hr⟩, hB⟩ hK
    have HB := Lib.hid (And.intro hn (And.intro hr (And.intro hsc hB)))
    clear hn hr hsc hB
    gi_wp2
    obtain ⟨hn, hr, hsc, hB⟩ := HB.out
    obtain ⟨R, hR⟩ := pre_map hpre
    have hsome : scan X.wait b0 L = some z := by rw [← hR]; exact hsc R
    refine ⟨by simp, .inl ⟨_, _, rfl, run_takeDeferred hK, ?_⟩⟩
    have h6 : (W.putObj D (.deferred none)).heap[w.heap.size]? = _ := ((grownBy_putObj' W D (.deferred none)).block _ (lt_of hn) (fun e => by cases e; rw [hn] at hK; cases hK)).trans hn
    have h7 := (hr.kept (grownBy_putObj' W D (.deferred none)) (fun e => by cases e; rw [show _ = _ from hr] at hK; cases hK)).cell
    have y0 := cell_of h6 0
    have y1 := cell_of h6 1
    have y2 := cell_of h6 2
    have y3 := cell_of h6 3
    refine ⟨.tuple #[qv z, .bool true], ?_, by rw [hsome]; rfl, hB.trans (belowK_b (w := w) (Nat.le_refl _) W D _ _ (by have := hb3.size; omega) hK rfl rfl)⟩
    simp [results, Tryz.results91, go_sem, y0, y1, y2, y3, h7, qv]
end Go.Proofs.YthnmlklgbggmbaaGreat
namespace Go.Proofs.YthnmlklgbggmbaaGreat
open Go.RowKit
set_option linter.unusedVariables false
theorem bk_zero (Q : Nat) (L : List QN) : bk Q L 0 = Q := rfl
theorem bk_app_lt {Q : Nat} {L : List QN} {nd : QN} {i : Nat} (h : i ≤ L.length) : bk Q (L ++ [nd]) i = bk Q L i := by
  cases i with
  | zero => rfl
  | succ i => simp only [bk]; rw [List.getElem?_append_left (by omega)]
theorem bk_app_eq {Q : Nat} {L : List QN} {nd : QN} : bk Q (L ++ [nd]) (L.length + 1) = nd.g := by simp [bk]
theorem bk_app_end {Q : Nat} {L : List QN} {nd : QN} : bk Q (L ++ [nd]) (L.length + 2) = Q := bk_end (by simp)
theorem get_lt' {L : List QN} {i : Nat} {x : QN} (h : L[i]? = some x) : i < L.length := by
  rcases Nat.lt_or_ge i L.length with h1 | h1
  · exact h1
  · rw [List.getElem?_eq_none h1] at h; cases h
theorem q_first {w : World} {Q : Nat} (hq : IsQ w Q [] false) : IsQ ((w.setCell ⟨Q, 4, none⟩ (.pointer (some ⟨Q, 0, none⟩))).setCell ⟨Q, 5, none⟩ (.pointer (some ⟨Q, 0, none⟩))) Q [] true :=
  ⟨heap_set (heap_set hq.head 4 _) 5 _, fun i x hi => by simp at hi, fun i j a b hi => by simp at hi, fun h => by cases h⟩
/-- A block's number on the ring is the head's, or a node's. -/
theorem bk_cases (Q : Nat) (L : List QN) (i : Nat) : bk Q L i = Q ∨ ∃ j x, i = j + 1 ∧ L[j]? = some x ∧ bk Q L i = x.g := by
  cases i with
  | zero => exact .inl rfl
  | succ i =>
    cases h : L[i]? with
    | none => exact .inl (by simp [bk, h])
    | some x => exact .inr ⟨i, x, rfl, h, bk_some h⟩
theorem node_blocks {w : World} {Q : Nat} {L : List QN} {h : Bool} (hq : IsQ w Q L h) {i : Nat} {x : QN} (hi : L[i]? = some x) {j : Nat} (hj : j ≠ i + 1) : x.g ≠ bk Q L j := by
  intro e
  rcases bk_cases Q L j with h1 | ⟨k, y, rfl, hk, h1⟩
  · rw [h1] at e; exact hq.ne hi e
  · rw [h1] at e
    have := hq.inj i k x y hi hk e
    omega
theorem heap_set4 {w : World} {b : Nat} {a0 a1 a2 a3 a4 a5 : Value} {T : TypeId} (h : w.heap[b]? = some (.cells #[a0, a1, a2, a3, a4, a5] T (0, 0))) (v : Value) : (w.setCell ⟨b, 4, none⟩ v).heap[b]? = some (.cells #[a0, a1, a2, a3, v, a5] T (0, 0)) := heap_set h 4 v
theorem heap_set5 {w : World} {b : Nat} {a0 a1 a2 a3 a4 a5 : Value} {T : TypeId} (h : w.heap[b]? = some (.cells #[a0, a1, a2, a3, a4, a5] T (0, 0))) (v : Value) : (w.setCell ⟨b, 5, none⟩ v).heap[b]? = some (.cells #[a0, a1, a2, a3, a4, v] T (0, 0)) := heap_set h 5 v
theorem q_push_at {w W : World} {Q : Nat} {L : List QN} (hq : IsQ w Q L true) (nd : QN) (hold : ∀ (b : Nat) (x : Obj), w.heap[b]? = some x → W.heap[b]? = some x) (hg : w.heap.size = nd.g)
    (hnew : W.heap[nd.g]? = some (.cells #[.int .i64 nd.t, .int .i64 nd.k, .int .i64 nd.o, .int .u32 (nd.m : Int), .pointer (some ⟨Q, 0, none⟩), .pointer (some ⟨bk Q L L.length, 0, none⟩)] 160 (0, 0))) :
    IsQ ((W.setCell ⟨bk Q L L.length, 4, none⟩ (.pointer (some ⟨nd.g, 0, none⟩))).setCell ⟨Q, 5, none⟩ (.pointer (some ⟨nd.g, 0, none⟩))) Q (L ++ [nd]) true := by
  have hQl := lt_of hq.head
  have hnl : ∀ (i : Nat) (x : QN), L[i]? = some x → x.g < nd.g := fun i x hi => by rw [← hg]; exact lt_of (hq.node i x hi)
  have hh := hold _ _ hq.head
  have hlast : bk Q L L.length < nd.g := by
    rcases bk_cases Q L L.length with h | ⟨j, x, _, hj, h⟩
    · omega
    · rw [h]; exact hnl j x hj
  refine ⟨?_, ?_, ?_, fun h => by cases h⟩
  · have e1 : nx Q (L ++ [nd]) true (L ++ [nd]).length = some ⟨nd.g, 0, none⟩ := by
      simp only [List.length_append, List.length_cons, List.length_nil, nx, if_true]; rw [bk_app_eq]
    rw [e1]
    rcases Nat.eq_zero_or_pos L.length with h0 | hp
    · have hL : L = [] := List.length_eq_zero_iff.1 h0
      subst hL
      have := heap_set5 (heap_set4 hh (.pointer (some ⟨nd.g, 0, none⟩))) (.pointer (some ⟨nd.g, 0, none⟩))
      exact this
    · have e2 : nx Q (L ++ [nd]) true 1 = nx Q L true 1 := by simp only [nx, if_true]; rw [bk_app_lt (i := 1) (by omega)]
      rw [e2]
      obtain ⟨x, hx⟩ : ∃ x, L[L.length - 1]? = some x := ⟨_, List.getElem?_eq_getElem (by omega)⟩
      have hb : bk Q L L.length = x.g := by have := bk_some (Q := Q) hx; rwa [Nat.sub_add_cancel hp] at this
      have hne : Q ≠ bk Q L L.length := by rw [hb]; exact (hq.ne hx).symm
      exact heap_set5 (heap_other hh hne _) _
  · intro i x hi
    rcases Nat.lt_trichotomy i L.length with h1 | h1 | h1
    · rw [List.getElem?_append_left h1] at hi
      have hn := hold _ _ (hq.node i x hi)
      rw [bk_app_lt (i := i) (by omega)]
      rcases Nat.lt_or_ge (i + 1) L.length with h2 | h2
      · rw [bk_app_lt (i := i + 2) (by omega)]
        exact heap_other (heap_other hn (node_blocks hq hi (by omega)) _) (hq.ne hi) _
      · have e : i + 1 = L.length := by omega
        have hb : bk Q L L.length = x.g := by rw [← e]; exact bk_some hi
        have e3 : bk Q (L ++ [nd]) (i + 2) = nd.g := by
          have h9 := bk_app_eq (Q := Q) (L := L) (nd := nd)
          have h8 : i + 2 = L.length + 1 := by omega
          rw [h8]; exact h9
        rw [e3, hb]
        exact heap_other (heap_set4 hn _) (hq.ne hi) _
    · subst h1
      simp at hi
      subst hi
      rw [bk_app_end, bk_app_lt (Nat.le_refl _)]
      refine heap_other (heap_other hnew ?_ _) ?_ _
      · show nd.g ≠ bk Q L L.length
        omega
      · show nd.g ≠ Q
        omega
    · rw [List.getElem?_eq_none (by simp; omega)] at hi; cases hi
  · intro i j a b hi hj e
    have key : ∀ (i : Nat) (a : QN), (L ++ [nd])[i]? = some a → (i < L.length ∧ L[i]? = some a ∧ a.g < nd.g) ∨ (i = L.length ∧ a.g = nd.g) := by
      intro i a hi
      rcases Nat.lt_trichotomy i L.length with h1 | h1 | h1
      · rw [List.getElem?_append_left h1] at hi
        exact .inl ⟨h1, hi, hnl i a hi⟩
      · subst h1
        simp at hi
        subst hi
        exact .inr ⟨rfl, rfl⟩
      · rw [List.getElem?_eq_none (by simp; omega)] at hi; cases hi
    rcases key i a hi with ⟨_, h1, h2⟩ | ⟨h1, h2⟩ <;> rcases key j b hj with ⟨_, h3, h4⟩ | ⟨h3, h4⟩
    · exact hq.inj i j a b h1 h3 e
    · omega
    · omega
    · omega
theorem erase_lt {L : List QN} {j i : Nat} (h : i < j) : (L.eraseIdx j)[i]? = L[i]? := by rw [List.getElem?_eraseIdx]; simp [h]
theorem erase_ge {L : List QN} {j i : Nat} (h : j ≤ i) : (L.eraseIdx j)[i]? = L[i + 1]? := by rw [List.getElem?_eraseIdx]; simp [show ¬ i < j by omega]
theorem bk_erase_le {Q : Nat} {L : List QN} {j i : Nat} (h : i ≤ j) : bk Q (L.eraseIdx j) i = bk Q L i := by
  cases i with
  | zero => rfl
  | succ i => simp only [bk]; rw [erase_lt (by omega)]
theorem bk_erase_gt {Q : Nat} {L : List QN} {j i : Nat} (h : j < i) : bk Q (L.eraseIdx j) i = bk Q L (i + 1) := by
  cases i with
  | zero => omega
  | succ i => simp only [bk]; rw [erase_ge (by omega)]
theorem q_drop {w : World} {Q : Nat} {L : List QN} {h : Bool} (hq : IsQ w Q L h) {j : Nat} {x : QN} (hj : L[j]? = some x) :
    IsQ ((w.setCell ⟨bk Q L j, 4, none⟩ (.pointer (some ⟨bk Q L (j + 2), 0, none⟩))).setCell ⟨bk Q L (j + 2), 5, none⟩ (.pointer (some ⟨bk Q L j, 0, none⟩))) Q (L.eraseIdx j) true := by
  have hjl := get_lt' hj
  have hh : h = true := by rcases Bool.eq_false_or_eq_true h with e | e; exact e; (have := hq.ever e; simp [this] at hj)
  subst hh
  have hlen : (L.eraseIdx j).length = L.length - 1 := by rw [List.length_eraseIdx, if_pos hjl]
  refine ⟨?_, ?_, ?_, fun h => by cases h⟩
  · rw [hlen]
    have e1 : nx Q (L.eraseIdx j) true 1 = if j = 0 then some ⟨bk Q L 2, 0, none⟩ else nx Q L true 1 := by
      by_cases h0 : j = 0
      · subst h0; simp only [nx, if_true]; rw [bk_erase_gt (by omega)]
      · simp only [nx, if_true, h0, if_false]; rw [bk_erase_le (by omega)]
    have e2 : nx Q (L.eraseIdx j) true (L.length - 1) = if j + 1 = L.length then some ⟨bk Q L j, 0, none⟩ else nx Q L true L.length := by
      by_cases h0 : j + 1 = L.length
      · rw [if_pos h0]; simp only [nx, if_true]; rw [bk_erase_le (by omega), show L.length - 1 = j by omega]
      · rw [if_neg h0]; simp only [nx, if_true]; rw [bk_erase_gt (by omega), show L.length - 1 + 1 = L.length by omega]
    rw [e1, e2]
    have q1 : (w.setCell ⟨bk Q L j, 4, none⟩ (.pointer (some ⟨bk Q L (j + 2), 0, none⟩))).heap[Q]? = some (.cells #[.int .i64 0, .int .i64 0, .int .i64 0, .int .u32 0, .pointer (if j = 0 then some ⟨bk Q L 2, 0, none⟩ else nx Q L true 1), .pointer (nx Q L true L.length)] 162 (0, 0)) := by
      by_cases h0 : j = 0
      · subst h0; rw [if_pos rfl]; exact heap_set4 hq.head _
      · rw [if_neg h0]
        refine heap_other hq.head ?_ _
        show Q ≠ bk Q L j
        obtain ⟨y, hy⟩ : ∃ y, L[j - 1]? = some y := ⟨_, List.getElem?_eq_getElem (by omega)⟩
        have := bk_some (Q := Q) hy
        rw [show j - 1 + 1 = j by omega] at this
        rw [this]
        exact (hq.ne hy).symm
    by_cases h1 : j + 1 = L.length
    · rw [if_pos h1]
      have e3 : bk Q L (j + 2) = Q := bk_end (by omega)
      rw [e3] at q1 ⊢
      exact heap_set5 q1 _
    · rw [if_neg h1]
      refine heap_other q1 ?_ _
      show Q ≠ bk Q L (j + 2)
      obtain ⟨y, hy⟩ : ∃ y, L[j + 1]? = some y := ⟨_, List.getElem?_eq_getElem (by omega)⟩
      rw [bk_some hy]
      exact (hq.ne hy).symm
  · -- a node that stays: its old place is i or i + 1
    have stay : ∀ (i : Nat) (y : QN), i ≠ j → L[i]? = some y → ((w.setCell ⟨bk Q L j, 4, none⟩ (.pointer (some ⟨bk Q L (j + 2), 0, none⟩))).setCell ⟨bk Q L (j + 2), 5, none⟩ (.pointer (some ⟨bk Q L j, 0, none⟩))).heap[y.g]? = some (.cells #[.int .i64 y.t, .int .i64 y.k, .int .i64 y.o, .int .u32 (y.m : Int), .pointer (some ⟨if i + 1 = j then bk Q L (j + 2) else bk Q L (i + 2), 0, none⟩), .pointer (some ⟨if i = j + 1 then bk Q L j else bk Q L i, 0, none⟩)] 160 (0, 0)) := by
      intro i y hij hy
      have hn := hq.node i y hy
      have s1 : (w.setCell ⟨bk Q L j, 4, none⟩ (.pointer (some ⟨bk Q L (j + 2), 0, none⟩))).heap[y.g]? = some (.cells #[.int .i64 y.t, .int .i64 y.k, .int .i64 y.o, .int .u32 (y.m : Int), .pointer (some ⟨if i + 1 = j then bk Q L (j + 2) else bk Q L (i + 2), 0, none⟩), .pointer (some ⟨bk Q L i, 0, none⟩)] 160 (0, 0)) := by
        by_cases h0 : i + 1 = j
        · rw [if_pos h0]
          have : bk Q L j = y.g := by rw [← h0]; exact bk_some hy
          rw [this]
          exact heap_set4 hn _
        · rw [if_neg h0]
          exact heap_other hn (node_blocks hq hy (by omega)) _
      by_cases h0 : i = j + 1
      · rw [if_pos h0]
        have : bk Q L (j + 2) = y.g := by rw [show j + 2 = i + 1 by omega]; exact bk_some hy
        rw [this] at s1 ⊢
        exact heap_set5 s1 _
      · rw [if_neg h0]
        exact heap_other s1 (node_blocks (j := j + 2) hq hy (by omega)) _
    intro i y hi
    rcases Nat.lt_or_ge i j with h1 | h1
    · rw [erase_lt h1] at hi
      have s := stay i y (by omega) hi
      rw [if_neg (by omega : ¬ i = j + 1)] at s
      rw [bk_erase_le (by omega : i ≤ j)]
      by_cases h2 : i + 1 = j
      · rw [if_pos h2] at s
        rw [bk_erase_gt (by omega : j < i + 2), show i + 2 + 1 = j + 2 by omega]
        exact s
      · rw [if_neg h2] at s
        rw [bk_erase_le (by omega : i + 2 ≤ j)]
        exact s
    · rw [erase_ge h1] at hi
      have s := stay (i + 1) y (by omega) hi
      rw [if_neg (by omega : ¬ i + 1 + 1 = j)] at s
      rw [bk_erase_gt (by omega : j < i + 2)]
      by_cases h2 : i = j
      · rw [if_pos (by omega : i + 1 = j + 1)] at s
        rw [bk_erase_le (by omega : i ≤ j)]
        rw [h2] at s ⊢
        exact s
      · rw [if_neg (by omega : ¬ i + 1 = j + 1)] at s
        rw [bk_erase_gt (by omega : j < i)]
        exact s
  · intro i k a b hi hk e
    have key : ∀ (i : Nat) (a : QN), (L.eraseIdx j)[i]? = some a → (i < j ∧ L[i]? = some a) ∨ (j ≤ i ∧ L[i + 1]? = some a) := by
      intro i a hi
      rcases Nat.lt_or_ge i j with h1 | h1
      · rw [erase_lt h1] at hi; exact .inl ⟨h1, hi⟩
      · rw [erase_ge h1] at hi; exact .inr ⟨h1, hi⟩
    rcases key i a hi with ⟨h1, h2⟩ | ⟨h1, h2⟩ <;> rcases key k b hk with ⟨h3, h4⟩ | ⟨h3, h4⟩
    · exact hq.inj _ _ a b h2 h4 e
    · have := hq.inj _ _ a b h2 h4 e; omega
    · have := hq.inj _ _ a b h2 h4 e; omega
    · have := hq.inj _ _ a b h2 h4 e; omega
end Go.Proofs.YthnmlklgbggmbaaGreat
namespace Go.Proofs.YthnmlklgbggmbaaGreat
open Go.ChangeShapes Go.WideShapes Go.ChangeAt Go.RowKit
set_option linter.unusedVariables false
theorem fnd_split {L : List QN} {t : Int} {x : QN} (h : fnd L t = some x) : ∃ A B, L = A ++ x :: B ∧ x.t = t ∧ ∀ y, y ∈ A → y.t ≠ t := by
  obtain ⟨h1, A, B, h2, h3⟩ := List.find?_eq_some_iff_append.1 h
  exact ⟨A, B, h2, by simpa using h1, fun y hy => by simpa using h3 y hy⟩
theorem fnd_of_split {A B : List QN} {t : Int} {x : QN} (h1 : x.t = t) (h2 : ∀ y, y ∈ A → y.t ≠ t) : fnd (A ++ x :: B) t = some x := by
  rw [fnd, List.find?_append]
  have : A.find? (fun x => x.t == t) = none := by
    rw [List.find?_eq_none]
    intro y hy
    simpa using h2 y hy
  rw [this]
  simp [h1]
set_option maxRecDepth 20000 in
theorem Remove_no (p : Option Addr) (L : List QN) (task : Int) (w : World) (hQ : QP w p L) (hf : fnd L task = none) :
    Calls Tryz.prog 138 #[.pointer p, .int .i64 task] w fun e W' => e = .returned (.tuple #[zv, .bool false]) ∧ Below w.heap.size w W' := by
  obtain ⟨w1, hw1⟩ : ∃ w1, w.alloc (.cells #[.int .i64 0, .int .i64 0, .int .i64 0, .int .u32 0] 88) = w1 := ⟨_, rfl⟩
  have hz : w1.heap.size = w.heap.size + 1 := by rw [← hw1]; simp
  have hb1 : Below w.heap.size w w1 := by rw [← hw1]; exact (Below.refl _ _).alloc (Nat.le_refl _) _
  have HW := Lib.hid (And.intro hz hb1)
  have hn1 : w1.heap[w.heap.size]? = some (.cells #[.int .i64 0, .int .i64 0, .int .i64 0, .int .u32 0] 88 (0, 0)) := by rw [← hw1]; exact heap_new _ _
  have HN := Lib.hid hn1
  have hF := find_any p L task w1 (hQ.below (Nat.le_refl _) hb1)
  rw [hf] at hF
  have HF := Lib.hid hF
  clear hQ hz hb1 hn1 hF hf
  go_enter Tryz.func138, Tryz.ntmps138
  go_wp2_with fail
  refine HF.out.mono ?_
  rintro e w2 ⟨rfl, k2⟩
  have hb2 := HW.out.2.trans (k2.mono (by rw [HW.out.1]; omega))
  have hn2 := at_below k2 HN.out (by rw [HW.out.1]; omega)
  have c0 : w2.cell? ⟨w.heap.size, 0, none⟩ = some (.int .i64 0) := cell_of hn2 0
  have c1 : w2.cell? ⟨w.heap.size, 1, none⟩ = some (.int .i64 0) := cell_of hn2 1
  have c2 : w2.cell? ⟨w.heap.size, 2, none⟩ = some (.int .i64 0) := cell_of hn2 2
  have c3 : w2.cell? ⟨w.heap.size, 3, none⟩ = some (.int .u32 0) := cell_of hn2 3
  have f0 : w2.frozen? ⟨w.heap.size, 0, none⟩ = false := free_of hn2 0
  have f1 : w2.frozen? ⟨w.heap.size, 1, none⟩ = false := free_of hn2 1
  have f2 : w2.frozen? ⟨w.heap.size, 2, none⟩ = false := free_of hn2 2
  have f3 : w2.frozen? ⟨w.heap.size, 3, none⟩ = false := free_of hn2 3
  have l2 := lt_of hn2
  have HH := Lib.hid (And.intro hb2 hn2)
  clear k2 hb2 hn2
  simp only [ptrO, Option.map]
  go_wp2
  have h4 := set4 HH.out.2 (.int .i64 0) (.int .i64 0) (.int .i64 0) (.int .u32 0)
  have y0 := cell_of h4 0
  have y1 := cell_of h4 1
  have y2 := cell_of h4 2
  have y3 := cell_of h4 3
  refine bodyPost_ret (v := .tuple #[zv, .bool false]) ?_ rfl ⟨rfl, below4 HH.out.1 (Nat.le_refl _) _ _ _ _⟩
  simp [results, Tryz.results138, go_sem, y0, y1, y2, y3, zv]
/-- What a store into the ring leaves. -/
def RS (Q : Nat) (L : List QN) (k : Nat) : Prop := k = Q ∨ ∃ y, y ∈ L ∧ k = y.g
theorem bk_RS (Q : Nat) (L : List QN) (i : Nat) : RS Q L (bk Q L i) := by
  rcases bk_cases Q L i with h | ⟨j, x, _, hj, h⟩
  · exact .inl h
  · exact .inr ⟨x, List.mem_of_getElem? hj, h⟩
/-- A block of the ring, whatever it is: six cells. -/
theorem bk_block {w : World} {Q : Nat} {L : List QN} {h : Bool} (hq : IsQ w Q L h) (i : Nat) : ∃ a0 a1 a2 a3 a4 a5 T, w.heap[bk Q L i]? = some (.cells #[a0, a1, a2, a3, a4, a5] T (0, 0)) := by
  rcases bk_cases Q L i with h | ⟨j, x, _, hj, h⟩
  · exact ⟨_, _, _, _, _, _, _, by rw [h]; exact hq.head⟩
  · exact ⟨_, _, _, _, _, _, _, by rw [h]; exact hq.node j x hj⟩
set_option maxRecDepth 20000 in
set_option maxHeartbeats 2000000 in
theorem Remove_yes (Q : Nat) (A B : List QN) (x : QN) (h : Bool) (task : Int) (w : World) (hQ : IsQ w Q (A ++ x :: B) h) (hx : x.t = task) (hA : ∀ y, y ∈ A → y.t ≠ task) :
    Calls Tryz.prog 138 #[.pointer (some ⟨Q, 0, none⟩), .int .i64 task] w fun e W' => e = .returned (.tuple #[qv x, .bool true]) ∧ IsQ W' Q (A ++ B) true ∧ Keeps (RS Q (A ++ x :: B)) w W' := by
  obtain ⟨w1, hw1⟩ : ∃ w1, w.alloc (.cells #[.int .i64 0, .int .i64 0, .int .i64 0, .int .u32 0] 88) = w1 := ⟨_, rfl⟩
  have hz : w1.heap.size = w.heap.size + 1 := by rw [← hw1]; simp
  have hb1 : Below w.heap.size w w1 := by rw [← hw1]; exact (Below.refl _ _).alloc (Nat.le_refl _) _
  have HW := Lib.hid (And.intro hz hb1)
  have hn1 : w1.heap[w.heap.size]? = some (.cells #[.int .i64 0, .int .i64 0, .int .i64 0, .int .u32 0] 88 (0, 0)) := by rw [← hw1]; exact heap_new _ _
  have HN := Lib.hid hn1
  have hF := find_any (some ⟨Q, 0, none⟩) (A ++ x :: B) task w1 (QP.below (.inr ⟨Q, h, rfl, hQ⟩) (Nat.le_refl _) hb1)
  rw [fnd_of_split hx hA] at hF
  have HF := Lib.hid hF
  have HQ := Lib.hid hQ
  clear hQ hz hb1 hn1 hF hx hA
  go_enter Tryz.func138, Tryz.ntmps138
  go_wp2_with fail
  refine HF.out.mono ?_
  rintro e w2 ⟨rfl, k2⟩
  have hb2 := HW.out.2.trans (k2.mono (by rw [HW.out.1]; omega))
  have hn2 := at_below k2 HN.out (by rw [HW.out.1]; omega)
  have hI := HQ.out.below (Nat.le_refl _) hb2
  have hxi : (A ++ x :: B)[A.length]? = some x := by simp
  have hnd := hI.node A.length x hxi
  have e4 : w2.cell? ⟨x.g, 4, none⟩ = some (.pointer (some ⟨bk Q (A ++ x :: B) (A.length + 2), 0, none⟩)) := cell_of hnd 4
  have e5 : w2.cell? ⟨x.g, 5, none⟩ = some (.pointer (some ⟨bk Q (A ++ x :: B) A.length, 0, none⟩)) := cell_of hnd 5
  obtain ⟨a0, a1, a2, a3, a4, a5, T, hP⟩ := bk_block hI A.length
  obtain ⟨b0, b1, b2, b3, b4, b5, U, hN⟩ := bk_block hI (A.length + 2)
  have hxP : x.g ≠ bk Q (A ++ x :: B) A.length := node_blocks hI hxi (by omega)
  have hxN : x.g ≠ bk Q (A ++ x :: B) (A.length + 2) := node_blocks hI hxi (by omega)
  have hdrop := q_drop hI hxi
  rw [List.eraseIdx_append_of_length_le (Nat.le_refl _), Nat.sub_self, List.eraseIdx_cons_zero] at hdrop
  have hRP := bk_RS Q (A ++ x :: B) A.length
  have hRN := bk_RS Q (A ++ x :: B) (A.length + 2)
  generalize bk Q (A ++ x :: B) A.length = PP at *
  generalize bk Q (A ++ x :: B) (A.length + 2) = NN at *
  have p4 : w2.cell? ⟨PP, 4, none⟩ = some a4 := cell_of hP 4
  have pf : w2.frozen? ⟨PP, 4, none⟩ = false := free_of hP 4
  have n5 : w2.cell? ⟨NN, 5, none⟩ = some b5 := cell_of hN 5
  have nf : w2.frozen? ⟨NN, 5, none⟩ = false := free_of hN 5
  have lP := lt_of hP
  have lN := lt_of hN
  have lx := lt_of hnd
  have l2 := lt_of hn2
  have HH := Lib.hid (And.intro hb2 (And.intro hn2 (And.intro hnd (And.intro hdrop (And.intro hRP (And.intro hRN (And.intro hxP (And.intro hxN (And.intro hP hN)))))))))
  clear k2 hb2 hn2 hI hnd hdrop hRP hRN hP hN hxP hxN hxi
  simp only [ptrO, Option.map]
  go_wp2_with fail
  go_region
  obtain ⟨hb2, hn2, hnd, hdrop, hRP, hRN, hxP, hxN, hP, hN⟩ := HH.out
  have hne4 : w.heap.size ≠ PP := by intro e; rcases hRP with h1 | ⟨y, hy, h1⟩; (have := lt_of HQ.out.head; omega); (obtain ⟨i, hi⟩ := List.getElem?_of_mem hy; have := lt_of (HQ.out.node i y hi); omega)
  have hne5 : w.heap.size ≠ NN := by intro e; rcases hRN with h1 | ⟨y, hy, h1⟩; (have := lt_of HQ.out.head; omega); (obtain ⟨i, hi⟩ := List.getElem?_of_mem hy; have := lt_of (HQ.out.node i y hi); omega)
  obtain ⟨w3, hw3⟩ : ∃ w3, ((w2.setCell ⟨PP, 4, none⟩ (.pointer (some ⟨NN, 0, none⟩))).setCell ⟨NN, 5, none⟩ (.pointer (some ⟨PP, 0, none⟩))).drew = w3 := ⟨_, rfl⟩
  have hn3 : w3.heap[w.heap.size]? = some (.cells #[.int .i64 0, .int .i64 0, .int .i64 0, .int .u32 0] 88 (0, 0)) := by rw [← hw3]; exact heap_other (heap_other hn2 hne4 _) hne5 _
  have hx3 := heap_other (heap_other hnd (a := ⟨PP, 4, none⟩) hxP (.pointer (some ⟨NN, 0, none⟩))) (a := ⟨NN, 5, none⟩) hxN (.pointer (some ⟨PP, 0, none⟩))
  have hx3d := heap_drew hx3
  rw [hw3] at hx3d
  have hq3 : IsQ w3 Q (A ++ B) true := by rw [← hw3]; exact ⟨hdrop.head, hdrop.node, hdrop.inj, hdrop.ever⟩
  have k3 : Keeps (RS Q (A ++ x :: B)) w w3 := by
    rw [← hw3]
    exact ((((Keeps.refl (RS Q (A ++ x :: B)) w).trans ⟨hb2.os, hb2.tape, hb2.output, hb2.size, fun k hk _ => hb2.block k hk⟩).setCell (p := ⟨PP, 4, none⟩) (.inl hRP) _).setCell (p := ⟨NN, 5, none⟩) (.inl hRN) _).drew
  rw [hw3]
  have x0 : w3.cell? ⟨x.g, 0, none⟩ = some (.int .i64 x.t) := cell_of hx3d 0
  have x1 : w3.cell? ⟨x.g, 1, none⟩ = some (.int .i64 x.k) := cell_of hx3d 1
  have x2 : w3.cell? ⟨x.g, 2, none⟩ = some (.int .i64 x.o) := cell_of hx3d 2
  have x3 : w3.cell? ⟨x.g, 3, none⟩ = some (.int .u32 (x.m : Int)) := cell_of hx3d 3
  have xl := lt_of hx3d
  have c0 : w3.cell? ⟨w.heap.size, 0, none⟩ = some (.int .i64 0) := cell_of hn3 0
  have c1 : w3.cell? ⟨w.heap.size, 1, none⟩ = some (.int .i64 0) := cell_of hn3 1
  have c2 : w3.cell? ⟨w.heap.size, 2, none⟩ = some (.int .i64 0) := cell_of hn3 2
  have c3 : w3.cell? ⟨w.heap.size, 3, none⟩ = some (.int .u32 0) := cell_of hn3 3
  have f0 : w3.frozen? ⟨w.heap.size, 0, none⟩ = false := free_of hn3 0
  have f1 : w3.frozen? ⟨w.heap.size, 1, none⟩ = false := free_of hn3 1
  have f2 : w3.frozen? ⟨w.heap.size, 2, none⟩ = false := free_of hn3 2
  have f3 : w3.frozen? ⟨w.heap.size, 3, none⟩ = false := free_of hn3 3
  have l3 := lt_of hn3
  have HZ := Lib.hid (And.intro hq3 (And.intro k3 hn3))
  have HQl := lt_of HQ.out.head
  have hql : Q ≠ w.heap.size := by omega
  have hqn : ∀ (i : Nat) (y : QN), (A ++ B)[i]? = some y → y.g ≠ w.heap.size := by
    intro i y hy
    have : y ∈ A ++ x :: B := by
      have := List.mem_of_getElem? hy
      simp at this ⊢
      rcases this with h | h
      · exact .inl h
      · exact .inr (.inr h)
    obtain ⟨i, hi⟩ := List.getElem?_of_mem this
    have := lt_of (HQ.out.node i y hi)
    omega
  have HQ2 := Lib.hid (And.intro hql hqn)
  clear hw3 hn3 hx3 hx3d hq3 k3 hb2 hn2 hnd hdrop hRP hRN hxP hxN hP hN hne4 hne5 p4 pf n5 nf e4 e5 HH hql hqn
  go_wp2
  obtain ⟨hq3, k3, hn3⟩ := HZ.out
  have h4 := set4 hn3 (.int .i64 x.t) (.int .i64 x.k) (.int .i64 x.o) (.int .u32 (x.m : Int))
  have y0 := cell_of h4 0
  have y1 := cell_of h4 1
  have y2 := cell_of h4 2
  have y3 := cell_of h4 3
  refine bodyPost_ret (v := .tuple #[qv x, .bool true]) ?_ rfl ⟨rfl, ?_, ?_⟩
  · simp [results, Tryz.results138, go_sem, y0, y1, y2, y3, qv]
  · exact hq3.keeps (S := fun k => k = w.heap.size) (((((Keeps.refl (fun k => k = w.heap.size) w3).setCell (p := ⟨w.heap.size, 0, none⟩) (.inl rfl) _).setCell (p := ⟨w.heap.size, 1, none⟩) (.inl rfl) _).setCell (p := ⟨w.heap.size, 2, none⟩) (.inl rfl) _).setCell (p := ⟨w.heap.size, 3, none⟩) (.inl rfl) _) HQ2.out.1 HQ2.out.2
  · exact (((k3.setCell (p := ⟨w.heap.size, 0, none⟩) (.inr (Nat.le_refl _)) _).setCell (p := ⟨w.heap.size, 1, none⟩) (.inr (Nat.le_refl _)) _).setCell (p := ⟨w.heap.size, 2, none⟩) (.inr (Nat.le_refl _)) _).setCell (p := ⟨w.heap.size, 3, none⟩) (.inr (Nat.le_refl _)) _
end Go.Proofs.YthnmlklgbggmbaaGreat
namespace Go.Proofs.YthnmlklgbggmbaaGreat
open Go.ChangeShapes Go.WideShapes Go.ChangeAt Go.RowKit
set_option linter.unusedVariables false
def av (t k o : Int) (m : Nat) : Value := .agg #[.int .i64 t, .int .i64 k, .int .i64 o, .int .u32 (m : Int)]
set_option maxRecDepth 20000 in
theorem Add_nil (t k o : Int) (m : Nat) (w : World) :
    Calls Tryz.prog 79 #[.pointer none, av t k o m] w fun e W' => e = .returned (.bool false) ∧ Below w.heap.size w W' := by
  unfold av
  go_enter Tryz.func79, Tryz.ntmps79
  go_wp2
  go_ret
  exact ⟨rfl, (Below.refl _ _).alloc (Nat.le_refl _) _⟩
set_option maxRecDepth 20000 in
theorem Add_bad (Q : Nat) (t k o : Int) (m : Nat) (w : World) (ht : t < 0 ∨ 16 ≤ t) :
    Calls Tryz.prog 79 #[.pointer (some ⟨Q, 0, none⟩), av t k o m] w fun e W' => e = .returned (.bool false) ∧ Below w.heap.size w W' := by
  unfold av
  by_cases h0 : t < 0
  · have d0 : decide (t < 0) = true := decide_eq_true h0
    clear ht
    go_enter Tryz.func79, Tryz.ntmps79
    go_wp2
    go_ret
    exact ⟨rfl, (Below.refl _ _).alloc (Nat.le_refl _) _⟩
  · have d0 : decide (t < 0) = false := decide_eq_false h0
    have d1 : decide (16 ≤ t) = true := decide_eq_true (by omega)
    have d2 : decide (t ≥ 16) = true := decide_eq_true (by omega)
    clear ht
    go_enter Tryz.func79, Tryz.ntmps79
    go_wp2
    go_ret
    exact ⟨rfl, (Below.refl _ _).alloc (Nat.le_refl _) _⟩
set_option maxRecDepth 20000 in
theorem Add_twice (Q : Nat) (L : List QN) (h : Bool) (t k o : Int) (m : Nat) (w : World) (hQ : IsQ w Q L h) (ht : 0 ≤ t ∧ t < 16) (y : QN) (hf : fnd L t = some y) :
    Calls Tryz.prog 79 #[.pointer (some ⟨Q, 0, none⟩), av t k o m] w fun e W' => e = .returned (.bool false) ∧ Below w.heap.size w W' := by
  unfold av
  obtain ⟨w1, hw1⟩ : ∃ w1, w.alloc (.cells #[.int .i64 t, .int .i64 k, .int .i64 o, .int .u32 (m : Int)] 88) = w1 := ⟨_, rfl⟩
  have hz : w1.heap.size = w.heap.size + 1 := by rw [← hw1]; simp
  have hb1 : Below w.heap.size w w1 := by rw [← hw1]; exact (Below.refl _ _).alloc (Nat.le_refl _) _
  have HW := Lib.hid (And.intro hz hb1)
  have hn1 : w1.heap[w.heap.size]? = some (.cells #[.int .i64 t, .int .i64 k, .int .i64 o, .int .u32 (m : Int)] 88 (0, 0)) := by rw [← hw1]; exact heap_new _ _
  have c0 : w1.cell? ⟨w.heap.size, 0, none⟩ = some (.int .i64 t) := cell_of hn1 0
  have l1 := lt_of hn1
  have d0 : decide (t < 0) = false := decide_eq_false (by omega)
  have d1 : decide (16 ≤ t) = false := decide_eq_false (by omega)
  have d2 : decide (t ≥ 16) = false := decide_eq_false (by omega)
  have hF := find_any (some ⟨Q, 0, none⟩) L t w1 (QP.below (.inr ⟨Q, h, rfl, hQ⟩) (Nat.le_refl _) hb1)
  rw [hf] at hF
  have HF := Lib.hid hF
  clear hQ hz hb1 hn1 hF hf ht
  go_enter Tryz.func79, Tryz.ntmps79
  go_wp2_with fail
  refine HF.out.mono ?_
  rintro e w2 ⟨rfl, k2⟩
  have HB := Lib.hid (HW.out.2.trans (k2.mono (by rw [HW.out.1]; omega)))
  clear k2
  simp only [ptrO, Option.map]
  go_wp2
  go_ret
  exact ⟨rfl, HB.out⟩
set_option maxRecDepth 20000 in
set_option maxHeartbeats 2000000 in
theorem Add_yes (Q : Nat) (L : List QN) (h : Bool) (t k o : Int) (m : Nat) (w : World) (hQ : IsQ w Q L h) (ht : 0 ≤ t ∧ t < 16) (hf : fnd L t = none) :
    Calls Tryz.prog 79 #[.pointer (some ⟨Q, 0, none⟩), av t k o m] w fun e W' => e = .returned (.bool true) ∧ ∃ g, w.heap.size ≤ g ∧ IsQ W' Q (L ++ [⟨g, t, k, o, m⟩]) true ∧ Keeps (RS Q L) w W' := by
  unfold av
  obtain ⟨w1, hw1⟩ : ∃ w1, w.alloc (.cells #[.int .i64 t, .int .i64 k, .int .i64 o, .int .u32 (m : Int)] 88) = w1 := ⟨_, rfl⟩
  have hz : w1.heap.size = w.heap.size + 1 := by rw [← hw1]; simp
  have hb1 : Below w.heap.size w w1 := by rw [← hw1]; exact (Below.refl _ _).alloc (Nat.le_refl _) _
  have HW := Lib.hid (And.intro hz hb1)
  have hn1 : w1.heap[w.heap.size]? = some (.cells #[.int .i64 t, .int .i64 k, .int .i64 o, .int .u32 (m : Int)] 88 (0, 0)) := by rw [← hw1]; exact heap_new _ _
  have HN := Lib.hid hn1
  have c0 : w1.cell? ⟨w.heap.size, 0, none⟩ = some (.int .i64 t) := cell_of hn1 0
  have l1 := lt_of hn1
  have d0 : decide (t < 0) = false := decide_eq_false (by omega)
  have d1 : decide (16 ≤ t) = false := decide_eq_false (by omega)
  have d2 : decide (t ≥ 16) = false := decide_eq_false (by omega)
  have hF := find_any (some ⟨Q, 0, none⟩) L t w1 (QP.below (.inr ⟨Q, h, rfl, hQ⟩) (Nat.le_refl _) hb1)
  rw [hf] at hF
  have HF := Lib.hid hF
  have HQ := Lib.hid hQ
  clear hQ hz hb1 hn1 hF hf ht
  go_enter Tryz.func79, Tryz.ntmps79
  go_wp2_with fail
  refine HF.out.mono ?_
  rintro e w2 ⟨rfl, k2⟩
  have hb2 := HW.out.2.trans (k2.mono (by rw [HW.out.1]; omega))
  have hn2 := at_below k2 HN.out (by rw [HW.out.1]; omega)
  have hI := HQ.out.below (Nat.le_refl _) hb2
  have q4 : w2.cell? ⟨Q, 4, none⟩ = some (.pointer (nx Q L h 1)) := cell_of hI.head 4
  have q5 : w2.cell? ⟨Q, 5, none⟩ = some (.pointer (nx Q L h L.length)) := cell_of hI.head 5
  have qf4 : w2.frozen? ⟨Q, 4, none⟩ = false := free_of hI.head 4
  have qf5 : w2.frozen? ⟨Q, 5, none⟩ = false := free_of hI.head 5
  have lQ := lt_of hI.head
  have x0 : w2.cell? ⟨w.heap.size, 0, none⟩ = some (.int .i64 t) := cell_of hn2 0
  have x1 : w2.cell? ⟨w.heap.size, 1, none⟩ = some (.int .i64 k) := cell_of hn2 1
  have x2 : w2.cell? ⟨w.heap.size, 2, none⟩ = some (.int .i64 o) := cell_of hn2 2
  have x3 : w2.cell? ⟨w.heap.size, 3, none⟩ = some (.int .u32 (m : Int)) := cell_of hn2 3
  have l2 := lt_of hn2
  have HH := Lib.hid (And.intro hb2 (And.intro hn2 hI))
  clear k2 hb2 hn2 hI c0 l1
  simp only [ptrO, Option.map]
  cases h with
  | false =>
    have hL0 : L = [] := HQ.out.ever rfl
    have HL0 := Lib.hid hL0
    clear hL0
    simp only [nx] at q4 q5
    go_wp2_with fail
    go_region
    all_goals
      obtain ⟨hb2, hn2, hI⟩ := HH.out
      obtain ⟨w3, hw3⟩ : ∃ w3, ((w2.setCell ⟨Q, 4, none⟩ (.pointer (some ⟨Q, 0, none⟩))).setCell ⟨Q, 5, none⟩ (.pointer (some ⟨Q, 0, none⟩))).drew = w3 := ⟨_, rfl⟩
      have hqs := q_first (by rw [HL0.out] at hI; exact hI)
      have hI3 : IsQ w3 Q L true := by rw [← hw3, HL0.out]; exact ⟨hqs.head, hqs.node, hqs.inj, hqs.ever⟩
      have hne : w.heap.size ≠ Q := by have := lt_of HQ.out.head; omega
      have hn3 : w3.heap[w.heap.size]? = some (.cells #[.int .i64 t, .int .i64 k, .int .i64 o, .int .u32 (m : Int)] 88 (0, 0)) := by rw [← hw3]; exact heap_other (heap_other hn2 hne _) hne _
      have hk3 : Keeps (RS Q L) w w3 := by
        rw [← hw3]
        exact ((((Keeps.refl (RS Q L) w).trans ⟨hb2.os, hb2.tape, hb2.output, hb2.size, fun k hk _ => hb2.block k hk⟩).setCell (p := ⟨Q, 4, none⟩) (.inl (.inl rfl)) _).setCell (p := ⟨Q, 5, none⟩) (.inl (.inl rfl)) _).drew
      rw [hw3]
      clear hw3 hqs hne hb2 hn2 hI q4 q5 qf4 qf5 x0 x1 x2 x3 HH l2
      have hxb3 : bk Q L L.length = bk Q L L.length := rfl
      obtain ⟨a0, a1, a2, a3, a4, a5, T, hP⟩ := bk_block hI3 L.length
      have hRP := bk_RS Q L L.length
      have HPU := Lib.hid (fun nd => q_push_at (W := (w3.alloc (.cells #[.int .i64 t, .int .i64 k, .int .i64 o, .int .u32 (m : Int), .pointer (some ⟨Q, 0, none⟩), .pointer (some ⟨bk Q L L.length, 0, none⟩)] 160)).drew) hI3 nd)
      have r5 : w3.cell? ⟨Q, 5, none⟩ = some (.pointer (some ⟨bk Q L L.length, 0, none⟩)) := cell_of hI3.head 5
      have lP := lt_of hP
      have hlw : w.heap.size ≤ w3.heap.size := hk3.size
      generalize bk Q L L.length = PP at *
      have lQ3 := lt_of hI3.head
      have z0 : w3.cell? ⟨w.heap.size, 0, none⟩ = some (.int .i64 t) := cell_of hn3 0
      have z1 : w3.cell? ⟨w.heap.size, 1, none⟩ = some (.int .i64 k) := cell_of hn3 1
      have z2 : w3.cell? ⟨w.heap.size, 2, none⟩ = some (.int .i64 o) := cell_of hn3 2
      have z3 : w3.cell? ⟨w.heap.size, 3, none⟩ = some (.int .u32 (m : Int)) := cell_of hn3 3
      have l3 := lt_of hn3
      have HC := Lib.hid (And.intro hI3 (And.intro hk3 (And.intro hP (And.intro hRP hlw))))
      clear hI3 hk3 hn3 hP hRP hlw hxb3
      go_wp2_with fail
      go_region
      all_goals
        obtain ⟨hI3, hk3, hP, hRP, hlw⟩ := HC.out
        obtain ⟨w4, hw4⟩ : ∃ w4, (w3.alloc (.cells #[.int .i64 t, .int .i64 k, .int .i64 o, .int .u32 (m : Int), .pointer (some ⟨Q, 0, none⟩), .pointer (some ⟨PP, 0, none⟩)] 160)).drew = w4 := ⟨_, rfl⟩
        have hP4 : w4.heap[PP]? = some (.cells #[a0, a1, a2, a3, a4, a5] T (0, 0)) := by rw [← hw4]; exact heap_old hP _
        have hQ4 := at_below (show Below w3.heap.size w3 w4 by rw [← hw4]; exact ((Below.refl _ _).alloc (Nat.le_refl _) _).drew) hI3.head (lt_of hI3.head)
        have hN4 : w4.heap[w3.heap.size]? = some (.cells #[.int .i64 t, .int .i64 k, .int .i64 o, .int .u32 (m : Int), .pointer (some ⟨Q, 0, none⟩), .pointer (some ⟨PP, 0, none⟩)] 160 (0, 0)) := by rw [← hw4]; exact heap_new _ _
        have hk4 : Keeps (RS Q L) w w4 := by rw [← hw4]; exact (hk3.alloc _).drew
        have hpush := HPU.out ⟨w3.heap.size, t, k, o, m⟩ (fun b x hx => heap_old hx _) rfl (heap_new _ _)
        rw [hw4] at hpush
        rw [hw4]
        have v4 : w4.cell? ⟨PP, 4, none⟩ = some a4 := cell_of hP4 4
        have vf4 : w4.frozen? ⟨PP, 4, none⟩ = false := free_of hP4 4
        have lP4 := lt_of hP4
        have v5 : w4.cell? ⟨Q, 5, none⟩ = some (.pointer (some ⟨PP, 0, none⟩)) := by rw [cell_of hQ4 5]; have := cell_of hI3.head 5; rw [r5] at this; exact this.symm
        have vf5 : w4.frozen? ⟨Q, 5, none⟩ = false := free_of hQ4 5
        have lQ4 := lt_of hQ4
        have HE := Lib.hid (And.intro hpush (And.intro hk4 (And.intro hRP hlw)))
        clear hw4 hP4 hQ4 hN4 hk4 hpush hI3 hk3 hP hRP hlw HPU r5
        go_wp2
        obtain ⟨hpush, hk4, hRP, hlw⟩ := HE.out
        go_ret
        exact ⟨rfl, _, hlw, hpush, (hk4.setCell (p := ⟨PP, 4, none⟩) (.inl hRP) _).setCell (p := ⟨Q, 5, none⟩) (.inl (.inl rfl)) _⟩
  | true =>
    simp only [nx, if_true] at q4 q5
    have hI3 := HH.out.2.2
    have hn3 := HH.out.2.1
    have hb2 := HH.out.1
    have hk3 : Keeps (RS Q L) w w2 := (Keeps.refl (RS Q L) w).trans ⟨hb2.os, hb2.tape, hb2.output, hb2.size, fun k hk _ => hb2.block k hk⟩
    go_wp2_with fail
    clear q4 q5 x0 x1 x2 x3 HH l2 hb2
    have hxb3 : bk Q L L.length = bk Q L L.length := rfl
    obtain ⟨a0, a1, a2, a3, a4, a5, T, hP⟩ := bk_block hI3 L.length
    have hRP := bk_RS Q L L.length
    have HPU := Lib.hid (fun nd => q_push_at (W := (w2.alloc (.cells #[.int .i64 t, .int .i64 k, .int .i64 o, .int .u32 (m : Int), .pointer (some ⟨Q, 0, none⟩), .pointer (some ⟨bk Q L L.length, 0, none⟩)] 160)).drew) hI3 nd)
    have r5 : w2.cell? ⟨Q, 5, none⟩ = some (.pointer (some ⟨bk Q L L.length, 0, none⟩)) := cell_of hI3.head 5
    have lP := lt_of hP
    have hlw : w.heap.size ≤ w2.heap.size := hk3.size
    generalize bk Q L L.length = PP at *
    have lQ3 := lt_of hI3.head
    have z0 : w2.cell? ⟨w.heap.size, 0, none⟩ = some (.int .i64 t) := cell_of hn3 0
    have z1 : w2.cell? ⟨w.heap.size, 1, none⟩ = some (.int .i64 k) := cell_of hn3 1
    have z2 : w2.cell? ⟨w.heap.size, 2, none⟩ = some (.int .i64 o) := cell_of hn3 2
    have z3 : w2.cell? ⟨w.heap.size, 3, none⟩ = some (.int .u32 (m : Int)) := cell_of hn3 3
    have l3 := lt_of hn3
    have HC := Lib.hid (And.intro hI3 (And.intro hk3 (And.intro hP (And.intro hRP hlw))))
    clear hI3 hk3 hn3 hP hRP hlw hxb3
    go_region
    all_goals
      obtain ⟨hI3, hk3, hP, hRP, hlw⟩ := HC.out
      obtain ⟨w4, hw4⟩ : ∃ w4, (w2.alloc (.cells #[.int .i64 t, .int .i64 k, .int .i64 o, .int .u32 (m : Int), .pointer (some ⟨Q, 0, none⟩), .pointer (some ⟨PP, 0, none⟩)] 160)).drew = w4 := ⟨_, rfl⟩
      have hP4 : w4.heap[PP]? = some (.cells #[a0, a1, a2, a3, a4, a5] T (0, 0)) := by rw [← hw4]; exact heap_old hP _
      have hQ4 := at_below (show Below w2.heap.size w2 w4 by rw [← hw4]; exact ((Below.refl _ _).alloc (Nat.le_refl _) _).drew) hI3.head (lt_of hI3.head)
      have hN4 : w4.heap[w2.heap.size]? = some (.cells #[.int .i64 t, .int .i64 k, .int .i64 o, .int .u32 (m : Int), .pointer (some ⟨Q, 0, none⟩), .pointer (some ⟨PP, 0, none⟩)] 160 (0, 0)) := by rw [← hw4]; exact heap_new _ _
      have hk4 : Keeps (RS Q L) w w4 := by rw [← hw4]; exact (hk3.alloc _).drew
      have hpush := HPU.out ⟨w2.heap.size, t, k, o, m⟩ (fun b x hx => heap_old hx _) rfl (heap_new _ _)
      rw [hw4] at hpush
      rw [hw4]
      have v4 : w4.cell? ⟨PP, 4, none⟩ = some a4 := cell_of hP4 4
      have vf4 : w4.frozen? ⟨PP, 4, none⟩ = false := free_of hP4 4
      have lP4 := lt_of hP4
      have v5 : w4.cell? ⟨Q, 5, none⟩ = some (.pointer (some ⟨PP, 0, none⟩)) := by rw [cell_of hQ4 5]; have := cell_of hI3.head 5; rw [r5] at this; exact this.symm
      have vf5 : w4.frozen? ⟨Q, 5, none⟩ = false := free_of hQ4 5
      have lQ4 := lt_of hQ4
      have HE := Lib.hid (And.intro hpush (And.intro hk4 (And.intro hRP hlw)))
      clear hw4 hP4 hQ4 hN4 hk4 hpush hI3 hk3 hP hRP hlw HPU r5
      go_wp2
      obtain ⟨hpush, hk4, hRP, hlw⟩ := HE.out
      go_ret
      exact ⟨rfl, _, hlw, hpush, (hk4.setCell (p := ⟨PP, 4, none⟩) (.inl hRP) _).setCell (p := ⟨Q, 5, none⟩) (.inl (.inl rfl)) _⟩
end Go.Proofs.YthnmlklgbggmbaaGreat
namespace Go.Proofs.YthnmlklgbggmbaaGreat
open Go.RowKit Go.Shelf
set_option linter.unusedVariables false
attribute [local go_sem] Oper.semAt_some
theorem owns_slice {w : World} {B : Nat} {E : TypeId} {s : Nat} {v : Value} {n : Nat} {xs : List Value} (h : w.ownsRow B E s v n xs) : ∃ a c, v = .slice a n c := by
  obtain ⟨_, h | ⟨g, cap, cur, rfl, _⟩⟩ := h
  · exact ⟨none, 0, by rw [h.1, h.2]⟩
  · exact ⟨_, cap, rfl⟩
set_option maxRecDepth 20000 in
theorem Copy_nil (w : World) :
    Calls Tryz.prog 37 #[.pointer none] w fun e W' => e = .returned (.pointer none) ∧ Below w.heap.size w W' := by
  go_enter Tryz.func37, Tryz.ntmps37
  go_wp2
  go_ret
  exact ⟨rfl, Below.refl _ _⟩
/-- A wait joins a list of waits, unless its task has one. -/
def joinW (M : List (Int × Int × Int × Nat)) (v : Int × Int × Int × Nat) : List (Int × Int × Int × Nat) := if M.any (fun u => u.1 == v.1) then M else M ++ [v]
def joinAll (M : List (Int × Int × Int × Nat)) : List (Int × Int × Int × Nat) := M.foldl joinW []
theorem joinAll_snoc (M : List (Int × Int × Int × Nat)) (v : Int × Int × Int × Nat) : joinAll (M ++ [v]) = joinW (joinAll M) v := by simp [joinAll]
theorem fnd_isSome (M : List QN) (t : Int) : (fnd M t).isSome = (M.map QN.wait).any (fun u => u.1 == t) := by
  rw [Bool.eq_iff_iff, fnd, List.find?_isSome, List.any_map]
  simp [QN.wait]
/-- A copy under way. -/
structure CopyAt (w W : World) (C : Nat) (M : List (Int × Int × Int × Nat)) : Prop where
  ring : ∃ N h, IsQ W C N h ∧ N.map QN.wait = M ∧ ∀ x, x ∈ N → w.heap.size ≤ x.g
  low : w.heap.size ≤ C
theorem RS_cells {W : World} {Q : Nat} {L : List QN} {h : Bool} (hq : IsQ W Q L h) {k : Nat} (hk : RS Q L k) : ∃ cs, W.heap[k]? = some (.cells cs 162 (0, 0)) ∨ W.heap[k]? = some (.cells cs 160 (0, 0)) := by
  rcases hk with rfl | ⟨y, hy, rfl⟩
  · exact ⟨_, .inl hq.head⟩
  · obtain ⟨i, hi⟩ := List.getElem?_of_mem hy
    exact ⟨_, .inr (hq.node i y hi)⟩
theorem CopyAt.drew {w W : World} {C : Nat} {M : List (Int × Int × Int × Nat)} (h : CopyAt w W C M) : CopyAt w W.drew C M := by
  obtain ⟨⟨N, h, hq, hN, hlow⟩, hC⟩ := h
  exact ⟨⟨N, h, ⟨hq.head, hq.node, hq.inj, hq.ever⟩, hN, hlow⟩, hC⟩
theorem copyAt_own {β : Type} (w : World) (C : Nat) (f : β → List (Int × Int × Int × Nat)) : Own (fun s W => CopyAt w W C (f s)) := fun s X Y row hs hg hrow => by
  obtain ⟨⟨N, h, hq, hN, hlow⟩, hC⟩ := hs
  refine ⟨⟨N, h, ⟨?_, fun i x hi => ?_, hq.inj, hq.ever⟩, hN, hlow⟩, hC⟩
  · exact cells_own (β := Unit) _ _ _ () X Y row hq.head hg hrow
  · exact cells_own (β := Unit) _ _ _ () X Y row (hq.node i x hi) hg hrow
theorem copy_add (w W : World) (C : Nat) (M : List (Int × Int × Int × Nat)) (t k o : Int) (m : Nat) (h : CopyAt w W C M) (hb : Below w.heap.size w W) (ht : 0 ≤ t ∧ t < 16) :
    Calls Tryz.prog 79 #[.pointer (some ⟨C, 0, none⟩), av t k o m] W fun e W' => e = .returned (.bool (!(M.any (fun u => u.1 == t)))) ∧ CopyAt w W' C (joinW M (t, k, o, m)) ∧ Below w.heap.size W W' ∧ KeepsOthers W W' ∧ ∀ (B : Nat) (T : TypeId) (v : Value), T ≠ 162 → T ≠ 160 → Boxed W B T v → Boxed W' B T v := by
  obtain ⟨⟨N, h, hq, hN, hlow⟩, hC⟩ := h
  have hany := fnd_isSome N t
  rw [hN] at hany
  cases hf : fnd N t with
  | some y =>
    rw [hf] at hany
    refine (Add_twice C N h t k o m W hq ht y hf).mono ?_
    rintro e W' ⟨rfl, hk⟩
    refine ⟨by rw [← hany]; rfl, ⟨⟨N, h, hq.below (Nat.le_refl _) hk, ?_, hlow⟩, hC⟩, hk.mono hb.size, ⟨hk.size, fun j o hj _ => at_below hk hj (lt_of hj)⟩, fun B T v _ _ hv => at_below hk hv hv.lt⟩
    rw [hN, joinW, ← hany]; rfl
  | none =>
    rw [hf] at hany
    refine (Add_yes C N h t k o m W hq ht hf).mono ?_
    rintro e W' ⟨rfl, g, hg, hq', hk⟩
    refine ⟨by rw [← hany]; rfl, ⟨⟨_, true, hq', ?_, ?_⟩, hC⟩, ?_, ⟨hk.size, fun j o hj ho => ?_⟩, fun B T v h1 h2 hv => ?_⟩
    · rw [List.map_append, hN, joinW, ← hany]; rfl
    · intro x hx
      rcases List.mem_append.1 hx with h1 | h1
      · exact hlow x h1
      · simp at h1; subst h1; exact Nat.le_trans hb.size hg
    · refine hk.below hb.size fun j hj hs => ?_
      rcases hs with rfl | ⟨y, hy, rfl⟩
      · exact hC
      · exact hlow y hy
    · refine hk.at hj fun hs => ?_
      obtain ⟨cs, h1 | h1⟩ := RS_cells hq hs
      · rw [hj] at h1; cases h1; cases ho
      · rw [hj] at h1; cases h1; cases ho
    · refine hk.at hv fun hs => ?_
      obtain ⟨cs, h3 | h3⟩ := RS_cells hq hs
      · rw [show W.heap[B]? = _ from hv] at h3; injection h3 with h3; injection h3 with _ h3 _; exact h1 h3
      · rw [show W.heap[B]? = _ from hv] at h3; injection h3 with h3; injection h3 with _ h3 _; exact h2 h3
set_option maxRecDepth 100000 in
set_option maxHeartbeats 2000000 in
theorem Copy_any (Q : Nat) (L : List QN) (h : Bool) (w : World) (hq : IsQ w Q L h) (hr : ∀ x, x ∈ L → 0 ≤ x.t ∧ x.t < 16) :
    Calls Tryz.prog 37 #[.pointer (some ⟨Q, 0, none⟩)] w fun e W' => e = .returned (.pointer (some ⟨w.heap.size, 0, none⟩)) ∧ CopyAt w W' w.heap.size (joinAll (L.map QN.wait)) ∧ Below w.heap.size w W' := by
  have hQ : QP w (some ⟨Q, 0, none⟩) L := .inr ⟨Q, h, rfl, hq⟩
  have hf1 : Fence.wide.fn 78 := trivial
  refine (callsIn_wide (n := 9)).1 ?_
  refine callsIn_of_wp_marks Tryz.func37 rfl trivial ?_ rfl
  simp only [Tryz.ntmps37, List.size_toArray, List.length_cons, List.length_nil, Nat.reduceAdd, Nat.reduceSub, Array.replicate_succ, Array.replicate_zero, List.push_toArray, List.append_toArray, List.nil_append, List.cons_append]
  gi_wp2_with (gi_at_call 78; refine (links_in _ _ _).mono ?_; rintro e w' ⟨rfl, rfl⟩)
  obtain ⟨w3, hw3⟩ : ∃ w3, (((w.alloc (.cells #[.int .i64 0, .int .i64 0, .int .i64 0, .int .u32 0, .pointer none, .pointer none] 162)).alloc (.cells #[.pointer (some ⟨w.heap.size, 0, none⟩)] 96)).alloc (.cells #[.pointer (some ⟨Q, 0, none⟩)] 96)) = w3 := ⟨_, rfl⟩
  have hs3 : w3.heap.size = w.heap.size + 3 := by rw [← hw3]; simp
  have hb3 : Below w.heap.size w w3 := by rw [← hw3]; exact (((Below.refl _ _).alloc (Nat.le_refl _) _).alloc (by simp) _).alloc (by simp; omega) _
  have hc3 : CopyAt w w3 w.heap.size [] := by
    rw [← hw3]
    exact ⟨⟨[], false, ⟨heap_old (heap_old (heap_new _ _) _) _, fun i x hi => by simp at hi, fun i j a b hi => by simp at hi, fun _ => rfl⟩, rfl, fun x hx => by cases hx⟩, Nat.le_refl _⟩
  have hp3 : Boxed w3 (w.heap.size + 1) 96 (.pointer (some ⟨w.heap.size, 0, none⟩)) := by
    rw [← hw3]
    have := (Boxed.new (w.alloc (.cells #[.int .i64 0, .int .i64 0, .int .i64 0, .int .u32 0, .pointer none, .pointer none] 162)) 96 (.pointer (some ⟨w.heap.size, 0, none⟩))).alloc (.cells #[.pointer (some ⟨Q, 0, none⟩)] 96)
    simpa using this
  have hq3 : Boxed w3 (w.heap.size + 1 + 1) 96 (.pointer (some ⟨Q, 0, none⟩)) := by
    rw [← hw3]
    have := Boxed.new ((w.alloc (.cells #[.int .i64 0, .int .i64 0, .int .i64 0, .int .u32 0, .pointer none, .pointer none] 162)).alloc (.cells #[.pointer (some ⟨w.heap.size, 0, none⟩)] 96)) 96 (.pointer (some ⟨Q, 0, none⟩))
    simpa using this
  rw [hw3]
  clear hw3
  refine wpIn_rangeFunc_ownG (n := 9) (F := Fence.wide) rfl (by decide) (gf := 128) (lb := #[.pointer (some ⟨w.heap.size + 1 + 1, 0, none⟩)]) rfl trivial (enters_of Tryz.func128 (by kernel_rfl) rfl)
    (links_stops (9 - 1) (by decide) (w.heap.size + 1 + 1) w.heap.size w _ (Nat.le_refl _) hb3.size _ L hQ hb3 hq3) KQ.t (KQ.b hb3.size) (Below.refl _ _) (fun _ => rfl)
    (fun pre W => (CopyAt w W w.heap.size (joinAll ((pre.map (fun x => x.1)).map QN.wait)) ∧ Boxed W (w.heap.size + 1) 96 (.pointer (some ⟨w.heap.size, 0, none⟩))) ∧ Below w.heap.size w W)
    (fun _ _ _ => False)
    (OwnFrom.and (OwnFrom.and (Own.from (copyAt_own _ _ _) _) (Own.from (boxed_own _ _ _) _)) (ownFrom_below (Nat.le_refl _) hb3.size))
    (fun _ _ _ _ _ hs _ _ => hs)
    ⟨⟨hc3, hp3⟩, hb3⟩
    (fun x => { tmps := #[.pointer (some ⟨Q, 0, none⟩), undef, .pointer none, .pointer (some ⟨w.heap.size + 1, 0, none⟩), .pointer (some ⟨x.1.g, 0, none⟩), .pointer (some ⟨Q, 0, none⟩), .bool false, .agg #[.int .i64 0, .int .i64 0, .int .i64 0, .int .u32 0, .pointer none, .pointer none], .pointer (some ⟨w.heap.size, 0, none⟩), .pointer (some ⟨Q, 0, none⟩), .func (.func 128) #[] #[.pointer (some ⟨w.heap.size + 1 + 1, 0, none⟩)], .pointer (some ⟨x.1.g, 0, none⟩), undef, undef, undef, undef, undef, undef, undef], defers := [] }) ?assign ?body ?done ?stop
  case assign =>
    intro l x W K hK
    gi_wp2
    exact hK
  case body =>
    rintro l pre x W ⟨⟨hc, hp⟩, hB⟩ hpl
    obtain ⟨nn, pp, hnd⟩ := (hQ.below (Nat.le_refl _) hB).node x.2
    have x0 : W.cell? ⟨x.1.g, 0, none⟩ = some (.int .i64 x.1.t) := cell_of hnd 0
    have x1 : W.cell? ⟨x.1.g, 1, none⟩ = some (.int .i64 x.1.k) := cell_of hnd 1
    have x2 : W.cell? ⟨x.1.g, 2, none⟩ = some (.int .i64 x.1.o) := cell_of hnd 2
    have x3 : W.cell? ⟨x.1.g, 3, none⟩ = some (.int .u32 (x.1.m : Int)) := cell_of hnd 3
    have lx := lt_of hnd
    have p0 := hp.cell
    have lp := hp.lt
    have hf9 : Fence.wide.fn 79 := trivial
    have hmx : Tryz.prog.follows .mixedOrders = true := by kernel_rfl
    have HA := Lib.hid (copy_add w W.drew w.heap.size _ x.1.t x.1.k x.1.o x.1.m hc.drew hB.drew (hr x.1 x.2))
    have HB := Lib.hid (And.intro hc (And.intro hp hB))
    unfold av at HA
    clear hc hp hB hnd hpl
    gi_wp2
    gi_region_with_o (gi_at_call 79; refine (CallsIn.inRound l (callsIn_wide.2 HA.out)).mono ?_; rintro e w' ⟨rfl, hy⟩; have HY := Lib.hid hy; clear hy)
    all_goals gi_wp2
    all_goals
      obtain ⟨hc, hp, hB⟩ := HB.out
      obtain ⟨h1, h2, h3, h4⟩ := HY.out
      exact ⟨((KeepsOthers.drew _).trans h3).from _, ⟨(Below.refl _ _).drew.trans h2, fun v hv => h4 _ _ v (by decide) (by decide) hv⟩, ⟨by rw [List.map_append, List.map_append]; show CopyAt _ _ _ (joinAll (_ ++ [x.1.wait])); rw [joinAll_snoc]; exact h1, h4 _ _ _ (by decide) (by decide) hp⟩, hB.drew.trans h2⟩
  case done =>
    rintro D ys W hD rfl ⟨⟨hc, hp⟩, hB⟩ hK
    have p0 := hp.cell
    rw [map_attach] at hc
    have HC := Lib.hid hc
    clear hc
    gi_wp2
    refine ⟨by simp, .inl ⟨_, _, rfl, run_takeDeferred hK, ?_⟩⟩
    exact ⟨_, results_tmp rfl _ _ _, rfl, copyAt_own (β := Unit) w w.heap.size (fun _ => joinAll (L.map QN.wait)) () _ _ _ HC.out (grownBy_putObj' W D (.deferred none)) (fun r e => by cases e; exact ⟨_, hK, rfl⟩), hB.trans (belowK_b (w := w) (Nat.le_refl _) W D _ _ (by have := hb3.size; omega) hK rfl rfl)⟩
  case stop =>
    rintro D c pre W _ _ h _
    exact h.elim
end Go.Proofs.YthnmlklgbggmbaaGreat
namespace Go.Proofs.YthnmlklgbggmbaaGreat
open Go.ChangeShapes Go.WideShapes Go.ChangeAt Go.RowKit
set_option linter.unusedVariables false
theorem queue_made (w : World) : IsQ (w.alloc (.cells #[.int .i64 0, .int .i64 0, .int .i64 0, .int .u32 0, .pointer none, .pointer none] 162)) w.heap.size [] false :=
  ⟨heap_new _ _, fun i x hi => by simp at hi, fun i j a b hi => by simp at hi, fun _ => rfl⟩
theorem keeps_of_below {w w' : World} {B : Nat} (h : Below B w w') (hB : w.heap.size ≤ B) (S : Nat → Prop) : Keeps S w w' := ⟨h.os, h.tape, h.output, h.size, fun k hk _ => h.block k (by omega)⟩
/-- A queue of one's own: its blocks lie at or beyond B. -/
structure OwnQ (B : Nat) (w : World) (Q : Nat) (L : List QN) : Prop where
  ring : ∃ h, IsQ w Q L h
  lowQ : B ≤ Q
  low : ∀ x, x ∈ L → B ≤ x.g
theorem OwnQ.qp {B : Nat} {w : World} {Q : Nat} {L : List QN} (h : OwnQ B w Q L) : QP w (some ⟨Q, 0, none⟩) L := by
  obtain ⟨b, hq⟩ := h.ring
  exact .inr ⟨Q, b, rfl, hq⟩
theorem OwnQ.below {B : Nat} {w w' : World} {Q : Nat} {L : List QN} (h : OwnQ B w Q L) (hk : Below w.heap.size w w') : OwnQ B w' Q L := by
  obtain ⟨b, hq⟩ := h.ring
  exact ⟨⟨b, hq.below (Nat.le_refl _) hk⟩, h.lowQ, h.low⟩
theorem OwnQ.alloc {B : Nat} {w : World} {Q : Nat} {L : List QN} (h : OwnQ B w Q L) (o : Obj) : OwnQ B (w.alloc o) Q L := h.below ((Below.refl _ _).alloc (Nat.le_refl _) _)
theorem OwnQ.RS {B : Nat} {w : World} {Q : Nat} {L : List QN} (h : OwnQ B w Q L) {k : Nat} (hk : RS Q L k) : B ≤ k := by
  rcases hk with rfl | ⟨y, hy, rfl⟩
  · exact h.lowQ
  · exact h.low y hy
theorem ownq_add (B Q : Nat) (L : List QN) (t k o : Int) (m : Nat) (w w0 : World) (hq : OwnQ B w Q L) (hw : Keeps (fun j => B ≤ j) w0 w) (hB : B ≤ w0.heap.size) (ht : 0 ≤ t ∧ t < 16) (hf : fnd L t = none) :
    Calls Tryz.prog 79 #[.pointer (some ⟨Q, 0, none⟩), av t k o m] w fun e W' => e = .returned (.bool true) ∧ ∃ g, OwnQ B W' Q (L ++ [⟨g, t, k, o, m⟩]) ∧ Keeps (fun j => B ≤ j) w0 W' ∧ Keeps (RS Q L) w W' := by
  obtain ⟨b, hi⟩ := hq.ring
  refine (Add_yes Q L b t k o m w hi ht hf).mono ?_
  rintro e W' ⟨rfl, g, hg, h1, h2⟩
  refine ⟨rfl, g, ⟨⟨true, h1⟩, hq.lowQ, fun x hx => ?_⟩, hw.trans (h2.mono fun k _ hk => hq.RS hk), h2⟩
  rcases List.mem_append.1 hx with h3 | h3
  · exact hq.low x h3
  · simp at h3; subst h3; exact Nat.le_trans hB (Nat.le_trans hw.size hg)
theorem ownq_no (B Q : Nat) (L : List QN) (t k o : Int) (m : Nat) (w w0 : World) (hq : OwnQ B w Q L) (hw : Keeps (fun j => B ≤ j) w0 w) (ht : t < 0 ∨ 16 ≤ t ∨ fnd L t ≠ none) :
    Calls Tryz.prog 79 #[.pointer (some ⟨Q, 0, none⟩), av t k o m] w fun e W' => e = .returned (.bool false) ∧ OwnQ B W' Q L ∧ Keeps (fun j => B ≤ j) w0 W' ∧ Keeps (fun _ => False) w W' := by
  obtain ⟨b, hi⟩ := hq.ring
  have key : Calls Tryz.prog 79 #[.pointer (some ⟨Q, 0, none⟩), av t k o m] w fun e W' => e = .returned (.bool false) ∧ Below w.heap.size w W' := by
    by_cases h1 : t < 0 ∨ 16 ≤ t
    · exact Add_bad Q t k o m w h1
    · obtain ⟨y, hy⟩ : ∃ y, fnd L t = some y := by
        rcases ht with h | h | h
        · exact absurd (.inl h) h1
        · exact absurd (.inr h) h1
        · exact Option.ne_none_iff_exists'.1 h
      exact Add_twice Q L b t k o m w hi (by omega) y hy
  refine key.mono ?_
  rintro e W' ⟨rfl, h1⟩
  exact ⟨rfl, hq.below h1, hw.trans (keeps_of_below h1 (Nat.le_refl _) _), keeps_of_below h1 (Nat.le_refl _) _⟩
theorem ownq_rem (B Q : Nat) (P R : List QN) (x : QN) (t : Int) (w w0 : World) (hq : OwnQ B w Q (P ++ x :: R)) (hw : Keeps (fun j => B ≤ j) w0 w) (hx : x.t = t) (hP : ∀ y, y ∈ P → y.t ≠ t) :
    Calls Tryz.prog 138 #[.pointer (some ⟨Q, 0, none⟩), .int .i64 t] w fun e W' => e = .returned (.tuple #[qv x, .bool true]) ∧ OwnQ B W' Q (P ++ R) ∧ Keeps (fun j => B ≤ j) w0 W' ∧ Keeps (RS Q (P ++ x :: R)) w W' := by
  obtain ⟨b, hi⟩ := hq.ring
  refine (Remove_yes Q P R x b t w hi hx hP).mono ?_
  rintro e W' ⟨rfl, h1, h2⟩
  refine ⟨rfl, ⟨⟨true, h1⟩, hq.lowQ, fun y hy => hq.low y ?_⟩, hw.trans (h2.mono fun k _ hk => hq.RS hk), h2⟩
  simp at hy ⊢
  rcases hy with h | h
  · exact .inl h
  · exact .inr (.inr h)
theorem ownq_next (B Q : Nat) (L : List QN) (t : Int) (X : QN) (b0 : Bool) (w w0 : World) (hq : OwnQ B w Q L) (hw : Keeps (fun j => B ≤ j) w0 w) (hX : wv (fnd L t) = qv X) (hb : (fnd L t).isSome = !b0) :
    Calls Tryz.prog 91 #[.pointer (some ⟨Q, 0, none⟩), .int .i64 t] w fun e W' => e = .returned (.tuple #[wv (scan X.wait b0 L), .bool (scan X.wait b0 L).isSome]) ∧ OwnQ B W' Q L ∧ Keeps (fun j => B ≤ j) w0 W' ∧ Keeps (fun _ => False) w W' := by
  refine (Next_scan (some ⟨Q, 0, none⟩) L t X b0 w hq.qp hX hb).mono ?_
  rintro e W' ⟨rfl, h1⟩
  exact ⟨rfl, hq.below h1, hw.trans (keeps_of_below h1 (Nat.le_refl _) _), keeps_of_below h1 (Nat.le_refl _) _⟩
theorem ownq_made (w : World) : OwnQ w.heap.size (w.alloc (.cells #[.int .i64 0, .int .i64 0, .int .i64 0, .int .u32 0, .pointer none, .pointer none] 162)) w.heap.size [] :=
  ⟨⟨false, queue_made w⟩, Nat.le_refl _, fun x hx => by cases hx⟩
end Go.Proofs.YthnmlklgbggmbaaGreat
