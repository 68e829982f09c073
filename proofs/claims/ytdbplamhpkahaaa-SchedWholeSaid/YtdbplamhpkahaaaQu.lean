import Derived.Test.YtdbplamhpkahaaaRows
import Derived.Test.YtdbplamhpkahaaaKeep
import Derived.Test.YtdbplamhpkahaaaRet
import Derived.Test.YtdbplamhpkahaaaScopeIn
import Derived.ProofKit
import Derived.OpenShut
import Derived.WalkLawsBesides
import Derived.WalkSpells
import Derived.Lib.Hide
import Derived.RangeFuncNested
import Derived.RangeFuncBound
import Derived.RangeFuncCalls
import Derived.RangeFuncLeaves
import Derived.RangeFuncBox
import Derived.Shelf.Abstract
import Derived.Shelf.RegionOpen
import Derived.WalkKit
import Derived.OwnWalkIn
import Derived.TacticsInMore
import Derived.LoopNIn
import Derived.LoopIn
import Derived.LaidEqlPtr
namespace Go.Proofs.Ytdbplamhpkahaaa
open Go.RowKit Go.Shelf
set_option linter.unusedVariables false
attribute [local go_sem] Oper.semAt_some
/-- A node of the ring: its block, and its wait. -/
structure QN where
  g : Nat
  t : Int
  k : Int
  o : Int
  m : Nat
def QN.cells (x : QN) : List Value := [.int .i64 x.t, .int .i64 x.k, .int .i64 x.o, .int .u32 (x.m : Int)]
/-- The blocks of the ring: the head's, each node's, the head's. -/
def bk (Q : Nat) (L : List QN) : Nat → Nat
  | 0 => Q
  | i + 1 => match L[i]? with | some x => x.g | none => Q
theorem bk_some {Q : Nat} {L : List QN} {i : Nat} {x : QN} (h : L[i]? = some x) : bk Q L (i + 1) = x.g := by simp [bk, h]
theorem bk_end {Q : Nat} {L : List QN} {i : Nat} (h : L.length ≤ i) : bk Q L (i + 1) = Q := by simp [bk, h]
def nx (Q : Nat) (L : List QN) (h : Bool) (i : Nat) : Option Addr := if h then some ⟨bk Q L i, 0, none⟩ else none
/-- Block Q: a queue of these nodes; h: was there ever one? -/
structure IsQ (w : World) (Q : Nat) (L : List QN) (h : Bool) : Prop where
  head : w.heap[Q]? = some (.cells #[.int .i64 0, .int .i64 0, .int .i64 0, .int .u32 0, .pointer (nx Q L h 1), .pointer (nx Q L h L.length)] 61 (0, 0))
  node : ∀ (i : Nat) (x : QN), L[i]? = some x → w.heap[x.g]? = some (.cells #[.int .i64 x.t, .int .i64 x.k, .int .i64 x.o, .int .u32 (x.m : Int), .pointer (some ⟨bk Q L (i + 2), 0, none⟩), .pointer (some ⟨bk Q L i, 0, none⟩)] 59 (0, 0))
  inj : ∀ (i j : Nat) (a b : QN), L[i]? = some a → L[j]? = some b → a.g = b.g → i = j
  ever : h = false → L = []
theorem at_below {B : Nat} {w w' : World} (h : Below B w w') {b : Nat} {x : Obj} (hb : w.heap[b]? = some x) (hs : b < B) : w'.heap[b]? = some x := by
  rw [h.block b hs]; exact hb
section
variable {w w' : World} {Q : Nat} {L : List QN} {h : Bool}
theorem IsQ.keeps {S : Nat → Prop} (hq : IsQ w Q L h) (hk : Keeps S w w') (hD : ¬ S Q) (hN : ∀ (i : Nat) (x : QN), L[i]? = some x → ¬ S x.g) : IsQ w' Q L h :=
  ⟨hk.at hq.head hD, fun i nd hi => hk.at (hq.node i nd hi) (hN i nd hi), hq.inj, hq.ever⟩
theorem IsQ.none (hq : IsQ w Q L h) (hk : Keeps (fun _ => False) w w') : IsQ w' Q L h := hq.keeps hk (fun h => h) fun _ _ _ h => h
theorem IsQ.below {B : Nat} (hq : IsQ w Q L h) (hB : w.heap.size ≤ B) (hk : Below B w w') : IsQ w' Q L h :=
  ⟨at_below hk hq.head (Nat.lt_of_lt_of_le (lt_of hq.head) hB), fun i nd hi => at_below hk (hq.node i nd hi) (Nat.lt_of_lt_of_le (lt_of (hq.node i nd hi)) hB), hq.inj, hq.ever⟩
theorem IsQ.ne (hq : IsQ w Q L h) {i : Nat} {x : QN} (hi : L[i]? = some x) : x.g ≠ Q := by
  intro e
  have h1 := hq.node i x hi
  rw [e, hq.head] at h1
  injection h1 with h1
  injection h1 with _ h1
  exact absurd h1 (by decide)
end
/-- A pointer to a queue, or none. -/
def QP (w : World) (p : Option Addr) (L : List QN) : Prop := (p = none ∧ L = []) ∨ ∃ Q h, p = some ⟨Q, 0, none⟩ ∧ IsQ w Q L h
theorem QP.below {w w' : World} {p : Option Addr} {L : List QN} {B : Nat} (hq : QP w p L) (hB : w.heap.size ≤ B) (hk : Below B w w') : QP w' p L := by
  rcases hq with h | ⟨Q, h, e, hq⟩
  · exact .inl h
  · exact .inr ⟨Q, h, e, hq.below hB hk⟩
/-- What a round of a walk through the links must keep: what lay below, and the walk's own box. -/
def KQ (n₀ Bn : Nat) (W W' : World) : Prop := Below n₀ W W' ∧ ∀ v, Boxed W Bn 54 v → Boxed W' Bn 54 v
theorem KQ.t {n₀ Bn : Nat} {A B C : World} (h : KQ n₀ Bn A B) (k : KQ n₀ Bn B C) : KQ n₀ Bn A C := ⟨h.1.trans k.1, fun v hv => k.2 v (h.2 v hv)⟩
theorem KQ.refl {n₀ Bn : Nat} (A : World) : KQ n₀ Bn A A := ⟨Below.refl _ _, fun v hv => hv⟩
theorem KQ.b {n₀ Bn : Nat} {w : World} (hn : n₀ ≤ w.heap.size) (W : World) (l : Nat) (o o' : Obj) (hl : w.heap.size ≤ l) (h : W.heap[l]? = some o) (hc : o.isCells = false) (hw : o.isWalk = false) : KQ n₀ Bn W (W.putObj l o') :=
  ⟨belowK_b hn W l o o' hl h hc hw, fun v hv => hv.kept (grownBy_putObj' W l o') (fun e => by cases e; rw [show W.heap[Bn]? = _ from hv] at h; cases h; cases hc)⟩
theorem attach_get (L : List QN) (i : Nat) (x : QN) (hx : L[i]? = some x) : L.attach[i]? = some ⟨x, List.mem_of_getElem? hx⟩ := by
  have hi : i < L.length := by
    rcases Nat.lt_or_ge i L.length with h | h
    · exact h
    · rw [List.getElem?_eq_none h] at hx; cases hx
  rw [List.getElem?_eq_getElem (by simpa using hi)]
  congr 1
  apply Subtype.ext
  simp
  rw [List.getElem?_eq_getElem hi] at hx
  exact Option.some.inj hx
theorem attach_take (L : List QN) (i : Nat) (x : QN) (hx : L[i]? = some x) : L.attach.take i ++ [⟨x, List.mem_of_getElem? hx⟩] = L.attach.take (i + 1) := by
  have h := attach_get L i x hx
  rw [List.take_add_one, h]
  rfl
theorem attach_pre (L : List QN) (i : Nat) (x : QN) (hx : L[i]? = some x) : L.attach.take i ++ [⟨x, List.mem_of_getElem? hx⟩] <+: L.attach := by
  rw [attach_take L i x hx]
  exact List.take_prefix _ _
theorem link_size : (Try.prog.info? 59).map (fun i => i.size) = some 6 := by kernel_rfl
theorem link_same (a : Addr) (w : World) : (binOp .eql 57 (.pointer (some a)) (.pointer (some a))).run Try.prog w = .ok (.bool true) w := by
  have h := link_size
  cases hi : Try.prog.info? 59 with
  | none => rw [hi] at h; cases h
  | some j => exact run_eql_ptr_same w a (by kernel_rfl) hi
theorem link_other {a b : Nat} {ca cb : Array Value} {ta tb : TypeId} {w : World} (hne : a ≠ b) (ha : w.heap[a]? = some (.cells ca ta (0, 0))) (hb : w.heap[b]? = some (.cells cb tb (0, 0))) :
    (binOp .eql 57 (.pointer (some ⟨a, 0, none⟩)) (.pointer (some ⟨b, 0, none⟩))).run Try.prog w = .ok (.bool false) w := by
  have h := link_size
  cases hi : Try.prog.info? 59 with
  | none => rw [hi] at h; cases h
  | some j =>
    rw [hi] at h
    exact run_eql_ptr_other w (by kernel_rfl) hi (by have e : j.size = 6 := Option.some.inj h; rw [e]; decide) (fun e => hne (by injection e)) ha hb
set_option maxRecDepth 100000 in
set_option maxHeartbeats 1000000 in
/-- **links' closure: for every body that keeps what lay below n₀, and the box of q.** -/
theorem links1_in (n : Nat) (hn : 1 ≤ n) (l Bn n₀ : Nat) (W0 : World) (h0s : W0.heap.size ≤ n₀) (p : Option Addr) (L : List QN) (hQ : QP W0 p L) (J Jx : List {x : QN // x ∈ L} → World → Prop)
    (hY : ∀ pre x W, J pre W → pre.length < L.attach.length → YieldAt Fence.wide (n - 1) Try.prog l #[.pointer (some ⟨x.1.g, 0, none⟩)] W fun e W' =>
      (e = .returned (.bool true) ∧ J (pre ++ [x]) W' ∧ KQ n₀ Bn W W') ∨ (e = .returned (.bool false) ∧ Jx (pre ++ [x]) W'))
    (W : World) (hB : Below n₀ W0 W) (hBn : Boxed W Bn 54 (.pointer p)) (h0 : J [] W) :
    CallsIn Fence.wide n Try.prog 85 #[.func (.yield l) #[] #[], .pointer (some ⟨Bn, 0, none⟩)] W fun e W' => (∃ v, e = .returned v) ∧
      ((∃ ys, ys = L.attach ∧ J ys W') ∨ (∃ pre, pre <+: L.attach ∧ Jx pre W')) := by
  have c0 := hBn.cell
  have l0 := hBn.lt
  refine callsIn_of_wp Try.func85 rfl trivial ?_ rfl
  simp only [Try.ntmps85, List.size_toArray, List.length_cons, List.length_nil, Nat.reduceAdd, Nat.reduceSub, Array.replicate_succ, Array.replicate_zero, List.push_toArray, List.append_toArray, List.nil_append, List.cons_append]
  rcases hQ with ⟨rfl, rfl⟩ | ⟨Q, h, rfl, hQ⟩
  · refine wpIn_scope_ghost 0 (fun _ _ _ => False) rfl (fun _ _ _ h => h.elim) ?_
    intro _
    gi_wp2
    try simp only [Exit.jump]
    exact bodyPost_ret (results_none rfl _ _ _) rfl ⟨⟨_, rfl⟩, .inl ⟨[], rfl, h0⟩⟩
  · refine wpIn_scope_ghost 0 (fun m a' w' => ∃ (i : Nat) (u4 u5 u6 u7 u8 u9 u10 u11 u12 u13 u14 u15 u16 u17 u18 u19 u20 u21 u22 u23 u24 u25 u26 u27 : Value), a' = { tmps := #[.func (.yield l) #[] #[], .pointer (some ⟨Bn, 0, none⟩), undef, .pointer (nx Q L h (i + 1)), u4, u5, u6, u7, u8, u9, u10, u11, u12, u13, u14, u15, u16, u17, u18, u19, u20, u21, u22, u23, u24, u25, u26, u27], defers := [] } ∧ i + m = L.length ∧ J (L.attach.take i) w' ∧ KQ n₀ Bn W w') rfl ?_ ?_
    · rintro m a' w' ⟨i, u4, u5, u6, u7, u8, u9, u10, u11, u12, u13, u14, u15, u16, u17, u18, u19, u20, u21, u22, u23, u24, u25, u26, u27, rfl, him, hJ, hK⟩
      have hI := hQ.below h0s (hB.trans hK.1)
      have hB2 := hK.2 _ hBn
      have c1 := hB2.cell
      have l1 := hB2.lt
      by_cases hi : i < L.length
      · have hx := List.getElem?_eq_getElem hi
        generalize hxe : L[i] = x at hx
        have hh : h = true := by rcases Bool.eq_false_or_eq_true h with e | e; exact e; (have := hI.ever e; simp [this] at hi)
        subst hh
        have hnd := hI.node i x hx
        have hp : nx Q L true (i + 1) = some ⟨x.g, 0, none⟩ := by simp [nx, bk_some hx]
        have hne := hI.ne hx
        have lx := lt_of hnd
        rw [hp]
        obtain ⟨fn, tmps, assign, body, hy, hR⟩ := hY (L.attach.take i) ⟨x, List.mem_of_getElem? hx⟩ w' hJ (by simp; omega)
        dsimp only at hy
        have hq := link_other hne hnd hI.head
        gi_wp2
        refine hR.mono ?_
        rintro e W3 (⟨rfl, hJ3, hk3⟩ | ⟨rfl, hJx3⟩)
        · have hI3 := hQ.below h0s ((hB.trans hK.1).trans hk3.1)
          have hnd3 := hI3.node i x hx
          have q4 : W3.cell? ⟨x.g, 4, none⟩ = some (.pointer (some ⟨bk Q L (i + 2), 0, none⟩)) := cell_of hnd3 4
          have l4 := lt_of hnd3
          gi_wp2
          refine wpIn_goto ?_
          refine ⟨rfl, m - 1, by omega, ⟨i + 1, _, _, _, _, _, _, _, _, _, _, _, _, _, _, _, _, _, _, _, _, _, _, _, _, rfl, by omega, ?_, hK.t hk3⟩⟩
          rw [attach_take L i x hx] at hJ3
          exact hJ3
        · gi_wp2
          try simp only [Exit.jump]
          exact bodyPost_ret (results_none rfl _ _ _) rfl ⟨⟨_, rfl⟩, .inr ⟨_, attach_pre L i x hx, hJx3⟩⟩
      · have him2 : i = L.length := by omega
        subst him2
        cases h with
        | false =>
          rw [show nx Q L false (L.length + 1) = none from rfl]
          gi_wp2
          try simp only [Exit.jump]
          exact bodyPost_ret (results_none rfl _ _ _) rfl ⟨⟨_, rfl⟩, .inl ⟨_, rfl, by rw [← List.length_attach (l := L), List.take_length] at hJ; exact hJ⟩⟩
        | true =>
          rw [show nx Q L true (L.length + 1) = some ⟨Q, 0, none⟩ from by simp [nx, bk_end (Nat.le_refl _)]]
          have hq := link_same ⟨Q, 0, none⟩ w'
          have l3 := lt_of hI.head
          gi_wp2
          try simp only [Exit.jump]
          exact bodyPost_ret (results_none rfl _ _ _) rfl ⟨⟨_, rfl⟩, .inl ⟨_, rfl, by rw [← List.length_attach (l := L), List.take_length] at hJ; exact hJ⟩⟩
    · intro hpass
      have HP := Lib.hid hpass
      clear hpass
      have hI := hQ.below h0s hB
      have c2 : W.cell? ⟨Q, 4, none⟩ = some (.pointer (nx Q L h 1)) := cell_of hI.head 4
      have l2 := lt_of hI.head
      gi_wp2
      refine wpIn_label ?_
      rename_i K hK
      exact hK _ _ (HP.out _ _ _ ⟨0, _, _, _, _, _, _, _, _, _, _, _, _, _, _, _, _, _, _, _, _, _, _, _, _, rfl, Nat.zero_add _, h0, KQ.refl _⟩)
set_option maxHeartbeats 1000000 in
/-- **q.links()**: the receiver is boxed; the closure has the box. -/
theorem links_in (n : Nat) (p : Option Addr) (w : World) :
    CallsIn Fence.wide n Try.prog 73 #[.pointer p] w fun e w' => e = .returned (.func (.func 85) #[] #[.pointer (some ⟨w.heap.size, 0, none⟩)]) ∧ w' = w.alloc (.cells #[.pointer p] 54) := by
  refine callsIn_of_wp Try.func73 rfl trivial ?_ rfl
  simp only [Try.ntmps73, List.size_toArray, List.length_cons, List.length_nil, Nat.reduceAdd, Nat.reduceSub, Array.replicate_succ, Array.replicate_zero, List.push_toArray, List.append_toArray, List.nil_append, List.cons_append]
  gi_wp2
  go_ret
  exact ⟨rfl, rfl⟩
/-- What it hands back: all links, or a part of them where a round has said 'no more'. -/
theorem links_stops (n : Nat) (hn : 1 ≤ n) (Bn n₀ : Nat) (W0 w : World) (h0s : W0.heap.size ≤ n₀) (hn₀ : n₀ ≤ w.heap.size) (p : Option Addr) (L : List QN) (hQ : QP W0 p L) (hB : Below n₀ W0 w) (hc : Boxed w Bn 54 (.pointer p)) :
    SeqStopsK Fence.wide n Try.prog 85 #[.pointer (some ⟨Bn, 0, none⟩)] (fun x : {x : QN // x ∈ L} => #[Value.pointer (some ⟨x.1.g, 0, none⟩)]) (KQ n₀ Bn) (fun ys => ys = L.attach) (fun pre => pre <+: L.attach) L.attach.length w := fun l J Jx W hW _ _ hY h0 =>
  links1_in n hn l Bn n₀ W0 h0s p L hQ J Jx hY W (hB.trans (hW.mono hn₀)) ((hW.block Bn hc.lt).trans hc) h0
end Go.Proofs.Ytdbplamhpkahaaa
