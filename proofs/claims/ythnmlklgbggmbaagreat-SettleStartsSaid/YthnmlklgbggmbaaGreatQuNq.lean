import Derived.Test.YthnmlklgbggmbaaGreatGhostq
import Derived.ControlIn
import Derived.CallsIn
import Derived.TacticsInMore
import Derived.Test.YthnmlklgbggmbaaGreatObjq
import Derived.Test.YthnmlklgbggmbaaGreatRows
import Derived.ProofKit
import Derived.OpenShut
import Derived.WalkLawsBesides
import Derived.WalkSpells
import Derived.Lib.Hide
import Derived.RangeFuncNested
import Derived.RangeFuncBound
import Derived.RangeFuncCalls
import Derived.RangeFuncLeaves
import Derived.RangeFuncBox
import Derived.Shelf.Abstract
import Derived.Shelf.RegionOpen
import Derived.WalkKit
import Derived.OwnWalkIn
import Derived.LoopNIn
import Derived.LoopIn
import Derived.LaidEqlPtr
import Derived.Laws.AppendOwn
import Derived.Tactics
import Derived.BigFrame
import Derived.Maps.AppendAt
import Derived.Laws.StructEq
import Derived.Deep.QuietTactic
import Derived.BigQuiet
import Derived.BigRegion
namespace Go
section
variable {P : Program} {a : Act} {w : World} {Q : Exit → Act → World → Prop}
theorem wpIn_scope_ghost {n : Nat} {c rest : Code} (l : Nat) (J : Nat → Act → World → Prop) (hf : findLabel c l = some (Code.skip.seq rest))
    (pass : ∀ m a w, J m a w → rest.wpIn Fence.wide n P (Exit.jump l (fun a' w' => ∃ m', m' < m ∧ J m' a' w') Q) a w)
    (first : (∀ m a w, J m a w → rest.wpIn Fence.wide n P (Exit.jump l (fun a' w' => ∃ m', J m' a' w') Q) a w) → c.wpIn Fence.wide n P (Exit.jump l (fun a' w' => ∃ m', J m' a' w') Q) a w) : (Code.scope c).wpIn Fence.wide n P Q a w :=
  wpIn_wide.2 (wp_scope_ghost l J hf (fun m a w h => wpIn_wide.1 (pass m a w h)) fun h => wpIn_wide.1 (first fun m a w hj => wpIn_wide.2 (h m a w hj)))
end
end Go
namespace Go.Proofs.YthnmlklgbggmbaaGreat
open Go.RowKit Go.Shelf
set_option linter.unusedVariables false
attribute [local go_sem] Oper.semAt_some
structure QN where
  g : Nat
  t : Int
  k : Int
  o : Int
  m : Nat
def QN.cells (x : QN) : List Value := [.int .i64 x.t, .int .i64 x.k, .int .i64 x.o, .int .u32 (x.m : Int)]
def bk (Q : Nat) (L : List QN) : Nat → Nat
  | 0 => Q
  | i + 1 => match L[i]? with | some x => x.g | none => Q
theorem bk_some {Q : Nat} {L : List QN} {i : Nat} {x : QN} (h : L[i]? = some x) : bk Q L (i + 1) = x.g := by simp [bk, h]
theorem bk_end {Q : Nat} {L : List QN} {i : Nat} (h : L.length ≤ i) : bk Q L (i + 1) = Q := by simp [bk, h]
def nx (Q : Nat) (L : List QN) (h : Bool) (i : Nat) : Option Addr := if h then some ⟨bk Q L i, 0, none⟩ else none
structure IsQ (w : World) (Q : Nat) (L : List QN) (h : Bool) : Prop where
  head : w.heap[Q]? = some (.cells #[.int .i64 0, .int .i64 0, .int .i64 0, .int .u32 0, .pointer (nx Q L h 1), .pointer (nx Q L h L.length)] 162 (0, 0))
  node : ∀ (i : Nat) (x : QN), L[i]? = some x → w.heap[x.g]? = some (.cells #[.int .i64 x.t, .int .i64 x.k, .int .i64 x.o, .int .u32 (x.m : Int), .pointer (some ⟨bk Q L (i + 2), 0, none⟩), .pointer (some ⟨bk Q L i, 0, none⟩)] 160 (0, 0))
  inj : ∀ (i j : Nat) (a b : QN), L[i]? = some a → L[j]? = some b → a.g = b.g → i = j
  ever : h = false → L = []
theorem at_below {B : Nat} {w w' : World} (h : Below B w w') {b : Nat} {x : Obj} (hb : w.heap[b]? = some x) (hs : b < B) : w'.heap[b]? = some x := by
  rw [h.block b hs]; exact hb
section
variable {w w' : World} {Q : Nat} {L : List QN} {h : Bool}
theorem IsQ.keeps {S : Nat → Prop} (hq : IsQ w Q L h) (hk : Keeps S w w') (hD : ¬ S Q) (hN : ∀ (i : Nat) (x : QN), L[i]? = some x → ¬ S x.g) : IsQ w' Q L h :=
  ⟨hk.at hq.head hD, fun i nd hi => hk.at (hq.node i nd hi) (hN i nd hi), hq.inj, hq.ever⟩
theorem IsQ.none (hq : IsQ w Q L h) (hk : Keeps (fun _ => False) w w') : IsQ w' Q L h := hq.keeps hk (fun h => h) fun _ _ _ h => h
theorem IsQ.below {B : Nat} (hq : IsQ w Q L h) (hB : w.heap.size ≤ B) (hk : Below B w w') : IsQ w' Q L h :=
  ⟨at_below hk hq.head (Nat.lt_of_lt_of_le (lt_of hq.head) hB), fun i nd hi => at_below hk (hq.node i nd hi) (Nat.lt_of_lt_of_le (lt_of (hq.node i nd hi)) hB), hq.inj, hq.ever⟩
theorem IsQ.ne (hq : IsQ w Q L h) {i : Nat} {x : QN} (hi : L[i]? = some x) : x.g ≠ Q := by
  intro e
  have h1 := hq.node i x hi
  rw [e, hq.head] at h1
  injection h1 with h1
  injection h1 with _ h1
  exact absurd h1 (by decide)
end
def QP (w : World) (p : Option Addr) (L : List QN) : Prop := (p = none ∧ L = []) ∨ ∃ Q h, p = some ⟨Q, 0, none⟩ ∧ IsQ w Q L h
theorem QP.below {w w' : World} {p : Option Addr} {L : List QN} {B : Nat} (hq : QP w p L) (hB : w.heap.size ≤ B) (hk : Below B w w') : QP w' p L := by
  rcases hq with h | ⟨Q, h, e, hq⟩
  · exact .inl h
  · exact .inr ⟨Q, h, e, hq.below hB hk⟩
def KQ (n₀ Bn : Nat) (W W' : World) : Prop := Below n₀ W W' ∧ ∀ v, Boxed W Bn 96 v → Boxed W' Bn 96 v
theorem KQ.t {n₀ Bn : Nat} {A B C : World} (h : KQ n₀ Bn A B) (k : KQ n₀ Bn B C) : KQ n₀ Bn A C := ⟨h.1.trans k.1, fun v hv => k.2 v (h.2 v hv)⟩
theorem KQ.refl {n₀ Bn : Nat} (A : World) : KQ n₀ Bn A A := ⟨Below.refl _ _, fun v hv => hv⟩
theorem KQ.b {n₀ Bn : Nat} {w : World} (hn : n₀ ≤ w.heap.size) (W : World) (l : Nat) (o o' : Obj) (hl : w.heap.size ≤ l) (h : W.heap[l]? = some o) (hc : o.isCells = false) (hw : o.isWalk = false) : KQ n₀ Bn W (W.putObj l o') :=
  ⟨belowK_b hn W l o o' hl h hc hw, fun v hv => hv.kept (grownBy_putObj' W l o') (fun e => by cases e; rw [show W.heap[Bn]? = _ from hv] at h; cases h; cases hc)⟩
theorem attach_get (L : List QN) (i : Nat) (x : QN) (hx : L[i]? = some x) : L.attach[i]? = some ⟨x, List.mem_of_getElem? hx⟩ := by
  have hi : i < L.length := by
    rcases Nat.lt_or_ge i L.length with h | h
    · exact h
    · rw [List.getElem?_eq_none h] at hx; cases hx
  rw [List.getElem?_eq_getElem (by simpa using hi)]
  congr 1
  apply Subtype.ext
  simp
  rw [List.getElem?_eq_getElem hi] at hx
  exact Option.some.inj hx
theorem attach_take (L : List QN) (i : Nat) (x : QN) (hx : L[i]? = some x) : L.attach.take i ++ [⟨x, List.mem_of_getElem? hx⟩] = L.attach.take (i + 1) := by
  have h := attach_get L i x hx
  rw [List.take_add_one, h]
  rfl
theorem attach_pre (L : List QN) (i : Nat) (x : QN) (hx : L[i]? = some x) : L.attach.take i ++ [⟨x, List.mem_of_getElem? hx⟩] <+: L.attach := by
  rw [attach_take L i x hx]
  exact List.take_prefix _ _
theorem link_size : (Tryz.prog.info? 160).map (fun i => i.size) = some 6 := by kernel_rfl
theorem link_same (a : Addr) (w : World) : (binOp .eql 158 (.pointer (some a)) (.pointer (some a))).run Tryz.prog w = .ok (.bool true) w := by
  have h := link_size
  cases hi : Tryz.prog.info? 160 with
  | none => rw [hi] at h; cases h
  | some j => exact run_eql_ptr_same w a (by kernel_rfl) hi
theorem link_other {a b : Nat} {ca cb : Array Value} {ta tb : TypeId} {w : World} (hne : a ≠ b) (ha : w.heap[a]? = some (.cells ca ta (0, 0))) (hb : w.heap[b]? = some (.cells cb tb (0, 0))) :
    (binOp .eql 158 (.pointer (some ⟨a, 0, none⟩)) (.pointer (some ⟨b, 0, none⟩))).run Tryz.prog w = .ok (.bool false) w := by
  have h := link_size
  cases hi : Tryz.prog.info? 160 with
  | none => rw [hi] at h; cases h
  | some j =>
    rw [hi] at h
    exact run_eql_ptr_other w (by kernel_rfl) hi (by have e : j.size = 6 := Option.some.inj h; rw [e]; decide) (fun e => hne (by injection e)) ha hb
set_option maxRecDepth 100000 in
set_option maxHeartbeats 1000000 in
theorem links1_in (n : Nat) (hn : 1 ≤ n) (l Bn n₀ : Nat) (W0 : World) (h0s : W0.heap.size ≤ n₀) (p : Option Addr) (L : List QN) (hQ : QP W0 p L) (J Jx : List {x : QN // x ∈ L} → World → Prop)
    (hY : ∀ pre x W, J pre W → pre.length < L.attach.length → YieldAt Fence.wide (n - 1) Tryz.prog l #[.pointer (some ⟨x.1.g, 0, none⟩)] W fun e W' =>
      (e = .returned (.bool true) ∧ J (pre ++ [x]) W' ∧ KQ n₀ Bn W W') ∨ (e = .returned (.bool false) ∧ Jx (pre ++ [x]) W'))
    (W : World) (hB : Below n₀ W0 W) (hBn : Boxed W Bn 96 (.pointer p)) (h0 : J [] W) :
    CallsIn Fence.wide n Tryz.prog 128 #[.func (.yield l) #[] #[], .pointer (some ⟨Bn, 0, none⟩)] W fun e W' => (∃ v, e = .returned v) ∧
      ((∃ ys, ys = L.attach ∧ J ys W') ∨ (∃ pre, pre <+: L.attach ∧ Jx pre W')) := by
  have c0 := hBn.cell
  have l0 := hBn.lt
  refine callsIn_of_wp Tryz.func128 rfl trivial ?_ rfl
  simp only [Tryz.ntmps128, List.size_toArray, List.length_cons, List.length_nil, Nat.reduceAdd, Nat.reduceSub, Array.replicate_succ, Array.replicate_zero, List.push_toArray, List.append_toArray, List.nil_append, List.cons_append]
  rcases hQ with ⟨rfl, rfl⟩ | ⟨Q, h, rfl, hQ⟩
  · refine wpIn_scope_ghost 0 (fun _ _ _ => False) rfl (fun _ _ _ h => h.elim) ?_
    intro _
    gi_wp2
    try simp only [Exit.jump]
    exact bodyPost_ret (results_none rfl _ _ _) rfl ⟨⟨_, rfl⟩, .inl ⟨[], rfl, h0⟩⟩
  · refine wpIn_scope_ghost 0 (fun m a' w' => ∃ (i : Nat) (u4 u5 u6 u7 u8 u9 u10 u11 u12 u13 u14 u15 u16 u17 u18 u19 u20 u21 u22 u23 u24 u25 u26 u27 : Value), a' = { tmps := #[.func (.yield l) #[] #[], .pointer (some ⟨Bn, 0, none⟩), undef, .pointer (nx Q L h (i + 1)), u4, u5, u6, u7, u8, u9, u10, u11, u12, u13, u14, u15, u16, u17, u18, u19, u20, u21, u22, u23, u24, u25, u26, u27], defers := [] } ∧ i + m = L.length ∧ J (L.attach.take i) w' ∧ KQ n₀ Bn W w') rfl ?_ ?_
    · rintro m a' w' ⟨i, u4, u5, u6, u7, u8, u9, u10, u11, u12, u13, u14, u15, u16, u17, u18, u19, u20, u21, u22, u23, u24, u25, u26, u27, rfl, him, hJ, hK⟩
      have hI := hQ.below h0s (hB.trans hK.1)
      have hB2 := hK.2 _ hBn
      have c1 := hB2.cell
      have l1 := hB2.lt
      by_cases hi : i < L.length
      · have hx := List.getElem?_eq_getElem hi
        generalize hxe : L[i] = x at hx
        have hh : h = true := by rcases Bool.eq_false_or_eq_true h with e | e; exact e; (have := hI.ever e; simp [this] at hi)
        subst hh
        have hnd := hI.node i x hx
        have hp : nx Q L true (i + 1) = some ⟨x.g, 0, none⟩ := by simp [nx, bk_some hx]
        have hne := hI.ne hx
        have lx := lt_of hnd
        rw [hp]
        obtain ⟨fn, tmps, assign, body, hy, hR⟩ := hY (L.attach.take i) ⟨x, List.mem_of_getElem? hx⟩ w' hJ (by simp; omega)
        dsimp only at hy
        have hq := link_other hne hnd hI.head
        gi_wp2
        refine hR.mono ?_
        rintro e W3 (⟨rfl, hJ3, hk3⟩ | ⟨rfl, hJx3⟩)
        · have hI3 := hQ.below h0s ((hB.trans hK.1).trans hk3.1)
          have hnd3 := hI3.node i x hx
          have q4 : W3.cell? ⟨x.g, 4, none⟩ = some (.pointer (some ⟨bk Q L (i + 2), 0, none⟩)) := cell_of hnd3 4
          have l4 := lt_of hnd3
          gi_wp2
          refine wpIn_goto ?_
          refine ⟨rfl, m - 1, by omega, ⟨i + 1, _, _, _, _, _, _, _, _, _, _, _, _, _, _, _, _, _, _, _, _, _, _, _, _, rfl, by omega, ?_, hK.t hk3⟩⟩
          rw [attach_take L i x hx] at hJ3
          exact hJ3
        · gi_wp2
          try simp only [Exit.jump]
          exact bodyPost_ret (results_none rfl _ _ _) rfl ⟨⟨_, rfl⟩, .inr ⟨_, attach_pre L i x hx, hJx3⟩⟩
      · have him2 : i = L.length := by omega
        subst him2
        cases h with
        | false =>
          rw [show nx Q L false (L.length + 1) = none from rfl]
          gi_wp2
          try simp only [Exit.jump]
          exact bodyPost_ret (results_none rfl _ _ _) rfl ⟨⟨_, rfl⟩, .inl ⟨_, rfl, by rw [← List.length_attach (l := L), List.take_length] at hJ; exact hJ⟩⟩
        | true =>
          rw [show nx Q L true (L.length + 1) = some ⟨Q, 0, none⟩ from by simp [nx, bk_end (Nat.le_refl _)]]
          have hq := link_same ⟨Q, 0, none⟩ w'
          have l3 := lt_of hI.head
          gi_wp2
          try simp only [Exit.jump]
          exact bodyPost_ret (results_none rfl _ _ _) rfl ⟨⟨_, rfl⟩, .inl ⟨_, rfl, by rw [← List.length_attach (l := L), List.take_length] at hJ; exact hJ⟩⟩
    · intro hpass
      have HP := Lib.hid hpass
      clear hpass
      have hI := hQ.below h0s hB
      have c2 : W.cell? ⟨Q, 4, none⟩ = some (.pointer (nx Q L h 1)) := cell_of hI.head 4
      have l2 := lt_of hI.head
      gi_wp2
      refine wpIn_label ?_
      rename_i K hK
      exact hK _ _ (HP.out _ _ _ ⟨0, _, _, _, _, _, _, _, _, _, _, _, _, _, _, _, _, _, _, _, _, _, _, _, _, rfl, Nat.zero_add _, h0, KQ.refl _⟩)
set_option maxHeartbeats 1000000 in
theorem links_in (n : Nat) (p : Option Addr) (w : World) :
    CallsIn Fence.wide n Tryz.prog 78 #[.pointer p] w fun e w' => e = .returned (.func (.func 128) #[] #[.pointer (some ⟨w.heap.size, 0, none⟩)]) ∧ w' = w.alloc (.cells #[.pointer p] 96) := by
  refine callsIn_of_wp Tryz.func78 rfl trivial ?_ rfl
  simp only [Tryz.ntmps78, List.size_toArray, List.length_cons, List.length_nil, Nat.reduceAdd, Nat.reduceSub, Array.replicate_succ, Array.replicate_zero, List.push_toArray, List.append_toArray, List.nil_append, List.cons_append]
  gi_wp2
  go_ret
  exact ⟨rfl, rfl⟩
theorem links_stops (n : Nat) (hn : 1 ≤ n) (Bn n₀ : Nat) (W0 w : World) (h0s : W0.heap.size ≤ n₀) (hn₀ : n₀ ≤ w.heap.size) (p : Option Addr) (L : List QN) (hQ : QP W0 p L) (hB : Below n₀ W0 w) (hc : Boxed w Bn 96 (.pointer p)) :
    SeqStopsK Fence.wide n Tryz.prog 128 #[.pointer (some ⟨Bn, 0, none⟩)] (fun x : {x : QN // x ∈ L} => #[Value.pointer (some ⟨x.1.g, 0, none⟩)]) (KQ n₀ Bn) (fun ys => ys = L.attach) (fun pre => pre <+: L.attach) L.attach.length w := fun l J Jx W hW _ _ hY h0 =>
  links1_in n hn l Bn n₀ W0 h0s p L hQ J Jx hY W (hB.trans (hW.mono hn₀)) ((hW.block Bn hc.lt).trans hc) h0
end Go.Proofs.YthnmlklgbggmbaaGreat
namespace Go.Proofs.YthnmlklgbggmbaaGreat
open Go.RowKit Go.Shelf
set_option linter.unusedVariables false
attribute [local go_sem] Oper.semAt_some
theorem _root_.Go.Boxed.drew {W : World} {B : Nat} {t : TypeId} {v : Value} (h : Boxed W B t v) : Boxed W.drew B t v := h
def fnd (L : List QN) (t : Int) : Option QN := L.find? (fun x => x.t == t)
def ptrO (o : Option QN) : Option Addr := o.map fun x => ⟨x.g, 0, none⟩
theorem QP.node {w : World} {p : Option Addr} {L : List QN} (h : QP w p L) {x : QN} (hx : x ∈ L) :
    ∃ (nn pp : Option Addr), w.heap[x.g]? = some (.cells #[.int .i64 x.t, .int .i64 x.k, .int .i64 x.o, .int .u32 (x.m : Int), .pointer nn, .pointer pp] 160 (0, 0)) := by
  rcases h with ⟨_, rfl⟩ | ⟨Q, h, _, hq⟩
  · cases hx
  · obtain ⟨i, hi⟩ := List.getElem?_of_mem hx
    exact ⟨_, _, hq.node i x hi⟩
theorem map_attach (L : List QN) : L.attach.map (fun x => x.1) = L := by simp
theorem pre_map {L : List QN} {pre : List {x : QN // x ∈ L}} (h : pre <+: L.attach) : pre.map (fun x => x.1) <+: L := by
  have := h.map (fun x => x.1)
  rwa [map_attach] at this
theorem fnd_none {L : List QN} {t : Int} (h : ∀ y, y ∈ L.attach → y.1.t ≠ t) : fnd L t = none := by
  rw [fnd, List.find?_eq_none]
  intro x hx
  have := h ⟨x, hx⟩ (List.mem_attach _ _)
  simpa using this
theorem fnd_pre {L : List QN} {t : Int} {pre : List {x : QN // x ∈ L}} {x : {x : QN // x ∈ L}} (hp : pre ++ [x] <+: L.attach) (h : ∀ y, y ∈ pre → y.1.t ≠ t) (hx : x.1.t = t) : fnd L t = some x.1 := by
  obtain ⟨s, hs⟩ := pre_map hp
  refine (congrArg (fun M => fnd M t) hs).symm.trans ?_
  show List.find? _ _ = _
  rw [List.map_append, List.append_assoc, List.find?_append]
  have : (pre.map (fun x => x.1)).find? (fun x => x.t == t) = none := by
    rw [List.find?_eq_none]
    intro y hy
    obtain ⟨z, hz, rfl⟩ := List.mem_map.1 hy
    simpa using h z hz
  rw [this]
  simp [hx]
set_option maxRecDepth 100000 in
set_option maxHeartbeats 2000000 in
theorem find_any (p : Option Addr) (L : List QN) (task : Int) (w : World) (hQ : QP w p L) :
    Calls Tryz.prog 129 #[.pointer p, .int .i64 task] w fun e W' => e = .returned (.pointer (ptrO (fnd L task))) ∧ Below w.heap.size w W' := by
  have hf : Fence.wide.fn 78 := trivial
  refine (callsIn_wide (n := 9)).1 ?_
  refine callsIn_of_wp_marks Tryz.func129 rfl trivial ?_ rfl
  simp only [Tryz.ntmps129, List.size_toArray, List.length_cons, List.length_nil, Nat.reduceAdd, Nat.reduceSub, Array.replicate_succ, Array.replicate_zero, List.push_toArray, List.append_toArray, List.nil_append, List.cons_append]
  gi_wp2_with (gi_at_call 78; refine (links_in _ _ _).mono ?_; rintro e w' ⟨rfl, rfl⟩)
  have b0 := Boxed.new w 3 (.int .i64 task)
  have b1 := Boxed.new (w.alloc (.cells #[.int .i64 task] 3)) 158 (.pointer none)
  have b2 := Boxed.new ((w.alloc (.cells #[.int .i64 task] 3)).alloc (.cells #[.pointer none] 158)) 96 (.pointer p)
  simp only [World.size_alloc] at b1 b2
  have hB0 : Below w.heap.size w (((w.alloc (.cells #[.int .i64 task] 3)).alloc (.cells #[.pointer none] 158)).alloc (.cells #[.pointer p] 96)) := (((Below.refl _ w).alloc (Nat.le_refl _) _).alloc (by simp) _).alloc (by simp; omega) _
  refine wpIn_rangeFunc_ownG (n := 9) (F := Fence.wide) rfl (by decide) (gf := 128) (lb := #[.pointer (some ⟨w.heap.size + 1 + 1, 0, none⟩)]) rfl trivial (enters_of Tryz.func128 (by kernel_rfl) rfl)
    (links_stops (9 - 1) (by decide) (w.heap.size + 1 + 1) w.heap.size w _ (Nat.le_refl _) (by simp; omega) p L hQ hB0 b2) KQ.t (KQ.b (by simp; omega)) (Below.refl _ _) (fun _ => rfl)
    (fun pre W => ((∀ y, y ∈ pre → y.1.t ≠ task) ∧ Boxed W w.heap.size 3 (.int .i64 task) ∧ Boxed W (w.heap.size + 1) 158 (.pointer none)) ∧ Below w.heap.size w W)
    (fun c pre W => (c = .ret ∧ ∃ (p0 : List {x : QN // x ∈ L}) (x : {x : QN // x ∈ L}), pre = p0 ++ [x] ∧ (∀ y, y ∈ p0 → y.1.t ≠ task) ∧ x.1.t = task ∧ Boxed W (w.heap.size + 1) 158 (.pointer (some ⟨x.1.g, 0, none⟩))) ∧ Below w.heap.size w W)
    (OwnFrom.and (OwnFrom.and (ownFrom_pure _ _) (OwnFrom.and (Own.from (boxed_own _ _ _) _) (Own.from (boxed_own _ _ _) _))) (ownFrom_below (Nat.le_refl _) (by simp; omega)))
    (fun c => OwnFrom.and (Own.from (fun s A B row hs hg hr => by
      obtain ⟨h0, p0, x, h1, h2, h3, h4⟩ := hs
      exact ⟨h0, p0, x, h1, h2, h3, boxed_own (β := Unit) _ _ (fun _ => .pointer (some ⟨x.1.g, 0, none⟩)) () A B row h4 hg hr⟩) _) (ownFrom_below (Nat.le_refl _) (by simp; omega)))
    ⟨⟨fun y hy => (by cases hy), (b0.alloc _).alloc _, b1.alloc _⟩, hB0⟩
    (fun x => { tmps := #[.pointer p, .int .i64 task, undef, .pointer (some ⟨w.heap.size, 0, none⟩), .pointer (some ⟨w.heap.size + 1, 0, none⟩), .pointer (some ⟨x.1.g, 0, none⟩), .pointer p, .func (.func 128) #[] #[.pointer (some ⟨w.heap.size + 1 + 1, 0, none⟩)], .pointer (some ⟨x.1.g, 0, none⟩), undef, undef, undef, undef, undef, undef, undef, undef], defers := [] }) ?assign ?body ?done ?stop
  case assign =>
    intro l x W K hK
    gi_wp2
    exact hK
  case body =>
    rintro l pre x W ⟨⟨hne, hb0, hb1⟩, hB⟩ _
    obtain ⟨nn, pp, hnd⟩ := (hQ.below (Nat.le_refl _) hB).node x.2
    have c0 := hb0.cell
    have c1 := hb1.cell
    have f1 := hb1.frozen
    have l1 := hb1.lt
    have c2 : W.cell? ⟨x.1.g, 0, none⟩ = some (.int .i64 x.1.t) := cell_of hnd 0
    have lx := lt_of hnd
    have hmx : Tryz.prog.follows .mixedOrders = true := by kernel_rfl
    have hB' := Lib.hid hB
    gi_wp2
    gi_region_o
    all_goals gi_wp2
    all_goals (try go_bits)
    all_goals first
      | (have hx : x.1.t = task := by simpa using ‹(x.1.t == task) = true›
         exact ⟨((KeepsOthers.setCell _ _ _).trans (KeepsOthers.drew _)).from _, ⟨rfl, pre, x, rfl, hne, hx, (hb1.set _).drew⟩, (hB.setCell (p := ⟨w.heap.size + 1, 0, none⟩) (by simp) _).drew⟩)
      | (have hx : x.1.t ≠ task := by simpa using ‹(x.1.t == task) = false›
         exact ⟨(KeepsOthers.drew _).from _, ⟨(Below.refl _ _).drew, fun v hv => hv.drew⟩, ⟨fun y hy => (List.mem_append.1 hy).elim (hne y) (fun e => by simp at e; subst e; exact hx), hb0.drew, hb1.drew⟩, hB.drew⟩)
  case done =>
    rintro D ys W hD rfl ⟨⟨hne, hb0, hb1⟩, hB⟩ hK
    have c1 := hb1.cell
    have f1 := hb1.frozen
    gi_wp2
    have hK' := (KeepsOthers.setCell W ⟨w.heap.size + 1, 0, none⟩ (.pointer none)).same D _ hK rfl
    refine ⟨by simp, .inl ⟨_, _, rfl, run_takeDeferred hK', ?_⟩⟩
    have hc5 := ((hb1.set (.pointer none)).kept (grownBy_putObj' _ D (.deferred none)) (fun e => by
      cases e
      have := hb1.set (.pointer none)
      rw [show _ = _ from this] at hK'
      cases hK')).cell
    refine ⟨.pointer none, ?_, by rw [fnd_none hne]; rfl, (hB.setCell (p := ⟨w.heap.size + 1, 0, none⟩) (by simp) _).trans (belowK_b (w := w) (Nat.le_refl _) _ D _ _ (by simp at hD; omega) hK' rfl rfl)⟩
    simp [results, Tryz.results129, go_sem, hc5]
  case stop =>
    rintro D c pre W hD hpre ⟨⟨rfl, p0, x, rfl, hne, hx, hb1⟩, hB⟩ hK
    have c1 := hb1.cell
    gi_wp2
    refine ⟨by simp, .inl ⟨_, _, rfl, run_takeDeferred hK, ?_⟩⟩
    have hc5 := (hb1.kept (grownBy_putObj' _ D (.deferred none)) (fun e => by
      cases e
      rw [show _ = _ from hb1] at hK
      cases hK)).cell
    refine ⟨.pointer (some ⟨x.1.g, 0, none⟩), ?_, by rw [fnd_pre hpre hne hx]; rfl, hB.trans (belowK_b (w := w) (Nat.le_refl _) W D _ _ (by simp at hD; omega) hK rfl rfl)⟩
    simp [results, Tryz.results129, go_sem, hc5]
end Go.Proofs.YthnmlklgbggmbaaGreat
namespace Go
def appRun (P : Program) (ats : Array TypeId) (ty : TypeId) (args : Array Value) (w : World) := (Builtin.append_ ats ty args).run P w
def appB (ats : Array TypeId) (ty : TypeId) (cs : Array Bool) (args : Array Value) := builtin .append ats ty cs args
theorem app_pre (ats : Array TypeId) (ty : TypeId) (cs : Array Bool) (args : Array Value) : builtin .append ats ty cs args = appB ats ty cs args := rfl
theorem app_run (P : Program) (ats : Array TypeId) (ty : TypeId) (cs : Array Bool) (args : Array Value) (w : World) : Sem.run P (appB ats ty cs args) w = (appRun P ats ty args w).andThen fun v w' => .ok (Next.value v) w' := by
  unfold appB appRun
  simp only [BigFrame.builtin_append, Sem.run_bind, Sem.run_pure]
end Go
namespace Go.Proofs.YthnmlklgbggmbaaGreat
open Go.RowKit Go.Shelf
set_option linter.unusedVariables false
attribute [local go_sem] Oper.semAt_some
attribute [local go_sem ↓ 2000] app_pre
attribute [local go_sem] app_run
def flatN (L : List QN) : List Value := L.flatMap QN.cells
theorem flatN_snoc (L : List QN) (x : QN) : flatN (L ++ [x]) = flatN L ++ x.cells := by simp [flatN]
theorem cell_four_new (w : World) (x : QN) (t : TypeId) : ∀ j u, x.cells[j]? = some u → (w.alloc (.cells x.cells.toArray t)).cell? ((⟨w.heap.size, 0, none⟩ : Addr).add j) = some u := by
  intro j u hj
  have e : ((⟨w.heap.size, 0, none⟩ : Addr).add j) = ⟨w.heap.size, j, none⟩ := by
    simp only [Addr.add]
    by_cases h : j = 0 <;> simp [h]
  rw [e, cell_of (heap_new w _) j]
  simpa using hj
theorem x_one (x : QN) : ∀ u ∈ x.cells, u.oneCell' = true := by
  intro u hu
  simp [QN.cells] at hu
  rcases hu with rfl | rfl | rfl | rfl <;> rfl
theorem info_wait : (Tryz.prog.info? 88).map (fun i => (i.zero, i.size, i.bytes)) = some (some (.agg #[.int .i64 0, .int .i64 0, .int .i64 0, .int .u32 0]), 4, 32) := by kernel_rfl
theorem app_wait {W : World} {n₀ B : Nat} {v : Value} {M : List QN} (x : QN) (hv : Boxed W B 55 v) (hrow : W.ownsRow n₀ 88 4 v M.length (flatN M)) (hn₀ : n₀ ≤ W.heap.size) (hB : n₀ ≤ B) (hm : M.length < 1000000) :
    ∃ g cap w1, appRun Tryz.prog #[55, 55] 55 #[v, .slice (some ⟨W.heap.size, 0, none⟩) 1 1] (W.alloc (.cells #[.int .i64 x.t, .int .i64 x.k, .int .i64 x.o, .int .u32 (x.m : Int)] 88)).drew = .ok (.slice (some ⟨g, 0, none⟩) (M.length + 1) cap) w1 ∧
      Boxed w1 B 55 v ∧ Boxed (w1.setCell ⟨B, 0, none⟩ (.slice (some ⟨g, 0, none⟩) (M.length + 1) cap)) B 55 (.slice (some ⟨g, 0, none⟩) (M.length + 1) cap) ∧
      (w1.setCell ⟨B, 0, none⟩ (.slice (some ⟨g, 0, none⟩) (M.length + 1) cap)).ownsRow n₀ 88 4 (.slice (some ⟨g, 0, none⟩) (M.length + 1) cap) (M ++ [x]).length (flatN (M ++ [x])) ∧
      KeepsOthers W (w1.setCell ⟨B, 0, none⟩ (.slice (some ⟨g, 0, none⟩) (M.length + 1) cap)) ∧ Below n₀ W (w1.setCell ⟨B, 0, none⟩ (.slice (some ⟨g, 0, none⟩) (M.length + 1) cap)) ∧
      ∀ (k : Nat) (t : TypeId) (u : Value), k ≠ B → t ≠ 88 → Boxed W k t u → Boxed (w1.setCell ⟨B, 0, none⟩ (.slice (some ⟨g, 0, none⟩) (M.length + 1) cap)) k t u := by
  obtain ⟨i0, hi, hz0, hz1, hz2⟩ := info_parts info_wait
  have hrd : W.drew.ownsRow n₀ 88 4 v M.length (flatN M) := hrow
  obtain ⟨v', w1, hrun, hown, hgrow, _⟩ := run_append_own (P := Tryz.prog) (W.drew.alloc (.cells x.cells.toArray 88)) n₀ 55 55 88 i0 _ 4 32 Tryz.underlying55 hi hz0 hz1 hz2 rfl (by decide) v M.length (flatN M) (hrd.alloc _) ⟨W.drew.heap.size, 0, none⟩ 1 1 x.cells rfl (cell_four_new W.drew x _) (x_one x) (by unfold maxLen; omega) (by omega) (by rw [World.size_alloc]; exact Nat.le_succ_of_le hn₀)
  obtain ⟨g, cap, rfl⟩ := ownsRow_succ hown
  obtain ⟨h1, h2, h3, h4, h5⟩ := (show Boxed W.drew B 55 v from hv).appended (by decide) hrd hn₀ hB hown hgrow
  refine ⟨g, cap, w1, hrun, h1, h2, by rw [flatN_snoc, List.length_append]; exact h3, (KeepsOthers.drew W).trans h4, (Below.refl n₀ W).drew.trans h5, fun k t u hk ht hu => ?_⟩
  have a1 : Boxed w1 k t u := ((show Boxed W.drew k t u from hu).alloc _).kept hgrow ((show Boxed W.drew k t u from hu).not_row ht hrd)
  exact heap_other a1 hk _
set_option maxRecDepth 100000 in
set_option maxHeartbeats 2000000 in
theorem List_any (p : Option Addr) (L : List QN) (w : World) (hQ : QP w p L) (hlen : L.length < 1000000) :
    Calls Tryz.prog 54 #[.pointer p] w fun e W' => ∃ v, e = .returned v ∧ W'.ownsRow w.heap.size 88 4 v L.length (flatN L) ∧ Below w.heap.size w W' := by
  have hf : Fence.wide.fn 78 := trivial
  refine (callsIn_wide (n := 9)).1 ?_
  refine callsIn_of_wp_marks Tryz.func54 rfl trivial ?_ rfl
  simp only [Tryz.ntmps54, List.size_toArray, List.length_cons, List.length_nil, Nat.reduceAdd, Nat.reduceSub, Array.replicate_succ, Array.replicate_zero, List.push_toArray, List.append_toArray, List.nil_append, List.cons_append]
  gi_wp2_with (gi_at_call 78; refine (links_in _ _ _).mono ?_; rintro e w' ⟨rfl, rfl⟩)
  have b0 := Boxed.new w 55 (.slice none 0 0)
  have b2 := Boxed.new (w.alloc (.cells #[.slice none 0 0] 55)) 96 (.pointer p)
  simp only [World.size_alloc] at b2
  have hB0 : Below w.heap.size w ((w.alloc (.cells #[.slice none 0 0] 55)).alloc (.cells #[.pointer p] 96)) := ((Below.refl _ w).alloc (Nat.le_refl _) _).alloc (by simp) _
  refine wpIn_rangeFunc_ownG (n := 9) (F := Fence.wide) rfl (by decide) (gf := 128) (lb := #[.pointer (some ⟨w.heap.size + 1, 0, none⟩)]) rfl trivial (enters_of Tryz.func128 (by kernel_rfl) rfl)
    (links_stops (9 - 1) (by decide) (w.heap.size + 1) w.heap.size w _ (Nat.le_refl _) (by simp; omega) p L hQ hB0 b2) KQ.t (KQ.b (by simp; omega)) (Below.refl _ _) (fun _ => rfl)
    (fun pre W => (∃ v, Boxed W w.heap.size 55 v ∧ W.ownsRow w.heap.size 88 4 v (pre.map (fun x => x.1)).length (flatN (pre.map (fun x => x.1))) ∧ True) ∧ Below w.heap.size w W)
    (fun _ _ _ => False)
    (OwnFrom.and (Own.from (holdsRow_own w.heap.size w.heap.size 55 88 4 (fun pre : List {x : QN // x ∈ L} => (pre.map (fun x => x.1)).length) (fun pre => flatN (pre.map (fun x => x.1))) (fun _ _ => True)) _) (ownFrom_below (Nat.le_refl _) (by simp; omega)))
    (fun _ _ _ _ _ hs _ _ => hs)
    ⟨⟨_, b0.alloc _, World.ownsRow_nil _ _ _ _, trivial⟩, hB0⟩
    (fun x => { tmps := #[.pointer p, undef, .slice none 0 0, .pointer (some ⟨w.heap.size, 0, none⟩), .pointer (some ⟨x.1.g, 0, none⟩), .pointer p, .func (.func 128) #[] #[.pointer (some ⟨w.heap.size + 1, 0, none⟩)], .pointer (some ⟨x.1.g, 0, none⟩), undef, undef, undef, undef, undef, undef, undef, undef], defers := [] }) ?assign ?body ?done ?stop
  case assign =>
    intro l x W K hK
    gi_wp2
    exact hK
  case body =>
    rintro l pre x W ⟨⟨v, hv, hrow, _⟩, hB⟩ hpl
    obtain ⟨nn, pp, hnd⟩ := (hQ.below (Nat.le_refl _) hB).node x.2
    have hml : (pre.map (fun x => x.1)).length < 1000000 := by simp at hpl ⊢; omega
    obtain ⟨g, cap, w1, hrun, h1, h2, h3, h4, h5, h6⟩ := app_wait x.1 hv hrow hB.size (Nat.le_refl _) hml
    have c0 := hv.cell
    have l0 := hv.lt
    have c0a := (hv.alloc (.cells #[.int .i64 x.1.t, .int .i64 x.1.k, .int .i64 x.1.o, .int .u32 (x.1.m : Int)] 88)).cell
    have c1 := h1.cell
    have f1 := h1.frozen
    have l1 := h1.lt
    have x0 : W.cell? ⟨x.1.g, 0, none⟩ = some (.int .i64 x.1.t) := cell_of hnd 0
    have x1 : W.cell? ⟨x.1.g, 1, none⟩ = some (.int .i64 x.1.k) := cell_of hnd 1
    have x2 : W.cell? ⟨x.1.g, 2, none⟩ = some (.int .i64 x.1.o) := cell_of hnd 2
    have x3 : W.cell? ⟨x.1.g, 3, none⟩ = some (.int .u32 (x.1.m : Int)) := cell_of hnd 3
    have lx := lt_of hnd
    have hmx : Tryz.prog.follows .mixedOrders = true := by kernel_rfl
    simp only [List.length_map] at h2 h3 h4 h5 h6
    have HB := Lib.hid (And.intro hB (And.intro h2 (And.intro h3 (And.intro h4 (And.intro h5 h6)))))
    clear hB h2 h3 h4 h5 h6 hv hrow h1 hnd hpl hml
    gi_wp2
    gi_region_o
    all_goals gi_wp2
    all_goals (try go_bits)
    all_goals
      obtain ⟨hB, h2, h3, h4, h5, h6⟩ := HB.out
      exact ⟨h4.from _, ⟨h5, fun u hu => h6 _ _ u (by omega) (by decide) hu⟩, ⟨_, h2, by rw [List.map_append]; exact h3, trivial⟩, hB.trans h5⟩
  case done =>
    rintro D ys W hD rfl ⟨⟨v, hv, hrow, _⟩, hB⟩ hK
    have hc := hv.cell
    gi_wp2
    refine ⟨by simp, .inl ⟨_, _, rfl, run_takeDeferred hK, ?_⟩⟩
    rw [map_attach] at hrow
    exact ⟨_, results_tmp rfl _ _ _, v, rfl, ownsRow_putObj hrow _ hK rfl, hB.trans (belowK_b (w := w) (Nat.le_refl _) W D _ _ (by simp at hD; omega) hK rfl rfl)⟩
  case stop =>
    rintro D c pre W _ _ h _
    exact h.elim
end Go.Proofs.YthnmlklgbggmbaaGreat
namespace Go.Proofs.YthnmlklgbggmbaaGreat
open Go.RowKit
set_option linter.unusedVariables false
def eqW (a b c d a' b' c' d' : Int) : Bool := decide (a = a' ∧ b = b' ∧ c = c' ∧ d = d')
theorem eqw (a b c d a' b' c' d' : Int) (w : World) : (Op.equalIn 10000 88 (.agg #[.int .i64 a, .int .i64 b, .int .i64 c, .int .u32 d]) (.agg #[.int .i64 a', .int .i64 b', .int .i64 c', .int .u32 d'])).run Tryz.prog w = .ok (eqW a b c d a' b' c' d') w := by
  have u3 := Tryz.underlying3
  have u4 := Tryz.underlying38
  have a3 := Tryz.isAgg3
  have a4 := Tryz.isAgg38
  have z3 := Tryz.sizeOf3
  have z4 := Tryz.sizeOf38
  have hS : Tryz.prog.underlying 88 = some (.struct (Tryz.prog.fieldsOf 88)) := by kernel_rfl
  have hp : Tryz.prog.stoodInHeld 88 = false := by kernel_rfl
  rw [show (10000 : Nat) = 9999 + 1 from rfl, run_equalIn_agg w 9999 88 _ _ hS hp]
  simp only [Program.fieldsOf, Tryz.underlying88]
  go_simp
  simp only [eqW]
  by_cases h1 : a = a' <;> by_cases h2 : b = b' <;> by_cases h3 : c = c' <;> by_cases h4 : d = d' <;> simp [h1, h2, h3, h4]
def QN.wait (x : QN) : Int × Int × Int × Nat := (x.t, x.k, x.o, x.m)
end Go.Proofs.YthnmlklgbggmbaaGreat
namespace Go.Proofs.YthnmlklgbggmbaaGreat
open Go.RowKit Go.Shelf
set_option linter.unusedVariables false
attribute [local go_sem] Oper.semAt_some
attribute [local go_sem ↓ 2000] eqw
theorem cells_own {β : Type} (B : Nat) (cs : Array Value) (t : TypeId) : Own (fun (_ : β) W => W.heap[B]? = some (.cells cs t (0, 0))) := fun s X Y row hs hg hrow => by
  refine (hg.block B (lt_of hs) (fun e => ?_)).trans hs
  obtain ⟨o, ho, hc⟩ := hrow B e.symm
  rw [hs] at ho; cases ho; cases hc
end Go.Proofs.YthnmlklgbggmbaaGreat
