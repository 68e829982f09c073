import Derived.Test.YtilbendneahikaaNumF
import Derived.RangeFuncNested
import Derived.RangeFuncBound
import Derived.RangeFuncCalls
import Derived.RangeFuncLeaves
import Derived.RangeFuncBox
import Derived.Shelf.Abstract
import Derived.Shelf.RegionOpen
import Derived.OwnWalkIn
import Derived.TacticsInMore
import Derived.LoopNIn
import Derived.LoopIn
namespace Go.Proofs.Ytilbendneahikaa
open Go.RowKit Go.Shelf
set_option linter.unusedVariables false
attribute [local go_sem] Oper.semAt_some
/-- The pieces of a text r between the places where ix finds the separator. -/
def Cuts (sep : List UInt8) (ix : List UInt8 → Int) : List (List UInt8) → List UInt8 → Prop
  | [], _ => False
  | [p], r => p = r ∧ ix r = -1
  | p :: q :: ps, r => ∃ r', r = p ++ (sep ++ r') ∧ ix r = (p.length : Int) ∧ Cuts sep ix (q :: ps) r'
def strLen : Value → Nat
  | .string s => s.size
  | _ => 0
theorem str_take (w : World) (p t : List UInt8) :
    (Instr.slice 9 (.string ⟨(p ++ t).toArray⟩) none (some (.int .i64 (p.length : Int))) none).run Try.prog w = .ok (.string ⟨p.toArray⟩) w := by
  rw [run_slice_string_to_if w 9 _ .i64 _ (by kernel_rfl), if_pos ⟨by omega, by rw [str_size, List.length_append]; omega⟩, ByteArray.extract_mk]
  congr 4
  simp
theorem str_drop (w : World) (p s t : List UInt8) :
    (Instr.slice 9 (.string ⟨(p ++ (s ++ t)).toArray⟩) (some (.int .i64 ((p.length : Int) + (s.length : Int)))) none none).run Try.prog w = .ok (.string ⟨t.toArray⟩) w := by
  rw [run_slice_string_from_if w 9 _ .i64 _ (by kernel_rfl), if_pos ⟨by omega, by rw [str_size, List.length_append, List.length_append]; omega⟩, ByteArray.extract_mk, str_size]
  congr 4
  rw [show ((p.length : Int) + (s.length : Int)).toNat = (p ++ s).length by rw [List.length_append]; omega, ← List.append_assoc, List.drop_left, List.take_of_length_le]
  simp only [List.length_append]
  omega
/-- What a round of a walk through the parts must keep: what lay below, and the box of the separator. -/
def KS (n₀ Bn : Nat) (W W' : World) : Prop := Below n₀ W W' ∧ ∀ v, Boxed W Bn 9 v → Boxed W' Bn 9 v
theorem KS.t {n₀ Bn : Nat} {A B C : World} (h : KS n₀ Bn A B) (k : KS n₀ Bn B C) : KS n₀ Bn A C := ⟨h.1.trans k.1, fun v hv => k.2 v (h.2 v hv)⟩
theorem KS.refl {n₀ Bn : Nat} (A : World) : KS n₀ Bn A A := ⟨Below.refl _ _, fun v hv => hv⟩
theorem KS.b {n₀ Bn : Nat} {w : World} (hn : n₀ ≤ w.heap.size) (W : World) (l : Nat) (o o' : Obj) (hl : w.heap.size ≤ l) (h : W.heap[l]? = some o) (hc : o.isCells = false) (hw : o.isWalk = false) : KS n₀ Bn W (W.putObj l o') :=
  ⟨belowK_b hn W l o o' hl h hc hw, fun v hv => hv.kept (grownBy_putObj' W l o') (fun e => by cases e; rw [show W.heap[Bn]? = _ from hv] at h; cases h; cases hc)⟩
set_option maxRecDepth 100000 in
set_option maxHeartbeats 1000000 in
/-- **parts' closure.** -/
theorem parts1_in (n : Nat) (hn : 1 ≤ n) (l Bs Bn n₀ : Nat) (s sep : List UInt8) (ix : List UInt8 → Int) (M : Nat) (hM : M ≤ 1000000) (hsep : 0 < sep.length) (hsM : s.length ≤ M) (hbM : sep.length ≤ M)
    (Q : World → Prop) (hQ : ∀ A B, Below n₀ A B → Q A → Q B) (hIx : ∀ (r : List UInt8) (W : World), Q W → r.length ≤ M → Calls Try.prog 37 #[.string ⟨r.toArray⟩, .string ⟨sep.toArray⟩] W fun e W' => e = .returned (.int .i64 (ix r)) ∧ W' = W)
    (L : List (List UInt8)) (hL : Cuts sep ix L s) (J Jx : List {x : List UInt8 // x ∈ L} → World → Prop)
    (hY : ∀ pre x W, J pre W → pre.length < L.attach.length → YieldAt Fence.wide (n - 1) Try.prog l #[.string ⟨x.1.toArray⟩] W fun e W' =>
      (e = .returned (.bool true) ∧ J (pre ++ [x]) W' ∧ KS n₀ Bn W W') ∨ (e = .returned (.bool false) ∧ Jx (pre ++ [x]) W'))
    (W : World) (hBs : Boxed W Bs 9 (.string ⟨s.toArray⟩)) (hBn : Boxed W Bn 9 (.string ⟨sep.toArray⟩)) (hQ0 : Q W) (h0 : J [] W) :
    CallsIn Fence.wide n Try.prog 36 #[.func (.yield l) #[] #[], .pointer (some ⟨Bs, 0, none⟩), .pointer (some ⟨Bn, 0, none⟩)] W fun e W' => (∃ v, e = .returned v) ∧
      ((∃ ys, ys = L.attach ∧ J ys W') ∨ (∃ pre, pre <+: L.attach ∧ Jx pre W')) := by
  have c0 := hBs.cell
  have l0 := hBs.lt
  have HL := Lib.hid hL
  have HIX := Lib.hid (fun (r : List UInt8) (wr : World) (hK : KS n₀ Bn W wr) (hr : r.length ≤ M) => hIx r wr (hQ _ _ hK.1 hQ0) hr)
  have HB := Lib.hid hBn
  have hf : Fence.wide.fn 37 := trivial
  clear hL hQ hQ0 hIx
  refine callsIn_of_wp Try.func36 rfl trivial ?_ rfl
  simp only [Try.ntmps36, List.size_toArray, List.length_cons, List.length_nil, Nat.reduceAdd, Nat.reduceSub, Array.replicate_succ, Array.replicate_zero, List.push_toArray, List.append_toArray, List.nil_append, List.cons_append]
  gi_wp2
  gi_loopw [4] (fun v4 wr => ∃ (pre ps : List {x : List UInt8 // x ∈ L}) (r : List UInt8), v4 = .string ⟨r.toArray⟩ ∧ L.attach = pre ++ ps ∧ Cuts sep ix (ps.map (fun x => x.1)) r ∧ r.length ≤ M ∧ J pre wr ∧ KS n₀ Bn W wr) (fun v4 _ => strLen v4)
  case atStart => exact ⟨[], L.attach, s, rfl, rfl, by rw [show L.attach.map (fun x => x.1) = L by simp]; exact HL.out, hsM, h0, KS.refl _⟩
  case round =>
    obtain ⟨pre, ps, r, rfl, hps, hcut, hrM, hJ, hK⟩ := hrel
    rename_i wr
    have hB2 := hK.2 _ HB.out
    have c1 := hB2.cell
    have l1 := hB2.lt
    have HI := Lib.hid (HIX.out r wr hK hrM)
    have HK := Lib.hid hK
    match ps, hps, hcut with
    | [], _, h => exact h.elim
    | [⟨p, hpm⟩], hps, hcut =>
      obtain ⟨hp, hi⟩ : p = r ∧ ix r = -1 := hcut
      subst hp
      rw [hi] at HI
      obtain ⟨fn, tmps, assign, body, hy, hR⟩ := hY pre ⟨p, hpm⟩ wr hJ (by rw [hps]; simp)
      try dsimp only at hy
      have HPS := Lib.hid hps
      clear hJ hK hps hi
      generalize (⟨p.toArray⟩ : ByteArray) = B at HI hy hR ⊢
      gi_wp2_with (gi_at_call 37; refine (callsIn_wide.2 HI.out).mono ?_; rintro e w' ⟨rfl, rfl⟩)
      refine hR.mono ?_
      rintro e W3 (⟨rfl, hJ3, hk3⟩ | ⟨rfl, hJx3⟩)
      · gi_wp2
        exact bodyPost_ret (results_none rfl _ _ _) rfl ⟨⟨_, rfl⟩, .inl ⟨_, HPS.out.symm, hJ3⟩⟩
      · gi_wp2
        exact bodyPost_ret (results_none rfl _ _ _) rfl ⟨⟨_, rfl⟩, .inr ⟨_, by rw [HPS.out]; exact ⟨[], by simp⟩, hJx3⟩⟩
    | ⟨p, hpm⟩ :: q :: ps, hps, hcut =>
      obtain ⟨r', hr, hi, hc⟩ : ∃ r', r = p ++ (sep ++ r') ∧ ix r = (p.length : Int) ∧ Cuts sep ix ((q :: ps).map (fun x : {x : List UInt8 // x ∈ L} => x.1)) r' := hcut
      subst hr
      rw [hi] at HI
      obtain ⟨fn, tmps, assign, body, hy, hR⟩ := hY pre ⟨p, hpm⟩ wr hJ (by rw [hps]; simp)
      try dsimp only at hy
      have hlen : p.length + (sep.length + r'.length) ≤ M := by simpa using hrM
      have hps2 : L.attach = (pre ++ [⟨p, hpm⟩]) ++ (q :: ps) := by rw [hps, List.append_assoc]; rfl
      have HPS := Lib.hid (And.intro hps (And.intro hps2 hc))
      have h1 := fun w => str_take w p (sep ++ r')
      have h2 := fun w => str_drop w p sep r'
      have hBz := str_size (p ++ (sep ++ r'))
      have hBz2 : (p ++ (sep ++ r')).length = p.length + (sep.length + r'.length) := by simp
      rw [hBz2] at hBz
      have hSz := str_size sep
      clear hJ hK hps hi hrM hps2 hc hBz2
      generalize hB0 : (⟨(p ++ (sep ++ r')).toArray⟩ : ByteArray) = B at HI h1 h2 hBz ⊢
      generalize (⟨p.toArray⟩ : ByteArray) = X at hy h1
      have hlt : r'.length < B.size := by omega
      gi_wp2_with (gi_at_call 37; refine (callsIn_wide.2 HI.out).mono ?_; rintro e w' ⟨rfl, rfl⟩)
      refine hR.mono ?_
      rintro e W3 (⟨rfl, hJ3, hk3⟩ | ⟨rfl, hJx3⟩)
      · have hK3 := HK.out.t hk3
        have hB3 := hK3.2 _ HB.out
        have c3 := hB3.cell
        have l3 := hB3.lt
        have HK3 := Lib.hid hK3
        have HJ3 := Lib.hid hJ3
        clear hK3 hB3 hJ3 hk3
        gi_wp2
        go_roundw
        case rel => exact ⟨pre ++ [⟨p, hpm⟩], q :: ps, r', rfl, HPS.out.2.1, HPS.out.2.2, by omega, HJ3.out, HK3.out⟩
        case measure => show (ByteArray.mk r'.toArray).size < _; rw [str_size]; exact hlt
      · gi_wp2
        exact bodyPost_ret (results_none rfl _ _ _) rfl ⟨⟨_, rfl⟩, .inr ⟨_, by rw [HPS.out.1]; exact ⟨q :: ps, by rw [List.append_assoc]; rfl⟩, hJx3⟩⟩
end Go.Proofs.Ytilbendneahikaa
