import Derived.Test.YtlpnobpgphmngabDoorGateN
import Derived.Test.YtlpnobpgphmngabDoorPendCount
namespace Go.Proofs.YtlpnobpgphmngabDoor
open Go.ChangeShapes Go.WideShapes Go.ChangeAt Go.RowKit
set_option linter.unusedVariables false
theorem tab_keeps {S : Nat → Prop} {g : Nat} {tab : List Nat} {w w' : World} (h : TabAt g tab w) (hg : g < w.heap.size) (hk : Keeps S w w') (hs : ¬ S g) : TabAt g tab w' := fun j hj => (World.cell?_of_block (w := w) (hk.block g hg hs)).trans (h j hj)
theorem gcount (b : Nat) (s : GS) (w : World) (h : IsGate w b s) (g : Good s) (hT : TabAt 0 Lib.deBruijn32tab w) (hg : 0 < w.heap.size) :
    Calls Tryd.prog 25 #[.pointer (some ⟨b, 0, none⟩)] w fun e w' => e = .returned (.tuple #[.int .i64 ((s.t + popc s.x : Nat) : Int), .int .i64 (s.m : Int), .int .i64 (s.en : Int)]) ∧ Keeps (fun _ => False) w w' := by
  have HC := Lib.hid (pcount b s.x s.t s.m w g.x g.t h.lt h.c0 h.c1 h.c2 hT hg)
  have H := Lib.hid h
  clear hT hg h
  go_enter Tryd.func25, Tryd.ntmps25
  go_wp2_with fail
  refine HC.out.mono ?_
  rintro e w1 ⟨rfl, k1⟩
  have h1 := H.out.none k1
  have c38 := h1.c38
  have lb := h1.lt
  have K1 := Lib.hid k1
  clear k1 h1
  go_wp2_with fail
  go_quiet (fail)
  go_wp2
  refine bodyPost_ret (v := .tuple #[.int .i64 ((s.t + popc s.x : Nat) : Int), .int .i64 (s.m : Int), .int .i64 (s.en : Int)]) (by simp [results, Tryd.results25, go_sem]) rfl ⟨rfl, K1.out.drewN _⟩
set_option maxRecDepth 20000 in
theorem nnext (w : World) : Calls Tryd.prog 24 #[.pointer none] w fun e w' => e = .returned (.tuple #[.int .i64 (-1), .bool false]) ∧ w = w' := by
  go_enter Tryd.func24, Tryd.ntmps24
  go_wp2_with fail
  go_step3
  go_wp2
  try rw [Exit.noGoto_ret]
  exact bodyPost_ret (v := .tuple #[.int .i64 (-1), .bool false]) (by simp [results, Tryd.results24, go_sem]) rfl ⟨rfl, rfl⟩
theorem nleave (w : World) : Calls Tryd.prog 21 #[.pointer none] w fun e w' => e = .returned (.tuple #[.int .i64 0, .bool false]) ∧ w = w' := by
  go_enter Tryd.func21, Tryd.ntmps21
  go_wp2
  exact bodyPost_ret (v := .tuple #[.int .i64 0, .bool false]) (by simp [results, Tryd.results21, go_sem]) rfl ⟨rfl, rfl⟩
theorem ncount (w : World) : Calls Tryd.prog 25 #[.pointer none] w fun e w' => e = .returned (.tuple #[.int .i64 0, .int .i64 0, .int .i64 0]) ∧ w = w' := by
  go_enter Tryd.func25, Tryd.ntmps25
  go_wp2
  exact bodyPost_ret (v := .tuple #[.int .i64 0, .int .i64 0, .int .i64 0]) (by simp [results, Tryd.results25, go_sem]) rfl ⟨rfl, rfl⟩
theorem nraise (k : Int) (w : World) : Calls Tryd.prog 20 #[.pointer none, .int .i64 k] w fun e w' => e = .returned (.bool false) ∧ w = w' := by
  go_enter Tryd.func20, Tryd.ntmps20
  go_wp2
  go_ret
  exact ⟨rfl, rfl⟩
theorem nlevel (w : World) : Calls Tryd.prog 23 #[.pointer none] w fun e w' => e = .returned (.int .i64 (-1)) ∧ w = w' := by
  go_enter Tryd.func23, Tryd.ntmps23
  go_wp2
  go_ret
  exact ⟨rfl, rfl⟩
theorem npending (w : World) : Calls Tryd.prog 22 #[.pointer none] w fun e w' => e = .returned (.int .u32 0) ∧ w = w' := by
  go_enter Tryd.func22, Tryd.ntmps22
  go_wp2
  go_ret
  exact ⟨rfl, rfl⟩
theorem nserved (w : World) : Calls Tryd.prog 27 #[.pointer none] w fun e w' => e = .returned (.slice none 0 0) ∧ w = w' := by
  go_enter Tryd.func27, Tryd.ntmps27
  go_wp2
  go_ret
  exact ⟨rfl, rfl⟩
theorem nlevels (w : World) : Calls Tryd.prog 28 #[.pointer none] w fun e w' => e = .returned (.int .i64 0) ∧ w = w' := by
  go_enter Tryd.func28, Tryd.ntmps28
  go_wp2
  go_ret
  exact ⟨rfl, rfl⟩
/-- Block b, made since w, is a gate. -/
structure GateAt (w wr : World) (b : Nat) (s : GS) : Prop where
  is : IsGate wr b s
  below : Below w.heap.size w wr
  new : w.heap.size ≤ b
  good : Good s
theorem GateAt.step {w w1 w2 : World} {b : Nat} {s s' : GS} (h : GateAt w w1 b s) (hi : IsGate w2 b s') (hk : Keeps (fun k => k = b) w1 w2) (g : Good s') : GateAt w w2 b s' :=
  ⟨hi, h.below.trans (hk.below h.below.size fun k _ e => by have := h.new; omega), h.new, g⟩
theorem GateAt.same {w w1 w2 : World} {b : Nat} {s : GS} (h : GateAt w w1 b s) (hi : IsGate w2 b s) (hk : Keeps (fun _ => False) w1 w2) : GateAt w w2 b s := h.step hi (hk.mono fun _ _ h => h.elim) h.good
theorem GateAt.drewN {w w1 : World} {b : Nat} {s : GS} (h : GateAt w w1 b s) (n : Nat) : GateAt w (w1.drewN n) b s := h.same (h.is.drewN n) ((Keeps.refl _ _).drewN n)
theorem good_raise {s : GS} (g : Good s) {k : Nat} (hk : k ≤ s.mo) : Good { s with x := setB s.x k } :=
  ⟨setB_lt g.x _, g.mo, fun j hj => by
    show (setB s.x k).testBit j = false
    rw [setB_testBit, g.up j hj]
    have : s.mo < j := hj
    have : ¬ (j : Int) = (k : Int) := by omega
    simp [this], g.rises, g.t, g.m, g.en⟩
theorem good_merge {s : GS} (g : Good s) (hm : s.m + 1 < 4611686018427387904) : Good { s with m := s.m + 1 } := ⟨g.x, g.mo, g.up, g.rises, g.t, hm, g.en⟩
theorem good_leave {s : GS} (g : Good s) {d : Nat} (hd : s.d = d + 1) : Good { s with d := d } := ⟨g.x, g.mo, g.up, rises_leave (by rw [← hd]; exact g.rises), g.t, g.m, g.en⟩
theorem good_next {s : GS} (g : Good s) {k : Nat} (hk : k ≤ s.mo) (hl : topV s.L s.d < k) (ht : s.t + 1 < 4611686018427387904) (he : s.en + 1 < 4611686018427387904) (q' : Nat) :
    Good { x := clrB s.x k, t := s.t + 1, m := s.m, L := fun i => if i = s.d then (k : Int) else s.L i, d := s.d + 1, q := q', mo := s.mo, en := s.en + 1 } :=
  ⟨clrB_lt g.x _, g.mo, fun j hj => by
    show (clrB s.x k).testBit j = false
    rw [clrB_testBit g.x, g.up j hj]; rfl, (rises_enter g.rises (k := k) ⟨hl, by omega, by have := g.mo; omega⟩).2, ht, g.m, he⟩
end Go.Proofs.YtlpnobpgphmngabDoor
