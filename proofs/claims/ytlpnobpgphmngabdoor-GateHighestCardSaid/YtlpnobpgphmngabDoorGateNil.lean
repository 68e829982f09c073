import Derived.Test.YtlpnobpgphmngabDoorGateD
import Derived.Test.YtlpnobpgphmngabDoorOpen
import Derived.Test.YtlpnobpgphmngabDoorWordLaid
namespace Go.Proofs.YtlpnobpgphmngabDoor
open Go.ChangeShapes Go.WideShapes Go.ChangeAt Go.RowKit
set_option linter.unusedVariables false
theorem above_no {x k : Nat} (h : x < 2 ^ (k + 1)) : ∀ j : Nat, k < j → x.testBit j = false := fun j hj => Nat.testBit_lt_two_pow (Nat.lt_of_lt_of_le h (Nat.pow_le_pow_right (by omega) hj))
theorem g_raise_step {w w1 : World} {b k : Nat} {s : GS} (h : GateAt w w1 b s) (hk : k ≤ s.mo) (hb : s.x.testBit k = false) :
    Calls Tryd.prog 20 #[.pointer (some ⟨b, 0, none⟩), .int .i64 k] w1 fun e w' => e = .returned (.bool true) ∧ GateAt w w' b { s with x := setB s.x k } :=
  (graise_near b s k w1 h.is (by omega) (Q := fun _ w' => IsGate w' b { s with x := setB s.x k } ∧ Keeps (fun k => k = b) w1 w') true (gpraise_new b k s w1 h.good.x h.is (by have := h.good.mo; omega) hb)).mono fun e w' ⟨he, h1, h2⟩ => ⟨he, h.step h1 h2 (good_raise h.good hk)⟩
theorem g_next_step {w w1 : World} {b k : Nat} {s : GS} (h : GateAt w w1 b s) (hk : k ≤ s.mo) (hl : topV s.L s.d < k) (hb : s.x.testBit k = true) (hx : s.x < 2 ^ (k + 1)) (ht : s.t < 1000) (he : s.en < 1000) :
    Calls Tryd.prog 24 #[.pointer (some ⟨b, 0, none⟩)] w1 fun e w' => e = .returned (.tuple #[.int .i64 (k : Int), .bool true]) ∧ ∃ q', GateAt w w' b { x := clrB s.x k, t := s.t + 1, m := s.m, L := fun i => if i = s.d then (k : Int) else s.L i, d := s.d + 1, q := q', mo := s.mo, en := s.en + 1 } :=
  (gnext_yes b k s w1 h.is h.good hl hk ⟨hb, above_no hx⟩).mono fun e w' ⟨he', ⟨q', h1⟩, h2⟩ => ⟨he', q', h.step h1 h2 (good_next h.good hk hl (by omega) (by omega) q')⟩
theorem g_stay_step {w w1 : World} {b : Nat} {s : GS} (h : GateAt w w1 b s) (hn : ∀ j : Nat, topV s.L s.d < j → s.x.testBit j = false) :
    Calls Tryd.prog 24 #[.pointer (some ⟨b, 0, none⟩)] w1 fun e w' => e = .returned (.tuple #[.int .i64 (topV s.L s.d), .bool false]) ∧ GateAt w w' b s :=
  (gnext_no b s w1 h.is h.good hn).mono fun e w' ⟨he, h1, h2⟩ => ⟨he, h.same h1 h2⟩
theorem g_leave_step {w w1 : World} {b d : Nat} {s : GS} (h : GateAt w w1 b s) (hd : s.d = d + 1) :
    Calls Tryd.prog 21 #[.pointer (some ⟨b, 0, none⟩)] w1 fun e w' => e = .returned (.tuple #[.int .i64 (s.L d), .bool true]) ∧ GateAt w w' b { s with d := d } :=
  (gleave_yes b d s w1 (by have := h.good.rises.le; omega) hd h.is).mono fun e w' ⟨he, h1, h2⟩ => ⟨he, h.step h1 h2 (good_leave h.good hd)⟩
theorem GateAt.ofx {w wr : World} {b x x' t m d q mo en : Nat} {L : Nat → Int} (h : GateAt w wr b ⟨x, t, m, L, d, q, mo, en⟩) (e : x = x') : GateAt w wr b ⟨x', t, m, L, d, q, mo, en⟩ := e ▸ h
def L1 : Nat → Int := fun i => if i = 0 then 1 else 0
def L2 : Nat → Int := fun i => if i = 1 then 3 else L1 i
def L3 : Nat → Int := fun i => if i = 1 then 2 else L2 i
set_option maxRecDepth 20000 in
theorem alive09_any (w : World) : Calls Tryd.prog 18 #[] w fun e w' => e = .returned (.bool true) ∧ Below w.heap.size w w' := by
  go_enter Tryd.func18, Tryd.ntmps18
  go_wp2_with fail
  refine (gnew 5 w).mono ?_
  rintro e w0 ⟨rfl, h0, k0⟩
  have P0 : Hid (GateAt w w0 w.heap.size ⟨0, 0, 0, fun _ => 0, 0, 0, 5, 0⟩) := Lib.hid ⟨h0, k0.none, Nat.le_refl _, good_zero 5 (by omega)⟩
  clear h0 k0
  go_wp2_with fail
  refine (g_raise_step (k := 1) P0.out (by show 1 ≤ 5; omega) (by show Nat.testBit 0 1 = false; decide)).mono ?_
  rintro e w1 ⟨rfl, h1⟩
  have P1 : Hid (GateAt w w1 w.heap.size ⟨2, 0, 0, fun _ => 0, 0, 0, 5, 0⟩) := Lib.hid (GateAt.ofx h1 (show setB 0 ((1 : Nat) : Int) = 2 by decide +kernel))
  clear h1 P0
  go_wp2_with fail
  refine (g_next_step (k := 1) P1.out (by show 1 ≤ 5; omega) (by show (-1 : Int) < 1; omega) (by show Nat.testBit 2 1 = true; decide) (by show 2 < 4; omega) (by show 0 < 1000; omega) (by show 0 < 1000; omega)).mono ?_
  rintro e w2 ⟨rfl, q2, h2⟩
  have P2 : Hid (GateAt w w2 w.heap.size ⟨0, 1, 0, L1, 1, q2, 5, 1⟩) := Lib.hid (GateAt.ofx h2 (show clrB 2 ((1 : Nat) : Int) = 0 by decide +kernel))
  clear h2 P1
  go_wp2_with fail
  refine (g_raise_step (k := 3) P2.out (by show 3 ≤ 5; omega) (by show Nat.testBit 0 3 = false; decide)).mono ?_
  rintro e w3 ⟨rfl, h3⟩
  have P3 : Hid (GateAt w w3 w.heap.size ⟨8, 1, 0, L1, 1, q2, 5, 1⟩) := Lib.hid (GateAt.ofx h3 (show setB 0 ((3 : Nat) : Int) = 8 by decide +kernel))
  clear h3 P2
  go_wp2_with fail
  refine (g_raise_step (k := 2) P3.out (by show 2 ≤ 5; omega) (by show Nat.testBit 8 2 = false; decide)).mono ?_
  rintro e w4 ⟨rfl, h4⟩
  have P4 : Hid (GateAt w w4 w.heap.size ⟨12, 1, 0, L1, 1, q2, 5, 1⟩) := Lib.hid (GateAt.ofx h4 (show setB 8 ((2 : Nat) : Int) = 12 by decide +kernel))
  clear h4 P3
  go_wp2_with fail
  refine (g_next_step (k := 3) P4.out (by show 3 ≤ 5; omega) (by show (1 : Int) < 3; omega) (by show Nat.testBit 12 3 = true; decide) (by show 12 < 16; omega) (by show 1 < 1000; omega) (by show 1 < 1000; omega)).mono ?_
  rintro e w5 ⟨rfl, q5, h5⟩
  have P5 : Hid (GateAt w w5 w.heap.size ⟨4, 2, 0, L2, 2, q5, 5, 2⟩) := Lib.hid (GateAt.ofx h5 (show clrB 12 ((3 : Nat) : Int) = 4 by decide +kernel))
  clear h5 P4
  go_wp2_with fail
  refine (g_stay_step P5.out (fun j hj => above_no (k := 3) (by show 4 < 16; omega) j (by have : (3 : Int) < j := hj; omega))).mono ?_
  rintro e w6 ⟨rfl, h6⟩
  have P6 : Hid (GateAt w w6 w.heap.size ⟨4, 2, 0, L2, 2, q5, 5, 2⟩) := Lib.hid h6
  rw [show topV L2 2 = 3 from rfl]
  clear h6 P5
  go_wp2_with fail
  refine (g_leave_step (d := 1) P6.out rfl).mono ?_
  rintro e w7 ⟨rfl, h7⟩
  have P7 : Hid (GateAt w w7 w.heap.size ⟨4, 2, 0, L2, 1, q5, 5, 2⟩) := Lib.hid h7
  clear h7 P6
  go_wp2_with fail
  refine (g_next_step (k := 2) P7.out (by show 2 ≤ 5; omega) (by show (1 : Int) < 2; omega) (by show Nat.testBit 4 2 = true; decide) (by show 4 < 8; omega) (by show 2 < 1000; omega) (by show 2 < 1000; omega)).mono ?_
  rintro e w8 ⟨rfl, q8, h8⟩
  have P8 : Hid (GateAt w w8 w.heap.size ⟨0, 3, 0, L3, 2, q8, 5, 3⟩) := Lib.hid (GateAt.ofx h8 (show clrB 4 ((2 : Nat) : Int) = 0 by decide +kernel))
  clear h8 P7
  go_wp2_with fail
  refine (gmask _ _).mono ?_
  rintro e w9 ⟨rfl, rfl⟩
  go_wp2
  go_ret
  exact ⟨rfl, P8.out.below⟩
theorem gateNil_plain (k : Int) (w : World) : Calls Tryd.prog 5 #[.int .i64 k] w fun e w' => e = .returned (.bool true) ∧ Below w.heap.size w w' := by
  go_enter Tryd.func5, Tryd.ntmps5
  go_wp2_with fail
  refine (nnext _).mono ?_
  rintro e w' ⟨rfl, rfl⟩
  go_wp2_with fail
  refine (nleave _).mono ?_
  rintro e w' ⟨rfl, rfl⟩
  go_wp2_with fail
  refine (ncount _).mono ?_
  rintro e w' ⟨rfl, rfl⟩
  go_wp2_with fail
  refine (nraise _ _).mono ?_
  rintro e w' ⟨rfl, rfl⟩
  go_wp2_with fail
  refine (nlevel _).mono ?_
  rintro e w' ⟨rfl, rfl⟩
  go_wp2_with fail
  refine (npending _).mono ?_
  rintro e w' ⟨rfl, rfl⟩
  go_wp2_with fail
  refine (gmask _ _).mono ?_
  rintro e w' ⟨rfl, rfl⟩
  go_wp2_with fail
  refine (nserved _).mono ?_
  rintro e w' ⟨rfl, rfl⟩
  go_wp2_with fail
  refine (nlevels _).mono ?_
  rintro e w' ⟨rfl, rfl⟩
  go_wp2_with fail
  refine (alive09_any _).mono ?_
  rintro e w' ⟨rfl, hb⟩
  go_wp2
  go_ret
  exact ⟨rfl, hb⟩
def gateNilLaid := tabLaid
theorem gateNil_walk {H : Type} {enc : TypeId × Value → H} (W : World) (base : Nat) {v0 : Value} {d0 : DataW H} {p0 : List MemPlace}
    (k0 : Value.okWide Tryd.prog W .any base 3 v0) (h0 : DataW.Trod enc Tryd.prog W 0 (fun _ => true) true 3 v0 d0 p0)
    (hL : laidMetH Tryd.prog gateNilLaid W) :
    Calls Tryd.prog 5 #[v0] W fun e w' => e = .returned (.bool true) ∧ Below W.heap.size W w' := by
  obtain ⟨k, rfl⟩ := okWide_int Tryd.underlying3 k0
  exact gateNil_plain k W
end Go.Proofs.YtlpnobpgphmngabDoor
