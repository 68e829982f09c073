import Derived.Test.YtlpnobpgphmngabDoorPend
import Derived.Test.YtlpnobpgphmngabDoorRow
namespace Go.Proofs.YtlpnobpgphmngabDoor
open Go.ChangeShapes Go.WideShapes Go.ChangeAt Go.RowKit
set_option linter.unusedVariables false
/-- Block b, made since w, is a pend. -/
structure PendAt (w wr : World) (b x t m : Nat) : Prop where
  is : IsPend wr b x t m
  below : Below w.heap.size w wr
  new : w.heap.size ≤ b
  lt : x < 4294967296
theorem PendAt.step {w w1 w2 : World} {b x t m x' t' m' : Nat} (h : PendAt w w1 b x t m) (hi : IsPend w2 b x' t' m') (hk : Keeps (fun k => k = b) w1 w2) (hx : x' < 4294967296) : PendAt w w2 b x' t' m' :=
  ⟨hi, h.below.trans (hk.below h.below.size fun k _ e => by have := h.new; omega), h.new, hx⟩
theorem raise_any (w wr : World) (b x t m : Nat) (i : Int) (h : PendAt w wr b x t m) (hm : m < 4611686018427387904) :
    Calls Tryd.prog 7 #[.pointer (some ⟨b, 0, none⟩), .int .i64 i] wr fun e w' => ∃ r x' m', e = .returned (.bool r) ∧ PendAt w w' b x' t m' ∧ m' ≤ m + 1 := by
  by_cases hi : 0 ≤ i ∧ i ≤ 31
  · obtain ⟨k, rfl⟩ := Int.eq_ofNat_of_zero_le hi.1
    have hk : k < 32 := by omega
    cases hb : x.testBit k
    · exact (raise_new b x t m k wr h.lt h.is hk hb).mono fun e w' ⟨he, h1, h2⟩ => ⟨true, _, _, he, h.step h1 h2 (setB_lt h.lt _), by omega⟩
    · exact (raise_had b x t m k wr h.lt hm h.is hk hb).mono fun e w' ⟨he, h1, h2⟩ => ⟨false, _, _, he, h.step h1 h2 h.lt, by omega⟩
  · exact (raise_out b x t m i wr h.is hi).mono fun e w' ⟨he, hw⟩ => ⟨false, x, m, he, hw ▸ h, by omega⟩
theorem pend_new (w : World) : PendAt w (w.alloc (.cells #[.int .u32 0, .int .i64 0, .int .i64 0] 27)) w.heap.size 0 0 0 :=
  ⟨heap_new _ _, (Below.refl _ _).alloc (Nat.le_refl _) _, Nat.le_refl _, by omega⟩
theorem above_any (b x t m : Nat) (l : Int) (w : World) (hx : x < 4294967296) (h : IsPend w b x t m) :
    Calls Tryd.prog 16 #[.pointer (some ⟨b, 0, none⟩), .int .i64 l] w fun e w' => e = .returned (.int .i64 (if l < (Lib.bitLen x : Int) - 1 then (Lib.bitLen x : Int) - 1 else -1)) ∧ w = w' := by
  have H := Lib.hid h
  clear h
  by_cases hl : l < (Lib.bitLen x : Int) - 1
  · rw [if_pos hl]
    go_enter Tryd.func16, Tryd.ntmps16
    go_wp2_with fail
    refine (ptop_any b x t m _ hx H.out).mono ?_
    rintro e w' ⟨rfl, rfl⟩
    go_wp2
    go_ret
    exact ⟨rfl, rfl⟩
  · rw [if_neg hl]
    go_enter Tryd.func16, Tryd.ntmps16
    go_wp2_with fail
    refine (ptop_any b x t m _ hx H.out).mono ?_
    rintro e w' ⟨rfl, rfl⟩
    go_wp2
    go_ret
    exact ⟨rfl, rfl⟩

theorem alive07_any (w : World) : Calls Tryd.prog 6 #[] w fun e w' => e = .returned (.bool true) ∧ Below w.heap.size w w' := by
  have P0 := Lib.hid (pend_new w)
  go_enter Tryd.func6, Tryd.ntmps6
  go_wp2_with fail
  refine (raise_new _ 0 0 0 3 _ (by omega) P0.out.is (by omega) (by decide)).mono ?_
  rintro e w1 ⟨rfl, h1, k1⟩
  have P1 := Lib.hid (P0.out.step h1 k1 (by decide))
  clear P0 h1 k1
  go_wp2_with fail
  refine (raise_new _ 8 0 0 1 _ (by omega) P1.out.is (by omega) (by decide)).mono ?_
  rintro e w2 ⟨rfl, h2, k2⟩
  have P2 := Lib.hid (P1.out.step h2 k2 (by decide))
  clear P1 h2 k2
  go_wp2_with fail
  refine (raise_had _ 10 0 0 3 _ (by omega) (by omega) P2.out.is (by omega) (by decide)).mono ?_
  rintro e w3 ⟨rfl, h3, k3⟩
  have P3 := Lib.hid (P2.out.step h3 k3 (by decide))
  clear P2 h3 k3
  go_wp2_with fail
  refine (above_any _ 10 0 1 1 _ (by omega) P3.out.is).mono ?_
  rintro e w' ⟨rfl, rfl⟩
  rw [show (if (1 : Int) < (Lib.bitLen 10 : Int) - 1 then (Lib.bitLen 10 : Int) - 1 else -1) = 3 by decide +kernel]
  go_wp2_with fail
  refine (above_any _ 10 0 1 3 _ (by omega) P3.out.is).mono ?_
  rintro e w' ⟨rfl, rfl⟩
  rw [show (if (3 : Int) < (Lib.bitLen 10 : Int) - 1 then (Lib.bitLen 10 : Int) - 1 else -1) = -1 by decide +kernel]
  go_wp2
  go_ret
  exact ⟨rfl, P3.out.below⟩
theorem clr_top {x : Nat} (hx : x < 4294967296) (h0 : x ≠ 0) : clrB x ((Lib.bitLen x : Int) - 1) < 2 ^ (Lib.bitLen x - 1) := by
  obtain ⟨h1, h2, h3, h4⟩ := high_spec hx h0
  apply Nat.lt_pow_two_of_testBit
  intro i hi
  rw [clrB_testBit hx]
  by_cases e : i = Lib.bitLen x - 1
  · have : (i : Int) = (Lib.bitLen x : Int) - 1 := by omega
    simp [this]
  · rw [h4 i (by omega)]; rfl

end Go.Proofs.YtlpnobpgphmngabDoor
