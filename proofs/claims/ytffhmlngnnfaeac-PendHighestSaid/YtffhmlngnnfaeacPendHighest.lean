import Derived.Test.YtffhmlngnnfaeacPend
import Derived.Test.YtffhmlngnnfaeacOpen
namespace Go.Proofs.Ytffhmlngnnfaeac
open Go.ChangeShapes Go.WideShapes Go.ChangeAt Go.RowKit
set_option linter.unusedVariables false
/-- Block b, made since w, is a pend. -/
structure PendAt (w wr : World) (b x t m : Nat) : Prop where
  is : IsPend wr b x t m
  below : Below w.heap.size w wr
  new : w.heap.size ≤ b
  lt : x < 4294967296
theorem PendAt.step {w w1 w2 : World} {b x t m x' t' m' : Nat} (h : PendAt w w1 b x t m) (hi : IsPend w2 b x' t' m') (hk : Keeps (fun k => k = b) w1 w2) (hx : x' < 4294967296) : PendAt w w2 b x' t' m' :=
  ⟨hi, h.below.trans (hk.below h.below.size fun k _ e => by have := h.new; omega), h.new, hx⟩
theorem raise_any (w wr : World) (b x t m : Nat) (i : Int) (h : PendAt w wr b x t m) (hm : m < 4611686018427387904) :
    Calls Try.prog 14 #[.pointer (some ⟨b, 0, none⟩), .int .i64 i] wr fun e w' => ∃ r x' m', e = .returned (.bool r) ∧ PendAt w w' b x' t m' ∧ m' ≤ m + 1 := by
  by_cases hi : 0 ≤ i ∧ i ≤ 31
  · obtain ⟨k, rfl⟩ := Int.eq_ofNat_of_zero_le hi.1
    have hk : k < 32 := by omega
    cases hb : x.testBit k
    · exact (raise_new b x t m k wr h.lt h.is hk hb).mono fun e w' ⟨he, h1, h2⟩ => ⟨true, _, _, he, h.step h1 h2 (setB_lt h.lt _), by omega⟩
    · exact (raise_had b x t m k wr h.lt hm h.is hk hb).mono fun e w' ⟨he, h1, h2⟩ => ⟨false, _, _, he, h.step h1 h2 h.lt, by omega⟩
  · exact (raise_out b x t m i wr h.is hi).mono fun e w' ⟨he, hw⟩ => ⟨false, x, m, he, hw ▸ h, by omega⟩
theorem pend_new (w : World) : PendAt w (w.alloc (.cells #[.int .u32 0, .int .i64 0, .int .i64 0] 38)) w.heap.size 0 0 0 :=
  ⟨heap_new _ _, (Below.refl _ _).alloc (Nat.le_refl _) _, Nat.le_refl _, by omega⟩
theorem above_any (b x t m : Nat) (l : Int) (w : World) (hx : x < 4294967296) (h : IsPend w b x t m) :
    Calls Try.prog 36 #[.pointer (some ⟨b, 0, none⟩), .int .i64 l] w fun e w' => e = .returned (.int .i64 (if l < (Lib.bitLen x : Int) - 1 then (Lib.bitLen x : Int) - 1 else -1)) ∧ w = w' := by
  have H := Lib.hid h
  clear h
  by_cases hl : l < (Lib.bitLen x : Int) - 1
  · rw [if_pos hl]
    go_enter Try.func36, Try.ntmps36
    go_wp2_with fail
    refine (ptop_any b x t m _ hx H.out).mono ?_
    rintro e w' ⟨rfl, rfl⟩
    go_wp2
    go_ret
    exact ⟨rfl, rfl⟩
  · rw [if_neg hl]
    go_enter Try.func36, Try.ntmps36
    go_wp2_with fail
    refine (ptop_any b x t m _ hx H.out).mono ?_
    rintro e w' ⟨rfl, rfl⟩
    go_wp2
    go_ret
    exact ⟨rfl, rfl⟩

theorem alive07_any (w : World) : Calls Try.prog 13 #[] w fun e w' => e = .returned (.bool true) ∧ Below w.heap.size w w' := by
  have P0 := Lib.hid (pend_new w)
  go_enter Try.func13, Try.ntmps13
  go_wp2_with fail
  refine (raise_new _ 0 0 0 3 _ (by omega) P0.out.is (by omega) (by decide)).mono ?_
  rintro e w1 ⟨rfl, h1, k1⟩
  have P1 := Lib.hid (P0.out.step h1 k1 (by decide))
  clear P0 h1 k1
  go_wp2_with fail
  refine (raise_new _ 8 0 0 1 _ (by omega) P1.out.is (by omega) (by decide)).mono ?_
  rintro e w2 ⟨rfl, h2, k2⟩
  have P2 := Lib.hid (P1.out.step h2 k2 (by decide))
  clear P1 h2 k2
  go_wp2_with fail
  refine (raise_had _ 10 0 0 3 _ (by omega) (by omega) P2.out.is (by omega) (by decide)).mono ?_
  rintro e w3 ⟨rfl, h3, k3⟩
  have P3 := Lib.hid (P2.out.step h3 k3 (by decide))
  clear P2 h3 k3
  go_wp2_with fail
  refine (above_any _ 10 0 1 1 _ (by omega) P3.out.is).mono ?_
  rintro e w' ⟨rfl, rfl⟩
  rw [show (if (1 : Int) < (Lib.bitLen 10 : Int) - 1 then (Lib.bitLen 10 : Int) - 1 else -1) = 3 by decide +kernel]
  go_wp2_with fail
  refine (above_any _ 10 0 1 3 _ (by omega) P3.out.is).mono ?_
  rintro e w' ⟨rfl, rfl⟩
  rw [show (if (3 : Int) < (Lib.bitLen 10 : Int) - 1 then (Lib.bitLen 10 : Int) - 1 else -1) = -1 by decide +kernel]
  go_wp2
  go_ret
  exact ⟨rfl, P3.out.below⟩
theorem clr_top {x : Nat} (hx : x < 4294967296) (h0 : x ≠ 0) : clrB x ((Lib.bitLen x : Int) - 1) < 2 ^ (Lib.bitLen x - 1) := by
  obtain ⟨h1, h2, h3, h4⟩ := high_spec hx h0
  apply Nat.lt_pow_two_of_testBit
  intro i hi
  rw [clrB_testBit hx]
  by_cases e : i = Lib.bitLen x - 1
  · have : (i : Int) = (Lib.bitLen x : Int) - 1 := by omega
    simp [this]
  · rw [h4 i (by omega)]; rfl

/-- A slice of n numbers, of which F tells. -/
def Row (w : World) (a : Option Addr) (n : Nat) (F : Nat → Int) : Prop := 0 < n → ∃ b off, a = some ⟨b, off, none⟩ ∧ b < w.heap.size ∧ ∀ i, i < n → w.cell? ⟨b, off + i, none⟩ = some (.int .i64 (F i))
theorem Row.below {w w' : World} {a : Option Addr} {n : Nat} {F : Nat → Int} (h : Row w a n F) (hk : Below w.heap.size w w') : Row w' a n F := by
  intro hn
  obtain ⟨b, off, ha, hb, hc⟩ := h hn
  exact ⟨b, off, ha, Nat.lt_of_lt_of_le hb hk.size, fun i hi => (hk.cell (p := ⟨b, off + i, none⟩) hb).trans (hc i hi)⟩
/-- A slice of numbers, read. -/
theorem row_of {H : Type} {enc : TypeId × Value → H} {W : World} {base : Nat} {v : Value} {d : DataW H} {p : List MemPlace}
    (k : Value.okWide Try.prog W .any base 35 v) (h : DataW.Trod enc Try.prog W 0 (fun _ => true) true 35 v d p) :
    ∃ (a : Option Addr) (n cap : Nat) (F : Nat → Int), v = .slice a n cap ∧ n ≤ maxLen ∧ Row W a n F ∧ ∀ i, i < n → (Lit.int .i64 (F i)).wf = true := by
  obtain ⟨a0, n0, c0, rfl⟩ := okWide_slice Try.underlying35 k
  obtain ⟨a, n, c, e, hl, hm, r⟩ := (reads_of h).rows Try.underlying35 (n := 1) (by kernel_rfl) (by omega)
  simp [Value.cells] at e
  obtain ⟨rfl, rfl, rfl⟩ := e
  rcases Nat.eq_zero_or_pos n0 with rfl | hp
  · exact ⟨a0, 0, c0, fun _ => 0, rfl, by omega, fun h => by omega, fun i hi => by omega⟩
  · obtain ⟨b, off, rfl, hb, hr⟩ := r hp
    obtain ⟨F, hF⟩ := Deep.choose_lt (n := n0) (p := fun i (x : Int) => W.cell? ⟨b, off + i, none⟩ = some (.int .i64 x) ∧ (Lit.int .i64 x).wf = true) (fun i hi => by
      obtain ⟨cs', _, hc, hrd⟩ := hr i hi
      obtain ⟨x, rfl, hx⟩ := hrd.int Try.underlying3
      have := hc 0 (by omega)
      simp at this
      exact ⟨x, this, hx⟩)
    exact ⟨_, n0, c0, F, rfl, by omega, fun _ => ⟨b, off, rfl, hb, fun i hi => (hF i hi).1⟩, fun i hi => (hF i hi).2⟩

theorem pendHighest_plain (a0 : Option Addr) (n cap : Nat) (F : Nat → Int) (w : World) (hn : n ≤ 60) (hr : Row w a0 n F) :
    Calls Try.prog 4 #[.slice a0 n cap] w fun e w' => e = .returned (.bool true) ∧ Below w.heap.size w w' := by
  have hd : decide (60 < (n : Int)) = false := by simp; omega
  have P0 := Lib.hid (pend_new w)
  have HR := Lib.hid hr
  clear hr
  go_enter Try.func4, Try.ntmps4
  go_wp2_with fail
  obtain ⟨wo, rfl⟩ : ∃ wo : World, wo = w := ⟨_, rfl⟩
  go_loopw [5] (fun i wr => ∃ k x m : Nat, k ≤ n ∧ m ≤ k ∧ i = .int .i64 k ∧ PendAt wo wr wo.heap.size x 0 m) (fun i _ => n - (intOf i).toNat)
  case atStart => exact ⟨0, 0, 0, by omega, by omega, rfl, P0.out⟩
  case round =>
    obtain ⟨k, x, m, hk, hm, rfl, hp⟩ := hrel
    have HP := Lib.hid hp
    clear hp
    by_cases hlt : k < n
    · obtain ⟨b, off, rfl, hb, hc⟩ := (HR.out.below HP.out.below) (by omega)
      have hcell := hc k hlt
      clear hc
      go_wp2_with fail
      refine (raise_any wo _ _ x 0 m _ HP.out (by omega)).mono ?_
      rintro e w1 ⟨r, x1, m1, rfl, hp1, hm1⟩
      go_wp2
      go_roundw
      case rel => exact ⟨k + 1, x1, m1, by omega, by omega, by go_num, hp1⟩
      case measure => simp [intOf]; omega
    · obtain rfl : k = n := by omega
      go_wp2_with fail
      go_loopw [4, 6] (fun s i wr2 => ∃ s' j x t : Nat, s' + j ≤ 32 ∧ t ≤ j ∧ s = .int .i64 s' ∧ i = .int .i64 j ∧ x < 2 ^ s' ∧ PendAt wo wr2 wo.heap.size x t m) (fun s _ _ => (intOf s).toNat)
      case atStart => exact ⟨32, 0, x, 0, by omega, by omega, rfl, rfl, HP.out.lt, HP.out⟩
      case round =>
        obtain ⟨s', j, y, t, hs, ht, rfl, rfl, hy, hp2⟩ := hrel
        have HY := Lib.hid (And.intro hy hp2)
        have hlt2 := hp2.lt
        clear hy hp2 HP
        have hj : decide ((j : Int) < 33) = true := by simp; omega
        go_wp2_with fail
        refine (ptop_any _ y t m _ hlt2 HY.out.2.is).mono ?_
        rintro e w' ⟨rfl, rfl⟩
        by_cases h0 : y = 0
        · subst h0
          rw [bitLen_zero]
          go_wp2_with fail
          refine (bits_of _ 0 t m _ HY.out.2.is).mono ?_
          rintro e w' ⟨rfl, rfl⟩
          go_wp2_with fail
          refine (alive07_any _).mono ?_
          rintro e w2 ⟨rfl, hb⟩
          go_wp2
          go_ret
          exact ⟨rfl, HY.out.2.below.trans (hb.mono HY.out.2.below.size)⟩
        · obtain ⟨g1, g2, g3, g4⟩ := high_spec hlt2 h0
          have g5 : Lib.bitLen y ≤ s' := Lib.bitLen_le y s' (by omega) HY.out.1
          have hcl := clr_top hlt2 h0
          have hhas : hasB y ((Lib.bitLen y : Int) - 1) = true := by
            rw [show (Lib.bitLen y : Int) - 1 = ((Lib.bitLen y - 1 : Nat) : Int) by omega, hasB_nat (by omega)]
            exact g3
          have e0 : decide ((Lib.bitLen y : Int) - 1 < 0) = false := by simp; omega
          have e1 : decide ((s' : Int) ≤ (Lib.bitLen y : Int) - 1) = false := by simp; omega
          have HH := Lib.hid (And.intro hcl hhas)
          clear g3 g4 hcl hhas
          go_wp2_with fail
          refine (take_yes _ y t m _ _ hlt2 (by omega) HY.out.2.is HH.out.2).mono ?_
          rintro e w1 ⟨rfl, h1, k1⟩
          have hp3 := HY.out.2.step h1 k1 (clrB_lt hlt2 _)
          clear h1 k1
          go_wp2
          go_roundw
          case rel => exact ⟨Lib.bitLen y - 1, j + 1, clrB y ((Lib.bitLen y : Int) - 1), t + 1, by omega, by omega, by congr 1; omega, by go_num, HH.out.1, hp3⟩
          case measure => simp [intOf]; omega
theorem pendHighest_large (a0 : Option Addr) (n cap : Nat) (w : World) (hm : n ≤ maxLen) (hn : 60 < n) :
    Calls Try.prog 4 #[.slice a0 n cap] w fun e w' => e = .returned (.bool true) ∧ Below w.heap.size w w' := by
  unfold maxLen at hm
  have hd : decide (60 < (n : Int)) = true := by simp; omega
  go_enter Try.func4, Try.ntmps4
  go_wp2_with fail
  refine (alive07_any _).mono ?_
  rintro e w13 ⟨rfl, hb⟩
  go_wp2
  go_ret
  exact ⟨rfl, hb⟩
set_option maxRecDepth 100000 in
theorem pendHighest_walk {H : Type} {enc : TypeId × Value → H} (W : World) (base : Nat) {v0 : Value} {d0 : DataW H} {p0 : List MemPlace}
    (k0 : Value.okWide Try.prog W .any base 35 v0) (h0 : DataW.Trod enc Try.prog W 0 (fun _ => true) true 35 v0 d0 p0) :
    Calls Try.prog 4 #[v0] W fun e w' => e = .returned (.bool true) ∧ Below W.heap.size W w' := by
  obtain ⟨a, n, cap, F, rfl, hm, hr, _⟩ := row_of k0 h0
  by_cases hn : n ≤ 60
  · exact pendHighest_plain a n cap F W hn hr
  · exact pendHighest_large a n cap W hm (by omega)
end Go.Proofs.Ytffhmlngnnfaeac
