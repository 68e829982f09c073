import Derived.Test.YtffhmlngnnfaeaaDoorWordMade
import Derived.Test.YtffhmlngnnfaeaaDoorWordLaid
namespace Go.Proofs.YtffhmlngnnfaeaaDoor
open Go.ChangeShapes Go.WideShapes Go.ChangeAt Go.RowKit
set_option linter.unusedVariables false

/-- The law's last part: how words that go round lie to one another. -/
theorem below_drewN (B : Nat) (w : World) (n : Nat) : Below B w (w.drewN n) := ⟨rfl, rfl, rfl, Nat.le_refl _, fun _ _ => rfl⟩
theorem owns_slice {w : World} {B : Nat} {E : TypeId} {v : Value} {n : Nat} {xs : List Value} (h : w.ownsRow B E 1 v n xs) : ∃ a cap, v = .slice a n cap := by
  obtain ⟨_, h | ⟨g, cap, cur, rfl, _⟩⟩ := h
  · exact ⟨none, 0, by rw [h.1, h.2]⟩
  · exact ⟨_, cap, rfl⟩
theorem hasB_setB {x : Nat} {k : Nat} (hk : k < 32) : hasB (setB x k) k = true := by
  rw [hasB_nat hk, setB_testBit]; simp [hk]
theorem hasB_clrB {x : Nat} (hx : x < 4294967296) {k : Nat} (hk : k < 32) : hasB (clrB x k) k = false := by
  rw [hasB_nat hk, clrB_testBit hx]; simp

set_option maxRecDepth 200000 in
theorem wordMade_in (x y k : Nat) (w : World) (hx : x < 4294967296) (hy : y < 4294967296) (hk : k < 32) (hT : TabAt 0 Lib.deBruijn32tab w) (hg : 0 < w.heap.size) :
    Calls Tryd.prog 4 #[.int .u32 x, .int .i64 k, .int .u32 y] w fun e w' => e = .returned (.bool true) ∧ Below w.heap.size w w' := by
  have hF : ∃ F : Nat → Int, ∀ i, (h : i < (bitsL x).length) → F i = (bitsL x)[i] := ⟨fun i => ((bitsL x)[i]?.getD 0 : Nat), fun i h => by simp [h]⟩
  obtain ⟨F, hF⟩ := hF
  have hof := ofs_bits hx F hF
  have HOF := Lib.hid hof
  have HF := Lib.hid hF
  have HT := Lib.hid hT
  have h1 := Lib.hid (hasB_setB (x := x) hk)
  have h2 := Lib.hid (hasB_clrB hx hk)
  obtain ⟨t1, t2, t3⟩ := ctz_top k hk
  have T1 := Lib.hid t1
  have hlen := bitsL_len x
  have hp : 2 ^ k ≤ 2 ^ 31 := Nat.pow_le_pow_right (by omega) (by omega)
  have hq : 0 < 2 ^ k := Nat.two_pow_pos k
  have ea : (4294967295 : Int) - ((2 ^ k - 1 : Nat) : Int) = ((4294967296 - 2 ^ k : Nat) : Int) := by omega
  have eb : (((x : Int) + (y : Int)) % 4294967296 - (x : Int)) % 4294967296 = (y : Int) := by omega
  have EA := Lib.hid ea
  have EB := Lib.hid eb
  have ec : 1 ≤ y → y < 2147483648 → decide (2147483648 ≤ ((x : Int) - ((x : Int) + (y : Int)) % 4294967296) % 4294967296) = true := by
    intro h1 h2; simp; omega
  have EC := Lib.hid ec
  clear ec
  clear hof hF hT t1 hp hq ea eb
  go_enter Tryd.func4, Tryd.ntmps4
  go_wp2_with fail
  refine (list_any x _ hx HT.out hg).mono ?_
  rintro e w1 ⟨v1, rfl, hown, hb1⟩
  have HO := Lib.hid hown
  have hs1 := hb1.size
  have HB1 := Lib.hid hb1
  clear hown hb1
  go_wp2_with fail
  refine (of_own x w.heap.size _ (bitsL x) F _ hlen HF.out HO.out).mono ?_
  rintro e w' ⟨rfl, rfl⟩
  rw [HOF.out]
  go_wp2_with fail
  refine (count_any x _ hx).mono ?_
  rintro e w2 ⟨n2, rfl, rfl⟩
  have HT2 := Lib.hid (tabAt_below HT.out (HB1.out.trans (below_drewN _ w1 n2)) hg)
  go_wp2_with fail
  refine (list_any x _ hx HT2.out (by simp; omega)).mono ?_
  rintro e w3 ⟨v3, rfl, hown3, hb3⟩
  obtain ⟨a3, c3, rfl⟩ := owns_slice hown3
  have hs3 := hb3.size
  have HB3 := Lib.hid (HB1.out.trans ((below_drewN w.heap.size w1 n2).trans (hb3.mono (by simp; omega))))
  have HT3 := Lib.hid (tabAt_below HT.out HB3.out hg)
  clear hown3 hb3 HT2
  go_wp2_with fail
  refine (with_any x _ _ hx).mono ?_
  rintro e w' ⟨rfl, rfl⟩
  go_wp2_with fail
  refine (has_any _ _ _ (setB_lt hx _)).mono ?_
  rintro e w' ⟨rfl, rfl⟩
  rw [h1.out]
  go_wp2_with fail
  refine (without_any x _ _ hx).mono ?_
  rintro e w' ⟨rfl, rfl⟩
  go_wp2_with fail
  refine (has_any _ _ _ (clrB_lt hx _)).mono ?_
  rintro e w' ⟨rfl, rfl⟩
  rw [h2.out]
  go_wp2_with fail
  refine (mask_any _ _).mono ?_
  rintro e w' ⟨rfl, rfl⟩
  rw [show 2 ^ low 32 - 1 = 4294967295 by decide]
  go_wp2_with fail
  refine (mask_any _ _).mono ?_
  rintro e w' ⟨rfl, rfl⟩
  rw [show low (k : Int) = k by unfold low; omega]
  go_wp2_with fail
  rw [EA.out]
  refine (low_any _ _ t3 t2 HT3.out).mono ?_
  rintro e w' ⟨rfl, rfl⟩
  rw [T1.out]
  rcases (by omega : y = 0 ∨ 2147483648 ≤ y ∨ (1 ≤ y ∧ y < 2147483648)) with hc | hc | ⟨hc, hc'⟩
  · have hz : ((y : Int) == 0) = true := by simp; omega
    have hl : decide (2147483648 ≤ (y : Int)) = false := by simp; omega
    clear hc
    go_wp2_with fail
    refine (wahead_any _ _ _ (by omega) (by omega) (by omega) (by omega)).mono ?_
    rintro e w' ⟨rfl, rfl⟩
    rw [EB.out]
    go_wp2_with fail
    refine (wbefore_any _ _ _ (by omega) (by omega) (by omega) (by omega)).mono ?_
    rintro e w' ⟨rfl, rfl⟩
    rw [EB.out, hl]
    go_wp2_with fail
    refine (alive02_any _).mono ?_
    rintro e w4 ⟨rfl, hb4⟩
    go_wp2
    go_ret
    exact ⟨rfl, HB3.out.trans (hb4.mono HB3.out.size)⟩
  · have hz : ((y : Int) == 0) = false := by simp; omega
    have hl : decide (2147483648 ≤ (y : Int)) = true := by simp; omega
    clear hc
    go_wp2_with fail
    refine (wahead_any _ _ _ (by omega) (by omega) (by omega) (by omega)).mono ?_
    rintro e w' ⟨rfl, rfl⟩
    rw [EB.out]
    go_wp2_with fail
    refine (wbefore_any _ _ _ (by omega) (by omega) (by omega) (by omega)).mono ?_
    rintro e w' ⟨rfl, rfl⟩
    rw [EB.out, hl]
    go_wp2_with fail
    refine (alive02_any _).mono ?_
    rintro e w4 ⟨rfl, hb4⟩
    go_wp2
    go_ret
    exact ⟨rfl, HB3.out.trans (hb4.mono HB3.out.size)⟩
  · have hz : ((y : Int) == 0) = false := by simp; omega
    have hl : decide (2147483648 ≤ (y : Int)) = false := by simp; omega
    go_wp2_with fail
    refine (wahead_any _ _ _ (by omega) (by omega) (by omega) (by omega)).mono ?_
    rintro e w' ⟨rfl, rfl⟩
    rw [EB.out]
    go_wp2_with fail
    refine (wbefore_any _ _ _ (by omega) (by omega) (by omega) (by omega)).mono ?_
    rintro e w' ⟨rfl, rfl⟩
    rw [EB.out, hl]
    go_wp2_with fail
    refine (wbefore_any _ _ _ (by omega) (by omega) (by omega) (by omega)).mono ?_
    rintro e w' ⟨rfl, rfl⟩
    rw [EC.out (by omega) (by omega)]
    go_wp2_with fail
    refine (alive02_any _).mono ?_
    rintro e w4 ⟨rfl, hb4⟩
    go_wp2
    go_ret
    exact ⟨rfl, HB3.out.trans (hb4.mono HB3.out.size)⟩
set_option maxRecDepth 200000 in
theorem wordMade_out (x y : Nat) (i : Int) (w : World) (hx : x < 4294967296) (hy : y < 4294967296) (hi : ¬ (0 ≤ i ∧ i < 32)) (hT : TabAt 0 Lib.deBruijn32tab w) (hg : 0 < w.heap.size) :
    Calls Tryd.prog 4 #[.int .u32 x, .int .i64 i, .int .u32 y] w fun e w' => e = .returned (.bool true) ∧ Below w.heap.size w w' := by
  have hF : ∃ F : Nat → Int, ∀ i, (h : i < (bitsL x).length) → F i = (bitsL x)[i] := ⟨fun i => ((bitsL x)[i]?.getD 0 : Nat), fun i h => by simp [h]⟩
  obtain ⟨F, hF⟩ := hF
  have hof := ofs_bits hx F hF
  have HOF := Lib.hid hof
  have HF := Lib.hid hF
  have HT := Lib.hid hT
  have hlen := bitsL_len x
  have hi0 : i < 0 ∨ 32 ≤ i := by omega
  clear hi
  have eb : (((x : Int) + (y : Int)) % 4294967296 - (x : Int)) % 4294967296 = (y : Int) := by omega
  have EB := Lib.hid eb
  have ec : 1 ≤ y → y < 2147483648 → decide (2147483648 ≤ ((x : Int) - ((x : Int) + (y : Int)) % 4294967296) % 4294967296) = true := by
    intro h1 h2; simp; omega
  have EC := Lib.hid ec
  clear ec
  clear hof hF hT eb
  go_enter Tryd.func4, Tryd.ntmps4
  go_wp2_with fail
  refine (list_any x _ hx HT.out hg).mono ?_
  rintro e w1 ⟨v1, rfl, hown, hb1⟩
  have HO := Lib.hid hown
  have hs1 := hb1.size
  have HB1 := Lib.hid hb1
  clear hown hb1
  go_wp2_with fail
  refine (of_own x w.heap.size _ (bitsL x) F _ hlen HF.out HO.out).mono ?_
  rintro e w' ⟨rfl, rfl⟩
  rw [HOF.out]
  go_wp2_with fail
  refine (count_any x _ hx).mono ?_
  rintro e w2 ⟨n2, rfl, rfl⟩
  have HT2 := Lib.hid (tabAt_below HT.out (HB1.out.trans (below_drewN _ w1 n2)) hg)
  go_wp2_with fail
  refine (list_any x _ hx HT2.out (by simp; omega)).mono ?_
  rintro e w3 ⟨v3, rfl, hown3, hb3⟩
  obtain ⟨a3, c3, rfl⟩ := owns_slice hown3
  have hs3 := hb3.size
  have HB3 := Lib.hid (HB1.out.trans ((below_drewN w.heap.size w1 n2).trans (hb3.mono (by simp; omega))))
  have HT3 := Lib.hid (tabAt_below HT.out HB3.out hg)
  clear hown3 hb3 HT2
  rcases hi0 with hi | hi
  · have d0 : decide (0 ≤ i) = false := by simp; omega
    rcases (by omega : y = 0 ∨ 2147483648 ≤ y ∨ (1 ≤ y ∧ y < 2147483648)) with hc | hc | ⟨hc, hc'⟩
    · have hz : ((y : Int) == 0) = true := by simp; omega
      have hl : decide (2147483648 ≤ (y : Int)) = false := by simp; omega
      clear hc
      go_wp2_with fail
      refine (wahead_any _ _ _ (by omega) (by omega) (by omega) (by omega)).mono ?_
      rintro e w' ⟨rfl, rfl⟩
      rw [EB.out]
      go_wp2_with fail
      refine (wbefore_any _ _ _ (by omega) (by omega) (by omega) (by omega)).mono ?_
      rintro e w' ⟨rfl, rfl⟩
      rw [EB.out, hl]
      go_wp2_with fail
      refine (alive02_any _).mono ?_
      rintro e w4 ⟨rfl, hb4⟩
      go_wp2
      go_ret
      exact ⟨rfl, HB3.out.trans (hb4.mono HB3.out.size)⟩
    · have hz : ((y : Int) == 0) = false := by simp; omega
      have hl : decide (2147483648 ≤ (y : Int)) = true := by simp; omega
      clear hc
      go_wp2_with fail
      refine (wahead_any _ _ _ (by omega) (by omega) (by omega) (by omega)).mono ?_
      rintro e w' ⟨rfl, rfl⟩
      rw [EB.out]
      go_wp2_with fail
      refine (wbefore_any _ _ _ (by omega) (by omega) (by omega) (by omega)).mono ?_
      rintro e w' ⟨rfl, rfl⟩
      rw [EB.out, hl]
      go_wp2_with fail
      refine (alive02_any _).mono ?_
      rintro e w4 ⟨rfl, hb4⟩
      go_wp2
      go_ret
      exact ⟨rfl, HB3.out.trans (hb4.mono HB3.out.size)⟩
    · have hz : ((y : Int) == 0) = false := by simp; omega
      have hl : decide (2147483648 ≤ (y : Int)) = false := by simp; omega
      go_wp2_with fail
      refine (wahead_any _ _ _ (by omega) (by omega) (by omega) (by omega)).mono ?_
      rintro e w' ⟨rfl, rfl⟩
      rw [EB.out]
      go_wp2_with fail
      refine (wbefore_any _ _ _ (by omega) (by omega) (by omega) (by omega)).mono ?_
      rintro e w' ⟨rfl, rfl⟩
      rw [EB.out, hl]
      go_wp2_with fail
      refine (wbefore_any _ _ _ (by omega) (by omega) (by omega) (by omega)).mono ?_
      rintro e w' ⟨rfl, rfl⟩
      rw [EC.out (by omega) (by omega)]
      go_wp2_with fail
      refine (alive02_any _).mono ?_
      rintro e w4 ⟨rfl, hb4⟩
      go_wp2
      go_ret
      exact ⟨rfl, HB3.out.trans (hb4.mono HB3.out.size)⟩
  · have d0 : decide (0 ≤ i) = true := by simp; omega
    have d1 : decide (i < 32) = false := by simp; omega
    rcases (by omega : y = 0 ∨ 2147483648 ≤ y ∨ (1 ≤ y ∧ y < 2147483648)) with hc | hc | ⟨hc, hc'⟩
    · have hz : ((y : Int) == 0) = true := by simp; omega
      have hl : decide (2147483648 ≤ (y : Int)) = false := by simp; omega
      clear hc
      go_wp2_with fail
      refine (wahead_any _ _ _ (by omega) (by omega) (by omega) (by omega)).mono ?_
      rintro e w' ⟨rfl, rfl⟩
      rw [EB.out]
      go_wp2_with fail
      refine (wbefore_any _ _ _ (by omega) (by omega) (by omega) (by omega)).mono ?_
      rintro e w' ⟨rfl, rfl⟩
      rw [EB.out, hl]
      go_wp2_with fail
      refine (alive02_any _).mono ?_
      rintro e w4 ⟨rfl, hb4⟩
      go_wp2
      go_ret
      exact ⟨rfl, HB3.out.trans (hb4.mono HB3.out.size)⟩
    · have hz : ((y : Int) == 0) = false := by simp; omega
      have hl : decide (2147483648 ≤ (y : Int)) = true := by simp; omega
      clear hc
      go_wp2_with fail
      refine (wahead_any _ _ _ (by omega) (by omega) (by omega) (by omega)).mono ?_
      rintro e w' ⟨rfl, rfl⟩
      rw [EB.out]
      go_wp2_with fail
      refine (wbefore_any _ _ _ (by omega) (by omega) (by omega) (by omega)).mono ?_
      rintro e w' ⟨rfl, rfl⟩
      rw [EB.out, hl]
      go_wp2_with fail
      refine (alive02_any _).mono ?_
      rintro e w4 ⟨rfl, hb4⟩
      go_wp2
      go_ret
      exact ⟨rfl, HB3.out.trans (hb4.mono HB3.out.size)⟩
    · have hz : ((y : Int) == 0) = false := by simp; omega
      have hl : decide (2147483648 ≤ (y : Int)) = false := by simp; omega
      go_wp2_with fail
      refine (wahead_any _ _ _ (by omega) (by omega) (by omega) (by omega)).mono ?_
      rintro e w' ⟨rfl, rfl⟩
      rw [EB.out]
      go_wp2_with fail
      refine (wbefore_any _ _ _ (by omega) (by omega) (by omega) (by omega)).mono ?_
      rintro e w' ⟨rfl, rfl⟩
      rw [EB.out, hl]
      go_wp2_with fail
      refine (wbefore_any _ _ _ (by omega) (by omega) (by omega) (by omega)).mono ?_
      rintro e w' ⟨rfl, rfl⟩
      rw [EC.out (by omega) (by omega)]
      go_wp2_with fail
      refine (alive02_any _).mono ?_
      rintro e w4 ⟨rfl, hb4⟩
      go_wp2
      go_ret
      exact ⟨rfl, HB3.out.trans (hb4.mono HB3.out.size)⟩
def wordMadeLaid := tabLaid
set_option maxRecDepth 100000 in
theorem wordMade_walk {H : Type} {enc : TypeId × Value → H} (W : World) (base : Nat) {v0 v1 v2 : Value} {d0 d1 d2 : DataW H} {p0 p1 p2 : List MemPlace}
    (k0 : Value.okWide Tryd.prog W .any base 22 v0) (h0 : DataW.Trod enc Tryd.prog W 0 (fun _ => true) true 22 v0 d0 p0)
    (k1 : Value.okWide Tryd.prog W .any base 3 v1) (h1 : DataW.Trod enc Tryd.prog W 0 (fun _ => true) true 3 v1 d1 p1)
    (k2 : Value.okWide Tryd.prog W .any base 22 v2) (h2 : DataW.Trod enc Tryd.prog W 0 (fun _ => true) true 22 v2 d2 p2)
    (hL : laidMetH Tryd.prog wordMadeLaid W) :
    Calls Tryd.prog 4 #[v0, v1, v2] W fun e w' => e = .returned (.bool true) ∧ Below W.heap.size W w' := by
  obtain ⟨hT, hg⟩ := tab_of hL
  obtain ⟨x, rfl, _, _, wx⟩ := open_int Tryd.underlying22 k0 h0
  obtain ⟨i, rfl, _, _, wi⟩ := open_int Tryd.underlying3 k1 h1
  obtain ⟨y, rfl, _, _, wy⟩ := open_int Tryd.underlying22 k2 h2
  have hx : 0 ≤ x ∧ x ≤ 4294967295 := by simpa [Lit.wf, IntKind.min, IntKind.max, IntKind.signed, IntKind.bits] using wx
  have hy : 0 ≤ y ∧ y ≤ 4294967295 := by simpa [Lit.wf, IntKind.min, IntKind.max, IntKind.signed, IntKind.bits] using wy
  obtain ⟨x, rfl⟩ := Int.eq_ofNat_of_zero_le hx.1
  obtain ⟨y, rfl⟩ := Int.eq_ofNat_of_zero_le hy.1
  by_cases hi : 0 ≤ i ∧ i < 32
  · obtain ⟨k, rfl⟩ := Int.eq_ofNat_of_zero_le hi.1
    exact wordMade_in x y k W (by omega) (by omega) (by omega) hT hg
  · exact wordMade_out x y i W (by omega) (by omega) hi hT hg
end Go.Proofs.YtffhmlngnnfaeaaDoor
