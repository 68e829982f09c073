import Derived.Test.YtlpnobpgphmngaaGaussAdd
namespace Go.Proofs.Ytlpnobpgphmngaa
open Go.ChangeShapes Go.WideShapes Go.ChangeAt Go.RowKit
set_option linter.unusedVariables false
open Ieee in
theorem read_flip (x : Nat) (hx : x < 18446744073709551616) : double.read (if x < 9223372036854775808 then x + 9223372036854775808 else x - 9223372036854775808) = (double.read x).opposite := by
  have e5 : double.signWeight = 9223372036854775808 := by decide
  have e6 : double.leastPlace = -1074 := by decide
  unfold Format.read
  rw [e5]
  by_cases h : x < 9223372036854775808
  · rw [if_pos h]
    have h1 : (x + 9223372036854775808) % 9223372036854775808 = x % 9223372036854775808 := by omega
    have h2 : ((x + 9223372036854775808) / 9223372036854775808 % 2 == 1) = true := by simp; omega
    have h3 : (x / 9223372036854775808 % 2 == 1) = false := by simp; omega
    simp only [h1, h2, h3]
    split <;> (try split) <;> (try split) <;> rfl
  · rw [if_neg h]
    have h1 : (x - 9223372036854775808) % 9223372036854775808 = x % 9223372036854775808 := by omega
    have h2 : ((x - 9223372036854775808) / 9223372036854775808 % 2 == 1) = false := by simp; omega
    have h3 : (x / 9223372036854775808 % 2 == 1) = true := by simp; omega
    simp only [h1, h2, h3]
    split <;> (try split) <;> (try split) <;> rfl
theorem xor_top {x : Nat} (hx : x < 9223372036854775808) : x ^^^ 2 ^ 63 = x + 9223372036854775808 := by
  have e : x + 9223372036854775808 = 2 ^ 63 + x := by omega
  rw [e]
  apply Nat.eq_of_testBit_eq
  intro i
  rw [Nat.testBit_xor, Nat.testBit_two_pow]
  rcases Nat.lt_trichotomy i 63 with h | h | h
  · rw [Nat.testBit_two_pow_add_gt h]
    have : ¬ 63 = i := by omega
    simp [this]
  · subst h
    rw [Nat.testBit_two_pow_add_eq]
    simp
  · have h64 : 2 ^ 64 ≤ 2 ^ i := Nat.pow_le_pow_right (by omega) (by omega)
    rw [Nat.testBit_lt_two_pow (x := x) (by omega), Nat.testBit_lt_two_pow (x := 2 ^ 63 + x) (by omega)]
    have : ¬ 63 = i := by omega
    simp [this]
theorem xor_top2 {x : Nat} (h1 : 9223372036854775808 ≤ x) (hx : x < 18446744073709551616) : x ^^^ 2 ^ 63 = x - 9223372036854775808 := by
  have h := xor_top (x := x - 9223372036854775808) (by omega)
  have e : x - 9223372036854775808 + 9223372036854775808 = x := by omega
  rw [e] at h
  rw [← h, Nat.xor_assoc, Nat.xor_self, Nat.xor_zero, h]
theorem IsF.neg {x : Nat} {n : Int} (h : IsF x n) (hx : x < 18446744073709551616) : IsF (Op.negFloat .f64 x) (-n) := by
  have e : Op.negFloat .f64 x = if x < 9223372036854775808 then x + 9223372036854775808 else x - 9223372036854775808 := by
    show x ^^^ 2 ^ 63 = _
    by_cases hl : x < 9223372036854775808
    · rw [if_pos hl, xor_top hl]
    · rw [if_neg hl, xor_top2 (by omega) hx]
  rw [e]
  refine (isF_iff _ _).2 ?_
  rw [read_flip x hx]
  exact ((isF_iff _ _).1 h).opposite
theorem floatOfInt_lt (n : Int) : floatOfInt .f64 n < 18446744073709551616 := by
  have h := Ieee.Format.write_lt FloatKind.f64.format (.number (n < 0) n.natAbs 0)
  have e : 2 ^ FloatKind.f64.format.width = 18446744073709551616 := by decide
  rw [e] at h
  exact h
theorem gconj_no (a b : Int) (w : World) (h : rightB a b = false) :
    Calls Try.prog 37 #[.agg #[.int .i64 a, .int .i64 b]] w fun e w' => e = .returned (.tuple #[.agg #[.int .i64 0, .int .i64 0], .bool false]) ∧ Keeps (fun _ => False) w w' := by
  have H := Lib.hid h
  clear h
  go_enter Try.func37, Try.ntmps37
  go_wp2_with fail
  refine (right_any a b _).mono ?_
  rintro e w1 ⟨rfl, k1⟩
  rw [H.out]
  obtain ⟨h1, h2, k⟩ := kept2 k1
  obtain ⟨r0, r1, f0, f1, l2⟩ := two_cells h2
  have K := Lib.hid k
  clear k1 h1 h2 k
  go_wp2
  refine bodyPost_ret (v := .tuple #[.agg #[.int .i64 0, .int .i64 0], .bool false]) (by simp [results, Try.results37, go_sem, *]) rfl ⟨rfl, ?_⟩
  exact (K.out.setCell (.inr (by simp)) _).setCell (.inr (by simp)) _
theorem gconj_yes (a b : Int) (w : World) (h : rightB a b = true) :
    Calls Try.prog 37 #[.agg #[.int .i64 a, .int .i64 b]] w fun e w' => e = .returned (.tuple #[.agg #[.int .i64 a, .int .i64 (-b)], .bool true]) ∧ Keeps (fun _ => False) w w' := by
  have H := Lib.hid h
  have bd := right_bds h
  clear h
  go_enter Try.func37, Try.ntmps37
  go_wp2_with fail
  refine (right_any a b _).mono ?_
  rintro e w1 ⟨rfl, k1⟩
  rw [H.out]
  obtain ⟨h1, h2, k⟩ := kept2 k1
  obtain ⟨x0, x1, _, _, l1⟩ := two_cells h1
  have HB := Lib.hid (And.intro h2 k)
  clear k1 h1 h2 k
  go_wp2_with fail
  refine (plane_any a b _).mono ?_
  rintro e w2 ⟨rfl, k2⟩
  have hneg : ∀ w, (Op.unary .neg (.float .f64 (floatOfInt .f64 b))).run Try.prog w = .ok (.float .f64 (Op.negFloat .f64 (floatOfInt .f64 b))) w := fun w => by simp [Op.unary]
  have HF := Lib.hid (IsF.neg (plane_isF (a := b) (by omega)) (floatOfInt_lt b))
  have HR := Lib.hid (show rightB a (-b) = true by unfold rightB; simp; omega)
  go_wp2_with fail
  refine (whole_any _ _ a (-b) _ (plane_isF (by omega)) HF.out (by omega) (by omega)).mono ?_
  rintro e w3 ⟨rfl, k3⟩
  have h3 := (k2.trans k3).at HB.out.1 fun h => h
  obtain ⟨r0, r1, f0, f1, l3⟩ := two_cells h3
  have K := Lib.hid (HB.out.2.trans (k2.trans k3))
  rw [toldA, toldB, HR.out, if_pos rfl, if_pos rfl]
  clear h3 k2 k3
  go_wp2
  refine bodyPost_ret (v := .tuple #[.agg #[.int .i64 a, .int .i64 (-b)], .bool true]) (by simp [results, Try.results37, go_sem, *]) rfl ⟨rfl, ?_⟩
  exact (K.out.setCell (.inr (by simp)) _).setCell (.inr (by simp)) _
theorem gconj_any (a b : Int) (w : World) :
    Calls Try.prog 37 #[.agg #[.int .i64 a, .int .i64 b]] w fun e w' => e = .returned (if rightB a b then .tuple #[.agg #[.int .i64 a, .int .i64 (-b)], .bool true] else .tuple #[.agg #[.int .i64 0, .int .i64 0], .bool false]) ∧ Keeps (fun _ => False) w w' := by
  cases h : rightB a b
  · exact gconj_no a b w h
  · exact gconj_yes a b w h
/-- A number turned n times. -/
def turnN : Nat → Int × Int → Int × Int
  | 0, p => p
  | n + 1, p => (-(turnN n p).2, (turnN n p).1)
def turns (k : Int) : Nat := ((k.tmod 4 + 4).tmod 4).toNat
theorem turns_eq (k : Int) : (wrap64 (k.tmod 4 + 4)).tmod 4 = ((turns k : Nat) : Int) := by
  have h1 := Int.tmod_lt_of_pos k (show (0 : Int) < 4 by omega)
  have h2 := Int.lt_tmod_of_pos k (show (0 : Int) < 4 by omega)
  rw [IntWalk.wrap64_in _ ⟨by omega, by omega⟩]
  unfold turns
  rw [Int.toNat_of_nonneg (Int.tmod_nonneg _ (by omega))]
theorem turns_le (k : Int) : turns k ≤ 3 := by
  unfold turns
  have := Int.tmod_lt_of_pos (k.tmod 4 + 4) (show (0 : Int) < 4 by omega)
  omega
theorem turnN_bd (n : Nat) (p : Int × Int) {M : Nat} (h1 : p.1.natAbs ≤ M) (h2 : p.2.natAbs ≤ M) : (turnN n p).1.natAbs ≤ M ∧ (turnN n p).2.natAbs ≤ M := by
  induction n with
  | zero => exact ⟨h1, h2⟩
  | succ n ih => exact ⟨by show (-(turnN n p).2).natAbs ≤ M; rw [Int.natAbs_neg]; exact ih.2, ih.1⟩
theorem isF_zero : IsF 0 0 := ⟨false, 0, -1074, by decide, 1074, by decide, by rw [Int.zero_mul]; unfold Ieee.signed; rw [Nat.zero_shiftLeft]; rfl⟩
theorem isF_one : IsF 4607182418800017408 1 := ⟨false, 4503599627370496, -52, by decide, 52, by decide, by decide⟩
theorem gturn_no (a b k : Int) (w : World) (h : rightB a b = false) :
    Calls Try.prog 35 #[.agg #[.int .i64 a, .int .i64 b], .int .i64 k] w fun e w' => e = .returned (.tuple #[.agg #[.int .i64 0, .int .i64 0], .bool false]) ∧ Keeps (fun _ => False) w w' := by
  have H := Lib.hid h
  clear h
  go_enter Try.func35, Try.ntmps35
  go_wp2_with fail
  refine (right_any a b _).mono ?_
  rintro e w1 ⟨rfl, k1⟩
  rw [H.out]
  obtain ⟨h1, h2, k⟩ := kept2 k1
  obtain ⟨r0, r1, f0, f1, l2⟩ := two_cells h2
  have K := Lib.hid k
  clear k1 h1 h2 k
  go_wp2
  refine bodyPost_ret (v := .tuple #[.agg #[.int .i64 0, .int .i64 0], .bool false]) (by simp [results, Try.results35, go_sem, *]) rfl ⟨rfl, ?_⟩
  exact (K.out.setCell (.inr (by simp)) _).setCell (.inr (by simp)) _
theorem gturn_yes (a b k : Int) (w : World) (h : rightB a b = true) (hk : -9223372036854775808 ≤ k ∧ k ≤ 9223372036854775807) :
    Calls Try.prog 35 #[.agg #[.int .i64 a, .int .i64 b], .int .i64 k] w fun e w' => e = .returned (.tuple #[.agg #[.int .i64 (turnN (turns k) (a, b)).1, .int .i64 (turnN (turns k) (a, b)).2], .bool true]) ∧ Keeps (fun _ => False) w w' := by
  have H := Lib.hid h
  have bd := right_bds h
  clear h
  go_enter Try.func35, Try.ntmps35
  go_wp2_with fail
  refine (right_any a b _).mono ?_
  rintro e w1 ⟨rfl, k1⟩
  rw [H.out]
  obtain ⟨h1, h2, kk⟩ := kept2 k1
  obtain ⟨x0, x1, _, _, l1⟩ := two_cells h1
  have HB := Lib.hid (And.intro h2 kk)
  clear k1 h1 h2 kk
  go_wp2_with fail
  refine (plane_any a b _).mono ?_
  rintro e w2 ⟨rfl, k2⟩
  have HB2 := Lib.hid (And.intro (k2.at HB.out.1 fun h => h) (HB.out.2.trans k2))
  clear HB k2
  go_wp2_with fail
  rw [turns_eq k]
  have ht := turns_le k
  obtain ⟨T, hT⟩ : ∃ T, T = turns k := ⟨_, rfl⟩
  rw [← hT] at ht ⊢
  have HT := Lib.hid hT
  clear hT
  go_loop [6, 17] (fun z i => ∃ (j : Nat) (x y : Nat), j ≤ T ∧ i = .int .i64 j ∧ z = .complex .f64 x y ∧ IsF x (turnN j (a, b)).1 ∧ IsF y (turnN j (a, b)).2) (fun _ i => T - (intOf i).toNat)
  case atStart => exact ⟨0, _, _, by omega, rfl, rfl, plane_isF (by omega), plane_isF (by omega)⟩
  case round =>
    obtain ⟨j, x, y, hj, rfl, rfl, hx, hy⟩ := hrel
    have hbd := turnN_bd j (a, b) (M := 1048576) (show a.natAbs ≤ _ by omega) (show b.natAbs ≤ _ by omega)
    by_cases hlt : j < T
    · obtain ⟨re, im, hm, f1, f2⟩ := cmul_is (M := 1048576) (N := 1) hx hy isF_zero isF_one hbd.1 hbd.2 (by decide) (by decide) (by decide)
      have hmul := fun w => run_complex_mul (P := Try.prog) w 117 _ _ _ _ _ _ hm
      have HF := Lib.hid (And.intro f1 f2)
      clear hx hy hm f1 f2 hbd
      go_wp2
      go_round
      case rel =>
        refine ⟨j + 1, re, im, by omega, by go_num, rfl, ?_, ?_⟩
        · have := HF.out.1
          simpa [turnN] using this
        · have := HF.out.2
          simpa [turnN] using this
      case measure => simp [intOf]; omega
    · obtain rfl : j = T := by omega
      have HR := Lib.hid (show rightB (turnN j (a, b)).1 (turnN j (a, b)).2 = true by unfold rightB; simp; omega)
      have HW := Lib.hid (fun w => whole_any x y _ _ w hx hy (by omega) (by omega))
      clear hx hy hbd
      go_wp2_with fail
      refine (HW.out _).mono ?_
      rintro e w3 ⟨rfl, k3⟩
      have h3 := k3.at HB2.out.1 fun h => h
      obtain ⟨r0, r1, f0, f1, l3⟩ := two_cells h3
      have K := Lib.hid (HB2.out.2.trans k3)
      rw [toldA, toldB, HR.out, if_pos rfl, if_pos rfl]
      clear h3 k3 HW
      generalize hq : turnN j (a, b) = q at *
      have HQ := Lib.hid hq
      clear hq
      go_wp2
      refine bodyPost_ret (v := .tuple #[.agg #[.int .i64 q.1, .int .i64 q.2], .bool true]) (by simp [results, Try.results35, go_sem, *]) rfl ⟨by rw [← HT.out, HQ.out], ?_⟩
      exact (K.out.setCell (.inr (by simp)) _).setCell (.inr (by simp)) _
theorem gturn_any (a b k : Int) (w : World) (hk : -9223372036854775808 ≤ k ∧ k ≤ 9223372036854775807) :
    Calls Try.prog 35 #[.agg #[.int .i64 a, .int .i64 b], .int .i64 k] w fun e w' => e = .returned (if rightB a b then .tuple #[.agg #[.int .i64 (turnN (turns k) (a, b)).1, .int .i64 (turnN (turns k) (a, b)).2], .bool true] else .tuple #[.agg #[.int .i64 0, .int .i64 0], .bool false]) ∧ Keeps (fun _ => False) w w' := by
  cases h : rightB a b
  · exact gturn_no a b k w h
  · exact gturn_yes a b k w h hk
end Go.Proofs.Ytlpnobpgphmngaa
