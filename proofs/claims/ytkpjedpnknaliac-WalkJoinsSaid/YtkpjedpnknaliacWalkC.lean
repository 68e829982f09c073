import Derived.Test.YtkpjedpnknaliacWalkB
namespace Go.Proofs.Ytkpjedpnknaliac
open Go.ChangeShapes Go.WideShapes Go.ChangeAt Go.RowKit
set_option linter.unusedVariables false
theorem wThen_no (a b t c d u : Int) (w : World) (h : (rightW a b t && rightW c d u) = false) :
    Calls Try.prog 12 #[.agg #[.int .i64 a, .int .i64 b, .int .i64 t], .agg #[.int .i64 c, .int .i64 d, .int .i64 u]] w fun e w' => e = .returned (.tuple #[.agg #[.int .i64 0, .int .i64 0, .int .i64 0], .bool false]) ∧ Keeps (fun _ => False) w w' := by
  have H0 := Lib.hid (Two.new 53 53 w a b t c d u)
  have H := Lib.hid h
  clear h
  go_enter Try.func12, Try.ntmps12
  go_wp2_with fail
  refine (wright_any a b t _).mono ?_
  rintro e w1 ⟨rfl, k1⟩
  have H1 := Lib.hid (H0.out.none k1)
  obtain ⟨x0, x1, x2, _, _, _, l1⟩ := three_cells H1.out.one
  obtain ⟨y0, y1, y2, _, _, _, l2⟩ := three_cells H1.out.two
  obtain ⟨r0, r1, r2, f0, f1, f2, l3⟩ := three_cells H1.out.res
  clear k1 H0
  cases h1 : rightW a b t
  · go_wp2
    refine bodyPost_ret (v := .tuple #[.agg #[.int .i64 0, .int .i64 0, .int .i64 0], .bool false]) (by simp [results, Try.results12, go_sem, *]) rfl ⟨rfl, ?_⟩
    exact ((H1.out.keeps.setCell (.inr (by simp; omega)) _).setCell (.inr (by simp; omega)) _).setCell (.inr (by simp; omega)) _
  · have h2 : rightW c d u = false := by have := H.out; rw [h1] at this; simpa using this
    have HH2 := Lib.hid h2
    clear h1 h2
    go_wp2_with fail
    refine (wright_any c d u _).mono ?_
    rintro e w2 ⟨rfl, k2⟩
    rw [HH2.out]
    have H2 := Lib.hid (H1.out.none k2)
    obtain ⟨r0, r1, r2, f0, f1, f2, l3⟩ := three_cells H2.out.res
    clear k2 H1
    go_wp2
    refine bodyPost_ret (v := .tuple #[.agg #[.int .i64 0, .int .i64 0, .int .i64 0], .bool false]) (by simp [results, Try.results12, go_sem, *]) rfl ⟨rfl, ?_⟩
    exact ((H2.out.keeps.setCell (.inr (by simp; omega)) _).setCell (.inr (by simp; omega)) _).setCell (.inr (by simp; omega)) _
set_option maxHeartbeats 1000000 in
theorem wThen_yes (a b c d u : Int) (t : Nat) (w : World) (h1 : rightW a b (t : Int) = true) (h2 : rightW c d u = true) :
    Calls Try.prog 12 #[.agg #[.int .i64 a, .int .i64 b, .int .i64 (t : Int)], .agg #[.int .i64 c, .int .i64 d, .int .i64 u]] w fun e w' => ∃ p q v r, e = .returned (.tuple #[.agg #[.int .i64 p, .int .i64 q, .int .i64 v], .bool r]) ∧ r = rightW (a + (turnN t (c, d)).1) (b + (turnN t (c, d)).2) (((t : Int) + u).tmod 4) ∧ p = (if r then a + (turnN t (c, d)).1 else 0) ∧ q = (if r then b + (turnN t (c, d)).2 else 0) ∧ v = (if r then ((t : Int) + u).tmod 4 else 0) ∧ Keeps (fun _ => False) w w' := by
  have H0 := Lib.hid (Two.new 53 53 w a b (t : Int) c d u)
  have e1 := rightW_bds h1
  have e2 := rightW_bds h2
  have HT := Lib.hid (fun w => wthen_any a b c d u t w e1.1 e2.1 (by omega) e2.2)
  have H := Lib.hid (And.intro h1 h2)
  clear h1 h2 e1 e2
  obtain ⟨p, hp⟩ : ∃ p, p = a + (turnN t (c, d)).1 := ⟨_, rfl⟩
  obtain ⟨q, hq⟩ : ∃ q, q = b + (turnN t (c, d)).2 := ⟨_, rfl⟩
  obtain ⟨v, hv⟩ : ∃ v, v = ((t : Int) + u).tmod 4 := ⟨_, rfl⟩
  rw [← hp, ← hq, ← hv] at HT ⊢
  clear hp hq hv
  go_enter Try.func12, Try.ntmps12
  go_wp2_with fail
  refine (wright_any a b _ _).mono ?_
  rintro e w1 ⟨rfl, k1⟩
  rw [H.out.1]
  have H1 := Lib.hid (H0.out.none k1)
  obtain ⟨y0, y1, y2, _, _, _, l2⟩ := three_cells H1.out.two
  clear k1 H0
  go_wp2_with fail
  refine (wright_any c d u _).mono ?_
  rintro e w2 ⟨rfl, k2⟩
  rw [H.out.2]
  have H2 := Lib.hid (H1.out.none k2)
  clear k2 H1 y0 y1 y2 l2
  obtain ⟨x0, x1, x2, _, _, _, l1⟩ := three_cells H2.out.one
  obtain ⟨y0, y1, y2, _, _, _, l2⟩ := three_cells H2.out.two
  go_wp2_with fail
  refine (HT.out _).mono ?_
  rintro e w3 ⟨rfl, k3⟩
  have H3 := Lib.hid (H2.out.none k3)
  clear k3 H2 x0 x1 x2 y0 y1 y2 l1 l2
  cases hr : rightW p q v
  · have HR := Lib.hid (fun w => wchecked_no p q v w hr)
    have HRV := Lib.hid hr
    clear hr
    go_wp2_with fail
    refine (HR.out _).mono ?_
    rintro e w4 ⟨rfl, k4⟩
    have H4 := Lib.hid (H3.out.none k4)
    obtain ⟨r0, r1, r2, f0, f1, f2, l3⟩ := three_cells H4.out.res
    clear k4 H3
    go_wp2
    refine bodyPost_ret (v := .tuple #[.agg #[.int .i64 0, .int .i64 0, .int .i64 0], .bool false]) (by simp [results, Try.results12, go_sem, *]) rfl ⟨0, 0, 0, false, rfl, ?_, rfl, rfl, rfl, ?_⟩
    · exact HRV.out.symm
    exact ((H4.out.keeps.setCell (.inr (by simp; omega)) _).setCell (.inr (by simp; omega)) _).setCell (.inr (by simp; omega)) _
  · have HR := Lib.hid (fun w => wchecked_yes p q v w hr)
    have HRV := Lib.hid hr
    clear hr
    go_wp2_with fail
    refine (HR.out _).mono ?_
    rintro e w4 ⟨rfl, k4⟩
    have H4 := Lib.hid (H3.out.none k4)
    obtain ⟨r0, r1, r2, f0, f1, f2, l3⟩ := three_cells H4.out.res
    clear k4 H3
    go_wp2
    refine bodyPost_ret (v := .tuple #[.agg #[.int .i64 p, .int .i64 q, .int .i64 v], .bool true]) (by simp [results, Try.results12, go_sem, *]) rfl ⟨p, q, v, true, rfl, ?_, rfl, rfl, rfl, ?_⟩
    · exact HRV.out.symm
    exact ((H4.out.keeps.setCell (.inr (by simp; omega)) _).setCell (.inr (by simp; omega)) _).setCell (.inr (by simp; omega)) _
theorem wBack_no (a b t : Int) (w : World) (h : rightW a b t = false) :
    Calls Try.prog 15 #[.agg #[.int .i64 a, .int .i64 b, .int .i64 t]] w fun e w' => e = .returned (.tuple #[.agg #[.int .i64 0, .int .i64 0, .int .i64 0], .bool false]) ∧ Keeps (fun _ => False) w w' := by
  have H0 := Lib.hid (One.new 53 53 w a b t)
  have H := Lib.hid h
  clear h
  go_enter Try.func15, Try.ntmps15
  go_wp2_with fail
  refine (wright_any a b t _).mono ?_
  rintro e w1 ⟨rfl, k1⟩
  rw [H.out]
  have H1 := Lib.hid (H0.out.none k1)
  obtain ⟨r0, r1, r2, f0, f1, f2, l3⟩ := three_cells H1.out.res
  clear k1 H0
  go_wp2
  refine bodyPost_ret (v := .tuple #[.agg #[.int .i64 0, .int .i64 0, .int .i64 0], .bool false]) (by simp [results, Try.results15, go_sem, *]) rfl ⟨rfl, ?_⟩
  exact ((H1.out.keeps.setCell (.inr (by simp)) _).setCell (.inr (by simp)) _).setCell (.inr (by simp)) _
set_option maxHeartbeats 1000000 in
theorem wBack_yes (a b : Int) (t k : Nat) (w : World) (h1 : rightW a b (t : Int) = true) (hk : (4 - (t : Int)).tmod 4 = (k : Int)) (hk3 : k ≤ 3) :
    Calls Try.prog 15 #[.agg #[.int .i64 a, .int .i64 b, .int .i64 (t : Int)]] w fun e w' => e = .returned (.tuple #[.agg #[.int .i64 (-(turnN k (a, b)).1), .int .i64 (-(turnN k (a, b)).2), .int .i64 (k : Int)], .bool true]) ∧ Keeps (fun _ => False) w w' := by
  have H0 := Lib.hid (One.new 53 53 w a b (t : Int))
  have e1 := rightW_bds h1
  have hb := turnN_one_bd k
  have hbd := turnN_bd k (a, b) (M := 1048576) (show a.natAbs ≤ _ by omega) (show b.natAbs ≤ _ by omega)
  have n1 := IsF.neg (plane_isF (a := a) (by omega)) (floatOfInt_lt a)
  have n2 := IsF.neg (plane_isF (a := b) (by omega)) (floatOfInt_lt b)
  obtain ⟨re, im, hm, f1, f2⟩ := cmul_is (M := 1048576) (N := 1) n1 n2 (facW_is k).1 (facW_is k).2 (by omega) (by omega) hb.1 hb.2 (by decide)
  have hneg : ∀ w, (Op.unary .neg (.complex .f64 (floatOfInt .f64 a) (floatOfInt .f64 b))).run Try.prog w = .ok (.complex .f64 (Op.negFloat .f64 (floatOfInt .f64 a)) (Op.negFloat .f64 (floatOfInt .f64 b))) w := fun w => by simp [Op.unary]
  have hmul := fun w => run_complex_mul (P := Try.prog) w 78 _ _ _ _ _ _ hm
  have m1 : -a * (turnN k (1, 0)).1 - -b * (turnN k (1, 0)).2 = -(turnN k (a, b)).1 := by rw [(turn_mul k hk3 a b).1]; simp only [Int.neg_mul]; omega
  have m2 : -a * (turnN k (1, 0)).2 + -b * (turnN k (1, 0)).1 = -(turnN k (a, b)).2 := by rw [(turn_mul k hk3 a b).2]; simp only [Int.neg_mul]; omega
  rw [m1] at f1
  rw [m2] at f2
  clear m1 m2
  generalize (turnN k (a, b)).1 = p at *
  generalize (turnN k (a, b)).2 = q at *
  have HW := Lib.hid (fun w => wwhole_any re im (-p) (-q) w f1 f2 (by omega) (by omega))
  have HF := Lib.hid (fun w => facing_any k w (by omega))
  have HC := Lib.hid (fun w => wchecked_yes (-p) (-q) (k : Int) w (rightW_of (by omega) (by omega)))
  generalize facW k = fw at *
  have W1 : wrap64 (4 - (t : Int)) = 4 - (t : Int) := by rw [IntWalk.wrap64_in _ ⟨by omega, by omega⟩]
  have W2 : IntKind.i64.wrap (4 - (t : Int)) = 4 - (t : Int) := by rw [IntWalk.i64_in _ ⟨by omega, by omega⟩]
  have H := Lib.hid h1
  clear h1 e1 hb hbd n1 n2 hm f1 f2
  go_enter Try.func15, Try.ntmps15
  go_wp2_with fail
  refine (wright_any a b _ _).mono ?_
  rintro e w1 ⟨rfl, k1⟩
  rw [H.out]
  have H1 := Lib.hid (H0.out.none k1)
  obtain ⟨x0, x1, x2, _, _, _, l1⟩ := three_cells H1.out.one
  clear k1 H0
  go_wp2_with fail
  refine (wplane_any a b _).mono ?_
  rintro e w2 ⟨rfl, k2⟩
  have H2 := Lib.hid (H1.out.none k2)
  clear k2 H1 x0 x1 x2 l1
  go_wp2_with fail
  refine (HF.out _).mono ?_
  rintro e w3 ⟨rfl, k3⟩
  have H3 := Lib.hid (H2.out.none k3)
  clear k3 H2
  go_wp2_with fail
  refine (HW.out _).mono ?_
  rintro e w4 ⟨rfl, k4⟩
  have H4 := Lib.hid (H3.out.none k4)
  clear k4 H3
  go_wp2_with fail
  refine (HC.out _).mono ?_
  rintro e w5 ⟨rfl, k5⟩
  have H5 := Lib.hid (H4.out.none k5)
  obtain ⟨r0, r1, r2, f0, f1, f2, l3⟩ := three_cells H5.out.res
  clear k5 H4
  go_wp2
  refine bodyPost_ret (v := .tuple #[.agg #[.int .i64 (-p), .int .i64 (-q), .int .i64 (k : Int)], .bool true]) (by simp [results, Try.results15, go_sem, *]) rfl ⟨rfl, ?_⟩
  exact ((H5.out.keeps.setCell (.inr (by simp)) _).setCell (.inr (by simp)) _).setCell (.inr (by simp)) _
end Go.Proofs.Ytkpjedpnknaliac
