import Derived.Test.YtccjbgjemfcedabGaussQuo
import Derived.BigRegion
namespace Go.Proofs.Ytccjbgjemfcedab
open Go.ChangeShapes Go.WideShapes Go.ChangeAt Go.RowKit
set_option linter.unusedVariables false
set_option linter.unusedSimpArgs false
set_option maxHeartbeats 1000000 in
theorem gdiv_zero (a b d N P Q p q r s : Int) (w : World) (h1 : rightB a b = true) (h2 : rightB 0 d = true) (hc : ¬ d = 0)
    (hN : 0 * 0 + d * d = N) (hP : a * 0 - b * -d = P) (hQ : a * -d + b * 0 = Q) (hp : (2 * P + N) / (2 * N) = p) (hq : (2 * Q + N) / (2 * N) = q)
    (bN : 0 < N ∧ N ≤ 4398046511104) (bP : P.natAbs ≤ 4398046511104) (bQ : Q.natAbs ≤ 4398046511104) (bp : p.natAbs ≤ 4194304) (bq : q.natAbs ≤ 4194304)
    (hr : a - (p * 0 - q * d) = r) (hs : b - (p * d + q * 0) = s) (br : r.natAbs ≤ 4398046511104) (bs : s.natAbs ≤ 4398046511104) (h3 : rightB r s = true) (h4 : rightB p q = true) :
    Calls Try.prog 6 #[.agg #[.int .i64 a, .int .i64 b], .agg #[.int .i64 0, .int .i64 d]] w fun e w' => e = .returned (.tuple #[.agg #[.int .i64 p, .int .i64 q], .agg #[.int .i64 r, .int .i64 s], .bool true]) ∧ Keeps (fun _ => False) w w' := by
  have H0 := Lib.hid (DivAt.new w a b 0 d)
  have H := Lib.hid (And.intro h1 h2)
  have H34 := Lib.hid (And.intro h3 h4)
  have bd1 := right_bds h1
  have bd2 := right_bds h2
  have HN := Lib.hid hN
  obtain ⟨re, im, hm, f1, f2⟩ := cmul_is (M := 1048576) (N := 1048576) (plane_isF (a := a) (by omega)) (plane_isF (a := b) (by omega)) (plane_isF (a := 0) (by omega)) (IsF.neg (plane_isF (a := d) (by omega)) (floatOfInt_lt d)) (by omega) (by omega) (by omega) (by omega) (by decide)
  have hmul := fun w => run_complex_mul (P := Try.prog) w 69 _ _ _ _ _ _ hm
  have hneg : ∀ w, (Op.unary .neg (.float .f64 (floatOfInt .f64 d))).run Try.prog w = .ok (.float .f64 (Op.negFloat .f64 (floatOfInt .f64 d))) w := fun w => by simp [Op.unary]
  rw [hP] at f1
  rw [hQ] at f2
  have HG := Lib.hid (fun b w h => And.intro (ground_any re P N b w f1 bP bN.1 bN.2 h) (ground_any im Q N b w f2 bQ bN.1 bN.2 h))
  rw [hp, hq] at HG
  clear hm f1 f2 hP hQ bP bQ
  obtain ⟨re2, im2, hm2, f3, f4⟩ := cmul_is (M := 4194304) (N := 1048576) (plane_isF (a := p) (by omega)) (plane_isF (a := q) (by omega)) (plane_isF (a := 0) (by omega)) (plane_isF (a := d) (by omega)) (by omega) (by omega) (by omega) (by omega) (by decide)
  have hmul2 := fun w => run_complex_mul (P := Try.prog) w 69 _ _ _ _ _ _ hm2
  obtain ⟨re3, im3, hm3, f5, f6⟩ := csum_is (op := .sub) (.inr rfl) (plane_isF (a := a) (by omega)) (plane_isF (a := b) (by omega)) f3 f4 (· - ·) rfl (by show (a - (p * 0 - q * d)).natAbs ≤ _; omega) (by show (b - (p * d + q * 0)).natAbs ≤ _; omega)
  have hsub := fun w => run_complex_sum (P := Try.prog) w .sub (.inr rfl) 69 .f64 _ _ _ _ _ _ hm3
  have f5' : IsF re3 r := hr ▸ f5
  have f6' : IsF im3 s := hs ▸ f6
  have HW := Lib.hid (fun w => whole_any re3 im3 r s w f5' f6' (by omega) (by omega))
  clear hm2 hm3 f3 f4 f5 f6 f5' f6' hr hs br bs bp bq hp hq
  clear h1 h2 h3 h4 hN
  go_enter Try.func6, Try.ntmps6
  go_wp2_with fail
  refine (right_any _ _ _).mono ?_
  rintro e w1 ⟨rfl, k1⟩
  rw [H.out.1]
  have H1 := Lib.hid (H0.out.none k1)
  obtain ⟨y0, y1, _, _, l2⟩ := two_cells H1.out.two
  clear k1 H0
  go_wp2_with fail
  refine (right_any _ _ _).mono ?_
  rintro e w2 ⟨rfl, k2⟩
  rw [H.out.2]
  have H2 := Lib.hid (H1.out.none k2)
  clear k2 H1 y0 y1 l2
  obtain ⟨y0, y1, _, _, l2⟩ := two_cells H2.out.two
  go_wp2_with fail
  refine (norm_any _ _ _).mono ?_
  rintro e w3 ⟨rfl, k3⟩
  rw [H.out.2, if_pos rfl, HN.out]
  have H3 := Lib.hid (H2.out.none k3)
  clear k3 H2 y0 y1 l2
  have H4 := Lib.hid (H3.out.norm N)
  have HB := Lib.hid (H4.out.none (Keeps.refl _ _).drew)
  obtain ⟨x0, x1, _, _, l1⟩ := two_cells H3.out.one
  obtain ⟨y0, y1, _, _, l2⟩ := two_cells H3.out.two
  go_wp2_with fail
  have ne1 : ¬ w.heap.size = w.heap.size + 1 + 1 := by omega
  have ne2 : ¬ w.heap.size + 1 + 1 = w.heap.size := by omega
  go_region_held3 (fun w' => w'.cell? ⟨w.heap.size, 0, none⟩ = some (.int .i64 a) ∧ w'.cell? ⟨w.heap.size, 1, none⟩ = some (.int .i64 b) ∧ w'.cell? ⟨w.heap.size + 1, 0, none⟩ = some (.int .i64 0) ∧ w'.cell? ⟨w.heap.size + 1, 1, none⟩ = some (.int .i64 d))
    (first
      | go_keep
      | exact ⟨(two_cells HB.out.at_.one).1, (two_cells HB.out.at_.one).2.1, (two_cells HB.out.at_.two).1, (two_cells HB.out.at_.two).2.1⟩
      | ((try dsimp only); (repeat' apply And.intro) <;> go_keep))
    (first
      | (go_at_call 28; refine (plane_any _ _ _).mono ?_; rintro e w4 ⟨rfl, k4⟩; replace HB := Lib.hid (HB.out.none k4); clear k4))
  go_wp2_with fail
  all_goals
    refine (HG.out _ _ (cell_of HB.out.nb 0)).1.mono ?_
    rintro e w5 ⟨rfl, k5⟩
    replace HB := Lib.hid (HB.out.none k5)
    clear k5
    go_wp2_with fail
    refine (HG.out _ _ (cell_of HB.out.nb 0)).2.mono ?_
    rintro e w6 ⟨rfl, k6⟩
    replace HB := Lib.hid (HB.out.none k6)
    clear k6
    obtain ⟨z0, z1, g0, g1, l3⟩ := two_cells HB.out.at_.quo
    obtain ⟨x0', x1', _, _, l1'⟩ := two_cells HB.out.at_.one
    obtain ⟨y0', y1', _, _, l2'⟩ := two_cells HB.out.at_.two
    have ne3 : ¬ w.heap.size + 1 = w.heap.size + 1 + 1 + 1 := by omega
    have ne4 : ¬ w.heap.size = w.heap.size + 1 + 1 + 1 := by omega
    have ne5 : ¬ w.heap.size + 1 + 1 + 1 = w.heap.size := by omega
    have ne6 : ¬ w.heap.size + 1 + 1 + 1 = w.heap.size + 1 := by omega
    go_wp2_with fail
    replace HB := Lib.hid ((HB.out.setQ (p' := p) (q' := q)).none (Keeps.refl _ _).drew)
    have t1 := (two_cells HB.out.at_.quo).1
    have t2 := (two_cells HB.out.at_.quo).2.1
    go_region_held3 (fun w' => w'.cell? ⟨w.heap.size, 0, none⟩ = some (.int .i64 a) ∧ w'.cell? ⟨w.heap.size, 1, none⟩ = some (.int .i64 b) ∧ w'.cell? ⟨w.heap.size + 1, 0, none⟩ = some (.int .i64 0) ∧ w'.cell? ⟨w.heap.size + 1, 1, none⟩ = some (.int .i64 d) ∧ w'.cell? ⟨w.heap.size + 1 + 1, 0, none⟩ = some (.int .i64 p) ∧ w'.cell? ⟨w.heap.size + 1 + 1, 1, none⟩ = some (.int .i64 q))
      (first
        | go_keep
        | exact ⟨(two_cells HB.out.at_.one).1, (two_cells HB.out.at_.one).2.1, (two_cells HB.out.at_.two).1, (two_cells HB.out.at_.two).2.1, (two_cells HB.out.at_.quo).1, (two_cells HB.out.at_.quo).2.1⟩
        | ((try dsimp only); (repeat' apply And.intro) <;> go_keep))
      (first
        | (go_at_call 28; refine (plane_any _ _ _).mono ?_; rintro e w7 ⟨rfl, k7⟩; replace HB := Lib.hid (HB.out.none k7); clear k7)
        | (go_at_call 31; refine (HW.out _).mono ?_; rintro e w7 ⟨rfl, k7⟩; replace HB := Lib.hid (HB.out.none k7); obtain ⟨r0, r1, f0, f1, l3⟩ := two_cells HB.out.at_.rest; rw [toldA, toldB, H34.out.1, if_pos rfl, if_pos rfl]; clear k7))
    all_goals
      have HR := Lib.hid (HB.out.at_.setR (r' := r) (s' := s))
      obtain ⟨q0, q1, _, _, lq⟩ := two_cells HR.out.quo
      go_wp2_with fail
      refine (right_any p q _).mono ?_
      rintro e w8 ⟨rfl, k8⟩
      rw [H34.out.2]
      have HE := Lib.hid (HR.out.none k8)
      obtain ⟨q0', q1', gq0, gq1, lq'⟩ := two_cells HE.out.quo
      obtain ⟨r0', r1', gr0, gr1, lr'⟩ := two_cells HE.out.rest
      clear k8
      clear HB x0 x1 y0 y1 x0' x1' y0' y1' z0 z1 g0 g1
      have ne7 : ¬ w.heap.size + 1 + 1 + 1 = w.heap.size + 1 + 1 := by omega
      have ne8 : ¬ w.heap.size + 1 + 1 = w.heap.size + 1 + 1 + 1 := by omega
      go_wp2_with fail
      go_region
      all_goals
        have HX := Lib.hid (((HE.out.setQ (p' := p) (q' := q)).setR (r' := r) (s' := s)).none (Keeps.refl _ _).drew)
        obtain ⟨q2, q3, _, _, _⟩ := two_cells HX.out.quo
        obtain ⟨r2, r3, _, _, _⟩ := two_cells HX.out.rest
        go_wp2
        refine bodyPost_ret (v := .tuple #[.agg #[.int .i64 p, .int .i64 q], .agg #[.int .i64 r, .int .i64 s], .bool true]) (by simp [results, Try.results6, go_sem, *]) rfl ⟨rfl, ?_⟩
        exact HX.out.keeps
end Go.Proofs.Ytccjbgjemfcedab
