import Derived.Test.YtkpjedpnknaliacWalk
namespace Go.Proofs.Ytkpjedpnknaliac
open Go.ChangeShapes Go.WideShapes Go.ChangeAt Go.RowKit
set_option linter.unusedVariables false
set_option maxHeartbeats 1000000 in
theorem wthen_any (a b c d u : Int) (t : Nat) (w : World) (ha : (-1048576 ≤ a ∧ a ≤ 1048576) ∧ (-1048576 ≤ b ∧ b ≤ 1048576)) (hc : (-1048576 ≤ c ∧ c ≤ 1048576) ∧ (-1048576 ≤ d ∧ d ≤ 1048576)) (ht : t ≤ 3) (hu : 0 ≤ u ∧ u ≤ 3) :
    Calls Try.prog 38 #[.agg #[.int .i64 a, .int .i64 b, .int .i64 (t : Int)], .agg #[.int .i64 c, .int .i64 d, .int .i64 u]] w fun e w' => e = .returned (.agg #[.int .i64 (a + (turnN t (c, d)).1), .int .i64 (b + (turnN t (c, d)).2), .int .i64 (((t : Int) + u).tmod 4)]) ∧ Keeps (fun _ => False) w w' := by
  have HB := Lib.hid ((Two.new 53 53 w a b (t : Int) c d u).none (Keeps.refl _ _).drew)
  have hb := turnN_one_bd t
  have hbd := turnN_bd t (c, d) (M := 1048576) (show c.natAbs ≤ _ by omega) (show d.natAbs ≤ _ by omega)
  obtain ⟨re, im, hm, f1, f2⟩ := cmul_is (M := 1048576) (N := 1) (plane_isF (a := c) (by omega)) (plane_isF (a := d) (by omega)) (facW_is t).1 (facW_is t).2 (by omega) (by omega) hb.1 hb.2 (by decide)
  rw [← (turn_mul t ht c d).1] at f1
  rw [← (turn_mul t ht c d).2] at f2
  generalize (turnN t (c, d)).1 = p at *
  generalize (turnN t (c, d)).2 = q at *
  obtain ⟨rs, is, hs, g1, g2⟩ := csum_is (op := .add) (.inl rfl) (plane_isF (a := a) (by omega)) (plane_isF (a := b) (by omega)) f1 f2 (· + ·) rfl (by show (a + p).natAbs ≤ _; omega) (by show (b + q).natAbs ≤ _; omega)
  have hmul := fun w => run_complex_mul (P := Try.prog) w 78 _ _ _ _ _ _ hm
  have hadd := fun w => run_complex_sum (P := Try.prog) w .add (.inl rfl) 78 .f64 _ _ _ _ _ _ hs
  have HW := Lib.hid (fun w => wwhole_any rs is (a + p) (b + q) w g1 g2 (by omega) (by omega))
  have HF := Lib.hid (fun w => facing_any t w (by omega))
  generalize facW t = fw at *
  have W1 : wrap64 ((t : Int) + u) = (t : Int) + u := by rw [IntWalk.wrap64_in _ ⟨by omega, by omega⟩]
  have W2 : IntKind.i64.wrap ((t : Int) + u) = (t : Int) + u := by rw [IntWalk.i64_in _ ⟨by omega, by omega⟩]
  have ne1 : ¬ w.heap.size = w.heap.size + 1 + 1 := by omega
  have ne2 : ¬ w.heap.size + 1 + 1 = w.heap.size := by omega
  clear hm hs f1 f2 g1 g2 hb hbd ha hc
  go_enter Try.func38, Try.ntmps38
  go_wp2_with fail
  go_region_held3 (fun w' => w'.cell? ⟨w.heap.size, 0, none⟩ = some (.int .i64 a) ∧ w'.cell? ⟨w.heap.size, 1, none⟩ = some (.int .i64 b) ∧ w'.cell? ⟨w.heap.size, 2, none⟩ = some (.int .i64 (t : Int)) ∧ w'.cell? ⟨w.heap.size + 1, 0, none⟩ = some (.int .i64 c) ∧ w'.cell? ⟨w.heap.size + 1, 1, none⟩ = some (.int .i64 d) ∧ w'.cell? ⟨w.heap.size + 1, 2, none⟩ = some (.int .i64 u))
    (first
      | go_keep
      | exact ⟨(three_cells HB.out.one).1, (three_cells HB.out.one).2.1, (three_cells HB.out.one).2.2.1, (three_cells HB.out.two).1, (three_cells HB.out.two).2.1, (three_cells HB.out.two).2.2.1⟩
      | ((try dsimp only); (repeat' apply And.intro) <;> go_keep))
    (first
      | (go_at_call 42; refine (wplane_any _ _ _).mono ?_; rintro e w3 ⟨rfl, k3⟩; replace HB := Lib.hid (HB.out.none k3); clear k3)
      | (go_at_call 43; refine (HF.out _).mono ?_; rintro e w3 ⟨rfl, k3⟩; replace HB := Lib.hid (HB.out.none k3); clear k3)
      | (go_at_call 41; refine (HW.out _).mono ?_; rintro e w3 ⟨rfl, k3⟩; replace HB := Lib.hid (HB.out.none k3); obtain ⟨r0, r1, r2, f0, f1, f2, l3⟩ := three_cells HB.out.res; clear k3))
  all_goals
    go_wp2
    refine bodyPost_ret (v := .agg #[.int .i64 (a + p), .int .i64 (b + q), .int .i64 (((t : Int) + u).tmod 4)]) (by simp [results, Try.results38, go_sem, *]) rfl ⟨rfl, ?_⟩
    exact ((HB.out.keeps.setCell (.inr (by simp; omega)) _).setCell (.inr (by simp; omega)) _).setCell (.inr (by simp; omega)) _
end Go.Proofs.Ytkpjedpnknaliac
