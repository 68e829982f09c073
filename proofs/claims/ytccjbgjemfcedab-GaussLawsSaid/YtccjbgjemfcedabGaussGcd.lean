import Derived.Test.YtccjbgjemfcedabGaussQuoZ
import Derived.Test.YtccjbgjemfcedabGaussZ
import Derived.Laws.StructEq
namespace Go.Proofs.Ytccjbgjemfcedab
open Go.ChangeShapes Go.WideShapes Go.ChangeAt Go.RowKit
set_option linter.unusedVariables false
set_option linter.unusedSimpArgs false
/-- Are two numbers the same? -/
def eqN (a b c d : Int) : Bool := decide (a = c ∧ b = d)
theorem eqn (a b c d : Int) (w : World) : (Op.equalIn 10000 24 (.agg #[.int .i64 a, .int .i64 b]) (.agg #[.int .i64 c, .int .i64 d])).run Try.prog w = .ok (eqN a b c d) w := by
  have u3 := Try.underlying3
  have a3 := Try.isAgg3
  have z3 := Try.sizeOf3
  have hS : Try.prog.underlying 24 = some (.struct (Try.prog.fieldsOf 24)) := by kernel_rfl
  have hp : Try.prog.stoodInHeld 24 = false := by kernel_rfl
  rw [show (10000 : Nat) = 9999 + 1 from rfl, run_equalIn_agg w 9999 24 _ _ hS hp]
  simp only [Program.fieldsOf, Try.underlying24]
  go_simp
  simp only [eqN]
  by_cases h1 : a = c <;> by_cases h2 : b = d <;> simp [h1, h2]
attribute [local go_sem ↓ 2000] eqn
theorem inR_of {a b : Int} (h : rightB a b = true) : inR a ∧ inR b := by
  have := of_decide_eq_true h
  exact this
theorem right_of {a b : Int} (ha : inR a) (hb : inR b) : rightB a b = true := decide_eq_true ⟨ha, hb⟩
theorem gdivs (a b c d : Int) (h1 : rightB a b = true) (h2 : rightB c d = true) (hn : ¬ (c = 0 ∧ d = 0)) : ∃ p q r s : Int,
    (∀ w, Calls Try.prog 6 #[.agg #[.int .i64 a, .int .i64 b], .agg #[.int .i64 c, .int .i64 d]] w fun e w' => e = .returned (.tuple #[.agg #[.int .i64 p, .int .i64 q], .agg #[.int .i64 r, .int .i64 s], .bool true]) ∧ Keeps (fun _ => False) w w') ∧
      a - (p * c - q * d) = r ∧ b - (p * d + q * c) = s ∧ 2 * (r * r + s * s) ≤ c * c + d * d ∧ rightB r s = true ∧ rightB p q = true := by
  obtain ⟨ha, hb⟩ := inR_of h1
  obtain ⟨hc, hd⟩ := inR_of h2
  obtain ⟨bN, bN2, bP, bQ, hp, hq, hrs, hr, hs⟩ := z_div ha hb hc hd hn rfl rfl rfl rfl rfl
  refine ⟨_, _, _, _, fun w => ?_, rfl, rfl, hrs, right_of hr hs, right_of hp hq⟩
  have kp : ∀ x : Int, inR x → x.natAbs ≤ 4194304 ∧ x.natAbs ≤ 4398046511104 := fun x hx => by unfold inR at hx; omega
  by_cases hc0 : c = 0
  · subst hc0
    exact gdiv_zero a b d _ _ _ _ _ _ _ w h1 h2 (fun h => hn ⟨rfl, h⟩) rfl rfl rfl rfl rfl ⟨bN, by omega⟩ bP bQ (kp _ hp).1 (kp _ hq).1 rfl rfl (kp _ hr).2 (kp _ hs).2 (right_of hr hs) (right_of hp hq)
  · exact gdiv_of a b c d _ _ _ _ _ _ _ w h1 h2 hc0 rfl rfl rfl rfl rfl ⟨bN, by omega⟩ bP bQ (kp _ hp).1 (kp _ hq).1 rfl rfl (kp _ hr).2 (kp _ hs).2 (right_of hr hs) (right_of hp hq)
set_option maxHeartbeats 1000000 in
theorem gdiv_bad (a b c d : Int) (w : World) (h : ¬ (rightB a b = true ∧ rightB c d = true ∧ ¬ (c = 0 ∧ d = 0))) :
    Calls Try.prog 6 #[.agg #[.int .i64 a, .int .i64 b], .agg #[.int .i64 c, .int .i64 d]] w fun e w' => e = .returned (.tuple #[.agg #[.int .i64 0, .int .i64 0], .agg #[.int .i64 0, .int .i64 0], .bool false]) ∧ Keeps (fun _ => False) w w' := by
  have H0 := Lib.hid (DivAt.new w a b c d)
  cases e1 : rightB a b with
  | false =>
    have E1 := Lib.hid e1
    clear h e1
    go_enter Try.func6, Try.ntmps6
    go_wp2_with fail
    refine (right_any _ _ _).mono ?_
    rintro e w1 ⟨rfl, k1⟩
    rw [E1.out]
    have H1 := Lib.hid (H0.out.none k1)
    obtain ⟨z0, z1, g0, g1, l3⟩ := two_cells H1.out.quo
    obtain ⟨r0, r1, f0, f1, l4⟩ := two_cells H1.out.rest
    have ne1 : ¬ w.heap.size + 1 + 1 = w.heap.size + 1 + 1 + 1 := by omega
    have ne2 : ¬ w.heap.size + 1 + 1 + 1 = w.heap.size + 1 + 1 := by omega
    clear k1 H0
    go_wp2
    have HX := (H1.out.setQ (p' := 0) (q' := 0)).setR (r' := 0) (s' := 0)
    obtain ⟨q2, q3, _, _, _⟩ := two_cells HX.quo
    obtain ⟨q4, q5, _, _, _⟩ := two_cells HX.rest
    refine bodyPost_ret (v := .tuple #[.agg #[.int .i64 0, .int .i64 0], .agg #[.int .i64 0, .int .i64 0], .bool false]) ?_ rfl ⟨rfl, HX.keeps⟩
    simp [results, Try.results6, go_sem, q2, q3, q4, q5]
  | true =>
    have E1 := Lib.hid e1
    cases e2 : rightB c d with
    | false =>
      have E2 := Lib.hid e2
      clear h e1 e2
      go_enter Try.func6, Try.ntmps6
      go_wp2_with fail
      refine (right_any _ _ _).mono ?_
      rintro e w1 ⟨rfl, k1⟩
      rw [E1.out]
      have H1 := Lib.hid (H0.out.none k1)
      obtain ⟨y0, y1, _, _, l2⟩ := two_cells H1.out.two
      clear k1 H0
      go_wp2_with fail
      refine (right_any _ _ _).mono ?_
      rintro e w2 ⟨rfl, k2⟩
      rw [E2.out]
      have H2 := Lib.hid (H1.out.none k2)
      clear k2 H1 y0 y1 l2
      obtain ⟨z0, z1, g0, g1, l3⟩ := two_cells H2.out.quo
      obtain ⟨r0, r1, f0, f1, l4⟩ := two_cells H2.out.rest
      have ne1 : ¬ w.heap.size + 1 + 1 = w.heap.size + 1 + 1 + 1 := by omega
      have ne2 : ¬ w.heap.size + 1 + 1 + 1 = w.heap.size + 1 + 1 := by omega
      go_wp2
      have HX := (H2.out.setQ (p' := 0) (q' := 0)).setR (r' := 0) (s' := 0)
      obtain ⟨q2, q3, _, _, _⟩ := two_cells HX.quo
      obtain ⟨q4, q5, _, _, _⟩ := two_cells HX.rest
      refine bodyPost_ret (v := .tuple #[.agg #[.int .i64 0, .int .i64 0], .agg #[.int .i64 0, .int .i64 0], .bool false]) ?_ rfl ⟨rfl, HX.keeps⟩
      simp [results, Try.results6, go_sem, q2, q3, q4, q5]
    | true =>
      have E2 := Lib.hid e2
      have hz : c = 0 ∧ d = 0 := by
        by_cases hz : c = 0 ∧ d = 0
        · exact hz
        · exact absurd ⟨e1, e2, hz⟩ h
      obtain ⟨rfl, rfl⟩ := hz
      have he : eqN 0 0 0 0 = true := rfl
      clear h e1 e2
      go_enter Try.func6, Try.ntmps6
      go_wp2_with fail
      refine (right_any _ _ _).mono ?_
      rintro e w1 ⟨rfl, k1⟩
      rw [E1.out]
      have H1 := Lib.hid (H0.out.none k1)
      obtain ⟨y0, y1, _, _, l2⟩ := two_cells H1.out.two
      clear k1 H0
      go_wp2_with fail
      refine (right_any _ _ _).mono ?_
      rintro e w2 ⟨rfl, k2⟩
      rw [E2.out]
      have H2 := Lib.hid (H1.out.none k2)
      clear k2 H1 y0 y1 l2
      obtain ⟨y0, y1, _, _, l2⟩ := two_cells H2.out.two
      obtain ⟨z0, z1, g0, g1, l3⟩ := two_cells H2.out.quo
      obtain ⟨r0, r1, f0, f1, l4⟩ := two_cells H2.out.rest
      have ne1 : ¬ w.heap.size + 1 + 1 = w.heap.size + 1 + 1 + 1 := by omega
      have ne2 : ¬ w.heap.size + 1 + 1 + 1 = w.heap.size + 1 + 1 := by omega
      go_wp2
      have HX := (H2.out.setQ (p' := 0) (q' := 0)).setR (r' := 0) (s' := 0)
      obtain ⟨q2, q3, _, _, _⟩ := two_cells HX.quo
      obtain ⟨q4, q5, _, _, _⟩ := two_cells HX.rest
      refine bodyPost_ret (v := .tuple #[.agg #[.int .i64 0, .int .i64 0], .agg #[.int .i64 0, .int .i64 0], .bool false]) ?_ rfl ⟨rfl, HX.keeps⟩
      simp [results, Try.results6, go_sem, q2, q3, q4, q5]
end Go.Proofs.Ytccjbgjemfcedab
