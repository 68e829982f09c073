import Derived.Test.YtjpbfmhfjlbcgaaRotorG
namespace Go.Proofs.Ytjpbfmhfjlbcgaa
open Go.ChangeShapes Go.WideShapes Go.ChangeAt Go.RowKit
set_option linter.unusedVariables false
set_option linter.unusedSimpArgs false
set_option maxRecDepth 20000 in
set_option maxHeartbeats 2000000 in
theorem ptake_no (x y a b c d p n levels calm : Int) (w : World) (h : ¬ (rightR x y a b c d p = true ∧ 0 ≤ n ∧ n ≤ 65536 ∧ 0 ≤ levels ∧ levels ≤ 31 ∧ 1 ≤ calm ∧ calm ≤ 1000)) :
    Calls Try.prog 15 #[.agg (rCells x y a b c d p), .int .i64 n, .int .i64 levels, .int .i64 calm] w fun e w' => e = .returned (.tuple #[.slice none 0 0, .agg #[.int .i64 0, .int .i64 0, .int .i64 0, .int .i64 0, .int .i64 0, .int .i64 0, .int .i64 0], .bool false]) ∧ Keeps (fun _ => False) w w' := by
  have H0 := Lib.hid (RB.new 29 w x y a b c d p)
  cases hr : rightR x y a b c d p
  · have HR := Lib.hid hr
    clear hr h
    go_enter Try.func15, Try.ntmps15
    go_wp2_with fail
    refine (pright_any _ _ _ _ _ _ _ _).mono ?_
    rintro e w1 ⟨rfl, k1⟩
    rw [HR.out]
    have H1 := Lib.hid (H0.out.none k1)
    clear k1
    obtain ⟨r0, r1, r2, r3, r4, r5, r6⟩ := seven_cells H1.out.res
    obtain ⟨g0, g1, g2, g3, g4, g5, g6, lr⟩ := seven_free H1.out.res
    go_wp2
    exact bodyPost_ret (v := .tuple #[.slice none 0 0, .agg #[.int .i64 0, .int .i64 0, .int .i64 0, .int .i64 0, .int .i64 0, .int .i64 0, .int .i64 0], .bool false]) (by simp [results, Try.results15, go_sem, *]) rfl ⟨rfl, H1.out.seven⟩
  · have HR := Lib.hid hr
    by_cases hb : n < 0
    · have d0 : decide (n < 0) = true := decide_eq_true hb
      clear hb h hr
      go_enter Try.func15, Try.ntmps15
      go_wp2_with fail
      refine (pright_any _ _ _ _ _ _ _ _).mono ?_
      rintro e w1 ⟨rfl, k1⟩
      rw [HR.out]
      have H1 := Lib.hid (H0.out.none k1)
      clear k1
      obtain ⟨r0, r1, r2, r3, r4, r5, r6⟩ := seven_cells H1.out.res
      obtain ⟨g0, g1, g2, g3, g4, g5, g6, lr⟩ := seven_free H1.out.res
      go_wp2
      exact bodyPost_ret (v := .tuple #[.slice none 0 0, .agg #[.int .i64 0, .int .i64 0, .int .i64 0, .int .i64 0, .int .i64 0, .int .i64 0, .int .i64 0], .bool false]) (by simp [results, Try.results15, go_sem, *]) rfl ⟨rfl, H1.out.seven⟩
    have hn0 := hb
    clear hb
    by_cases hb : 65536 < n
    · have d0 : decide (n < 0) = false := decide_eq_false hn0
      have d1 : decide (65536 < n) = true := decide_eq_true hb
      clear hb h hr hn0
      go_enter Try.func15, Try.ntmps15
      go_wp2_with fail
      refine (pright_any _ _ _ _ _ _ _ _).mono ?_
      rintro e w1 ⟨rfl, k1⟩
      rw [HR.out]
      have H1 := Lib.hid (H0.out.none k1)
      clear k1
      obtain ⟨r0, r1, r2, r3, r4, r5, r6⟩ := seven_cells H1.out.res
      obtain ⟨g0, g1, g2, g3, g4, g5, g6, lr⟩ := seven_free H1.out.res
      go_wp2
      exact bodyPost_ret (v := .tuple #[.slice none 0 0, .agg #[.int .i64 0, .int .i64 0, .int .i64 0, .int .i64 0, .int .i64 0, .int .i64 0, .int .i64 0], .bool false]) (by simp [results, Try.results15, go_sem, *]) rfl ⟨rfl, H1.out.seven⟩
    have hn1 := hb
    clear hb
    by_cases hb : levels < 0
    · have d0 : decide (n < 0) = false := decide_eq_false hn0
      have d1 : decide (65536 < n) = false := decide_eq_false hn1
      have d2 : decide (levels < 0) = true := decide_eq_true hb
      clear hb h hr hn0 hn1
      go_enter Try.func15, Try.ntmps15
      go_wp2_with fail
      refine (pright_any _ _ _ _ _ _ _ _).mono ?_
      rintro e w1 ⟨rfl, k1⟩
      rw [HR.out]
      have H1 := Lib.hid (H0.out.none k1)
      clear k1
      obtain ⟨r0, r1, r2, r3, r4, r5, r6⟩ := seven_cells H1.out.res
      obtain ⟨g0, g1, g2, g3, g4, g5, g6, lr⟩ := seven_free H1.out.res
      go_wp2
      exact bodyPost_ret (v := .tuple #[.slice none 0 0, .agg #[.int .i64 0, .int .i64 0, .int .i64 0, .int .i64 0, .int .i64 0, .int .i64 0, .int .i64 0], .bool false]) (by simp [results, Try.results15, go_sem, *]) rfl ⟨rfl, H1.out.seven⟩
    have hn2 := hb
    clear hb
    by_cases hb : 31 < levels
    · have d0 : decide (n < 0) = false := decide_eq_false hn0
      have d1 : decide (65536 < n) = false := decide_eq_false hn1
      have d2 : decide (levels < 0) = false := decide_eq_false hn2
      have d3 : decide (31 < levels) = true := decide_eq_true hb
      clear hb h hr hn0 hn1 hn2
      go_enter Try.func15, Try.ntmps15
      go_wp2_with fail
      refine (pright_any _ _ _ _ _ _ _ _).mono ?_
      rintro e w1 ⟨rfl, k1⟩
      rw [HR.out]
      have H1 := Lib.hid (H0.out.none k1)
      clear k1
      obtain ⟨r0, r1, r2, r3, r4, r5, r6⟩ := seven_cells H1.out.res
      obtain ⟨g0, g1, g2, g3, g4, g5, g6, lr⟩ := seven_free H1.out.res
      go_wp2
      exact bodyPost_ret (v := .tuple #[.slice none 0 0, .agg #[.int .i64 0, .int .i64 0, .int .i64 0, .int .i64 0, .int .i64 0, .int .i64 0, .int .i64 0], .bool false]) (by simp [results, Try.results15, go_sem, *]) rfl ⟨rfl, H1.out.seven⟩
    have hn3 := hb
    clear hb
    by_cases hb : calm < 1
    · have d0 : decide (n < 0) = false := decide_eq_false hn0
      have d1 : decide (65536 < n) = false := decide_eq_false hn1
      have d2 : decide (levels < 0) = false := decide_eq_false hn2
      have d3 : decide (31 < levels) = false := decide_eq_false hn3
      have d4 : decide (calm < 1) = true := decide_eq_true hb
      clear hb h hr hn0 hn1 hn2 hn3
      go_enter Try.func15, Try.ntmps15
      go_wp2_with fail
      refine (pright_any _ _ _ _ _ _ _ _).mono ?_
      rintro e w1 ⟨rfl, k1⟩
      rw [HR.out]
      have H1 := Lib.hid (H0.out.none k1)
      clear k1
      obtain ⟨r0, r1, r2, r3, r4, r5, r6⟩ := seven_cells H1.out.res
      obtain ⟨g0, g1, g2, g3, g4, g5, g6, lr⟩ := seven_free H1.out.res
      go_wp2
      exact bodyPost_ret (v := .tuple #[.slice none 0 0, .agg #[.int .i64 0, .int .i64 0, .int .i64 0, .int .i64 0, .int .i64 0, .int .i64 0, .int .i64 0], .bool false]) (by simp [results, Try.results15, go_sem, *]) rfl ⟨rfl, H1.out.seven⟩
    have hn4 := hb
    clear hb
    have hb : 1000 < calm := by
      rcases Int.lt_or_le 1000 calm with hh | hh
      · exact hh
      · exact absurd ⟨hr, by omega, by omega, by omega, by omega, by omega, hh⟩ h
    have d0 : decide (n < 0) = false := decide_eq_false hn0
    have d1 : decide (65536 < n) = false := decide_eq_false hn1
    have d2 : decide (levels < 0) = false := decide_eq_false hn2
    have d3 : decide (31 < levels) = false := decide_eq_false hn3
    have d4 : decide (calm < 1) = false := decide_eq_false hn4
    have d5 : decide (1000 < calm) = true := decide_eq_true hb
    clear hb h hr hn0 hn1 hn2 hn3 hn4
    go_enter Try.func15, Try.ntmps15
    go_wp2_with fail
    refine (pright_any _ _ _ _ _ _ _ _).mono ?_
    rintro e w1 ⟨rfl, k1⟩
    rw [HR.out]
    have H1 := Lib.hid (H0.out.none k1)
    clear k1
    obtain ⟨r0, r1, r2, r3, r4, r5, r6⟩ := seven_cells H1.out.res
    obtain ⟨g0, g1, g2, g3, g4, g5, g6, lr⟩ := seven_free H1.out.res
    go_wp2
    exact bodyPost_ret (v := .tuple #[.slice none 0 0, .agg #[.int .i64 0, .int .i64 0, .int .i64 0, .int .i64 0, .int .i64 0, .int .i64 0, .int .i64 0], .bool false]) (by simp [results, Try.results15, go_sem, *]) rfl ⟨rfl, H1.out.seven⟩
set_option maxRecDepth 20000 in
set_option maxHeartbeats 2000000 in
theorem ftake_no (x y a b c d p n levels calm : Int) (w : World) (h : ¬ (rightR x y a b c d p = true ∧ 0 ≤ n ∧ n ≤ 65536 ∧ 0 ≤ levels ∧ levels ≤ 31 ∧ 1 ≤ calm ∧ calm ≤ 1000)) :
    Calls Try.prog 16 #[.agg (rCells x y a b c d p), .int .i64 n, .int .i64 levels, .int .i64 calm] w fun e w' => e = .returned (.tuple #[.slice none 0 0, .agg #[.int .i64 0, .int .i64 0, .int .i64 0, .int .i64 0, .int .i64 0, .int .i64 0, .int .i64 0], .bool false]) ∧ Keeps (fun _ => False) w w' := by
  have H0 := Lib.hid (RB.new 25 w x y a b c d p)
  cases hr : rightR x y a b c d p
  · have HR := Lib.hid hr
    clear hr h
    go_enter Try.func16, Try.ntmps16
    go_wp2_with fail
    refine (fright_any _ _ _ _ _ _ _ _).mono ?_
    rintro e w1 ⟨rfl, k1⟩
    rw [HR.out]
    have H1 := Lib.hid (H0.out.none k1)
    clear k1
    obtain ⟨r0, r1, r2, r3, r4, r5, r6⟩ := seven_cells H1.out.res
    obtain ⟨g0, g1, g2, g3, g4, g5, g6, lr⟩ := seven_free H1.out.res
    go_wp2
    exact bodyPost_ret (v := .tuple #[.slice none 0 0, .agg #[.int .i64 0, .int .i64 0, .int .i64 0, .int .i64 0, .int .i64 0, .int .i64 0, .int .i64 0], .bool false]) (by simp [results, Try.results16, go_sem, *]) rfl ⟨rfl, H1.out.seven⟩
  · have HR := Lib.hid hr
    by_cases hb : n < 0
    · have d0 : decide (n < 0) = true := decide_eq_true hb
      clear hb h hr
      go_enter Try.func16, Try.ntmps16
      go_wp2_with fail
      refine (fright_any _ _ _ _ _ _ _ _).mono ?_
      rintro e w1 ⟨rfl, k1⟩
      rw [HR.out]
      have H1 := Lib.hid (H0.out.none k1)
      clear k1
      obtain ⟨r0, r1, r2, r3, r4, r5, r6⟩ := seven_cells H1.out.res
      obtain ⟨g0, g1, g2, g3, g4, g5, g6, lr⟩ := seven_free H1.out.res
      go_wp2
      exact bodyPost_ret (v := .tuple #[.slice none 0 0, .agg #[.int .i64 0, .int .i64 0, .int .i64 0, .int .i64 0, .int .i64 0, .int .i64 0, .int .i64 0], .bool false]) (by simp [results, Try.results16, go_sem, *]) rfl ⟨rfl, H1.out.seven⟩
    have hn0 := hb
    clear hb
    by_cases hb : 65536 < n
    · have d0 : decide (n < 0) = false := decide_eq_false hn0
      have d1 : decide (65536 < n) = true := decide_eq_true hb
      clear hb h hr hn0
      go_enter Try.func16, Try.ntmps16
      go_wp2_with fail
      refine (fright_any _ _ _ _ _ _ _ _).mono ?_
      rintro e w1 ⟨rfl, k1⟩
      rw [HR.out]
      have H1 := Lib.hid (H0.out.none k1)
      clear k1
      obtain ⟨r0, r1, r2, r3, r4, r5, r6⟩ := seven_cells H1.out.res
      obtain ⟨g0, g1, g2, g3, g4, g5, g6, lr⟩ := seven_free H1.out.res
      go_wp2
      exact bodyPost_ret (v := .tuple #[.slice none 0 0, .agg #[.int .i64 0, .int .i64 0, .int .i64 0, .int .i64 0, .int .i64 0, .int .i64 0, .int .i64 0], .bool false]) (by simp [results, Try.results16, go_sem, *]) rfl ⟨rfl, H1.out.seven⟩
    have hn1 := hb
    clear hb
    by_cases hb : levels < 0
    · have d0 : decide (n < 0) = false := decide_eq_false hn0
      have d1 : decide (65536 < n) = false := decide_eq_false hn1
      have d2 : decide (levels < 0) = true := decide_eq_true hb
      clear hb h hr hn0 hn1
      go_enter Try.func16, Try.ntmps16
      go_wp2_with fail
      refine (fright_any _ _ _ _ _ _ _ _).mono ?_
      rintro e w1 ⟨rfl, k1⟩
      rw [HR.out]
      have H1 := Lib.hid (H0.out.none k1)
      clear k1
      obtain ⟨r0, r1, r2, r3, r4, r5, r6⟩ := seven_cells H1.out.res
      obtain ⟨g0, g1, g2, g3, g4, g5, g6, lr⟩ := seven_free H1.out.res
      go_wp2
      exact bodyPost_ret (v := .tuple #[.slice none 0 0, .agg #[.int .i64 0, .int .i64 0, .int .i64 0, .int .i64 0, .int .i64 0, .int .i64 0, .int .i64 0], .bool false]) (by simp [results, Try.results16, go_sem, *]) rfl ⟨rfl, H1.out.seven⟩
    have hn2 := hb
    clear hb
    by_cases hb : 31 < levels
    · have d0 : decide (n < 0) = false := decide_eq_false hn0
      have d1 : decide (65536 < n) = false := decide_eq_false hn1
      have d2 : decide (levels < 0) = false := decide_eq_false hn2
      have d3 : decide (31 < levels) = true := decide_eq_true hb
      clear hb h hr hn0 hn1 hn2
      go_enter Try.func16, Try.ntmps16
      go_wp2_with fail
      refine (fright_any _ _ _ _ _ _ _ _).mono ?_
      rintro e w1 ⟨rfl, k1⟩
      rw [HR.out]
      have H1 := Lib.hid (H0.out.none k1)
      clear k1
      obtain ⟨r0, r1, r2, r3, r4, r5, r6⟩ := seven_cells H1.out.res
      obtain ⟨g0, g1, g2, g3, g4, g5, g6, lr⟩ := seven_free H1.out.res
      go_wp2
      exact bodyPost_ret (v := .tuple #[.slice none 0 0, .agg #[.int .i64 0, .int .i64 0, .int .i64 0, .int .i64 0, .int .i64 0, .int .i64 0, .int .i64 0], .bool false]) (by simp [results, Try.results16, go_sem, *]) rfl ⟨rfl, H1.out.seven⟩
    have hn3 := hb
    clear hb
    by_cases hb : calm < 1
    · have d0 : decide (n < 0) = false := decide_eq_false hn0
      have d1 : decide (65536 < n) = false := decide_eq_false hn1
      have d2 : decide (levels < 0) = false := decide_eq_false hn2
      have d3 : decide (31 < levels) = false := decide_eq_false hn3
      have d4 : decide (calm < 1) = true := decide_eq_true hb
      clear hb h hr hn0 hn1 hn2 hn3
      go_enter Try.func16, Try.ntmps16
      go_wp2_with fail
      refine (fright_any _ _ _ _ _ _ _ _).mono ?_
      rintro e w1 ⟨rfl, k1⟩
      rw [HR.out]
      have H1 := Lib.hid (H0.out.none k1)
      clear k1
      obtain ⟨r0, r1, r2, r3, r4, r5, r6⟩ := seven_cells H1.out.res
      obtain ⟨g0, g1, g2, g3, g4, g5, g6, lr⟩ := seven_free H1.out.res
      go_wp2
      exact bodyPost_ret (v := .tuple #[.slice none 0 0, .agg #[.int .i64 0, .int .i64 0, .int .i64 0, .int .i64 0, .int .i64 0, .int .i64 0, .int .i64 0], .bool false]) (by simp [results, Try.results16, go_sem, *]) rfl ⟨rfl, H1.out.seven⟩
    have hn4 := hb
    clear hb
    have hb : 1000 < calm := by
      rcases Int.lt_or_le 1000 calm with hh | hh
      · exact hh
      · exact absurd ⟨hr, by omega, by omega, by omega, by omega, by omega, hh⟩ h
    have d0 : decide (n < 0) = false := decide_eq_false hn0
    have d1 : decide (65536 < n) = false := decide_eq_false hn1
    have d2 : decide (levels < 0) = false := decide_eq_false hn2
    have d3 : decide (31 < levels) = false := decide_eq_false hn3
    have d4 : decide (calm < 1) = false := decide_eq_false hn4
    have d5 : decide (1000 < calm) = true := decide_eq_true hb
    clear hb h hr hn0 hn1 hn2 hn3 hn4
    go_enter Try.func16, Try.ntmps16
    go_wp2_with fail
    refine (fright_any _ _ _ _ _ _ _ _).mono ?_
    rintro e w1 ⟨rfl, k1⟩
    rw [HR.out]
    have H1 := Lib.hid (H0.out.none k1)
    clear k1
    obtain ⟨r0, r1, r2, r3, r4, r5, r6⟩ := seven_cells H1.out.res
    obtain ⟨g0, g1, g2, g3, g4, g5, g6, lr⟩ := seven_free H1.out.res
    go_wp2
    exact bodyPost_ret (v := .tuple #[.slice none 0 0, .agg #[.int .i64 0, .int .i64 0, .int .i64 0, .int .i64 0, .int .i64 0, .int .i64 0, .int .i64 0], .bool false]) (by simp [results, Try.results16, go_sem, *]) rfl ⟨rfl, H1.out.seven⟩
/-- The choice at a point. -/
def choice (p levels calm : Int) (z : Int × Int) : Int := if (z.1 * p + z.2) % (calm + levels) < levels then (z.1 * p + z.2) % (calm + levels) + 1 else 0
theorem choice_lim {p levels calm : Int} (z : Int × Int) (hl : 0 ≤ levels ∧ levels ≤ 31) (hc : 1 ≤ calm ∧ calm ≤ 1000) : 0 ≤ choice p levels calm z ∧ choice p levels calm z ≤ 31 := by
  have h1 := Int.emod_nonneg (z.1 * p + z.2) (show calm + levels ≠ 0 by omega)
  unfold choice
  split <;> omega
end Go.Proofs.Ytjpbfmhfjlbcgaa
