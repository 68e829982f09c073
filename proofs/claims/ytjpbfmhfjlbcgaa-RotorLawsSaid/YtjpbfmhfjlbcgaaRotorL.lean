import Derived.Test.YtjpbfmhfjlbcgaaRotorG
import Derived.Test.YtjpbfmhfjlbcgaaOrbit
import Derived.BigRegion
namespace Go.Proofs.Ytjpbfmhfjlbcgaa
open Go.ChangeShapes Go.WideShapes Go.ChangeAt Go.RowKit
set_option linter.unusedVariables false
set_option linter.unusedSimpArgs false
theorem own05_any (x y a b c d p : Int) (w : World) :
    Calls Try.prog 8 #[.agg (rCells x y a b c d p)] w fun e w' => e = .returned (.agg (rCells x y a b c d p)) ∧ Keeps (fun _ => False) w w' := by
  go_enter Try.func8, Try.ntmps8
  go_wp2
  refine bodyPost_ret (v := .agg (rCells x y a b c d p)) (by simp [results, Try.results8, go_sem]) rfl ⟨rfl, ?_⟩
  exact ((Keeps.refl _ _).alloc _).alloc _
set_option maxRecDepth 20000 in
set_option maxHeartbeats 2000000 in
theorem rlaws_out (x y a b c d p n m : Int) (w : World) (h : ¬ (rightR x y a b c d p = true ∧ 0 ≤ n ∧ n ≤ 1073741824 ∧ 0 ≤ m ∧ m ≤ 1073741824 ∧ p ≤ 60)) :
    Calls Try.prog 5 #[.agg (rCells x y a b c d p), .int .i64 n, .int .i64 m] w fun e w' => e = .returned (.bool true) ∧ Keeps (fun _ => False) w w' := by
  have HB := Lib.hid ((Has.start w).alloc (.cells (rCells x y a b c d p) 25))
  cases hr : rightR x y a b c d p
  · have HR := Lib.hid hr
    clear hr h
    go_enter Try.func5, Try.ntmps5
    go_wp2_with fail
    refine (own05_any _ _ _ _ _ _ _ _).mono ?_
    rintro e w1 ⟨rfl, k1⟩
    replace HB := Lib.hid ((HB.out.none k1).alloc (.cells (rCells x y a b c d p) 29))
    clear k1
    go_wp2_with fail
    refine (pright_any _ _ _ _ _ _ _ _).mono ?_
    rintro e w2 ⟨rfl, k2⟩
    rw [HR.out]
    replace HB := Lib.hid (HB.out.none k2)
    clear k2
    obtain ⟨x0, x1, x2, x3, x4, x5, x6⟩ := seven_cells (HB.out.at 0 rfl)
    go_wp2_with fail
    refine (alive05_any _).mono ?_
    rintro e w3 ⟨rfl, k3⟩
    replace HB := Lib.hid (HB.out.none k3)
    clear k3
    go_wp2
    go_ret
    exact ⟨rfl, HB.out.keeps⟩
  · have HR := Lib.hid hr
    by_cases hb : n < 0
    · have d0 : decide (n < 0) = true := decide_eq_true hb
      clear hb h hr
      go_enter Try.func5, Try.ntmps5
      go_wp2_with fail
      refine (own05_any _ _ _ _ _ _ _ _).mono ?_
      rintro e w1 ⟨rfl, k1⟩
      replace HB := Lib.hid ((HB.out.none k1).alloc (.cells (rCells x y a b c d p) 29))
      clear k1
      go_wp2_with fail
      refine (pright_any _ _ _ _ _ _ _ _).mono ?_
      rintro e w2 ⟨rfl, k2⟩
      rw [HR.out]
      replace HB := Lib.hid (HB.out.none k2)
      clear k2
      obtain ⟨x0, x1, x2, x3, x4, x5, x6⟩ := seven_cells (HB.out.at 0 rfl)
      go_wp2_with fail
      refine (alive05_any _).mono ?_
      rintro e w3 ⟨rfl, k3⟩
      replace HB := Lib.hid (HB.out.none k3)
      clear k3
      go_wp2
      go_ret
      exact ⟨rfl, HB.out.keeps⟩
    have hn1 := hb
    clear hb
    by_cases hb : 1073741824 < n
    · have d0 : decide (n < 0) = false := decide_eq_false (by omega)
      have d1 : decide (1073741824 < n) = true := decide_eq_true hb
      clear hb h hr
      clear hn1
      go_enter Try.func5, Try.ntmps5
      go_wp2_with fail
      refine (own05_any _ _ _ _ _ _ _ _).mono ?_
      rintro e w1 ⟨rfl, k1⟩
      replace HB := Lib.hid ((HB.out.none k1).alloc (.cells (rCells x y a b c d p) 29))
      clear k1
      go_wp2_with fail
      refine (pright_any _ _ _ _ _ _ _ _).mono ?_
      rintro e w2 ⟨rfl, k2⟩
      rw [HR.out]
      replace HB := Lib.hid (HB.out.none k2)
      clear k2
      obtain ⟨x0, x1, x2, x3, x4, x5, x6⟩ := seven_cells (HB.out.at 0 rfl)
      go_wp2_with fail
      refine (alive05_any _).mono ?_
      rintro e w3 ⟨rfl, k3⟩
      replace HB := Lib.hid (HB.out.none k3)
      clear k3
      go_wp2
      go_ret
      exact ⟨rfl, HB.out.keeps⟩
    have hn2 := hb
    clear hb
    by_cases hb : m < 0
    · have d0 : decide (n < 0) = false := decide_eq_false (by omega)
      have d1 : decide (1073741824 < n) = false := decide_eq_false (by omega)
      have d2 : decide (m < 0) = true := decide_eq_true hb
      clear hb h hr
      clear hn1
      clear hn2
      go_enter Try.func5, Try.ntmps5
      go_wp2_with fail
      refine (own05_any _ _ _ _ _ _ _ _).mono ?_
      rintro e w1 ⟨rfl, k1⟩
      replace HB := Lib.hid ((HB.out.none k1).alloc (.cells (rCells x y a b c d p) 29))
      clear k1
      go_wp2_with fail
      refine (pright_any _ _ _ _ _ _ _ _).mono ?_
      rintro e w2 ⟨rfl, k2⟩
      rw [HR.out]
      replace HB := Lib.hid (HB.out.none k2)
      clear k2
      obtain ⟨x0, x1, x2, x3, x4, x5, x6⟩ := seven_cells (HB.out.at 0 rfl)
      go_wp2_with fail
      refine (alive05_any _).mono ?_
      rintro e w3 ⟨rfl, k3⟩
      replace HB := Lib.hid (HB.out.none k3)
      clear k3
      go_wp2
      go_ret
      exact ⟨rfl, HB.out.keeps⟩
    have hn3 := hb
    clear hb
    by_cases hb : 1073741824 < m
    · have d0 : decide (n < 0) = false := decide_eq_false (by omega)
      have d1 : decide (1073741824 < n) = false := decide_eq_false (by omega)
      have d2 : decide (m < 0) = false := decide_eq_false (by omega)
      have d3 : decide (1073741824 < m) = true := decide_eq_true hb
      clear hb h hr
      clear hn1
      clear hn2
      clear hn3
      go_enter Try.func5, Try.ntmps5
      go_wp2_with fail
      refine (own05_any _ _ _ _ _ _ _ _).mono ?_
      rintro e w1 ⟨rfl, k1⟩
      replace HB := Lib.hid ((HB.out.none k1).alloc (.cells (rCells x y a b c d p) 29))
      clear k1
      go_wp2_with fail
      refine (pright_any _ _ _ _ _ _ _ _).mono ?_
      rintro e w2 ⟨rfl, k2⟩
      rw [HR.out]
      replace HB := Lib.hid (HB.out.none k2)
      clear k2
      obtain ⟨x0, x1, x2, x3, x4, x5, x6⟩ := seven_cells (HB.out.at 0 rfl)
      go_wp2_with fail
      refine (alive05_any _).mono ?_
      rintro e w3 ⟨rfl, k3⟩
      replace HB := Lib.hid (HB.out.none k3)
      clear k3
      go_wp2
      go_ret
      exact ⟨rfl, HB.out.keeps⟩
    have hn4 := hb
    clear hb
    have hb : 60 < p := by
      rcases Int.lt_or_le 60 p with hh | hh
      · exact hh
      · exact absurd ⟨hr, by omega, by omega, by omega, by omega, hh⟩ h
    have d0 : decide (n < 0) = false := decide_eq_false (by omega)
    have d1 : decide (1073741824 < n) = false := decide_eq_false (by omega)
    have d2 : decide (m < 0) = false := decide_eq_false (by omega)
    have d3 : decide (1073741824 < m) = false := decide_eq_false (by omega)
    have d4 : decide (60 < p) = true := decide_eq_true hb
    clear hb h hr hn1 hn2 hn3 hn4
    go_enter Try.func5, Try.ntmps5
    go_wp2_with fail
    refine (own05_any _ _ _ _ _ _ _ _).mono ?_
    rintro e w1 ⟨rfl, k1⟩
    replace HB := Lib.hid ((HB.out.none k1).alloc (.cells (rCells x y a b c d p) 29))
    clear k1
    go_wp2_with fail
    refine (pright_any _ _ _ _ _ _ _ _).mono ?_
    rintro e w2 ⟨rfl, k2⟩
    rw [HR.out]
    replace HB := Lib.hid (HB.out.none k2)
    clear k2
    obtain ⟨x0, x1, x2, x3, x4, x5, x6⟩ := seven_cells (HB.out.at 0 rfl)
    go_wp2_with fail
    refine (alive05_any _).mono ?_
    rintro e w3 ⟨rfl, k3⟩
    replace HB := Lib.hid (HB.out.none k3)
    clear k3
    go_wp2
    go_ret
    exact ⟨rfl, HB.out.keeps⟩
end Go.Proofs.Ytjpbfmhfjlbcgaa
