import Derived.Test.YtjpbfmhfjlbcgaaRotorTd
import Derived.Test.YtjpbfmhfjlbcgaaRotorIt
import Derived.Test.YtjpbfmhfjlbcgaaRotorU
import Derived.Test.YtjpbfmhfjlbcgaaSame
namespace Go.Proofs.Ytjpbfmhfjlbcgaa
open Go.ChangeShapes Go.WideShapes Go.ChangeAt Go.RowKit
set_option linter.unusedVariables false
set_option linter.unusedSimpArgs false
theorem rsame_any (a b : Option Addr) (n c0 c1 : Nat) (F : Nat → Int) (w : World) (hn : n ≤ maxLen) (h0 : Row w a n F) (h1 : Row w b n F) :
    Calls Try.prog 19 #[.slice a n c0, .slice b n c1] w fun e w' => e = .returned (.bool true) ∧ Keeps (fun _ => False) w w' := by
  rcases Nat.eq_zero_or_pos n with rfl | hp
  · exact rsame_zero a b c0 c1 w
  · obtain ⟨g0, o0, rfl, _, h2⟩ := h0 hp
    obtain ⟨g1, o1, rfl, _, h3⟩ := h1 hp
    exact rsame_some g0 o0 g1 o1 n c0 c1 F w hn h2 h3
theorem pair_take05 (x y a b c d p n levels calm : Int) : ∃ (q0 q1 q2 q3 q4 q5 q6 : Int) (r : Bool) (m : Nat) (F : Nat → Int), m ≤ maxLen ∧ (∀ w, Calls Try.prog 15 #[.agg (rCells x y a b c d p), .int .i64 n, .int .i64 levels, .int .i64 calm] w fun e w' => ∃ (z : Option Addr) (cap : Nat), e = .returned (.tuple #[.slice z m cap, .agg (rCells q0 q1 q2 q3 q4 q5 q6), .bool r]) ∧ Row w' z m F ∧ Keeps (fun _ => False) w w') ∧ (∀ w, Calls Try.prog 16 #[.agg (rCells x y a b c d p), .int .i64 n, .int .i64 levels, .int .i64 calm] w fun e w' => ∃ (z : Option Addr) (cap : Nat), e = .returned (.tuple #[.slice z m cap, .agg (rCells q0 q1 q2 q3 q4 q5 q6), .bool r]) ∧ Row w' z m F ∧ Keeps (fun _ => False) w w') := by
  by_cases h : rightR x y a b c d p = true ∧ 0 ≤ n ∧ n ≤ 65536 ∧ 0 ≤ levels ∧ levels ≤ 31 ∧ 1 ≤ calm ∧ calm ≤ 1000
  · obtain ⟨hr, h1, h2, h3, h4, h5, h6⟩ := h
    obtain ⟨m, rfl⟩ : ∃ m : Nat, n = (m : Int) := ⟨n.toNat, by omega⟩
    refine ⟨(Mv.it p ⟨a, b, c, d⟩ m (x, y)).1, (Mv.it p ⟨a, b, c, d⟩ m (x, y)).2, a, b, c, d, p, true, m, fun k => choice p levels calm (Mv.it p ⟨a, b, c, d⟩ (k + 1) (x, y)), by unfold maxLen; omega, fun w => (ptake_yes x y a b c d p levels calm m w hr (by omega) ⟨h3, h4⟩ ⟨h5, h6⟩).mono ?_, fun w => (ftake_yes x y a b c d p levels calm m w hr (by omega) ⟨h3, h4⟩ ⟨h5, h6⟩).mono ?_⟩
    · rintro e w' ⟨GL, rfl, hR, k⟩
      exact ⟨_, _, rfl, hR, k⟩
    · rintro e w' ⟨v, rfl, hR, k⟩
      obtain ⟨z, cap, rfl, hR2⟩ := Row.ofOwn hR
      exact ⟨_, _, rfl, hR2, k⟩
  · refine ⟨0, 0, 0, 0, 0, 0, 0, false, 0, fun _ => 0, by unfold maxLen; omega, fun w => (ptake_no x y a b c d p n levels calm w h).mono ?_, fun w => (ftake_no x y a b c d p n levels calm w h).mono ?_⟩
    · rintro e w' ⟨rfl, k⟩
      exact ⟨_, _, rfl, fun h => by omega, k⟩
    · rintro e w' ⟨rfl, k⟩
      exact ⟨_, _, rfl, fun h => by omega, k⟩
theorem pair_cycle05 (x y a b c d p : Int) : ∃ (t l : Int) (r : Bool), (∀ w, Calls Try.prog 17 #[.agg (rCells x y a b c d p)] w fun e w' => e = .returned (.tuple #[.int .i64 t, .int .i64 l, .bool r]) ∧ Keeps (fun _ => False) w w') ∧ (∀ w, Calls Try.prog 18 #[.agg (rCells x y a b c d p)] w fun e w' => e = .returned (.tuple #[.int .i64 t, .int .i64 l, .bool r]) ∧ Keeps (fun _ => False) w w') := by
  cases h : rightR x y a b c d p
  · exact ⟨0, 0, false, fun w => pcycle_no x y a b c d p w h, fun w => fcycle_no x y a b c d p w h⟩
  · obtain ⟨⟨hp1, hp2⟩, hx, hy, _⟩ := rightR_bds h
    obtain ⟨T, L, hL, hTL, horb⟩ := it_orbit p ⟨a, b, c, d⟩ (x, y) (by omega) ⟨hx, hy⟩
    have hsm : T + L ≤ 1000000000 := by
      have h1 : p.toNat ≤ 1000 := by omega
      have h2 := Nat.mul_le_mul h1 h1
      omega
    exact ⟨T, L, true, fun w => cycle_any x y a b c d p T L w hL hsm h horb, fun w => fcycle_any x y a b c d p T L w hL hsm h horb⟩
theorem takes05_a (x y a b c d p n levels calm : Int) (w : World) (h : 2000 < n ∧ n ≤ 65536) :
    Calls Try.prog 4 #[.agg (rCells x y a b c d p), .int .i64 n, .int .i64 levels, .int .i64 calm] w fun e w' => e = .returned (.bool true) ∧ Keeps (fun _ => False) w w' := by
  have d0 : decide (2000 < n) = true := decide_eq_true (by omega)
  have d1 : decide (n ≤ 65536) = true := decide_eq_true (by omega)
  have HB := Lib.hid ((Has.start w).alloc (.cells (rCells x y a b c d p) 25))
  clear h 
  obtain ⟨x0, x1, x2, x3, x4, x5, x6⟩ := seven_cells (HB.out.at 0 rfl)
  go_enter Try.func4, Try.ntmps4
  go_wp2_with fail
  refine (alive05_any _).mono ?_
  rintro e w1 ⟨rfl, k1⟩
  go_wp2
  go_ret
  exact ⟨rfl, ((Keeps.refl _ _).alloc _).trans k1⟩
theorem takes05_b (x y a b c d p n levels calm : Int) (w : World) (h0 : ¬ 2000 < n) (h : 60 < p ∧ p ≤ 1000) :
    Calls Try.prog 4 #[.agg (rCells x y a b c d p), .int .i64 n, .int .i64 levels, .int .i64 calm] w fun e w' => e = .returned (.bool true) ∧ Keeps (fun _ => False) w w' := by
  have d0 : decide (2000 < n) = false := decide_eq_false (by omega)
  have d2 : decide (60 < p) = true := decide_eq_true (by omega)
  have d3 : decide (p ≤ 1000) = true := decide_eq_true (by omega)
  have HB := Lib.hid ((Has.start w).alloc (.cells (rCells x y a b c d p) 25))
  clear h h0
  obtain ⟨x0, x1, x2, x3, x4, x5, x6⟩ := seven_cells (HB.out.at 0 rfl)
  go_enter Try.func4, Try.ntmps4
  go_wp2_with fail
  refine (alive05_any _).mono ?_
  rintro e w1 ⟨rfl, k1⟩
  go_wp2
  go_ret
  exact ⟨rfl, ((Keeps.refl _ _).alloc _).trans k1⟩
theorem takes05_c (x y a b c d p n levels calm : Int) (w : World) (h0 : 65536 < n) (h : 60 < p ∧ p ≤ 1000) :
    Calls Try.prog 4 #[.agg (rCells x y a b c d p), .int .i64 n, .int .i64 levels, .int .i64 calm] w fun e w' => e = .returned (.bool true) ∧ Keeps (fun _ => False) w w' := by
  have d0 : decide (2000 < n) = true := decide_eq_true (by omega)
  have d1 : decide (n ≤ 65536) = false := decide_eq_false (by omega)
  have d2 : decide (60 < p) = true := decide_eq_true (by omega)
  have d3 : decide (p ≤ 1000) = true := decide_eq_true (by omega)
  have HB := Lib.hid ((Has.start w).alloc (.cells (rCells x y a b c d p) 25))
  clear h h0
  obtain ⟨x0, x1, x2, x3, x4, x5, x6⟩ := seven_cells (HB.out.at 0 rfl)
  go_enter Try.func4, Try.ntmps4
  go_wp2_with fail
  refine (alive05_any _).mono ?_
  rintro e w1 ⟨rfl, k1⟩
  go_wp2
  go_ret
  exact ⟨rfl, ((Keeps.refl _ _).alloc _).trans k1⟩
set_option maxRecDepth 20000 in
set_option maxHeartbeats 4000000 in
theorem takes05_p1 (x y a b c d p n levels calm : Int) (w : World) (h0 : ¬ 2000 < n) (h : ¬ 60 < p) :
    Calls Try.prog 4 #[.agg (rCells x y a b c d p), .int .i64 n, .int .i64 levels, .int .i64 calm] w fun e w' => e = .returned (.bool true) ∧ Keeps (fun _ => False) w w' := by
  have d0 : decide (2000 < n) = false := decide_eq_false (by omega)
  have d2 : decide (60 < p) = false := decide_eq_false (by omega)
  obtain ⟨q0, q1, q2, q3, q4, q5, q6, r, m, F, hm, g1, f1⟩ := pair_take05 x y a b c d p n levels calm
  obtain ⟨t, l, r', g2, f2⟩ := pair_cycle05 x y a b c d p
  have PT := Lib.hid (And.intro g1 f1)
  have PC := Lib.hid (And.intro g2 f2)
  have HM := Lib.hid hm
  have HB := Lib.hid ((Has.start w).alloc (.cells (rCells x y a b c d p) 25))
  clear g1 f1 g2 f2 h h0 hm
  obtain ⟨x0, x1, x2, x3, x4, x5, x6⟩ := seven_cells (HB.out.at 0 rfl)
  go_enter Try.func4, Try.ntmps4
  go_wp2_with fail
  refine (own05_any _ _ _ _ _ _ _ _).mono ?_
  rintro e w0 ⟨rfl, k0⟩
  replace HB := Lib.hid (HB.out.none k0)
  clear k0
  clear x0 x1 x2 x3 x4 x5 x6
  go_wp2_with fail
  refine (PT.out.1 _).mono ?_
  rintro e w1 ⟨z1, cap1, rfl, hr1, k1⟩
  have HQ1 := Lib.hid (hr1.none ((Keeps.refl _ _).alloc (.cells (rCells q0 q1 q2 q3 q4 q5 q6) 29)))
  replace HB := Lib.hid ((HB.out.none k1).alloc (.cells (rCells q0 q1 q2 q3 q4 q5 q6) 29))
  clear k1 hr1
  obtain ⟨x0, x1, x2, x3, x4, x5, x6⟩ := seven_cells (HB.out.at 1 rfl)
  go_wp2_with fail
  refine (PT.out.2 _).mono ?_
  rintro e w2 ⟨z2, cap2, rfl, hr2, k2⟩
  have HQ := Lib.hid (And.intro ((HQ1.out.none k2).none ((Keeps.refl _ _).alloc (.cells (rCells q0 q1 q2 q3 q4 q5 q6) 25))) (hr2.none ((Keeps.refl _ _).alloc (.cells (rCells q0 q1 q2 q3 q4 q5 q6) 25))))
  replace HB := Lib.hid ((HB.out.none k2).alloc (.cells (rCells q0 q1 q2 q3 q4 q5 q6) 25))
  clear k2 hr2 HQ1
  clear x0 x1 x2 x3 x4 x5 x6
  obtain ⟨x0, x1, x2, x3, x4, x5, x6⟩ := seven_cells (HB.out.at 2 rfl)
  go_wp2_with fail
  refine (own05_any _ _ _ _ _ _ _ _).mono ?_
  rintro e w9 ⟨rfl, k9⟩
  replace HB := Lib.hid (HB.out.none k9)
  replace HQ := Lib.hid (And.intro (HQ.out.1.none k9) (HQ.out.2.none k9))
  clear k9
  clear x0 x1 x2 x3 x4 x5 x6
  go_wp2_with fail
  refine (PC.out.1 _).mono ?_
  rintro e w3 ⟨rfl, k3⟩
  replace HB := Lib.hid (HB.out.none k3)
  replace HQ := Lib.hid (And.intro (HQ.out.1.none k3) (HQ.out.2.none k3))
  clear k3
  obtain ⟨x0, x1, x2, x3, x4, x5, x6⟩ := seven_cells (HB.out.at 2 rfl)
  go_wp2_with fail
  refine (PC.out.2 _).mono ?_
  rintro e w4 ⟨rfl, k4⟩
  replace HB := Lib.hid ((HB.out.none k4).drew)
  replace HQ := Lib.hid (And.intro ((HQ.out.1.none k4).none (Keeps.refl _ _).drew) ((HQ.out.2.none k4).none (Keeps.refl _ _).drew))
  clear k4
  clear x0 x1 x2 x3 x4 x5 x6
  go_wp2_with fail
  go_region_held3 (fun w' => w'.cell? ⟨w1.heap.size, 0, none⟩ = some (.int .i64 q0) ∧ w'.cell? ⟨w1.heap.size, 1, none⟩ = some (.int .i64 q1) ∧ w'.cell? ⟨w1.heap.size, 2, none⟩ = some (.int .i64 q2) ∧ w'.cell? ⟨w1.heap.size, 3, none⟩ = some (.int .i64 q3) ∧ w'.cell? ⟨w1.heap.size, 4, none⟩ = some (.int .i64 q4) ∧ w'.cell? ⟨w1.heap.size, 5, none⟩ = some (.int .i64 q5) ∧ w'.cell? ⟨w1.heap.size, 6, none⟩ = some (.int .i64 q6) ∧ w'.cell? ⟨w2.heap.size, 0, none⟩ = some (.int .i64 q0) ∧ w'.cell? ⟨w2.heap.size, 1, none⟩ = some (.int .i64 q1) ∧ w'.cell? ⟨w2.heap.size, 2, none⟩ = some (.int .i64 q2) ∧ w'.cell? ⟨w2.heap.size, 3, none⟩ = some (.int .i64 q3) ∧ w'.cell? ⟨w2.heap.size, 4, none⟩ = some (.int .i64 q4) ∧ w'.cell? ⟨w2.heap.size, 5, none⟩ = some (.int .i64 q5) ∧ w'.cell? ⟨w2.heap.size, 6, none⟩ = some (.int .i64 q6))
    (first
      | exact ⟨cell_of (HB.out.at 1 rfl) 0, cell_of (HB.out.at 1 rfl) 1, cell_of (HB.out.at 1 rfl) 2, cell_of (HB.out.at 1 rfl) 3, cell_of (HB.out.at 1 rfl) 4, cell_of (HB.out.at 1 rfl) 5, cell_of (HB.out.at 1 rfl) 6, cell_of (HB.out.at 0 rfl) 0, cell_of (HB.out.at 0 rfl) 1, cell_of (HB.out.at 0 rfl) 2, cell_of (HB.out.at 0 rfl) 3, cell_of (HB.out.at 0 rfl) 4, cell_of (HB.out.at 0 rfl) 5, cell_of (HB.out.at 0 rfl) 6⟩
      | go_keep)
    (first
      | (go_at_call 19; refine (rsame_any _ _ _ _ _ F _ HM.out HQ.out.1 HQ.out.2).mono ?_; rintro e w8 ⟨rfl, k8⟩; replace HB := Lib.hid (HB.out.none k8); replace HQ := Lib.hid (And.intro (HQ.out.1.none k8) (HQ.out.2.none k8)); clear k8)
      | (go_at_call 14; refine (back05_any _ _ _ _ _ _ _ _).mono ?_; rintro e w8 ⟨rfl, k8⟩; replace HB := Lib.hid (HB.out.none k8); replace HQ := Lib.hid (And.intro (HQ.out.1.none k8) (HQ.out.2.none k8)); clear k8)
      | (go_at_call 6; refine (alive05_any _).mono ?_; rintro e w8 ⟨rfl, k8⟩; replace HB := Lib.hid (HB.out.none k8); replace HQ := Lib.hid (And.intro (HQ.out.1.none k8) (HQ.out.2.none k8)); clear k8))
  all_goals
    go_wp2
    go_ret
    exact ⟨rfl, HB.out.keeps⟩
set_option maxRecDepth 20000 in
set_option maxHeartbeats 4000000 in
theorem takes05_p2 (x y a b c d p n levels calm : Int) (w : World) (h0 : ¬ 2000 < n) (h : 1000 < p) :
    Calls Try.prog 4 #[.agg (rCells x y a b c d p), .int .i64 n, .int .i64 levels, .int .i64 calm] w fun e w' => e = .returned (.bool true) ∧ Keeps (fun _ => False) w w' := by
  have d0 : decide (2000 < n) = false := decide_eq_false (by omega)
  have d2 : decide (60 < p) = true := decide_eq_true (by omega)
  have d3 : decide (p ≤ 1000) = false := decide_eq_false (by omega)
  obtain ⟨q0, q1, q2, q3, q4, q5, q6, r, m, F, hm, g1, f1⟩ := pair_take05 x y a b c d p n levels calm
  obtain ⟨t, l, r', g2, f2⟩ := pair_cycle05 x y a b c d p
  have PT := Lib.hid (And.intro g1 f1)
  have PC := Lib.hid (And.intro g2 f2)
  have HM := Lib.hid hm
  have HB := Lib.hid ((Has.start w).alloc (.cells (rCells x y a b c d p) 25))
  clear g1 f1 g2 f2 h h0 hm
  obtain ⟨x0, x1, x2, x3, x4, x5, x6⟩ := seven_cells (HB.out.at 0 rfl)
  go_enter Try.func4, Try.ntmps4
  go_wp2_with fail
  refine (own05_any _ _ _ _ _ _ _ _).mono ?_
  rintro e w0 ⟨rfl, k0⟩
  replace HB := Lib.hid (HB.out.none k0)
  clear k0
  clear x0 x1 x2 x3 x4 x5 x6
  go_wp2_with fail
  refine (PT.out.1 _).mono ?_
  rintro e w1 ⟨z1, cap1, rfl, hr1, k1⟩
  have HQ1 := Lib.hid (hr1.none ((Keeps.refl _ _).alloc (.cells (rCells q0 q1 q2 q3 q4 q5 q6) 29)))
  replace HB := Lib.hid ((HB.out.none k1).alloc (.cells (rCells q0 q1 q2 q3 q4 q5 q6) 29))
  clear k1 hr1
  obtain ⟨x0, x1, x2, x3, x4, x5, x6⟩ := seven_cells (HB.out.at 1 rfl)
  go_wp2_with fail
  refine (PT.out.2 _).mono ?_
  rintro e w2 ⟨z2, cap2, rfl, hr2, k2⟩
  have HQ := Lib.hid (And.intro ((HQ1.out.none k2).none ((Keeps.refl _ _).alloc (.cells (rCells q0 q1 q2 q3 q4 q5 q6) 25))) (hr2.none ((Keeps.refl _ _).alloc (.cells (rCells q0 q1 q2 q3 q4 q5 q6) 25))))
  replace HB := Lib.hid ((HB.out.none k2).alloc (.cells (rCells q0 q1 q2 q3 q4 q5 q6) 25))
  clear k2 hr2 HQ1
  clear x0 x1 x2 x3 x4 x5 x6
  obtain ⟨x0, x1, x2, x3, x4, x5, x6⟩ := seven_cells (HB.out.at 2 rfl)
  go_wp2_with fail
  refine (own05_any _ _ _ _ _ _ _ _).mono ?_
  rintro e w9 ⟨rfl, k9⟩
  replace HB := Lib.hid (HB.out.none k9)
  replace HQ := Lib.hid (And.intro (HQ.out.1.none k9) (HQ.out.2.none k9))
  clear k9
  clear x0 x1 x2 x3 x4 x5 x6
  go_wp2_with fail
  refine (PC.out.1 _).mono ?_
  rintro e w3 ⟨rfl, k3⟩
  replace HB := Lib.hid (HB.out.none k3)
  replace HQ := Lib.hid (And.intro (HQ.out.1.none k3) (HQ.out.2.none k3))
  clear k3
  obtain ⟨x0, x1, x2, x3, x4, x5, x6⟩ := seven_cells (HB.out.at 2 rfl)
  go_wp2_with fail
  refine (PC.out.2 _).mono ?_
  rintro e w4 ⟨rfl, k4⟩
  replace HB := Lib.hid ((HB.out.none k4).drew)
  replace HQ := Lib.hid (And.intro ((HQ.out.1.none k4).none (Keeps.refl _ _).drew) ((HQ.out.2.none k4).none (Keeps.refl _ _).drew))
  clear k4
  clear x0 x1 x2 x3 x4 x5 x6
  go_wp2_with fail
  go_region_held3 (fun w' => w'.cell? ⟨w1.heap.size, 0, none⟩ = some (.int .i64 q0) ∧ w'.cell? ⟨w1.heap.size, 1, none⟩ = some (.int .i64 q1) ∧ w'.cell? ⟨w1.heap.size, 2, none⟩ = some (.int .i64 q2) ∧ w'.cell? ⟨w1.heap.size, 3, none⟩ = some (.int .i64 q3) ∧ w'.cell? ⟨w1.heap.size, 4, none⟩ = some (.int .i64 q4) ∧ w'.cell? ⟨w1.heap.size, 5, none⟩ = some (.int .i64 q5) ∧ w'.cell? ⟨w1.heap.size, 6, none⟩ = some (.int .i64 q6) ∧ w'.cell? ⟨w2.heap.size, 0, none⟩ = some (.int .i64 q0) ∧ w'.cell? ⟨w2.heap.size, 1, none⟩ = some (.int .i64 q1) ∧ w'.cell? ⟨w2.heap.size, 2, none⟩ = some (.int .i64 q2) ∧ w'.cell? ⟨w2.heap.size, 3, none⟩ = some (.int .i64 q3) ∧ w'.cell? ⟨w2.heap.size, 4, none⟩ = some (.int .i64 q4) ∧ w'.cell? ⟨w2.heap.size, 5, none⟩ = some (.int .i64 q5) ∧ w'.cell? ⟨w2.heap.size, 6, none⟩ = some (.int .i64 q6))
    (first
      | exact ⟨cell_of (HB.out.at 1 rfl) 0, cell_of (HB.out.at 1 rfl) 1, cell_of (HB.out.at 1 rfl) 2, cell_of (HB.out.at 1 rfl) 3, cell_of (HB.out.at 1 rfl) 4, cell_of (HB.out.at 1 rfl) 5, cell_of (HB.out.at 1 rfl) 6, cell_of (HB.out.at 0 rfl) 0, cell_of (HB.out.at 0 rfl) 1, cell_of (HB.out.at 0 rfl) 2, cell_of (HB.out.at 0 rfl) 3, cell_of (HB.out.at 0 rfl) 4, cell_of (HB.out.at 0 rfl) 5, cell_of (HB.out.at 0 rfl) 6⟩
      | go_keep)
    (first
      | (go_at_call 19; refine (rsame_any _ _ _ _ _ F _ HM.out HQ.out.1 HQ.out.2).mono ?_; rintro e w8 ⟨rfl, k8⟩; replace HB := Lib.hid (HB.out.none k8); replace HQ := Lib.hid (And.intro (HQ.out.1.none k8) (HQ.out.2.none k8)); clear k8)
      | (go_at_call 14; refine (back05_any _ _ _ _ _ _ _ _).mono ?_; rintro e w8 ⟨rfl, k8⟩; replace HB := Lib.hid (HB.out.none k8); replace HQ := Lib.hid (And.intro (HQ.out.1.none k8) (HQ.out.2.none k8)); clear k8)
      | (go_at_call 6; refine (alive05_any _).mono ?_; rintro e w8 ⟨rfl, k8⟩; replace HB := Lib.hid (HB.out.none k8); replace HQ := Lib.hid (And.intro (HQ.out.1.none k8) (HQ.out.2.none k8)); clear k8))
  all_goals
    go_wp2
    go_ret
    exact ⟨rfl, HB.out.keeps⟩
set_option maxRecDepth 20000 in
set_option maxHeartbeats 4000000 in
theorem takes05_p3 (x y a b c d p n levels calm : Int) (w : World) (h0 : 65536 < n) (h : ¬ 60 < p) :
    Calls Try.prog 4 #[.agg (rCells x y a b c d p), .int .i64 n, .int .i64 levels, .int .i64 calm] w fun e w' => e = .returned (.bool true) ∧ Keeps (fun _ => False) w w' := by
  have d0 : decide (2000 < n) = true := decide_eq_true (by omega)
  have d1 : decide (n ≤ 65536) = false := decide_eq_false (by omega)
  have d2 : decide (60 < p) = false := decide_eq_false (by omega)
  obtain ⟨q0, q1, q2, q3, q4, q5, q6, r, m, F, hm, g1, f1⟩ := pair_take05 x y a b c d p n levels calm
  obtain ⟨t, l, r', g2, f2⟩ := pair_cycle05 x y a b c d p
  have PT := Lib.hid (And.intro g1 f1)
  have PC := Lib.hid (And.intro g2 f2)
  have HM := Lib.hid hm
  have HB := Lib.hid ((Has.start w).alloc (.cells (rCells x y a b c d p) 25))
  clear g1 f1 g2 f2 h h0 hm
  obtain ⟨x0, x1, x2, x3, x4, x5, x6⟩ := seven_cells (HB.out.at 0 rfl)
  go_enter Try.func4, Try.ntmps4
  go_wp2_with fail
  refine (own05_any _ _ _ _ _ _ _ _).mono ?_
  rintro e w0 ⟨rfl, k0⟩
  replace HB := Lib.hid (HB.out.none k0)
  clear k0
  clear x0 x1 x2 x3 x4 x5 x6
  go_wp2_with fail
  refine (PT.out.1 _).mono ?_
  rintro e w1 ⟨z1, cap1, rfl, hr1, k1⟩
  have HQ1 := Lib.hid (hr1.none ((Keeps.refl _ _).alloc (.cells (rCells q0 q1 q2 q3 q4 q5 q6) 29)))
  replace HB := Lib.hid ((HB.out.none k1).alloc (.cells (rCells q0 q1 q2 q3 q4 q5 q6) 29))
  clear k1 hr1
  obtain ⟨x0, x1, x2, x3, x4, x5, x6⟩ := seven_cells (HB.out.at 1 rfl)
  go_wp2_with fail
  refine (PT.out.2 _).mono ?_
  rintro e w2 ⟨z2, cap2, rfl, hr2, k2⟩
  have HQ := Lib.hid (And.intro ((HQ1.out.none k2).none ((Keeps.refl _ _).alloc (.cells (rCells q0 q1 q2 q3 q4 q5 q6) 25))) (hr2.none ((Keeps.refl _ _).alloc (.cells (rCells q0 q1 q2 q3 q4 q5 q6) 25))))
  replace HB := Lib.hid ((HB.out.none k2).alloc (.cells (rCells q0 q1 q2 q3 q4 q5 q6) 25))
  clear k2 hr2 HQ1
  clear x0 x1 x2 x3 x4 x5 x6
  obtain ⟨x0, x1, x2, x3, x4, x5, x6⟩ := seven_cells (HB.out.at 2 rfl)
  go_wp2_with fail
  refine (own05_any _ _ _ _ _ _ _ _).mono ?_
  rintro e w9 ⟨rfl, k9⟩
  replace HB := Lib.hid (HB.out.none k9)
  replace HQ := Lib.hid (And.intro (HQ.out.1.none k9) (HQ.out.2.none k9))
  clear k9
  clear x0 x1 x2 x3 x4 x5 x6
  go_wp2_with fail
  refine (PC.out.1 _).mono ?_
  rintro e w3 ⟨rfl, k3⟩
  replace HB := Lib.hid (HB.out.none k3)
  replace HQ := Lib.hid (And.intro (HQ.out.1.none k3) (HQ.out.2.none k3))
  clear k3
  obtain ⟨x0, x1, x2, x3, x4, x5, x6⟩ := seven_cells (HB.out.at 2 rfl)
  go_wp2_with fail
  refine (PC.out.2 _).mono ?_
  rintro e w4 ⟨rfl, k4⟩
  replace HB := Lib.hid ((HB.out.none k4).drew)
  replace HQ := Lib.hid (And.intro ((HQ.out.1.none k4).none (Keeps.refl _ _).drew) ((HQ.out.2.none k4).none (Keeps.refl _ _).drew))
  clear k4
  clear x0 x1 x2 x3 x4 x5 x6
  go_wp2_with fail
  go_region_held3 (fun w' => w'.cell? ⟨w1.heap.size, 0, none⟩ = some (.int .i64 q0) ∧ w'.cell? ⟨w1.heap.size, 1, none⟩ = some (.int .i64 q1) ∧ w'.cell? ⟨w1.heap.size, 2, none⟩ = some (.int .i64 q2) ∧ w'.cell? ⟨w1.heap.size, 3, none⟩ = some (.int .i64 q3) ∧ w'.cell? ⟨w1.heap.size, 4, none⟩ = some (.int .i64 q4) ∧ w'.cell? ⟨w1.heap.size, 5, none⟩ = some (.int .i64 q5) ∧ w'.cell? ⟨w1.heap.size, 6, none⟩ = some (.int .i64 q6) ∧ w'.cell? ⟨w2.heap.size, 0, none⟩ = some (.int .i64 q0) ∧ w'.cell? ⟨w2.heap.size, 1, none⟩ = some (.int .i64 q1) ∧ w'.cell? ⟨w2.heap.size, 2, none⟩ = some (.int .i64 q2) ∧ w'.cell? ⟨w2.heap.size, 3, none⟩ = some (.int .i64 q3) ∧ w'.cell? ⟨w2.heap.size, 4, none⟩ = some (.int .i64 q4) ∧ w'.cell? ⟨w2.heap.size, 5, none⟩ = some (.int .i64 q5) ∧ w'.cell? ⟨w2.heap.size, 6, none⟩ = some (.int .i64 q6))
    (first
      | exact ⟨cell_of (HB.out.at 1 rfl) 0, cell_of (HB.out.at 1 rfl) 1, cell_of (HB.out.at 1 rfl) 2, cell_of (HB.out.at 1 rfl) 3, cell_of (HB.out.at 1 rfl) 4, cell_of (HB.out.at 1 rfl) 5, cell_of (HB.out.at 1 rfl) 6, cell_of (HB.out.at 0 rfl) 0, cell_of (HB.out.at 0 rfl) 1, cell_of (HB.out.at 0 rfl) 2, cell_of (HB.out.at 0 rfl) 3, cell_of (HB.out.at 0 rfl) 4, cell_of (HB.out.at 0 rfl) 5, cell_of (HB.out.at 0 rfl) 6⟩
      | go_keep)
    (first
      | (go_at_call 19; refine (rsame_any _ _ _ _ _ F _ HM.out HQ.out.1 HQ.out.2).mono ?_; rintro e w8 ⟨rfl, k8⟩; replace HB := Lib.hid (HB.out.none k8); replace HQ := Lib.hid (And.intro (HQ.out.1.none k8) (HQ.out.2.none k8)); clear k8)
      | (go_at_call 14; refine (back05_any _ _ _ _ _ _ _ _).mono ?_; rintro e w8 ⟨rfl, k8⟩; replace HB := Lib.hid (HB.out.none k8); replace HQ := Lib.hid (And.intro (HQ.out.1.none k8) (HQ.out.2.none k8)); clear k8)
      | (go_at_call 6; refine (alive05_any _).mono ?_; rintro e w8 ⟨rfl, k8⟩; replace HB := Lib.hid (HB.out.none k8); replace HQ := Lib.hid (And.intro (HQ.out.1.none k8) (HQ.out.2.none k8)); clear k8))
  all_goals
    go_wp2
    go_ret
    exact ⟨rfl, HB.out.keeps⟩
set_option maxRecDepth 20000 in
set_option maxHeartbeats 4000000 in
theorem takes05_p4 (x y a b c d p n levels calm : Int) (w : World) (h0 : 65536 < n) (h : 1000 < p) :
    Calls Try.prog 4 #[.agg (rCells x y a b c d p), .int .i64 n, .int .i64 levels, .int .i64 calm] w fun e w' => e = .returned (.bool true) ∧ Keeps (fun _ => False) w w' := by
  have d0 : decide (2000 < n) = true := decide_eq_true (by omega)
  have d1 : decide (n ≤ 65536) = false := decide_eq_false (by omega)
  have d2 : decide (60 < p) = true := decide_eq_true (by omega)
  have d3 : decide (p ≤ 1000) = false := decide_eq_false (by omega)
  obtain ⟨q0, q1, q2, q3, q4, q5, q6, r, m, F, hm, g1, f1⟩ := pair_take05 x y a b c d p n levels calm
  obtain ⟨t, l, r', g2, f2⟩ := pair_cycle05 x y a b c d p
  have PT := Lib.hid (And.intro g1 f1)
  have PC := Lib.hid (And.intro g2 f2)
  have HM := Lib.hid hm
  have HB := Lib.hid ((Has.start w).alloc (.cells (rCells x y a b c d p) 25))
  clear g1 f1 g2 f2 h h0 hm
  obtain ⟨x0, x1, x2, x3, x4, x5, x6⟩ := seven_cells (HB.out.at 0 rfl)
  go_enter Try.func4, Try.ntmps4
  go_wp2_with fail
  refine (own05_any _ _ _ _ _ _ _ _).mono ?_
  rintro e w0 ⟨rfl, k0⟩
  replace HB := Lib.hid (HB.out.none k0)
  clear k0
  clear x0 x1 x2 x3 x4 x5 x6
  go_wp2_with fail
  refine (PT.out.1 _).mono ?_
  rintro e w1 ⟨z1, cap1, rfl, hr1, k1⟩
  have HQ1 := Lib.hid (hr1.none ((Keeps.refl _ _).alloc (.cells (rCells q0 q1 q2 q3 q4 q5 q6) 29)))
  replace HB := Lib.hid ((HB.out.none k1).alloc (.cells (rCells q0 q1 q2 q3 q4 q5 q6) 29))
  clear k1 hr1
  obtain ⟨x0, x1, x2, x3, x4, x5, x6⟩ := seven_cells (HB.out.at 1 rfl)
  go_wp2_with fail
  refine (PT.out.2 _).mono ?_
  rintro e w2 ⟨z2, cap2, rfl, hr2, k2⟩
  have HQ := Lib.hid (And.intro ((HQ1.out.none k2).none ((Keeps.refl _ _).alloc (.cells (rCells q0 q1 q2 q3 q4 q5 q6) 25))) (hr2.none ((Keeps.refl _ _).alloc (.cells (rCells q0 q1 q2 q3 q4 q5 q6) 25))))
  replace HB := Lib.hid ((HB.out.none k2).alloc (.cells (rCells q0 q1 q2 q3 q4 q5 q6) 25))
  clear k2 hr2 HQ1
  clear x0 x1 x2 x3 x4 x5 x6
  obtain ⟨x0, x1, x2, x3, x4, x5, x6⟩ := seven_cells (HB.out.at 2 rfl)
  go_wp2_with fail
  refine (own05_any _ _ _ _ _ _ _ _).mono ?_
  rintro e w9 ⟨rfl, k9⟩
  replace HB := Lib.hid (HB.out.none k9)
  replace HQ := Lib.hid (And.intro (HQ.out.1.none k9) (HQ.out.2.none k9))
  clear k9
  clear x0 x1 x2 x3 x4 x5 x6
  go_wp2_with fail
  refine (PC.out.1 _).mono ?_
  rintro e w3 ⟨rfl, k3⟩
  replace HB := Lib.hid (HB.out.none k3)
  replace HQ := Lib.hid (And.intro (HQ.out.1.none k3) (HQ.out.2.none k3))
  clear k3
  obtain ⟨x0, x1, x2, x3, x4, x5, x6⟩ := seven_cells (HB.out.at 2 rfl)
  go_wp2_with fail
  refine (PC.out.2 _).mono ?_
  rintro e w4 ⟨rfl, k4⟩
  replace HB := Lib.hid ((HB.out.none k4).drew)
  replace HQ := Lib.hid (And.intro ((HQ.out.1.none k4).none (Keeps.refl _ _).drew) ((HQ.out.2.none k4).none (Keeps.refl _ _).drew))
  clear k4
  clear x0 x1 x2 x3 x4 x5 x6
  go_wp2_with fail
  go_region_held3 (fun w' => w'.cell? ⟨w1.heap.size, 0, none⟩ = some (.int .i64 q0) ∧ w'.cell? ⟨w1.heap.size, 1, none⟩ = some (.int .i64 q1) ∧ w'.cell? ⟨w1.heap.size, 2, none⟩ = some (.int .i64 q2) ∧ w'.cell? ⟨w1.heap.size, 3, none⟩ = some (.int .i64 q3) ∧ w'.cell? ⟨w1.heap.size, 4, none⟩ = some (.int .i64 q4) ∧ w'.cell? ⟨w1.heap.size, 5, none⟩ = some (.int .i64 q5) ∧ w'.cell? ⟨w1.heap.size, 6, none⟩ = some (.int .i64 q6) ∧ w'.cell? ⟨w2.heap.size, 0, none⟩ = some (.int .i64 q0) ∧ w'.cell? ⟨w2.heap.size, 1, none⟩ = some (.int .i64 q1) ∧ w'.cell? ⟨w2.heap.size, 2, none⟩ = some (.int .i64 q2) ∧ w'.cell? ⟨w2.heap.size, 3, none⟩ = some (.int .i64 q3) ∧ w'.cell? ⟨w2.heap.size, 4, none⟩ = some (.int .i64 q4) ∧ w'.cell? ⟨w2.heap.size, 5, none⟩ = some (.int .i64 q5) ∧ w'.cell? ⟨w2.heap.size, 6, none⟩ = some (.int .i64 q6))
    (first
      | exact ⟨cell_of (HB.out.at 1 rfl) 0, cell_of (HB.out.at 1 rfl) 1, cell_of (HB.out.at 1 rfl) 2, cell_of (HB.out.at 1 rfl) 3, cell_of (HB.out.at 1 rfl) 4, cell_of (HB.out.at 1 rfl) 5, cell_of (HB.out.at 1 rfl) 6, cell_of (HB.out.at 0 rfl) 0, cell_of (HB.out.at 0 rfl) 1, cell_of (HB.out.at 0 rfl) 2, cell_of (HB.out.at 0 rfl) 3, cell_of (HB.out.at 0 rfl) 4, cell_of (HB.out.at 0 rfl) 5, cell_of (HB.out.at 0 rfl) 6⟩
      | go_keep)
    (first
      | (go_at_call 19; refine (rsame_any _ _ _ _ _ F _ HM.out HQ.out.1 HQ.out.2).mono ?_; rintro e w8 ⟨rfl, k8⟩; replace HB := Lib.hid (HB.out.none k8); replace HQ := Lib.hid (And.intro (HQ.out.1.none k8) (HQ.out.2.none k8)); clear k8)
      | (go_at_call 14; refine (back05_any _ _ _ _ _ _ _ _).mono ?_; rintro e w8 ⟨rfl, k8⟩; replace HB := Lib.hid (HB.out.none k8); replace HQ := Lib.hid (And.intro (HQ.out.1.none k8) (HQ.out.2.none k8)); clear k8)
      | (go_at_call 6; refine (alive05_any _).mono ?_; rintro e w8 ⟨rfl, k8⟩; replace HB := Lib.hid (HB.out.none k8); replace HQ := Lib.hid (And.intro (HQ.out.1.none k8) (HQ.out.2.none k8)); clear k8))
  all_goals
    go_wp2
    go_ret
    exact ⟨rfl, HB.out.keeps⟩
theorem takes05_any (x y a b c d p n levels calm : Int) (w : World) :
    Calls Try.prog 4 #[.agg (rCells x y a b c d p), .int .i64 n, .int .i64 levels, .int .i64 calm] w fun e w' => e = .returned (.bool true) ∧ Keeps (fun _ => False) w w' := by
  by_cases h0 : 2000 < n
  · by_cases h1 : n ≤ 65536
    · exact takes05_a x y a b c d p n levels calm w ⟨h0, h1⟩
    · by_cases h2 : 60 < p
      · by_cases h3 : p ≤ 1000
        · exact takes05_c x y a b c d p n levels calm w (by omega) ⟨h2, h3⟩
        · exact takes05_p4 x y a b c d p n levels calm w (by omega) (by omega)
      · exact takes05_p3 x y a b c d p n levels calm w (by omega) h2
  · by_cases h2 : 60 < p
    · by_cases h3 : p ≤ 1000
      · exact takes05_b x y a b c d p n levels calm w h0 ⟨h2, h3⟩
      · exact takes05_p2 x y a b c d p n levels calm w h0 (by omega)
    · exact takes05_p1 x y a b c d p n levels calm w h0 h2
end Go.Proofs.Ytjpbfmhfjlbcgaa
