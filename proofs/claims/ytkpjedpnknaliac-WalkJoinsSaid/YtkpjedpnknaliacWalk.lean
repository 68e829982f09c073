import Derived.Test.YtkpjedpnknaliacPlane
namespace Go.Proofs.Ytkpjedpnknaliac
open Go.ChangeShapes Go.WideShapes Go.ChangeAt Go.RowKit
set_option linter.unusedVariables false
theorem wplane_any (a b : Int) (w : World) :
    Calls Try.prog 42 #[.agg #[.int .i64 a, .int .i64 b]] w fun e w' => e = .returned (.complex .f64 (floatOfInt .f64 a) (floatOfInt .f64 b)) ∧ Keeps (fun _ => False) w w' := by
  go_enter Try.func42, Try.ntmps42
  go_wp2
  go_ret
  exact ⟨rfl, (Keeps.refl _ _).alloc _⟩
theorem wwhole_any (x y : Nat) (a b : Int) (w : World) (hx : IsF x a) (hy : IsF y b) (ha : a.natAbs ≤ 9007199254740992) (hb : b.natAbs ≤ 9007199254740992) :
    Calls Try.prog 41 #[.complex .f64 x y] w fun e w' => e = .returned (.agg #[.int .i64 a, .int .i64 b]) ∧ Keeps (fun _ => False) w w' := by
  have c1 := fun w => run_toInt x a w hx (by omega) (by omega)
  have c2 := fun w => run_toInt y b w hy (by omega) (by omega)
  clear hx hy ha hb
  go_enter Try.func41, Try.ntmps41
  go_wp2
  refine bodyPost_ret (v := .agg #[.int .i64 a, .int .i64 b]) (by simp [results, Try.results41, go_sem]) rfl ⟨rfl, ?_⟩
  exact (Keeps.refl _ _).alloc _
/-- The word of the direction after k quarter turns. -/
def facW : Nat → Nat × Nat
  | 0 => (4607182418800017408, 0)
  | k + 1 => (cMulBits (facW k).1 (facW k).2 0 4607182418800017408).getD (0, 0)
theorem turnN_one_bd (k : Nat) : (turnN k (1, 0)).1.natAbs ≤ 1 ∧ (turnN k (1, 0)).2.natAbs ≤ 1 := turnN_bd k (1, 0) (by decide) (by decide)
theorem facW_next (k : Nat) (h : IsF (facW k).1 (turnN k (1, 0)).1 ∧ IsF (facW k).2 (turnN k (1, 0)).2) :
    cMulBits (facW k).1 (facW k).2 0 4607182418800017408 = some ((facW (k + 1)).1, (facW (k + 1)).2) ∧ IsF (facW (k + 1)).1 (turnN (k + 1) (1, 0)).1 ∧ IsF (facW (k + 1)).2 (turnN (k + 1) (1, 0)).2 := by
  have hb := turnN_one_bd k
  obtain ⟨re, im, hm, f1, f2⟩ := cmul_is (M := 1) (N := 1) h.1 h.2 isF_zero isF_one hb.1 hb.2 (by decide) (by decide) (by decide)
  have e : facW (k + 1) = (re, im) := by rw [facW, hm]; rfl
  rw [e]
  refine ⟨hm, ?_, ?_⟩
  · simpa [turnN] using f1
  · simpa [turnN] using f2
theorem facW_is (k : Nat) : IsF (facW k).1 (turnN k (1, 0)).1 ∧ IsF (facW k).2 (turnN k (1, 0)).2 := by
  induction k with
  | zero => exact ⟨isF_one, isF_zero⟩
  | succ k ih => exact (facW_next k ih).2
theorem facing_any (k : Nat) (w : World) (hk : k ≤ 4) :
    Calls Try.prog 43 #[.int .i64 (k : Int)] w fun e w' => e = .returned (.complex .f64 (facW k).1 (facW k).2) ∧ Keeps (fun _ => False) w w' := by
  go_enter Try.func43, Try.ntmps43
  go_wp2_with fail
  go_loop [3, 5] (fun z i => ∃ j : Nat, j ≤ k ∧ i = .int .i64 j ∧ z = .complex .f64 (facW j).1 (facW j).2) (fun _ i => k - (intOf i).toNat)
  case atStart => exact ⟨0, by omega, rfl, rfl⟩
  case round =>
    obtain ⟨j, hj, rfl, rfl⟩ := hrel
    by_cases hlt : j < k
    · have hmul := fun w => run_complex_mul (P := Try.prog) w 78 _ _ _ _ _ _ (facW_next j (facW_is j)).1
      go_wp2
      go_round
      case rel => exact ⟨j + 1, by omega, by go_num, rfl⟩
      case measure => simp [intOf]; omega
    · obtain rfl : j = k := by omega
      go_wp2
      go_ret
      exact ⟨rfl, Keeps.refl _ _⟩
theorem turn_mul (k : Nat) (hk : k ≤ 3) (c d : Int) : (turnN k (c, d)).1 = c * (turnN k (1, 0)).1 - d * (turnN k (1, 0)).2 ∧ (turnN k (c, d)).2 = c * (turnN k (1, 0)).2 + d * (turnN k (1, 0)).1 := by
  match k, hk with
  | 0, _ => simp [turnN]
  | 1, _ => simp [turnN]
  | 2, _ => simp [turnN]
  | 3, _ => simp [turnN]
/-- May a walk be? -/
def rightW (a b t : Int) : Bool := rightB a b && decide (0 ≤ t ∧ t ≤ 3)
theorem rightW_bds {a b t : Int} (h : rightW a b t = true) : ((-1048576 ≤ a ∧ a ≤ 1048576) ∧ (-1048576 ≤ b ∧ b ≤ 1048576)) ∧ 0 ≤ t ∧ t ≤ 3 := by
  unfold rightW at h
  rw [Bool.and_eq_true] at h
  exact ⟨right_bds h.1, of_decide_eq_true h.2⟩
theorem rightW_of {a b t : Int} (h1 : (-1048576 ≤ a ∧ a ≤ 1048576) ∧ (-1048576 ≤ b ∧ b ≤ 1048576)) (h2 : 0 ≤ t ∧ t ≤ 3) : rightW a b t = true := by
  unfold rightW rightB
  rw [decide_eq_true h1, decide_eq_true h2]; rfl
/-- A variable of three cells, known whole. -/
theorem three_cells {w : World} {b : Nat} {x y z : Value} {E : TypeId} (h : w.heap[b]? = some (.cells #[x, y, z] E (0, 0))) :
    w.cell? ⟨b, 0, none⟩ = some x ∧ w.cell? ⟨b, 1, none⟩ = some y ∧ w.cell? ⟨b, 2, none⟩ = some z ∧ w.frozen? ⟨b, 0, none⟩ = false ∧ w.frozen? ⟨b, 1, none⟩ = false ∧ w.frozen? ⟨b, 2, none⟩ = false ∧ b < w.heap.size :=
  ⟨cell_of h 0, cell_of h 1, cell_of h 2, free_of h 0, free_of h 1, free_of h 2, lt_of h⟩
/-- One walk in a variable, and the variable of the result. -/
structure One (E F : TypeId) (w wr : World) (a b t : Int) : Prop where
  keeps : Keeps (fun _ => False) w wr
  one : wr.heap[w.heap.size]? = some (.cells #[.int .i64 a, .int .i64 b, .int .i64 t] E (0, 0))
  res : wr.heap[w.heap.size + 1]? = some (.cells #[.int .i64 0, .int .i64 0, .int .i64 0] F (0, 0))
theorem One.none {E F : TypeId} {w w1 w2 : World} {a b t : Int} (h : One E F w w1 a b t) (k : Keeps (fun _ => False) w1 w2) : One E F w w2 a b t :=
  ⟨h.keeps.trans k, k.at h.one fun h => h, k.at h.res fun h => h⟩
theorem One.new (E F : TypeId) (w : World) (a b t : Int) : One E F w ((w.alloc (.cells #[.int .i64 a, .int .i64 b, .int .i64 t] E)).alloc (.cells #[.int .i64 0, .int .i64 0, .int .i64 0] F)) a b t := by
  obtain ⟨h1, h2, h3⟩ := kept2 (Keeps.refl (fun _ => False) ((w.alloc (.cells #[.int .i64 a, .int .i64 b, .int .i64 t] E)).alloc (.cells #[.int .i64 0, .int .i64 0, .int .i64 0] F)))
  exact ⟨h3, h1, h2⟩
/-- Two walks in variables, and the variable of the result. -/
structure Two (E F : TypeId) (w wr : World) (a b t c d u : Int) : Prop where
  keeps : Keeps (fun _ => False) w wr
  one : wr.heap[w.heap.size]? = some (.cells #[.int .i64 a, .int .i64 b, .int .i64 t] E (0, 0))
  two : wr.heap[w.heap.size + 1]? = some (.cells #[.int .i64 c, .int .i64 d, .int .i64 u] E (0, 0))
  res : wr.heap[w.heap.size + 1 + 1]? = some (.cells #[.int .i64 0, .int .i64 0, .int .i64 0] F (0, 0))
theorem Two.none {E F : TypeId} {w w1 w2 : World} {a b t c d u : Int} (h : Two E F w w1 a b t c d u) (k : Keeps (fun _ => False) w1 w2) : Two E F w w2 a b t c d u :=
  ⟨h.keeps.trans k, k.at h.one fun h => h, k.at h.two fun h => h, k.at h.res fun h => h⟩
theorem Two.new (E F : TypeId) (w : World) (a b t c d u : Int) : Two E F w (((w.alloc (.cells #[.int .i64 a, .int .i64 b, .int .i64 t] E)).alloc (.cells #[.int .i64 c, .int .i64 d, .int .i64 u] E)).alloc (.cells #[.int .i64 0, .int .i64 0, .int .i64 0] F)) a b t c d u := by
  obtain ⟨h1, h2, h3⟩ := kept2 (Keeps.refl (fun _ => False) ((w.alloc (.cells #[.int .i64 a, .int .i64 b, .int .i64 t] E)).alloc (.cells #[.int .i64 c, .int .i64 d, .int .i64 u] E)))
  refine ⟨h3.alloc _, heap_old h1 _, heap_old h2 _, ?_⟩
  have := heap_new ((w.alloc (.cells #[.int .i64 a, .int .i64 b, .int .i64 t] E)).alloc (.cells #[.int .i64 c, .int .i64 d, .int .i64 u] E)) (.cells #[.int .i64 0, .int .i64 0, .int .i64 0] F)
  simpa using this
theorem wright_any (a b t : Int) (w : World) :
    Calls Try.prog 18 #[.agg #[.int .i64 a, .int .i64 b, .int .i64 t]] w fun e w' => e = .returned (.bool (rightW a b t)) ∧ Keeps (fun _ => False) w w' := by
  go_enter Try.func18, Try.ntmps18
  go_wp2_with fail
  refine (right_any a b _).mono ?_
  rintro e w1 ⟨rfl, k1⟩
  obtain ⟨x0, x1, x2, _, _, _, l1⟩ := three_cells (k1.at (heap_new w (.cells #[.int .i64 a, .int .i64 b, .int .i64 t] 53)) fun h => h)
  have K := Lib.hid (((Keeps.refl (fun _ => False) w).alloc (.cells #[.int .i64 a, .int .i64 b, .int .i64 t] 53)).trans k1)
  clear k1
  cases h : rightB a b
  · have H := Lib.hid h
    clear h
    go_wp2
    go_ret
    exact ⟨ret_bool (by unfold rightW; rw [H.out]; rfl), K.out⟩
  · have H := Lib.hid h
    clear h
    by_cases h0 : 0 ≤ t
    · have d0 : decide (0 ≤ t) = true := decide_eq_true h0
      by_cases h3 : t ≤ 3
      · have d1 : decide (t < 4) = true := decide_eq_true (by omega)
        have D := Lib.hid (show decide (0 ≤ t ∧ t ≤ 3) = true from decide_eq_true ⟨h0, h3⟩)
        clear h0 h3
        go_wp2
        go_ret
        exact ⟨ret_bool (by unfold rightW; rw [H.out, D.out]; rfl), K.out⟩
      · have d1 : decide (t < 4) = false := decide_eq_false (by omega)
        have D := Lib.hid (show decide (0 ≤ t ∧ t ≤ 3) = false from decide_eq_false (by omega))
        clear h0 h3
        go_wp2
        go_ret
        exact ⟨ret_bool (by unfold rightW; rw [H.out, D.out]; rfl), K.out⟩
    · have d0 : decide (0 ≤ t) = false := decide_eq_false h0
      have D := Lib.hid (show decide (0 ≤ t ∧ t ≤ 3) = false from decide_eq_false (by omega))
      clear h0
      go_wp2
      go_ret
      exact ⟨ret_bool (by unfold rightW; rw [H.out, D.out]; rfl), K.out⟩
theorem wchecked_yes (a b t : Int) (w : World) (h : rightW a b t = true) :
    Calls Try.prog 37 #[.agg #[.int .i64 a, .int .i64 b, .int .i64 t]] w fun e w' => e = .returned (.tuple #[.agg #[.int .i64 a, .int .i64 b, .int .i64 t], .bool true]) ∧ Keeps (fun _ => False) w w' := by
  have H := Lib.hid h
  have H0 := Lib.hid (One.new 53 53 w a b t)
  clear h
  go_enter Try.func37, Try.ntmps37
  go_wp2_with fail
  refine (wright_any a b t _).mono ?_
  rintro e w1 ⟨rfl, k1⟩
  rw [H.out]
  have H1 := Lib.hid (H0.out.none k1)
  obtain ⟨x0, x1, x2, _, _, _, l1⟩ := three_cells H1.out.one
  obtain ⟨r0, r1, r2, f0, f1, f2, l2⟩ := three_cells H1.out.res
  clear k1
  go_wp2
  refine bodyPost_ret (v := .tuple #[.agg #[.int .i64 a, .int .i64 b, .int .i64 t], .bool true]) (by simp [results, Try.results37, go_sem, *]) rfl ⟨rfl, ?_⟩
  exact ((H1.out.keeps.setCell (.inr (by simp)) _).setCell (.inr (by simp)) _).setCell (.inr (by simp)) _
theorem wchecked_no (a b t : Int) (w : World) (h : rightW a b t = false) :
    Calls Try.prog 37 #[.agg #[.int .i64 a, .int .i64 b, .int .i64 t]] w fun e w' => e = .returned (.tuple #[.agg #[.int .i64 0, .int .i64 0, .int .i64 0], .bool false]) ∧ Keeps (fun _ => False) w w' := by
  have H := Lib.hid h
  have H0 := Lib.hid (One.new 53 53 w a b t)
  clear h
  go_enter Try.func37, Try.ntmps37
  go_wp2_with fail
  refine (wright_any a b t _).mono ?_
  rintro e w1 ⟨rfl, k1⟩
  rw [H.out]
  have H1 := Lib.hid (H0.out.none k1)
  obtain ⟨r0, r1, r2, f0, f1, f2, l2⟩ := three_cells H1.out.res
  clear k1
  go_wp2
  refine bodyPost_ret (v := .tuple #[.agg #[.int .i64 0, .int .i64 0, .int .i64 0], .bool false]) (by simp [results, Try.results37, go_sem, *]) rfl ⟨rfl, ?_⟩
  exact ((H1.out.keeps.setCell (.inr (by simp)) _).setCell (.inr (by simp)) _).setCell (.inr (by simp)) _
end Go.Proofs.Ytkpjedpnknaliac
