import Derived.Test.YtjpbfmhfjlbcgaaRotorC
namespace Go.Proofs.Ytjpbfmhfjlbcgaa
open Go.ChangeShapes Go.WideShapes Go.ChangeAt Go.RowKit
set_option linter.unusedVariables false
set_option linter.unusedSimpArgs false
theorem fpart_any (n p : Int) (w : World) :
    Calls Try.prog 27 #[.int .i64 n, .int .i64 p] w fun e w' => e = .returned (.bool (decide (0 ≤ n ∧ n < p))) ∧ w = w' := by
  go_enter Try.func27, Try.ntmps27
  go_wp2
  all_goals
    go_ret
    refine ⟨ret_bool ?_, rfl⟩
    rw [Bool.eq_iff_iff]
    simp only [decide_eq_true_eq, Bool.and_eq_true, Bool.false_eq_true, false_iff]
    omega
theorem frest_any (n p : Int) (w : World) (hp : 0 < p ∧ p ≤ 1000000) :
    Calls Try.prog 20 #[.int .i64 n, .int .i64 p] w fun e w' => e = .returned (.int .i64 (n % p)) ∧ w = w' := by
  have e1 := rest_eq n p hp.1
  have h1 := Int.tmod_lt_of_pos n hp.1
  have h2 := Int.lt_tmod_of_pos n hp.1
  have W1 : IntKind.i64.wrap (n.tmod p + p) = n.tmod p + p := wrap_in _ ⟨by omega, by omega⟩
  have W2 : wrap64 (n.tmod p + p) = n.tmod p + p := by rw [IntWalk.wrap64_in _ ⟨by omega, by omega⟩]
  have z0 : ¬ p = 0 := by omega
  have z1 : (p == 0) = false := beq_eq_false_iff_ne.mpr z0
  clear h1 h2
  go_enter Try.func20, Try.ntmps20
  go_wp2
  go_ret
  exact ⟨rfl, rfl⟩
set_option maxHeartbeats 2000000 in
theorem fright_any (x y a b c d p : Int) (w : World) :
    Calls Try.prog 13 #[.agg (rCells x y a b c d p)] w fun e w' => e = .returned (.bool (rightR x y a b c d p)) ∧ Keeps (fun _ => False) w w' := by
  by_cases q2 : 2 ≤ p
  · have d0 : decide (2 ≤ p) = true := decide_eq_true q2
    by_cases q3 : p ≤ 1000
    · have d1 : decide (p ≤ 1000) = true := decide_eq_true q3
      by_cases p0 : 0 ≤ x ∧ x < p
      · have D0 := Lib.hid (show decide (0 ≤ x ∧ x < p) = true from decide_eq_true p0)
        by_cases p1 : 0 ≤ y ∧ y < p
        · have D1 := Lib.hid (show decide (0 ≤ y ∧ y < p) = true from decide_eq_true p1)
          by_cases p2 : 0 ≤ a ∧ a < p
          · have D2 := Lib.hid (show decide (0 ≤ a ∧ a < p) = true from decide_eq_true p2)
            by_cases p3 : 0 ≤ b ∧ b < p
            · have D3 := Lib.hid (show decide (0 ≤ b ∧ b < p) = true from decide_eq_true p3)
              by_cases p4 : 0 ≤ c ∧ c < p
              · have D4 := Lib.hid (show decide (0 ≤ c ∧ c < p) = true from decide_eq_true p4)
                by_cases p5 : 0 ≤ d ∧ d < p
                · have D5 := Lib.hid (show decide (0 ≤ d ∧ d < p) = true from decide_eq_true p5)
                  have HV := Lib.hid (show rightR x y a b c d p = true from decide_eq_true ⟨⟨q2, q3⟩, p0, p1, p2, p3, p4, p5⟩)
                  clear q2 q3 p0 p1 p2 p3 p4 p5
                  go_enter Try.func13, Try.ntmps13
                  go_wp2_with fail
                  refine (fpart_any _ _ _).mono ?_
                  rintro e w' ⟨rfl, rfl⟩
                  rw [D0.out]
                  go_wp2_with fail
                  refine (fpart_any _ _ _).mono ?_
                  rintro e w' ⟨rfl, rfl⟩
                  rw [D1.out]
                  go_wp2_with fail
                  refine (fpart_any _ _ _).mono ?_
                  rintro e w' ⟨rfl, rfl⟩
                  rw [D2.out]
                  go_wp2_with fail
                  refine (fpart_any _ _ _).mono ?_
                  rintro e w' ⟨rfl, rfl⟩
                  rw [D3.out]
                  go_wp2_with fail
                  refine (fpart_any _ _ _).mono ?_
                  rintro e w' ⟨rfl, rfl⟩
                  rw [D4.out]
                  go_wp2_with fail
                  refine (fpart_any _ _ _).mono ?_
                  rintro e w' ⟨rfl, rfl⟩
                  rw [D5.out]
                  go_wp2
                  go_ret
                  exact ⟨ret_bool HV.out.symm, (Keeps.refl _ _).alloc _⟩
                · have D5 := Lib.hid (show decide (0 ≤ d ∧ d < p) = false from decide_eq_false p5)
                  have HV := Lib.hid (show rightR x y a b c d p = false from decide_eq_false fun h => p5 (h.2.2.2.2.2.2))
                  clear q2 q3 p0 p1 p2 p3 p4 p5
                  go_enter Try.func13, Try.ntmps13
                  go_wp2_with fail
                  refine (fpart_any _ _ _).mono ?_
                  rintro e w' ⟨rfl, rfl⟩
                  rw [D0.out]
                  go_wp2_with fail
                  refine (fpart_any _ _ _).mono ?_
                  rintro e w' ⟨rfl, rfl⟩
                  rw [D1.out]
                  go_wp2_with fail
                  refine (fpart_any _ _ _).mono ?_
                  rintro e w' ⟨rfl, rfl⟩
                  rw [D2.out]
                  go_wp2_with fail
                  refine (fpart_any _ _ _).mono ?_
                  rintro e w' ⟨rfl, rfl⟩
                  rw [D3.out]
                  go_wp2_with fail
                  refine (fpart_any _ _ _).mono ?_
                  rintro e w' ⟨rfl, rfl⟩
                  rw [D4.out]
                  go_wp2_with fail
                  refine (fpart_any _ _ _).mono ?_
                  rintro e w' ⟨rfl, rfl⟩
                  rw [D5.out]
                  go_wp2
                  go_ret
                  exact ⟨ret_bool HV.out.symm, (Keeps.refl _ _).alloc _⟩
              · have D4 := Lib.hid (show decide (0 ≤ c ∧ c < p) = false from decide_eq_false p4)
                have HV := Lib.hid (show rightR x y a b c d p = false from decide_eq_false fun h => p4 (h.2.2.2.2.2.1))
                clear q2 q3 p0 p1 p2 p3 p4
                go_enter Try.func13, Try.ntmps13
                go_wp2_with fail
                refine (fpart_any _ _ _).mono ?_
                rintro e w' ⟨rfl, rfl⟩
                rw [D0.out]
                go_wp2_with fail
                refine (fpart_any _ _ _).mono ?_
                rintro e w' ⟨rfl, rfl⟩
                rw [D1.out]
                go_wp2_with fail
                refine (fpart_any _ _ _).mono ?_
                rintro e w' ⟨rfl, rfl⟩
                rw [D2.out]
                go_wp2_with fail
                refine (fpart_any _ _ _).mono ?_
                rintro e w' ⟨rfl, rfl⟩
                rw [D3.out]
                go_wp2_with fail
                refine (fpart_any _ _ _).mono ?_
                rintro e w' ⟨rfl, rfl⟩
                rw [D4.out]
                go_wp2
                go_ret
                exact ⟨ret_bool HV.out.symm, (Keeps.refl _ _).alloc _⟩
            · have D3 := Lib.hid (show decide (0 ≤ b ∧ b < p) = false from decide_eq_false p3)
              have HV := Lib.hid (show rightR x y a b c d p = false from decide_eq_false fun h => p3 (h.2.2.2.2.1))
              clear q2 q3 p0 p1 p2 p3
              go_enter Try.func13, Try.ntmps13
              go_wp2_with fail
              refine (fpart_any _ _ _).mono ?_
              rintro e w' ⟨rfl, rfl⟩
              rw [D0.out]
              go_wp2_with fail
              refine (fpart_any _ _ _).mono ?_
              rintro e w' ⟨rfl, rfl⟩
              rw [D1.out]
              go_wp2_with fail
              refine (fpart_any _ _ _).mono ?_
              rintro e w' ⟨rfl, rfl⟩
              rw [D2.out]
              go_wp2_with fail
              refine (fpart_any _ _ _).mono ?_
              rintro e w' ⟨rfl, rfl⟩
              rw [D3.out]
              go_wp2
              go_ret
              exact ⟨ret_bool HV.out.symm, (Keeps.refl _ _).alloc _⟩
          · have D2 := Lib.hid (show decide (0 ≤ a ∧ a < p) = false from decide_eq_false p2)
            have HV := Lib.hid (show rightR x y a b c d p = false from decide_eq_false fun h => p2 (h.2.2.2.1))
            clear q2 q3 p0 p1 p2
            go_enter Try.func13, Try.ntmps13
            go_wp2_with fail
            refine (fpart_any _ _ _).mono ?_
            rintro e w' ⟨rfl, rfl⟩
            rw [D0.out]
            go_wp2_with fail
            refine (fpart_any _ _ _).mono ?_
            rintro e w' ⟨rfl, rfl⟩
            rw [D1.out]
            go_wp2_with fail
            refine (fpart_any _ _ _).mono ?_
            rintro e w' ⟨rfl, rfl⟩
            rw [D2.out]
            go_wp2
            go_ret
            exact ⟨ret_bool HV.out.symm, (Keeps.refl _ _).alloc _⟩
        · have D1 := Lib.hid (show decide (0 ≤ y ∧ y < p) = false from decide_eq_false p1)
          have HV := Lib.hid (show rightR x y a b c d p = false from decide_eq_false fun h => p1 (h.2.2.1))
          clear q2 q3 p0 p1
          go_enter Try.func13, Try.ntmps13
          go_wp2_with fail
          refine (fpart_any _ _ _).mono ?_
          rintro e w' ⟨rfl, rfl⟩
          rw [D0.out]
          go_wp2_with fail
          refine (fpart_any _ _ _).mono ?_
          rintro e w' ⟨rfl, rfl⟩
          rw [D1.out]
          go_wp2
          go_ret
          exact ⟨ret_bool HV.out.symm, (Keeps.refl _ _).alloc _⟩
      · have D0 := Lib.hid (show decide (0 ≤ x ∧ x < p) = false from decide_eq_false p0)
        have HV := Lib.hid (show rightR x y a b c d p = false from decide_eq_false fun h => p0 (h.2.1))
        clear q2 q3 p0
        go_enter Try.func13, Try.ntmps13
        go_wp2_with fail
        refine (fpart_any _ _ _).mono ?_
        rintro e w' ⟨rfl, rfl⟩
        rw [D0.out]
        go_wp2
        go_ret
        exact ⟨ret_bool HV.out.symm, (Keeps.refl _ _).alloc _⟩
    · have d1 : decide (p ≤ 1000) = false := decide_eq_false q3
      have HV := Lib.hid (show rightR x y a b c d p = false from decide_eq_false fun h => q3 h.1.2)
      clear q2 q3
      go_enter Try.func13, Try.ntmps13
      go_wp2
      go_ret
      exact ⟨ret_bool HV.out.symm, (Keeps.refl _ _).alloc _⟩
  · have d0 : decide (2 ≤ p) = false := decide_eq_false q2
    have HV := Lib.hid (show rightR x y a b c d p = false from decide_eq_false fun h => q2 h.1.1)
    clear q2
    go_enter Try.func13, Try.ntmps13
    go_wp2
    go_ret
    exact ⟨ret_bool HV.out.symm, (Keeps.refl _ _).alloc _⟩
/-- A rotor in a variable, and the variable of the result. -/
structure RB (E : TypeId) (w wr : World) (x y a b c d p : Int) : Prop where
  keeps : Keeps (fun _ => False) w wr
  one : wr.heap[w.heap.size]? = some (.cells (rCells x y a b c d p) E (0, 0))
  res : wr.heap[w.heap.size + 1]? = some (.cells #[.int .i64 0, .int .i64 0, .int .i64 0, .int .i64 0, .int .i64 0, .int .i64 0, .int .i64 0] E (0, 0))
theorem RB.none {E : TypeId} {w w1 w2 : World} {x y a b c d p : Int} (h : RB E w w1 x y a b c d p) (k : Keeps (fun _ => False) w1 w2) : RB E w w2 x y a b c d p :=
  ⟨h.keeps.trans k, k.at h.one fun h => h, k.at h.res fun h => h⟩
theorem RB.new (E : TypeId) (w : World) (x y a b c d p : Int) : RB E w ((w.alloc (.cells (rCells x y a b c d p) E)).alloc (.cells #[.int .i64 0, .int .i64 0, .int .i64 0, .int .i64 0, .int .i64 0, .int .i64 0, .int .i64 0] E)) x y a b c d p := by
  obtain ⟨h1, h2, h3⟩ := kept2 (Keeps.refl (fun _ => False) ((w.alloc (.cells (rCells x y a b c d p) E)).alloc (.cells #[.int .i64 0, .int .i64 0, .int .i64 0, .int .i64 0, .int .i64 0, .int .i64 0, .int .i64 0] E)))
  exact ⟨h3, h1, h2⟩
theorem seven_free {w : World} {g : Nat} {cs : Array Value} {E : TypeId} (h : w.heap[g]? = some (.cells cs E (0, 0))) : w.frozen? ⟨g, 0, none⟩ = false ∧ w.frozen? ⟨g, 1, none⟩ = false ∧ w.frozen? ⟨g, 2, none⟩ = false ∧ w.frozen? ⟨g, 3, none⟩ = false ∧ w.frozen? ⟨g, 4, none⟩ = false ∧ w.frozen? ⟨g, 5, none⟩ = false ∧ w.frozen? ⟨g, 6, none⟩ = false ∧ g < w.heap.size :=
  ⟨free_of h 0, free_of h 1, free_of h 2, free_of h 3, free_of h 4, free_of h 5, free_of h 6, lt_of h⟩
theorem RB.put2 {E : TypeId} {w wr : World} {x y a b c d p x' y' : Int} (h : RB E w wr x y a b c d p) : RB E w ((wr.setCell ⟨w.heap.size, 0, Option.none⟩ (.int .i64 x')).setCell ⟨w.heap.size, 1, Option.none⟩ (.int .i64 y')).drew x' y' a b c d p := by
  have e0 := heap_set h.one 0 (.int .i64 x')
  simp only [List.setIfInBounds_toArray, List.set_cons_zero, List.set_cons_succ] at e0
  have e1 := heap_set e0 1 (.int .i64 y')
  simp only [List.setIfInBounds_toArray, List.set_cons_zero, List.set_cons_succ] at e1
  exact ⟨((h.keeps.setCell (p := ⟨w.heap.size, 0, Option.none⟩) (.inr (Nat.le_refl _)) _).setCell (p := ⟨w.heap.size, 1, Option.none⟩) (.inr (Nat.le_refl _)) _).drew, e1, heap_other (heap_other h.res (by simp) _) (by simp) _⟩
theorem RB.put {E : TypeId} {w wr : World} {x y a b c d p x' y' a' b' c' d' p' : Int} (h : RB E w wr x y a b c d p) : RB E w (((((((wr.setCell ⟨w.heap.size, 0, Option.none⟩ (.int .i64 x')).setCell ⟨w.heap.size, 1, Option.none⟩ (.int .i64 y')).setCell ⟨w.heap.size, 2, Option.none⟩ (.int .i64 a')).setCell ⟨w.heap.size, 3, Option.none⟩ (.int .i64 b')).setCell ⟨w.heap.size, 4, Option.none⟩ (.int .i64 c')).setCell ⟨w.heap.size, 5, Option.none⟩ (.int .i64 d')).setCell ⟨w.heap.size, 6, Option.none⟩ (.int .i64 p')) x' y' a' b' c' d' p' := by
  have e0 := heap_set h.one 0 (.int .i64 x')
  simp only [List.setIfInBounds_toArray, List.set_cons_zero, List.set_cons_succ] at e0
  have e1 := heap_set e0 1 (.int .i64 y')
  simp only [List.setIfInBounds_toArray, List.set_cons_zero, List.set_cons_succ] at e1
  have e2 := heap_set e1 2 (.int .i64 a')
  simp only [List.setIfInBounds_toArray, List.set_cons_zero, List.set_cons_succ] at e2
  have e3 := heap_set e2 3 (.int .i64 b')
  simp only [List.setIfInBounds_toArray, List.set_cons_zero, List.set_cons_succ] at e3
  have e4 := heap_set e3 4 (.int .i64 c')
  simp only [List.setIfInBounds_toArray, List.set_cons_zero, List.set_cons_succ] at e4
  have e5 := heap_set e4 5 (.int .i64 d')
  simp only [List.setIfInBounds_toArray, List.set_cons_zero, List.set_cons_succ] at e5
  have e6 := heap_set e5 6 (.int .i64 p')
  simp only [List.setIfInBounds_toArray, List.set_cons_zero, List.set_cons_succ] at e6
  exact ⟨((((((h.keeps.setCell (p := ⟨w.heap.size, 0, Option.none⟩) (.inr (Nat.le_refl _)) _).setCell (p := ⟨w.heap.size, 1, Option.none⟩) (.inr (Nat.le_refl _)) _).setCell (p := ⟨w.heap.size, 2, Option.none⟩) (.inr (Nat.le_refl _)) _).setCell (p := ⟨w.heap.size, 3, Option.none⟩) (.inr (Nat.le_refl _)) _).setCell (p := ⟨w.heap.size, 4, Option.none⟩) (.inr (Nat.le_refl _)) _).setCell (p := ⟨w.heap.size, 5, Option.none⟩) (.inr (Nat.le_refl _)) _).setCell (p := ⟨w.heap.size, 6, Option.none⟩) (.inr (Nat.le_refl _)) _,
   e6,
   heap_other (heap_other (heap_other (heap_other (heap_other (heap_other (heap_other h.res (by simp) _) (by simp) _) (by simp) _) (by simp) _) (by simp) _) (by simp) _) (by simp) _⟩
theorem RB.seven {E : TypeId} {w wr : World} {x y a b c d p x' y' a' b' c' d' p' : Int} (h : RB E w wr x y a b c d p) : Keeps (fun _ => False) w (((((((wr.setCell ⟨(w.heap.size + 1), 0, Option.none⟩ (.int .i64 x')).setCell ⟨(w.heap.size + 1), 1, Option.none⟩ (.int .i64 y')).setCell ⟨(w.heap.size + 1), 2, Option.none⟩ (.int .i64 a')).setCell ⟨(w.heap.size + 1), 3, Option.none⟩ (.int .i64 b')).setCell ⟨(w.heap.size + 1), 4, Option.none⟩ (.int .i64 c')).setCell ⟨(w.heap.size + 1), 5, Option.none⟩ (.int .i64 d')).setCell ⟨(w.heap.size + 1), 6, Option.none⟩ (.int .i64 p')) :=
  ((((((h.keeps.setCell (p := ⟨w.heap.size + 1, 0, Option.none⟩) (.inr (Nat.le_succ _)) _).setCell (p := ⟨w.heap.size + 1, 1, Option.none⟩) (.inr (Nat.le_succ _)) _).setCell (p := ⟨w.heap.size + 1, 2, Option.none⟩) (.inr (Nat.le_succ _)) _).setCell (p := ⟨w.heap.size + 1, 3, Option.none⟩) (.inr (Nat.le_succ _)) _).setCell (p := ⟨w.heap.size + 1, 4, Option.none⟩) (.inr (Nat.le_succ _)) _).setCell (p := ⟨w.heap.size + 1, 5, Option.none⟩) (.inr (Nat.le_succ _)) _).setCell (p := ⟨w.heap.size + 1, 6, Option.none⟩) (.inr (Nat.le_succ _)) _
theorem fnext_no (x y a b c d p : Int) (w : World) (h : rightR x y a b c d p = false) :
    Calls Try.prog 9 #[.agg (rCells x y a b c d p)] w fun e w' => e = .returned (.tuple #[.agg #[.int .i64 0, .int .i64 0, .int .i64 0, .int .i64 0, .int .i64 0, .int .i64 0, .int .i64 0], .bool false]) ∧ Keeps (fun _ => False) w w' := by
  have H := Lib.hid h
  have H0 := Lib.hid (RB.new 25 w x y a b c d p)
  clear h
  go_enter Try.func9, Try.ntmps9
  go_wp2_with fail
  refine (fright_any _ _ _ _ _ _ _ _).mono ?_
  rintro e w1 ⟨rfl, k1⟩
  rw [H.out]
  have H1 := Lib.hid (H0.out.none k1)
  obtain ⟨r0, r1, r2, r3, r4, r5, r6⟩ := seven_cells H1.out.res
  obtain ⟨f0, f1, f2, f3, f4, f5, f6, lr⟩ := seven_free H1.out.res
  clear k1
  go_wp2
  exact bodyPost_ret (v := .tuple #[.agg #[.int .i64 0, .int .i64 0, .int .i64 0, .int .i64 0, .int .i64 0, .int .i64 0, .int .i64 0], .bool false]) (by simp [results, Try.results9, go_sem, *]) rfl ⟨rfl, H1.out.seven⟩
set_option maxHeartbeats 2000000 in
theorem fnext_yes (x y a b c d p : Int) (w : World) (h : rightR x y a b c d p = true) :
    Calls Try.prog 9 #[.agg (rCells x y a b c d p)] w fun e w' => e = .returned (.tuple #[.agg (rCells ((x * a - y * b + c) % p) ((x * b + y * a + d) % p) a b c d p), .bool true]) ∧ Keeps (fun _ => False) w w' := by
  have H := Lib.hid h
  have H0 := Lib.hid (RB.new 25 w x y a b c d p)
  obtain ⟨⟨hp1, hp2⟩, hx, hy, ha, hb, hc, hd⟩ := rightR_bds h
  clear h
  have l1 := mul_lim (x := x) (a := a) (by omega) (by omega)
  have l2 := mul_lim (x := y) (a := b) (by omega) (by omega)
  have l3 := mul_lim (x := x) (a := b) (by omega) (by omega)
  have l4 := mul_lim (x := y) (a := a) (by omega) (by omega)
  have A1 : IntKind.i64.wrap (x * a) = x * a := wrap_in _ ⟨by omega, by omega⟩
  have A1' : wrap64 (x * a) = x * a := by rw [IntWalk.wrap64_in _ ⟨by omega, by omega⟩]
  have A2 : IntKind.i64.wrap (y * b) = y * b := wrap_in _ ⟨by omega, by omega⟩
  have A2' : wrap64 (y * b) = y * b := by rw [IntWalk.wrap64_in _ ⟨by omega, by omega⟩]
  have A3 : IntKind.i64.wrap (x * a - y * b) = x * a - y * b := wrap_in _ ⟨by omega, by omega⟩
  have A3' : wrap64 (x * a - y * b) = x * a - y * b := by rw [IntWalk.wrap64_in _ ⟨by omega, by omega⟩]
  have A4 : IntKind.i64.wrap (x * a - y * b + c) = x * a - y * b + c := wrap_in _ ⟨by omega, by omega⟩
  have A4' : wrap64 (x * a - y * b + c) = x * a - y * b + c := by rw [IntWalk.wrap64_in _ ⟨by omega, by omega⟩]
  have B1 : IntKind.i64.wrap (x * b) = x * b := wrap_in _ ⟨by omega, by omega⟩
  have B1' : wrap64 (x * b) = x * b := by rw [IntWalk.wrap64_in _ ⟨by omega, by omega⟩]
  have B2 : IntKind.i64.wrap (y * a) = y * a := wrap_in _ ⟨by omega, by omega⟩
  have B2' : wrap64 (y * a) = y * a := by rw [IntWalk.wrap64_in _ ⟨by omega, by omega⟩]
  have B3 : IntKind.i64.wrap (x * b + y * a) = x * b + y * a := wrap_in _ ⟨by omega, by omega⟩
  have B3' : wrap64 (x * b + y * a) = x * b + y * a := by rw [IntWalk.wrap64_in _ ⟨by omega, by omega⟩]
  have B4 : IntKind.i64.wrap (x * b + y * a + d) = x * b + y * a + d := wrap_in _ ⟨by omega, by omega⟩
  have B4' : wrap64 (x * b + y * a + d) = x * b + y * a + d := by rw [IntWalk.wrap64_in _ ⟨by omega, by omega⟩]
  have HR1 := fun w => frest_any (x * a - y * b + c) p w ⟨by omega, by omega⟩
  have HR2 := fun w => frest_any (x * b + y * a + d) p w ⟨by omega, by omega⟩
  generalize (x * a - y * b + c) % p = X at *
  generalize (x * b + y * a + d) % p = Y at *
  replace HR1 := Lib.hid HR1
  replace HR2 := Lib.hid HR2
  clear l1 l2 l3 l4 hp1 hp2 hx hy ha hb hc hd
  go_enter Try.func9, Try.ntmps9
  go_wp2_with fail
  refine (fright_any _ _ _ _ _ _ _ _).mono ?_
  rintro e w1 ⟨rfl, k1⟩
  rw [H.out]
  have H1 := Lib.hid (H0.out.none k1)
  obtain ⟨x0, x1, x2, x3, x4, x5, x6⟩ := seven_cells H1.out.one
  obtain ⟨f0, f1, f2, f3, f4, f5, f6, lx⟩ := seven_free H1.out.one
  clear k1
  go_wp2_with fail
  clear A1 A1' A2 A2' A3 A3' A4 A4' B1 B1' B2 B2' B3 B3' B4 B4'
  go_region_held3 (fun w' => w'.cell? ⟨w.heap.size, 6, none⟩ = some (.int .i64 p))
    (first
      | exact x6
      | exact cell_of (heap_set (heap_set H1.out.one 0 _) 1 _) 6
      | go_keep)
    ((go_at_call 20; first
      | (with_reducible refine (HR1.out _).mono ?_; rintro e w' ⟨rfl, rfl⟩)
      | (with_reducible refine (HR2.out _).mono ?_; rintro e w' ⟨rfl, rfl⟩)))
  all_goals
    have H2 := Lib.hid (H1.out.put2 (x' := X) (y' := Y))
    clear x0 x1 x2 x3 x4 x5 x6 f0 f1 f2 f3 f4 f5 f6 lx H1
    generalize World.drew _ = w9 at H2 ⊢
    obtain ⟨x0, x1, x2, x3, x4, x5, x6⟩ := seven_cells H2.out.one
    obtain ⟨r0, r1, r2, r3, r4, r5, r6⟩ := seven_cells H2.out.res
    obtain ⟨g0, g1, g2, g3, g4, g5, g6, lr⟩ := seven_free H2.out.res
    go_wp2
    exact bodyPost_ret (v := .tuple #[.agg (rCells X Y a b c d p), .bool true]) (by simp [results, Try.results9, go_sem, *]) rfl ⟨rfl, H2.out.seven⟩
theorem fskip_no (x y a b c d p n : Int) (w : World) (h : (rightR x y a b c d p && decide (0 ≤ n)) = false) :
    Calls Try.prog 11 #[.agg (rCells x y a b c d p), .int .i64 n] w fun e w' => e = .returned (.tuple #[.agg #[.int .i64 0, .int .i64 0, .int .i64 0, .int .i64 0, .int .i64 0, .int .i64 0, .int .i64 0], .bool false]) ∧ Keeps (fun _ => False) w w' := by
  have H0 := Lib.hid (RB.new 25 w x y a b c d p)
  cases hr : rightR x y a b c d p
  · have H := Lib.hid hr
    clear hr h
    go_enter Try.func11, Try.ntmps11
    go_wp2_with fail
    refine (fright_any _ _ _ _ _ _ _ _).mono ?_
    rintro e w1 ⟨rfl, k1⟩
    rw [H.out]
    have H1 := Lib.hid (H0.out.none k1)
    obtain ⟨r0, r1, r2, r3, r4, r5, r6⟩ := seven_cells H1.out.res
    obtain ⟨f0, f1, f2, f3, f4, f5, f6, lr⟩ := seven_free H1.out.res
    clear k1
    go_wp2
    exact bodyPost_ret (v := .tuple #[.agg #[.int .i64 0, .int .i64 0, .int .i64 0, .int .i64 0, .int .i64 0, .int .i64 0, .int .i64 0], .bool false]) (by simp [results, Try.results11, go_sem, *]) rfl ⟨rfl, H1.out.seven⟩
  · have hn : decide (n < 0) = true := by rw [hr] at h; simp at h; simp; omega
    have H := Lib.hid hr
    clear hr h
    go_enter Try.func11, Try.ntmps11
    go_wp2_with fail
    refine (fright_any _ _ _ _ _ _ _ _).mono ?_
    rintro e w1 ⟨rfl, k1⟩
    rw [H.out]
    have H1 := Lib.hid (H0.out.none k1)
    obtain ⟨r0, r1, r2, r3, r4, r5, r6⟩ := seven_cells H1.out.res
    obtain ⟨f0, f1, f2, f3, f4, f5, f6, lr⟩ := seven_free H1.out.res
    clear k1
    go_wp2
    exact bodyPost_ret (v := .tuple #[.agg #[.int .i64 0, .int .i64 0, .int .i64 0, .int .i64 0, .int .i64 0, .int .i64 0, .int .i64 0], .bool false]) (by simp [results, Try.results11, go_sem, *]) rfl ⟨rfl, H1.out.seven⟩
theorem rightR_it {x y a b c d p : Int} (h : rightR x y a b c d p = true) (j : Nat) : rightR (Mv.it p ⟨a, b, c, d⟩ j (x, y)).1 (Mv.it p ⟨a, b, c, d⟩ j (x, y)).2 a b c d p = true := by
  obtain ⟨hp, hx, hy, hr⟩ := rightR_bds h
  have hi := Mv.it_in p ⟨a, b, c, d⟩ j (x, y) (by omega) ⟨hx, hy⟩
  exact decide_eq_true ⟨hp, hi.1, hi.2, hr⟩
set_option maxRecDepth 20000 in
set_option maxHeartbeats 2000000 in
theorem fskip_yes (x y a b c d p : Int) (n : Nat) (w : World) (h : rightR x y a b c d p = true) (hn : n ≤ 9223372036854775807) :
    Calls Try.prog 11 #[.agg (rCells x y a b c d p), .int .i64 (n : Int)] w fun e w' => e = .returned (.tuple #[.agg (rCells (Mv.it p ⟨a, b, c, d⟩ n (x, y)).1 (Mv.it p ⟨a, b, c, d⟩ n (x, y)).2 a b c d p), .bool true]) ∧ Keeps (fun _ => False) w w' := by
  have H0 := Lib.hid (RB.new 25 w x y a b c d p)
  have H := Lib.hid h
  have HI := Lib.hid (fun j => rightR_it h j)
  have hnn : decide ((n : Int) < 0) = false := decide_eq_false (by omega)
  obtain ⟨Z, hZ⟩ : ∃ Z : Nat → Int × Int, Z = fun j => Mv.it p ⟨a, b, c, d⟩ j (x, y) := ⟨_, rfl⟩
  have HZ := Lib.hid (show ∀ j, Z (j + 1) = (((Z j).1 * a - (Z j).2 * b + c) % p, ((Z j).1 * b + (Z j).2 * a + d) % p) from fun j => by rw [hZ]; rfl)
  have HZ0 := Lib.hid (show Z 0 = (x, y) by rw [hZ]; rfl)
  have HZn := Lib.hid (show ∀ j, Mv.it p ⟨a, b, c, d⟩ j (x, y) = Z j from fun j => by rw [hZ])
  have HZI := Lib.hid (show ∀ j, rightR (Z j).1 (Z j).2 a b c d p = true from fun j => by rw [hZ]; exact HI.out j)
  clear hZ h HI
  rw [HZn.out n]
  go_enter Try.func11, Try.ntmps11
  go_wp2_with fail
  refine (fright_any _ _ _ _ _ _ _ _).mono ?_
  rintro e w1 ⟨rfl, k1⟩
  rw [H.out]
  have H1 := Lib.hid (H0.out.none k1)
  clear k1
  go_wp2_with fail
  obtain ⟨wo, rfl⟩ : ∃ wo : World, wo = w := ⟨_, rfl⟩
  go_loopw [6] (fun i wr => ∃ j : Nat, j ≤ n ∧ i = .int .i64 j ∧ RB 25 wo wr (Z j).1 (Z j).2 a b c d p) (fun i _ => n - (intOf i).toNat)
  case atStart => exact ⟨0, by omega, rfl, by rw [HZ0.out]; exact H1.out⟩
  case round =>
    obtain ⟨j, hj, rfl, hB⟩ := hrel
    have HB := Lib.hid hB
    have HX := Lib.hid (HZ.out j)
    have HR := Lib.hid (HZI.out j)
    have HE := Lib.hid (show j = n → Z n = Z j from fun h => by rw [h])
    clear hB
    obtain ⟨x0, x1, x2, x3, x4, x5, x6⟩ := seven_cells HB.out.one
    obtain ⟨f0, f1, f2, f3, f4, f5, f6, lx⟩ := seven_free HB.out.one
    by_cases hlt : j < n
    · have HN := Lib.hid (fun w => fnext_yes (Z j).1 (Z j).2 a b c d p w HR.out)
      go_wp2_with fail
      refine (HN.out _).mono ?_
      rintro e w2 ⟨rfl, k2⟩
      replace HB := Lib.hid (HB.out.none k2)
      clear k2 x0 x1 x2 x3 x4 x5 x6 f0 f1 f2 f3 f4 f5 f6 lx
      obtain ⟨x0, x1, x2, x3, x4, x5, x6⟩ := seven_cells HB.out.one
      obtain ⟨f0, f1, f2, f3, f4, f5, f6, lx⟩ := seven_free HB.out.one
      go_wp2
      go_roundw
      case rel => exact ⟨j + 1, by omega, by go_num, by rw [HX.out]; exact HB.out.put⟩
      case measure => simp [intOf]; omega
    · obtain rfl : j = n := by omega
      obtain ⟨r0, r1, r2, r3, r4, r5, r6⟩ := seven_cells HB.out.res
      obtain ⟨g0, g1, g2, g3, g4, g5, g6, lr⟩ := seven_free HB.out.res
      go_wp2
      exact bodyPost_ret (v := .tuple #[.agg (rCells (Z j).1 (Z j).2 a b c d p), .bool true]) (by simp [results, Try.results11, go_sem, *]) rfl ⟨rfl, HB.out.seven⟩
end Go.Proofs.Ytjpbfmhfjlbcgaa
