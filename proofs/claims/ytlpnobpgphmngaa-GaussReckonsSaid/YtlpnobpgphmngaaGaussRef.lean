import Derived.Test.YtlpnobpgphmngaaGaussSum
namespace Go.Proofs.Ytlpnobpgphmngaa
open Go.ChangeShapes Go.WideShapes Go.ChangeAt Go.RowKit
set_option linter.unusedVariables false
theorem within_any (a : Int) (w : World) :
    Calls Try.prog 69 #[.int .i64 a] w fun e w' => e = .returned (.bool (decide (-1048576 ≤ a ∧ a ≤ 1048576))) ∧ w = w' := by
  go_enter Try.func69, Try.ntmps69
  go_wp2
  all_goals
    go_ret
    refine ⟨ret_bool ?_, rfl⟩
    rw [Bool.eq_iff_iff]
    simp only [decide_eq_true_eq, Bool.and_eq_true, Bool.false_eq_true, false_iff]
    omega
theorem rright_any (a b : Int) (w : World) :
    Calls Try.prog 45 #[.agg #[.int .i64 a, .int .i64 b]] w fun e w' => e = .returned (.bool (rightB a b)) ∧ Keeps (fun _ => False) w w' := by
  have hr : rightB a b = (decide (-1048576 ≤ a ∧ a ≤ 1048576) && decide (-1048576 ≤ b ∧ b ≤ 1048576)) := by
    unfold rightB; rw [Bool.decide_and]
  rw [hr]
  clear hr
  go_enter Try.func45, Try.ntmps45
  go_wp2_with fail
  refine (within_any a _).mono ?_
  rintro e w' ⟨rfl, rfl⟩
  cases h : decide (-1048576 ≤ a ∧ a ≤ 1048576)
  · have H := Lib.hid h
    clear h
    go_wp2
    go_ret
    exact ⟨ret_bool (by rw [H.out]; rfl), (Keeps.refl _ _).alloc _⟩
  · have H := Lib.hid h
    clear h
    go_wp2_with fail
    refine (within_any b _).mono ?_
    rintro e w' ⟨rfl, rfl⟩
    go_wp2
    go_ret
    exact ⟨ret_bool (by rw [H.out, Bool.decide_and]; rfl), (Keeps.refl _ _).alloc _⟩
theorem rtold_any (x y : Int) (is : Bool) (w : World) :
    Calls Try.prog 68 #[.agg #[.int .i64 x, .int .i64 y], .bool is] w fun e w' => ∃ p q r, e = .returned (.tuple #[.agg #[.int .i64 p, .int .i64 q], .bool r]) ∧ r = (is && rightB x y) ∧ p = (if r then x else 0) ∧ q = (if r then y else 0) ∧ Keeps (fun _ => False) w w' := by
  cases is
  · go_enter Try.func68, Try.ntmps68
    go_wp2
    exact bodyPost_ret (v := .tuple #[.agg #[.int .i64 0, .int .i64 0], .bool false]) (by simp [results, Try.results68, go_sem]) rfl ⟨0, 0, false, rfl, rfl, rfl, rfl, ((Keeps.refl _ _).alloc _).alloc _⟩
  · cases h : rightB x y
    · have H := Lib.hid h
      clear h
      go_enter Try.func68, Try.ntmps68
      go_wp2_with fail
      refine (rright_any x y _).mono ?_
      rintro e w1 ⟨rfl, k1⟩
      rw [H.out]
      obtain ⟨h1, h2, k⟩ := kept2 k1
      obtain ⟨r0, r1, f0, f1, l2⟩ := two_cells h2
      have K := Lib.hid k
      clear k1 h1 h2 k
      go_wp2
      refine bodyPost_ret (v := .tuple #[.agg #[.int .i64 0, .int .i64 0], .bool false]) (by simp [results, Try.results68, go_sem, *]) rfl ⟨0, 0, false, rfl, rfl, rfl, rfl, ?_⟩
      exact (K.out.setCell (.inr (by simp)) _).setCell (.inr (by simp)) _
    · have H := Lib.hid h
      clear h
      go_enter Try.func68, Try.ntmps68
      go_wp2_with fail
      refine (rright_any x y _).mono ?_
      rintro e w1 ⟨rfl, k1⟩
      rw [H.out]
      obtain ⟨h1, h2, k⟩ := kept2 k1
      obtain ⟨x0, x1, _, _, l1⟩ := two_cells h1
      obtain ⟨r0, r1, f0, f1, l2⟩ := two_cells h2
      have K := Lib.hid k
      clear k1 h1 h2 k
      go_wp2
      refine bodyPost_ret (v := .tuple #[.agg #[.int .i64 x, .int .i64 y], .bool true]) (by simp [results, Try.results68, go_sem, *]) rfl ⟨x, y, true, rfl, rfl, rfl, rfl, ?_⟩
      exact (K.out.setCell (.inr (by simp)) _).setCell (.inr (by simp)) _
theorem rnorm_any (a b : Int) (w : World) :
    Calls Try.prog 43 #[.agg #[.int .i64 a, .int .i64 b]] w fun e w' => e = .returned (.int .i64 (if rightB a b then a * a + b * b else -1)) ∧ Keeps (fun _ => False) w w' := by
  cases h : rightB a b
  · have H := Lib.hid h
    clear h
    go_enter Try.func43, Try.ntmps43
    go_wp2_with fail
    refine (rright_any a b _).mono ?_
    rintro e w1 ⟨rfl, k1⟩
    rw [H.out]
    go_wp2
    go_ret
    exact ⟨rfl, ((Keeps.refl (fun _ => False) w).alloc _).trans k1⟩
  · have H := Lib.hid h
    have hr : (-1048576 ≤ a ∧ a ≤ 1048576) ∧ (-1048576 ≤ b ∧ b ≤ 1048576) := of_decide_eq_true h
    clear h
    go_enter Try.func43, Try.ntmps43
    go_wp2_with fail
    refine (rright_any a b _).mono ?_
    rintro e w1 ⟨rfl, k1⟩
    rw [H.out]
    have h1 := k1.at (heap_new w (.cells #[.int .i64 a, .int .i64 b] 53)) fun h => h
    obtain ⟨x0, x1, _, _, l1⟩ := two_cells h1
    have K := Lib.hid (((Keeps.refl (fun _ => False) w).alloc _).trans k1)
    clear k1 h1
    go_wp2
    go_ret
    refine ⟨ret_i64 ?_, K.out⟩
    have q1 := abs_mul (M := 1048576) (N := 1048576) (show a.natAbs ≤ 1048576 by omega) (show a.natAbs ≤ 1048576 by omega)
    have q2 := abs_mul (M := 1048576) (N := 1048576) (show b.natAbs ≤ 1048576 by omega) (show b.natAbs ≤ 1048576 by omega)
    generalize a * a = p at *
    generalize b * b = q at *
    rw [IntWalk.wrap64_in p ⟨by omega, by omega⟩, IntWalk.wrap64_in q ⟨by omega, by omega⟩, IntWalk.wrap64_in _ ⟨by omega, by omega⟩]
theorem rconj_any (a b : Int) (w : World) :
    Calls Try.prog 38 #[.agg #[.int .i64 a, .int .i64 b]] w fun e w' => e = .returned (if rightB a b then .tuple #[.agg #[.int .i64 a, .int .i64 (-b)], .bool true] else .tuple #[.agg #[.int .i64 0, .int .i64 0], .bool false]) ∧ Keeps (fun _ => False) w w' := by
  cases h : rightB a b
  · have H := Lib.hid h
    clear h
    go_enter Try.func38, Try.ntmps38
    go_wp2_with fail
    refine (rright_any a b _).mono ?_
    rintro e w1 ⟨rfl, k1⟩
    rw [H.out]
    obtain ⟨h1, h2, k⟩ := kept2 k1
    obtain ⟨r0, r1, f0, f1, l2⟩ := two_cells h2
    have K := Lib.hid k
    clear k1 h1 h2 k
    go_wp2
    refine bodyPost_ret (v := .tuple #[.agg #[.int .i64 0, .int .i64 0], .bool false]) (by simp [results, Try.results38, go_sem, *]) rfl ⟨rfl, ?_⟩
    exact (K.out.setCell (.inr (by simp)) _).setCell (.inr (by simp)) _
  · have H := Lib.hid h
    have bd := right_bds h
    clear h
    go_enter Try.func38, Try.ntmps38
    go_wp2_with fail
    refine (rright_any a b _).mono ?_
    rintro e w1 ⟨rfl, k1⟩
    rw [H.out]
    obtain ⟨h1, h2, k⟩ := kept2 k1
    obtain ⟨x0, x1, _, _, l1⟩ := two_cells h1
    obtain ⟨r0, r1, f0, f1, l2⟩ := two_cells h2
    have K := Lib.hid k
    clear k1 h1 h2 k
    go_wp2
    refine bodyPost_ret (v := .tuple #[.agg #[.int .i64 a, .int .i64 (-b)], .bool true]) (by simp [results, Try.results38, go_sem, *]) rfl ⟨rfl, ?_⟩
    exact (K.out.setCell (.inr (by simp)) _).setCell (.inr (by simp)) _
structure RBoxes (w wr : World) (a b c d : Int) : Prop where
  keeps : Keeps (fun _ => False) w wr
  one : wr.heap[w.heap.size]? = some (.cells #[.int .i64 a, .int .i64 b] 53 (0, 0))
  two : wr.heap[w.heap.size + 1]? = some (.cells #[.int .i64 c, .int .i64 d] 53 (0, 0))
  res : wr.heap[w.heap.size + 1 + 1]? = some (.cells #[.int .i64 0, .int .i64 0] 53 (0, 0))
theorem RBoxes.none {w w1 w2 : World} {a b c d : Int} (h : RBoxes w w1 a b c d) (k : Keeps (fun _ => False) w1 w2) : RBoxes w w2 a b c d :=
  ⟨h.keeps.trans k, k.at h.one fun h => h, k.at h.two fun h => h, k.at h.res fun h => h⟩
theorem RBoxes.new (w : World) (a b c d : Int) : RBoxes w (((w.alloc (.cells #[.int .i64 a, .int .i64 b] 53)).alloc (.cells #[.int .i64 c, .int .i64 d] 53)).alloc (.cells #[.int .i64 0, .int .i64 0] 53)) a b c d := by
  obtain ⟨h1, h2, h3⟩ := kept2 (Keeps.refl (fun _ => False) ((w.alloc (.cells #[.int .i64 a, .int .i64 b] 53)).alloc (.cells #[.int .i64 c, .int .i64 d] 53)))
  refine ⟨h3.alloc _, heap_old h1 _, heap_old h2 _, ?_⟩
  have := heap_new ((w.alloc (.cells #[.int .i64 a, .int .i64 b] 53)).alloc (.cells #[.int .i64 c, .int .i64 d] 53)) (.cells #[.int .i64 0, .int .i64 0] 53)
  simpa using this
end Go.Proofs.Ytlpnobpgphmngaa
