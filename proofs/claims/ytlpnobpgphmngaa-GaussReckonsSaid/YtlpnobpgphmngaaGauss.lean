import Derived.Test.YtlpnobpgphmngaaRows
import Derived.Test.YtlpnobpgphmngaaFloat
import Derived.Test.YtlpnobpgphmngaaKeep
import Derived.Test.YtlpnobpgphmngaaRet
import Derived.OpenShut
import Derived.WalkLawsBesides
import Derived.WalkSpells
import Derived.Lib.Hide
import Derived.Laws.FloatArith
import Derived.Laws.ComplexArith
import Derived.Deep.QuietTactic
import Derived.BigQuiet
import Derived.Deep.RegionHeld3
import Derived.Outline
import Derived.IntWalk
namespace Go.Proofs.Ytlpnobpgphmngaa
open Go.ChangeShapes Go.WideShapes Go.ChangeAt Go.RowKit
set_option linter.unusedVariables false

/-- May a number be? -/
def rightB (a b : Int) : Bool := decide ((-1048576 ≤ a ∧ a ≤ 1048576) ∧ (-1048576 ≤ b ∧ b ≤ 1048576))
theorem right_any (a b : Int) (w : World) :
    Calls Try.prog 44 #[.agg #[.int .i64 a, .int .i64 b]] w fun e w' => e = .returned (.bool (rightB a b)) ∧ Keeps (fun _ => False) w w' := by
  go_enter Try.func44, Try.ntmps44
  go_wp2
  all_goals
    go_ret
    refine ⟨ret_bool ?_, (Keeps.refl _ _).alloc _⟩
    unfold rightB
    rw [Bool.eq_iff_iff]
    simp only [decide_eq_true_eq, Bool.false_eq_true, false_iff]
    omega
theorem plane_any (a b : Int) (w : World) :
    Calls Try.prog 67 #[.agg #[.int .i64 a, .int .i64 b]] w fun e w' => e = .returned (.complex .f64 (floatOfInt .f64 a) (floatOfInt .f64 b)) ∧ Keeps (fun _ => False) w w' := by
  go_enter Try.func67, Try.ntmps67
  go_wp2
  go_ret
  exact ⟨rfl, (Keeps.refl _ _).alloc _⟩
theorem plane_isF {a : Int} (h : a.natAbs ≤ 9007199254740992) : IsF (floatOfInt .f64 a) a := IsF.ofInt a h
theorem run_toInt (x : Nat) (a : Int) (w : World) (hx : IsF x a) (h1 : -9223372036854775808 ≤ a) (h2 : a ≤ 9223372036854775807) :
    (convert 120 3 (.float .f64 x)).run Try.prog w = .ok (.int .i64 a) w := by
  refine run_convert_float_int w 120 3 .f64 .i64 x a (by kernel_rfl) Try.underlying3 ?_
  unfold floatToIntVal
  have e : (FloatKind.f64.decode x).toInt .zero = some a := hx.toInt
  rw [e]
  have e1 : IntKind.i64.min = -9223372036854775808 := rfl
  have e2 : IntKind.i64.max = 9223372036854775807 := rfl
  simp only [e1, e2]
  rw [if_pos ⟨h1, h2⟩]
/-- What a call leaves of two variables that were new ahead of it. -/
theorem kept2 {w w1 : World} {A B : Array Value} {E F : TypeId} (k : Keeps (fun _ => False) ((w.alloc (.cells A E)).alloc (.cells B F)) w1) :
    w1.heap[w.heap.size]? = some (.cells A E (0, 0)) ∧ w1.heap[w.heap.size + 1]? = some (.cells B F (0, 0)) ∧ Keeps (fun _ => False) w w1 :=
  ⟨k.at (heap_old (heap_new _ _) _) fun h => h, k.at (by
      have := heap_new (w.alloc (.cells A E)) (.cells B F)
      simpa using this) fun h => h, ((Keeps.refl (fun _ => False) w).alloc _ |>.alloc _).trans k⟩
/-- A variable of two cells, known whole: what the walk wants of it. -/
theorem two_cells {w : World} {b : Nat} {x y : Value} {E : TypeId} (h : w.heap[b]? = some (.cells #[x, y] E (0, 0))) :
    w.cell? ⟨b, 0, none⟩ = some x ∧ w.cell? ⟨b, 1, none⟩ = some y ∧ w.frozen? ⟨b, 0, none⟩ = false ∧ w.frozen? ⟨b, 1, none⟩ = false ∧ b < w.heap.size :=
  ⟨cell_of h 0, cell_of h 1, free_of h 0, free_of h 1, lt_of h⟩
theorem checked_yes (a b : Int) (w : World) (h : rightB a b = true) :
    Calls Try.prog 91 #[.agg #[.int .i64 a, .int .i64 b]] w fun e w' => e = .returned (.tuple #[.agg #[.int .i64 a, .int .i64 b], .bool true]) ∧ Keeps (fun _ => False) w w' := by
  have H := Lib.hid h
  clear h
  go_enter Try.func91, Try.ntmps91
  go_wp2_with fail
  refine (right_any a b _).mono ?_
  rintro e w1 ⟨rfl, k1⟩
  rw [H.out]
  obtain ⟨h1, h2, k⟩ := kept2 k1
  obtain ⟨x0, x1, _, _, l1⟩ := two_cells h1
  obtain ⟨r0, r1, f0, f1, l2⟩ := two_cells h2
  have K := Lib.hid k
  clear k1 h1 h2 k
  go_wp2
  refine bodyPost_ret (v := .tuple #[.agg #[.int .i64 a, .int .i64 b], .bool true]) (by simp [results, Try.results91, go_sem, *]) rfl ⟨rfl, ?_⟩
  exact (K.out.setCell (.inr (by simp)) _).setCell (.inr (by simp)) _
theorem checked_no (a b : Int) (w : World) (h : rightB a b = false) :
    Calls Try.prog 91 #[.agg #[.int .i64 a, .int .i64 b]] w fun e w' => e = .returned (.tuple #[.agg #[.int .i64 0, .int .i64 0], .bool false]) ∧ Keeps (fun _ => False) w w' := by
  have H := Lib.hid h
  clear h
  go_enter Try.func91, Try.ntmps91
  go_wp2_with fail
  refine (right_any a b _).mono ?_
  rintro e w1 ⟨rfl, k1⟩
  rw [H.out]
  obtain ⟨h1, h2, k⟩ := kept2 k1
  obtain ⟨x0, x1, _, _, l1⟩ := two_cells h1
  obtain ⟨r0, r1, f0, f1, l2⟩ := two_cells h2
  have K := Lib.hid k
  clear k1 h1 h2 k
  go_wp2
  refine bodyPost_ret (v := .tuple #[.agg #[.int .i64 0, .int .i64 0], .bool false]) (by simp [results, Try.results91, go_sem, *]) rfl ⟨rfl, ?_⟩
  exact (K.out.setCell (.inr (by simp)) _).setCell (.inr (by simp)) _
/-- A number, if it may be. -/
def told (a b : Int) : Value := if rightB a b then .tuple #[.agg #[.int .i64 a, .int .i64 b], .bool true] else .tuple #[.agg #[.int .i64 0, .int .i64 0], .bool false]
def toldA (a b : Int) : Int := if rightB a b then a else 0
def toldB (a b : Int) : Int := if rightB a b then b else 0
theorem told_eq (a b : Int) : told a b = .tuple #[.agg #[.int .i64 (toldA a b), .int .i64 (toldB a b)], .bool (rightB a b)] := by
  unfold told toldA toldB
  cases rightB a b <;> simp
theorem checked_any (a b : Int) (w : World) :
    Calls Try.prog 91 #[.agg #[.int .i64 a, .int .i64 b]] w fun e w' => e = .returned (.tuple #[.agg #[.int .i64 (toldA a b), .int .i64 (toldB a b)], .bool (rightB a b)]) ∧ Keeps (fun _ => False) w w' := by
  rw [← told_eq]
  unfold told
  cases h : rightB a b
  · exact checked_no a b w h
  · exact checked_yes a b w h
theorem whole_any (x y : Nat) (a b : Int) (w : World) (hx : IsF x a) (hy : IsF y b) (ha : -9223372036854775808 ≤ a ∧ a ≤ 9223372036854775807) (hb : -9223372036854775808 ≤ b ∧ b ≤ 9223372036854775807) :
    Calls Try.prog 66 #[.complex .f64 x y] w fun e w' => e = .returned (.tuple #[.agg #[.int .i64 (toldA a b), .int .i64 (toldB a b)], .bool (rightB a b)]) ∧ Keeps (fun _ => False) w w' := by
  have c1 := fun w => run_toInt x a w hx ha.1 ha.2
  have c2 := fun w => run_toInt y b w hy hb.1 hb.2
  clear hx hy ha hb
  go_enter Try.func66, Try.ntmps66
  go_wp2_with fail
  refine (checked_any a b _).mono ?_
  rintro e w1 ⟨rfl, k1⟩
  have h1 := k1.at (heap_new w (.cells #[.int .i64 0, .int .i64 0] 55)) fun h => h
  obtain ⟨r0, r1, f0, f1, l1⟩ := two_cells h1
  have K := Lib.hid (((Keeps.refl (fun _ => False) w).alloc _).trans k1)
  clear k1 h1
  go_wp2
  refine bodyPost_ret (v := .tuple #[.agg #[.int .i64 (toldA a b), .int .i64 (toldB a b)], .bool (rightB a b)]) (by simp [results, Try.results66, go_sem, *]) rfl ⟨rfl, ?_⟩
  exact (K.out.setCell (.inr (by simp)) _).setCell (.inr (by simp)) _
theorem abs_mul {a b : Int} {M N : Nat} (h1 : a.natAbs ≤ M) (h2 : b.natAbs ≤ N) : (a * b).natAbs ≤ M * N := by
  rw [Int.natAbs_mul]; exact Nat.mul_le_mul h1 h2
theorem norm_any (a b : Int) (w : World) :
    Calls Try.prog 42 #[.agg #[.int .i64 a, .int .i64 b]] w fun e w' => e = .returned (.int .i64 (if rightB a b then a * a + b * b else -1)) ∧ Keeps (fun _ => False) w w' := by
  cases h : rightB a b
  · have H := Lib.hid h
    clear h
    go_enter Try.func42, Try.ntmps42
    go_wp2_with fail
    refine (right_any a b _).mono ?_
    rintro e w1 ⟨rfl, k1⟩
    rw [H.out]
    go_wp2
    go_ret
    exact ⟨rfl, ((Keeps.refl (fun _ => False) w).alloc _).trans k1⟩
  · have H := Lib.hid h
    have hr : (-1048576 ≤ a ∧ a ≤ 1048576) ∧ (-1048576 ≤ b ∧ b ≤ 1048576) := of_decide_eq_true h
    clear h
    go_enter Try.func42, Try.ntmps42
    go_wp2_with fail
    refine (right_any a b _).mono ?_
    rintro e w1 ⟨rfl, k1⟩
    rw [H.out]
    have h1 := k1.at (heap_new w (.cells #[.int .i64 a, .int .i64 b] 55)) fun h => h
    obtain ⟨x0, x1, _, _, l1⟩ := two_cells h1
    have K := Lib.hid (((Keeps.refl (fun _ => False) w).alloc _).trans k1)
    clear k1 h1
    go_wp2
    go_ret
    refine ⟨ret_i64 ?_, K.out⟩
    have q1 := abs_mul (M := 1048576) (N := 1048576) (show a.natAbs ≤ 1048576 by omega) (show a.natAbs ≤ 1048576 by omega)
    have q2 := abs_mul (M := 1048576) (N := 1048576) (show b.natAbs ≤ 1048576 by omega) (show b.natAbs ≤ 1048576 by omega)
    generalize a * a = p at *
    generalize b * b = q at *
    rw [IntWalk.wrap64_in p ⟨by omega, by omega⟩, IntWalk.wrap64_in q ⟨by omega, by omega⟩, IntWalk.wrap64_in _ ⟨by omega, by omega⟩]
/-- What a statement over two numbers holds: both, and the variable of its result. -/
structure Boxes (w wr : World) (a b c d : Int) : Prop where
  keeps : Keeps (fun _ => False) w wr
  one : wr.heap[w.heap.size]? = some (.cells #[.int .i64 a, .int .i64 b] 55 (0, 0))
  two : wr.heap[w.heap.size + 1]? = some (.cells #[.int .i64 c, .int .i64 d] 55 (0, 0))
  res : wr.heap[w.heap.size + 1 + 1]? = some (.cells #[.int .i64 0, .int .i64 0] 55 (0, 0))
theorem Boxes.none {w w1 w2 : World} {a b c d : Int} (h : Boxes w w1 a b c d) (k : Keeps (fun _ => False) w1 w2) : Boxes w w2 a b c d :=
  ⟨h.keeps.trans k, k.at h.one fun h => h, k.at h.two fun h => h, k.at h.res fun h => h⟩
theorem Boxes.new (w : World) (a b c d : Int) : Boxes w (((w.alloc (.cells #[.int .i64 a, .int .i64 b] 55)).alloc (.cells #[.int .i64 c, .int .i64 d] 55)).alloc (.cells #[.int .i64 0, .int .i64 0] 55)) a b c d := by
  obtain ⟨h1, h2, h3⟩ := kept2 (Keeps.refl (fun _ => False) ((w.alloc (.cells #[.int .i64 a, .int .i64 b] 55)).alloc (.cells #[.int .i64 c, .int .i64 d] 55)))
  refine ⟨h3.alloc _, heap_old h1 _, heap_old h2 _, ?_⟩
  have := heap_new ((w.alloc (.cells #[.int .i64 a, .int .i64 b] 55)).alloc (.cells #[.int .i64 c, .int .i64 d] 55)) (.cells #[.int .i64 0, .int .i64 0] 55)
  simpa using this
theorem gadd_no (a b c d : Int) (w : World) (h : (rightB a b && rightB c d) = false) :
    Calls Try.prog 31 #[.agg #[.int .i64 a, .int .i64 b], .agg #[.int .i64 c, .int .i64 d]] w fun e w' => e = .returned (.tuple #[.agg #[.int .i64 0, .int .i64 0], .bool false]) ∧ Keeps (fun _ => False) w w' := by
  have H0 := Lib.hid (Boxes.new w a b c d)
  have H := Lib.hid h
  clear h
  go_enter Try.func31, Try.ntmps31
  go_wp2_with fail
  refine (right_any a b _).mono ?_
  rintro e w1 ⟨rfl, k1⟩
  have H1 := Lib.hid (H0.out.none k1)
  obtain ⟨x0, x1, _, _, l1⟩ := two_cells H1.out.one
  obtain ⟨y0, y1, _, _, l2⟩ := two_cells H1.out.two
  obtain ⟨r0, r1, f0, f1, l3⟩ := two_cells H1.out.res
  clear k1 H0
  cases h1 : rightB a b
  · go_wp2
    refine bodyPost_ret (v := .tuple #[.agg #[.int .i64 0, .int .i64 0], .bool false]) (by simp [results, Try.results31, go_sem, *]) rfl ⟨rfl, ?_⟩
    exact (H1.out.keeps.setCell (.inr (by simp; omega)) _).setCell (.inr (by simp; omega)) _
  · have h2 : rightB c d = false := by have := H.out; rw [h1] at this; simpa using this
    have HH2 := Lib.hid h2
    clear h1 h2
    go_wp2_with fail
    refine (right_any c d _).mono ?_
    rintro e w2 ⟨rfl, k2⟩
    rw [HH2.out]
    have H2 := Lib.hid (H1.out.none k2)
    obtain ⟨r0, r1, f0, f1, l3⟩ := two_cells H2.out.res
    clear k2 H1
    go_wp2
    refine bodyPost_ret (v := .tuple #[.agg #[.int .i64 0, .int .i64 0], .bool false]) (by simp [results, Try.results31, go_sem, *]) rfl ⟨rfl, ?_⟩
    exact (H2.out.keeps.setCell (.inr (by simp; omega)) _).setCell (.inr (by simp; omega)) _
end Go.Proofs.Ytlpnobpgphmngaa
