import Derived.Test.YtccjbgjemfcedabRows
import Derived.Test.YtccjbgjemfcedabFloat
import Derived.Test.YtccjbgjemfcedabKeep
import Derived.Test.YtccjbgjemfcedabRet
import Derived.OpenShut
import Derived.WalkLawsBesides
import Derived.WalkSpells
import Derived.Lib.Hide
import Derived.Laws.FloatArith
import Derived.Laws.ComplexArith
import Derived.Deep.QuietTactic
import Derived.BigQuiet
import Derived.Deep.RegionHeld3
import Derived.Outline
import Derived.IntWalk
namespace Go.Proofs.Ytccjbgjemfcedab
open Go.ChangeShapes Go.WideShapes Go.ChangeAt Go.RowKit
set_option linter.unusedVariables false

/-- May a number be? -/
def rightB (a b : Int) : Bool := decide ((-1048576 ≤ a ∧ a ≤ 1048576) ∧ (-1048576 ≤ b ∧ b ≤ 1048576))
theorem right_any (a b : Int) (w : World) :
    Calls Try.prog 27 #[.agg #[.int .i64 a, .int .i64 b]] w fun e w' => e = .returned (.bool (rightB a b)) ∧ Keeps (fun _ => False) w w' := by
  go_enter Try.func27, Try.ntmps27
  go_wp2
  all_goals
    go_ret
    refine ⟨ret_bool ?_, (Keeps.refl _ _).alloc _⟩
    unfold rightB
    rw [Bool.eq_iff_iff]
    simp only [decide_eq_true_eq, Bool.false_eq_true, false_iff]
    omega
theorem plane_any (a b : Int) (w : World) :
    Calls Try.prog 28 #[.agg #[.int .i64 a, .int .i64 b]] w fun e w' => e = .returned (.complex .f64 (floatOfInt .f64 a) (floatOfInt .f64 b)) ∧ Keeps (fun _ => False) w w' := by
  go_enter Try.func28, Try.ntmps28
  go_wp2
  go_ret
  exact ⟨rfl, (Keeps.refl _ _).alloc _⟩
theorem plane_isF {a : Int} (h : a.natAbs ≤ 9007199254740992) : IsF (floatOfInt .f64 a) a := IsF.ofInt a h
theorem run_toInt (x : Nat) (a : Int) (w : World) (hx : IsF x a) (h1 : -9223372036854775808 ≤ a) (h2 : a ≤ 9223372036854775807) :
    (convert 71 3 (.float .f64 x)).run Try.prog w = .ok (.int .i64 a) w := by
  refine run_convert_float_int w 71 3 .f64 .i64 x a (by kernel_rfl) Try.underlying3 ?_
  unfold floatToIntVal
  have e : (FloatKind.f64.decode x).toInt .zero = some a := hx.toInt
  rw [e]
  have e1 : IntKind.i64.min = -9223372036854775808 := rfl
  have e2 : IntKind.i64.max = 9223372036854775807 := rfl
  simp only [e1, e2]
  rw [if_pos ⟨h1, h2⟩]
/-- What a call leaves of two variables that were new ahead of it. -/
theorem kept2 {w w1 : World} {A B : Array Value} {E F : TypeId} (k : Keeps (fun _ => False) ((w.alloc (.cells A E)).alloc (.cells B F)) w1) :
    w1.heap[w.heap.size]? = some (.cells A E (0, 0)) ∧ w1.heap[w.heap.size + 1]? = some (.cells B F (0, 0)) ∧ Keeps (fun _ => False) w w1 :=
  ⟨k.at (heap_old (heap_new _ _) _) fun h => h, k.at (by
      have := heap_new (w.alloc (.cells A E)) (.cells B F)
      simpa using this) fun h => h, ((Keeps.refl (fun _ => False) w).alloc _ |>.alloc _).trans k⟩
/-- A variable of two cells, known whole: what the walk wants of it. -/
theorem two_cells {w : World} {b : Nat} {x y : Value} {E : TypeId} (h : w.heap[b]? = some (.cells #[x, y] E (0, 0))) :
    w.cell? ⟨b, 0, none⟩ = some x ∧ w.cell? ⟨b, 1, none⟩ = some y ∧ w.frozen? ⟨b, 0, none⟩ = false ∧ w.frozen? ⟨b, 1, none⟩ = false ∧ b < w.heap.size :=
  ⟨cell_of h 0, cell_of h 1, free_of h 0, free_of h 1, lt_of h⟩
theorem checked_yes (a b : Int) (w : World) (h : rightB a b = true) :
    Calls Try.prog 51 #[.agg #[.int .i64 a, .int .i64 b]] w fun e w' => e = .returned (.tuple #[.agg #[.int .i64 a, .int .i64 b], .bool true]) ∧ Keeps (fun _ => False) w w' := by
  have H := Lib.hid h
  clear h
  go_enter Try.func51, Try.ntmps51
  go_wp2_with fail
  refine (right_any a b _).mono ?_
  rintro e w1 ⟨rfl, k1⟩
  rw [H.out]
  obtain ⟨h1, h2, k⟩ := kept2 k1
  obtain ⟨x0, x1, _, _, l1⟩ := two_cells h1
  obtain ⟨r0, r1, f0, f1, l2⟩ := two_cells h2
  have K := Lib.hid k
  clear k1 h1 h2 k
  go_wp2
  refine bodyPost_ret (v := .tuple #[.agg #[.int .i64 a, .int .i64 b], .bool true]) (by simp [results, Try.results51, go_sem, *]) rfl ⟨rfl, ?_⟩
  exact (K.out.setCell (.inr (by simp)) _).setCell (.inr (by simp)) _
theorem checked_no (a b : Int) (w : World) (h : rightB a b = false) :
    Calls Try.prog 51 #[.agg #[.int .i64 a, .int .i64 b]] w fun e w' => e = .returned (.tuple #[.agg #[.int .i64 0, .int .i64 0], .bool false]) ∧ Keeps (fun _ => False) w w' := by
  have H := Lib.hid h
  clear h
  go_enter Try.func51, Try.ntmps51
  go_wp2_with fail
  refine (right_any a b _).mono ?_
  rintro e w1 ⟨rfl, k1⟩
  rw [H.out]
  obtain ⟨h1, h2, k⟩ := kept2 k1
  obtain ⟨x0, x1, _, _, l1⟩ := two_cells h1
  obtain ⟨r0, r1, f0, f1, l2⟩ := two_cells h2
  have K := Lib.hid k
  clear k1 h1 h2 k
  go_wp2
  refine bodyPost_ret (v := .tuple #[.agg #[.int .i64 0, .int .i64 0], .bool false]) (by simp [results, Try.results51, go_sem, *]) rfl ⟨rfl, ?_⟩
  exact (K.out.setCell (.inr (by simp)) _).setCell (.inr (by simp)) _
/-- A number, if it may be. -/
def told (a b : Int) : Value := if rightB a b then .tuple #[.agg #[.int .i64 a, .int .i64 b], .bool true] else .tuple #[.agg #[.int .i64 0, .int .i64 0], .bool false]
def toldA (a b : Int) : Int := if rightB a b then a else 0
def toldB (a b : Int) : Int := if rightB a b then b else 0
theorem told_eq (a b : Int) : told a b = .tuple #[.agg #[.int .i64 (toldA a b), .int .i64 (toldB a b)], .bool (rightB a b)] := by
  unfold told toldA toldB
  cases rightB a b <;> simp
theorem checked_any (a b : Int) (w : World) :
    Calls Try.prog 51 #[.agg #[.int .i64 a, .int .i64 b]] w fun e w' => e = .returned (.tuple #[.agg #[.int .i64 (toldA a b), .int .i64 (toldB a b)], .bool (rightB a b)]) ∧ Keeps (fun _ => False) w w' := by
  rw [← told_eq]
  unfold told
  cases h : rightB a b
  · exact checked_no a b w h
  · exact checked_yes a b w h
theorem whole_any (x y : Nat) (a b : Int) (w : World) (hx : IsF x a) (hy : IsF y b) (ha : -9223372036854775808 ≤ a ∧ a ≤ 9223372036854775807) (hb : -9223372036854775808 ≤ b ∧ b ≤ 9223372036854775807) :
    Calls Try.prog 31 #[.complex .f64 x y] w fun e w' => e = .returned (.tuple #[.agg #[.int .i64 (toldA a b), .int .i64 (toldB a b)], .bool (rightB a b)]) ∧ Keeps (fun _ => False) w w' := by
  have c1 := fun w => run_toInt x a w hx ha.1 ha.2
  have c2 := fun w => run_toInt y b w hy hb.1 hb.2
  clear hx hy ha hb
  go_enter Try.func31, Try.ntmps31
  go_wp2_with fail
  refine (checked_any a b _).mono ?_
  rintro e w1 ⟨rfl, k1⟩
  have h1 := k1.at (heap_new w (.cells #[.int .i64 0, .int .i64 0] 24)) fun h => h
  obtain ⟨r0, r1, f0, f1, l1⟩ := two_cells h1
  have K := Lib.hid (((Keeps.refl (fun _ => False) w).alloc _).trans k1)
  clear k1 h1
  go_wp2
  refine bodyPost_ret (v := .tuple #[.agg #[.int .i64 (toldA a b), .int .i64 (toldB a b)], .bool (rightB a b)]) (by simp [results, Try.results31, go_sem, *]) rfl ⟨rfl, ?_⟩
  exact (K.out.setCell (.inr (by simp)) _).setCell (.inr (by simp)) _
theorem abs_mul {a b : Int} {M N : Nat} (h1 : a.natAbs ≤ M) (h2 : b.natAbs ≤ N) : (a * b).natAbs ≤ M * N := by
  rw [Int.natAbs_mul]; exact Nat.mul_le_mul h1 h2
theorem norm_any (a b : Int) (w : World) :
    Calls Try.prog 7 #[.agg #[.int .i64 a, .int .i64 b]] w fun e w' => e = .returned (.int .i64 (if rightB a b then a * a + b * b else -1)) ∧ Keeps (fun _ => False) w w' := by
  cases h : rightB a b
  · have H := Lib.hid h
    clear h
    go_enter Try.func7, Try.ntmps7
    go_wp2_with fail
    refine (right_any a b _).mono ?_
    rintro e w1 ⟨rfl, k1⟩
    rw [H.out]
    go_wp2
    go_ret
    exact ⟨rfl, ((Keeps.refl (fun _ => False) w).alloc _).trans k1⟩
  · have H := Lib.hid h
    have hr : (-1048576 ≤ a ∧ a ≤ 1048576) ∧ (-1048576 ≤ b ∧ b ≤ 1048576) := of_decide_eq_true h
    clear h
    go_enter Try.func7, Try.ntmps7
    go_wp2_with fail
    refine (right_any a b _).mono ?_
    rintro e w1 ⟨rfl, k1⟩
    rw [H.out]
    have h1 := k1.at (heap_new w (.cells #[.int .i64 a, .int .i64 b] 24)) fun h => h
    obtain ⟨x0, x1, _, _, l1⟩ := two_cells h1
    have K := Lib.hid (((Keeps.refl (fun _ => False) w).alloc _).trans k1)
    clear k1 h1
    go_wp2
    go_ret
    refine ⟨ret_i64 ?_, K.out⟩
    have q1 := abs_mul (M := 1048576) (N := 1048576) (show a.natAbs ≤ 1048576 by omega) (show a.natAbs ≤ 1048576 by omega)
    have q2 := abs_mul (M := 1048576) (N := 1048576) (show b.natAbs ≤ 1048576 by omega) (show b.natAbs ≤ 1048576 by omega)
    generalize a * a = p at *
    generalize b * b = q at *
    rw [IntWalk.wrap64_in p ⟨by omega, by omega⟩, IntWalk.wrap64_in q ⟨by omega, by omega⟩, IntWalk.wrap64_in _ ⟨by omega, by omega⟩]
/-- What a statement over two numbers holds: both, and the variable of its result. -/
structure Boxes (w wr : World) (a b c d : Int) : Prop where
  keeps : Keeps (fun _ => False) w wr
  one : wr.heap[w.heap.size]? = some (.cells #[.int .i64 a, .int .i64 b] 24 (0, 0))
  two : wr.heap[w.heap.size + 1]? = some (.cells #[.int .i64 c, .int .i64 d] 24 (0, 0))
  res : wr.heap[w.heap.size + 1 + 1]? = some (.cells #[.int .i64 0, .int .i64 0] 24 (0, 0))
theorem Boxes.none {w w1 w2 : World} {a b c d : Int} (h : Boxes w w1 a b c d) (k : Keeps (fun _ => False) w1 w2) : Boxes w w2 a b c d :=
  ⟨h.keeps.trans k, k.at h.one fun h => h, k.at h.two fun h => h, k.at h.res fun h => h⟩
theorem Boxes.new (w : World) (a b c d : Int) : Boxes w (((w.alloc (.cells #[.int .i64 a, .int .i64 b] 24)).alloc (.cells #[.int .i64 c, .int .i64 d] 24)).alloc (.cells #[.int .i64 0, .int .i64 0] 24)) a b c d := by
  obtain ⟨h1, h2, h3⟩ := kept2 (Keeps.refl (fun _ => False) ((w.alloc (.cells #[.int .i64 a, .int .i64 b] 24)).alloc (.cells #[.int .i64 c, .int .i64 d] 24)))
  refine ⟨h3.alloc _, heap_old h1 _, heap_old h2 _, ?_⟩
  have := heap_new ((w.alloc (.cells #[.int .i64 a, .int .i64 b] 24)).alloc (.cells #[.int .i64 c, .int .i64 d] 24)) (.cells #[.int .i64 0, .int .i64 0] 24)
  simpa using this
theorem right_bds {a b : Int} (h : rightB a b = true) : (-1048576 ≤ a ∧ a ≤ 1048576) ∧ (-1048576 ≤ b ∧ b ≤ 1048576) := of_decide_eq_true h
theorem csum_is {op : BinOp} (hop : op = .add ∨ op = .sub) {x y z t : Nat} {a b c d : Int} (hx : IsF x a) (hy : IsF y b) (hz : IsF z c) (ht : IsF t d) (s : Int → Int → Int) (hs : s = if op = .add then (· + ·) else (· - ·))
    (h1 : (s a c).natAbs ≤ 9007199254740992) (h2 : (s b d).natAbs ≤ 9007199254740992) :
    ∃ re im, cSumBits op .f64 x y z t = some (re, im) ∧ IsF re (s a c) ∧ IsF im (s b d) := by
  rcases hop with rfl | rfl
  · rw [if_pos rfl] at hs
    subst hs
    obtain ⟨r, e1, f1⟩ := IsF.add hx hz h1
    obtain ⟨i, e2, f2⟩ := IsF.add hy ht h2
    refine ⟨r, i, ?_, f1, f2⟩
    show ((FloatKind.f64.format.add x z).bind fun re => (FloatKind.f64.format.add y t).bind fun im => some (re, im)) = _
    have g1 : FloatKind.f64.format.add x z = some r := e1
    have g2 : FloatKind.f64.format.add y t = some i := e2
    rw [g1, g2]; rfl
  · rw [if_neg (by decide)] at hs
    subst hs
    obtain ⟨r, e1, f1⟩ := IsF.sub hx hz h1
    obtain ⟨i, e2, f2⟩ := IsF.sub hy ht h2
    refine ⟨r, i, ?_, f1, f2⟩
    show ((FloatKind.f64.format.sub x z).bind fun re => (FloatKind.f64.format.sub y t).bind fun im => some (re, im)) = _
    have g1 : FloatKind.f64.format.sub x z = some r := e1
    have g2 : FloatKind.f64.format.sub y t = some i := e2
    rw [g1, g2]; rfl
theorem cmul_is {x y z t : Nat} {a b c d : Int} {M N : Nat} (hx : IsF x a) (hy : IsF y b) (hz : IsF z c) (ht : IsF t d) (ha : a.natAbs ≤ M) (hb : b.natAbs ≤ M) (hc : c.natAbs ≤ N) (hd : d.natAbs ≤ N) (hMN : 2 * (M * N) ≤ 9007199254740992) :
    ∃ re im, cMulBits x y z t = some (re, im) ∧ IsF re (a * c - b * d) ∧ IsF im (a * d + b * c) := by
  have p1 := abs_mul ha hc
  have p2 := abs_mul hb hd
  have p3 := abs_mul ha hd
  have p4 := abs_mul hb hc
  obtain ⟨ac, e1, f1⟩ := IsF.mul hx hz (by omega)
  obtain ⟨bd, e2, f2⟩ := IsF.mul hy ht (by omega)
  obtain ⟨re, e3, f3⟩ := IsF.sub f1 f2 (by omega)
  obtain ⟨ad, e4, f4⟩ := IsF.mul hx ht (by omega)
  obtain ⟨bc, e5, f5⟩ := IsF.mul hy hz (by omega)
  obtain ⟨im, e6, f6⟩ := IsF.add f4 f5 (by omega)
  refine ⟨re, im, ?_, f3, f6⟩
  have g1 : floatBits .mul .f64 x z = some ac := e1
  have g2 : floatBits .mul .f64 y t = some bd := e2
  have g3 : floatBits .sub .f64 ac bd = some re := e3
  have g4 : floatBits .mul .f64 x t = some ad := e4
  have g5 : floatBits .mul .f64 y z = some bc := e5
  have g6 : floatBits .add .f64 ad bc = some im := e6
  unfold cMulBits
  rw [g1, Option.bind_some, g2, Option.bind_some, g3, Option.bind_some, g4, Option.bind_some, g5, Option.bind_some, g6, Option.bind_some]
theorem gset2 {w : World} {a p q : Addr} {v u u' : Value} (h : w.cell? a = some v) (hp : a.block ≠ p.block) (hq : a.block ≠ q.block) : ((w.setCell p u).setCell q u').cell? a = some v := by
  rw [World.cell?_of_block (w := w.setCell p u) (Below.heap_setCell _ _ _ _ hq), World.cell?_of_block (w := w) (Below.heap_setCell _ _ _ _ hp)]
  exact h
theorem gmul_no (a b c d : Int) (w : World) (h : (rightB a b && rightB c d) = false) :
    Calls Try.prog 8 #[.agg #[.int .i64 a, .int .i64 b], .agg #[.int .i64 c, .int .i64 d]] w fun e w' => e = .returned (.tuple #[.agg #[.int .i64 0, .int .i64 0], .bool false]) ∧ Keeps (fun _ => False) w w' := by
  have H0 := Lib.hid (Boxes.new w a b c d)
  have H := Lib.hid h
  clear h
  go_enter Try.func8, Try.ntmps8
  go_wp2_with fail
  refine (right_any a b _).mono ?_
  rintro e w1 ⟨rfl, k1⟩
  have H1 := Lib.hid (H0.out.none k1)
  obtain ⟨x0, x1, _, _, l1⟩ := two_cells H1.out.one
  obtain ⟨y0, y1, _, _, l2⟩ := two_cells H1.out.two
  obtain ⟨r0, r1, f0, f1, l3⟩ := two_cells H1.out.res
  clear k1 H0
  cases h1 : rightB a b
  · go_wp2
    refine bodyPost_ret (v := .tuple #[.agg #[.int .i64 0, .int .i64 0], .bool false]) (by simp [results, Try.results8, go_sem, *]) rfl ⟨rfl, ?_⟩
    exact (H1.out.keeps.setCell (.inr (by simp; omega)) _).setCell (.inr (by simp; omega)) _
  · have h2 : rightB c d = false := by have := H.out; rw [h1] at this; simpa using this
    have HH2 := Lib.hid h2
    clear h1 h2
    go_wp2_with fail
    refine (right_any c d _).mono ?_
    rintro e w2 ⟨rfl, k2⟩
    rw [HH2.out]
    have H2 := Lib.hid (H1.out.none k2)
    obtain ⟨r0, r1, f0, f1, l3⟩ := two_cells H2.out.res
    clear k2 H1
    go_wp2
    refine bodyPost_ret (v := .tuple #[.agg #[.int .i64 0, .int .i64 0], .bool false]) (by simp [results, Try.results8, go_sem, *]) rfl ⟨rfl, ?_⟩
    exact (H2.out.keeps.setCell (.inr (by simp; omega)) _).setCell (.inr (by simp; omega)) _
set_option maxHeartbeats 1000000 in
theorem gmul_yes (a b c d : Int) (w : World) (h1 : rightB a b = true) (h2 : rightB c d = true) :
    Calls Try.prog 8 #[.agg #[.int .i64 a, .int .i64 b], .agg #[.int .i64 c, .int .i64 d]] w fun e w' => e = .returned (.tuple #[.agg #[.int .i64 (toldA (a * c - b * d) (a * d + b * c)), .int .i64 (toldB (a * c - b * d) (a * d + b * c))], .bool (rightB (a * c - b * d) (a * d + b * c))]) ∧ Keeps (fun _ => False) w w' := by
  have H0 := Lib.hid (Boxes.new w a b c d)
  have H := Lib.hid (And.intro h1 h2)
  have bd1 := right_bds h1
  have bd2 := right_bds h2
  obtain ⟨re, im, hsum, hre, him⟩ := cmul_is (M := 1048576) (N := 1048576) (plane_isF (a := a) (by omega)) (plane_isF (a := b) (by omega)) (plane_isF (a := c) (by omega)) (plane_isF (a := d) (by omega)) (by omega) (by omega) (by omega) (by omega) (by decide)
  have q1 := abs_mul (M := 1048576) (N := 1048576) (show a.natAbs ≤ 1048576 by omega) (show c.natAbs ≤ 1048576 by omega)
  have q2 := abs_mul (M := 1048576) (N := 1048576) (show b.natAbs ≤ 1048576 by omega) (show d.natAbs ≤ 1048576 by omega)
  have q3 := abs_mul (M := 1048576) (N := 1048576) (show a.natAbs ≤ 1048576 by omega) (show d.natAbs ≤ 1048576 by omega)
  have q4 := abs_mul (M := 1048576) (N := 1048576) (show b.natAbs ≤ 1048576 by omega) (show c.natAbs ≤ 1048576 by omega)
  have hadd := fun w => run_complex_mul (P := Try.prog) w 69 _ _ _ _ _ _ hsum
  have HW := Lib.hid (fun w => whole_any re im (a * c - b * d) (a * d + b * c) w hre him (by omega) (by omega))
  clear q1 q2 q3 q4
  clear h1 h2 hsum hre him bd1 bd2
  go_enter Try.func8, Try.ntmps8
  go_wp2_with fail
  refine (right_any a b _).mono ?_
  rintro e w1 ⟨rfl, k1⟩
  rw [H.out.1]
  have H1 := Lib.hid (H0.out.none k1)
  obtain ⟨y0, y1, _, _, l2⟩ := two_cells H1.out.two
  clear k1 H0
  go_wp2_with fail
  refine (right_any c d _).mono ?_
  rintro e w2 ⟨rfl, k2⟩
  rw [H.out.2]
  have HB := Lib.hid ((H1.out.none k2).none (Keeps.refl _ _).drew)
  have H2 := Lib.hid (H1.out.none k2)
  obtain ⟨x0, x1, _, _, l1⟩ := two_cells H2.out.one
  obtain ⟨y0, y1, _, _, l2⟩ := two_cells H2.out.two
  have ne1 : ¬ w.heap.size = w.heap.size + 1 + 1 := by omega
  have ne2 : ¬ w.heap.size + 1 + 1 = w.heap.size := by omega
  clear k2 H1
  go_wp2_with fail
  go_region_held3 (fun w' => w'.cell? ⟨w.heap.size, 0, none⟩ = some (.int .i64 a) ∧ w'.cell? ⟨w.heap.size, 1, none⟩ = some (.int .i64 b) ∧ w'.cell? ⟨w.heap.size + 1, 0, none⟩ = some (.int .i64 c) ∧ w'.cell? ⟨w.heap.size + 1, 1, none⟩ = some (.int .i64 d))
    (first
      | go_keep
      | exact ⟨(two_cells HB.out.one).1, (two_cells HB.out.one).2.1, (two_cells HB.out.two).1, (two_cells HB.out.two).2.1⟩
      | ((try dsimp only); (repeat' apply And.intro) <;> go_keep))
    (first
      | (go_at_call 28; refine (plane_any _ _ _).mono ?_; rintro e w3 ⟨rfl, k3⟩; replace HB := Lib.hid (HB.out.none k3); clear k3)
      | (go_at_call 31; refine (HW.out _).mono ?_; rintro e w3 ⟨rfl, k3⟩; replace HB := Lib.hid (HB.out.none k3); obtain ⟨r0, r1, f0, f1, l3⟩ := two_cells HB.out.res; clear k3))
  go_wp2
  refine bodyPost_ret (v := .tuple #[.agg #[.int .i64 (toldA (a * c - b * d) (a * d + b * c)), .int .i64 (toldB (a * c - b * d) (a * d + b * c))], .bool (rightB (a * c - b * d) (a * d + b * c))]) (by simp [results, Try.results8, go_sem, *]) rfl ⟨rfl, ?_⟩
  exact (HB.out.keeps.setCell (.inr (by simp; omega)) _).setCell (.inr (by simp; omega)) _
theorem gmul_any (a b c d : Int) (w : World) :
    Calls Try.prog 8 #[.agg #[.int .i64 a, .int .i64 b], .agg #[.int .i64 c, .int .i64 d]] w fun e w' => e = .returned (if rightB a b && rightB c d then .tuple #[.agg #[.int .i64 (toldA (a * c - b * d) (a * d + b * c)), .int .i64 (toldB (a * c - b * d) (a * d + b * c))], .bool (rightB (a * c - b * d) (a * d + b * c))] else .tuple #[.agg #[.int .i64 0, .int .i64 0], .bool false]) ∧ Keeps (fun _ => False) w w' := by
  cases h : rightB a b && rightB c d
  · exact gmul_no a b c d w h
  · rw [Bool.and_eq_true] at h; exact gmul_yes a b c d w h.1 h.2
open Ieee in
theorem read_flip (x : Nat) (hx : x < 18446744073709551616) : double.read (if x < 9223372036854775808 then x + 9223372036854775808 else x - 9223372036854775808) = (double.read x).opposite := by
  have e5 : double.signWeight = 9223372036854775808 := by decide
  have e6 : double.leastPlace = -1074 := by decide
  unfold Format.read
  rw [e5]
  by_cases h : x < 9223372036854775808
  · rw [if_pos h]
    have h1 : (x + 9223372036854775808) % 9223372036854775808 = x % 9223372036854775808 := by omega
    have h2 : ((x + 9223372036854775808) / 9223372036854775808 % 2 == 1) = true := by simp; omega
    have h3 : (x / 9223372036854775808 % 2 == 1) = false := by simp; omega
    simp only [h1, h2, h3]
    split <;> (try split) <;> (try split) <;> rfl
  · rw [if_neg h]
    have h1 : (x - 9223372036854775808) % 9223372036854775808 = x % 9223372036854775808 := by omega
    have h2 : ((x - 9223372036854775808) / 9223372036854775808 % 2 == 1) = false := by simp; omega
    have h3 : (x / 9223372036854775808 % 2 == 1) = true := by simp; omega
    simp only [h1, h2, h3]
    split <;> (try split) <;> (try split) <;> rfl
theorem xor_top {x : Nat} (hx : x < 9223372036854775808) : x ^^^ 2 ^ 63 = x + 9223372036854775808 := by
  have e : x + 9223372036854775808 = 2 ^ 63 + x := by omega
  rw [e]
  apply Nat.eq_of_testBit_eq
  intro i
  rw [Nat.testBit_xor, Nat.testBit_two_pow]
  rcases Nat.lt_trichotomy i 63 with h | h | h
  · rw [Nat.testBit_two_pow_add_gt h]
    have : ¬ 63 = i := by omega
    simp [this]
  · subst h
    rw [Nat.testBit_two_pow_add_eq]
    simp
  · have h64 : 2 ^ 64 ≤ 2 ^ i := Nat.pow_le_pow_right (by omega) (by omega)
    rw [Nat.testBit_lt_two_pow (x := x) (by omega), Nat.testBit_lt_two_pow (x := 2 ^ 63 + x) (by omega)]
    have : ¬ 63 = i := by omega
    simp [this]
theorem xor_top2 {x : Nat} (h1 : 9223372036854775808 ≤ x) (hx : x < 18446744073709551616) : x ^^^ 2 ^ 63 = x - 9223372036854775808 := by
  have h := xor_top (x := x - 9223372036854775808) (by omega)
  have e : x - 9223372036854775808 + 9223372036854775808 = x := by omega
  rw [e] at h
  rw [← h, Nat.xor_assoc, Nat.xor_self, Nat.xor_zero, h]
theorem IsF.neg {x : Nat} {n : Int} (h : IsF x n) (hx : x < 18446744073709551616) : IsF (Op.negFloat .f64 x) (-n) := by
  have e : Op.negFloat .f64 x = if x < 9223372036854775808 then x + 9223372036854775808 else x - 9223372036854775808 := by
    show x ^^^ 2 ^ 63 = _
    by_cases hl : x < 9223372036854775808
    · rw [if_pos hl, xor_top hl]
    · rw [if_neg hl, xor_top2 (by omega) hx]
  rw [e]
  refine (isF_iff _ _).2 ?_
  rw [read_flip x hx]
  exact ((isF_iff _ _).1 h).opposite
theorem floatOfInt_lt (n : Int) : floatOfInt .f64 n < 18446744073709551616 := by
  have h := Ieee.Format.write_lt FloatKind.f64.format (.number (n < 0) n.natAbs 0)
  have e : 2 ^ FloatKind.f64.format.width = 18446744073709551616 := by decide
  rw [e] at h
  exact h
/-- A number turned n times. -/
def turnN : Nat → Int × Int → Int × Int
  | 0, p => p
  | n + 1, p => (-(turnN n p).2, (turnN n p).1)
def turns (k : Int) : Nat := ((k.tmod 4 + 4).tmod 4).toNat
theorem turns_eq (k : Int) : (wrap64 (k.tmod 4 + 4)).tmod 4 = ((turns k : Nat) : Int) := by
  have h1 := Int.tmod_lt_of_pos k (show (0 : Int) < 4 by omega)
  have h2 := Int.lt_tmod_of_pos k (show (0 : Int) < 4 by omega)
  rw [IntWalk.wrap64_in _ ⟨by omega, by omega⟩]
  unfold turns
  rw [Int.toNat_of_nonneg (Int.tmod_nonneg _ (by omega))]
theorem turns_le (k : Int) : turns k ≤ 3 := by
  unfold turns
  have := Int.tmod_lt_of_pos (k.tmod 4 + 4) (show (0 : Int) < 4 by omega)
  omega
theorem turnN_bd (n : Nat) (p : Int × Int) {M : Nat} (h1 : p.1.natAbs ≤ M) (h2 : p.2.natAbs ≤ M) : (turnN n p).1.natAbs ≤ M ∧ (turnN n p).2.natAbs ≤ M := by
  induction n with
  | zero => exact ⟨h1, h2⟩
  | succ n ih => exact ⟨by show (-(turnN n p).2).natAbs ≤ M; rw [Int.natAbs_neg]; exact ih.2, ih.1⟩
theorem isF_zero : IsF 0 0 := ⟨false, 0, -1074, by decide, 1074, by decide, by rw [Int.zero_mul]; unfold Ieee.signed; rw [Nat.zero_shiftLeft]; rfl⟩
theorem isF_one : IsF 4607182418800017408 1 := ⟨false, 4503599627370496, -52, by decide, 52, by decide, by decide⟩
theorem gturn_no (a b k : Int) (w : World) (h : rightB a b = false) :
    Calls Try.prog 9 #[.agg #[.int .i64 a, .int .i64 b], .int .i64 k] w fun e w' => e = .returned (.tuple #[.agg #[.int .i64 0, .int .i64 0], .bool false]) ∧ Keeps (fun _ => False) w w' := by
  have H := Lib.hid h
  clear h
  go_enter Try.func9, Try.ntmps9
  go_wp2_with fail
  refine (right_any a b _).mono ?_
  rintro e w1 ⟨rfl, k1⟩
  rw [H.out]
  obtain ⟨h1, h2, k⟩ := kept2 k1
  obtain ⟨r0, r1, f0, f1, l2⟩ := two_cells h2
  have K := Lib.hid k
  clear k1 h1 h2 k
  go_wp2
  refine bodyPost_ret (v := .tuple #[.agg #[.int .i64 0, .int .i64 0], .bool false]) (by simp [results, Try.results9, go_sem, *]) rfl ⟨rfl, ?_⟩
  exact (K.out.setCell (.inr (by simp)) _).setCell (.inr (by simp)) _
theorem gturn_yes (a b k : Int) (w : World) (h : rightB a b = true) (hk : -9223372036854775808 ≤ k ∧ k ≤ 9223372036854775807) :
    Calls Try.prog 9 #[.agg #[.int .i64 a, .int .i64 b], .int .i64 k] w fun e w' => e = .returned (.tuple #[.agg #[.int .i64 (turnN (turns k) (a, b)).1, .int .i64 (turnN (turns k) (a, b)).2], .bool true]) ∧ Keeps (fun _ => False) w w' := by
  have H := Lib.hid h
  have bd := right_bds h
  clear h
  go_enter Try.func9, Try.ntmps9
  go_wp2_with fail
  refine (right_any a b _).mono ?_
  rintro e w1 ⟨rfl, k1⟩
  rw [H.out]
  obtain ⟨h1, h2, kk⟩ := kept2 k1
  obtain ⟨x0, x1, _, _, l1⟩ := two_cells h1
  have HB := Lib.hid (And.intro h2 kk)
  clear k1 h1 h2 kk
  go_wp2_with fail
  refine (plane_any a b _).mono ?_
  rintro e w2 ⟨rfl, k2⟩
  have HB2 := Lib.hid (And.intro (k2.at HB.out.1 fun h => h) (HB.out.2.trans k2))
  clear HB k2
  go_wp2_with fail
  rw [turns_eq k]
  have ht := turns_le k
  obtain ⟨T, hT⟩ : ∃ T, T = turns k := ⟨_, rfl⟩
  rw [← hT] at ht ⊢
  have HT := Lib.hid hT
  clear hT
  go_loop [6, 17] (fun z i => ∃ (j : Nat) (x y : Nat), j ≤ T ∧ i = .int .i64 j ∧ z = .complex .f64 x y ∧ IsF x (turnN j (a, b)).1 ∧ IsF y (turnN j (a, b)).2) (fun _ i => T - (intOf i).toNat)
  case atStart => exact ⟨0, _, _, by omega, rfl, rfl, plane_isF (by omega), plane_isF (by omega)⟩
  case round =>
    obtain ⟨j, x, y, hj, rfl, rfl, hx, hy⟩ := hrel
    have hbd := turnN_bd j (a, b) (M := 1048576) (show a.natAbs ≤ _ by omega) (show b.natAbs ≤ _ by omega)
    by_cases hlt : j < T
    · obtain ⟨re, im, hm, f1, f2⟩ := cmul_is (M := 1048576) (N := 1) hx hy isF_zero isF_one hbd.1 hbd.2 (by decide) (by decide) (by decide)
      have hmul := fun w => run_complex_mul (P := Try.prog) w 69 _ _ _ _ _ _ hm
      have HF := Lib.hid (And.intro f1 f2)
      clear hx hy hm f1 f2 hbd
      go_wp2
      go_round
      case rel =>
        refine ⟨j + 1, re, im, by omega, by go_num, rfl, ?_, ?_⟩
        · have := HF.out.1
          simpa [turnN] using this
        · have := HF.out.2
          simpa [turnN] using this
      case measure => simp [intOf]; omega
    · obtain rfl : j = T := by omega
      have HR := Lib.hid (show rightB (turnN j (a, b)).1 (turnN j (a, b)).2 = true by unfold rightB; simp; omega)
      have HW := Lib.hid (fun w => whole_any x y _ _ w hx hy (by omega) (by omega))
      clear hx hy hbd
      go_wp2_with fail
      refine (HW.out _).mono ?_
      rintro e w3 ⟨rfl, k3⟩
      have h3 := k3.at HB2.out.1 fun h => h
      obtain ⟨r0, r1, f0, f1, l3⟩ := two_cells h3
      have K := Lib.hid (HB2.out.2.trans k3)
      rw [toldA, toldB, HR.out, if_pos rfl, if_pos rfl]
      clear h3 k3 HW
      generalize hq : turnN j (a, b) = q at *
      have HQ := Lib.hid hq
      clear hq
      go_wp2
      refine bodyPost_ret (v := .tuple #[.agg #[.int .i64 q.1, .int .i64 q.2], .bool true]) (by simp [results, Try.results9, go_sem, *]) rfl ⟨by rw [← HT.out, HQ.out], ?_⟩
      exact (K.out.setCell (.inr (by simp)) _).setCell (.inr (by simp)) _
theorem gturn_any (a b k : Int) (w : World) (hk : -9223372036854775808 ≤ k ∧ k ≤ 9223372036854775807) :
    Calls Try.prog 9 #[.agg #[.int .i64 a, .int .i64 b], .int .i64 k] w fun e w' => e = .returned (if rightB a b then .tuple #[.agg #[.int .i64 (turnN (turns k) (a, b)).1, .int .i64 (turnN (turns k) (a, b)).2], .bool true] else .tuple #[.agg #[.int .i64 0, .int .i64 0], .bool false]) ∧ Keeps (fun _ => False) w w' := by
  cases h : rightB a b
  · exact gturn_no a b k w h
  · exact gturn_yes a b k w h hk
end Go.Proofs.Ytccjbgjemfcedab
