import Derived.Test.YtlpnobpgphmngaaGauss
namespace Go.Proofs.Ytlpnobpgphmngaa
open Go.ChangeShapes Go.WideShapes Go.ChangeAt Go.RowKit
set_option linter.unusedVariables false
theorem right_bds {a b : Int} (h : rightB a b = true) : (-1048576 ≤ a ∧ a ≤ 1048576) ∧ (-1048576 ≤ b ∧ b ≤ 1048576) := of_decide_eq_true h
theorem csum_is {op : BinOp} (hop : op = .add ∨ op = .sub) {x y z t : Nat} {a b c d : Int} (hx : IsF x a) (hy : IsF y b) (hz : IsF z c) (ht : IsF t d) (s : Int → Int → Int) (hs : s = if op = .add then (· + ·) else (· - ·))
    (h1 : (s a c).natAbs ≤ 9007199254740992) (h2 : (s b d).natAbs ≤ 9007199254740992) :
    ∃ re im, cSumBits op .f64 x y z t = some (re, im) ∧ IsF re (s a c) ∧ IsF im (s b d) := by
  rcases hop with rfl | rfl
  · rw [if_pos rfl] at hs
    subst hs
    obtain ⟨r, e1, f1⟩ := IsF.add hx hz h1
    obtain ⟨i, e2, f2⟩ := IsF.add hy ht h2
    refine ⟨r, i, ?_, f1, f2⟩
    show ((FloatKind.f64.format.add x z).bind fun re => (FloatKind.f64.format.add y t).bind fun im => some (re, im)) = _
    have g1 : FloatKind.f64.format.add x z = some r := e1
    have g2 : FloatKind.f64.format.add y t = some i := e2
    rw [g1, g2]; rfl
  · rw [if_neg (by decide)] at hs
    subst hs
    obtain ⟨r, e1, f1⟩ := IsF.sub hx hz h1
    obtain ⟨i, e2, f2⟩ := IsF.sub hy ht h2
    refine ⟨r, i, ?_, f1, f2⟩
    show ((FloatKind.f64.format.sub x z).bind fun re => (FloatKind.f64.format.sub y t).bind fun im => some (re, im)) = _
    have g1 : FloatKind.f64.format.sub x z = some r := e1
    have g2 : FloatKind.f64.format.sub y t = some i := e2
    rw [g1, g2]; rfl
theorem cmul_is {x y z t : Nat} {a b c d : Int} {M N : Nat} (hx : IsF x a) (hy : IsF y b) (hz : IsF z c) (ht : IsF t d) (ha : a.natAbs ≤ M) (hb : b.natAbs ≤ M) (hc : c.natAbs ≤ N) (hd : d.natAbs ≤ N) (hMN : 2 * (M * N) ≤ 9007199254740992) :
    ∃ re im, cMulBits x y z t = some (re, im) ∧ IsF re (a * c - b * d) ∧ IsF im (a * d + b * c) := by
  have p1 := abs_mul ha hc
  have p2 := abs_mul hb hd
  have p3 := abs_mul ha hd
  have p4 := abs_mul hb hc
  obtain ⟨ac, e1, f1⟩ := IsF.mul hx hz (by omega)
  obtain ⟨bd, e2, f2⟩ := IsF.mul hy ht (by omega)
  obtain ⟨re, e3, f3⟩ := IsF.sub f1 f2 (by omega)
  obtain ⟨ad, e4, f4⟩ := IsF.mul hx ht (by omega)
  obtain ⟨bc, e5, f5⟩ := IsF.mul hy hz (by omega)
  obtain ⟨im, e6, f6⟩ := IsF.add f4 f5 (by omega)
  refine ⟨re, im, ?_, f3, f6⟩
  have g1 : floatBits .mul .f64 x z = some ac := e1
  have g2 : floatBits .mul .f64 y t = some bd := e2
  have g3 : floatBits .sub .f64 ac bd = some re := e3
  have g4 : floatBits .mul .f64 x t = some ad := e4
  have g5 : floatBits .mul .f64 y z = some bc := e5
  have g6 : floatBits .add .f64 ad bc = some im := e6
  unfold cMulBits
  rw [g1, Option.bind_some, g2, Option.bind_some, g3, Option.bind_some, g4, Option.bind_some, g5, Option.bind_some, g6, Option.bind_some]
theorem gset2 {w : World} {a p q : Addr} {v u u' : Value} (h : w.cell? a = some v) (hp : a.block ≠ p.block) (hq : a.block ≠ q.block) : ((w.setCell p u).setCell q u').cell? a = some v := by
  rw [World.cell?_of_block (w := w.setCell p u) (Below.heap_setCell _ _ _ _ hq), World.cell?_of_block (w := w) (Below.heap_setCell _ _ _ _ hp)]
  exact h
set_option maxHeartbeats 1000000 in
theorem gadd_yes (a b c d : Int) (w : World) (h1 : rightB a b = true) (h2 : rightB c d = true) :
    Calls Try.prog 31 #[.agg #[.int .i64 a, .int .i64 b], .agg #[.int .i64 c, .int .i64 d]] w fun e w' => e = .returned (.tuple #[.agg #[.int .i64 (toldA (a + c) (b + d)), .int .i64 (toldB (a + c) (b + d))], .bool (rightB (a + c) (b + d))]) ∧ Keeps (fun _ => False) w w' := by
  have H0 := Lib.hid (Boxes.new w a b c d)
  have H := Lib.hid (And.intro h1 h2)
  have bd1 := right_bds h1
  have bd2 := right_bds h2
  obtain ⟨re, im, hsum, hre, him⟩ := csum_is (op := .add) (.inl rfl) (plane_isF (a := a) (by omega)) (plane_isF (a := b) (by omega)) (plane_isF (a := c) (by omega)) (plane_isF (a := d) (by omega)) (· + ·) rfl (by omega) (by omega)
  have hadd := fun w => run_complex_sum (P := Try.prog) w .add (.inl rfl) 117 .f64 _ _ _ _ _ _ hsum
  have HW := Lib.hid (fun w => whole_any re im (a + c) (b + d) w hre him (by omega) (by omega))
  clear h1 h2 hsum hre him bd1 bd2
  go_enter Try.func31, Try.ntmps31
  go_wp2_with fail
  refine (right_any a b _).mono ?_
  rintro e w1 ⟨rfl, k1⟩
  rw [H.out.1]
  have H1 := Lib.hid (H0.out.none k1)
  obtain ⟨y0, y1, _, _, l2⟩ := two_cells H1.out.two
  clear k1 H0
  go_wp2_with fail
  refine (right_any c d _).mono ?_
  rintro e w2 ⟨rfl, k2⟩
  rw [H.out.2]
  have HB := Lib.hid ((H1.out.none k2).none (Keeps.refl _ _).drew)
  have H2 := Lib.hid (H1.out.none k2)
  obtain ⟨x0, x1, _, _, l1⟩ := two_cells H2.out.one
  obtain ⟨y0, y1, _, _, l2⟩ := two_cells H2.out.two
  have ne1 : ¬ w.heap.size = w.heap.size + 1 + 1 := by omega
  have ne2 : ¬ w.heap.size + 1 + 1 = w.heap.size := by omega
  clear k2 H1
  go_wp2_with fail
  go_region_held3 (fun w' => w'.cell? ⟨w.heap.size, 0, none⟩ = some (.int .i64 a) ∧ w'.cell? ⟨w.heap.size, 1, none⟩ = some (.int .i64 b) ∧ w'.cell? ⟨w.heap.size + 1, 0, none⟩ = some (.int .i64 c) ∧ w'.cell? ⟨w.heap.size + 1, 1, none⟩ = some (.int .i64 d))
    (first
      | go_keep
      | exact ⟨(two_cells HB.out.one).1, (two_cells HB.out.one).2.1, (two_cells HB.out.two).1, (two_cells HB.out.two).2.1⟩
      | ((try dsimp only); (repeat' apply And.intro) <;> go_keep))
    (first
      | (go_at_call 67; refine (plane_any _ _ _).mono ?_; rintro e w3 ⟨rfl, k3⟩; replace HB := Lib.hid (HB.out.none k3); clear k3)
      | (go_at_call 66; refine (HW.out _).mono ?_; rintro e w3 ⟨rfl, k3⟩; replace HB := Lib.hid (HB.out.none k3); obtain ⟨r0, r1, f0, f1, l3⟩ := two_cells HB.out.res; clear k3))
  go_wp2
  refine bodyPost_ret (v := .tuple #[.agg #[.int .i64 (toldA (a + c) (b + d)), .int .i64 (toldB (a + c) (b + d))], .bool (rightB (a + c) (b + d))]) (by simp [results, Try.results31, go_sem, *]) rfl ⟨rfl, ?_⟩
  exact (HB.out.keeps.setCell (.inr (by simp; omega)) _).setCell (.inr (by simp; omega)) _
theorem gmul_no (a b c d : Int) (w : World) (h : (rightB a b && rightB c d) = false) :
    Calls Try.prog 33 #[.agg #[.int .i64 a, .int .i64 b], .agg #[.int .i64 c, .int .i64 d]] w fun e w' => e = .returned (.tuple #[.agg #[.int .i64 0, .int .i64 0], .bool false]) ∧ Keeps (fun _ => False) w w' := by
  have H0 := Lib.hid (Boxes.new w a b c d)
  have H := Lib.hid h
  clear h
  go_enter Try.func33, Try.ntmps33
  go_wp2_with fail
  refine (right_any a b _).mono ?_
  rintro e w1 ⟨rfl, k1⟩
  have H1 := Lib.hid (H0.out.none k1)
  obtain ⟨x0, x1, _, _, l1⟩ := two_cells H1.out.one
  obtain ⟨y0, y1, _, _, l2⟩ := two_cells H1.out.two
  obtain ⟨r0, r1, f0, f1, l3⟩ := two_cells H1.out.res
  clear k1 H0
  cases h1 : rightB a b
  · go_wp2
    refine bodyPost_ret (v := .tuple #[.agg #[.int .i64 0, .int .i64 0], .bool false]) (by simp [results, Try.results33, go_sem, *]) rfl ⟨rfl, ?_⟩
    exact (H1.out.keeps.setCell (.inr (by simp; omega)) _).setCell (.inr (by simp; omega)) _
  · have h2 : rightB c d = false := by have := H.out; rw [h1] at this; simpa using this
    have HH2 := Lib.hid h2
    clear h1 h2
    go_wp2_with fail
    refine (right_any c d _).mono ?_
    rintro e w2 ⟨rfl, k2⟩
    rw [HH2.out]
    have H2 := Lib.hid (H1.out.none k2)
    obtain ⟨r0, r1, f0, f1, l3⟩ := two_cells H2.out.res
    clear k2 H1
    go_wp2
    refine bodyPost_ret (v := .tuple #[.agg #[.int .i64 0, .int .i64 0], .bool false]) (by simp [results, Try.results33, go_sem, *]) rfl ⟨rfl, ?_⟩
    exact (H2.out.keeps.setCell (.inr (by simp; omega)) _).setCell (.inr (by simp; omega)) _
set_option maxHeartbeats 1000000 in
theorem gmul_yes (a b c d : Int) (w : World) (h1 : rightB a b = true) (h2 : rightB c d = true) :
    Calls Try.prog 33 #[.agg #[.int .i64 a, .int .i64 b], .agg #[.int .i64 c, .int .i64 d]] w fun e w' => e = .returned (.tuple #[.agg #[.int .i64 (toldA (a * c - b * d) (a * d + b * c)), .int .i64 (toldB (a * c - b * d) (a * d + b * c))], .bool (rightB (a * c - b * d) (a * d + b * c))]) ∧ Keeps (fun _ => False) w w' := by
  have H0 := Lib.hid (Boxes.new w a b c d)
  have H := Lib.hid (And.intro h1 h2)
  have bd1 := right_bds h1
  have bd2 := right_bds h2
  obtain ⟨re, im, hsum, hre, him⟩ := cmul_is (M := 1048576) (N := 1048576) (plane_isF (a := a) (by omega)) (plane_isF (a := b) (by omega)) (plane_isF (a := c) (by omega)) (plane_isF (a := d) (by omega)) (by omega) (by omega) (by omega) (by omega) (by decide)
  have q1 := abs_mul (M := 1048576) (N := 1048576) (show a.natAbs ≤ 1048576 by omega) (show c.natAbs ≤ 1048576 by omega)
  have q2 := abs_mul (M := 1048576) (N := 1048576) (show b.natAbs ≤ 1048576 by omega) (show d.natAbs ≤ 1048576 by omega)
  have q3 := abs_mul (M := 1048576) (N := 1048576) (show a.natAbs ≤ 1048576 by omega) (show d.natAbs ≤ 1048576 by omega)
  have q4 := abs_mul (M := 1048576) (N := 1048576) (show b.natAbs ≤ 1048576 by omega) (show c.natAbs ≤ 1048576 by omega)
  have hadd := fun w => run_complex_mul (P := Try.prog) w 117 _ _ _ _ _ _ hsum
  have HW := Lib.hid (fun w => whole_any re im (a * c - b * d) (a * d + b * c) w hre him (by omega) (by omega))
  clear q1 q2 q3 q4
  clear h1 h2 hsum hre him bd1 bd2
  go_enter Try.func33, Try.ntmps33
  go_wp2_with fail
  refine (right_any a b _).mono ?_
  rintro e w1 ⟨rfl, k1⟩
  rw [H.out.1]
  have H1 := Lib.hid (H0.out.none k1)
  obtain ⟨y0, y1, _, _, l2⟩ := two_cells H1.out.two
  clear k1 H0
  go_wp2_with fail
  refine (right_any c d _).mono ?_
  rintro e w2 ⟨rfl, k2⟩
  rw [H.out.2]
  have HB := Lib.hid ((H1.out.none k2).none (Keeps.refl _ _).drew)
  have H2 := Lib.hid (H1.out.none k2)
  obtain ⟨x0, x1, _, _, l1⟩ := two_cells H2.out.one
  obtain ⟨y0, y1, _, _, l2⟩ := two_cells H2.out.two
  have ne1 : ¬ w.heap.size = w.heap.size + 1 + 1 := by omega
  have ne2 : ¬ w.heap.size + 1 + 1 = w.heap.size := by omega
  clear k2 H1
  go_wp2_with fail
  go_region_held3 (fun w' => w'.cell? ⟨w.heap.size, 0, none⟩ = some (.int .i64 a) ∧ w'.cell? ⟨w.heap.size, 1, none⟩ = some (.int .i64 b) ∧ w'.cell? ⟨w.heap.size + 1, 0, none⟩ = some (.int .i64 c) ∧ w'.cell? ⟨w.heap.size + 1, 1, none⟩ = some (.int .i64 d))
    (first
      | go_keep
      | exact ⟨(two_cells HB.out.one).1, (two_cells HB.out.one).2.1, (two_cells HB.out.two).1, (two_cells HB.out.two).2.1⟩
      | ((try dsimp only); (repeat' apply And.intro) <;> go_keep))
    (first
      | (go_at_call 67; refine (plane_any _ _ _).mono ?_; rintro e w3 ⟨rfl, k3⟩; replace HB := Lib.hid (HB.out.none k3); clear k3)
      | (go_at_call 66; refine (HW.out _).mono ?_; rintro e w3 ⟨rfl, k3⟩; replace HB := Lib.hid (HB.out.none k3); obtain ⟨r0, r1, f0, f1, l3⟩ := two_cells HB.out.res; clear k3))
  go_wp2
  refine bodyPost_ret (v := .tuple #[.agg #[.int .i64 (toldA (a * c - b * d) (a * d + b * c)), .int .i64 (toldB (a * c - b * d) (a * d + b * c))], .bool (rightB (a * c - b * d) (a * d + b * c))]) (by simp [results, Try.results33, go_sem, *]) rfl ⟨rfl, ?_⟩
  exact (HB.out.keeps.setCell (.inr (by simp; omega)) _).setCell (.inr (by simp; omega)) _
theorem gadd_any (a b c d : Int) (w : World) :
    Calls Try.prog 31 #[.agg #[.int .i64 a, .int .i64 b], .agg #[.int .i64 c, .int .i64 d]] w fun e w' => e = .returned (if rightB a b && rightB c d then .tuple #[.agg #[.int .i64 (toldA (a + c) (b + d)), .int .i64 (toldB (a + c) (b + d))], .bool (rightB (a + c) (b + d))] else .tuple #[.agg #[.int .i64 0, .int .i64 0], .bool false]) ∧ Keeps (fun _ => False) w w' := by
  cases h : rightB a b && rightB c d
  · exact gadd_no a b c d w h
  · rw [Bool.and_eq_true] at h; exact gadd_yes a b c d w h.1 h.2
theorem gmul_any (a b c d : Int) (w : World) :
    Calls Try.prog 33 #[.agg #[.int .i64 a, .int .i64 b], .agg #[.int .i64 c, .int .i64 d]] w fun e w' => e = .returned (if rightB a b && rightB c d then .tuple #[.agg #[.int .i64 (toldA (a * c - b * d) (a * d + b * c)), .int .i64 (toldB (a * c - b * d) (a * d + b * c))], .bool (rightB (a * c - b * d) (a * d + b * c))] else .tuple #[.agg #[.int .i64 0, .int .i64 0], .bool false]) ∧ Keeps (fun _ => False) w w' := by
  cases h : rightB a b && rightB c d
  · exact gmul_no a b c d w h
  · rw [Bool.and_eq_true] at h; exact gmul_yes a b c d w h.1 h.2
end Go.Proofs.Ytlpnobpgphmngaa
