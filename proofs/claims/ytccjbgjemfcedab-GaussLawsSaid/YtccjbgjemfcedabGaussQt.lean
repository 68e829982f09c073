import Derived.Test.YtccjbgjemfcedabGaussGcd
import Derived.Test.YtccjbgjemfcedabGhost
import Derived.Deep.LoopGhost
namespace Go.Proofs.Ytccjbgjemfcedab
open Go.ChangeShapes Go.WideShapes Go.ChangeAt Go.RowKit
set_option linter.unusedVariables false
set_option linter.unusedSimpArgs false
attribute [local go_sem ↓ 2000] eqn
/-- How many quarter turns are wanted till a number faces right, or up and right. -/
def tm (p q : Int) : Nat := if p = 0 ∧ q = 0 then 0 else if 0 < p ∧ 0 ≤ q then 0 else if 0 ≤ p ∧ q < 0 then 1 else if p < 0 ∧ q ≤ 0 then 2 else 3
theorem tm_turn {p q : Int} (h0 : ¬ (p = 0 ∧ q = 0)) (h : ¬ (0 < p ∧ 0 ≤ q)) : tm (-q) p + 1 = tm p q ∧ ¬ (-q = 0 ∧ p = 0) := by
  unfold tm
  rw [if_neg h0, if_neg h, if_neg (by omega)]
  repeat' split
  all_goals omega
theorem ord_zero {x : Nat} {p : Int} (h : IsF x p) : FloatKind.f64.format.order x 0 = some (compare p 0) := IsF.order h isF_zero
theorem ord_gt {x : Nat} {p : Int} (h : IsF x p) (hp : 0 < p) : FloatKind.f64.format.order x 0 = some .gt := by rw [ord_zero h, Int.compare_eq_gt.2 hp]
theorem ord_lt {x : Nat} {p : Int} (h : IsF x p) (hp : p < 0) : FloatKind.f64.format.order x 0 = some .lt := by rw [ord_zero h, Int.compare_eq_lt.2 hp]
theorem ord_eq {x : Nat} {p : Int} (h : IsF x p) (hp : p = 0) : FloatKind.f64.format.order x 0 = some .eq := by subst hp; exact ord_zero h
set_option maxRecDepth 20000 in
set_option maxHeartbeats 1000000 in
theorem quarter_walk (a b : Int) (w : World) (h : rightB a b = true) (hn : ¬ (a = 0 ∧ b = 0)) :
    Calls Try.prog 32 #[.agg #[.int .i64 a, .int .i64 b]] w fun e w' => ∃ p q : Int, e = .returned (.agg #[.int .i64 p, .int .i64 q]) ∧ rightB p q = true ∧ Dvd p q a b ∧ Dvd a b p q ∧ 0 < p ∧ 0 ≤ q ∧ Keeps (fun _ => False) w w' := by
  have bd := right_bds h
  have he : eqN a b 0 0 = false := decide_eq_false hn
  obtain ⟨w1, hw1⟩ : ∃ w1, (w.alloc (.cells #[.int .i64 a, .int .i64 b] 24)).alloc (.cells #[.int .i64 0, .int .i64 0] 24) = w1 := ⟨_, rfl⟩
  have HN := Lib.hid hn
  have ha := heap_old (heap_new w (.cells #[.int .i64 a, .int .i64 b] 24)) (.cells #[.int .i64 0, .int .i64 0] 24)
  have hr : w1.heap[w.heap.size + 1]? = some (.cells #[.int .i64 0, .int .i64 0] 24 (0, 0)) := by
    rw [← hw1]
    have := heap_new (w.alloc (.cells #[.int .i64 a, .int .i64 b] 24)) (.cells #[.int .i64 0, .int .i64 0] 24)
    simpa using this
  have hk : Keeps (fun _ => False) w w1 := by rw [← hw1]; exact ((Keeps.refl _ _).alloc _).alloc _
  rw [hw1] at ha
  obtain ⟨x0, x1, _, _, l1⟩ := two_cells ha
  have HB := Lib.hid (And.intro ha (And.intro hr hk))
  clear h hn ha hr hk
  go_enter Try.func32, Try.ntmps32
  go_wp2_with fail
  refine (plane_any a b _).mono ?_
  rintro e w2 ⟨rfl, k2⟩
  have ha2 := k2.at HB.out.1 fun h => h
  have hr2 := k2.at HB.out.2.1 fun h => h
  have hk2 := HB.out.2.2.trans k2
  obtain ⟨y0, y1, _, _, l2⟩ := two_cells ha2
  obtain ⟨r0, r1, f0, f1, l3⟩ := two_cells hr2
  have HC := Lib.hid (And.intro hr2 hk2)
  clear ha2 hr2 hk2 k2 HB x0 x1 l1 hw1
  have hf1 := plane_isF (a := a) (by omega)
  have hf2 := plane_isF (a := b) (by omega)
  generalize floatOfInt .f64 a = fa at *
  generalize floatOfInt .f64 b = fb at *
  go_wp2_with fail
  go_loopg [3] (tm a b) (fun g v wr => ∃ (p q : Int) (x y : Nat), v = .complex .f64 x y ∧ IsF x p ∧ IsF y q ∧ tm p q = g ∧ p.natAbs ≤ 1048576 ∧ q.natAbs ≤ 1048576 ∧ ¬ (p = 0 ∧ q = 0) ∧ Dvd p q a b ∧ Dvd a b p q ∧ wr = w2)
  case atStart => exact ⟨a, b, _, _, rfl, hf1, hf2, rfl, by omega, by omega, HN.out, dvd_refl _ _, dvd_refl _ _, rfl⟩
  case round =>
    obtain ⟨p, q, x, y, rfl, hx, hy, hg, hp, hq, hpq, hd1, hd2, rfl⟩ := hrel
    rcases Int.lt_trichotomy p 0 with hp0 | hp0 | hp0
    · have o1 := ord_lt hx hp0
      have hq0 : ¬ (0 < p ∧ 0 ≤ q) := by omega
      obtain ⟨re, im, hm, f1, f2⟩ := cmul_is (M := 1048576) (N := 1) hx hy isF_zero isF_one hp hq (by decide) (by decide) (by decide)
      have hmul := fun w => run_complex_mul (P := Try.prog) w 69 _ _ _ _ _ _ hm
      obtain ⟨ht1, ht2⟩ := tm_turn hpq hq0
      have f1' : IsF re (-q) := by simpa using f1
      have f2' : IsF im p := by simpa using f2
      have hdt := dvd_turn p q
      have HF := Lib.hid (And.intro f1' (And.intro f2' (And.intro ht1 (And.intro ht2 (And.intro (dvd_trans hdt.2 hd1) (dvd_trans hd2 hdt.1))))))
      clear hx hy hm f1 f2 f1' f2' hd1 hd2 ht1 ht2 hdt hpq
      go_wp2
      go_roundg (tm (-q) p)
      case rel => exact ⟨-q, p, re, im, rfl, HF.out.1, HF.out.2.1, rfl, by omega, hp, HF.out.2.2.2.1, HF.out.2.2.2.2.1, HF.out.2.2.2.2.2, rfl⟩
      case measure => have := HF.out.2.2.1; omega
    · have o1 := ord_eq hx hp0
      have hq0 : ¬ (0 < p ∧ 0 ≤ q) := by omega
      have HP0 := Lib.hid hp0
      clear hp0
      obtain ⟨re, im, hm, f1, f2⟩ := cmul_is (M := 1048576) (N := 1) hx hy isF_zero isF_one hp hq (by decide) (by decide) (by decide)
      have hmul := fun w => run_complex_mul (P := Try.prog) w 69 _ _ _ _ _ _ hm
      obtain ⟨ht1, ht2⟩ := tm_turn hpq hq0
      have f1' : IsF re (-q) := by simpa using f1
      have f2' : IsF im p := by simpa using f2
      have hdt := dvd_turn p q
      have HF := Lib.hid (And.intro f1' (And.intro f2' (And.intro ht1 (And.intro ht2 (And.intro (dvd_trans hdt.2 hd1) (dvd_trans hd2 hdt.1))))))
      clear hx hy hm f1 f2 f1' f2' hd1 hd2 ht1 ht2 hdt hpq
      go_wp2
      go_roundg (tm (-q) p)
      case rel => exact ⟨-q, p, re, im, rfl, HF.out.1, HF.out.2.1, rfl, by omega, hp, HF.out.2.2.2.1, HF.out.2.2.2.2.1, HF.out.2.2.2.2.2, rfl⟩
      case measure => have := HF.out.2.2.1; omega
    · have o1 := ord_gt hx hp0
      rcases Int.lt_trichotomy q 0 with hq1 | hq1 | hq1
      · have o2 := ord_lt hy hq1
        have hq0 : ¬ (0 < p ∧ 0 ≤ q) := by omega
        obtain ⟨re, im, hm, f1, f2⟩ := cmul_is (M := 1048576) (N := 1) hx hy isF_zero isF_one hp hq (by decide) (by decide) (by decide)
        have hmul := fun w => run_complex_mul (P := Try.prog) w 69 _ _ _ _ _ _ hm
        obtain ⟨ht1, ht2⟩ := tm_turn hpq hq0
        have f1' : IsF re (-q) := by simpa using f1
        have f2' : IsF im p := by simpa using f2
        have hdt := dvd_turn p q
        have HF := Lib.hid (And.intro f1' (And.intro f2' (And.intro ht1 (And.intro ht2 (And.intro (dvd_trans hdt.2 hd1) (dvd_trans hd2 hdt.1))))))
        clear hx hy hm f1 f2 f1' f2' hd1 hd2 ht1 ht2 hdt hpq
        go_wp2
        go_roundg (tm (-q) p)
        case rel => exact ⟨-q, p, re, im, rfl, HF.out.1, HF.out.2.1, rfl, by omega, hp, HF.out.2.2.2.1, HF.out.2.2.2.2.1, HF.out.2.2.2.2.2, rfl⟩
        case measure => have := HF.out.2.2.1; omega
      · have o2 := ord_eq hy hq1
        replace hq1 : 0 ≤ q := by omega
        have c1 := fun w => run_toInt x p w hx (by omega) (by omega)
        have c2 := fun w => run_toInt y q w hy (by omega) (by omega)
        have HD := Lib.hid (And.intro hd1 (And.intro hd2 (And.intro (show rightB p q = true from right_of (by unfold inR; omega) (by unfold inR; omega)) (And.intro hp0 hq1))))
        clear hd1 hd2 hx hy hpq
        go_wp2
        exact bodyPost_ret (v := .agg #[.int .i64 p, .int .i64 q]) (by simp [results, Try.results32, go_sem, *]) rfl ⟨p, q, rfl, HD.out.2.2.1, HD.out.1, HD.out.2.1, HD.out.2.2.2.1, HD.out.2.2.2.2, (HC.out.2.setCell (p := ⟨w.heap.size + 1, 0, none⟩) (.inr (by simp)) _).setCell (p := ⟨w.heap.size + 1, 1, none⟩) (.inr (by simp)) _⟩
      · have o2 := ord_gt hy hq1
        replace hq1 : 0 ≤ q := by omega
        have c1 := fun w => run_toInt x p w hx (by omega) (by omega)
        have c2 := fun w => run_toInt y q w hy (by omega) (by omega)
        have HD := Lib.hid (And.intro hd1 (And.intro hd2 (And.intro (show rightB p q = true from right_of (by unfold inR; omega) (by unfold inR; omega)) (And.intro hp0 hq1))))
        clear hd1 hd2 hx hy hpq
        go_wp2
        exact bodyPost_ret (v := .agg #[.int .i64 p, .int .i64 q]) (by simp [results, Try.results32, go_sem, *]) rfl ⟨p, q, rfl, HD.out.2.2.1, HD.out.1, HD.out.2.1, HD.out.2.2.2.1, HD.out.2.2.2.2, (HC.out.2.setCell (p := ⟨w.heap.size + 1, 0, none⟩) (.inr (by simp)) _).setCell (p := ⟨w.heap.size + 1, 1, none⟩) (.inr (by simp)) _⟩
set_option maxRecDepth 20000 in
set_option maxHeartbeats 1000000 in
theorem quarter_zero (w : World) : Calls Try.prog 32 #[.agg #[.int .i64 0, .int .i64 0]] w fun e w' => e = .returned (.agg #[.int .i64 0, .int .i64 0]) ∧ Keeps (fun _ => False) w w' := by
  have he : eqN 0 0 0 0 = true := rfl
  obtain ⟨w1, hw1⟩ : ∃ w1, (w.alloc (.cells #[.int .i64 0, .int .i64 0] 24)).alloc (.cells #[.int .i64 0, .int .i64 0] 24) = w1 := ⟨_, rfl⟩
  have ha := heap_old (heap_new w (.cells #[.int .i64 0, .int .i64 0] 24)) (.cells #[.int .i64 0, .int .i64 0] 24)
  have hr : w1.heap[w.heap.size + 1]? = some (.cells #[.int .i64 0, .int .i64 0] 24 (0, 0)) := by
    rw [← hw1]
    have := heap_new (w.alloc (.cells #[.int .i64 0, .int .i64 0] 24)) (.cells #[.int .i64 0, .int .i64 0] 24)
    simpa using this
  have hk : Keeps (fun _ => False) w w1 := by rw [← hw1]; exact ((Keeps.refl _ _).alloc _).alloc _
  rw [hw1] at ha
  obtain ⟨x0, x1, _, _, l1⟩ := two_cells ha
  have HB := Lib.hid (And.intro ha (And.intro hr hk))
  clear ha hr hk
  go_enter Try.func32, Try.ntmps32
  go_wp2_with fail
  refine (plane_any 0 0 _).mono ?_
  rintro e w2 ⟨rfl, k2⟩
  have ha2 := k2.at HB.out.1 fun h => h
  have hr2 := k2.at HB.out.2.1 fun h => h
  have hk2 := HB.out.2.2.trans k2
  obtain ⟨y0, y1, _, _, l2⟩ := two_cells ha2
  obtain ⟨r0, r1, f0, f1, l3⟩ := two_cells hr2
  have HC := Lib.hid (And.intro hr2 hk2)
  clear ha2 hr2 hk2 k2 HB x0 x1 l1 hw1
  have hf1 := plane_isF (a := (0 : Int)) (by decide)
  have hf2 := plane_isF (a := (0 : Int)) (by decide)
  generalize floatOfInt .f64 0 = fa at *
  go_wp2_with fail
  go_loopg [3] 0 (fun g v wr => v = .complex .f64 fa fa ∧ wr = w2)
  case atStart => exact ⟨rfl, rfl⟩
  case round =>
    obtain ⟨rfl, rfl⟩ := hrel
    have c1 := fun w => run_toInt fa 0 w hf1 (by decide) (by decide)
    clear hf1 hf2
    go_wp2
    exact bodyPost_ret (v := .agg #[.int .i64 0, .int .i64 0]) (by simp [results, Try.results32, go_sem, *]) rfl ⟨rfl, (HC.out.2.setCell (p := ⟨w.heap.size + 1, 0, none⟩) (.inr (by simp)) _).setCell (p := ⟨w.heap.size + 1, 1, none⟩) (.inr (by simp)) _⟩
end Go.Proofs.Ytccjbgjemfcedab
