import Derived.Test.YtjpbfmhfjlbcgaaRotor
import Derived.Test.YtjpbfmhfjlbcgaaRotorM
namespace Go.Proofs.Ytjpbfmhfjlbcgaa
open Go.ChangeShapes Go.WideShapes Go.ChangeAt Go.RowKit
set_option linter.unusedVariables false
set_option linter.unusedSimpArgs false
theorem Has.new2 (w : World) (o1 o2 : Obj) : Has w ((w.alloc o1).alloc o2) [(w.heap.size + 1, o2), (w.heap.size, o1)] := by
  have h := ((Has.start w).alloc o1).alloc o2
  rw [show (w.alloc o1).heap.size = w.heap.size + 1 by simp] at h
  exact h
theorem Has.new3 (w : World) (o1 o2 o3 : Obj) : Has w (((w.alloc o1).alloc o2).alloc o3) [(w.heap.size + 1 + 1, o3), (w.heap.size + 1, o2), (w.heap.size, o1)] := by
  have h := (Has.new2 w o1 o2).alloc o3
  rw [show ((w.alloc o1).alloc o2).heap.size = w.heap.size + 1 + 1 by simp] at h
  exact h
/-- A move as the program has it. -/
abbrev mvCells (m : Mv) : Array Value := #[cxOf m.a m.b, cxOf m.c m.d]
theorem store_cx (w : World) (q : Addr) (x y : Nat) (m : Mode) : (store q (.complex .f64 x y) m).run Try.prog w = stored Try.prog w q (.complex .f64 x y) m := run_store Try.prog w q _ m rfl
set_option maxHeartbeats 2000000 in
theorem rafter_words (x1 y1 s1 t1 x2 y2 s2 t2 re im u v s t : Nat) (p : Int) (PB : Nat) (w : World) (hm : cMulBits x1 y1 x2 y2 = some (re, im)) (hR : Red w PB p)
    (hr : ∀ w, Red w PB p → Calls Try.prog 29 #[.complex .f64 re im, .pointer (some ⟨PB, 0, none⟩)] w fun e w' => e = .returned (.complex .f64 u v) ∧ Keeps (fun _ => False) w w')
    (ho : ∀ w, Red w PB p → Calls Try.prog 25 #[.agg #[.complex .f64 x2 y2, .complex .f64 s2 t2], .complex .f64 s1 t1, .func (.func 29) #[] #[.pointer (some ⟨PB, 0, none⟩)]] w fun e w' => e = .returned (.complex .f64 s t) ∧ Keeps (fun _ => False) w w') :
    Calls Try.prog 23 #[.agg #[.complex .f64 x2 y2, .complex .f64 s2 t2], .agg #[.complex .f64 x1 y1, .complex .f64 s1 t1], .func (.func 29) #[] #[.pointer (some ⟨PB, 0, none⟩)]] w fun e w' => e = .returned (.agg #[.complex .f64 u v, .complex .f64 s t]) ∧ Keeps (fun _ => False) w w' := by
  have hmul := fun w => run_complex_mul (P := Try.prog) w 55 _ _ _ _ _ _ hm
  have HR := Lib.hid hr
  have HO := Lib.hid ho
  have HH := Lib.hid hR
  have HB := Lib.hid ((Has.new3 w (.cells #[.complex .f64 x2 y2, .complex .f64 s2 t2] 57) (.cells #[.complex .f64 x1 y1, .complex .f64 s1 t1] 57) (.cells #[.complex .f64 0 0, .complex .f64 0 0] 57)).drew)
  have ne1 : ¬ w.heap.size = w.heap.size + 1 + 1 := by omega
  have ne2 : ¬ w.heap.size + 1 + 1 = w.heap.size := by omega
  have hst := store_cx
  clear hm hr ho hR
  go_enter Try.func23, Try.ntmps23
  go_wp2_with fail
  go_region_held3 (fun w' => w'.cell? ⟨w.heap.size, 0, none⟩ = some (.complex .f64 x2 y2) ∧ w'.cell? ⟨w.heap.size, 1, none⟩ = some (.complex .f64 s2 t2) ∧ w'.cell? ⟨w.heap.size + 1, 0, none⟩ = some (.complex .f64 x1 y1) ∧ w'.cell? ⟨w.heap.size + 1, 1, none⟩ = some (.complex .f64 s1 t1))
    (first
      | go_keep
      | exact ⟨cell_of (HB.out.at 2 rfl) 0, cell_of (HB.out.at 2 rfl) 1, cell_of (HB.out.at 1 rfl) 0, cell_of (HB.out.at 1 rfl) 1⟩
      | ((try dsimp only); (repeat' apply And.intro) <;> go_keep))
    (first
      | (go_at_call 29; refine (HR.out _ (HH.out.none HB.out.keeps)).mono ?_; rintro e w3 ⟨rfl, k3⟩; replace HB := Lib.hid (HB.out.none k3); obtain ⟨r0, r1, f0, f1, lr⟩ := two_cells (HB.out.at 0 rfl); clear k3)
      | (go_at_call 25; refine (HO.out _ (HH.out.none HB.out.keeps)).mono ?_; rintro e w3 ⟨rfl, k3⟩; replace HB := Lib.hid (HB.out.none k3); obtain ⟨r0, r1, f0, f1, lr⟩ := two_cells (HB.out.at 0 rfl); clear k3))
  all_goals
    go_wp2
    refine bodyPost_ret (v := .agg #[.complex .f64 u v, .complex .f64 s t]) (by simp [results, Try.results23, go_sem, *]) rfl ⟨rfl, ?_⟩
    exact (HB.out.keeps.setCell (p := ⟨w.heap.size + 1 + 1, 0, none⟩) (.inr (show w.heap.size ≤ w.heap.size + 1 + 1 by omega)) _).setCell (p := ⟨w.heap.size + 1 + 1, 1, none⟩) (.inr (show w.heap.size ≤ w.heap.size + 1 + 1 by omega)) _
theorem rafter_any (m f : Mv) (p : Int) (PB : Nat) (w : World) (hm : m.In) (hf : f.In) (hp : 0 < p ∧ p ≤ 1000000) (hR : Red w PB p) :
    Calls Try.prog 23 #[.agg (mvCells m), .agg (mvCells f), .func (.func 29) #[] #[.pointer (some ⟨PB, 0, none⟩)]] w fun e w' => e = .returned (.agg (mvCells (m.after p f))) ∧ Keeps (fun _ => False) w w' := by
  have l1 := mul_lim hf.a hm.a
  have l2 := mul_lim hf.b hm.b
  have l3 := mul_lim hf.a hm.b
  have l4 := mul_lim hf.b hm.a
  obtain ⟨re, im, hmm, f1, f2⟩ := cmul_is (M := 1000) (N := 1000) (plane_isF (a := f.a) (by have := hf.a; omega)) (plane_isF (a := f.b) (by have := hf.b; omega)) (plane_isF (a := m.a) (by have := hm.a; omega)) (plane_isF (a := m.b) (by have := hm.b; omega)) (by have := hf.a; omega) (by have := hf.b; omega) (by have := hm.a; omega) (by have := hm.b; omega) (by decide)
  exact rafter_words _ _ _ _ _ _ _ _ re im _ _ _ _ p PB w hmm hR (fun w h => red_any re im (f.a * m.a - f.b * m.b) (f.a * m.b + f.b * m.a) p PB w f1 f2 (by omega) (by omega) hp h) (fun w h => rof_any m.a m.b m.c m.d f.c f.d p PB w hm.a hm.b hm.c hm.d hf.c hf.d hp h)
set_option maxHeartbeats 1000000 in
theorem rone_any (x y a b c d p : Int) (w : World) :
    Calls Try.prog 22 #[.agg #[.int .i64 x, .int .i64 y, .int .i64 a, .int .i64 b, .int .i64 c, .int .i64 d, .int .i64 p]] w fun e w' => e = .returned (.agg (mvCells ⟨a, b, c, d⟩)) ∧ Keeps (fun _ => False) w w' := by
  have HB := Lib.hid ((Has.new2 w (.cells #[.int .i64 x, .int .i64 y, .int .i64 a, .int .i64 b, .int .i64 c, .int .i64 d, .int .i64 p] 29) (.cells #[.complex .f64 0 0, .complex .f64 0 0] 57)).drew)
  have hst := store_cx
  go_enter Try.func22, Try.ntmps22
  go_wp2_with fail
  go_region_held3 (fun w' => w'.cell? ⟨w.heap.size, 2, none⟩ = some (.int .i64 a) ∧ w'.cell? ⟨w.heap.size, 3, none⟩ = some (.int .i64 b) ∧ w'.cell? ⟨w.heap.size, 4, none⟩ = some (.int .i64 c) ∧ w'.cell? ⟨w.heap.size, 5, none⟩ = some (.int .i64 d))
    (first
      | go_keep
      | exact ⟨cell_of (HB.out.at 1 rfl) 2, cell_of (HB.out.at 1 rfl) 3, cell_of (HB.out.at 1 rfl) 4, cell_of (HB.out.at 1 rfl) 5⟩
      | ((try dsimp only); (repeat' apply And.intro) <;> go_keep))
    ((go_at_call 26; refine (rplane_any _ _ _).mono ?_; rintro e w3 ⟨rfl, k3⟩; replace HB := Lib.hid (HB.out.none k3); obtain ⟨r0, r1, f0, f1, lr⟩ := two_cells (HB.out.at 0 rfl); clear k3))
  all_goals
    go_wp2
    refine bodyPost_ret (v := .agg (mvCells ⟨a, b, c, d⟩)) (by simp [results, Try.results22, go_sem, *]) rfl ⟨rfl, ?_⟩
    exact (HB.out.keeps.setCell (p := ⟨w.heap.size + 1, 0, none⟩) (.inr (show w.heap.size ≤ w.heap.size + 1 by omega)) _).setCell (p := ⟨w.heap.size + 1, 1, none⟩) (.inr (show w.heap.size ≤ w.heap.size + 1 by omega)) _
end Go.Proofs.Ytjpbfmhfjlbcgaa
