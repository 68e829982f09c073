import Derived.Test.YtjpbfmhfjlbcgaaRotorD
import Derived.Test.YtjpbfmhfjlbcgaaAgain
import Derived.Deep.RegionHeld3
namespace Go.Proofs.Ytjpbfmhfjlbcgaa
open Go.ChangeShapes Go.WideShapes Go.ChangeAt Go.RowKit
set_option linter.unusedVariables false
set_option linter.unusedSimpArgs false
theorem one_words : #[Value.complex .f64 (floatOfInt .f64 1) (floatOfInt .f64 0), Value.complex .f64 (floatOfInt .f64 0) (floatOfInt .f64 0)] = #[.complex .f64 4607182418800017408 0, .complex .f64 0 0] := by
  have e1 : floatOfInt .f64 1 = 4607182418800017408 := by decide +kernel
  have e0 : floatOfInt .f64 0 = 0 := by decide +kernel
  rw [e1, e0]
theorem pskip_yes (x y a b c d p : Int) (n : Nat) (w : World) (h : rightR x y a b c d p = true) (hn : n ≤ 9223372036854775807) :
    Calls Try.prog 10 #[.agg (rCells x y a b c d p), .int .i64 (n : Int)] w fun e w' => e = .returned (.tuple #[.agg (rCells (Mv.it p ⟨a, b, c, d⟩ n (x, y)).1 (Mv.it p ⟨a, b, c, d⟩ n (x, y)).2 a b c d p), .bool true]) ∧ Keeps (fun _ => False) w w' := by
  obtain ⟨⟨hp1, hp2⟩, hx, hy, ha, hb, hc, hd⟩ := rightR_bds h
  have hi := Mv.it_in p ⟨a, b, c, d⟩ n (x, y) (by omega) ⟨hx, hy⟩
  obtain ⟨X, Y, hXY⟩ : ∃ X Y, Mv.it p ⟨a, b, c, d⟩ n (x, y) = (X, Y) := ⟨_, _, rfl⟩
  rw [hXY] at hi ⊢
  obtain ⟨⟨hX0, hX1⟩, hY0, hY1⟩ := hi
  simp only at hX0 hX1 hY0 hY1
  refine pskip_words x y a b c d p n w (fun m => floatOfInt .f64 m.a) (fun m => floatOfInt .f64 m.b) (fun m => floatOfInt .f64 m.c) (fun m => floatOfInt .f64 m.d) (floatOfInt .f64 x) (floatOfInt .f64 y) (floatOfInt .f64 X) (floatOfInt .f64 Y) X Y h hn one_words (fun w => rone_any x y a b c d p w) (fun PB m f w hm hf hR => rafter_any m f p PB w hm hf ⟨by omega, by omega⟩ hR) (fun w => rplane_any x y w) (fun PB A w hA hAp hR => ?_) (fun w => rwhole_any X Y w (by omega) (by omega)) hXY
  have h1 := congrArg Prod.fst hAp
  have h2 := congrArg Prod.snd hAp
  simp only [Mv.ap] at h1 h2
  have := rof_any A.a A.b A.c A.d x y p PB w hA.a hA.b hA.c hA.d (by omega) (by omega) ⟨by omega, by omega⟩ hR
  rw [h1, h2] at this
  exact this
theorem pnext_of (x y a b c d p X Y A B C D P : Int) (is : Bool) (w : World)
    (hs : ∀ w, Calls Try.prog 10 #[.agg (rCells x y a b c d p), .int .i64 1] w fun e w' => e = .returned (.tuple #[.agg (rCells X Y A B C D P), .bool is]) ∧ Keeps (fun _ => False) w w') :
    Calls Try.prog 7 #[.agg (rCells x y a b c d p)] w fun e w' => e = .returned (.tuple #[.agg (rCells X Y A B C D P), .bool is]) ∧ Keeps (fun _ => False) w w' := by
  have H0 := Lib.hid (RB.new 29 w x y a b c d p)
  have HS := Lib.hid hs
  clear hs
  go_enter Try.func7, Try.ntmps7
  go_wp2_with fail
  refine (HS.out _).mono ?_
  rintro e w1 ⟨rfl, k1⟩
  have H1 := Lib.hid (H0.out.none k1)
  obtain ⟨r0, r1, r2, r3, r4, r5, r6⟩ := seven_cells H1.out.res
  obtain ⟨g0, g1, g2, g3, g4, g5, g6, lr⟩ := seven_free H1.out.res
  clear k1 H0
  go_wp2
  exact bodyPost_ret (v := .tuple #[.agg (rCells X Y A B C D P), .bool is]) (by simp [results, Try.results7, go_sem, *]) rfl ⟨rfl, H1.out.seven⟩
end Go.Proofs.Ytjpbfmhfjlbcgaa
