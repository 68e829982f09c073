import Derived.Test.YtjpbfmhfjlbcgaaRotorTp
namespace Go.Proofs.Ytjpbfmhfjlbcgaa
open Go.ChangeShapes Go.WideShapes Go.ChangeAt Go.RowKit
set_option linter.unusedVariables false
set_option linter.unusedSimpArgs false
theorem ptake_yes (x y a b c d p levels calm : Int) (n : Nat) (w : World) (h : rightR x y a b c d p = true) (hn : n ≤ 65536) (hl : 0 ≤ levels ∧ levels ≤ 31) (hc : 1 ≤ calm ∧ calm ≤ 1000) :
    Calls Try.prog 15 #[.agg (rCells x y a b c d p), .int .i64 (n : Int), .int .i64 levels, .int .i64 calm] w fun e w' => ∃ GL, e = .returned (.tuple #[.slice (some ⟨GL, 0, none⟩) n n, .agg (rCells (Mv.it p ⟨a, b, c, d⟩ n (x, y)).1 (Mv.it p ⟨a, b, c, d⟩ n (x, y)).2 a b c d p), .bool true]) ∧ Row w' (some ⟨GL, 0, none⟩) n (fun k => choice p levels calm (Mv.it p ⟨a, b, c, d⟩ (k + 1) (x, y))) ∧ Keeps (fun _ => False) w w' := by
  obtain ⟨⟨hp1, hp2⟩, hx, hy, ha, hb, hcc, hd⟩ := rightR_bds h
  have hi := fun i => Mv.it_in p ⟨a, b, c, d⟩ i (x, y) (by omega) ⟨hx, hy⟩
  obtain ⟨Z, hZ⟩ : ∃ Z : Nat → Int × Int, Z = fun i => Mv.it p ⟨a, b, c, d⟩ i (x, y) := ⟨_, rfl⟩
  have hZi : ∀ i, InP p (Z i) := fun i => by rw [hZ]; exact hi i
  have e0 : Z 0 = (x, y) := by rw [hZ]; rfl
  have hq := ptake_words x y a b c d p levels calm n w (floatOfInt .f64 a) (floatOfInt .f64 b) (floatOfInt .f64 c) (floatOfInt .f64 d) (fun i => floatOfInt .f64 (Z i).1) (fun i => floatOfInt .f64 (Z i).2) h hn hl hc (fun w => rone_any x y a b c d p w) (fun PB i w hR => ?_) (fun i => (Z i).1) (fun i => (Z i).2) (fun i => ?_) ⟨by omega, by omega⟩ (by rw [e0]; exact ⟨rfl, rfl⟩) (fun i w => ?_) (fun w => ?_)
  · rw [hZ] at hq
    exact hq
  · have e : Z (i + 1) = (((Z i).1 * a - (Z i).2 * b + c) % p, ((Z i).1 * b + (Z i).2 * a + d) % p) := by rw [hZ]; rfl
    simp only [e]
    have h1 := (hZi i).1
    have h2 := (hZi i).2
    exact rof_any a b c d (Z i).1 (Z i).2 p PB w (by omega) (by omega) (by omega) (by omega) (by omega) (by omega) ⟨by omega, by omega⟩ hR
  · have h1 := (hZi i).1
    have h2 := (hZi i).2
    exact ⟨by omega, by omega⟩
  · have h1 := (hZi i).1
    have h2 := (hZi i).2
    exact rwhole_any (Z i).1 (Z i).2 w (by omega) (by omega)
  · rw [e0]
    exact rplane_any x y w
end Go.Proofs.Ytjpbfmhfjlbcgaa
