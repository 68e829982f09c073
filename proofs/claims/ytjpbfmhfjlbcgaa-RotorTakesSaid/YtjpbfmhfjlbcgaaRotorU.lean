import Derived.Test.YtjpbfmhfjlbcgaaRotorG
namespace Go.Proofs.Ytjpbfmhfjlbcgaa
open Go.ChangeShapes Go.WideShapes Go.ChangeAt Go.RowKit
set_option linter.unusedVariables false
set_option linter.unusedSimpArgs false
theorem own05_any (x y a b c d p : Int) (w : World) :
    Calls Try.prog 8 #[.agg (rCells x y a b c d p)] w fun e w' => e = .returned (.agg (rCells x y a b c d p)) ∧ Keeps (fun _ => False) w w' := by
  go_enter Try.func8, Try.ntmps8
  go_wp2
  refine bodyPost_ret (v := .agg (rCells x y a b c d p)) (by simp [results, Try.results8, go_sem]) rfl ⟨rfl, ?_⟩
  exact ((Keeps.refl _ _).alloc _).alloc _
theorem back05_any (x y a b c d p : Int) (w : World) :
    Calls Try.prog 14 #[.agg (rCells x y a b c d p)] w fun e w' => e = .returned (.agg (rCells x y a b c d p)) ∧ Keeps (fun _ => False) w w' := by
  go_enter Try.func14, Try.ntmps14
  go_wp2
  refine bodyPost_ret (v := .agg (rCells x y a b c d p)) (by simp [results, Try.results14, go_sem]) rfl ⟨rfl, ?_⟩
  exact ((Keeps.refl _ _).alloc _).alloc _
end Go.Proofs.Ytjpbfmhfjlbcgaa
