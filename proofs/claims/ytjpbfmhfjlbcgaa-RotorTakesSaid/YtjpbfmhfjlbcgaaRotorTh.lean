import Derived.Test.YtjpbfmhfjlbcgaaRotorTg
namespace Go.Proofs.Ytjpbfmhfjlbcgaa
open Go.ChangeShapes Go.WideShapes Go.ChangeAt Go.RowKit
set_option linter.unusedVariables false
set_option linter.unusedSimpArgs false
theorem pcycle_no (x y a b c d p : Int) (w : World) (h : rightR x y a b c d p = false) :
    Calls Try.prog 17 #[.agg (rCells x y a b c d p)] w fun e w' => e = .returned (.tuple #[.int .i64 0, .int .i64 0, .bool false]) ∧ Keeps (fun _ => False) w w' := by
  have H := Lib.hid h
  clear h
  go_enter Try.func17, Try.ntmps17
  go_wp2_with fail
  go_step3
  go_wp2_with fail
  refine (pright_any _ _ _ _ _ _ _ _).mono ?_
  rintro e w1 ⟨rfl, k1⟩
  rw [H.out]
  go_wp2
  (try rw [Exit.noGoto_ret])
  exact bodyPost_ret (v := .tuple #[.int .i64 0, .int .i64 0, .bool false]) (by simp [results, Try.results17, go_sem]) rfl ⟨rfl, ((Keeps.refl _ _).alloc _).trans k1⟩
theorem fcycle_no (x y a b c d p : Int) (w : World) (h : rightR x y a b c d p = false) :
    Calls Try.prog 18 #[.agg (rCells x y a b c d p)] w fun e w' => e = .returned (.tuple #[.int .i64 0, .int .i64 0, .bool false]) ∧ Keeps (fun _ => False) w w' := by
  have H := Lib.hid h
  clear h
  go_enter Try.func18, Try.ntmps18
  go_wp2_with fail
  refine (fright_any _ _ _ _ _ _ _ _).mono ?_
  rintro e w1 ⟨rfl, k1⟩
  rw [H.out]
  go_wp2
  exact bodyPost_ret (v := .tuple #[.int .i64 0, .int .i64 0, .bool false]) (by simp [results, Try.results18, go_sem]) rfl ⟨rfl, ((Keeps.refl _ _).alloc _).trans k1⟩
end Go.Proofs.Ytjpbfmhfjlbcgaa
