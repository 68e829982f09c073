import Derived.Test.YtlpnobpgphmngaaGaussDiv
namespace Go.Proofs.Ytlpnobpgphmngaa
open Go.ChangeShapes Go.WideShapes Go.ChangeAt Go.RowKit
set_option linter.unusedVariables false
theorem gmul_point (w : World) :
    Calls Try.prog 33 #[.agg #[.int .i64 1, .int .i64 2], .agg #[.int .i64 3, .int .i64 (-1)]] w fun e w' => e = .returned (.tuple #[.agg #[.int .i64 5, .int .i64 5], .bool true]) ∧ Keeps (fun _ => False) w w' := by
  refine (gmul_any 1 2 3 (-1) w).mono ?_
  rintro e w' ⟨rfl, k⟩
  exact ⟨rfl, k⟩
theorem gdiv_point (w : World) :
    Calls Try.prog 46 #[.agg #[.int .i64 5, .int .i64 3], .agg #[.int .i64 2, .int .i64 1]] w fun e w' => e = .returned (.tuple #[.agg #[.int .i64 3, .int .i64 0], .agg #[.int .i64 (-1), .int .i64 0], .bool true]) ∧ Keeps (fun _ => False) w w' :=
  gdiv_of 5 3 2 1 5 13 1 3 0 (-1) 0 w (by decide) (by decide) (by decide) (by decide) (by decide) (by decide) (by decide) (by decide) (by decide) (by decide) (by decide) (by decide) (by decide) (by decide) (by decide) (by decide) (by decide) (by decide) (by decide)
set_option maxHeartbeats 1000000 in
theorem alive04_any (w : World) :
    Calls Try.prog 30 #[] w fun e w' => e = .returned (.bool true) ∧ Keeps (fun _ => False) w w' := by
  go_enter Try.func30, Try.ntmps30
  go_wp2_with fail
  refine (gmul_point _).mono ?_
  rintro e w1 ⟨rfl, k1⟩
  go_wp2_with fail
  refine (gdiv_point _).mono ?_
  rintro e w2 ⟨rfl, k2⟩
  have K := Lib.hid ((k1.alloc (.cells #[.int .i64 5, .int .i64 5] 55)).trans k2)
  obtain ⟨h1, _, _, _, l1⟩ := two_cells (k2.at (heap_new w1 (.cells #[.int .i64 5, .int .i64 5] 55)) fun h => h)
  obtain ⟨h2, _⟩ := (two_cells (k2.at (heap_new w1 (.cells #[.int .i64 5, .int .i64 5] 55)) fun h => h)).2
  clear k1 k2
  go_wp2
  go_ret
  exact ⟨rfl, (K.out.alloc _).alloc _⟩
end Go.Proofs.Ytlpnobpgphmngaa
