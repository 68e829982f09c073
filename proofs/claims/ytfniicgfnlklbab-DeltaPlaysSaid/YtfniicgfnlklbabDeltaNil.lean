import Derived.Test.YtfniicgfnlklbabDeltaCopy
namespace Go.Proofs.Ytfniicgfnlklbab
open Go.ChangeShapes Go.WideShapes Go.ChangeAt Go.RowKit
set_option linter.unusedVariables false
theorem nleft (w : World) (t : Int) : Calls Try.prog 14 #[.pointer none, .int .i64 t] w fun e w' => e = .returned (.tuple #[.int .u32 0, .bool false]) ∧ Keeps (fun _ => False) w w' := by
  go_enter Try.func14, Try.ntmps14
  go_wp2_with fail
  try go_step3
  try go_wp2
  try rw [Exit.noGoto_ret]
  try simp only [Exit.jump]
  exact bodyPost_ret (v := .tuple #[.int .u32 0, .bool false]) (by simp [results, Try.results14, go_sem]) rfl ⟨rfl, Keeps.refl _ _⟩
theorem nrem (w : World) (t : Int) : Calls Try.prog 9 #[.pointer none, .int .i64 t] w fun e w' => e = .returned (.tuple #[.int .u32 0, .bool false]) ∧ Keeps (fun _ => False) w w' := by
  go_enter Try.func9, Try.ntmps9
  go_wp2_with fail
  try go_step3
  try go_wp2_with fail
  refine (nleft _ _).mono ?_
  rintro e w1 ⟨rfl, k1⟩
  go_wp2
  try rw [Exit.noGoto_ret]
  try simp only [Exit.jump]
  exact bodyPost_ret (v := .tuple #[.int .u32 0, .bool false]) (by simp [results, Try.results9, go_sem]) rfl ⟨rfl, k1⟩
theorem nadd (w : World) (t x : Int) : Calls Try.prog 7 #[.pointer none, .int .i64 t, .int .u32 x] w fun e w' => e = .returned (.bool false) ∧ Keeps (fun _ => False) w w' := by
  go_enter Try.func7, Try.ntmps7
  go_wp2_with fail
  try go_step3
  try go_wp2_with fail
  refine (nleft _ _).mono ?_
  rintro e w1 ⟨rfl, k1⟩
  go_wp2
  try rw [Exit.noGoto_ret]
  go_ret
  exact ⟨rfl, k1⟩
theorem ntick (w : World) : Calls Try.prog 13 #[.pointer none] w fun e w' => e = .returned (.slice none 0 0) ∧ Keeps (fun _ => False) w w' := by
  go_enter Try.func13, Try.ntmps13
  go_wp2_with fail
  try go_step3
  try go_wp2
  try rw [Exit.noGoto_ret]
  go_ret
  exact ⟨rfl, Keeps.refl _ _⟩
theorem nlist (w : World) : Calls Try.prog 17 #[.pointer none] w fun e w' => e = .returned (.slice none 0 0) ∧ Keeps (fun _ => False) w w' := by
  go_enter Try.func17, Try.ntmps17
  go_wp2_with fail
  try go_step3
  try go_wp2
  try rw [Exit.noGoto_ret]
  go_ret
  exact ⟨rfl, Keeps.refl _ _⟩
theorem nlen (w : World) : Calls Try.prog 16 #[.pointer none] w fun e w' => e = .returned (.int .i64 0) ∧ Keeps (fun _ => False) w w' := by
  go_enter Try.func16, Try.ntmps16
  go_wp2_with fail
  refine (nlist _).mono ?_
  rintro e w1 ⟨rfl, k1⟩
  go_wp2
  go_ret
  exact ⟨rfl, k1⟩
theorem ncopy (w : World) : Calls Try.prog 19 #[.pointer none] w fun e w' => e = .returned (.pointer none) ∧ Keeps (fun _ => False) w w' := by
  go_enter Try.func19, Try.ntmps19
  go_wp2
  try rw [Exit.noGoto_ret]
  go_ret
  exact ⟨rfl, Keeps.refl _ _⟩
end Go.Proofs.Ytfniicgfnlklbab
