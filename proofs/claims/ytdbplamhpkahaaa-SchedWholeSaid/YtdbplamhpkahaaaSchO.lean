import Derived.Test.YtdbplamhpkahaaaSchXz
namespace Go.Proofs.Ytdbplamhpkahaaa
open Go.ChangeShapes Go.WideShapes Go.ChangeAt Go.RowKit
set_option linter.unusedVariables false
set_option linter.unusedSimpArgs false
set_option maxRecDepth 20000 in
set_option maxHeartbeats 2000000 in
theorem nhas (w : World) : Calls Try.prog 82 #[.pointer none, .int .i64 0] w fun e w' => e = .returned (.bool false) ∧ w = w' := by
  go_enter Try.func82, Try.ntmps82
  go_wp2_with fail
  go_ret
  exact ⟨rfl, rfl⟩
set_option maxRecDepth 20000 in
set_option maxHeartbeats 2000000 in
theorem ncur (w : World) : Calls Try.prog 64 #[.pointer none] w fun e w' => e = .returned (.int .i64 (-1)) ∧ w = w' := by
  go_enter Try.func64, Try.ntmps64
  go_wp2_with fail
  go_ret
  exact ⟨rfl, rfl⟩
set_option maxRecDepth 20000 in
set_option maxHeartbeats 2000000 in
theorem ntick (w : World) : Calls Try.prog 54 #[.pointer none] w fun e w' => e = .returned (.slice none 0 0) ∧ w = w' := by
  go_enter Try.func54, Try.ntmps54
  go_wp2_with fail
  try (go_step3; go_wp2_with fail)
  try rw [Exit.noGoto_ret]
  go_ret
  exact ⟨rfl, rfl⟩
set_option maxRecDepth 20000 in
set_option maxHeartbeats 2000000 in
theorem nready (w : World) : Calls Try.prog 58 #[.pointer none] w fun e w' => e = .returned (.slice none 0 0) ∧ w = w' := by
  go_enter Try.func58, Try.ntmps58
  go_wp2_with fail
  go_ret
  exact ⟨rfl, rfl⟩
set_option maxRecDepth 20000 in
set_option maxHeartbeats 2000000 in
theorem nwaits (w : World) : Calls Try.prog 59 #[.pointer none] w fun e w' => e = .returned (.slice none 0 0) ∧ w = w' := by
  go_enter Try.func59, Try.ntmps59
  go_wp2_with fail
  go_ret
  exact ⟨rfl, rfl⟩
set_option maxRecDepth 20000 in
set_option maxHeartbeats 2000000 in
theorem ncopy27 (w : World) : Calls Try.prog 52 #[.pointer none] w fun e w' => e = .returned (.pointer none) ∧ w = w' := by
  go_enter Try.func52, Try.ntmps52
  go_wp2_with fail
  go_ret
  exact ⟨rfl, rfl⟩
set_option maxRecDepth 20000 in
set_option maxHeartbeats 2000000 in
theorem nstate (w : World) : Calls Try.prog 60 #[.pointer none, .int .i64 0] w fun e w' => e = .returned (.int .i64 0) ∧ w = w' := by
  go_enter Try.func60, Try.ntmps60
  go_wp2_with fail
  refine (nhas _).mono ?_
  rintro e w' ⟨rfl, rfl⟩
  go_wp2_with fail
  go_ret
  exact ⟨rfl, rfl⟩
set_option maxRecDepth 20000 in
set_option maxHeartbeats 2000000 in
theorem nbits (w : World) : Calls Try.prog 66 #[.pointer none, .int .i64 0] w fun e w' => e = .returned (.int .u32 0) ∧ w = w' := by
  go_enter Try.func66, Try.ntmps66
  go_wp2_with fail
  refine (nhas _).mono ?_
  rintro e w' ⟨rfl, rfl⟩
  go_wp2_with fail
  go_ret
  exact ⟨rfl, rfl⟩
set_option maxRecDepth 20000 in
set_option maxHeartbeats 2000000 in
theorem nnote (w : World) : Calls Try.prog 55 #[.pointer none, .int .i64 0, .int .u32 1] w fun e w' => e = .returned (.bool false) ∧ w = w' := by
  go_enter Try.func55, Try.ntmps55
  go_wp2_with fail
  refine (nhas _).mono ?_
  rintro e w' ⟨rfl, rfl⟩
  go_wp2_with fail
  go_ret
  exact ⟨rfl, rfl⟩
set_option maxRecDepth 20000 in
set_option maxHeartbeats 2000000 in
theorem nwake (w : World) : Calls Try.prog 56 #[.pointer none, .int .i64 0] w fun e w' => e = .returned (.bool false) ∧ w = w' := by
  go_enter Try.func56, Try.ntmps56
  go_wp2_with fail
  refine (nhas _).mono ?_
  rintro e w' ⟨rfl, rfl⟩
  go_wp2_with fail
  go_ret
  exact ⟨rfl, rfl⟩
set_option maxRecDepth 20000 in
set_option maxHeartbeats 2000000 in
theorem ndue (w : World) : Calls Try.prog 65 #[.pointer none, .int .i64 0] w fun e w' => e = .returned (.bool false) ∧ w = w' := by
  go_enter Try.func65, Try.ntmps65
  go_wp2_with fail
  refine (nhas _).mono ?_
  rintro e w' ⟨rfl, rfl⟩
  go_wp2_with fail
  go_ret
  exact ⟨rfl, rfl⟩
set_option maxRecDepth 20000 in
set_option maxHeartbeats 2000000 in
theorem nleft27 (w : World) : Calls Try.prog 61 #[.pointer none, .int .i64 0] w fun e w' => e = .returned (.tuple #[.int .u32 0, .bool false]) ∧ w = w' := by
  go_enter Try.func61, Try.ntmps61
  go_wp2_with fail
  refine (nhas _).mono ?_
  rintro e w' ⟨rfl, rfl⟩
  go_wp2_with fail
  refine bodyPost_ret (v := .tuple #[.int .u32 0, .bool false]) (by simp [results, Try.results61, go_sem]) rfl ?_
  exact ⟨rfl, rfl⟩
set_option maxRecDepth 20000 in
set_option maxHeartbeats 2000000 in
theorem ndisp (w : World) : Calls Try.prog 57 #[.pointer none] w fun e w' => e = .returned (.tuple #[.int .i64 (-1), .bool false]) ∧ w = w' := by
  go_enter Try.func57, Try.ntmps57
  go_wp2_with fail
  refine bodyPost_ret (v := .tuple #[.int .i64 (-1), .bool false]) (by simp [results, Try.results57, go_sem]) rfl ?_
  exact ⟨rfl, rfl⟩
set_option maxRecDepth 20000 in
set_option maxHeartbeats 2000000 in
theorem ntaken (w : World) : Calls Try.prog 62 #[.pointer none, .int .i64 0] w fun e w' => e = .returned (.tuple #[.agg #[.bool false, .int .u32 0, .int .u32 0], .bool false]) ∧ Keeps (fun _ => False) w w' := by
  go_enter Try.func62, Try.ntmps62
  go_wp2_with fail
  refine (nhas _).mono ?_
  rintro e w' ⟨rfl, rfl⟩
  go_wp2_with fail
  refine bodyPost_ret (v := .tuple #[.agg #[.bool false, .int .u32 0, .int .u32 0], .bool false]) (by simp [results, Try.results62, go_sem]) rfl ?_
  exact ⟨rfl, (Keeps.refl _ w).alloc _⟩
set_option maxRecDepth 20000 in
set_option maxHeartbeats 2000000 in
theorem nnext (w : World) : Calls Try.prog 63 #[.pointer none, .int .i64 0] w fun e w' => e = .returned (.tuple #[.agg #[.int .i64 0, .int .i64 0, .int .i64 0, .int .u32 0], .bool false]) ∧ Keeps (fun _ => False) w w' := by
  go_enter Try.func63, Try.ntmps63
  go_wp2_with fail
  refine bodyPost_ret (v := .tuple #[.agg #[.int .i64 0, .int .i64 0, .int .i64 0, .int .u32 0], .bool false]) (by simp [results, Try.results63, go_sem]) rfl ?_
  exact ⟨rfl, (Keeps.refl _ w).alloc _⟩
set_option maxRecDepth 20000 in
set_option maxHeartbeats 2000000 in
theorem nserve (w : World) : Calls Try.prog 53 #[.pointer none, .agg #[.int .i64 12, .int .i64 0, .int .u32 0, .int .u32 0, .int .u32 0]] w fun e w' => e = .returned (.int .i64 4) ∧ Keeps (fun _ => False) w w' := by
  go_enter Try.func53, Try.ntmps53
  go_wp2_with fail
  go_ret
  exact ⟨rfl, (Keeps.refl _ w).alloc _⟩
theorem copy_none (b : Nat) (st bits : Int) (w : World) (hst : (st == 0) = false) (h : IsTask w b st bits none) :
    Calls Try.prog 42 #[.pointer (some ⟨b, 0, none⟩)] w fun e w' => e = .returned (.pointer (some ⟨w.heap.size, 0, none⟩)) ∧ IsTask w' w.heap.size st bits none ∧ Keeps (fun _ => False) w w' := by
  have HT := Lib.hid h
  obtain ⟨v, hb, rfl⟩ := h
  have hlt := lt_of hb
  have c0 : w.cell? ⟨b, 0, none⟩ = some (.int .i64 st) := cell_of hb 0
  have c1 : w.cell? ⟨b, 1, none⟩ = some (.int .u32 bits) := cell_of hb 1
  have c2 : w.cell? ⟨b, 2, none⟩ = some (.pointer none) := cell_of hb 2
  clear hb
  go_enter Try.func42, Try.ntmps42
  go_wp2_with (go_at_call 47; refine (state_any _ _ _ _ _ HT.out).mono ?_; rintro e w' ⟨rfl, rfl⟩)
  go_ret
  exact ⟨rfl, ⟨_, heap_new _ _, rfl⟩, (Keeps.refl _ _).alloc _⟩
theorem copy_task (b : Nat) (st bits : Int) (ans : Option (Bool × Int × Int)) (w : World) (hst : (st == 0) = false) (h : IsTask w b st bits ans) :
    Calls Try.prog 42 #[.pointer (some ⟨b, 0, none⟩)] w fun e w' => e = .returned (.pointer (some ⟨w.heap.size, 0, none⟩)) ∧ IsTask w' w.heap.size st bits ans ∧ Keeps (fun _ => False) w w' := by
  cases ans with
  | none => exact copy_none b st bits w hst h
  | some v =>
    obtain ⟨x, y, z⟩ := v
    exact copy_some b st bits x y z w hst h
/-- What of a copy is asked for: its cells, its tasks, its rows. -/
structure ScV (w : World) (a : ScA) (M : ScM) : Prop where
  blk : ∃ cs, w.heap[a.s]? = some (.cells cs 123 (0, 0)) ∧ ScCells cs a M
  le : M.many ≤ 16
  task : ∀ t, t < M.many → ∃ v, w.heap[a.tb t]? = some (.cells #[.int .i64 (M.st t), .int .u32 (M.bits t : Int), v] 80 (0, 0))
  rank : RkS w a.rk M.R
end Go.Proofs.Ytdbplamhpkahaaa
