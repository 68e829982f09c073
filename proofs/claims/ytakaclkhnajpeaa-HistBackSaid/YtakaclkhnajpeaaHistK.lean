import Derived.Test.YtakaclkhnajpeaaHistJ
namespace Go.Proofs.Ytakaclkhnajpeaa
open Go.ChangeShapes Go.WideShapes Go.ChangeAt Go.RowKit
set_option linter.unusedVariables false
set_option linter.unusedSimpArgs false
set_option maxRecDepth 100000 in
set_option maxHeartbeats 4000000 in
theorem alive18_any (w : World) : Calls Try.prog 4 #[] w fun e w' => e = .returned (.bool true) ∧ Below w.heap.size w w' := by
  have e0 : opL aliveX = [.int .i64 0, .int .i64 0, .int .i64 1, .int .i64 0, .int .u32 5, .int .u32 0, .int .u32 0, .int .u32 0, .int .u32 0, .int .i64 0, .int .u32 0, .int .u32 0, .int .u32 0, .int .u32 0, .bool true, .int .i64 0, .int .i64 5] := by kernel_rfl
  have HE := Lib.hid e0
  have HR9 := Lib.hid (show (w.alloc (.cells #[.int .i64 0, .int .i64 0, .int .i64 1, .int .i64 0, .int .u32 5, .int .u32 0, .int .u32 0, .int .u32 0, .int .u32 0, .int .i64 0, .int .u32 0, .int .u32 0, .int .u32 0, .int .u32 0, .bool true, .int .i64 0, .int .i64 5] 38)).rangeAt w.heap.size 0 [.int .i64 0, .int .i64 0, .int .i64 1, .int .i64 0, .int .u32 5, .int .u32 0, .int .u32 0, .int .u32 0, .int .u32 0, .int .i64 0, .int .u32 0, .int .u32 0, .int .u32 0, .int .u32 0, .bool true, .int .i64 0, .int .i64 5] from fun j v hv => by
    rw [cell_of (heap_new w (.cells #[.int .i64 0, .int .i64 0, .int .i64 1, .int .i64 0, .int .u32 5, .int .u32 0, .int .u32 0, .int .u32 0, .int .u32 0, .int .i64 0, .int .u32 0, .int .u32 0, .int .u32 0, .int .u32 0, .bool true, .int .i64 0, .int .i64 5] 38)) (0 + j), show 0 + j = j by omega]
    simpa using hv)
  have HA1 := Lib.hid (fun W => arg_one W aliveX aliveX_ok)
  rw [e0] at HA1
  clear e0
  have HA := Lib.hid (show OpsArg ((w.alloc (.cells #[.int .i64 0, .int .i64 0, .int .i64 1, .int .i64 0, .int .u32 5, .int .u32 0, .int .u32 0, .int .u32 0, .int .u32 0, .int .i64 0, .int .u32 0, .int .u32 0, .int .u32 0, .int .u32 0, .bool true, .int .i64 0, .int .i64 5] 38)).alloc (.cells #[.int .i64 0, .int .i64 0, .int .i64 1, .int .i64 0, .int .u32 5, .int .u32 0, .int .u32 0, .int .u32 0, .int .u32 0, .int .i64 0, .int .u32 0, .int .u32 0, .int .u32 0, .int .u32 0, .bool true, .int .i64 0, .int .i64 5] 38)) (some ⟨w.heap.size + 1, 0, none⟩) 1 [aliveX] by
    have h := HA1.out (w.alloc (.cells #[.int .i64 0, .int .i64 0, .int .i64 1, .int .i64 0, .int .u32 5, .int .u32 0, .int .u32 0, .int .u32 0, .int .u32 0, .int .i64 0, .int .u32 0, .int .u32 0, .int .u32 0, .int .u32 0, .bool true, .int .i64 0, .int .i64 5] 38))
    rw [World.size_alloc] at h
    exact h)
  go_enter Try.func4, Try.ntmps4
  go_wp2_with (refine wpList_load_mid rfl 38 _ rfl w.heap.size 0 rfl [.int .i64 0, .int .i64 0, .int .i64 1, .int .i64 0, .int .u32 5, .int .u32 0, .int .u32 0, .int .u32 0, .int .u32 0, .int .i64 0, .int .u32 0, .int .u32 0, .int .u32 0, .int .u32 0, .bool true, .int .i64 0, .int .i64 5] _ HR9.out Try.underlying38 rfl op_info ?_)
  refine (hprint_any _ _ _ _ [aliveX] HA.out (by omega)).mono ?_
  rintro e1 w1 ⟨rfl, b1⟩
  rw [alive_text18]
  have HW1 := Lib.hid (show Below (w.heap.size + 1) (w.alloc (.cells #[.int .i64 0, .int .i64 0, .int .i64 1, .int .i64 0, .int .u32 5, .int .u32 0, .int .u32 0, .int .u32 0, .int .u32 0, .int .i64 0, .int .u32 0, .int .u32 0, .int .u32 0, .int .u32 0, .bool true, .int .i64 0, .int .i64 5] 38)) w1 from ((Below.refl _ _).alloc (by simp) _).trans (b1.mono (by simp)))
  have HR10 := Lib.hid (range_below HR9.out HW1.out (by omega))
  have HB1 := Lib.hid (show Below w.heap.size w w1 from ((Below.refl _ w).alloc (Nat.le_refl _) _).trans (HW1.out.mono (by omega)))
  clear b1
  have d0 : w1.cell? ⟨w.heap.size, 0, none⟩ = some (.int .i64 0) := HR10.out 0 _ rfl
  have d1 : w1.cell? ⟨w.heap.size, 1, none⟩ = some (.int .i64 0) := HR10.out 1 _ rfl
  have d2 : w1.cell? ⟨w.heap.size, 2, none⟩ = some (.int .i64 1) := HR10.out 2 _ rfl
  have d3 : w1.cell? ⟨w.heap.size, 3, none⟩ = some (.int .i64 0) := HR10.out 3 _ rfl
  have d4 : w1.cell? ⟨w.heap.size, 4, none⟩ = some (.int .u32 5) := HR10.out 4 _ rfl
  have d5 : w1.cell? ⟨w.heap.size, 5, none⟩ = some (.int .u32 0) := HR10.out 5 _ rfl
  have d6 : w1.cell? ⟨w.heap.size, 6, none⟩ = some (.int .u32 0) := HR10.out 6 _ rfl
  have d7 : w1.cell? ⟨w.heap.size, 7, none⟩ = some (.int .u32 0) := HR10.out 7 _ rfl
  have d8 : w1.cell? ⟨w.heap.size, 8, none⟩ = some (.int .u32 0) := HR10.out 8 _ rfl
  have d9 : w1.cell? ⟨w.heap.size, 9, none⟩ = some (.int .i64 0) := HR10.out 9 _ rfl
  have d10 : w1.cell? ⟨w.heap.size, 10, none⟩ = some (.int .u32 0) := HR10.out 10 _ rfl
  have d11 : w1.cell? ⟨w.heap.size, 11, none⟩ = some (.int .u32 0) := HR10.out 11 _ rfl
  have d12 : w1.cell? ⟨w.heap.size, 12, none⟩ = some (.int .u32 0) := HR10.out 12 _ rfl
  have d13 : w1.cell? ⟨w.heap.size, 13, none⟩ = some (.int .u32 0) := HR10.out 13 _ rfl
  have d14 : w1.cell? ⟨w.heap.size, 14, none⟩ = some (.bool true) := HR10.out 14 _ rfl
  have d15 : w1.cell? ⟨w.heap.size, 15, none⟩ = some (.int .i64 0) := HR10.out 15 _ rfl
  have d16 : w1.cell? ⟨w.heap.size, 16, none⟩ = some (.int .i64 5) := HR10.out 16 _ rfl
  go_wp2_with fail
  clear d0 d1 d2 d3 d4 d5 d6 d7 d8 d9 d10 d11 d12 d13 d14 d15 d16
  refine (hright_any _ _ _ _ [aliveX] (HA1.out w1) (by omega)).mono ?_
  rintro e2 w2 ⟨rfl, b2⟩
  rw [alive_right18]
  have HB2 := Lib.hid (HB1.out.trans ((((Below.refl _ w1).alloc (Nat.le_refl _) _).trans (b2.mono (by simp))).mono HB1.out.size))
  clear b2
  go_wp2_with fail
  go_ret
  exact ⟨rfl, HB2.out⟩
end Go.Proofs.Ytakaclkhnajpeaa
