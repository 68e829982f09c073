import Derived.Test.YtdnppkihpddlhaaBdH
namespace Go.Proofs.Ytdnppkihpddlhaa
open Go.ChangeShapes Go.WideShapes Go.ChangeAt Go.RowKit
set_option linter.unusedVariables false
set_option linter.unusedSimpArgs false
/-- A frame that has grown: what changed since was in the frame, or new. -/
theorem Keeps.own {S T : Nat → Prop} {a b c : World} (h : Keeps S a b) (k : Keeps T b c) (hT : ∀ X, T X → S X ∨ a.heap.size ≤ X) : Keeps S a c :=
  ⟨k.os.trans h.os, k.tape.trans h.tape, k.output.trans h.output, Nat.le_trans h.size k.size, fun i hi hs => (k.block i (Nat.lt_of_lt_of_le hi h.size) fun hh => by rcases hT i hh with h1 | h1; exact hs h1; omega).trans (h.block i hi hs)⟩
set_option maxHeartbeats 4000000 in
theorem push_act (w : World) (b : Nat) (st f : Int) (h : StAt w b 15 st f) (hst : st ≠ 0) :
    Calls Try.prog 67 #[.pointer (some ⟨b, 0, none⟩)] w (ActQ w (busyP 5 st)) := by
  have k0 := (Keeps.refl (fun _ => False) w).alloc (.cells #[.int .i64 0, .int .i64 0, .int .u32 0] 43)
  have HN := Lib.hid (heap_new w (.cells #[.int .i64 0, .int .i64 0, .int .u32 0] 43))
  have HC := Lib.hid (rg_act _ b st f (h.none k0))
  have HK := Lib.hid k0
  have hpn : ∀ (b : Nat) w, (binOp .eql 64 (.pointer (some ⟨b, 0, none⟩)) (.pointer none)).run Try.prog w = .ok (.bool false) w := fun b w => by kernel_rfl
  clear k0 h hst
  generalize (busyP 5 st) = bl at *
  go_enter Try.func67, Try.ntmps67
  go_wp2_with fail
  refine HC.out.mono ?_
  rintro e1 w1 ⟨⟨o1, o2, o3, rfl⟩, k1⟩
  have HN1 := Lib.hid (k1.at HN.out fun h => h)
  have HK1 := Lib.hid (HK.out.trans k1)
  clear k1 HC hpn
  generalize hN0 : w.heap.size = N0 at *
  have HN0 := Lib.hid hN0
  have n0 : w1.cell? ⟨N0, 0, none⟩ = some (.int .i64 0) := cell_of HN1.out 0
  have m0 := free_of HN1.out 0
  have n1 : w1.cell? ⟨N0, 1, none⟩ = some (.int .i64 0) := cell_of HN1.out 1
  have m1 := free_of HN1.out 1
  have n2 : w1.cell? ⟨N0, 2, none⟩ = some (.int .u32 0) := cell_of HN1.out 2
  have m2 := free_of HN1.out 2
  have ln := lt_of HN1.out
  clear hN0
  go_wp2_with fail
  have HF := Lib.hid (And.intro (setsL_heap [(0, .int .i64 o1), (1, .int .i64 o2), (2, .int .u32 o3)] HN1.out) ((HK1.out.own (setsL_keep [(0, .int .i64 o1), (1, .int .i64 o2), (2, .int .u32 o3)] w1 N0) fun X hX => .inr (by rw [hX, ← HN0.out]; exact Nat.le_refl _))))
  refine bodyPost_ret (v := .tuple #[.agg #[.int .i64 o1, .int .i64 o2, .int .u32 o3], .bool bl]) (res_act _ Try.results67 (setsL w1 N0 [(0, .int .i64 o1), (1, .int .i64 o2), (2, .int .u32 o3)]) _ N0 o1 o2 o3 _ rfl rfl HF.out.1) rfl ⟨⟨o1, o2, o3, rfl⟩, HF.out.2⟩
set_option maxHeartbeats 4000000 in
theorem push_result (w : World) (b : Nat) (st f : Int) (h : StAt w b 15 st f) (hst : st ≠ 0) :
    Calls Try.prog 68 #[.pointer (some ⟨b, 0, none⟩)] w (ResQ w f (st == 5)) := by
  have k0 := (Keeps.refl (fun _ => False) w).alloc (.cells #[.int .i64 0, .int .u32 0, .int .u32 0, .int .u32 0, .int .u32 0] 48)
  have HN := Lib.hid (heap_new w (.cells #[.int .i64 0, .int .u32 0, .int .u32 0, .int .u32 0, .int .u32 0] 48))
  have HC := Lib.hid (rg_result _ b st f (h.none k0))
  have HK := Lib.hid k0
  have hpn : ∀ (b : Nat) w, (binOp .eql 64 (.pointer (some ⟨b, 0, none⟩)) (.pointer none)).run Try.prog w = .ok (.bool false) w := fun b w => by kernel_rfl
  clear k0 h hst
  generalize (st == 5) = bl at *
  go_enter Try.func68, Try.ntmps68
  go_wp2_with fail
  refine HC.out.mono ?_
  rintro e1 w1 ⟨⟨v0, v1, v2, v3, rfl⟩, k1⟩
  have HN1 := Lib.hid (k1.at HN.out fun h => h)
  have HK1 := Lib.hid (HK.out.trans k1)
  clear k1 HC hpn
  generalize hN0 : w.heap.size = N0 at *
  have HN0 := Lib.hid hN0
  have n0 : w1.cell? ⟨N0, 0, none⟩ = some (.int .i64 0) := cell_of HN1.out 0
  have m0 := free_of HN1.out 0
  have n1 : w1.cell? ⟨N0, 1, none⟩ = some (.int .u32 0) := cell_of HN1.out 1
  have m1 := free_of HN1.out 1
  have n2 : w1.cell? ⟨N0, 2, none⟩ = some (.int .u32 0) := cell_of HN1.out 2
  have m2 := free_of HN1.out 2
  have n3 : w1.cell? ⟨N0, 3, none⟩ = some (.int .u32 0) := cell_of HN1.out 3
  have m3 := free_of HN1.out 3
  have n4 : w1.cell? ⟨N0, 4, none⟩ = some (.int .u32 0) := cell_of HN1.out 4
  have m4 := free_of HN1.out 4
  have ln := lt_of HN1.out
  clear hN0
  go_wp2_with fail
  have HF := Lib.hid (And.intro (setsL_heap [(0, .int .i64 f), (1, .int .u32 v0), (2, .int .u32 v1), (3, .int .u32 v2), (4, .int .u32 v3)] HN1.out) ((HK1.out.own (setsL_keep [(0, .int .i64 f), (1, .int .u32 v0), (2, .int .u32 v1), (3, .int .u32 v2), (4, .int .u32 v3)] w1 N0) fun X hX => .inr (by rw [hX, ← HN0.out]; exact Nat.le_refl _))))
  refine bodyPost_ret (v := .tuple #[.agg #[.int .i64 f, .int .u32 v0, .int .u32 v1, .int .u32 v2, .int .u32 v3], .bool bl]) (res_res _ Try.results68 (setsL w1 N0 [(0, .int .i64 f), (1, .int .u32 v0), (2, .int .u32 v1), (3, .int .u32 v2), (4, .int .u32 v3)]) _ N0 f v0 v1 v2 v3 _ rfl rfl HF.out.1) rfl ⟨⟨v0, v1, v2, v3, rfl⟩, HF.out.2⟩
set_option maxHeartbeats 4000000 in
theorem pop_act (w : World) (b : Nat) (st f : Int) (h : StAt w b 15 st f) (hst : st ≠ 0) :
    Calls Try.prog 79 #[.pointer (some ⟨b, 0, none⟩)] w (ActQ w (busyP 5 st)) := by
  have k0 := (Keeps.refl (fun _ => False) w).alloc (.cells #[.int .i64 0, .int .i64 0, .int .u32 0] 43)
  have HN := Lib.hid (heap_new w (.cells #[.int .i64 0, .int .i64 0, .int .u32 0] 43))
  have HC := Lib.hid (rg_act _ b st f (h.none k0))
  have HK := Lib.hid k0
  have hpn : ∀ (b : Nat) w, (binOp .eql 66 (.pointer (some ⟨b, 0, none⟩)) (.pointer none)).run Try.prog w = .ok (.bool false) w := fun b w => by kernel_rfl
  clear k0 h hst
  generalize (busyP 5 st) = bl at *
  go_enter Try.func79, Try.ntmps79
  go_wp2_with fail
  refine HC.out.mono ?_
  rintro e1 w1 ⟨⟨o1, o2, o3, rfl⟩, k1⟩
  have HN1 := Lib.hid (k1.at HN.out fun h => h)
  have HK1 := Lib.hid (HK.out.trans k1)
  clear k1 HC hpn
  generalize hN0 : w.heap.size = N0 at *
  have HN0 := Lib.hid hN0
  have n0 : w1.cell? ⟨N0, 0, none⟩ = some (.int .i64 0) := cell_of HN1.out 0
  have m0 := free_of HN1.out 0
  have n1 : w1.cell? ⟨N0, 1, none⟩ = some (.int .i64 0) := cell_of HN1.out 1
  have m1 := free_of HN1.out 1
  have n2 : w1.cell? ⟨N0, 2, none⟩ = some (.int .u32 0) := cell_of HN1.out 2
  have m2 := free_of HN1.out 2
  have ln := lt_of HN1.out
  clear hN0
  go_wp2_with fail
  have HF := Lib.hid (And.intro (setsL_heap [(0, .int .i64 o1), (1, .int .i64 o2), (2, .int .u32 o3)] HN1.out) ((HK1.out.own (setsL_keep [(0, .int .i64 o1), (1, .int .i64 o2), (2, .int .u32 o3)] w1 N0) fun X hX => .inr (by rw [hX, ← HN0.out]; exact Nat.le_refl _))))
  refine bodyPost_ret (v := .tuple #[.agg #[.int .i64 o1, .int .i64 o2, .int .u32 o3], .bool bl]) (res_act _ Try.results79 (setsL w1 N0 [(0, .int .i64 o1), (1, .int .i64 o2), (2, .int .u32 o3)]) _ N0 o1 o2 o3 _ rfl rfl HF.out.1) rfl ⟨⟨o1, o2, o3, rfl⟩, HF.out.2⟩
set_option maxHeartbeats 4000000 in
theorem pop_result (w : World) (b : Nat) (st f : Int) (h : StAt w b 15 st f) (hst : st ≠ 0) :
    Calls Try.prog 80 #[.pointer (some ⟨b, 0, none⟩)] w (ResQ w f (st == 5)) := by
  have k0 := (Keeps.refl (fun _ => False) w).alloc (.cells #[.int .i64 0, .int .u32 0, .int .u32 0, .int .u32 0, .int .u32 0] 48)
  have HN := Lib.hid (heap_new w (.cells #[.int .i64 0, .int .u32 0, .int .u32 0, .int .u32 0, .int .u32 0] 48))
  have HC := Lib.hid (rg_result _ b st f (h.none k0))
  have HK := Lib.hid k0
  have hpn : ∀ (b : Nat) w, (binOp .eql 66 (.pointer (some ⟨b, 0, none⟩)) (.pointer none)).run Try.prog w = .ok (.bool false) w := fun b w => by kernel_rfl
  clear k0 h hst
  generalize (st == 5) = bl at *
  go_enter Try.func80, Try.ntmps80
  go_wp2_with fail
  refine HC.out.mono ?_
  rintro e1 w1 ⟨⟨v0, v1, v2, v3, rfl⟩, k1⟩
  have HN1 := Lib.hid (k1.at HN.out fun h => h)
  have HK1 := Lib.hid (HK.out.trans k1)
  clear k1 HC hpn
  generalize hN0 : w.heap.size = N0 at *
  have HN0 := Lib.hid hN0
  have n0 : w1.cell? ⟨N0, 0, none⟩ = some (.int .i64 0) := cell_of HN1.out 0
  have m0 := free_of HN1.out 0
  have n1 : w1.cell? ⟨N0, 1, none⟩ = some (.int .u32 0) := cell_of HN1.out 1
  have m1 := free_of HN1.out 1
  have n2 : w1.cell? ⟨N0, 2, none⟩ = some (.int .u32 0) := cell_of HN1.out 2
  have m2 := free_of HN1.out 2
  have n3 : w1.cell? ⟨N0, 3, none⟩ = some (.int .u32 0) := cell_of HN1.out 3
  have m3 := free_of HN1.out 3
  have n4 : w1.cell? ⟨N0, 4, none⟩ = some (.int .u32 0) := cell_of HN1.out 4
  have m4 := free_of HN1.out 4
  have ln := lt_of HN1.out
  clear hN0
  go_wp2_with fail
  have HF := Lib.hid (And.intro (setsL_heap [(0, .int .i64 f), (1, .int .u32 v0), (2, .int .u32 v1), (3, .int .u32 v2), (4, .int .u32 v3)] HN1.out) ((HK1.out.own (setsL_keep [(0, .int .i64 f), (1, .int .u32 v0), (2, .int .u32 v1), (3, .int .u32 v2), (4, .int .u32 v3)] w1 N0) fun X hX => .inr (by rw [hX, ← HN0.out]; exact Nat.le_refl _))))
  refine bodyPost_ret (v := .tuple #[.agg #[.int .i64 f, .int .u32 v0, .int .u32 v1, .int .u32 v2, .int .u32 v3], .bool bl]) (res_res _ Try.results80 (setsL w1 N0 [(0, .int .i64 f), (1, .int .u32 v0), (2, .int .u32 v1), (3, .int .u32 v2), (4, .int .u32 v3)]) _ N0 f v0 v1 v2 v3 _ rfl rfl HF.out.1) rfl ⟨⟨v0, v1, v2, v3, rfl⟩, HF.out.2⟩
set_option maxHeartbeats 4000000 in
theorem fwrite_act (w : World) (b : Nat) (st f : Int) (h : StAt w b 16 st f) (hst : st ≠ 0) :
    Calls Try.prog 82 #[.pointer (some ⟨b, 0, none⟩)] w (ActQ w (busyP 7 st)) := by
  have k0 := (Keeps.refl (fun _ => False) w).alloc (.cells #[.int .i64 0, .int .i64 0, .int .u32 0] 43)
  have HN := Lib.hid (heap_new w (.cells #[.int .i64 0, .int .i64 0, .int .u32 0] 43))
  have HC := Lib.hid (fo_act _ b st f (h.none k0) hst)
  have HK := Lib.hid k0
  have hpn : ∀ (b : Nat) w, (binOp .eql 68 (.pointer (some ⟨b, 0, none⟩)) (.pointer none)).run Try.prog w = .ok (.bool false) w := fun b w => by kernel_rfl
  clear k0 h hst
  generalize (busyP 7 st) = bl at *
  go_enter Try.func82, Try.ntmps82
  go_wp2_with fail
  refine HC.out.mono ?_
  rintro e1 w1 ⟨⟨o1, o2, o3, rfl⟩, k1⟩
  have HN1 := Lib.hid (k1.at HN.out fun h => h)
  have HK1 := Lib.hid (HK.out.trans k1)
  clear k1 HC hpn
  generalize hN0 : w.heap.size = N0 at *
  have HN0 := Lib.hid hN0
  have n0 : w1.cell? ⟨N0, 0, none⟩ = some (.int .i64 0) := cell_of HN1.out 0
  have m0 := free_of HN1.out 0
  have n1 : w1.cell? ⟨N0, 1, none⟩ = some (.int .i64 0) := cell_of HN1.out 1
  have m1 := free_of HN1.out 1
  have n2 : w1.cell? ⟨N0, 2, none⟩ = some (.int .u32 0) := cell_of HN1.out 2
  have m2 := free_of HN1.out 2
  have ln := lt_of HN1.out
  clear hN0
  go_wp2_with fail
  have HF := Lib.hid (And.intro (setsL_heap [(0, .int .i64 o1), (1, .int .i64 o2), (2, .int .u32 o3)] HN1.out) ((HK1.out.own (setsL_keep [(0, .int .i64 o1), (1, .int .i64 o2), (2, .int .u32 o3)] w1 N0) fun X hX => .inr (by rw [hX, ← HN0.out]; exact Nat.le_refl _))))
  refine bodyPost_ret (v := .tuple #[.agg #[.int .i64 o1, .int .i64 o2, .int .u32 o3], .bool bl]) (res_act _ Try.results82 (setsL w1 N0 [(0, .int .i64 o1), (1, .int .i64 o2), (2, .int .u32 o3)]) _ N0 o1 o2 o3 _ rfl rfl HF.out.1) rfl ⟨⟨o1, o2, o3, rfl⟩, HF.out.2⟩
set_option maxHeartbeats 4000000 in
theorem fwrite_result (w : World) (b : Nat) (st f : Int) (h : StAt w b 16 st f) (hst : st ≠ 0) :
    Calls Try.prog 83 #[.pointer (some ⟨b, 0, none⟩)] w (ResQ w f (st == 7)) := by
  have k0 := (Keeps.refl (fun _ => False) w).alloc (.cells #[.int .i64 0, .int .u32 0, .int .u32 0, .int .u32 0, .int .u32 0] 48)
  have HN := Lib.hid (heap_new w (.cells #[.int .i64 0, .int .u32 0, .int .u32 0, .int .u32 0, .int .u32 0] 48))
  have HC := Lib.hid (fo_result _ b st f (h.none k0))
  have HK := Lib.hid k0
  have hpn : ∀ (b : Nat) w, (binOp .eql 68 (.pointer (some ⟨b, 0, none⟩)) (.pointer none)).run Try.prog w = .ok (.bool false) w := fun b w => by kernel_rfl
  clear k0 h hst
  generalize (st == 7) = bl at *
  go_enter Try.func83, Try.ntmps83
  go_wp2_with fail
  refine HC.out.mono ?_
  rintro e1 w1 ⟨⟨v0, v1, v2, v3, rfl⟩, k1⟩
  have HN1 := Lib.hid (k1.at HN.out fun h => h)
  have HK1 := Lib.hid (HK.out.trans k1)
  clear k1 HC hpn
  generalize hN0 : w.heap.size = N0 at *
  have HN0 := Lib.hid hN0
  have n0 : w1.cell? ⟨N0, 0, none⟩ = some (.int .i64 0) := cell_of HN1.out 0
  have m0 := free_of HN1.out 0
  have n1 : w1.cell? ⟨N0, 1, none⟩ = some (.int .u32 0) := cell_of HN1.out 1
  have m1 := free_of HN1.out 1
  have n2 : w1.cell? ⟨N0, 2, none⟩ = some (.int .u32 0) := cell_of HN1.out 2
  have m2 := free_of HN1.out 2
  have n3 : w1.cell? ⟨N0, 3, none⟩ = some (.int .u32 0) := cell_of HN1.out 3
  have m3 := free_of HN1.out 3
  have n4 : w1.cell? ⟨N0, 4, none⟩ = some (.int .u32 0) := cell_of HN1.out 4
  have m4 := free_of HN1.out 4
  have ln := lt_of HN1.out
  clear hN0
  go_wp2_with fail
  have HF := Lib.hid (And.intro (setsL_heap [(0, .int .i64 f), (1, .int .u32 v0), (2, .int .u32 v1), (3, .int .u32 v2), (4, .int .u32 v3)] HN1.out) ((HK1.out.own (setsL_keep [(0, .int .i64 f), (1, .int .u32 v0), (2, .int .u32 v1), (3, .int .u32 v2), (4, .int .u32 v3)] w1 N0) fun X hX => .inr (by rw [hX, ← HN0.out]; exact Nat.le_refl _))))
  refine bodyPost_ret (v := .tuple #[.agg #[.int .i64 f, .int .u32 v0, .int .u32 v1, .int .u32 v2, .int .u32 v3], .bool bl]) (res_res _ Try.results83 (setsL w1 N0 [(0, .int .i64 f), (1, .int .u32 v0), (2, .int .u32 v1), (3, .int .u32 v2), (4, .int .u32 v3)]) _ N0 f v0 v1 v2 v3 _ rfl rfl HF.out.1) rfl ⟨⟨v0, v1, v2, v3, rfl⟩, HF.out.2⟩
set_option maxHeartbeats 4000000 in
theorem fread_act (w : World) (b : Nat) (st f : Int) (h : StAt w b 16 st f) (hst : st ≠ 0) :
    Calls Try.prog 90 #[.pointer (some ⟨b, 0, none⟩)] w (ActQ w (busyP 7 st)) := by
  have k0 := (Keeps.refl (fun _ => False) w).alloc (.cells #[.int .i64 0, .int .i64 0, .int .u32 0] 43)
  have HN := Lib.hid (heap_new w (.cells #[.int .i64 0, .int .i64 0, .int .u32 0] 43))
  have HC := Lib.hid (fo_act _ b st f (h.none k0) hst)
  have HK := Lib.hid k0
  have hpn : ∀ (b : Nat) w, (binOp .eql 70 (.pointer (some ⟨b, 0, none⟩)) (.pointer none)).run Try.prog w = .ok (.bool false) w := fun b w => by kernel_rfl
  clear k0 h hst
  generalize (busyP 7 st) = bl at *
  go_enter Try.func90, Try.ntmps90
  go_wp2_with fail
  refine HC.out.mono ?_
  rintro e1 w1 ⟨⟨o1, o2, o3, rfl⟩, k1⟩
  have HN1 := Lib.hid (k1.at HN.out fun h => h)
  have HK1 := Lib.hid (HK.out.trans k1)
  clear k1 HC hpn
  generalize hN0 : w.heap.size = N0 at *
  have HN0 := Lib.hid hN0
  have n0 : w1.cell? ⟨N0, 0, none⟩ = some (.int .i64 0) := cell_of HN1.out 0
  have m0 := free_of HN1.out 0
  have n1 : w1.cell? ⟨N0, 1, none⟩ = some (.int .i64 0) := cell_of HN1.out 1
  have m1 := free_of HN1.out 1
  have n2 : w1.cell? ⟨N0, 2, none⟩ = some (.int .u32 0) := cell_of HN1.out 2
  have m2 := free_of HN1.out 2
  have ln := lt_of HN1.out
  clear hN0
  go_wp2_with fail
  have HF := Lib.hid (And.intro (setsL_heap [(0, .int .i64 o1), (1, .int .i64 o2), (2, .int .u32 o3)] HN1.out) ((HK1.out.own (setsL_keep [(0, .int .i64 o1), (1, .int .i64 o2), (2, .int .u32 o3)] w1 N0) fun X hX => .inr (by rw [hX, ← HN0.out]; exact Nat.le_refl _))))
  refine bodyPost_ret (v := .tuple #[.agg #[.int .i64 o1, .int .i64 o2, .int .u32 o3], .bool bl]) (res_act _ Try.results90 (setsL w1 N0 [(0, .int .i64 o1), (1, .int .i64 o2), (2, .int .u32 o3)]) _ N0 o1 o2 o3 _ rfl rfl HF.out.1) rfl ⟨⟨o1, o2, o3, rfl⟩, HF.out.2⟩
set_option maxHeartbeats 4000000 in
theorem fread_result (w : World) (b : Nat) (st f : Int) (h : StAt w b 16 st f) (hst : st ≠ 0) :
    Calls Try.prog 91 #[.pointer (some ⟨b, 0, none⟩)] w (ResQ w f (st == 7)) := by
  have k0 := (Keeps.refl (fun _ => False) w).alloc (.cells #[.int .i64 0, .int .u32 0, .int .u32 0, .int .u32 0, .int .u32 0] 48)
  have HN := Lib.hid (heap_new w (.cells #[.int .i64 0, .int .u32 0, .int .u32 0, .int .u32 0, .int .u32 0] 48))
  have HC := Lib.hid (fo_result _ b st f (h.none k0))
  have HK := Lib.hid k0
  have hpn : ∀ (b : Nat) w, (binOp .eql 70 (.pointer (some ⟨b, 0, none⟩)) (.pointer none)).run Try.prog w = .ok (.bool false) w := fun b w => by kernel_rfl
  clear k0 h hst
  generalize (st == 7) = bl at *
  go_enter Try.func91, Try.ntmps91
  go_wp2_with fail
  refine HC.out.mono ?_
  rintro e1 w1 ⟨⟨v0, v1, v2, v3, rfl⟩, k1⟩
  have HN1 := Lib.hid (k1.at HN.out fun h => h)
  have HK1 := Lib.hid (HK.out.trans k1)
  clear k1 HC hpn
  generalize hN0 : w.heap.size = N0 at *
  have HN0 := Lib.hid hN0
  have n0 : w1.cell? ⟨N0, 0, none⟩ = some (.int .i64 0) := cell_of HN1.out 0
  have m0 := free_of HN1.out 0
  have n1 : w1.cell? ⟨N0, 1, none⟩ = some (.int .u32 0) := cell_of HN1.out 1
  have m1 := free_of HN1.out 1
  have n2 : w1.cell? ⟨N0, 2, none⟩ = some (.int .u32 0) := cell_of HN1.out 2
  have m2 := free_of HN1.out 2
  have n3 : w1.cell? ⟨N0, 3, none⟩ = some (.int .u32 0) := cell_of HN1.out 3
  have m3 := free_of HN1.out 3
  have n4 : w1.cell? ⟨N0, 4, none⟩ = some (.int .u32 0) := cell_of HN1.out 4
  have m4 := free_of HN1.out 4
  have ln := lt_of HN1.out
  clear hN0
  go_wp2_with fail
  have HF := Lib.hid (And.intro (setsL_heap [(0, .int .i64 f), (1, .int .u32 v0), (2, .int .u32 v1), (3, .int .u32 v2), (4, .int .u32 v3)] HN1.out) ((HK1.out.own (setsL_keep [(0, .int .i64 f), (1, .int .u32 v0), (2, .int .u32 v1), (3, .int .u32 v2), (4, .int .u32 v3)] w1 N0) fun X hX => .inr (by rw [hX, ← HN0.out]; exact Nat.le_refl _))))
  refine bodyPost_ret (v := .tuple #[.agg #[.int .i64 f, .int .u32 v0, .int .u32 v1, .int .u32 v2, .int .u32 v3], .bool bl]) (res_res _ Try.results91 (setsL w1 N0 [(0, .int .i64 f), (1, .int .u32 v0), (2, .int .u32 v1), (3, .int .u32 v2), (4, .int .u32 v3)]) _ N0 f v0 v1 v2 v3 _ rfl rfl HF.out.1) rfl ⟨⟨v0, v1, v2, v3, rfl⟩, HF.out.2⟩
set_option maxHeartbeats 4000000 in
theorem lwrite_act (w : World) (b : Nat) (st f : Int) (h : StAt w b 15 st f) (hst : st ≠ 0) :
    Calls Try.prog 93 #[.pointer (some ⟨b, 0, none⟩)] w (ActQ w (busyP 5 st)) := by
  have k0 := (Keeps.refl (fun _ => False) w).alloc (.cells #[.int .i64 0, .int .i64 0, .int .u32 0] 43)
  have HN := Lib.hid (heap_new w (.cells #[.int .i64 0, .int .i64 0, .int .u32 0] 43))
  have HC := Lib.hid (lk_act _ b st f (h.none k0) hst)
  have HK := Lib.hid k0
  have hpn : ∀ (b : Nat) w, (binOp .eql 72 (.pointer (some ⟨b, 0, none⟩)) (.pointer none)).run Try.prog w = .ok (.bool false) w := fun b w => by kernel_rfl
  clear k0 h hst
  generalize (busyP 5 st) = bl at *
  go_enter Try.func93, Try.ntmps93
  go_wp2_with fail
  refine HC.out.mono ?_
  rintro e1 w1 ⟨⟨o1, o2, o3, rfl⟩, k1⟩
  have HN1 := Lib.hid (k1.at HN.out fun h => h)
  have HK1 := Lib.hid (HK.out.trans k1)
  clear k1 HC hpn
  generalize hN0 : w.heap.size = N0 at *
  have HN0 := Lib.hid hN0
  have n0 : w1.cell? ⟨N0, 0, none⟩ = some (.int .i64 0) := cell_of HN1.out 0
  have m0 := free_of HN1.out 0
  have n1 : w1.cell? ⟨N0, 1, none⟩ = some (.int .i64 0) := cell_of HN1.out 1
  have m1 := free_of HN1.out 1
  have n2 : w1.cell? ⟨N0, 2, none⟩ = some (.int .u32 0) := cell_of HN1.out 2
  have m2 := free_of HN1.out 2
  have ln := lt_of HN1.out
  clear hN0
  go_wp2_with fail
  have HF := Lib.hid (And.intro (setsL_heap [(0, .int .i64 o1), (1, .int .i64 o2), (2, .int .u32 o3)] HN1.out) ((HK1.out.own (setsL_keep [(0, .int .i64 o1), (1, .int .i64 o2), (2, .int .u32 o3)] w1 N0) fun X hX => .inr (by rw [hX, ← HN0.out]; exact Nat.le_refl _))))
  refine bodyPost_ret (v := .tuple #[.agg #[.int .i64 o1, .int .i64 o2, .int .u32 o3], .bool bl]) (res_act _ Try.results93 (setsL w1 N0 [(0, .int .i64 o1), (1, .int .i64 o2), (2, .int .u32 o3)]) _ N0 o1 o2 o3 _ rfl rfl HF.out.1) rfl ⟨⟨o1, o2, o3, rfl⟩, HF.out.2⟩
set_option maxHeartbeats 4000000 in
theorem lwrite_result (w : World) (b : Nat) (st f : Int) (h : StAt w b 15 st f) (hst : st ≠ 0) :
    Calls Try.prog 94 #[.pointer (some ⟨b, 0, none⟩)] w (ResQ w f (st == 5)) := by
  have k0 := (Keeps.refl (fun _ => False) w).alloc (.cells #[.int .i64 0, .int .u32 0, .int .u32 0, .int .u32 0, .int .u32 0] 48)
  have HN := Lib.hid (heap_new w (.cells #[.int .i64 0, .int .u32 0, .int .u32 0, .int .u32 0, .int .u32 0] 48))
  have HC := Lib.hid (lk_result _ b st f (h.none k0))
  have HK := Lib.hid k0
  have hpn : ∀ (b : Nat) w, (binOp .eql 72 (.pointer (some ⟨b, 0, none⟩)) (.pointer none)).run Try.prog w = .ok (.bool false) w := fun b w => by kernel_rfl
  clear k0 h hst
  generalize (st == 5) = bl at *
  go_enter Try.func94, Try.ntmps94
  go_wp2_with fail
  refine HC.out.mono ?_
  rintro e1 w1 ⟨⟨v0, v1, v2, v3, rfl⟩, k1⟩
  have HN1 := Lib.hid (k1.at HN.out fun h => h)
  have HK1 := Lib.hid (HK.out.trans k1)
  clear k1 HC hpn
  generalize hN0 : w.heap.size = N0 at *
  have HN0 := Lib.hid hN0
  have n0 : w1.cell? ⟨N0, 0, none⟩ = some (.int .i64 0) := cell_of HN1.out 0
  have m0 := free_of HN1.out 0
  have n1 : w1.cell? ⟨N0, 1, none⟩ = some (.int .u32 0) := cell_of HN1.out 1
  have m1 := free_of HN1.out 1
  have n2 : w1.cell? ⟨N0, 2, none⟩ = some (.int .u32 0) := cell_of HN1.out 2
  have m2 := free_of HN1.out 2
  have n3 : w1.cell? ⟨N0, 3, none⟩ = some (.int .u32 0) := cell_of HN1.out 3
  have m3 := free_of HN1.out 3
  have n4 : w1.cell? ⟨N0, 4, none⟩ = some (.int .u32 0) := cell_of HN1.out 4
  have m4 := free_of HN1.out 4
  have ln := lt_of HN1.out
  clear hN0
  go_wp2_with fail
  have HF := Lib.hid (And.intro (setsL_heap [(0, .int .i64 f), (1, .int .u32 v0), (2, .int .u32 v1), (3, .int .u32 v2), (4, .int .u32 v3)] HN1.out) ((HK1.out.own (setsL_keep [(0, .int .i64 f), (1, .int .u32 v0), (2, .int .u32 v1), (3, .int .u32 v2), (4, .int .u32 v3)] w1 N0) fun X hX => .inr (by rw [hX, ← HN0.out]; exact Nat.le_refl _))))
  refine bodyPost_ret (v := .tuple #[.agg #[.int .i64 f, .int .u32 v0, .int .u32 v1, .int .u32 v2, .int .u32 v3], .bool bl]) (res_res _ Try.results94 (setsL w1 N0 [(0, .int .i64 f), (1, .int .u32 v0), (2, .int .u32 v1), (3, .int .u32 v2), (4, .int .u32 v3)]) _ N0 f v0 v1 v2 v3 _ rfl rfl HF.out.1) rfl ⟨⟨v0, v1, v2, v3, rfl⟩, HF.out.2⟩
set_option maxHeartbeats 4000000 in
theorem lread_act (w : World) (b : Nat) (st f : Int) (h : StAt w b 15 st f) (hst : st ≠ 0) :
    Calls Try.prog 102 #[.pointer (some ⟨b, 0, none⟩)] w (ActQ w (busyP 5 st)) := by
  have k0 := (Keeps.refl (fun _ => False) w).alloc (.cells #[.int .i64 0, .int .i64 0, .int .u32 0] 43)
  have HN := Lib.hid (heap_new w (.cells #[.int .i64 0, .int .i64 0, .int .u32 0] 43))
  have HC := Lib.hid (lk_act _ b st f (h.none k0) hst)
  have HK := Lib.hid k0
  have hpn : ∀ (b : Nat) w, (binOp .eql 74 (.pointer (some ⟨b, 0, none⟩)) (.pointer none)).run Try.prog w = .ok (.bool false) w := fun b w => by kernel_rfl
  clear k0 h hst
  generalize (busyP 5 st) = bl at *
  go_enter Try.func102, Try.ntmps102
  go_wp2_with fail
  refine HC.out.mono ?_
  rintro e1 w1 ⟨⟨o1, o2, o3, rfl⟩, k1⟩
  have HN1 := Lib.hid (k1.at HN.out fun h => h)
  have HK1 := Lib.hid (HK.out.trans k1)
  clear k1 HC hpn
  generalize hN0 : w.heap.size = N0 at *
  have HN0 := Lib.hid hN0
  have n0 : w1.cell? ⟨N0, 0, none⟩ = some (.int .i64 0) := cell_of HN1.out 0
  have m0 := free_of HN1.out 0
  have n1 : w1.cell? ⟨N0, 1, none⟩ = some (.int .i64 0) := cell_of HN1.out 1
  have m1 := free_of HN1.out 1
  have n2 : w1.cell? ⟨N0, 2, none⟩ = some (.int .u32 0) := cell_of HN1.out 2
  have m2 := free_of HN1.out 2
  have ln := lt_of HN1.out
  clear hN0
  go_wp2_with fail
  have HF := Lib.hid (And.intro (setsL_heap [(0, .int .i64 o1), (1, .int .i64 o2), (2, .int .u32 o3)] HN1.out) ((HK1.out.own (setsL_keep [(0, .int .i64 o1), (1, .int .i64 o2), (2, .int .u32 o3)] w1 N0) fun X hX => .inr (by rw [hX, ← HN0.out]; exact Nat.le_refl _))))
  refine bodyPost_ret (v := .tuple #[.agg #[.int .i64 o1, .int .i64 o2, .int .u32 o3], .bool bl]) (res_act _ Try.results102 (setsL w1 N0 [(0, .int .i64 o1), (1, .int .i64 o2), (2, .int .u32 o3)]) _ N0 o1 o2 o3 _ rfl rfl HF.out.1) rfl ⟨⟨o1, o2, o3, rfl⟩, HF.out.2⟩
set_option maxHeartbeats 4000000 in
theorem lread_result (w : World) (b : Nat) (st f : Int) (h : StAt w b 15 st f) (hst : st ≠ 0) :
    Calls Try.prog 103 #[.pointer (some ⟨b, 0, none⟩)] w (ResQ w f (st == 5)) := by
  have k0 := (Keeps.refl (fun _ => False) w).alloc (.cells #[.int .i64 0, .int .u32 0, .int .u32 0, .int .u32 0, .int .u32 0] 48)
  have HN := Lib.hid (heap_new w (.cells #[.int .i64 0, .int .u32 0, .int .u32 0, .int .u32 0, .int .u32 0] 48))
  have HC := Lib.hid (lk_result _ b st f (h.none k0))
  have HK := Lib.hid k0
  have hpn : ∀ (b : Nat) w, (binOp .eql 74 (.pointer (some ⟨b, 0, none⟩)) (.pointer none)).run Try.prog w = .ok (.bool false) w := fun b w => by kernel_rfl
  clear k0 h hst
  generalize (st == 5) = bl at *
  go_enter Try.func103, Try.ntmps103
  go_wp2_with fail
  refine HC.out.mono ?_
  rintro e1 w1 ⟨⟨v0, v1, v2, v3, rfl⟩, k1⟩
  have HN1 := Lib.hid (k1.at HN.out fun h => h)
  have HK1 := Lib.hid (HK.out.trans k1)
  clear k1 HC hpn
  generalize hN0 : w.heap.size = N0 at *
  have HN0 := Lib.hid hN0
  have n0 : w1.cell? ⟨N0, 0, none⟩ = some (.int .i64 0) := cell_of HN1.out 0
  have m0 := free_of HN1.out 0
  have n1 : w1.cell? ⟨N0, 1, none⟩ = some (.int .u32 0) := cell_of HN1.out 1
  have m1 := free_of HN1.out 1
  have n2 : w1.cell? ⟨N0, 2, none⟩ = some (.int .u32 0) := cell_of HN1.out 2
  have m2 := free_of HN1.out 2
  have n3 : w1.cell? ⟨N0, 3, none⟩ = some (.int .u32 0) := cell_of HN1.out 3
  have m3 := free_of HN1.out 3
  have n4 : w1.cell? ⟨N0, 4, none⟩ = some (.int .u32 0) := cell_of HN1.out 4
  have m4 := free_of HN1.out 4
  have ln := lt_of HN1.out
  clear hN0
  go_wp2_with fail
  have HF := Lib.hid (And.intro (setsL_heap [(0, .int .i64 f), (1, .int .u32 v0), (2, .int .u32 v1), (3, .int .u32 v2), (4, .int .u32 v3)] HN1.out) ((HK1.out.own (setsL_keep [(0, .int .i64 f), (1, .int .u32 v0), (2, .int .u32 v1), (3, .int .u32 v2), (4, .int .u32 v3)] w1 N0) fun X hX => .inr (by rw [hX, ← HN0.out]; exact Nat.le_refl _))))
  refine bodyPost_ret (v := .tuple #[.agg #[.int .i64 f, .int .u32 v0, .int .u32 v1, .int .u32 v2, .int .u32 v3], .bool bl]) (res_res _ Try.results103 (setsL w1 N0 [(0, .int .i64 f), (1, .int .u32 v0), (2, .int .u32 v1), (3, .int .u32 v2), (4, .int .u32 v3)]) _ N0 f v0 v1 v2 v3 _ rfl rfl HF.out.1) rfl ⟨⟨v0, v1, v2, v3, rfl⟩, HF.out.2⟩
end Go.Proofs.Ytdnppkihpddlhaa
