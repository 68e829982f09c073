import Derived.Test.YtdnppkihpddlhaaBdS
namespace Go.Proofs.Ytdnppkihpddlhaa
open Go.ChangeShapes Go.WideShapes Go.ChangeAt Go.RowKit
set_option linter.unusedVariables false
set_option linter.unusedSimpArgs false
set_option maxRecDepth 100000
@[reducible] def vC (V : Nat → Int) : Array Value := #[.int .u32 (V 0), .int .u32 (V 1), .int .u32 (V 2), .int .u32 (V 3)]
/-- A new routine. -/
def NewQ (I : World → Nat → Prop) (w : World) (e : Ending) (w' : World) : Prop := ∃ b, e = .returned (.pointer (some ⟨b, 0, none⟩)) ∧ w.heap.size ≤ b ∧ I w' b ∧ Keeps (fun _ => False) w w'
theorem value_info : (Try.prog.info? 24).map (·.size) = some 4 := by kernel_rfl
theorem push_built (p : Nat → Int) (y ag : Int) : Try.prog.built 82 [(0, .agg (rgC p 1 1 y 0 0 zN 0 0 zN))] = some (rgC p 1 1 y 0 0 zN 0 0 zN) := by kernel_rfl
set_option maxHeartbeats 4000000 in
theorem push_new (w : World) (p : Nat → Int) (V : Nat → Int) (hp : PlOk p) (h0 : p 0 = 1) : Calls Try.prog 25 #[.agg (plC p), .agg (vC V)] w (NewQ (fun w' b => IsRg w' b 82 p 1 0 0 0) w) := by
  have HBG := Lib.hid (fun W => rgb_begin W p 2 hp (by omega) (by omega) (by rw [h0]; decide))
  clear hp h0
  obtain ⟨P1, hP1⟩ : ∃ W, W = (w.alloc (.cells (plC p) 41)).alloc (.cells (vC V) 24) := ⟨_, rfl⟩
  have h1 := ((Has.start w).alloc (.cells (plC p) 41)).alloc (.cells (vC V) 24)
  rw [← hP1, World.size_alloc] at h1
  have HB1 := Lib.hid h1
  have HP1 := Lib.hid hP1
  clear h1 hP1
  go_enter Try.func25, Try.ntmps25
  go_wp2_with (first
    | (refine Great.wpList_boxTo rfl 24 (.tmp 1) rfl (some 3) rfl (w.heap.size + 1) (by simp) (vC V) rfl ?_; rw [← HP1.out])
    | (refine wpList_load_row rfl 41 (.tmp 2) rfl w.heap.size rfl 41 (plC p) (0, 0) _ (HB1.out.at 1 rfl) Try.underlying41 rfl place_info ?_))
  refine (HBG.out _).mono ?_
  rintro e w1 ⟨⟨y, rfl⟩, k1⟩
  have h2 := HB1.out.none k1
  clear k1
  obtain ⟨W2, hW2⟩ : ∃ W, W = w1.alloc (.cells (rgC p 1 1 y 0 0 zN 0 0 zN) 82) := ⟨_, rfl⟩
  have h3 := h2.alloc (.cells (rgC p 1 1 y 0 0 zN 0 0 zN) 82)
  rw [← hW2] at h3
  have HB2 := Lib.hid h3
  have HW2 := Lib.hid hW2
  have HSZ := Lib.hid h2.keeps.size
  have hA := h3.at 0 rfl
  have lA := lt_of hA
  clear h2 h3 hW2
  have n10 := cell_of hA 10
  have m10 := free_of hA 10
  have n11 := cell_of hA 11
  have m11 := free_of hA 11
  have n12 := cell_of hA 12
  have m12 := free_of hA 12
  have n13 := cell_of hA 13
  have m13 := free_of hA 13
  have HA := Lib.hid hA
  clear hA
  go_wp2_with (first
    | (refine Great.wpList_buildTo rfl 82 _ rfl (some 8) rfl (rgC p 1 1 y 0 0 zN 0 0 zN) (push_built p y 0) ?_)
    | (refine Great.wpList_boxTo rfl 82 (.tmp 8) rfl (some 9) rfl w1.heap.size rfl (rgC p 1 1 y 0 0 zN 0 0 zN) rfl ?_; rw [← HW2.out])
    | (refine wpList_load_row rfl 24 (.tmp 3) rfl (w.heap.size + 1) rfl 24 (vC V) (0, 0) _ (HB2.out.at 1 rfl) Try.underlying24 rfl value_info ?_))
  go_ret
  exact ⟨w1.heap.size, rfl, HSZ.out, ⟨1, y, 0, V, zN, (setsL_heap [(10, .int .u32 (V 0)), (11, .int .u32 (V 1)), (12, .int .u32 (V 2)), (13, .int .u32 (V 3))] HA.out).trans (by kernel_rfl)⟩, HB2.out.keeps.own (setsL_keep [(10, .int .u32 (V 0)), (11, .int .u32 (V 1)), (12, .int .u32 (V 2)), (13, .int .u32 (V 3))] W2 w1.heap.size) fun X hX => .inr (by have h' : X = w1.heap.size := hX; have := HSZ.out; omega)⟩
theorem pop_built (p : Nat → Int) (y ag : Int) : Try.prog.built 83 [(0, .agg (rgC p 1 1 y 0 0 zN 0 0 zN))] = some (rgC p 1 1 y 0 0 zN 0 0 zN) := by kernel_rfl
set_option maxHeartbeats 4000000 in
theorem pop_new (w : World) (p : Nat → Int) (hp : PlOk p) (h0 : p 0 = 1) : Calls Try.prog 26 #[.agg (plC p)] w (NewQ (fun w' b => IsRg w' b 83 p 1 0 0 0) w) := by
  have HBG := Lib.hid (fun W => rgb_begin W p 1 hp (by omega) (by omega) (by rw [h0]; decide))
  clear hp h0
  obtain ⟨P1, hP1⟩ : ∃ W, W = w.alloc (.cells (plC p) 41) := ⟨_, rfl⟩
  have h1 := (Has.start w).alloc (.cells (plC p) 41)
  rw [← hP1] at h1
  have HB1 := Lib.hid h1
  have HP1 := Lib.hid hP1
  clear h1 hP1
  go_enter Try.func26, Try.ntmps26
  go_wp2_with (first
    | (refine Great.wpList_boxTo rfl 41 (.tmp 0) rfl (some 1) rfl w.heap.size rfl (plC p) rfl ?_; rw [← HP1.out])
    | (refine wpList_load_row rfl 41 (.tmp 1) rfl w.heap.size rfl 41 (plC p) (0, 0) _ (HB1.out.at 0 rfl) Try.underlying41 rfl place_info ?_))
  refine (HBG.out _).mono ?_
  rintro e w1 ⟨⟨y, rfl⟩, k1⟩
  have h2 := HB1.out.none k1
  clear k1
  obtain ⟨W2, hW2⟩ : ∃ W, W = w1.alloc (.cells (rgC p 1 1 y 0 0 zN 0 0 zN) 83) := ⟨_, rfl⟩
  have h3 := h2.alloc (.cells (rgC p 1 1 y 0 0 zN 0 0 zN) 83)
  rw [← hW2] at h3
  have HB2 := Lib.hid h3
  have HW2 := Lib.hid hW2
  have HSZ := Lib.hid h2.keeps.size
  clear h2 h3 hW2
  go_wp2_with (first
    | (refine Great.wpList_buildTo rfl 83 _ rfl (some 5) rfl (rgC p 1 1 y 0 0 zN 0 0 zN) (pop_built p y 0) ?_)
    | (refine Great.wpList_boxTo rfl 83 (.tmp 5) rfl (some 6) rfl w1.heap.size rfl (rgC p 1 1 y 0 0 zN 0 0 zN) rfl ?_; rw [← HW2.out]))
  go_ret
  exact ⟨w1.heap.size, rfl, HSZ.out, ⟨1, y, 0, zN, zN, HB2.out.at 0 rfl⟩, HB2.out.keeps⟩
theorem fw_built (p : Nat → Int) (y ag : Int) : Try.prog.built 89 [(0, .agg (foC p 1 1 y 0 0 0 zN 0 0 zN))] = some (foC p 1 1 y 0 0 0 zN 0 0 zN) := by kernel_rfl
set_option maxHeartbeats 4000000 in
theorem fw_new (w : World) (p : Nat → Int) (V : Nat → Int) (hp : PlOk p) (h0 : p 0 = 2) : Calls Try.prog 27 #[.agg (plC p), .agg (vC V)] w (NewQ (fun w' b => IsFo w' b 89 p 1 0 0) w) := by
  have HBG := Lib.hid (fun W => fob_begin W p 5 hp (by omega) (by omega) (by rw [h0]; decide))
  clear hp h0
  obtain ⟨P1, hP1⟩ : ∃ W, W = (w.alloc (.cells (plC p) 41)).alloc (.cells (vC V) 24) := ⟨_, rfl⟩
  have h1 := ((Has.start w).alloc (.cells (plC p) 41)).alloc (.cells (vC V) 24)
  rw [← hP1, World.size_alloc] at h1
  have HB1 := Lib.hid h1
  have HP1 := Lib.hid hP1
  clear h1 hP1
  go_enter Try.func27, Try.ntmps27
  go_wp2_with (first
    | (refine Great.wpList_boxTo rfl 24 (.tmp 1) rfl (some 3) rfl (w.heap.size + 1) (by simp) (vC V) rfl ?_; rw [← HP1.out])
    | (refine wpList_load_row rfl 41 (.tmp 2) rfl w.heap.size rfl 41 (plC p) (0, 0) _ (HB1.out.at 1 rfl) Try.underlying41 rfl place_info ?_))
  refine (HBG.out _).mono ?_
  rintro e w1 ⟨⟨y, rfl⟩, k1⟩
  have h2 := HB1.out.none k1
  clear k1
  obtain ⟨W2, hW2⟩ : ∃ W, W = w1.alloc (.cells (foC p 1 1 y 0 0 0 zN 0 0 zN) 89) := ⟨_, rfl⟩
  have h3 := h2.alloc (.cells (foC p 1 1 y 0 0 0 zN 0 0 zN) 89)
  rw [← hW2] at h3
  have HB2 := Lib.hid h3
  have HW2 := Lib.hid hW2
  have HSZ := Lib.hid h2.keeps.size
  have hA := h3.at 0 rfl
  have lA := lt_of hA
  clear h2 h3 hW2
  have n11 := cell_of hA 11
  have m11 := free_of hA 11
  have n12 := cell_of hA 12
  have m12 := free_of hA 12
  have n13 := cell_of hA 13
  have m13 := free_of hA 13
  have n14 := cell_of hA 14
  have m14 := free_of hA 14
  have HA := Lib.hid hA
  clear hA
  go_wp2_with (first
    | (refine Great.wpList_buildTo rfl 89 _ rfl (some 8) rfl (foC p 1 1 y 0 0 0 zN 0 0 zN) (fw_built p y 0) ?_)
    | (refine Great.wpList_boxTo rfl 89 (.tmp 8) rfl (some 9) rfl w1.heap.size rfl (foC p 1 1 y 0 0 0 zN 0 0 zN) rfl ?_; rw [← HW2.out])
    | (refine wpList_load_row rfl 24 (.tmp 3) rfl (w.heap.size + 1) rfl 24 (vC V) (0, 0) _ (HB2.out.at 1 rfl) Try.underlying24 rfl value_info ?_))
  go_ret
  exact ⟨w1.heap.size, rfl, HSZ.out, ⟨1, y, 0, 0, 0, V, zN, (setsL_heap [(11, .int .u32 (V 0)), (12, .int .u32 (V 1)), (13, .int .u32 (V 2)), (14, .int .u32 (V 3))] HA.out).trans (by kernel_rfl)⟩, HB2.out.keeps.own (setsL_keep [(11, .int .u32 (V 0)), (12, .int .u32 (V 1)), (13, .int .u32 (V 2)), (14, .int .u32 (V 3))] W2 w1.heap.size) fun X hX => .inr (by have h' : X = w1.heap.size := hX; have := HSZ.out; omega)⟩
theorem fr_built (p : Nat → Int) (y ag : Int) : Try.prog.built 90 [(0, .agg (foC p 1 1 y 0 0 0 zN 0 0 zN))] = some (foC p 1 1 y 0 0 0 zN 0 0 zN) := by kernel_rfl
set_option maxHeartbeats 4000000 in
theorem fr_new (w : World) (p : Nat → Int) (hp : PlOk p) (h0 : p 0 = 2) : Calls Try.prog 28 #[.agg (plC p)] w (NewQ (fun w' b => IsFo w' b 90 p 1 0 0) w) := by
  have HBG := Lib.hid (fun W => fob_begin W p 4 hp (by omega) (by omega) (by rw [h0]; decide))
  clear hp h0
  obtain ⟨P1, hP1⟩ : ∃ W, W = w.alloc (.cells (plC p) 41) := ⟨_, rfl⟩
  have h1 := (Has.start w).alloc (.cells (plC p) 41)
  rw [← hP1] at h1
  have HB1 := Lib.hid h1
  have HP1 := Lib.hid hP1
  clear h1 hP1
  go_enter Try.func28, Try.ntmps28
  go_wp2_with (first
    | (refine Great.wpList_boxTo rfl 41 (.tmp 0) rfl (some 1) rfl w.heap.size rfl (plC p) rfl ?_; rw [← HP1.out])
    | (refine wpList_load_row rfl 41 (.tmp 1) rfl w.heap.size rfl 41 (plC p) (0, 0) _ (HB1.out.at 0 rfl) Try.underlying41 rfl place_info ?_))
  refine (HBG.out _).mono ?_
  rintro e w1 ⟨⟨y, rfl⟩, k1⟩
  have h2 := HB1.out.none k1
  clear k1
  obtain ⟨W2, hW2⟩ : ∃ W, W = w1.alloc (.cells (foC p 1 1 y 0 0 0 zN 0 0 zN) 90) := ⟨_, rfl⟩
  have h3 := h2.alloc (.cells (foC p 1 1 y 0 0 0 zN 0 0 zN) 90)
  rw [← hW2] at h3
  have HB2 := Lib.hid h3
  have HW2 := Lib.hid hW2
  have HSZ := Lib.hid h2.keeps.size
  clear h2 h3 hW2
  go_wp2_with (first
    | (refine Great.wpList_buildTo rfl 90 _ rfl (some 5) rfl (foC p 1 1 y 0 0 0 zN 0 0 zN) (fr_built p y 0) ?_)
    | (refine Great.wpList_boxTo rfl 90 (.tmp 5) rfl (some 6) rfl w1.heap.size rfl (foC p 1 1 y 0 0 0 zN 0 0 zN) rfl ?_; rw [← HW2.out]))
  go_ret
  exact ⟨w1.heap.size, rfl, HSZ.out, ⟨1, y, 0, 0, 0, zN, zN, HB2.out.at 0 rfl⟩, HB2.out.keeps⟩
theorem lw_built (p : Nat → Int) (y ag : Int) : Try.prog.built 95 [(0, .agg (rgC p 1 1 y 0 0 zN 0 0 zN))] = some (rgC p 1 1 y 0 0 zN 0 0 zN) := by kernel_rfl
set_option maxHeartbeats 4000000 in
theorem lw_new (w : World) (p : Nat → Int) (V : Nat → Int) (hp : PlOk p) (h0 : p 0 = 3) : Calls Try.prog 29 #[.agg (plC p), .agg (vC V)] w (NewQ (fun w' b => IsRg w' b 95 p 1 0 0 0) w) := by
  have HBG := Lib.hid (fun W => lkb_begin W p hp h0)
  clear hp h0
  obtain ⟨P1, hP1⟩ : ∃ W, W = (w.alloc (.cells (plC p) 41)).alloc (.cells (vC V) 24) := ⟨_, rfl⟩
  have h1 := ((Has.start w).alloc (.cells (plC p) 41)).alloc (.cells (vC V) 24)
  rw [← hP1, World.size_alloc] at h1
  have HB1 := Lib.hid h1
  have HP1 := Lib.hid hP1
  clear h1 hP1
  go_enter Try.func29, Try.ntmps29
  go_wp2_with (first
    | (refine Great.wpList_boxTo rfl 24 (.tmp 1) rfl (some 3) rfl (w.heap.size + 1) (by simp) (vC V) rfl ?_; rw [← HP1.out])
    | (refine wpList_load_row rfl 41 (.tmp 2) rfl w.heap.size rfl 41 (plC p) (0, 0) _ (HB1.out.at 1 rfl) Try.underlying41 rfl place_info ?_))
  refine (HBG.out _).mono ?_
  rintro e w1 ⟨⟨y, rfl⟩, k1⟩
  have h2 := HB1.out.none k1
  clear k1
  obtain ⟨W2, hW2⟩ : ∃ W, W = w1.alloc (.cells (rgC p 1 1 y 0 0 zN 0 0 zN) 95) := ⟨_, rfl⟩
  have h3 := h2.alloc (.cells (rgC p 1 1 y 0 0 zN 0 0 zN) 95)
  rw [← hW2] at h3
  have HB2 := Lib.hid h3
  have HW2 := Lib.hid hW2
  have HSZ := Lib.hid h2.keeps.size
  have hA := h3.at 0 rfl
  have lA := lt_of hA
  clear h2 h3 hW2
  have n10 := cell_of hA 10
  have m10 := free_of hA 10
  have n11 := cell_of hA 11
  have m11 := free_of hA 11
  have n12 := cell_of hA 12
  have m12 := free_of hA 12
  have n13 := cell_of hA 13
  have m13 := free_of hA 13
  have HA := Lib.hid hA
  clear hA
  go_wp2_with (first
    | (refine Great.wpList_buildTo rfl 95 _ rfl (some 8) rfl (rgC p 1 1 y 0 0 zN 0 0 zN) (lw_built p y 0) ?_)
    | (refine Great.wpList_boxTo rfl 95 (.tmp 8) rfl (some 9) rfl w1.heap.size rfl (rgC p 1 1 y 0 0 zN 0 0 zN) rfl ?_; rw [← HW2.out])
    | (refine wpList_load_row rfl 24 (.tmp 3) rfl (w.heap.size + 1) rfl 24 (vC V) (0, 0) _ (HB2.out.at 1 rfl) Try.underlying24 rfl value_info ?_))
  go_ret
  exact ⟨w1.heap.size, rfl, HSZ.out, ⟨1, y, 0, V, zN, (setsL_heap [(10, .int .u32 (V 0)), (11, .int .u32 (V 1)), (12, .int .u32 (V 2)), (13, .int .u32 (V 3))] HA.out).trans (by kernel_rfl)⟩, HB2.out.keeps.own (setsL_keep [(10, .int .u32 (V 0)), (11, .int .u32 (V 1)), (12, .int .u32 (V 2)), (13, .int .u32 (V 3))] W2 w1.heap.size) fun X hX => .inr (by have h' : X = w1.heap.size := hX; have := HSZ.out; omega)⟩
theorem lr_built (p : Nat → Int) (y ag : Int) : Try.prog.built 97 [(0, .agg (rgC p 1 1 y 0 0 zN 0 0 zN)), (1, .int .i64 ag)] = some (lrC p 1 1 y 0 0 zN 0 0 zN ag 0) := by kernel_rfl
set_option maxHeartbeats 4000000 in
theorem lr_new (w : World) (p : Nat → Int) (hp : PlOk p) (h0 : p 0 = 3) (ag : Int) (hg : 0 ≤ ag ∧ ag ≤ 8) : Calls Try.prog 30 #[.agg (plC p), .int .i64 ag] w (NewQ (fun w' b => IsLr w' b 97 p 1 0 0 0 ag 0) w) := by
  have HBG := Lib.hid (fun W => lkb_begin W p hp h0)
  clear hp h0
  obtain ⟨P1, hP1⟩ : ∃ W, W = w.alloc (.cells (plC p) 41) := ⟨_, rfl⟩
  have h1 := (Has.start w).alloc (.cells (plC p) 41)
  rw [← hP1] at h1
  have HB1 := Lib.hid h1
  have HP1 := Lib.hid hP1
  clear h1 hP1
  have d1 : decide (0 ≤ ag) = true := decide_eq_true hg.1
  have d2 : decide (ag ≤ 8) = true := decide_eq_true hg.2
  clear hg
  go_enter Try.func30, Try.ntmps30
  go_wp2_with (first
    | (refine Great.wpList_boxTo rfl 41 (.tmp 0) rfl (some 2) rfl w.heap.size rfl (plC p) rfl ?_; rw [← HP1.out])
    | (refine wpList_load_row rfl 41 (.tmp 2) rfl w.heap.size rfl 41 (plC p) (0, 0) _ (HB1.out.at 0 rfl) Try.underlying41 rfl place_info ?_))
  refine (HBG.out _).mono ?_
  rintro e w1 ⟨⟨y, rfl⟩, k1⟩
  have h2 := HB1.out.none k1
  clear k1
  obtain ⟨W2, hW2⟩ : ∃ W, W = w1.alloc (.cells (lrC p 1 1 y 0 0 zN 0 0 zN ag 0) 97) := ⟨_, rfl⟩
  have h3 := h2.alloc (.cells (lrC p 1 1 y 0 0 zN 0 0 zN ag 0) 97)
  rw [← hW2] at h3
  have HB2 := Lib.hid h3
  have HW2 := Lib.hid hW2
  have HSZ := Lib.hid h2.keeps.size
  clear h2 h3 hW2
  go_wp2_with (first
    | (refine Great.wpList_buildTo rfl 97 _ rfl (some 14) rfl (lrC p 1 1 y 0 0 zN 0 0 zN ag 0) (lr_built p y ag) ?_)
    | (refine Great.wpList_boxTo rfl 97 (.tmp 14) rfl (some 15) rfl w1.heap.size rfl (lrC p 1 1 y 0 0 zN 0 0 zN ag 0) rfl ?_; rw [← HW2.out]))
  go_ret
  exact ⟨w1.heap.size, rfl, HSZ.out, ⟨1, y, 0, zN, zN, HB2.out.at 0 rfl⟩, HB2.out.keeps⟩
end Go.Proofs.Ytdnppkihpddlhaa
