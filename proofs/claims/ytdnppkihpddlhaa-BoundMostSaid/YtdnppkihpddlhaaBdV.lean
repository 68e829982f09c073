import Derived.Test.YtdnppkihpddlhaaBdU
import Derived.Test.YtdnppkihpddlhaaBdR
import Derived.Test.YtdnppkihpddlhaaBdT
namespace Go.Proofs.Ytdnppkihpddlhaa
open Go.ChangeShapes Go.WideShapes Go.ChangeAt Go.RowKit
set_option linter.unusedVariables false
set_option linter.unusedSimpArgs false
set_option maxRecDepth 100000
theorem flagb_built1 (p : Nat → Int) (k m : Int) : Try.prog.built 99 [(0, .agg (plC p)), (1, .int .i64 k), (2, .int .u32 m)] = some #[.int .i64 (p 0), .int .i64 (p 1), .int .i64 (p 2), .int .i64 (p 3), .int .i64 (p 4), .int .i64 k, .int .u32 m] := by kernel_rfl
theorem flagb_built2 (p : Nat → Int) (k m : Int) : Try.prog.built 101 [(0, .agg #[.int .i64 (p 0), .int .i64 (p 1), .int .i64 (p 2), .int .i64 (p 3), .int .i64 (p 4), .int .i64 k, .int .u32 m]), (1, .int .i64 1)] = some (flC p k m 1 0 zN) := by kernel_rfl
set_option maxHeartbeats 4000000 in
theorem flag_new (w : World) (p : Nat → Int) (k m : Int) (hp : PlOk p) (h0 : p 0 = 4) (hk : 1 ≤ k ∧ k ≤ 5) : Calls Try.prog 32 #[.agg (plC p), .int .i64 k, .int .u32 m] w (NewQ (fun w' b => IsFl w' b p k m 1 0) w) := by
  have HC := Lib.hid (fun W => cell_some p 8 0 0 W hp.r hp.a (by omega))
  have HS := Lib.hid (show 0 ≤ singP (p 0) 8 from by rw [h0]; decide)
  have d1 : decide (k < 1) = false := decide_eq_false (by omega)
  have d2 : decide (5 < k) = false := decide_eq_false (by omega)
  clear hp h0 hk
  obtain ⟨P1, hP1⟩ : ∃ W, W = w.alloc (.cells (plC p) 41) := ⟨_, rfl⟩
  have h1 := (Has.start w).alloc (.cells (plC p) 41)
  rw [← hP1] at h1
  obtain ⟨W2, hW2⟩ : ∃ W, W = P1.alloc (.cells (flC p k m 1 0 zN) 101) := ⟨_, rfl⟩
  have h2 := h1.alloc (.cells (flC p k m 1 0 zN) 101)
  rw [← hW2] at h2
  have HZ := Lib.hid h1.keeps.size
  have HB1 := Lib.hid h1
  have HB2 := Lib.hid h2
  have HP1 := Lib.hid hP1
  have HW2 := Lib.hid hW2
  clear h1 h2 hP1 hW2
  go_enter Try.func32, Try.ntmps32
  go_wp2_with (first
    | (refine Great.wpList_boxTo rfl 41 (.tmp 0) rfl (some 3) rfl w.heap.size rfl (plC p) rfl ?_; rw [← HP1.out])
    | (refine wpList_load_row rfl 41 (.tmp 3) rfl w.heap.size rfl 41 (plC p) (0, 0) _ (HB1.out.at 0 rfl) Try.underlying41 rfl place_info ?_)
    | (refine Great.wpList_buildTo rfl 99 _ rfl (some 11) rfl _ (flagb_built1 p k m) ?_)
    | (refine Great.wpList_buildTo rfl 101 _ rfl (some 12) rfl _ (flagb_built2 p k m) ?_)
    | (refine Great.wpList_boxTo rfl 101 (.tmp 12) rfl (some 13) rfl P1.heap.size rfl (flC p k m 1 0 zN) rfl ?_; rw [← HW2.out])
    | (refine wpList_load_row rfl 41 (.tmp 3) rfl w.heap.size rfl 41 (plC p) (0, 0) _ (HB2.out.at 1 rfl) Try.underlying41 rfl place_info ?_))
  refine (HC.out _).mono ?_
  rintro e w1 ⟨⟨y, rfl, hy⟩, k1⟩
  have hy0 := hy rfl (by omega) HS.out
  have d0 : decide (y < 0) = false := decide_eq_false (by omega)
  have HB3 := Lib.hid (HB2.out.none k1)
  clear k1 hy hy0
  go_wp2_with fail
  go_ret
  exact ⟨P1.heap.size, rfl, HZ.out, ⟨zN, HB3.out.at 0 rfl⟩, HB3.out.keeps⟩
set_option maxHeartbeats 4000000 in
theorem flag_act0 (w : World) (b : Nat) (p : Nat → Int) (k m f : Int) (h : IsFl w b p k m 2 f) :
    Calls Try.prog 105 #[.pointer (some ⟨b, 0, none⟩)] w (ActQ w false) := by
  have k0 := (Keeps.refl (fun _ => False) w).alloc (.cells #[.int .i64 0, .int .i64 0, .int .u32 0] 43)
  obtain ⟨V, hb⟩ := h.none k0
  have c7 := cell_of hb 7
  have lb := lt_of hb
  have hpn : ∀ (b : Nat) w, (binOp .eql 76 (.pointer (some ⟨b, 0, none⟩)) (.pointer none)).run Try.prog w = .ok (.bool false) w := fun b w => by kernel_rfl
  have HN := Lib.hid (heap_new w (.cells #[.int .i64 0, .int .i64 0, .int .u32 0] 43))
  have HK := Lib.hid k0
  have hne : b ≠ w.heap.size := Nat.ne_of_lt (by obtain ⟨V, h⟩ := h; exact lt_of h)
  clear hb h k0
  go_enter Try.func105, Try.ntmps105
  go_wp2_with fail
  refine bodyPost_ret (v := .tuple #[.agg #[.int .i64 0, .int .i64 0, .int .u32 0], .bool false]) (res_act _ Try.results105 _ _ w.heap.size 0 0 0 _ rfl rfl HN.out) rfl ⟨⟨0, 0, 0, rfl⟩, HK.out⟩
def IsRef (w : World) (b : Nat) (f : Int) : Prop := w.heap[b]? = some (.cells #[.int .i64 f] 61 (0, 0))
set_option maxHeartbeats 4000000 in
theorem ref_act (w : World) (b : Nat) : Calls Try.prog 64 #[.pointer (some ⟨b, 0, none⟩)] w (ActQ w false) := by
  have HN := Lib.hid (heap_new w (.cells #[.int .i64 0, .int .i64 0, .int .u32 0] 43))
  have HK := Lib.hid ((Keeps.refl (fun _ => False) w).alloc (.cells #[.int .i64 0, .int .i64 0, .int .u32 0] 43))
  go_enter Try.func64, Try.ntmps64
  go_wp2_with fail
  refine bodyPost_ret (v := .tuple #[.agg #[.int .i64 0, .int .i64 0, .int .u32 0], .bool false]) (res_act _ Try.results64 _ _ w.heap.size 0 0 0 _ rfl rfl HN.out) rfl ⟨⟨0, 0, 0, rfl⟩, HK.out⟩
set_option maxHeartbeats 4000000 in
theorem ref_result (w : World) (b : Nat) (f : Int) (h : IsRef w b f) : Calls Try.prog 65 #[.pointer (some ⟨b, 0, none⟩)] w (ResQ w f true) := by
  have k0 := (Keeps.refl (fun _ => False) w).alloc (.cells #[.int .i64 0, .int .u32 0, .int .u32 0, .int .u32 0, .int .u32 0] 48)
  have c0 := cell_of (k0.at h fun h => h) 0
  have lb := lt_of (k0.at h fun h => h)
  have k1 := (Keeps.refl (fun _ => False) w).alloc (.cells #[.int .i64 f, .int .u32 0, .int .u32 0, .int .u32 0, .int .u32 0] 48)
  have HN := Lib.hid (heap_new w (.cells #[.int .i64 f, .int .u32 0, .int .u32 0, .int .u32 0, .int .u32 0] 48))
  have HK := Lib.hid k1
  clear k0 k1 h
  go_enter Try.func65, Try.ntmps65
  go_wp2_with fail
  refine bodyPost_ret (v := .tuple #[.agg #[.int .i64 f, .int .u32 0, .int .u32 0, .int .u32 0, .int .u32 0], .bool true]) (res_res _ Try.results65 _ _ w.heap.size f 0 0 0 0 _ rfl rfl HN.out) rfl ⟨⟨0, 0, 0, 0, rfl⟩, HK.out⟩
end Go.Proofs.Ytdnppkihpddlhaa
