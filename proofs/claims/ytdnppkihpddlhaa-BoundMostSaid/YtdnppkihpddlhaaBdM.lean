import Derived.Test.YtdnppkihpddlhaaBdL
namespace Go.Proofs.Ytdnppkihpddlhaa
open Go.ChangeShapes Go.WideShapes Go.ChangeAt Go.RowKit
set_option linter.unusedVariables false
set_option linter.unusedSimpArgs false
set_option maxRecDepth 100000 in
set_option maxHeartbeats 8000000 in
/-- The first part was read. -/
theorem fw_take1 (w : World) (b : Nat) (p : Nat → Int) (f got : Int) (a : Nat) (ha : a ≤ 4) (h : IsFo w b 89 p 1 (a : Int) f) (hp : FoOk p) :
    Calls Try.prog 84 #[.pointer (some ⟨b, 0, none⟩), .int .u32 got] w (FoQ w b 89 p 3 (a : Int) f) := by
  obtain ⟨o1, o2, o3, s0, s1, W, V, hb⟩ := h
  have c5 : w.cell? ⟨b, 5, none⟩ = some (.int .i64 1) := cell_of hb 5
  have lb := lt_of hb
  have HP := Lib.hid hp
  have hpn : ∀ (b : Nat) w, (binOp .eql 68 (.pointer (some ⟨b, 0, none⟩)) (.pointer none)).run Try.prog w = .ok (.bool false) w := fun b w => by kernel_rfl
  have c9 : w.cell? ⟨b, 9, none⟩ = some (.int .u32 s0) := cell_of hb 9
  have f9 := free_of hb 9
  have HB := Lib.hid hb
  clear hb hp
  go_enter Try.func84, Try.ntmps84
  go_wp2_with fail
  refine wp_scope_n 2 ?_
  go_wp2_with fail
  go_step3
  refine scopeN_goto rfl ?_
  go_wp2_with fail
  have HB1 := Lib.hid (show (w.setCell ⟨b, 9, none⟩ (.int .u32 ((1 - bits .and .u32 got 1) % 4294967296))).heap[b]? = some (.cells (foC p 1 o1 o2 o3 ((1 - bits .and .u32 got 1) % 4294967296) s1 W (a : Int) f V) 89 (0, 0)) from heap_set HB.out 9 _)
  have HK1 := Lib.hid ((Keeps.refl (fun X => X = b) w).setCell (p := ⟨b, 9, none⟩) (.inl rfl) (.int .u32 ((1 - bits .and .u32 got 1) % 4294967296)))
  clear c5 c9 f9 lb
  generalize w.setCell ⟨b, 9, none⟩ (.int .u32 ((1 - bits .and .u32 got 1) % 4294967296)) = W1 at HB1 HK1 ⊢
  generalize ((1 - bits .and .u32 got 1) % 4294967296) = z at HB1 HK1 ⊢
  refine (fo_load W1 b 89 _ p 3 6 z 0 HB1.out (Nat.le_refl 21) (plAt_of HB1.out rfl rfl rfl rfl rfl) (cell_of HB1.out 9) HP.out.ok (by omega)).mono ?_
  rintro e3 w3 ⟨x, rfl, hb3, k3⟩
  have HB3 := Lib.hid hb3
  have HK3 := Lib.hid (HK1.out.trans k3)
  clear hb3 k3
  go_wp2_with fail
  refine scopeN_ret _ (bodyPost_ret (results_none rfl _ _ _) rfl ?_)
  exact ⟨rfl, ⟨1, x, 0, z, s1, W, V, HB3.out.trans (by kernel_rfl)⟩, HK3.out⟩
set_option maxRecDepth 100000 in
set_option maxHeartbeats 8000000 in
/-- The index was read. -/
theorem fw_take3 (w : World) (b : Nat) (p : Nat → Int) (f got : Int) (a : Nat) (ha : a ≤ 4) (h : IsFo w b 89 p 3 (a : Int) f) (hp : FoOk p) (hm : (a : Int) < p 3) :
    Calls Try.prog 84 #[.pointer (some ⟨b, 0, none⟩), .int .u32 got] w (FoQ w b 89 p 4 (a : Int) f) := by
  obtain ⟨o1, o2, o3, s0, s1, W, V, hb⟩ := h
  have c5 : w.cell? ⟨b, 5, none⟩ = some (.int .i64 3) := cell_of hb 5
  have lb := lt_of hb
  have HP := Lib.hid hp
  have hpn : ∀ (b : Nat) w, (binOp .eql 68 (.pointer (some ⟨b, 0, none⟩)) (.pointer none)).run Try.prog w = .ok (.bool false) w := fun b w => by kernel_rfl
  have c10 : w.cell? ⟨b, 10, none⟩ = some (.int .u32 s1) := cell_of hb 10
  have f10 := free_of hb 10
  have HB := Lib.hid hb
  have hw3 := hp.w
  have hd2 : decide ((a : Int) < p 3) = true := by simp; omega
  have i2 : (0 : Int) ≤ (a : Int) := by omega
  have i3 : (a : Int) < 4 := by omega
  have iw : IntKind.i64.wrap (a : Int) = (a : Int) := IntWalk.i64_in _ ⟨by omega, by omega⟩
  clear hb hp hm
  go_enter Try.func84, Try.ntmps84
  go_wp2_with fail
  refine wp_scope_n 2 ?_
  go_wp2_with fail
  go_step3
  refine scopeN_goto rfl ?_
  go_wp2_with fail
  have HB1 := Lib.hid (show (w.setCell ⟨b, 10, none⟩ (.int .u32 ((1 - bits .and .u32 got 1) % 4294967296))).heap[b]? = some (.cells (foC p 3 o1 o2 o3 s0 ((1 - bits .and .u32 got 1) % 4294967296) W (a : Int) f V) 89 (0, 0)) from heap_set HB.out 10 _)
  have HK1 := Lib.hid ((Keeps.refl (fun X => X = b) w).setCell (p := ⟨b, 10, none⟩) (.inl rfl) (.int .u32 ((1 - bits .and .u32 got 1) % 4294967296)))
  clear c5 c10 f10 lb
  generalize w.setCell ⟨b, 10, none⟩ (.int .u32 ((1 - bits .and .u32 got 1) % 4294967296)) = Wd at HB1 HK1 ⊢
  generalize ((1 - bits .and .u32 got 1) % 4294967296) = z at HB1 HK1 ⊢
  go_step3
  go_wp2_with fail
  have HBw := Lib.hid (show Wd.drew.heap[b]? = _ from HB1.out)
  have HKw := Lib.hid HK1.out.drew
  go_region_held3 (fun w' => w'.cell? ⟨b, 15, none⟩ = some (.int .i64 ((a : Int))) ∧ w'.cell? ⟨b, 3, none⟩ = some (.int .i64 (p 3)))
    (first
      | exact ⟨cell_of HBw.out 15, cell_of HBw.out 3⟩
      | go_keep)
    (fail)
  all_goals
    generalize Wd.drew = Wv at HBw HKw ⊢
    go_wp2_with fail
    have HBv := Lib.hid (show Wv.drew.heap[b]? = _ from HBw.out)
    have HKv := Lib.hid HKw.out.drew
    go_region_held3 (fun w' => w'.cell? ⟨b, 15, none⟩ = some (.int .i64 ((a : Int))) ∧ w'.cell? ⟨b, 11 + (a), none⟩ = some (.int .u32 (W (a))))
      (first
        | exact ⟨cell_of HBv.out 15, (cell_of HBv.out (11 + (a))).trans (fword_at p _ _ _ _ _ _ W _ _ _ (a) (by omega))⟩
        | exact ⟨(cell_of (setsL_heap [(5, .int .i64 4)] HBv.out) 15).trans (setsC_get _ _ 15 (by simp)), ((cell_of (setsL_heap [(5, .int .i64 4)] HBv.out) (11 + (a))).trans (setsC_get _ _ (11 + (a)) (by simp; omega))).trans (fword_at p _ _ _ _ _ _ W _ _ _ (a) (by omega))⟩
        | exact ⟨(cell_of (setsL_heap [(5, .int .i64 4), (6, .int .i64 2), (7, .int .i64 x), (8, .int .u32 (W (a)))] HBv.out) 15).trans (setsC_get _ _ 15 (by simp)), ((cell_of (setsL_heap [(5, .int .i64 4), (6, .int .i64 2), (7, .int .i64 x), (8, .int .u32 (W (a)))] HBv.out) (11 + (a))).trans (setsC_get _ _ (11 + (a)) (by simp; omega))).trans (fword_at p _ _ _ _ _ _ W _ _ _ (a) (by omega))⟩
        | go_keep)
      (first
        | (go_at_call 88; refine (fo_data _ b (s0) (z) (lt_of HBv.out) (cell_of HBv.out 9) (cell_of HBv.out 10)).mono ?_; rintro e2 w2 ⟨X, Y, i, rfl, hX, hY, k2⟩; replace HBv := Lib.hid (k2.at HBv.out fun h => h); replace HKv := Lib.hid (HKv.out.own k2 fun _ h => h.elim); have HX := Lib.hid hX; have HY := Lib.hid hY; clear k2 hX hY)
        | (go_at_call 89; refine (slot_cell _ b X Y p i _ (plAt_of HBv.out rfl rfl rfl rfl rfl) HP.out.ok HX.out HY.out).mono ?_; rintro e4 w4 ⟨⟨x, rfl⟩, k4⟩; replace HBv := Lib.hid (k4.at HBv.out fun h => h); replace HKv := Lib.hid (HKv.out.own k4 fun _ h => h.elim); clear k4; have q5 := cell_of HBv.out 5; have q6 := cell_of HBv.out 6; have q7 := cell_of HBv.out 7; have q8 := cell_of HBv.out 8; have r5 := free_of HBv.out 5; have r6 := free_of HBv.out 6; have r7 := free_of HBv.out 7; have r8 := free_of HBv.out 8; have lq := lt_of HBv.out)
        | fail)
    all_goals
      have HB3 := Lib.hid (setsL_heap [(5, .int .i64 4), (6, .int .i64 2), (7, .int .i64 x), (8, .int .u32 (W (a)))] HBv.out)
      have HK3 := Lib.hid (HKv.out.trans (setsL_keep [(5, .int .i64 4), (6, .int .i64 2), (7, .int .i64 x), (8, .int .u32 (W (a)))] _ b))
      clear q5 q6 q7 q8 r5 r6 r7 r8 lq
      go_wp2_with fail
      refine scopeN_ret _ (bodyPost_ret (results_none rfl _ _ _) rfl ?_)
      exact ⟨rfl, ⟨2, x, (W (a)), s0, z, W, V, HB3.out.trans (by kernel_rfl)⟩, HK3.out⟩
set_option maxRecDepth 100000 in
set_option maxHeartbeats 8000000 in
/-- A word was moved. -/
theorem fw_take4 (w : World) (b : Nat) (p : Nat → Int) (f got : Int) (a : Nat) (ha : a ≤ 4) (h : IsFo w b 89 p 4 (a : Int) f) (hp : FoOk p) (ha4 : a < 4) (m : Nat) (hma : m = a + 1) (hm : (m : Int) < p 3) :
    Calls Try.prog 84 #[.pointer (some ⟨b, 0, none⟩), .int .u32 got] w (FoQ w b 89 p 4 (m : Int) f) := by
  obtain ⟨o1, o2, o3, s0, s1, W, V, hb⟩ := h
  have c5 : w.cell? ⟨b, 5, none⟩ = some (.int .i64 4) := cell_of hb 5
  have lb := lt_of hb
  have HP := Lib.hid hp
  have hpn : ∀ (b : Nat) w, (binOp .eql 68 (.pointer (some ⟨b, 0, none⟩)) (.pointer none)).run Try.prog w = .ok (.bool false) w := fun b w => by kernel_rfl
  have c15 : w.cell? ⟨b, 15, none⟩ = some (.int .i64 (a : Int)) := cell_of hb 15
  have f15 := free_of hb 15
  have HB := Lib.hid hb
  have hd : decide ((m : Int) < p 3) = true := by simp; omega
  have hw3 := hp.w
  have i1 : (a : Int) + 1 = (m : Int) := by omega
  have i2 : (0 : Int) ≤ (m : Int) := by omega
  have i3 : (m : Int) < 4 := by omega
  have iw : IntKind.i64.wrap (m : Int) = (m : Int) := IntWalk.i64_in _ ⟨by omega, by omega⟩
  have I1 := Lib.hid i1
  have HA4 := Lib.hid ha4
  clear hb hp i1 hma hm
  go_enter Try.func84, Try.ntmps84
  go_wp2_with fail
  refine wp_scope_n 2 ?_
  go_wp2_with fail
  go_step3
  refine scopeN_goto rfl ?_
  rw [I1.out]
  have HBx := Lib.hid (show (w.setCell ⟨b, 15, none⟩ (.int .i64 (m : Int))).heap[b]? = some (.cells (foC p 4 o1 o2 o3 s0 s1 W (m : Int) f V) 89 (0, 0)) from heap_set HB.out 15 _)
  have HKx := Lib.hid ((Keeps.refl (fun X => X = b) w).setCell (p := ⟨b, 15, none⟩) (.inl rfl) (.int .i64 (m : Int)))
  clear c5 c15 f15 lb
  generalize w.setCell ⟨b, 15, none⟩ (.int .i64 (m : Int)) = Wd at HBx HKx ⊢
  go_wp2_with fail
  have HBw := Lib.hid (show Wd.drew.heap[b]? = _ from HBx.out)
  have HKw := Lib.hid HKx.out.drew
  go_region_held3 (fun w' => w'.cell? ⟨b, 15, none⟩ = some (.int .i64 ((m : Int))) ∧ w'.cell? ⟨b, 3, none⟩ = some (.int .i64 (p 3)))
    (first
      | exact ⟨cell_of HBw.out 15, cell_of HBw.out 3⟩
      | go_keep)
    (fail)
  all_goals
    generalize Wd.drew = Wv at HBw HKw ⊢
    go_wp2_with fail
    have HBv := Lib.hid (show Wv.drew.heap[b]? = _ from HBw.out)
    have HKv := Lib.hid HKw.out.drew
    go_region_held3 (fun w' => w'.cell? ⟨b, 15, none⟩ = some (.int .i64 ((m : Int))) ∧ w'.cell? ⟨b, 11 + (m), none⟩ = some (.int .u32 (W (m))))
      (first
        | exact ⟨cell_of HBv.out 15, (cell_of HBv.out (11 + (m))).trans (fword_at p _ _ _ _ _ _ W _ _ _ (m) (by omega))⟩
        | exact ⟨(cell_of (setsL_heap [(5, .int .i64 4)] HBv.out) 15).trans (setsC_get _ _ 15 (by simp)), ((cell_of (setsL_heap [(5, .int .i64 4)] HBv.out) (11 + (m))).trans (setsC_get _ _ (11 + (m)) (by simp; omega))).trans (fword_at p _ _ _ _ _ _ W _ _ _ (m) (by omega))⟩
        | exact ⟨(cell_of (setsL_heap [(5, .int .i64 4), (6, .int .i64 2), (7, .int .i64 x), (8, .int .u32 (W (m)))] HBv.out) 15).trans (setsC_get _ _ 15 (by simp)), ((cell_of (setsL_heap [(5, .int .i64 4), (6, .int .i64 2), (7, .int .i64 x), (8, .int .u32 (W (m)))] HBv.out) (11 + (m))).trans (setsC_get _ _ (11 + (m)) (by simp; omega))).trans (fword_at p _ _ _ _ _ _ W _ _ _ (m) (by omega))⟩
        | go_keep)
      (first
        | (go_at_call 88; refine (fo_data _ b (s0) (s1) (lt_of HBv.out) (cell_of HBv.out 9) (cell_of HBv.out 10)).mono ?_; rintro e2 w2 ⟨X, Y, i, rfl, hX, hY, k2⟩; replace HBv := Lib.hid (k2.at HBv.out fun h => h); replace HKv := Lib.hid (HKv.out.own k2 fun _ h => h.elim); have HX := Lib.hid hX; have HY := Lib.hid hY; clear k2 hX hY)
        | (go_at_call 89; refine (slot_cell _ b X Y p i _ (plAt_of HBv.out rfl rfl rfl rfl rfl) HP.out.ok HX.out HY.out).mono ?_; rintro e4 w4 ⟨⟨x, rfl⟩, k4⟩; replace HBv := Lib.hid (k4.at HBv.out fun h => h); replace HKv := Lib.hid (HKv.out.own k4 fun _ h => h.elim); clear k4; have q5 := cell_of HBv.out 5; have q6 := cell_of HBv.out 6; have q7 := cell_of HBv.out 7; have q8 := cell_of HBv.out 8; have r5 := free_of HBv.out 5; have r6 := free_of HBv.out 6; have r7 := free_of HBv.out 7; have r8 := free_of HBv.out 8; have lq := lt_of HBv.out)
        | fail)
    all_goals
      have HB3 := Lib.hid (setsL_heap [(5, .int .i64 4), (6, .int .i64 2), (7, .int .i64 x), (8, .int .u32 (W (m)))] HBv.out)
      have HK3 := Lib.hid (HKv.out.trans (setsL_keep [(5, .int .i64 4), (6, .int .i64 2), (7, .int .i64 x), (8, .int .u32 (W (m)))] _ b))
      clear q5 q6 q7 q8 r5 r6 r7 r8 lq
      go_wp2_with fail
      refine scopeN_ret _ (bodyPost_ret (results_none rfl _ _ _) rfl ?_)
      exact ⟨rfl, ⟨2, x, (W (m)), s0, s1, W, V, HB3.out.trans (by kernel_rfl)⟩, HK3.out⟩
set_option maxRecDepth 100000 in
set_option maxHeartbeats 8000000 in
/-- A word was moved. -/
theorem fw_take4e (w : World) (b : Nat) (p : Nat → Int) (f got : Int) (a : Nat) (ha : a ≤ 4) (h : IsFo w b 89 p 4 (a : Int) f) (hp : FoOk p) (ha4 : a < 4) (m : Nat) (hma : m = a + 1) (hm : p 3 ≤ (m : Int)) :
    Calls Try.prog 84 #[.pointer (some ⟨b, 0, none⟩), .int .u32 got] w (FoQ w b 89 p 5 (m : Int) f) := by
  obtain ⟨o1, o2, o3, s0, s1, W, V, hb⟩ := h
  have c5 : w.cell? ⟨b, 5, none⟩ = some (.int .i64 4) := cell_of hb 5
  have lb := lt_of hb
  have HP := Lib.hid hp
  have hpn : ∀ (b : Nat) w, (binOp .eql 68 (.pointer (some ⟨b, 0, none⟩)) (.pointer none)).run Try.prog w = .ok (.bool false) w := fun b w => by kernel_rfl
  have c15 : w.cell? ⟨b, 15, none⟩ = some (.int .i64 (a : Int)) := cell_of hb 15
  have f15 := free_of hb 15
  have HB := Lib.hid hb
  have hd : decide ((m : Int) < p 3) = false := by simp; omega
  have hw3 := hp.w
  have i1 : (a : Int) + 1 = (m : Int) := by omega
  have i2 : (0 : Int) ≤ (m : Int) := by omega
  have iw : IntKind.i64.wrap (m : Int) = (m : Int) := IntWalk.i64_in _ ⟨by omega, by omega⟩
  have I1 := Lib.hid i1
  have HA4 := Lib.hid ha4
  clear hb hp i1 hma hm
  go_enter Try.func84, Try.ntmps84
  go_wp2_with fail
  refine wp_scope_n 2 ?_
  go_wp2_with fail
  go_step3
  refine scopeN_goto rfl ?_
  rw [I1.out]
  have HBx := Lib.hid (show (w.setCell ⟨b, 15, none⟩ (.int .i64 (m : Int))).heap[b]? = some (.cells (foC p 4 o1 o2 o3 s0 s1 W (m : Int) f V) 89 (0, 0)) from heap_set HB.out 15 _)
  have HKx := Lib.hid ((Keeps.refl (fun X => X = b) w).setCell (p := ⟨b, 15, none⟩) (.inl rfl) (.int .i64 (m : Int)))
  clear c5 c15 f15 lb
  generalize w.setCell ⟨b, 15, none⟩ (.int .i64 (m : Int)) = Wd at HBx HKx ⊢
  go_wp2_with fail
  have HBw := Lib.hid (show Wd.drew.heap[b]? = _ from HBx.out)
  have HKw := Lib.hid HKx.out.drew
  go_region_held3 (fun w' => w'.cell? ⟨b, 15, none⟩ = some (.int .i64 ((m : Int))) ∧ w'.cell? ⟨b, 3, none⟩ = some (.int .i64 (p 3)))
    (first
      | exact ⟨cell_of HBw.out 15, cell_of HBw.out 3⟩
      | go_keep)
    (fail)
  all_goals
    generalize Wd.drew = Wv at HBw HKw ⊢
    go_wp2_with fail
    have HBv := Lib.hid (show Wv.drew.heap[b]? = _ from HBw.out)
    have HKv := Lib.hid HKw.out.drew
    go_region_held3 (fun w' => w'.cell? ⟨b, 10, none⟩ = some (.int .u32 s1))
      (first
        | exact (cell_of HB3.out 10).trans (by kernel_rfl)
        | exact cell_of HBv.out 10
        | go_keep)
      (first
        | (go_at_call 87; refine (fo_store _ b 89 _ p 5 6 s0 s1 HBv.out (Nat.le_refl 21) (plAt_of HBv.out rfl rfl rfl rfl rfl) (cell_of HBv.out 9) HP.out.ok (by omega)).mono ?_; rintro e3 w3 ⟨x, rfl, hb3, k3⟩; have HB3 := Lib.hid hb3; have HK3 := Lib.hid (HKv.out.trans k3); clear hb3 k3)
        | fail)
    all_goals
      go_wp2_with fail
      refine scopeN_normal _ (bodyPost_end (results_none rfl _ _ _) rfl ?_)
      exact ⟨rfl, ⟨2, x, s1, s0, s1, W, V, HB3.out.trans (by kernel_rfl)⟩, HK3.out⟩
set_option maxRecDepth 100000 in
set_option maxHeartbeats 8000000 in
/-- The index was told. -/
theorem fw_take5 (w : World) (b : Nat) (p : Nat → Int) (f got : Int) (a : Nat) (ha : a ≤ 4) (h : IsFo w b 89 p 5 (a : Int) f) (hp : FoOk p) :
    Calls Try.prog 84 #[.pointer (some ⟨b, 0, none⟩), .int .u32 got] w (FoQ w b 89 p 6 (a : Int) f) := by
  obtain ⟨o1, o2, o3, s0, s1, W, V, hb⟩ := h
  have c5 : w.cell? ⟨b, 5, none⟩ = some (.int .i64 5) := cell_of hb 5
  have lb := lt_of hb
  have HP := Lib.hid hp
  have hpn : ∀ (b : Nat) w, (binOp .eql 68 (.pointer (some ⟨b, 0, none⟩)) (.pointer none)).run Try.prog w = .ok (.bool false) w := fun b w => by kernel_rfl
  have HB := Lib.hid hb
  have HBv := Lib.hid (show w.drew.heap[b]? = _ from hb)
  have HKv := Lib.hid ((Keeps.refl (fun X => X = b) w).drew)
  clear hb hp
  go_enter Try.func84, Try.ntmps84
  go_wp2_with fail
  refine wp_scope_n 2 ?_
  go_wp2_with fail
  clear c5 lb
  go_region_held3 (fun w' => w'.cell? ⟨b, 9, none⟩ = some (.int .u32 s0))
    (first
      | exact (cell_of HB3.out 9).trans (by kernel_rfl)
      | exact cell_of HBv.out 9
      | go_keep)
    (first
      | (go_at_call 87; refine (fo_store _ b 89 _ p 6 4 s0 s0 HBv.out (Nat.le_refl 21) (plAt_of HBv.out rfl rfl rfl rfl rfl) (cell_of HBv.out 9) HP.out.ok (by omega)).mono ?_; rintro e3 w3 ⟨x, rfl, hb3, k3⟩; have HB3 := Lib.hid hb3; have HK3 := Lib.hid (HKv.out.trans k3); clear hb3 k3)
      | fail)
  all_goals
    go_wp2_with fail
    refine scopeN_ret _ (bodyPost_ret (results_none rfl _ _ _) rfl ?_)
    exact ⟨rfl, ⟨2, x, s0, s0, s1, W, V, HB3.out.trans (by kernel_rfl)⟩, HK3.out⟩
set_option maxRecDepth 100000 in
set_option maxHeartbeats 8000000 in
/-- The pair was told. -/
theorem fw_take6 (w : World) (b : Nat) (p : Nat → Int) (f got : Int) (a : Nat) (ha : a ≤ 4) (h : IsFo w b 89 p 6 (a : Int) f) (hp : FoOk p) :
    Calls Try.prog 84 #[.pointer (some ⟨b, 0, none⟩), .int .u32 got] w (FoQ w b 89 p 7 (a : Int) 0) := by
  obtain ⟨o1, o2, o3, s0, s1, W, V, hb⟩ := h
  have c5 : w.cell? ⟨b, 5, none⟩ = some (.int .i64 6) := cell_of hb 5
  have lb := lt_of hb
  have HP := Lib.hid hp
  have hpn : ∀ (b : Nat) w, (binOp .eql 68 (.pointer (some ⟨b, 0, none⟩)) (.pointer none)).run Try.prog w = .ok (.bool false) w := fun b w => by kernel_rfl
  have HB := Lib.hid hb
  clear hb hp
  go_enter Try.func84, Try.ntmps84
  go_wp2_with fail
  refine wp_scope_n 2 ?_
  go_wp2_with fail
  refine (fo_end w b 89 _ 0 HB.out (Nat.le_refl 21)).mono ?_
  rintro e3 w3 ⟨rfl, hb3, k3⟩
  have HB3 := Lib.hid hb3
  have HK3 := Lib.hid k3
  clear hb3 k3 c5 lb
  go_wp2_with fail
  refine scopeN_ret _ (bodyPost_ret (results_none rfl _ _ _) rfl ?_)
  exact ⟨rfl, ⟨0, 0, 0, s0, s1, W, fun _ => 0, HB3.out.trans (by kernel_rfl)⟩, HK3.out⟩
end Go.Proofs.Ytdnppkihpddlhaa
