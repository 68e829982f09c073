import Derived.Test.YtdnppkihpddlhaaBdL
namespace Go.Proofs.Ytdnppkihpddlhaa
open Go.ChangeShapes Go.WideShapes Go.ChangeAt Go.RowKit
set_option linter.unusedVariables false
set_option linter.unusedSimpArgs false
set_option maxRecDepth 100000 in
set_option maxHeartbeats 8000000 in
/-- The first part was read. -/
theorem fr_take1 (w : World) (b : Nat) (p : Nat → Int) (f got : Int) (a : Nat) (ha : a ≤ 4) (h : IsFo w b 90 p 1 (a : Int) f) (hp : FoOk p) :
    Calls Try.prog 92 #[.pointer (some ⟨b, 0, none⟩), .int .u32 got] w (FoQ w b 90 p 2 (a : Int) f) := by
  obtain ⟨o1, o2, o3, s0, s1, W, V, hb⟩ := h
  have c5 : w.cell? ⟨b, 5, none⟩ = some (.int .i64 1) := cell_of hb 5
  have lb := lt_of hb
  have HP := Lib.hid hp
  have hpn : ∀ (b : Nat) w, (binOp .eql 70 (.pointer (some ⟨b, 0, none⟩)) (.pointer none)).run Try.prog w = .ok (.bool false) w := fun b w => by kernel_rfl
  have c9 : w.cell? ⟨b, 9, none⟩ = some (.int .u32 s0) := cell_of hb 9
  have f9 := free_of hb 9
  have HB := Lib.hid hb
  clear hb hp
  go_enter Try.func92, Try.ntmps92
  go_wp2_with fail
  refine wp_scope_n 2 ?_
  go_wp2_with fail
  go_step3
  refine scopeN_goto rfl ?_
  go_wp2_with fail
  have HB1 := Lib.hid (show (w.setCell ⟨b, 9, none⟩ (.int .u32 (bits .and .u32 got 1))).heap[b]? = some (.cells (foC p 1 o1 o2 o3 (bits .and .u32 got 1) s1 W (a : Int) f V) 90 (0, 0)) from heap_set HB.out 9 _)
  have HK1 := Lib.hid ((Keeps.refl (fun X => X = b) w).setCell (p := ⟨b, 9, none⟩) (.inl rfl) (.int .u32 (bits .and .u32 got 1)))
  clear c5 c9 f9 lb
  generalize w.setCell ⟨b, 9, none⟩ (.int .u32 (bits .and .u32 got 1)) = W1 at HB1 HK1 ⊢
  generalize (bits .and .u32 got 1) = z at HB1 HK1 ⊢
  have HBv := Lib.hid (show W1.drew.heap[b]? = _ from HB1.out)
  have HKv := Lib.hid HK1.out.drew
  go_region_held3 (fun w' => w'.cell? ⟨b, 9, none⟩ = some (.int .u32 z))
    (first
      | exact (cell_of HB3.out 9).trans (by kernel_rfl)
      | exact cell_of HBv.out 9
      | go_keep)
    (first
      | (go_at_call 87; refine (fo_store _ b 90 _ p 2 5 z z HBv.out (Nat.le_refl 21) (plAt_of HBv.out rfl rfl rfl rfl rfl) (cell_of HBv.out 9) HP.out.ok (by omega)).mono ?_; rintro e3 w3 ⟨x, rfl, hb3, k3⟩; have HB3 := Lib.hid hb3; have HK3 := Lib.hid (HKv.out.trans k3); clear hb3 k3)
      | fail)
  all_goals
    go_wp2_with fail
    refine scopeN_ret _ (bodyPost_ret (results_none rfl _ _ _) rfl ?_)
    exact ⟨rfl, ⟨2, x, z, z, s1, W, V, HB3.out.trans (by kernel_rfl)⟩, HK3.out⟩
set_option maxRecDepth 100000 in
set_option maxHeartbeats 8000000 in
/-- The pair was told. -/
theorem fr_take2 (w : World) (b : Nat) (p : Nat → Int) (f got : Int) (a : Nat) (ha : a ≤ 4) (h : IsFo w b 90 p 2 (a : Int) f) (hp : FoOk p) :
    Calls Try.prog 92 #[.pointer (some ⟨b, 0, none⟩), .int .u32 got] w (FoQ w b 90 p 3 (a : Int) f) := by
  obtain ⟨o1, o2, o3, s0, s1, W, V, hb⟩ := h
  have c5 : w.cell? ⟨b, 5, none⟩ = some (.int .i64 2) := cell_of hb 5
  have lb := lt_of hb
  have HP := Lib.hid hp
  have hpn : ∀ (b : Nat) w, (binOp .eql 70 (.pointer (some ⟨b, 0, none⟩)) (.pointer none)).run Try.prog w = .ok (.bool false) w := fun b w => by kernel_rfl
  have HB := Lib.hid hb
  clear hb hp
  go_enter Try.func92, Try.ntmps92
  go_wp2_with fail
  refine wp_scope_n 2 ?_
  go_wp2_with fail
  refine (fo_load w b 90 _ p 3 6 s0 0 HB.out (Nat.le_refl 21) (plAt_of HB.out rfl rfl rfl rfl rfl) (cell_of HB.out 9) HP.out.ok (by omega)).mono ?_
  rintro e3 w3 ⟨x, rfl, hb3, k3⟩
  have HB3 := Lib.hid hb3
  have HK3 := Lib.hid k3
  clear hb3 k3 c5 lb
  go_wp2_with fail
  refine scopeN_ret _ (bodyPost_ret (results_none rfl _ _ _) rfl ?_)
  exact ⟨rfl, ⟨1, x, 0, s0, s1, W, V, HB3.out.trans (by kernel_rfl)⟩, HK3.out⟩
set_option maxRecDepth 100000 in
set_option maxHeartbeats 8000000 in
/-- The index was read. -/
theorem fr_take3 (w : World) (b : Nat) (p : Nat → Int) (f got : Int) (a : Nat) (ha : a ≤ 4) (h : IsFo w b 90 p 3 (a : Int) f) (hp : FoOk p) (hm : (a : Int) < p 3) :
    Calls Try.prog 92 #[.pointer (some ⟨b, 0, none⟩), .int .u32 got] w (FoQ w b 90 p 4 (a : Int) f) := by
  obtain ⟨o1, o2, o3, s0, s1, W, V, hb⟩ := h
  have c5 : w.cell? ⟨b, 5, none⟩ = some (.int .i64 3) := cell_of hb 5
  have lb := lt_of hb
  have HP := Lib.hid hp
  have hpn : ∀ (b : Nat) w, (binOp .eql 70 (.pointer (some ⟨b, 0, none⟩)) (.pointer none)).run Try.prog w = .ok (.bool false) w := fun b w => by kernel_rfl
  have c10 : w.cell? ⟨b, 10, none⟩ = some (.int .u32 s1) := cell_of hb 10
  have f10 := free_of hb 10
  have HB := Lib.hid hb
  have hw3 := hp.w
  have hd2 : decide ((a : Int) < p 3) = true := by simp; omega
  have i2 : (0 : Int) ≤ (a : Int) := by omega
  have i3 : (a : Int) < 4 := by omega
  have iw : IntKind.i64.wrap (a : Int) = (a : Int) := IntWalk.i64_in _ ⟨by omega, by omega⟩
  clear hb hp hm
  go_enter Try.func92, Try.ntmps92
  go_wp2_with fail
  refine wp_scope_n 2 ?_
  go_wp2_with fail
  go_step3
  refine scopeN_goto rfl ?_
  go_wp2_with fail
  have HB1 := Lib.hid (show (w.setCell ⟨b, 10, none⟩ (.int .u32 (bits .and .u32 got 1))).heap[b]? = some (.cells (foC p 3 o1 o2 o3 s0 (bits .and .u32 got 1) W (a : Int) f V) 90 (0, 0)) from heap_set HB.out 10 _)
  have HK1 := Lib.hid ((Keeps.refl (fun X => X = b) w).setCell (p := ⟨b, 10, none⟩) (.inl rfl) (.int .u32 (bits .and .u32 got 1)))
  clear c5 c10 f10 lb
  generalize w.setCell ⟨b, 10, none⟩ (.int .u32 (bits .and .u32 got 1)) = Wd at HB1 HK1 ⊢
  generalize (bits .and .u32 got 1) = z at HB1 HK1 ⊢
  go_step3
  go_wp2_with fail
  have HBw := Lib.hid (show Wd.drew.heap[b]? = _ from HB1.out)
  have HKw := Lib.hid HK1.out.drew
  go_region_held3 (fun w' => w'.cell? ⟨b, 15, none⟩ = some (.int .i64 ((a : Int))) ∧ w'.cell? ⟨b, 3, none⟩ = some (.int .i64 (p 3)))
    (first
      | exact ⟨cell_of HBw.out 15, cell_of HBw.out 3⟩
      | go_keep)
    (fail)
  all_goals
    generalize Wd.drew = Wv at HBw HKw ⊢
    go_wp2_with fail
    have HBv := Lib.hid (show Wv.drew.heap[b]? = _ from HBw.out)
    have HKv := Lib.hid HKw.out.drew
    go_region_held3 (fun w' => w'.cell? ⟨b, 15, none⟩ = some (.int .i64 ((a : Int))))
      (first
        | exact cell_of HBv.out 15
        | exact (cell_of (setsL_heap [(5, .int .i64 4)] HBv.out) 15).trans (setsC_get _ _ 15 (by simp))
        | exact (cell_of (setsL_heap [(5, .int .i64 4), (6, .int .i64 1), (7, .int .i64 x), (8, .int .u32 0)] HBv.out) 15).trans (setsC_get _ _ 15 (by simp))
        | go_keep)
      (first
        | (go_at_call 88; refine (fo_data _ b (s0) (z) (lt_of HBv.out) (cell_of HBv.out 9) (cell_of HBv.out 10)).mono ?_; rintro e2 w2 ⟨X, Y, i, rfl, hX, hY, k2⟩; replace HBv := Lib.hid (k2.at HBv.out fun h => h); replace HKv := Lib.hid (HKv.out.own k2 fun _ h => h.elim); have HX := Lib.hid hX; have HY := Lib.hid hY; clear k2 hX hY)
        | (go_at_call 89; refine (slot_cell _ b X Y p i _ (plAt_of HBv.out rfl rfl rfl rfl rfl) HP.out.ok HX.out HY.out).mono ?_; rintro e4 w4 ⟨⟨x, rfl⟩, k4⟩; replace HBv := Lib.hid (k4.at HBv.out fun h => h); replace HKv := Lib.hid (HKv.out.own k4 fun _ h => h.elim); clear k4; have q5 := cell_of HBv.out 5; have q6 := cell_of HBv.out 6; have q7 := cell_of HBv.out 7; have q8 := cell_of HBv.out 8; have r5 := free_of HBv.out 5; have r6 := free_of HBv.out 6; have r7 := free_of HBv.out 7; have r8 := free_of HBv.out 8; have lq := lt_of HBv.out)
        | fail)
    all_goals
      have HB3 := Lib.hid (setsL_heap [(5, .int .i64 4), (6, .int .i64 1), (7, .int .i64 x), (8, .int .u32 0)] HBv.out)
      have HK3 := Lib.hid (HKv.out.trans (setsL_keep [(5, .int .i64 4), (6, .int .i64 1), (7, .int .i64 x), (8, .int .u32 0)] _ b))
      clear q5 q6 q7 q8 r5 r6 r7 r8 lq
      go_wp2_with fail
      refine scopeN_ret _ (bodyPost_ret (results_none rfl _ _ _) rfl ?_)
      exact ⟨rfl, ⟨1, x, 0, s0, z, W, V, HB3.out.trans (by kernel_rfl)⟩, HK3.out⟩
set_option maxRecDepth 100000 in
set_option maxHeartbeats 8000000 in
/-- A word was moved. -/
theorem fr_take4 (w : World) (b : Nat) (p : Nat → Int) (f got : Int) (a : Nat) (ha : a ≤ 4) (h : IsFo w b 90 p 4 (a : Int) f) (hp : FoOk p) (ha4 : a < 4) (m : Nat) (hma : m = a + 1) (hm : (m : Int) < p 3) :
    Calls Try.prog 92 #[.pointer (some ⟨b, 0, none⟩), .int .u32 got] w (FoQ w b 90 p 4 (m : Int) f) := by
  obtain ⟨o1, o2, o3, s0, s1, W, V, hb⟩ := h
  have c5 : w.cell? ⟨b, 5, none⟩ = some (.int .i64 4) := cell_of hb 5
  have lb := lt_of hb
  have HP := Lib.hid hp
  have hpn : ∀ (b : Nat) w, (binOp .eql 70 (.pointer (some ⟨b, 0, none⟩)) (.pointer none)).run Try.prog w = .ok (.bool false) w := fun b w => by kernel_rfl
  have c15 : w.cell? ⟨b, 15, none⟩ = some (.int .i64 (a : Int)) := cell_of hb 15
  have f15 := free_of hb 15
  have cw : w.cell? ⟨b, 11 + a, none⟩ = some (.int .u32 (W a)) := (cell_of hb (11 + a)).trans (fword_at p _ _ _ _ _ _ W _ _ _ a ha4)
  have fw := free_of hb (11 + a)
  have j2 : (0 : Int) ≤ (a : Int) := by omega
  have j3 : (a : Int) < 4 := by omega
  have jw : IntKind.i64.wrap (a : Int) = (a : Int) := IntWalk.i64_in _ ⟨by omega, by omega⟩
  have HB := Lib.hid hb
  have hd : decide ((m : Int) < p 3) = true := by simp; omega
  have hw3 := hp.w
  have i1 : (a : Int) + 1 = (m : Int) := by omega
  have i2 : (0 : Int) ≤ (m : Int) := by omega
  have i3 : (m : Int) < 4 := by omega
  have iw : IntKind.i64.wrap (m : Int) = (m : Int) := IntWalk.i64_in _ ⟨by omega, by omega⟩
  have I1 := Lib.hid i1
  have HA4 := Lib.hid ha4
  clear hb hp i1 hma hm
  go_enter Try.func92, Try.ntmps92
  go_wp2_with fail
  refine wp_scope_n 2 ?_
  go_wp2_with fail
  go_region
  have HB1 := Lib.hid (show ((w.setCell ⟨b, 11 + a, none⟩ (.int .u32 got)).drew).heap[b]? = some (.cells (foC p 4 o1 o2 o3 s0 s1 (fun i => if i = a then got else W i) (a : Int) f V) 90 (0, 0)) from (heap_set HB.out (11 + a) (.int .u32 got)).trans (by rw [fword_set p _ _ _ _ _ _ W _ _ _ a HA4.out got]))
  have HK1 := Lib.hid (((Keeps.refl (fun X => X = b) w).setCell (p := ⟨b, 11 + a, none⟩) (.inl rfl) (.int .u32 got)).drew)
  clear c15 f15 cw fw c5 lb
  generalize (w.setCell ⟨b, 11 + a, none⟩ (.int .u32 got)).drew = W1 at HB1 HK1 ⊢
  generalize (fun i => if i = a then got else W i) = W' at HB1
  have c15 : W1.cell? ⟨b, 15, none⟩ = some (.int .i64 (a : Int)) := cell_of HB1.out 15
  have f15 := free_of HB1.out 15
  have l1 := lt_of HB1.out
  go_wp2_with fail
  go_step3
  refine scopeN_goto rfl ?_
  rw [I1.out]
  have HBx := Lib.hid (show (W1.setCell ⟨b, 15, none⟩ (.int .i64 (m : Int))).heap[b]? = some (.cells (foC p 4 o1 o2 o3 s0 s1 W' (m : Int) f V) 90 (0, 0)) from heap_set HB1.out 15 _)
  have HKx := Lib.hid (HK1.out.setCell (p := ⟨b, 15, none⟩) (.inl rfl) (.int .i64 (m : Int)))
  clear c15 f15 l1
  generalize W1.setCell ⟨b, 15, none⟩ (.int .i64 (m : Int)) = Wd at HBx HKx ⊢
  go_wp2_with fail
  have HBw := Lib.hid (show Wd.drew.heap[b]? = _ from HBx.out)
  have HKw := Lib.hid HKx.out.drew
  go_region_held3 (fun w' => w'.cell? ⟨b, 15, none⟩ = some (.int .i64 ((m : Int))) ∧ w'.cell? ⟨b, 3, none⟩ = some (.int .i64 (p 3)))
    (first
      | exact ⟨cell_of HBw.out 15, cell_of HBw.out 3⟩
      | go_keep)
    (fail)
  all_goals
    generalize Wd.drew = Wv at HBw HKw ⊢
    go_wp2_with fail
    have HBv := Lib.hid (show Wv.drew.heap[b]? = _ from HBw.out)
    have HKv := Lib.hid HKw.out.drew
    go_region_held3 (fun w' => w'.cell? ⟨b, 15, none⟩ = some (.int .i64 ((m : Int))))
      (first
        | exact cell_of HBv.out 15
        | exact (cell_of (setsL_heap [(5, .int .i64 4)] HBv.out) 15).trans (setsC_get _ _ 15 (by simp))
        | exact (cell_of (setsL_heap [(5, .int .i64 4), (6, .int .i64 1), (7, .int .i64 x), (8, .int .u32 0)] HBv.out) 15).trans (setsC_get _ _ 15 (by simp))
        | go_keep)
      (first
        | (go_at_call 88; refine (fo_data _ b (s0) (s1) (lt_of HBv.out) (cell_of HBv.out 9) (cell_of HBv.out 10)).mono ?_; rintro e2 w2 ⟨X, Y, i, rfl, hX, hY, k2⟩; replace HBv := Lib.hid (k2.at HBv.out fun h => h); replace HKv := Lib.hid (HKv.out.own k2 fun _ h => h.elim); have HX := Lib.hid hX; have HY := Lib.hid hY; clear k2 hX hY)
        | (go_at_call 89; refine (slot_cell _ b X Y p i _ (plAt_of HBv.out rfl rfl rfl rfl rfl) HP.out.ok HX.out HY.out).mono ?_; rintro e4 w4 ⟨⟨x, rfl⟩, k4⟩; replace HBv := Lib.hid (k4.at HBv.out fun h => h); replace HKv := Lib.hid (HKv.out.own k4 fun _ h => h.elim); clear k4; have q5 := cell_of HBv.out 5; have q6 := cell_of HBv.out 6; have q7 := cell_of HBv.out 7; have q8 := cell_of HBv.out 8; have r5 := free_of HBv.out 5; have r6 := free_of HBv.out 6; have r7 := free_of HBv.out 7; have r8 := free_of HBv.out 8; have lq := lt_of HBv.out)
        | fail)
    all_goals
      have HB3 := Lib.hid (setsL_heap [(5, .int .i64 4), (6, .int .i64 1), (7, .int .i64 x), (8, .int .u32 0)] HBv.out)
      have HK3 := Lib.hid (HKv.out.trans (setsL_keep [(5, .int .i64 4), (6, .int .i64 1), (7, .int .i64 x), (8, .int .u32 0)] _ b))
      clear q5 q6 q7 q8 r5 r6 r7 r8 lq
      go_wp2_with fail
      refine scopeN_ret _ (bodyPost_ret (results_none rfl _ _ _) rfl ?_)
      exact ⟨rfl, ⟨1, x, 0, s0, s1, W', V, HB3.out.trans (by kernel_rfl)⟩, HK3.out⟩
set_option maxRecDepth 100000 in
set_option maxHeartbeats 8000000 in
/-- A word was moved. -/
theorem fr_take4e (w : World) (b : Nat) (p : Nat → Int) (f got : Int) (a : Nat) (ha : a ≤ 4) (h : IsFo w b 90 p 4 (a : Int) f) (hp : FoOk p) (ha4 : a < 4) (m : Nat) (hma : m = a + 1) (hm : p 3 ≤ (m : Int)) :
    Calls Try.prog 92 #[.pointer (some ⟨b, 0, none⟩), .int .u32 got] w (FoQ w b 90 p 7 (m : Int) 0) := by
  obtain ⟨o1, o2, o3, s0, s1, W, V, hb⟩ := h
  have c5 : w.cell? ⟨b, 5, none⟩ = some (.int .i64 4) := cell_of hb 5
  have lb := lt_of hb
  have HP := Lib.hid hp
  have hpn : ∀ (b : Nat) w, (binOp .eql 70 (.pointer (some ⟨b, 0, none⟩)) (.pointer none)).run Try.prog w = .ok (.bool false) w := fun b w => by kernel_rfl
  have c15 : w.cell? ⟨b, 15, none⟩ = some (.int .i64 (a : Int)) := cell_of hb 15
  have f15 := free_of hb 15
  have cw : w.cell? ⟨b, 11 + a, none⟩ = some (.int .u32 (W a)) := (cell_of hb (11 + a)).trans (fword_at p _ _ _ _ _ _ W _ _ _ a ha4)
  have fw := free_of hb (11 + a)
  have j2 : (0 : Int) ≤ (a : Int) := by omega
  have j3 : (a : Int) < 4 := by omega
  have jw : IntKind.i64.wrap (a : Int) = (a : Int) := IntWalk.i64_in _ ⟨by omega, by omega⟩
  have HB := Lib.hid hb
  have hd : decide ((m : Int) < p 3) = false := by simp; omega
  have hw3 := hp.w
  have i1 : (a : Int) + 1 = (m : Int) := by omega
  have i2 : (0 : Int) ≤ (m : Int) := by omega
  have iw : IntKind.i64.wrap (m : Int) = (m : Int) := IntWalk.i64_in _ ⟨by omega, by omega⟩
  have I1 := Lib.hid i1
  have HA4 := Lib.hid ha4
  clear hb hp i1 hma hm
  go_enter Try.func92, Try.ntmps92
  go_wp2_with fail
  refine wp_scope_n 2 ?_
  go_wp2_with fail
  go_region
  have HB1 := Lib.hid (show ((w.setCell ⟨b, 11 + a, none⟩ (.int .u32 got)).drew).heap[b]? = some (.cells (foC p 4 o1 o2 o3 s0 s1 (fun i => if i = a then got else W i) (a : Int) f V) 90 (0, 0)) from (heap_set HB.out (11 + a) (.int .u32 got)).trans (by rw [fword_set p _ _ _ _ _ _ W _ _ _ a HA4.out got]))
  have HK1 := Lib.hid (((Keeps.refl (fun X => X = b) w).setCell (p := ⟨b, 11 + a, none⟩) (.inl rfl) (.int .u32 got)).drew)
  clear c15 f15 cw fw c5 lb
  generalize (w.setCell ⟨b, 11 + a, none⟩ (.int .u32 got)).drew = W1 at HB1 HK1 ⊢
  generalize (fun i => if i = a then got else W i) = W' at HB1
  have c15 : W1.cell? ⟨b, 15, none⟩ = some (.int .i64 (a : Int)) := cell_of HB1.out 15
  have f15 := free_of HB1.out 15
  have l1 := lt_of HB1.out
  go_wp2_with fail
  go_step3
  refine scopeN_goto rfl ?_
  rw [I1.out]
  have HBx := Lib.hid (show (W1.setCell ⟨b, 15, none⟩ (.int .i64 (m : Int))).heap[b]? = some (.cells (foC p 4 o1 o2 o3 s0 s1 W' (m : Int) f V) 90 (0, 0)) from heap_set HB1.out 15 _)
  have HKx := Lib.hid (HK1.out.setCell (p := ⟨b, 15, none⟩) (.inl rfl) (.int .i64 (m : Int)))
  clear c15 f15 l1
  generalize W1.setCell ⟨b, 15, none⟩ (.int .i64 (m : Int)) = Wd at HBx HKx ⊢
  go_wp2_with fail
  have HBw := Lib.hid (show Wd.drew.heap[b]? = _ from HBx.out)
  have HKw := Lib.hid HKx.out.drew
  go_region_held3 (fun w' => w'.cell? ⟨b, 15, none⟩ = some (.int .i64 ((m : Int))) ∧ w'.cell? ⟨b, 3, none⟩ = some (.int .i64 (p 3)))
    (first
      | exact ⟨cell_of HBw.out 15, cell_of HBw.out 3⟩
      | go_keep)
    (fail)
  all_goals
    generalize Wd.drew = Wv at HBw HKw ⊢
    go_wp2_with fail
    refine (fo_end Wv b 90 _ 0 HBw.out (Nat.le_refl 21)).mono ?_
    rintro e3 w3 ⟨rfl, hb3, k3⟩
    have hb4 : w3.heap[b]? = some (.cells (foC p 7 0 0 0 s0 s1 W' (m : Int) 0 fun _ => 0) 90 (0, 0)) := hb3.trans (by kernel_rfl)
    have g11 := cell_of hb4 11
    have h11 := free_of hb4 11
    have g12 := cell_of hb4 12
    have h12 := free_of hb4 12
    have g13 := cell_of hb4 13
    have h13 := free_of hb4 13
    have g14 := cell_of hb4 14
    have h14 := free_of hb4 14
    have g17 := cell_of hb4 17
    have h17 := free_of hb4 17
    have g18 := cell_of hb4 18
    have h18 := free_of hb4 18
    have g19 := cell_of hb4 19
    have h19 := free_of hb4 19
    have g20 := cell_of hb4 20
    have h20 := free_of hb4 20
    have l4 := lt_of hb4
    have HB3 := Lib.hid hb4
    have HK3 := Lib.hid (HKw.out.trans k3)
    clear hb3 k3 hb4
    go_wp2_with fail
    refine scopeN_normal _ (bodyPost_end (results_none rfl _ _ _) rfl ?_)
    exact ⟨rfl, ⟨0, 0, 0, s0, s1, W', W', (setsL_heap [(17, .int .u32 (W' 0)), (18, .int .u32 (W' 1)), (19, .int .u32 (W' 2)), (20, .int .u32 (W' 3))] HB3.out).trans (by kernel_rfl)⟩, HK3.out.trans (setsL_keep [(17, .int .u32 (W' 0)), (18, .int .u32 (W' 1)), (19, .int .u32 (W' 2)), (20, .int .u32 (W' 3))] w3 b)⟩
end Go.Proofs.Ytdnppkihpddlhaa
