import Derived.Test.YtdnppkihpddlhaaBdJ
namespace Go.Proofs.Ytdnppkihpddlhaa
open Go.ChangeShapes Go.WideShapes Go.ChangeAt Go.RowKit
set_option linter.unusedVariables false
set_option linter.unusedSimpArgs false
theorem word_set (p : Nat → Int) (st o1 o2 o3 own : Int) (W : Nat → Int) (at' f : Int) (V : Nat → Int) (a : Nat) (ha : a < 4) (g : Int) : (rgC p st o1 o2 o3 own W at' f V).setIfInBounds (10 + a) (.int .u32 g) = rgC p st o1 o2 o3 own (fun i => if i = a then g else W i) at' f V := by
  rcases (by omega : a = 0 ∨ a = 1 ∨ a = 2 ∨ a = 3) with rfl | rfl | rfl | rfl <;> rfl
set_option maxRecDepth 100000 in
set_option maxHeartbeats 8000000 in
/-- The own counter was read. -/
theorem pop_take1 (w : World) (b : Nat) (p : Nat → Int) (own f got : Int) (a : Nat) (ha : a ≤ 4) (h : IsRg w b 83 p 1 own (a : Int) f) (hp : RgOk p) :
    Calls Try.prog 81 #[.pointer (some ⟨b, 0, none⟩), .int .u32 got] w (RgQ w b 83 p 2 got (a : Int) f) := by
  obtain ⟨o1, o2, o3, W, V, hb⟩ := h
  have c5 : w.cell? ⟨b, 5, none⟩ = some (.int .i64 1) := cell_of hb 5
  have lb := lt_of hb
  have HP := Lib.hid hp
  have hpn : ∀ (b : Nat) w, (binOp .eql 66 (.pointer (some ⟨b, 0, none⟩)) (.pointer none)).run Try.prog w = .ok (.bool false) w := fun b w => by kernel_rfl
  have c9 : w.cell? ⟨b, 9, none⟩ = some (.int .u32 own) := cell_of hb 9
  have f9 := free_of hb 9
  have HB := Lib.hid hb
  clear hb hp
  go_enter Try.func81, Try.ntmps81
  go_wp2_with fail
  refine wp_scope_n 2 ?_
  go_wp2_with fail
  go_step3
  refine scopeN_goto rfl ?_
  go_wp2_with fail
  have HB1 := Lib.hid (show (w.setCell ⟨b, 9, none⟩ (.int .u32 got)).heap[b]? = some (.cells (rgC p 1 o1 o2 o3 got W (a : Int) f V) 83 (0, 0)) from heap_set HB.out 9 _)
  have HK1 := Lib.hid ((Keeps.refl (fun X => X = b) w).setCell (p := ⟨b, 9, none⟩) (.inl rfl) (.int .u32 got))
  clear c5 c9 f9 lb
  generalize w.setCell ⟨b, 9, none⟩ (.int .u32 got) = W1 at HB1 HK1 ⊢
  go_region_held3 (fun _ => True)
    (first
      | trivial
      | go_keep)
    (first
      | (go_at_call 72; refine (rg_counter W1.drew b p 2 (plAt_of (show W1.drew.heap[b]? = _ from HB1.out) rfl rfl rfl rfl rfl) HP.out.ok (by omega)).mono ?_; rintro e2 w2 ⟨⟨x, rfl⟩, k2⟩; have HB2 := Lib.hid (k2.at (show W1.drew.heap[b]? = _ from HB1.out) fun h => h); have HK2 := Lib.hid (HK1.out.drew.own k2 fun _ h => h.elim); clear k2)
      | (go_at_call 38; refine (rg_load w2 b 83 _ 2 x HB2.out (Nat.le_refl 20)).mono ?_; rintro e3 w3 ⟨rfl, hb3, k3⟩; have HB3 := Lib.hid hb3; have HK3 := Lib.hid (HK2.out.trans k3); clear hb3 k3)
      | fail)
  all_goals
    go_wp2_with fail
    refine scopeN_ret _ (bodyPost_ret (results_none rfl _ _ _) rfl ?_)
    exact ⟨rfl, ⟨1, x, 0, W, V, HB3.out.trans (by kernel_rfl)⟩, HK3.out⟩
set_option maxRecDepth 100000 in
set_option maxHeartbeats 8000000 in
/-- The own counter was moved. -/
theorem pop_take4 (w : World) (b : Nat) (p : Nat → Int) (own f got : Int) (a : Nat) (ha : a ≤ 4) (h : IsRg w b 83 p 4 own (a : Int) f) (hp : RgOk p) :
    Calls Try.prog 81 #[.pointer (some ⟨b, 0, none⟩), .int .u32 got] w (RgQ w b 83 p 5 own (a : Int) 0) := by
  obtain ⟨o1, o2, o3, W, V, hb⟩ := h
  have c5 : w.cell? ⟨b, 5, none⟩ = some (.int .i64 4) := cell_of hb 5
  have lb := lt_of hb
  have HP := Lib.hid hp
  have hpn : ∀ (b : Nat) w, (binOp .eql 66 (.pointer (some ⟨b, 0, none⟩)) (.pointer none)).run Try.prog w = .ok (.bool false) w := fun b w => by kernel_rfl
  have HB := Lib.hid hb
  clear hb hp
  go_enter Try.func81, Try.ntmps81
  go_wp2_with fail
  refine wp_scope_n 2 ?_
  go_wp2_with fail
  refine (rg_end w b 83 _ 0 HB.out (Nat.le_refl 20)).mono ?_
  rintro e3 w3 ⟨rfl, hb3, k3⟩
  have hb4 : w3.heap[b]? = some (.cells (rgC p 5 0 0 0 own W (a : Int) 0 fun _ => 0) 83 (0, 0)) := hb3.trans (by kernel_rfl)
  have g10 := cell_of hb4 10
  have h10 := free_of hb4 10
  have g11 := cell_of hb4 11
  have h11 := free_of hb4 11
  have g12 := cell_of hb4 12
  have h12 := free_of hb4 12
  have g13 := cell_of hb4 13
  have h13 := free_of hb4 13
  have g16 := cell_of hb4 16
  have h16 := free_of hb4 16
  have g17 := cell_of hb4 17
  have h17 := free_of hb4 17
  have g18 := cell_of hb4 18
  have h18 := free_of hb4 18
  have g19 := cell_of hb4 19
  have h19 := free_of hb4 19
  have l4 := lt_of hb4
  have HB3 := Lib.hid hb4
  have HK3 := Lib.hid k3
  clear hb3 k3 c5 lb hb4
  go_wp2_with fail
  refine scopeN_ret _ (bodyPost_ret (results_none rfl _ _ _) rfl ?_)
  exact ⟨rfl, ⟨0, 0, 0, W, W, (setsL_heap [(16, .int .u32 (W 0)), (17, .int .u32 (W 1)), (18, .int .u32 (W 2)), (19, .int .u32 (W 3))] HB3.out).trans (by kernel_rfl)⟩, HK3.out.trans (setsL_keep [(16, .int .u32 (W 0)), (17, .int .u32 (W 1)), (18, .int .u32 (W 2)), (19, .int .u32 (W 3))] w3 b)⟩
set_option maxRecDepth 100000 in
set_option maxHeartbeats 8000000 in
/-- A word was put; another follows. -/
theorem pop_take3 (w : World) (b : Nat) (p : Nat → Int) (own f got : Int) (a : Nat) (ha : a ≤ 4) (h : IsRg w b 83 p 3 own (a : Int) f) (hp : RgOk p) (ha4 : a < 4) (m : Nat) (hma : m = a + 1) (hm : (m : Int) < p 3) :
    Calls Try.prog 81 #[.pointer (some ⟨b, 0, none⟩), .int .u32 got] w (RgQ w b 83 p 3 own (m : Int) f) := by
  obtain ⟨o1, o2, o3, W, V, hb⟩ := h
  have c5 : w.cell? ⟨b, 5, none⟩ = some (.int .i64 3) := cell_of hb 5
  have lb := lt_of hb
  have HP := Lib.hid hp
  have hpn : ∀ (b : Nat) w, (binOp .eql 66 (.pointer (some ⟨b, 0, none⟩)) (.pointer none)).run Try.prog w = .ok (.bool false) w := fun b w => by kernel_rfl
  have c14 : w.cell? ⟨b, 14, none⟩ = some (.int .i64 (a : Int)) := cell_of hb 14
  have cw : w.cell? ⟨b, 10 + a, none⟩ = some (.int .u32 (W a)) := (cell_of hb (10 + a)).trans (word_at p _ _ _ _ _ W _ _ _ a ha4)
  have fw := free_of hb (10 + a)
  have HB := Lib.hid hb
  have hd : decide ((m : Int) < p 3) = true := by simp; omega
  have hw3 := hp.w
  have j2 : (0 : Int) ≤ (a : Int) := by omega
  have j3 : (a : Int) < 4 := by omega
  have jw : IntKind.i64.wrap (a : Int) = (a : Int) := IntWalk.i64_in _ ⟨by omega, by omega⟩
  have i1 : (a : Int) + 1 = (m : Int) := by omega
  have i2 : (0 : Int) ≤ (m : Int) := by omega
  have iw : IntKind.i64.wrap (m : Int) = (m : Int) := IntWalk.i64_in _ ⟨by omega, by omega⟩
  have I1 := Lib.hid i1
  have HA4 := Lib.hid ha4
  clear hb hp i1 hma hm
  go_enter Try.func81, Try.ntmps81
  go_wp2_with fail
  refine wp_scope_n 2 ?_
  go_wp2_with fail
  go_region
  have HB1 := Lib.hid (show ((w.setCell ⟨b, 10 + a, none⟩ (.int .u32 got)).drew).heap[b]? = some (.cells (rgC p 3 o1 o2 o3 own (fun i => if i = a then got else W i) (a : Int) f V) 83 (0, 0)) from (heap_set HB.out (10 + a) (.int .u32 got)).trans (by rw [word_set p _ _ _ _ _ W _ _ _ a HA4.out got]))
  have HK1 := Lib.hid (((Keeps.refl (fun X => X = b) w).setCell (p := ⟨b, 10 + a, none⟩) (.inl rfl) (.int .u32 got)).drew)
  clear c14 cw fw c5 lb
  generalize (w.setCell ⟨b, 10 + a, none⟩ (.int .u32 got)).drew = W1 at HB1 HK1 ⊢
  generalize (fun i => if i = a then got else W i) = W' at HB1
  have c14 : W1.cell? ⟨b, 14, none⟩ = some (.int .i64 (a : Int)) := cell_of HB1.out 14
  have f14 := free_of HB1.out 14
  have l1 := lt_of HB1.out
  go_wp2_with fail
  go_step3
  refine scopeN_goto rfl ?_
  rw [I1.out]
  have HBw := Lib.hid (show (W1.setCell ⟨b, 14, none⟩ (.int .i64 (m : Int))).heap[b]? = some (.cells (rgC p 3 o1 o2 o3 own W' (m : Int) f V) 83 (0, 0)) from heap_set HB1.out 14 _)
  have HKw := Lib.hid (HK1.out.setCell (p := ⟨b, 14, none⟩) (.inl rfl) (.int .i64 (m : Int)))
  clear c14 f14 l1
  generalize W1.setCell ⟨b, 14, none⟩ (.int .i64 (m : Int)) = Wd at HBw HKw ⊢
  go_wp2_with fail
  go_region_held3 (fun w' => w'.cell? ⟨b, 14, none⟩ = some (.int .i64 ((m : Int))) ∧ w'.cell? ⟨b, 3, none⟩ = some (.int .i64 (p 3)))
    (first
      | exact ⟨cell_of HBw.out 14, cell_of HBw.out 3⟩
      | go_keep)
    (fail)
  all_goals
    have HBv0 := Lib.hid (show Wd.drew.heap[b]? = _ from HBw.out)
    have HKv0 := Lib.hid HKw.out.drew
    generalize Wd.drew = Wv at HBv0 HKv0 ⊢
    go_wp2_with fail
    have HBv := Lib.hid (show Wv.drew.heap[b]? = _ from HBv0.out)
    have HKv := Lib.hid HKv0.out.drew
    go_region_held3 (fun w' => w'.cell? ⟨b, 14, none⟩ = some (.int .i64 ((m : Int))))
      (first
        | exact (cell_of HB3.out 14).trans (by kernel_rfl)
        | exact cell_of HBv.out 14
        | go_keep)
      (first
        | (go_at_call 75; refine (rg_entry _ b p own (plAt_of HBv.out rfl rfl rfl rfl rfl) (cell_of HBv.out 9) HP.out.ok HP.out.k).mono ?_; rintro e2 w2 ⟨X, Y, i, rfl, hX, hY, k2⟩; replace HBv := Lib.hid (k2.at HBv.out fun h => h); replace HKv := Lib.hid (HKv.out.own k2 fun _ h => h.elim); have HX := Lib.hid hX; have HY := Lib.hid hY; clear k2 hX hY)
        | (go_at_call 78; refine (entry_cell _ b X Y p i _ (plAt_of HBv.out rfl rfl rfl rfl rfl) HP.out.ok HX.out HY.out).mono ?_; rintro e4 w4 ⟨⟨x, rfl⟩, k4⟩; replace HBv := Lib.hid (k4.at HBv.out fun h => h); replace HKv := Lib.hid (HKv.out.own k4 fun _ h => h.elim); clear k4)
        | (go_at_call 38; refine (rg_load _ b 83 _ 3 x HBv.out (Nat.le_refl 20)).mono ?_; rintro e3 w3 ⟨rfl, hb3, k3⟩; have HB3 := Lib.hid hb3; have HK3 := Lib.hid (HKv.out.trans k3); clear hb3 k3)
        | fail)
    all_goals
      go_wp2_with fail
      refine scopeN_ret _ (bodyPost_ret (results_none rfl _ _ _) rfl ?_)
      exact ⟨rfl, ⟨1, x, 0, W', V, HB3.out.trans (by kernel_rfl)⟩, HK3.out⟩
set_option maxRecDepth 100000 in
set_option maxHeartbeats 8000000 in
/-- The last word was put. -/
theorem pop_take3e (w : World) (b : Nat) (p : Nat → Int) (own f got : Int) (a : Nat) (ha : a ≤ 4) (h : IsRg w b 83 p 3 own (a : Int) f) (hp : RgOk p) (ha4 : a < 4) (m : Nat) (hma : m = a + 1) (hm : p 3 ≤ (m : Int)) :
    Calls Try.prog 81 #[.pointer (some ⟨b, 0, none⟩), .int .u32 got] w (RgQ w b 83 p 4 own (m : Int) f) := by
  obtain ⟨o1, o2, o3, W, V, hb⟩ := h
  have c5 : w.cell? ⟨b, 5, none⟩ = some (.int .i64 3) := cell_of hb 5
  have lb := lt_of hb
  have HP := Lib.hid hp
  have hpn : ∀ (b : Nat) w, (binOp .eql 66 (.pointer (some ⟨b, 0, none⟩)) (.pointer none)).run Try.prog w = .ok (.bool false) w := fun b w => by kernel_rfl
  have c14 : w.cell? ⟨b, 14, none⟩ = some (.int .i64 (a : Int)) := cell_of hb 14
  have cw : w.cell? ⟨b, 10 + a, none⟩ = some (.int .u32 (W a)) := (cell_of hb (10 + a)).trans (word_at p _ _ _ _ _ W _ _ _ a ha4)
  have fw := free_of hb (10 + a)
  have HB := Lib.hid hb
  have hd : decide ((m : Int) < p 3) = false := by simp; omega
  have hw3 := hp.w
  have j2 : (0 : Int) ≤ (a : Int) := by omega
  have j3 : (a : Int) < 4 := by omega
  have jw : IntKind.i64.wrap (a : Int) = (a : Int) := IntWalk.i64_in _ ⟨by omega, by omega⟩
  have i1 : (a : Int) + 1 = (m : Int) := by omega
  have i2 : (0 : Int) ≤ (m : Int) := by omega
  have iw : IntKind.i64.wrap (m : Int) = (m : Int) := IntWalk.i64_in _ ⟨by omega, by omega⟩
  have I1 := Lib.hid i1
  have HA4 := Lib.hid ha4
  clear hb hp i1 hma hm
  go_enter Try.func81, Try.ntmps81
  go_wp2_with fail
  refine wp_scope_n 2 ?_
  go_wp2_with fail
  go_region
  have HB1 := Lib.hid (show ((w.setCell ⟨b, 10 + a, none⟩ (.int .u32 got)).drew).heap[b]? = some (.cells (rgC p 3 o1 o2 o3 own (fun i => if i = a then got else W i) (a : Int) f V) 83 (0, 0)) from (heap_set HB.out (10 + a) (.int .u32 got)).trans (by rw [word_set p _ _ _ _ _ W _ _ _ a HA4.out got]))
  have HK1 := Lib.hid (((Keeps.refl (fun X => X = b) w).setCell (p := ⟨b, 10 + a, none⟩) (.inl rfl) (.int .u32 got)).drew)
  clear c14 cw fw c5 lb
  generalize (w.setCell ⟨b, 10 + a, none⟩ (.int .u32 got)).drew = W1 at HB1 HK1 ⊢
  generalize (fun i => if i = a then got else W i) = W' at HB1
  have c14 : W1.cell? ⟨b, 14, none⟩ = some (.int .i64 (a : Int)) := cell_of HB1.out 14
  have f14 := free_of HB1.out 14
  have l1 := lt_of HB1.out
  go_wp2_with fail
  go_step3
  refine scopeN_goto rfl ?_
  rw [I1.out]
  have HBw := Lib.hid (show (W1.setCell ⟨b, 14, none⟩ (.int .i64 (m : Int))).heap[b]? = some (.cells (rgC p 3 o1 o2 o3 own W' (m : Int) f V) 83 (0, 0)) from heap_set HB1.out 14 _)
  have HKw := Lib.hid (HK1.out.setCell (p := ⟨b, 14, none⟩) (.inl rfl) (.int .i64 (m : Int)))
  clear c14 f14 l1
  generalize W1.setCell ⟨b, 14, none⟩ (.int .i64 (m : Int)) = Wd at HBw HKw ⊢
  go_wp2_with fail
  go_region_held3 (fun w' => w'.cell? ⟨b, 14, none⟩ = some (.int .i64 ((m : Int))) ∧ w'.cell? ⟨b, 3, none⟩ = some (.int .i64 (p 3)))
    (first
      | exact ⟨cell_of HBw.out 14, cell_of HBw.out 3⟩
      | go_keep)
    (fail)
  all_goals
    have HBv0 := Lib.hid (show Wd.drew.heap[b]? = _ from HBw.out)
    have HKv0 := Lib.hid HKw.out.drew
    generalize Wd.drew = Wv at HBv0 HKv0 ⊢
    go_wp2_with fail
    have HBv := Lib.hid (show Wv.drew.heap[b]? = _ from HBv0.out)
    have HKv := Lib.hid HKv0.out.drew
    go_region_held3 (fun w' => w'.cell? ⟨b, 9, none⟩ = some (.int .u32 own))
      (first
        | exact (cell_of HB3.out 9).trans (by kernel_rfl)
        | exact cell_of HBv.out 9
        | go_keep)
      (first
        | (go_at_call 72; refine (rg_counter _ b p 1 (plAt_of HBv.out rfl rfl rfl rfl rfl) HP.out.ok (by omega)).mono ?_; rintro e2 w2 ⟨⟨x, rfl⟩, k2⟩; replace HBv := Lib.hid (k2.at HBv.out fun h => h); replace HKv := Lib.hid (HKv.out.own k2 fun _ h => h.elim); clear k2)
        | (go_at_call 74; refine (rg_store _ b 83 _ 4 x _ HBv.out (Nat.le_refl 20)).mono ?_; rintro e3 w3 ⟨rfl, hb3, k3⟩; have HB3 := Lib.hid hb3; have HK3 := Lib.hid (HKv.out.trans k3); clear hb3 k3)
        | fail)
    all_goals
      go_wp2_with fail
      refine scopeN_normal _ (bodyPost_end (results_none rfl _ _ _) rfl ?_)
      exact ⟨rfl, ⟨2, x, _, W', V, HB3.out⟩, HK3.out⟩
set_option maxRecDepth 100000 in
set_option maxHeartbeats 8000000 in
/-- The other counter was read: there is no room. -/
theorem pop_take2f (w : World) (b : Nat) (p : Nat → Int) (own f got : Int) (a : Nat) (ha : a ≤ 4) (h : IsRg w b 83 p 2 own (a : Int) f) (hp : RgOk p) (hm : (a : Int) < p 3) (hf : got = own) :
    Calls Try.prog 81 #[.pointer (some ⟨b, 0, none⟩), .int .u32 got] w (RgQ w b 83 p 5 own (a : Int) 7) := by
  obtain ⟨o1, o2, o3, W, V, hb⟩ := h
  have c5 : w.cell? ⟨b, 5, none⟩ = some (.int .i64 2) := cell_of hb 5
  have lb := lt_of hb
  have HP := Lib.hid hp
  have hpn : ∀ (b : Nat) w, (binOp .eql 66 (.pointer (some ⟨b, 0, none⟩)) (.pointer none)).run Try.prog w = .ok (.bool false) w := fun b w => by kernel_rfl
  have c9 : w.cell? ⟨b, 9, none⟩ = some (.int .u32 own) := cell_of hb 9
  have HB := Lib.hid hb
  have hw3 := hp.w
  have hd : (got == own) = true := by simp [hf]
  have hd2 : decide ((a : Int) < p 3) = true := by simp; omega
  have i2 : (0 : Int) ≤ (a : Int) := by omega
  have i3 : (a : Int) < 4 := by omega
  have iw : IntKind.i64.wrap (a : Int) = (a : Int) := IntWalk.i64_in _ ⟨by omega, by omega⟩
  clear hb hp hf hm
  go_enter Try.func81, Try.ntmps81
  go_wp2_with fail
  refine wp_scope_n 2 ?_
  go_wp2_with fail
  go_step3
  refine scopeN_goto rfl ?_
  go_wp2_with fail
  refine (rg_end w b 83 _ 7 HB.out (Nat.le_refl 20)).mono ?_
  rintro e3 w3 ⟨rfl, hb3, k3⟩
  have HB3 := Lib.hid hb3
  have HK3 := Lib.hid k3
  clear hb3 k3 c5 c9 lb
  go_wp2_with fail
  refine scopeN_ret _ (bodyPost_ret (results_none rfl _ _ _) rfl ?_)
  exact ⟨rfl, ⟨0, 0, 0, W, fun _ => 0, HB3.out.trans (by kernel_rfl)⟩, HK3.out⟩
set_option maxRecDepth 100000 in
set_option maxHeartbeats 8000000 in
/-- The other counter was read: there is room. -/
theorem pop_take2 (w : World) (b : Nat) (p : Nat → Int) (own f got : Int) (a : Nat) (ha : a ≤ 4) (h : IsRg w b 83 p 2 own (a : Int) f) (hp : RgOk p) (hm : (a : Int) < p 3) (hf : got ≠ own) :
    Calls Try.prog 81 #[.pointer (some ⟨b, 0, none⟩), .int .u32 got] w (RgQ w b 83 p 3 own (a : Int) f) := by
  obtain ⟨o1, o2, o3, W, V, hb⟩ := h
  have c5 : w.cell? ⟨b, 5, none⟩ = some (.int .i64 2) := cell_of hb 5
  have lb := lt_of hb
  have HP := Lib.hid hp
  have hpn : ∀ (b : Nat) w, (binOp .eql 66 (.pointer (some ⟨b, 0, none⟩)) (.pointer none)).run Try.prog w = .ok (.bool false) w := fun b w => by kernel_rfl
  have c9 : w.cell? ⟨b, 9, none⟩ = some (.int .u32 own) := cell_of hb 9
  have HB := Lib.hid hb
  have hw3 := hp.w
  have hd : (got == own) = false := by simp [hf]
  have hd2 : decide ((a : Int) < p 3) = true := by simp; omega
  have i2 : (0 : Int) ≤ (a : Int) := by omega
  have i3 : (a : Int) < 4 := by omega
  have iw : IntKind.i64.wrap (a : Int) = (a : Int) := IntWalk.i64_in _ ⟨by omega, by omega⟩
  clear hb hp hf hm
  go_enter Try.func81, Try.ntmps81
  go_wp2_with fail
  refine wp_scope_n 2 ?_
  go_wp2_with fail
  go_step3
  refine scopeN_goto rfl ?_
  go_wp2_with fail
  clear c5 c9 lb
  go_step3
  go_wp2_with fail
  have HBw := Lib.hid (show w.drew.heap[b]? = _ from HB.out)
  have HKw := Lib.hid ((Keeps.refl (fun X => X = b) w).drew)
  go_region_held3 (fun w' => w'.cell? ⟨b, 14, none⟩ = some (.int .i64 ((a : Int))) ∧ w'.cell? ⟨b, 3, none⟩ = some (.int .i64 (p 3)))
    (first
      | exact ⟨cell_of HBw.out 14, cell_of HBw.out 3⟩
      | go_keep)
    (fail)
  all_goals
    generalize w.drew = Wv at HBw HKw ⊢
    go_wp2_with fail
    have HBv := Lib.hid (show Wv.drew.heap[b]? = _ from HBw.out)
    have HKv := Lib.hid HKw.out.drew
    go_region_held3 (fun w' => w'.cell? ⟨b, 14, none⟩ = some (.int .i64 ((a : Int))))
      (first
        | exact (cell_of HB3.out 14).trans (by kernel_rfl)
        | exact cell_of HBv.out 14
        | go_keep)
      (first
        | (go_at_call 75; refine (rg_entry _ b p own (plAt_of HBv.out rfl rfl rfl rfl rfl) (cell_of HBv.out 9) HP.out.ok HP.out.k).mono ?_; rintro e2 w2 ⟨X, Y, i, rfl, hX, hY, k2⟩; replace HBv := Lib.hid (k2.at HBv.out fun h => h); replace HKv := Lib.hid (HKv.out.own k2 fun _ h => h.elim); have HX := Lib.hid hX; have HY := Lib.hid hY; clear k2 hX hY)
        | (go_at_call 78; refine (entry_cell _ b X Y p i _ (plAt_of HBv.out rfl rfl rfl rfl rfl) HP.out.ok HX.out HY.out).mono ?_; rintro e4 w4 ⟨⟨x, rfl⟩, k4⟩; replace HBv := Lib.hid (k4.at HBv.out fun h => h); replace HKv := Lib.hid (HKv.out.own k4 fun _ h => h.elim); clear k4)
        | (go_at_call 38; refine (rg_load _ b 83 _ 3 x HBv.out (Nat.le_refl 20)).mono ?_; rintro e3 w3 ⟨rfl, hb3, k3⟩; have HB3 := Lib.hid hb3; have HK3 := Lib.hid (HKv.out.trans k3); clear hb3 k3)
        | fail)
    all_goals
      go_wp2_with fail
      refine scopeN_ret _ (bodyPost_ret (results_none rfl _ _ _) rfl ?_)
      exact ⟨rfl, ⟨1, x, 0, W, V, HB3.out.trans (by kernel_rfl)⟩, HK3.out⟩
end Go.Proofs.Ytdnppkihpddlhaa
