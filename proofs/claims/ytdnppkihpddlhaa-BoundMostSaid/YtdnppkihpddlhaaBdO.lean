import Derived.Test.YtdnppkihpddlhaaBdK
namespace Go.Proofs.Ytdnppkihpddlhaa
open Go.ChangeShapes Go.WideShapes Go.ChangeAt Go.RowKit
set_option linter.unusedVariables false
set_option linter.unusedSimpArgs false
/-- A counted register's place. -/
structure LkOk (p : Nat → Int) : Prop where
  ok : PlOk p
  k : p 0 = 3
  w : 1 ≤ p 3 ∧ p 3 ≤ 4
def oddP (x : Int) : Bool := x.tmod 2 == 1
theorem lk_odd (w : World) : Calls Try.prog 98 #[] w fun e w' => e = .returned (.func (.func 101) #[] #[]) ∧ w' = w := by
  go_enter Try.func98, Try.ntmps98
  go_wp2_with fail
  go_ret
  exact ⟨rfl, rfl⟩
theorem lk_odd1 (x : Int) (w : World) : Calls Try.prog 101 #[.int .u32 x] w fun e w' => e = .returned (.bool (oddP x)) ∧ w' = w := by
  unfold oddP
  go_enter Try.func101, Try.ntmps101
  go_wp2_with fail
  go_ret
  exact ⟨rfl, rfl⟩
set_option maxRecDepth 100000 in
set_option maxHeartbeats 8000000 in
/-- The counter was read: it is even. -/
theorem lw_take1 (w : World) (b : Nat) (p : Nat → Int) (own f got : Int) (a : Nat) (ha : a ≤ 4) (h : IsRg w b 95 p 1 own (a : Int) f) (hp : LkOk p) (ho : oddP got = false) :
    Calls Try.prog 95 #[.pointer (some ⟨b, 0, none⟩), .int .u32 got] w (RgQ w b 95 p 2 got (a : Int) f) := by
  obtain ⟨o1, o2, o3, W, V, hb⟩ := h
  have c5 : w.cell? ⟨b, 5, none⟩ = some (.int .i64 1) := cell_of hb 5
  have lb := lt_of hb
  have HP := Lib.hid hp
  have hpn : ∀ (b : Nat) w, (binOp .eql 72 (.pointer (some ⟨b, 0, none⟩)) (.pointer none)).run Try.prog w = .ok (.bool false) w := fun b w => by kernel_rfl
  have c9 : w.cell? ⟨b, 9, none⟩ = some (.int .u32 own) := cell_of hb 9
  have f9 := free_of hb 9
  have HB := Lib.hid hb
  have HO := Lib.hid (fun W => lk_odd W)
  have hod := fun W => lk_odd1 got W
  rw [ho] at hod
  have HOD := Lib.hid hod
  clear hb hp ho hod
  go_enter Try.func95, Try.ntmps95
  go_wp2_with fail
  refine wp_scope_n 2 ?_
  go_wp2_with fail
  go_step3
  refine scopeN_goto rfl ?_
  go_wp2_with fail
  refine (HO.out _).mono ?_
  rintro e2 W1 ⟨rfl, rfl⟩
  have HB1 := Lib.hid (show (w.setCell ⟨b, 9, none⟩ (.int .u32 got)).heap[b]? = some (.cells (rgC p 1 o1 o2 o3 got W (a : Int) f V) 95 (0, 0)) from heap_set HB.out 9 _)
  have HK1 := Lib.hid ((Keeps.refl (fun X => X = b) w).setCell (p := ⟨b, 9, none⟩) (.inl rfl) (.int .u32 got))
  clear c5 c9 f9 lb
  generalize w.setCell ⟨b, 9, none⟩ (.int .u32 got) = W1 at HB1 HK1 ⊢
  go_wp2_with fail
  refine (HOD.out _).mono ?_
  rintro e2 W1 ⟨rfl, rfl⟩
  go_wp2_with fail
  have HBv := Lib.hid (show W1.drew.heap[b]? = _ from HB1.out)
  have HKv := Lib.hid HK1.out.drew
  go_region_held3 (fun w' => w'.cell? ⟨b, 9, none⟩ = some (.int .u32 (got)))
    (first
      | exact (cell_of HB3.out 9).trans (by kernel_rfl)
      | exact cell_of HBv.out 9
      | go_keep)
    (first
      | (go_at_call 43; refine (lk_counter _ b p (plAt_of HBv.out rfl rfl rfl rfl rfl) HP.out.ok).mono ?_; rintro e2 w2 ⟨⟨x, rfl⟩, k2⟩; replace HBv := Lib.hid (k2.at HBv.out fun h => h); replace HKv := Lib.hid (HKv.out.own k2 fun _ h => h.elim); clear k2)
      | (go_at_call 99; refine (lk_store _ b 95 _ 2 x _ HBv.out (Nat.le_refl 20)).mono ?_; rintro e3 w3 ⟨rfl, hb3, k3⟩; have HB3 := Lib.hid hb3; have HK3 := Lib.hid (HKv.out.trans k3); clear hb3 k3)
      | fail)
  all_goals
    go_wp2_with fail
    refine scopeN_ret _ (bodyPost_ret (results_none rfl _ _ _) rfl ?_)
    exact ⟨rfl, ⟨2, x, _, W, V, HB3.out⟩, HK3.out⟩
set_option maxRecDepth 100000 in
set_option maxHeartbeats 8000000 in
/-- The counter was read: it is odd. -/
theorem lw_take1o (w : World) (b : Nat) (p : Nat → Int) (own f got : Int) (a : Nat) (ha : a ≤ 4) (h : IsRg w b 95 p 1 own (a : Int) f) (hp : LkOk p) (ho : oddP got = true) (z : Int) (hz : (got - 1) % 4294967296 = z) :
    Calls Try.prog 95 #[.pointer (some ⟨b, 0, none⟩), .int .u32 got] w (RgQ w b 95 p 2 z (a : Int) f) := by
  obtain ⟨o1, o2, o3, W, V, hb⟩ := h
  have c5 : w.cell? ⟨b, 5, none⟩ = some (.int .i64 1) := cell_of hb 5
  have lb := lt_of hb
  have HP := Lib.hid hp
  have hpn : ∀ (b : Nat) w, (binOp .eql 72 (.pointer (some ⟨b, 0, none⟩)) (.pointer none)).run Try.prog w = .ok (.bool false) w := fun b w => by kernel_rfl
  have HZ := Lib.hid hz
  clear hz
  have c9 : w.cell? ⟨b, 9, none⟩ = some (.int .u32 own) := cell_of hb 9
  have f9 := free_of hb 9
  have HB := Lib.hid hb
  have HO := Lib.hid (fun W => lk_odd W)
  have hod := fun W => lk_odd1 got W
  rw [ho] at hod
  have HOD := Lib.hid hod
  clear hb hp ho hod
  go_enter Try.func95, Try.ntmps95
  go_wp2_with fail
  refine wp_scope_n 2 ?_
  go_wp2_with fail
  go_step3
  refine scopeN_goto rfl ?_
  go_wp2_with fail
  refine (HO.out _).mono ?_
  rintro e2 W1 ⟨rfl, rfl⟩
  have HB1 := Lib.hid (show (w.setCell ⟨b, 9, none⟩ (.int .u32 got)).heap[b]? = some (.cells (rgC p 1 o1 o2 o3 got W (a : Int) f V) 95 (0, 0)) from heap_set HB.out 9 _)
  have HK1 := Lib.hid ((Keeps.refl (fun X => X = b) w).setCell (p := ⟨b, 9, none⟩) (.inl rfl) (.int .u32 got))
  clear c5 c9 f9 lb
  generalize w.setCell ⟨b, 9, none⟩ (.int .u32 got) = W1 at HB1 HK1 ⊢
  go_wp2_with fail
  refine (HOD.out _).mono ?_
  rintro e2 W1 ⟨rfl, rfl⟩
  have d9 : W1.cell? ⟨b, 9, none⟩ = some (.int .u32 got) := cell_of HB1.out 9
  have g9 := free_of HB1.out 9
  have l1 := lt_of HB1.out
  go_wp2_with fail
  rw [HZ.out]
  have HB2 := Lib.hid (show (W1.setCell ⟨b, 9, none⟩ (.int .u32 z)).heap[b]? = some (.cells (rgC p 1 o1 o2 o3 z W (a : Int) f V) 95 (0, 0)) from heap_set HB1.out 9 _)
  have HK2 := Lib.hid (HK1.out.setCell (p := ⟨b, 9, none⟩) (.inl rfl) (.int .u32 z))
  clear d9 g9 l1
  generalize W1.setCell ⟨b, 9, none⟩ (.int .u32 z) = W2 at HB2 HK2 ⊢
  have HBv := Lib.hid (show W2.drew.heap[b]? = _ from HB2.out)
  have HKv := Lib.hid HK2.out.drew
  go_region_held3 (fun w' => w'.cell? ⟨b, 9, none⟩ = some (.int .u32 (z)))
    (first
      | exact (cell_of HB3.out 9).trans (by kernel_rfl)
      | exact cell_of HBv.out 9
      | go_keep)
    (first
      | (go_at_call 43; refine (lk_counter _ b p (plAt_of HBv.out rfl rfl rfl rfl rfl) HP.out.ok).mono ?_; rintro e2 w2 ⟨⟨x, rfl⟩, k2⟩; replace HBv := Lib.hid (k2.at HBv.out fun h => h); replace HKv := Lib.hid (HKv.out.own k2 fun _ h => h.elim); clear k2)
      | (go_at_call 99; refine (lk_store _ b 95 _ 2 x _ HBv.out (Nat.le_refl 20)).mono ?_; rintro e3 w3 ⟨rfl, hb3, k3⟩; have HB3 := Lib.hid hb3; have HK3 := Lib.hid (HKv.out.trans k3); clear hb3 k3)
      | fail)
  all_goals
    go_wp2_with fail
    refine scopeN_ret _ (bodyPost_ret (results_none rfl _ _ _) rfl ?_)
    exact ⟨rfl, ⟨2, x, _, W, V, HB3.out⟩, HK3.out⟩
set_option maxRecDepth 100000 in
set_option maxHeartbeats 8000000 in
/-- The counter was told. -/
theorem lw_take2 (w : World) (b : Nat) (p : Nat → Int) (own f got : Int) (a : Nat) (ha : a ≤ 4) (h : IsRg w b 95 p 2 own (a : Int) f) (hp : LkOk p) (hm : (a : Int) < p 3) :
    Calls Try.prog 95 #[.pointer (some ⟨b, 0, none⟩), .int .u32 got] w (RgQ w b 95 p 3 own (a : Int) f) := by
  obtain ⟨o1, o2, o3, W, V, hb⟩ := h
  have c5 : w.cell? ⟨b, 5, none⟩ = some (.int .i64 2) := cell_of hb 5
  have lb := lt_of hb
  have HP := Lib.hid hp
  have hpn : ∀ (b : Nat) w, (binOp .eql 72 (.pointer (some ⟨b, 0, none⟩)) (.pointer none)).run Try.prog w = .ok (.bool false) w := fun b w => by kernel_rfl
  have HB := Lib.hid hb
  have hw3 := hp.w
  have hd2 : decide ((a : Int) < p 3) = true := by simp; omega
  have i2 : (0 : Int) ≤ (a : Int) := by omega
  have i3 : (a : Int) < 4 := by omega
  have iw : IntKind.i64.wrap (a : Int) = (a : Int) := IntWalk.i64_in _ ⟨by omega, by omega⟩
  clear hb hp hm
  go_enter Try.func95, Try.ntmps95
  go_wp2_with fail
  refine wp_scope_n 2 ?_
  go_wp2_with fail
  go_step3
  refine scopeN_goto rfl ?_
  go_wp2_with fail
  clear c5 lb
  have HBw := Lib.hid (show w.drew.heap[b]? = _ from HB.out)
  have HKw := Lib.hid ((Keeps.refl (fun X => X = b) w).drew)
  go_region_held3 (fun w' => w'.cell? ⟨b, 14, none⟩ = some (.int .i64 ((a : Int))) ∧ w'.cell? ⟨b, 3, none⟩ = some (.int .i64 (p 3)))
    (first
      | exact ⟨cell_of HBw.out 14, cell_of HBw.out 3⟩
      | go_keep)
    (fail)
  all_goals
    generalize w.drew = Wv at HBw HKw ⊢
    go_wp2_with fail
    have HBv := Lib.hid (show Wv.drew.heap[b]? = _ from HBw.out)
    have HKv := Lib.hid HKw.out.drew
    go_region_held3 (fun w' => w'.cell? ⟨b, 14, none⟩ = some (.int .i64 ((a : Int))) ∧ w'.cell? ⟨b, 10 + (a), none⟩ = some (.int .u32 (W (a))))
      (first
        | exact ⟨(cell_of HB3.out 14).trans (by kernel_rfl), (cell_of HB3.out (10 + (a))).trans (word_at2 p _ _ _ _ _ W _ _ _ _ _ _ _ (a) (by omega))⟩
        | exact ⟨cell_of HBv.out 14, (cell_of HBv.out (10 + (a))).trans (word_at p _ _ _ _ _ W _ _ _ (a) (by omega))⟩
        | go_keep)
      (first
        | (go_at_call 100; refine (lk_data _ b p ((a : Int)) (plAt_of HBv.out rfl rfl rfl rfl rfl) (cell_of HBv.out 14) HP.out.ok).mono ?_; rintro e2 w2 ⟨⟨x, rfl⟩, k2⟩; replace HBv := Lib.hid (k2.at HBv.out fun h => h); replace HKv := Lib.hid (HKv.out.own k2 fun _ h => h.elim); clear k2)
        | (go_at_call 99; refine (lk_store _ b 95 _ 3 x _ HBv.out (Nat.le_refl 20)).mono ?_; rintro e3 w3 ⟨rfl, hb3, k3⟩; have HB3 := Lib.hid hb3; have HK3 := Lib.hid (HKv.out.trans k3); clear hb3 k3)
        | fail)
    all_goals
      go_wp2_with fail
      refine scopeN_ret _ (bodyPost_ret (results_none rfl _ _ _) rfl ?_)
      exact ⟨rfl, ⟨2, x, W a, W, V, HB3.out.trans (by kernel_rfl)⟩, HK3.out⟩
set_option maxRecDepth 100000 in
set_option maxHeartbeats 8000000 in
/-- A word was moved. -/
theorem lw_take3 (w : World) (b : Nat) (p : Nat → Int) (own f got : Int) (a : Nat) (ha : a ≤ 4) (h : IsRg w b 95 p 3 own (a : Int) f) (hp : LkOk p) (m : Nat) (hma : m = a + 1) (hm : (m : Int) < p 3) :
    Calls Try.prog 95 #[.pointer (some ⟨b, 0, none⟩), .int .u32 got] w (RgQ w b 95 p 3 own (m : Int) f) := by
  obtain ⟨o1, o2, o3, W, V, hb⟩ := h
  have c5 : w.cell? ⟨b, 5, none⟩ = some (.int .i64 3) := cell_of hb 5
  have lb := lt_of hb
  have HP := Lib.hid hp
  have hpn : ∀ (b : Nat) w, (binOp .eql 72 (.pointer (some ⟨b, 0, none⟩)) (.pointer none)).run Try.prog w = .ok (.bool false) w := fun b w => by kernel_rfl
  have c14 : w.cell? ⟨b, 14, none⟩ = some (.int .i64 (a : Int)) := cell_of hb 14
  have f14 := free_of hb 14
  have HB := Lib.hid hb
  have hd : decide ((m : Int) < p 3) = true := by simp; omega
  have hw3 := hp.w
  have i1 : (a : Int) + 1 = (m : Int) := by omega
  have i2 : (0 : Int) ≤ (m : Int) := by omega
  have iw : IntKind.i64.wrap (m : Int) = (m : Int) := IntWalk.i64_in _ ⟨by omega, by omega⟩
  have I1 := Lib.hid i1
  have i3 : (m : Int) < 4 := by omega
  clear hb hp i1 hma hm
  go_enter Try.func95, Try.ntmps95
  go_wp2_with fail
  refine wp_scope_n 2 ?_
  go_wp2_with fail
  go_step3
  refine scopeN_goto rfl ?_
  rw [I1.out]
  have HBx := Lib.hid (show (w.setCell ⟨b, 14, none⟩ (.int .i64 (m : Int))).heap[b]? = some (.cells (rgC p 3 o1 o2 o3 own W (m : Int) f V) 95 (0, 0)) from heap_set HB.out 14 _)
  have HKx := Lib.hid ((Keeps.refl (fun X => X = b) w).setCell (p := ⟨b, 14, none⟩) (.inl rfl) (.int .i64 (m : Int)))
  clear c5 c14 f14 lb
  generalize w.setCell ⟨b, 14, none⟩ (.int .i64 (m : Int)) = Wd at HBx HKx ⊢
  go_wp2_with fail
  have HBw := Lib.hid (show Wd.drew.heap[b]? = _ from HBx.out)
  have HKw := Lib.hid HKx.out.drew
  go_region_held3 (fun w' => w'.cell? ⟨b, 14, none⟩ = some (.int .i64 ((m : Int))) ∧ w'.cell? ⟨b, 3, none⟩ = some (.int .i64 (p 3)))
    (first
      | exact ⟨cell_of HBw.out 14, cell_of HBw.out 3⟩
      | go_keep)
    (fail)
  all_goals
    generalize Wd.drew = Wv at HBw HKw ⊢
    go_wp2_with fail
    have HBv := Lib.hid (show Wv.drew.heap[b]? = _ from HBw.out)
    have HKv := Lib.hid HKw.out.drew
    go_region_held3 (fun w' => w'.cell? ⟨b, 14, none⟩ = some (.int .i64 ((m : Int))) ∧ w'.cell? ⟨b, 10 + (m), none⟩ = some (.int .u32 (W (m))))
      (first
        | exact ⟨(cell_of HB3.out 14).trans (by kernel_rfl), (cell_of HB3.out (10 + (m))).trans (word_at2 p _ _ _ _ _ W _ _ _ _ _ _ _ (m) (by omega))⟩
        | exact ⟨cell_of HBv.out 14, (cell_of HBv.out (10 + (m))).trans (word_at p _ _ _ _ _ W _ _ _ (m) (by omega))⟩
        | go_keep)
      (first
        | (go_at_call 100; refine (lk_data _ b p ((m : Int)) (plAt_of HBv.out rfl rfl rfl rfl rfl) (cell_of HBv.out 14) HP.out.ok).mono ?_; rintro e2 w2 ⟨⟨x, rfl⟩, k2⟩; replace HBv := Lib.hid (k2.at HBv.out fun h => h); replace HKv := Lib.hid (HKv.out.own k2 fun _ h => h.elim); clear k2)
        | (go_at_call 99; refine (lk_store _ b 95 _ 3 x _ HBv.out (Nat.le_refl 20)).mono ?_; rintro e3 w3 ⟨rfl, hb3, k3⟩; have HB3 := Lib.hid hb3; have HK3 := Lib.hid (HKv.out.trans k3); clear hb3 k3)
        | fail)
    all_goals
      go_wp2_with fail
      refine scopeN_ret _ (bodyPost_ret (results_none rfl _ _ _) rfl ?_)
      exact ⟨rfl, ⟨2, x, W m, W, V, HB3.out.trans (by kernel_rfl)⟩, HK3.out⟩
set_option maxRecDepth 100000 in
set_option maxHeartbeats 8000000 in
/-- A word was moved. -/
theorem lw_take3e (w : World) (b : Nat) (p : Nat → Int) (own f got : Int) (a : Nat) (ha : a ≤ 4) (h : IsRg w b 95 p 3 own (a : Int) f) (hp : LkOk p) (m : Nat) (hma : m = a + 1) (hm : p 3 ≤ (m : Int)) :
    Calls Try.prog 95 #[.pointer (some ⟨b, 0, none⟩), .int .u32 got] w (RgQ w b 95 p 4 own (m : Int) f) := by
  obtain ⟨o1, o2, o3, W, V, hb⟩ := h
  have c5 : w.cell? ⟨b, 5, none⟩ = some (.int .i64 3) := cell_of hb 5
  have lb := lt_of hb
  have HP := Lib.hid hp
  have hpn : ∀ (b : Nat) w, (binOp .eql 72 (.pointer (some ⟨b, 0, none⟩)) (.pointer none)).run Try.prog w = .ok (.bool false) w := fun b w => by kernel_rfl
  have c14 : w.cell? ⟨b, 14, none⟩ = some (.int .i64 (a : Int)) := cell_of hb 14
  have f14 := free_of hb 14
  have HB := Lib.hid hb
  have hd : decide ((m : Int) < p 3) = false := by simp; omega
  have hw3 := hp.w
  have i1 : (a : Int) + 1 = (m : Int) := by omega
  have i2 : (0 : Int) ≤ (m : Int) := by omega
  have iw : IntKind.i64.wrap (m : Int) = (m : Int) := IntWalk.i64_in _ ⟨by omega, by omega⟩
  have I1 := Lib.hid i1
  clear hb hp i1 hma hm
  go_enter Try.func95, Try.ntmps95
  go_wp2_with fail
  refine wp_scope_n 2 ?_
  go_wp2_with fail
  go_step3
  refine scopeN_goto rfl ?_
  rw [I1.out]
  have HBx := Lib.hid (show (w.setCell ⟨b, 14, none⟩ (.int .i64 (m : Int))).heap[b]? = some (.cells (rgC p 3 o1 o2 o3 own W (m : Int) f V) 95 (0, 0)) from heap_set HB.out 14 _)
  have HKx := Lib.hid ((Keeps.refl (fun X => X = b) w).setCell (p := ⟨b, 14, none⟩) (.inl rfl) (.int .i64 (m : Int)))
  clear c5 c14 f14 lb
  generalize w.setCell ⟨b, 14, none⟩ (.int .i64 (m : Int)) = Wd at HBx HKx ⊢
  go_wp2_with fail
  have HBw := Lib.hid (show Wd.drew.heap[b]? = _ from HBx.out)
  have HKw := Lib.hid HKx.out.drew
  go_region_held3 (fun w' => w'.cell? ⟨b, 14, none⟩ = some (.int .i64 ((m : Int))) ∧ w'.cell? ⟨b, 3, none⟩ = some (.int .i64 (p 3)))
    (first
      | exact ⟨cell_of HBw.out 14, cell_of HBw.out 3⟩
      | go_keep)
    (fail)
  all_goals
    generalize Wd.drew = Wv at HBw HKw ⊢
    go_wp2_with fail
    have HBv := Lib.hid (show Wv.drew.heap[b]? = _ from HBw.out)
    have HKv := Lib.hid HKw.out.drew
    go_region_held3 (fun w' => w'.cell? ⟨b, 9, none⟩ = some (.int .u32 (own)))
      (first
        | exact (cell_of HB3.out 9).trans (by kernel_rfl)
        | exact cell_of HBv.out 9
        | go_keep)
      (first
        | (go_at_call 43; refine (lk_counter _ b p (plAt_of HBv.out rfl rfl rfl rfl rfl) HP.out.ok).mono ?_; rintro e2 w2 ⟨⟨x, rfl⟩, k2⟩; replace HBv := Lib.hid (k2.at HBv.out fun h => h); replace HKv := Lib.hid (HKv.out.own k2 fun _ h => h.elim); clear k2)
        | (go_at_call 99; refine (lk_store _ b 95 _ 4 x _ HBv.out (Nat.le_refl 20)).mono ?_; rintro e3 w3 ⟨rfl, hb3, k3⟩; have HB3 := Lib.hid hb3; have HK3 := Lib.hid (HKv.out.trans k3); clear hb3 k3)
        | fail)
    all_goals
      go_wp2_with fail
      refine scopeN_normal _ (bodyPost_end (results_none rfl _ _ _) rfl ?_)
      exact ⟨rfl, ⟨2, x, _, W, V, HB3.out⟩, HK3.out⟩
set_option maxRecDepth 100000 in
set_option maxHeartbeats 8000000 in
/-- The counter was told again. -/
theorem lw_take4 (w : World) (b : Nat) (p : Nat → Int) (own f got : Int) (a : Nat) (ha : a ≤ 4) (h : IsRg w b 95 p 4 own (a : Int) f) (hp : LkOk p) :
    Calls Try.prog 95 #[.pointer (some ⟨b, 0, none⟩), .int .u32 got] w (RgQ w b 95 p 5 own (a : Int) 0) := by
  obtain ⟨o1, o2, o3, W, V, hb⟩ := h
  have c5 : w.cell? ⟨b, 5, none⟩ = some (.int .i64 4) := cell_of hb 5
  have lb := lt_of hb
  have HP := Lib.hid hp
  have hpn : ∀ (b : Nat) w, (binOp .eql 72 (.pointer (some ⟨b, 0, none⟩)) (.pointer none)).run Try.prog w = .ok (.bool false) w := fun b w => by kernel_rfl
  have HB := Lib.hid hb
  clear hb hp
  go_enter Try.func95, Try.ntmps95
  go_wp2_with fail
  refine wp_scope_n 2 ?_
  go_wp2_with fail
  refine (lk_end w b 95 _ 0 HB.out (Nat.le_refl 20)).mono ?_
  rintro e3 w3 ⟨rfl, hb3, k3⟩
  have HB3 := Lib.hid hb3
  have HK3 := Lib.hid k3
  clear hb3 k3 c5 lb
  go_wp2_with fail
  refine scopeN_ret _ (bodyPost_ret (results_none rfl _ _ _) rfl ?_)
  exact ⟨rfl, ⟨0, 0, 0, W, fun _ => 0, HB3.out.trans (by kernel_rfl)⟩, HK3.out⟩
end Go.Proofs.Ytdnppkihpddlhaa
