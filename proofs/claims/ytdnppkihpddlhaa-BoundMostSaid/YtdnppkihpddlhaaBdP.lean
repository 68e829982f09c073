import Derived.Test.YtdnppkihpddlhaaBdO
namespace Go.Proofs.Ytdnppkihpddlhaa
open Go.ChangeShapes Go.WideShapes Go.ChangeAt Go.RowKit
set_option linter.unusedVariables false
set_option linter.unusedSimpArgs false
/-- What a reader that counts its tries is: 22 cells. -/
@[reducible] def lrC (p : Nat → Int) (st o1 o2 o3 own : Int) (W : Nat → Int) (at' f : Int) (V : Nat → Int) (ag tr : Int) : Array Value := #[.int .i64 (p 0), .int .i64 (p 1), .int .i64 (p 2), .int .i64 (p 3), .int .i64 (p 4), .int .i64 st, .int .i64 o1, .int .i64 o2, .int .u32 o3, .int .u32 own, .int .u32 (W 0), .int .u32 (W 1), .int .u32 (W 2), .int .u32 (W 3), .int .i64 at', .int .i64 f, .int .u32 (V 0), .int .u32 (V 1), .int .u32 (V 2), .int .u32 (V 3), .int .i64 ag, .int .i64 tr]
def IsLr (w : World) (b : Nat) (T : TypeId) (p : Nat → Int) (st own at' f ag tr : Int) : Prop := ∃ (o1 o2 o3 : Int) (W V : Nat → Int), w.heap[b]? = some (.cells (lrC p st o1 o2 o3 own W at' f V ag tr) T (0, 0))
theorem IsLr.none {w w' : World} {b : Nat} {T : TypeId} {p : Nat → Int} {st own at' f ag tr : Int} (h : IsLr w b T p st own at' f ag tr) (k : Keeps (fun _ => False) w w') : IsLr w' b T p st own at' f ag tr := by
  obtain ⟨o1, o2, o3, W, V, h⟩ := h
  exact ⟨o1, o2, o3, W, V, k.at h fun h => h⟩
theorem IsLr.stAt {w : World} {b : Nat} {T : TypeId} {p : Nat → Int} {st own at' f ag tr : Int} (h : IsLr w b T p st own at' f ag tr) : StAt w b 15 st f := by
  obtain ⟨o1, o2, o3, W, V, h⟩ := h
  exact ⟨cell_of h 5, ⟨o1, o2, o3, cell_of h 6, cell_of h 7, cell_of h 8⟩, ⟨V 0, V 1, V 2, V 3, cell_of h 15, cell_of h 16, cell_of h 17, cell_of h 18, cell_of h 19⟩, lt_of h⟩
def LrQ (w : World) (b : Nat) (T : TypeId) (p : Nat → Int) (st own at' f ag tr : Int) (e : Ending) (w' : World) : Prop := e = .returned (.tuple #[]) ∧ IsLr w' b T p st own at' f ag tr ∧ Keeps (fun X => X = b) w w'
theorem lr_word_set (p : Nat → Int) (st o1 o2 o3 own : Int) (W : Nat → Int) (at' f : Int) (V : Nat → Int) (ag tr : Int) (a : Nat) (ha : a < 4) (g : Int) : (lrC p st o1 o2 o3 own W at' f V ag tr).setIfInBounds (10 + a) (.int .u32 g) = lrC p st o1 o2 o3 own (fun i => if i = a then g else W i) at' f V ag tr := by
  rcases (by omega : a = 0 ∨ a = 1 ∨ a = 2 ∨ a = 3) with rfl | rfl | rfl | rfl <;> rfl
theorem lr_word_at (p : Nat → Int) (st o1 o2 o3 own : Int) (W : Nat → Int) (at' f : Int) (V : Nat → Int) (ag tr : Int) (a : Nat) (ha : a < 4) : (lrC p st o1 o2 o3 own W at' f V ag tr)[10 + a]? = some (.int .u32 (W a)) := by
  rcases (by omega : a = 0 ∨ a = 1 ∨ a = 2 ∨ a = 3) with rfl | rfl | rfl | rfl <;> rfl
set_option maxRecDepth 100000 in
set_option maxHeartbeats 8000000 in
/-- The counter was even. -/
theorem lr_take1 (w : World) (b : Nat) (p : Nat → Int) (own f ag t got : Int) (a : Nat) (ha : a ≤ 4) (h : IsLr w b 97 p 1 own (a : Int) f ag t) (hp : LkOk p) (ho : oddP got = false) (s : Int) (hts : t + 1 = s) (h0 : 0 ≤ t) (h1 : t ≤ 100) :
    Calls Try.prog 104 #[.pointer (some ⟨b, 0, none⟩), .int .u32 got] w (LrQ w b 97 p 3 got 0 f ag s) := by
  obtain ⟨o1, o2, o3, W, V, hb⟩ := h
  have c5 : w.cell? ⟨b, 5, none⟩ = some (.int .i64 1) := cell_of hb 5
  have lb := lt_of hb
  have HP := Lib.hid hp
  have hpn : ∀ (b : Nat) w, (binOp .eql 74 (.pointer (some ⟨b, 0, none⟩)) (.pointer none)).run Try.prog w = .ok (.bool false) w := fun b w => by kernel_rfl
  have c21 : w.cell? ⟨b, 21, none⟩ = some (.int .i64 t) := cell_of hb 21
  have f21 := free_of hb 21
  have c9 : w.cell? ⟨b, 9, none⟩ = some (.int .u32 own) := cell_of hb 9
  have f9 := free_of hb 9
  have c14 : w.cell? ⟨b, 14, none⟩ = some (.int .i64 (a : Int)) := cell_of hb 14
  have f14 := free_of hb 14
  have HB := Lib.hid hb
  have HO := Lib.hid (fun W => lk_odd W)
  have hod := fun W => lk_odd1 got W
  rw [ho] at hod
  have HOD := Lib.hid hod
  have HT := Lib.hid hts
  have js : IntKind.i64.wrap s = s := IntWalk.i64_in _ ⟨by omega, by omega⟩
  have i2 : (0 : Int) ≤ s := by omega
  have hw3 := hp.w
  have hd2 : decide ((0 : Int) < p 3) = true := by simp; omega
  clear hb hp ho hod hts
  go_enter Try.func104, Try.ntmps104
  go_wp2_with fail
  refine wp_scope_n 4 ?_
  go_wp2_with fail
  go_step3
  refine scopeN_goto rfl ?_
  go_wp2_with fail
  rw [HT.out]
  have HB1 := Lib.hid (show (((w.setCell ⟨b, 21, none⟩ (.int .i64 s)).setCell ⟨b, 9, none⟩ (.int .u32 got)).setCell ⟨b, 14, none⟩ (.int .i64 0)).heap[b]? = some (.cells (lrC p 1 o1 o2 o3 got W 0 f V ag s) 97 (0, 0)) from heap_set (heap_set (heap_set HB.out 21 _) 9 _) 14 _)
  have HK1 := Lib.hid ((((Keeps.refl (fun X => X = b) w).setCell (p := ⟨b, 21, none⟩) (.inl rfl) (.int .i64 s)).setCell (p := ⟨b, 9, none⟩) (.inl rfl) (.int .u32 got)).setCell (p := ⟨b, 14, none⟩) (.inl rfl) (.int .i64 0))
  clear c5 c21 f21 c9 f9 c14 f14 lb h0 h1
  generalize ((w.setCell ⟨b, 21, none⟩ (.int .i64 s)).setCell ⟨b, 9, none⟩ (.int .u32 got)).setCell ⟨b, 14, none⟩ (.int .i64 0) = Wd at HB1 HK1 ⊢
  refine (HO.out _).mono ?_
  rintro e2 Wd ⟨rfl, rfl⟩
  go_wp2_with fail
  refine (HOD.out _).mono ?_
  rintro e2 Wd ⟨rfl, rfl⟩
  go_wp2_with fail
  go_step3
  go_wp2_with fail
  have HBw := Lib.hid (show Wd.drew.heap[b]? = _ from HB1.out)
  have HKw := Lib.hid HK1.out.drew
  go_region_held3 (fun w' => w'.cell? ⟨b, 14, none⟩ = some (.int .i64 (0)) ∧ w'.cell? ⟨b, 3, none⟩ = some (.int .i64 (p 3)))
    (first
      | exact ⟨cell_of HBw.out 14, cell_of HBw.out 3⟩
      | go_keep)
    (fail)
  all_goals
    generalize Wd.drew = Wv at HBw HKw ⊢
    go_wp2_with fail
    have HBv := Lib.hid (show Wv.drew.heap[b]? = _ from HBw.out)
    have HKv := Lib.hid HKw.out.drew
    go_region_held3 (fun _ => True)
      (first
        | trivial
        | go_keep)
      (first
        | (go_at_call 100; refine (lk_data _ b p (0) (plAt_of HBv.out rfl rfl rfl rfl rfl) (cell_of HBv.out 14) HP.out.ok).mono ?_; rintro e2 w2 ⟨⟨x, rfl⟩, k2⟩; replace HBv := Lib.hid (k2.at HBv.out fun h => h); replace HKv := Lib.hid (HKv.out.own k2 fun _ h => h.elim); clear k2)
        | (go_at_call 42; refine (lk_load _ b 97 _ 3 x HBv.out (show 20 ≤ 22 by omega)).mono ?_; rintro e3 w3 ⟨rfl, hb3, k3⟩; have HB3 := Lib.hid hb3; have HK3 := Lib.hid (HKv.out.trans k3); clear hb3 k3)
        | fail)
    all_goals
      go_wp2_with fail
      refine scopeN_ret _ (bodyPost_ret (results_none rfl _ _ _) rfl ?_)
      exact ⟨rfl, ⟨1, x, 0, W, V, HB3.out.trans (by kernel_rfl)⟩, HK3.out⟩
set_option maxRecDepth 100000 in
set_option maxHeartbeats 8000000 in
/-- The counter was odd, and a try is left. -/
theorem lr_take1o (w : World) (b : Nat) (p : Nat → Int) (own f ag t got : Int) (a : Nat) (ha : a ≤ 4) (h : IsLr w b 97 p 1 own (a : Int) f ag t) (hp : LkOk p) (ho : oddP got = true) (s : Int) (hts : t + 1 = s) (h0 : 0 ≤ t) (h1 : t ≤ 100) (hm : s ≤ ag) :
    Calls Try.prog 104 #[.pointer (some ⟨b, 0, none⟩), .int .u32 got] w (LrQ w b 97 p 1 got 0 f ag s) := by
  obtain ⟨o1, o2, o3, W, V, hb⟩ := h
  have c5 : w.cell? ⟨b, 5, none⟩ = some (.int .i64 1) := cell_of hb 5
  have lb := lt_of hb
  have HP := Lib.hid hp
  have hpn : ∀ (b : Nat) w, (binOp .eql 74 (.pointer (some ⟨b, 0, none⟩)) (.pointer none)).run Try.prog w = .ok (.bool false) w := fun b w => by kernel_rfl
  have c21 : w.cell? ⟨b, 21, none⟩ = some (.int .i64 t) := cell_of hb 21
  have f21 := free_of hb 21
  have c9 : w.cell? ⟨b, 9, none⟩ = some (.int .u32 own) := cell_of hb 9
  have f9 := free_of hb 9
  have c14 : w.cell? ⟨b, 14, none⟩ = some (.int .i64 (a : Int)) := cell_of hb 14
  have f14 := free_of hb 14
  have HB := Lib.hid hb
  have HO := Lib.hid (fun W => lk_odd W)
  have hod := fun W => lk_odd1 got W
  rw [ho] at hod
  have HOD := Lib.hid hod
  have HT := Lib.hid hts
  have js : IntKind.i64.wrap s = s := IntWalk.i64_in _ ⟨by omega, by omega⟩
  have i2 : (0 : Int) ≤ s := by omega
  have hd : decide (s ≤ ag) = true := by simp; omega
  clear hm
  clear hb hp ho hod hts
  go_enter Try.func104, Try.ntmps104
  go_wp2_with fail
  refine wp_scope_n 4 ?_
  go_wp2_with fail
  go_step3
  refine scopeN_goto rfl ?_
  go_wp2_with fail
  rw [HT.out]
  have HB1 := Lib.hid (show (((w.setCell ⟨b, 21, none⟩ (.int .i64 s)).setCell ⟨b, 9, none⟩ (.int .u32 got)).setCell ⟨b, 14, none⟩ (.int .i64 0)).heap[b]? = some (.cells (lrC p 1 o1 o2 o3 got W 0 f V ag s) 97 (0, 0)) from heap_set (heap_set (heap_set HB.out 21 _) 9 _) 14 _)
  have HK1 := Lib.hid ((((Keeps.refl (fun X => X = b) w).setCell (p := ⟨b, 21, none⟩) (.inl rfl) (.int .i64 s)).setCell (p := ⟨b, 9, none⟩) (.inl rfl) (.int .u32 got)).setCell (p := ⟨b, 14, none⟩) (.inl rfl) (.int .i64 0))
  clear c5 c21 f21 c9 f9 c14 f14 lb h0 h1
  generalize ((w.setCell ⟨b, 21, none⟩ (.int .i64 s)).setCell ⟨b, 9, none⟩ (.int .u32 got)).setCell ⟨b, 14, none⟩ (.int .i64 0) = Wd at HB1 HK1 ⊢
  refine (HO.out _).mono ?_
  rintro e2 Wd ⟨rfl, rfl⟩
  go_wp2_with fail
  refine (HOD.out _).mono ?_
  rintro e2 Wd ⟨rfl, rfl⟩
  go_wp2_with fail
  go_step3
  refine scopeN_goto rfl ?_
  have HBx := Lib.hid HB1.out
  have HKx := Lib.hid HK1.out
  go_wp2_with fail
  have HBw := Lib.hid (show Wd.drew.heap[b]? = _ from HBx.out)
  have HKw := Lib.hid HKx.out.drew
  go_region_held3 (fun w' => w'.cell? ⟨b, 21, none⟩ = some (.int .i64 (s)) ∧ w'.cell? ⟨b, 20, none⟩ = some (.int .i64 ag))
    (first
      | exact ⟨cell_of HBw.out 21, cell_of HBw.out 20⟩
      | go_keep)
    (fail)
  all_goals
    generalize Wd.drew = Wv at HBw HKw ⊢
    go_wp2_with fail
    have HBv := Lib.hid (show Wv.drew.heap[b]? = _ from HBw.out)
    have HKv := Lib.hid HKw.out.drew
    go_region_held3 (fun _ => True)
      (first
        | trivial
        | go_keep)
      (first
        | (go_at_call 43; refine (lk_counter _ b p (plAt_of HBv.out rfl rfl rfl rfl rfl) HP.out.ok).mono ?_; rintro e2 w2 ⟨⟨x, rfl⟩, k2⟩; replace HBv := Lib.hid (k2.at HBv.out fun h => h); replace HKv := Lib.hid (HKv.out.own k2 fun _ h => h.elim); clear k2)
        | (go_at_call 42; refine (lk_load _ b 97 _ 1 x HBv.out (show 20 ≤ 22 by omega)).mono ?_; rintro e3 w3 ⟨rfl, hb3, k3⟩; have HB3 := Lib.hid hb3; have HK3 := Lib.hid (HKv.out.trans k3); clear hb3 k3)
        | fail)
    all_goals
      go_wp2_with fail
      refine scopeN_ret _ (bodyPost_ret (results_none rfl _ _ _) rfl ?_)
      exact ⟨rfl, ⟨1, x, 0, W, V, HB3.out.trans (by kernel_rfl)⟩, HK3.out⟩
set_option maxRecDepth 100000 in
set_option maxHeartbeats 8000000 in
/-- The counter was odd, and the tries are used up. -/
theorem lr_take1x (w : World) (b : Nat) (p : Nat → Int) (own f ag t got : Int) (a : Nat) (ha : a ≤ 4) (h : IsLr w b 97 p 1 own (a : Int) f ag t) (hp : LkOk p) (ho : oddP got = true) (s : Int) (hts : t + 1 = s) (h0 : 0 ≤ t) (h1 : t ≤ 100) (hm : ag < s) :
    Calls Try.prog 104 #[.pointer (some ⟨b, 0, none⟩), .int .u32 got] w (LrQ w b 97 p 5 got 0 8 ag s) := by
  obtain ⟨o1, o2, o3, W, V, hb⟩ := h
  have c5 : w.cell? ⟨b, 5, none⟩ = some (.int .i64 1) := cell_of hb 5
  have lb := lt_of hb
  have HP := Lib.hid hp
  have hpn : ∀ (b : Nat) w, (binOp .eql 74 (.pointer (some ⟨b, 0, none⟩)) (.pointer none)).run Try.prog w = .ok (.bool false) w := fun b w => by kernel_rfl
  have c21 : w.cell? ⟨b, 21, none⟩ = some (.int .i64 t) := cell_of hb 21
  have f21 := free_of hb 21
  have c9 : w.cell? ⟨b, 9, none⟩ = some (.int .u32 own) := cell_of hb 9
  have f9 := free_of hb 9
  have c14 : w.cell? ⟨b, 14, none⟩ = some (.int .i64 (a : Int)) := cell_of hb 14
  have f14 := free_of hb 14
  have HB := Lib.hid hb
  have HO := Lib.hid (fun W => lk_odd W)
  have hod := fun W => lk_odd1 got W
  rw [ho] at hod
  have HOD := Lib.hid hod
  have HT := Lib.hid hts
  have js : IntKind.i64.wrap s = s := IntWalk.i64_in _ ⟨by omega, by omega⟩
  have i2 : (0 : Int) ≤ s := by omega
  have hd : decide (s ≤ ag) = false := by simp; omega
  clear hm
  clear hb hp ho hod hts
  go_enter Try.func104, Try.ntmps104
  go_wp2_with fail
  refine wp_scope_n 4 ?_
  go_wp2_with fail
  go_step3
  refine scopeN_goto rfl ?_
  go_wp2_with fail
  rw [HT.out]
  have HB1 := Lib.hid (show (((w.setCell ⟨b, 21, none⟩ (.int .i64 s)).setCell ⟨b, 9, none⟩ (.int .u32 got)).setCell ⟨b, 14, none⟩ (.int .i64 0)).heap[b]? = some (.cells (lrC p 1 o1 o2 o3 got W 0 f V ag s) 97 (0, 0)) from heap_set (heap_set (heap_set HB.out 21 _) 9 _) 14 _)
  have HK1 := Lib.hid ((((Keeps.refl (fun X => X = b) w).setCell (p := ⟨b, 21, none⟩) (.inl rfl) (.int .i64 s)).setCell (p := ⟨b, 9, none⟩) (.inl rfl) (.int .u32 got)).setCell (p := ⟨b, 14, none⟩) (.inl rfl) (.int .i64 0))
  clear c5 c21 f21 c9 f9 c14 f14 lb h0 h1
  generalize ((w.setCell ⟨b, 21, none⟩ (.int .i64 s)).setCell ⟨b, 9, none⟩ (.int .u32 got)).setCell ⟨b, 14, none⟩ (.int .i64 0) = Wd at HB1 HK1 ⊢
  refine (HO.out _).mono ?_
  rintro e2 Wd ⟨rfl, rfl⟩
  go_wp2_with fail
  refine (HOD.out _).mono ?_
  rintro e2 Wd ⟨rfl, rfl⟩
  go_wp2_with fail
  go_step3
  refine scopeN_goto rfl ?_
  have HBx := Lib.hid HB1.out
  have HKx := Lib.hid HK1.out
  go_wp2_with fail
  have HBw := Lib.hid (show Wd.drew.heap[b]? = _ from HBx.out)
  have HKw := Lib.hid HKx.out.drew
  go_region_held3 (fun w' => w'.cell? ⟨b, 21, none⟩ = some (.int .i64 (s)) ∧ w'.cell? ⟨b, 20, none⟩ = some (.int .i64 ag))
    (first
      | exact ⟨cell_of HBw.out 21, cell_of HBw.out 20⟩
      | go_keep)
    (fail)
  all_goals
    generalize Wd.drew = Wv at HBw HKw ⊢
    go_wp2_with fail
    refine (lk_end Wv b 97 _ 8 HBw.out (show 20 ≤ 22 by omega)).mono ?_
    rintro e3 w3 ⟨rfl, hb3, k3⟩
    have HB3 := Lib.hid hb3
    have HK3 := Lib.hid (HKw.out.trans k3)
    clear hb3 k3
    go_wp2_with fail
    refine scopeN_normal _ (bodyPost_end (results_none rfl _ _ _) rfl ?_)
    exact ⟨rfl, ⟨0, 0, 0, W, fun _ => 0, HB3.out.trans (by kernel_rfl)⟩, HK3.out⟩
set_option maxRecDepth 100000 in
set_option maxHeartbeats 8000000 in
/-- A word was read; another follows. -/
theorem lr_take3 (w : World) (b : Nat) (p : Nat → Int) (own f ag t got : Int) (a : Nat) (ha : a ≤ 4) (h : IsLr w b 97 p 3 own (a : Int) f ag t) (hp : LkOk p) (ha4 : a < 4) (m : Nat) (hma : m = a + 1) (hm : (m : Int) < p 3) :
    Calls Try.prog 104 #[.pointer (some ⟨b, 0, none⟩), .int .u32 got] w (LrQ w b 97 p 3 own (m : Int) f ag t) := by
  obtain ⟨o1, o2, o3, W, V, hb⟩ := h
  have c5 : w.cell? ⟨b, 5, none⟩ = some (.int .i64 3) := cell_of hb 5
  have lb := lt_of hb
  have HP := Lib.hid hp
  have hpn : ∀ (b : Nat) w, (binOp .eql 74 (.pointer (some ⟨b, 0, none⟩)) (.pointer none)).run Try.prog w = .ok (.bool false) w := fun b w => by kernel_rfl
  have c14 : w.cell? ⟨b, 14, none⟩ = some (.int .i64 (a : Int)) := cell_of hb 14
  have cw : w.cell? ⟨b, 10 + a, none⟩ = some (.int .u32 (W a)) := (cell_of hb (10 + a)).trans (lr_word_at p _ _ _ _ _ W _ _ _ _ _ a ha4)
  have fw := free_of hb (10 + a)
  have HB := Lib.hid hb
  have hd : decide ((m : Int) < p 3) = true := by simp; omega
  have hw3 := hp.w
  have j2 : (0 : Int) ≤ (a : Int) := by omega
  have j3 : (a : Int) < 4 := by omega
  have jw : IntKind.i64.wrap (a : Int) = (a : Int) := IntWalk.i64_in _ ⟨by omega, by omega⟩
  have i1 : (a : Int) + 1 = (m : Int) := by omega
  have i2 : (0 : Int) ≤ (m : Int) := by omega
  have iw : IntKind.i64.wrap (m : Int) = (m : Int) := IntWalk.i64_in _ ⟨by omega, by omega⟩
  have I1 := Lib.hid i1
  have HA4 := Lib.hid ha4
  clear hb hp i1 hma hm
  go_enter Try.func104, Try.ntmps104
  go_wp2_with fail
  refine wp_scope_n 4 ?_
  go_wp2_with fail
  go_region
  have HB1 := Lib.hid (show ((w.setCell ⟨b, 10 + a, none⟩ (.int .u32 got)).drew).heap[b]? = some (.cells (lrC p 3 o1 o2 o3 own (fun i => if i = a then got else W i) (a : Int) f V ag t) 97 (0, 0)) from (heap_set HB.out (10 + a) (.int .u32 got)).trans (by rw [lr_word_set p _ _ _ _ _ W _ _ _ _ _ a HA4.out got]))
  have HK1 := Lib.hid (((Keeps.refl (fun X => X = b) w).setCell (p := ⟨b, 10 + a, none⟩) (.inl rfl) (.int .u32 got)).drew)
  clear c14 cw fw c5 lb
  generalize (w.setCell ⟨b, 10 + a, none⟩ (.int .u32 got)).drew = W1 at HB1 HK1 ⊢
  generalize (fun i => if i = a then got else W i) = W' at HB1
  have c14 : W1.cell? ⟨b, 14, none⟩ = some (.int .i64 (a : Int)) := cell_of HB1.out 14
  have f14 := free_of HB1.out 14
  have l1 := lt_of HB1.out
  go_wp2_with fail
  go_step3
  refine scopeN_goto rfl ?_
  rw [I1.out]
  have HBx := Lib.hid (show (W1.setCell ⟨b, 14, none⟩ (.int .i64 (m : Int))).heap[b]? = some (.cells (lrC p 3 o1 o2 o3 own W' (m : Int) f V ag t) 97 (0, 0)) from heap_set HB1.out 14 _)
  have HKx := Lib.hid (HK1.out.setCell (p := ⟨b, 14, none⟩) (.inl rfl) (.int .i64 (m : Int)))
  clear c14 f14 l1
  generalize W1.setCell ⟨b, 14, none⟩ (.int .i64 (m : Int)) = Wd at HBx HKx ⊢
  go_wp2_with fail
  have HBw := Lib.hid (show Wd.drew.heap[b]? = _ from HBx.out)
  have HKw := Lib.hid HKx.out.drew
  go_region_held3 (fun w' => w'.cell? ⟨b, 14, none⟩ = some (.int .i64 ((m : Int))) ∧ w'.cell? ⟨b, 3, none⟩ = some (.int .i64 (p 3)))
    (first
      | exact ⟨cell_of HBw.out 14, cell_of HBw.out 3⟩
      | go_keep)
    (fail)
  all_goals
    generalize Wd.drew = Wv at HBw HKw ⊢
    go_wp2_with fail
    have HBv := Lib.hid (show Wv.drew.heap[b]? = _ from HBw.out)
    have HKv := Lib.hid HKw.out.drew
    go_region_held3 (fun _ => True)
      (first
        | trivial
        | go_keep)
      (first
        | (go_at_call 100; refine (lk_data _ b p ((m : Int)) (plAt_of HBv.out rfl rfl rfl rfl rfl) (cell_of HBv.out 14) HP.out.ok).mono ?_; rintro e2 w2 ⟨⟨x, rfl⟩, k2⟩; replace HBv := Lib.hid (k2.at HBv.out fun h => h); replace HKv := Lib.hid (HKv.out.own k2 fun _ h => h.elim); clear k2)
        | (go_at_call 42; refine (lk_load _ b 97 _ 3 x HBv.out (show 20 ≤ 22 by omega)).mono ?_; rintro e3 w3 ⟨rfl, hb3, k3⟩; have HB3 := Lib.hid hb3; have HK3 := Lib.hid (HKv.out.trans k3); clear hb3 k3)
        | fail)
    all_goals
      go_wp2_with fail
      refine scopeN_ret _ (bodyPost_ret (results_none rfl _ _ _) rfl ?_)
      exact ⟨rfl, ⟨1, x, 0, W', V, HB3.out.trans (by kernel_rfl)⟩, HK3.out⟩
set_option maxRecDepth 100000 in
set_option maxHeartbeats 8000000 in
/-- The last word was read. -/
theorem lr_take3e (w : World) (b : Nat) (p : Nat → Int) (own f ag t got : Int) (a : Nat) (ha : a ≤ 4) (h : IsLr w b 97 p 3 own (a : Int) f ag t) (hp : LkOk p) (ha4 : a < 4) (m : Nat) (hma : m = a + 1) (hm : p 3 ≤ (m : Int)) :
    Calls Try.prog 104 #[.pointer (some ⟨b, 0, none⟩), .int .u32 got] w (LrQ w b 97 p 4 own (m : Int) f ag t) := by
  obtain ⟨o1, o2, o3, W, V, hb⟩ := h
  have c5 : w.cell? ⟨b, 5, none⟩ = some (.int .i64 3) := cell_of hb 5
  have lb := lt_of hb
  have HP := Lib.hid hp
  have hpn : ∀ (b : Nat) w, (binOp .eql 74 (.pointer (some ⟨b, 0, none⟩)) (.pointer none)).run Try.prog w = .ok (.bool false) w := fun b w => by kernel_rfl
  have c14 : w.cell? ⟨b, 14, none⟩ = some (.int .i64 (a : Int)) := cell_of hb 14
  have cw : w.cell? ⟨b, 10 + a, none⟩ = some (.int .u32 (W a)) := (cell_of hb (10 + a)).trans (lr_word_at p _ _ _ _ _ W _ _ _ _ _ a ha4)
  have fw := free_of hb (10 + a)
  have HB := Lib.hid hb
  have hd : decide ((m : Int) < p 3) = false := by simp; omega
  have hw3 := hp.w
  have j2 : (0 : Int) ≤ (a : Int) := by omega
  have j3 : (a : Int) < 4 := by omega
  have jw : IntKind.i64.wrap (a : Int) = (a : Int) := IntWalk.i64_in _ ⟨by omega, by omega⟩
  have i1 : (a : Int) + 1 = (m : Int) := by omega
  have i2 : (0 : Int) ≤ (m : Int) := by omega
  have iw : IntKind.i64.wrap (m : Int) = (m : Int) := IntWalk.i64_in _ ⟨by omega, by omega⟩
  have I1 := Lib.hid i1
  have HA4 := Lib.hid ha4
  clear hb hp i1 hma hm
  go_enter Try.func104, Try.ntmps104
  go_wp2_with fail
  refine wp_scope_n 4 ?_
  go_wp2_with fail
  go_region
  have HB1 := Lib.hid (show ((w.setCell ⟨b, 10 + a, none⟩ (.int .u32 got)).drew).heap[b]? = some (.cells (lrC p 3 o1 o2 o3 own (fun i => if i = a then got else W i) (a : Int) f V ag t) 97 (0, 0)) from (heap_set HB.out (10 + a) (.int .u32 got)).trans (by rw [lr_word_set p _ _ _ _ _ W _ _ _ _ _ a HA4.out got]))
  have HK1 := Lib.hid (((Keeps.refl (fun X => X = b) w).setCell (p := ⟨b, 10 + a, none⟩) (.inl rfl) (.int .u32 got)).drew)
  clear c14 cw fw c5 lb
  generalize (w.setCell ⟨b, 10 + a, none⟩ (.int .u32 got)).drew = W1 at HB1 HK1 ⊢
  generalize (fun i => if i = a then got else W i) = W' at HB1
  have c14 : W1.cell? ⟨b, 14, none⟩ = some (.int .i64 (a : Int)) := cell_of HB1.out 14
  have f14 := free_of HB1.out 14
  have l1 := lt_of HB1.out
  go_wp2_with fail
  go_step3
  refine scopeN_goto rfl ?_
  rw [I1.out]
  have HBx := Lib.hid (show (W1.setCell ⟨b, 14, none⟩ (.int .i64 (m : Int))).heap[b]? = some (.cells (lrC p 3 o1 o2 o3 own W' (m : Int) f V ag t) 97 (0, 0)) from heap_set HB1.out 14 _)
  have HKx := Lib.hid (HK1.out.setCell (p := ⟨b, 14, none⟩) (.inl rfl) (.int .i64 (m : Int)))
  clear c14 f14 l1
  generalize W1.setCell ⟨b, 14, none⟩ (.int .i64 (m : Int)) = Wd at HBx HKx ⊢
  go_wp2_with fail
  have HBw := Lib.hid (show Wd.drew.heap[b]? = _ from HBx.out)
  have HKw := Lib.hid HKx.out.drew
  go_region_held3 (fun w' => w'.cell? ⟨b, 14, none⟩ = some (.int .i64 ((m : Int))) ∧ w'.cell? ⟨b, 3, none⟩ = some (.int .i64 (p 3)))
    (first
      | exact ⟨cell_of HBw.out 14, cell_of HBw.out 3⟩
      | go_keep)
    (fail)
  all_goals
    generalize Wd.drew = Wv at HBw HKw ⊢
    go_wp2_with fail
    have HBv := Lib.hid (show Wv.drew.heap[b]? = _ from HBw.out)
    have HKv := Lib.hid HKw.out.drew
    go_region_held3 (fun _ => True)
      (first
        | trivial
        | go_keep)
      (first
        | (go_at_call 43; refine (lk_counter _ b p (plAt_of HBv.out rfl rfl rfl rfl rfl) HP.out.ok).mono ?_; rintro e2 w2 ⟨⟨x, rfl⟩, k2⟩; replace HBv := Lib.hid (k2.at HBv.out fun h => h); replace HKv := Lib.hid (HKv.out.own k2 fun _ h => h.elim); clear k2)
        | (go_at_call 42; refine (lk_load _ b 97 _ 4 x HBv.out (show 20 ≤ 22 by omega)).mono ?_; rintro e3 w3 ⟨rfl, hb3, k3⟩; have HB3 := Lib.hid hb3; have HK3 := Lib.hid (HKv.out.trans k3); clear hb3 k3)
        | fail)
    all_goals
      go_wp2_with fail
      refine scopeN_ret _ (bodyPost_ret (results_none rfl _ _ _) rfl ?_)
      exact ⟨rfl, ⟨1, x, 0, W', V, HB3.out.trans (by kernel_rfl)⟩, HK3.out⟩
set_option maxRecDepth 100000 in
set_option maxHeartbeats 8000000 in
/-- The counter was told again: it is the same. -/
theorem lr_take4 (w : World) (b : Nat) (p : Nat → Int) (own f ag t got : Int) (a : Nat) (ha : a ≤ 4) (h : IsLr w b 97 p 4 own (a : Int) f ag t) (hp : LkOk p) (hg : got = own) :
    Calls Try.prog 104 #[.pointer (some ⟨b, 0, none⟩), .int .u32 got] w (LrQ w b 97 p 5 own (a : Int) 0 ag t) := by
  obtain ⟨o1, o2, o3, W, V, hb⟩ := h
  have c5 : w.cell? ⟨b, 5, none⟩ = some (.int .i64 4) := cell_of hb 5
  have lb := lt_of hb
  have HP := Lib.hid hp
  have hpn : ∀ (b : Nat) w, (binOp .eql 74 (.pointer (some ⟨b, 0, none⟩)) (.pointer none)).run Try.prog w = .ok (.bool false) w := fun b w => by kernel_rfl
  have c9 : w.cell? ⟨b, 9, none⟩ = some (.int .u32 own) := cell_of hb 9
  have HB := Lib.hid hb
  have hd0 : (got != own) = false := by simp [hg]
  clear hb hp hg
  go_enter Try.func104, Try.ntmps104
  go_wp2_with fail
  refine wp_scope_n 4 ?_
  go_wp2_with fail
  go_step3
  refine scopeN_goto rfl ?_
  go_wp2_with fail
  refine (lk_end w b 97 _ 0 HB.out (show 20 ≤ 22 by omega)).mono ?_
  rintro e3 w3 ⟨rfl, hb3, k3⟩
  have hb4 : w3.heap[b]? = some (.cells (lrC p 5 0 0 0 own W (a : Int) 0 (fun _ => 0) ag t) 97 (0, 0)) := hb3.trans (by kernel_rfl)
  have g10 := cell_of hb4 10
  have h10 := free_of hb4 10
  have g11 := cell_of hb4 11
  have h11 := free_of hb4 11
  have g12 := cell_of hb4 12
  have h12 := free_of hb4 12
  have g13 := cell_of hb4 13
  have h13 := free_of hb4 13
  have g16 := cell_of hb4 16
  have h16 := free_of hb4 16
  have g17 := cell_of hb4 17
  have h17 := free_of hb4 17
  have g18 := cell_of hb4 18
  have h18 := free_of hb4 18
  have g19 := cell_of hb4 19
  have h19 := free_of hb4 19
  have l4 := lt_of hb4
  have HB3 := Lib.hid hb4
  have HK3 := Lib.hid k3
  clear hb3 k3 c5 c9 lb hb4
  go_wp2_with fail
  refine scopeN_ret _ (bodyPost_ret (results_none rfl _ _ _) rfl ?_)
  exact ⟨rfl, ⟨0, 0, 0, W, W, (setsL_heap [(16, .int .u32 (W 0)), (17, .int .u32 (W 1)), (18, .int .u32 (W 2)), (19, .int .u32 (W 3))] HB3.out).trans (by kernel_rfl)⟩, HK3.out.trans (setsL_keep [(16, .int .u32 (W 0)), (17, .int .u32 (W 1)), (18, .int .u32 (W 2)), (19, .int .u32 (W 3))] w3 b)⟩
set_option maxRecDepth 100000 in
set_option maxHeartbeats 8000000 in
/-- The counter has moved, and a try is left. -/
theorem lr_take4o (w : World) (b : Nat) (p : Nat → Int) (own f ag t got : Int) (a : Nat) (ha : a ≤ 4) (h : IsLr w b 97 p 4 own (a : Int) f ag t) (hp : LkOk p) (hg : got ≠ own) (hm : t ≤ ag) :
    Calls Try.prog 104 #[.pointer (some ⟨b, 0, none⟩), .int .u32 got] w (LrQ w b 97 p 1 own (a : Int) f ag t) := by
  obtain ⟨o1, o2, o3, W, V, hb⟩ := h
  have c5 : w.cell? ⟨b, 5, none⟩ = some (.int .i64 4) := cell_of hb 5
  have lb := lt_of hb
  have HP := Lib.hid hp
  have hpn : ∀ (b : Nat) w, (binOp .eql 74 (.pointer (some ⟨b, 0, none⟩)) (.pointer none)).run Try.prog w = .ok (.bool false) w := fun b w => by kernel_rfl
  have c9 : w.cell? ⟨b, 9, none⟩ = some (.int .u32 own) := cell_of hb 9
  have HB := Lib.hid hb
  have hd0 : (got != own) = true := by simp [hg]
  have hd : decide (t ≤ ag) = true := by simp; omega
  clear hm
  clear hb hp hg
  go_enter Try.func104, Try.ntmps104
  go_wp2_with fail
  refine wp_scope_n 4 ?_
  go_wp2_with fail
  go_step3
  refine scopeN_goto rfl ?_
  go_wp2_with fail
  go_step3
  refine scopeN_goto rfl ?_
  clear c5 c9 lb
  have HBx := HB
  have HKx := Lib.hid (Keeps.refl (fun X => X = b) w)
  go_wp2_with fail
  have HBw := Lib.hid (show w.drew.heap[b]? = _ from HBx.out)
  have HKw := Lib.hid HKx.out.drew
  go_region_held3 (fun w' => w'.cell? ⟨b, 21, none⟩ = some (.int .i64 (t)) ∧ w'.cell? ⟨b, 20, none⟩ = some (.int .i64 ag))
    (first
      | exact ⟨cell_of HBw.out 21, cell_of HBw.out 20⟩
      | go_keep)
    (fail)
  all_goals
    generalize w.drew = Wv at HBw HKw ⊢
    go_wp2_with fail
    have HBv := Lib.hid (show Wv.drew.heap[b]? = _ from HBw.out)
    have HKv := Lib.hid HKw.out.drew
    go_region_held3 (fun _ => True)
      (first
        | trivial
        | go_keep)
      (first
        | (go_at_call 43; refine (lk_counter _ b p (plAt_of HBv.out rfl rfl rfl rfl rfl) HP.out.ok).mono ?_; rintro e2 w2 ⟨⟨x, rfl⟩, k2⟩; replace HBv := Lib.hid (k2.at HBv.out fun h => h); replace HKv := Lib.hid (HKv.out.own k2 fun _ h => h.elim); clear k2)
        | (go_at_call 42; refine (lk_load _ b 97 _ 1 x HBv.out (show 20 ≤ 22 by omega)).mono ?_; rintro e3 w3 ⟨rfl, hb3, k3⟩; have HB3 := Lib.hid hb3; have HK3 := Lib.hid (HKv.out.trans k3); clear hb3 k3)
        | fail)
    all_goals
      go_wp2_with fail
      refine scopeN_ret _ (bodyPost_ret (results_none rfl _ _ _) rfl ?_)
      exact ⟨rfl, ⟨1, x, 0, W, V, HB3.out.trans (by kernel_rfl)⟩, HK3.out⟩
set_option maxRecDepth 100000 in
set_option maxHeartbeats 8000000 in
/-- The counter has moved, and the tries are used up. -/
theorem lr_take4x (w : World) (b : Nat) (p : Nat → Int) (own f ag t got : Int) (a : Nat) (ha : a ≤ 4) (h : IsLr w b 97 p 4 own (a : Int) f ag t) (hp : LkOk p) (hg : got ≠ own) (hm : ag < t) :
    Calls Try.prog 104 #[.pointer (some ⟨b, 0, none⟩), .int .u32 got] w (LrQ w b 97 p 5 own (a : Int) 8 ag t) := by
  obtain ⟨o1, o2, o3, W, V, hb⟩ := h
  have c5 : w.cell? ⟨b, 5, none⟩ = some (.int .i64 4) := cell_of hb 5
  have lb := lt_of hb
  have HP := Lib.hid hp
  have hpn : ∀ (b : Nat) w, (binOp .eql 74 (.pointer (some ⟨b, 0, none⟩)) (.pointer none)).run Try.prog w = .ok (.bool false) w := fun b w => by kernel_rfl
  have c9 : w.cell? ⟨b, 9, none⟩ = some (.int .u32 own) := cell_of hb 9
  have HB := Lib.hid hb
  have hd0 : (got != own) = true := by simp [hg]
  have hd : decide (t ≤ ag) = false := by simp; omega
  clear hm
  clear hb hp hg
  go_enter Try.func104, Try.ntmps104
  go_wp2_with fail
  refine wp_scope_n 4 ?_
  go_wp2_with fail
  go_step3
  refine scopeN_goto rfl ?_
  go_wp2_with fail
  go_step3
  refine scopeN_goto rfl ?_
  clear c5 c9 lb
  have HBx := HB
  have HKx := Lib.hid (Keeps.refl (fun X => X = b) w)
  go_wp2_with fail
  have HBw := Lib.hid (show w.drew.heap[b]? = _ from HBx.out)
  have HKw := Lib.hid HKx.out.drew
  go_region_held3 (fun w' => w'.cell? ⟨b, 21, none⟩ = some (.int .i64 (t)) ∧ w'.cell? ⟨b, 20, none⟩ = some (.int .i64 ag))
    (first
      | exact ⟨cell_of HBw.out 21, cell_of HBw.out 20⟩
      | go_keep)
    (fail)
  all_goals
    generalize w.drew = Wv at HBw HKw ⊢
    go_wp2_with fail
    refine (lk_end Wv b 97 _ 8 HBw.out (show 20 ≤ 22 by omega)).mono ?_
    rintro e3 w3 ⟨rfl, hb3, k3⟩
    have HB3 := Lib.hid hb3
    have HK3 := Lib.hid (HKw.out.trans k3)
    clear hb3 k3
    go_wp2_with fail
    refine scopeN_normal _ (bodyPost_end (results_none rfl _ _ _) rfl ?_)
    exact ⟨rfl, ⟨0, 0, 0, W, fun _ => 0, HB3.out.trans (by kernel_rfl)⟩, HK3.out⟩
end Go.Proofs.Ytdnppkihpddlhaa
