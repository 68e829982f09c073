import Derived.Test.YtdnppkihpddlhaaBdI
import Derived.Test.YtdnppkihpddlhaaBdF
import Derived.Test.YtdnppkihpddlhaaScopeN
namespace Go.Proofs.Ytdnppkihpddlhaa
open Go.ChangeShapes Go.WideShapes Go.ChangeAt Go.RowKit
set_option linter.unusedVariables false
set_option linter.unusedSimpArgs false
/-- A ring's routine, cell by cell. -/
@[reducible] def rgC (p : Nat → Int) (st o1 o2 o3 own : Int) (W : Nat → Int) (at' f : Int) (V : Nat → Int) : Array Value := #[.int .i64 (p 0), .int .i64 (p 1), .int .i64 (p 2), .int .i64 (p 3), .int .i64 (p 4), .int .i64 st, .int .i64 o1, .int .i64 o2, .int .u32 o3, .int .u32 own, .int .u32 (W 0), .int .u32 (W 1), .int .u32 (W 2), .int .u32 (W 3), .int .i64 at', .int .i64 f, .int .u32 (V 0), .int .u32 (V 1), .int .u32 (V 2), .int .u32 (V 3)]
def IsRg (w : World) (b : Nat) (T : TypeId) (p : Nat → Int) (st own at' f : Int) : Prop := ∃ (o1 o2 o3 : Int) (W V : Nat → Int), w.heap[b]? = some (.cells (rgC p st o1 o2 o3 own W at' f V) T (0, 0))
theorem IsRg.none {w w' : World} {b : Nat} {T : TypeId} {p : Nat → Int} {st own at' f : Int} (h : IsRg w b T p st own at' f) (k : Keeps (fun _ => False) w w') : IsRg w' b T p st own at' f := by
  obtain ⟨o1, o2, o3, W, V, h⟩ := h
  exact ⟨o1, o2, o3, W, V, k.at h fun h => h⟩
theorem IsRg.stAt {w : World} {b : Nat} {T : TypeId} {p : Nat → Int} {st own at' f : Int} (h : IsRg w b T p st own at' f) : StAt w b 15 st f := by
  obtain ⟨o1, o2, o3, W, V, h⟩ := h
  exact ⟨cell_of h 5, ⟨o1, o2, o3, cell_of h 6, cell_of h 7, cell_of h 8⟩, ⟨V 0, V 1, V 2, V 3, cell_of h 15, cell_of h 16, cell_of h 17, cell_of h 18, cell_of h 19⟩, lt_of h⟩
def RgQ (w : World) (b : Nat) (T : TypeId) (p : Nat → Int) (st own at' f : Int) (e : Ending) (w' : World) : Prop := e = .returned (.tuple #[]) ∧ IsRg w' b T p st own at' f ∧ Keeps (fun X => X = b) w w'
theorem word_at (p : Nat → Int) (st o1 o2 o3 own : Int) (W : Nat → Int) (at' f : Int) (V : Nat → Int) (a : Nat) (ha : a < 4) : (rgC p st o1 o2 o3 own W at' f V)[10 + a]? = some (.int .u32 (W a)) := by
  rcases (by omega : a = 0 ∨ a = 1 ∨ a = 2 ∨ a = 3) with rfl | rfl | rfl | rfl <;> rfl
theorem ahead_u (x y : Int) (w : World) : Calls Try.prog 73 #[.int .u32 x, .int .u32 y] w fun e w' => e = .returned (.int .u32 (IntKind.u32.wrap (x - y))) ∧ w' = w := by
  go_enter Try.func73, Try.ntmps73
  go_wp2_with fail
  go_ret
  exact ⟨rfl, rfl⟩
theorem word_at2 (p : Nat → Int) (st o1 o2 o3 own : Int) (W : Nat → Int) (at' f : Int) (V : Nat → Int) (v5 v6 v7 v8 : Value) (a : Nat) (ha : a < 4) : (setsC (rgC p st o1 o2 o3 own W at' f V) [(5, v5), (6, v6), (7, v7), (8, v8)])[10 + a]? = some (.int .u32 (W a)) := by
  rcases (by omega : a = 0 ∨ a = 1 ∨ a = 2 ∨ a = 3) with rfl | rfl | rfl | rfl <;> rfl
/-- A ring's place. -/
structure RgOk (p : Nat → Int) : Prop where
  ok : PlOk p
  k : p 0 = 1
  c : 1 ≤ p 2 ∧ p 2 ≤ 64
  w : 1 ≤ p 3 ∧ p 3 ≤ 4
set_option maxRecDepth 100000 in
set_option maxHeartbeats 8000000 in
/-- The own counter was read. -/
theorem push_take1 (w : World) (b : Nat) (p : Nat → Int) (own f got : Int) (a : Nat) (ha : a ≤ 4) (h : IsRg w b 82 p 1 own (a : Int) f) (hp : RgOk p) :
    Calls Try.prog 69 #[.pointer (some ⟨b, 0, none⟩), .int .u32 got] w (RgQ w b 82 p 2 got (a : Int) f) := by
  obtain ⟨o1, o2, o3, W, V, hb⟩ := h
  have c5 : w.cell? ⟨b, 5, none⟩ = some (.int .i64 1) := cell_of hb 5
  have lb := lt_of hb
  have HP := Lib.hid hp
  have hpn : ∀ (b : Nat) w, (binOp .eql 64 (.pointer (some ⟨b, 0, none⟩)) (.pointer none)).run Try.prog w = .ok (.bool false) w := fun b w => by kernel_rfl
  have c9 : w.cell? ⟨b, 9, none⟩ = some (.int .u32 own) := cell_of hb 9
  have f9 := free_of hb 9
  have HB := Lib.hid hb
  clear hb hp
  go_enter Try.func69, Try.ntmps69
  go_wp2_with fail
  refine wp_scope_n 2 ?_
  go_wp2_with fail
  go_step3
  refine scopeN_goto rfl ?_
  go_wp2_with fail
  have HB1 := Lib.hid (show (w.setCell ⟨b, 9, none⟩ (.int .u32 got)).heap[b]? = some (.cells (rgC p 1 o1 o2 o3 got W (a : Int) f V) 82 (0, 0)) from heap_set HB.out 9 _)
  have HK1 := Lib.hid ((Keeps.refl (fun X => X = b) w).setCell (p := ⟨b, 9, none⟩) (.inl rfl) (.int .u32 got))
  clear c5 c9 f9 lb
  generalize w.setCell ⟨b, 9, none⟩ (.int .u32 got) = W1 at HB1 HK1 ⊢
  go_region_held3 (fun _ => True)
    (first
      | trivial
      | go_keep)
    (first
      | (go_at_call 72; refine (rg_counter W1.drew b p 1 (plAt_of (show W1.drew.heap[b]? = _ from HB1.out) rfl rfl rfl rfl rfl) HP.out.ok (by omega)).mono ?_; rintro e2 w2 ⟨⟨x, rfl⟩, k2⟩; have HB2 := Lib.hid (k2.at (show W1.drew.heap[b]? = _ from HB1.out) fun h => h); have HK2 := Lib.hid (HK1.out.drew.own k2 fun _ h => h.elim); clear k2)
      | (go_at_call 38; refine (rg_load w2 b 82 _ 2 x HB2.out (Nat.le_refl 20)).mono ?_; rintro e3 w3 ⟨rfl, hb3, k3⟩; have HB3 := Lib.hid hb3; have HK3 := Lib.hid (HK2.out.trans k3); clear hb3 k3)
      | fail)
  all_goals
    go_wp2_with fail
    refine scopeN_ret _ (bodyPost_ret (results_none rfl _ _ _) rfl ?_)
    exact ⟨rfl, ⟨1, x, 0, W, V, HB3.out.trans (by kernel_rfl)⟩, HK3.out⟩
set_option maxRecDepth 100000 in
set_option maxHeartbeats 8000000 in
/-- The own counter was moved. -/
theorem push_take4 (w : World) (b : Nat) (p : Nat → Int) (own f got : Int) (a : Nat) (ha : a ≤ 4) (h : IsRg w b 82 p 4 own (a : Int) f) (hp : RgOk p) :
    Calls Try.prog 69 #[.pointer (some ⟨b, 0, none⟩), .int .u32 got] w (RgQ w b 82 p 5 own (a : Int) 0) := by
  obtain ⟨o1, o2, o3, W, V, hb⟩ := h
  have c5 : w.cell? ⟨b, 5, none⟩ = some (.int .i64 4) := cell_of hb 5
  have lb := lt_of hb
  have HP := Lib.hid hp
  have hpn : ∀ (b : Nat) w, (binOp .eql 64 (.pointer (some ⟨b, 0, none⟩)) (.pointer none)).run Try.prog w = .ok (.bool false) w := fun b w => by kernel_rfl
  have HB := Lib.hid hb
  clear hb hp
  go_enter Try.func69, Try.ntmps69
  go_wp2_with fail
  refine wp_scope_n 2 ?_
  go_wp2_with fail
  refine (rg_end w b 82 _ 0 HB.out (Nat.le_refl 20)).mono ?_
  rintro e3 w3 ⟨rfl, hb3, k3⟩
  have HB3 := Lib.hid hb3
  have HK3 := Lib.hid k3
  clear hb3 k3 c5 lb
  go_wp2_with fail
  refine scopeN_ret _ (bodyPost_ret (results_none rfl _ _ _) rfl ?_)
  exact ⟨rfl, ⟨0, 0, 0, W, fun _ => 0, HB3.out.trans (by kernel_rfl)⟩, HK3.out⟩
set_option maxRecDepth 100000 in
set_option maxHeartbeats 8000000 in
/-- A word was put; another follows. -/
theorem push_take3 (w : World) (b : Nat) (p : Nat → Int) (own f got : Int) (a : Nat) (ha : a ≤ 4) (h : IsRg w b 82 p 3 own (a : Int) f) (hp : RgOk p) (m : Nat) (hma : m = a + 1) (hm : (m : Int) < p 3) :
    Calls Try.prog 69 #[.pointer (some ⟨b, 0, none⟩), .int .u32 got] w (RgQ w b 82 p 3 own (m : Int) f) := by
  obtain ⟨o1, o2, o3, W, V, hb⟩ := h
  have c5 : w.cell? ⟨b, 5, none⟩ = some (.int .i64 3) := cell_of hb 5
  have lb := lt_of hb
  have HP := Lib.hid hp
  have hpn : ∀ (b : Nat) w, (binOp .eql 64 (.pointer (some ⟨b, 0, none⟩)) (.pointer none)).run Try.prog w = .ok (.bool false) w := fun b w => by kernel_rfl
  have c14 : w.cell? ⟨b, 14, none⟩ = some (.int .i64 (a : Int)) := cell_of hb 14
  have f14 := free_of hb 14
  have HB := Lib.hid hb
  have hd : decide ((m : Int) < p 3) = true := by simp; omega
  have hw3 := hp.w
  have i1 : (a : Int) + 1 = (m : Int) := by omega
  have i2 : (0 : Int) ≤ (m : Int) := by omega
  have iw : IntKind.i64.wrap (m : Int) = (m : Int) := IntWalk.i64_in _ ⟨by omega, by omega⟩
  have I1 := Lib.hid i1
  have i3 : (m : Int) < 4 := by omega
  clear hb hp i1 hma hm
  go_enter Try.func69, Try.ntmps69
  go_wp2_with fail
  refine wp_scope_n 2 ?_
  go_wp2_with fail
  go_step3
  refine scopeN_goto rfl ?_
  rw [I1.out]
  have HBw := Lib.hid (show (w.setCell ⟨b, 14, none⟩ (.int .i64 (m : Int))).heap[b]? = some (.cells (rgC p 3 o1 o2 o3 own W (m : Int) f V) 82 (0, 0)) from heap_set HB.out 14 _)
  have HKw := Lib.hid ((Keeps.refl (fun X => X = b) w).setCell (p := ⟨b, 14, none⟩) (.inl rfl) (.int .i64 (m : Int)))
  clear c5 c14 f14 lb
  generalize w.setCell ⟨b, 14, none⟩ (.int .i64 (m : Int)) = Wd at HBw HKw ⊢
  go_wp2_with fail
  go_region_held3 (fun w' => w'.cell? ⟨b, 14, none⟩ = some (.int .i64 ((m : Int))) ∧ w'.cell? ⟨b, 3, none⟩ = some (.int .i64 (p 3)))
    (first
      | exact ⟨cell_of HBw.out 14, cell_of HBw.out 3⟩
      | go_keep)
    (fail)
  all_goals
    have HBv0 := Lib.hid (show Wd.drew.heap[b]? = _ from HBw.out)
    have HKv0 := Lib.hid HKw.out.drew
    generalize Wd.drew = Wv at HBv0 HKv0 ⊢
    go_wp2_with fail
    have HBv := Lib.hid (show Wv.drew.heap[b]? = _ from HBv0.out)
    have HKv := Lib.hid HKv0.out.drew
    go_region_held3 (fun w' => w'.cell? ⟨b, 14, none⟩ = some (.int .i64 ((m : Int))) ∧ w'.cell? ⟨b, 10 + (m), none⟩ = some (.int .u32 (W (m))))
      (first
        | exact ⟨(cell_of HB3.out 14).trans (by kernel_rfl), (cell_of HB3.out (10 + (m))).trans (word_at2 p _ _ _ _ _ W _ _ _ _ _ _ _ (m) (by omega))⟩
        | exact ⟨cell_of HBv.out 14, (cell_of HBv.out (10 + (m))).trans (word_at p _ _ _ _ _ W _ _ _ (m) (by omega))⟩
        | go_keep)
      (first
        | (go_at_call 75; refine (rg_entry _ b p own (plAt_of HBv.out rfl rfl rfl rfl rfl) (cell_of HBv.out 9) HP.out.ok HP.out.k).mono ?_; rintro e2 w2 ⟨X, Y, i, rfl, hX, hY, k2⟩; replace HBv := Lib.hid (k2.at HBv.out fun h => h); replace HKv := Lib.hid (HKv.out.own k2 fun _ h => h.elim); have HX := Lib.hid hX; have HY := Lib.hid hY; clear k2 hX hY)
        | (go_at_call 78; refine (entry_cell _ b X Y p i _ (plAt_of HBv.out rfl rfl rfl rfl rfl) HP.out.ok HX.out HY.out).mono ?_; rintro e4 w4 ⟨⟨x, rfl⟩, k4⟩; replace HBv := Lib.hid (k4.at HBv.out fun h => h); replace HKv := Lib.hid (HKv.out.own k4 fun _ h => h.elim); clear k4)
        | (go_at_call 74; refine (rg_store _ b 82 _ 3 x _ HBv.out (Nat.le_refl 20)).mono ?_; rintro e3 w3 ⟨rfl, hb3, k3⟩; have HB3 := Lib.hid hb3; have HK3 := Lib.hid (HKv.out.trans k3); clear hb3 k3)
        | fail)
    all_goals
      go_wp2_with fail
      refine scopeN_ret _ (bodyPost_ret (results_none rfl _ _ _) rfl ?_)
      exact ⟨rfl, ⟨2, x, W m, W, V, HB3.out.trans (by kernel_rfl)⟩, HK3.out⟩
set_option maxRecDepth 100000 in
set_option maxHeartbeats 8000000 in
/-- The last word was put. -/
theorem push_take3e (w : World) (b : Nat) (p : Nat → Int) (own f got : Int) (a : Nat) (ha : a ≤ 4) (h : IsRg w b 82 p 3 own (a : Int) f) (hp : RgOk p) (m : Nat) (hma : m = a + 1) (hm : p 3 ≤ (m : Int)) :
    Calls Try.prog 69 #[.pointer (some ⟨b, 0, none⟩), .int .u32 got] w (RgQ w b 82 p 4 own (m : Int) f) := by
  obtain ⟨o1, o2, o3, W, V, hb⟩ := h
  have c5 : w.cell? ⟨b, 5, none⟩ = some (.int .i64 3) := cell_of hb 5
  have lb := lt_of hb
  have HP := Lib.hid hp
  have hpn : ∀ (b : Nat) w, (binOp .eql 64 (.pointer (some ⟨b, 0, none⟩)) (.pointer none)).run Try.prog w = .ok (.bool false) w := fun b w => by kernel_rfl
  have c14 : w.cell? ⟨b, 14, none⟩ = some (.int .i64 (a : Int)) := cell_of hb 14
  have f14 := free_of hb 14
  have HB := Lib.hid hb
  have hd : decide ((m : Int) < p 3) = false := by simp; omega
  have hw3 := hp.w
  have i1 : (a : Int) + 1 = (m : Int) := by omega
  have i2 : (0 : Int) ≤ (m : Int) := by omega
  have iw : IntKind.i64.wrap (m : Int) = (m : Int) := IntWalk.i64_in _ ⟨by omega, by omega⟩
  have I1 := Lib.hid i1
  clear hb hp i1 hma hm
  go_enter Try.func69, Try.ntmps69
  go_wp2_with fail
  refine wp_scope_n 2 ?_
  go_wp2_with fail
  go_step3
  refine scopeN_goto rfl ?_
  rw [I1.out]
  have HBw := Lib.hid (show (w.setCell ⟨b, 14, none⟩ (.int .i64 (m : Int))).heap[b]? = some (.cells (rgC p 3 o1 o2 o3 own W (m : Int) f V) 82 (0, 0)) from heap_set HB.out 14 _)
  have HKw := Lib.hid ((Keeps.refl (fun X => X = b) w).setCell (p := ⟨b, 14, none⟩) (.inl rfl) (.int .i64 (m : Int)))
  clear c5 c14 f14 lb
  generalize w.setCell ⟨b, 14, none⟩ (.int .i64 (m : Int)) = Wd at HBw HKw ⊢
  go_wp2_with fail
  go_region_held3 (fun w' => w'.cell? ⟨b, 14, none⟩ = some (.int .i64 ((m : Int))) ∧ w'.cell? ⟨b, 3, none⟩ = some (.int .i64 (p 3)))
    (first
      | exact ⟨cell_of HBw.out 14, cell_of HBw.out 3⟩
      | go_keep)
    (fail)
  all_goals
    have HBv0 := Lib.hid (show Wd.drew.heap[b]? = _ from HBw.out)
    have HKv0 := Lib.hid HKw.out.drew
    generalize Wd.drew = Wv at HBv0 HKv0 ⊢
    go_wp2_with fail
    have HBv := Lib.hid (show Wv.drew.heap[b]? = _ from HBv0.out)
    have HKv := Lib.hid HKv0.out.drew
    go_region_held3 (fun w' => w'.cell? ⟨b, 9, none⟩ = some (.int .u32 own))
      (first
        | exact (cell_of HB3.out 9).trans (by kernel_rfl)
        | exact cell_of HBv.out 9
        | go_keep)
      (first
        | (go_at_call 72; refine (rg_counter _ b p 2 (plAt_of HBv.out rfl rfl rfl rfl rfl) HP.out.ok (by omega)).mono ?_; rintro e2 w2 ⟨⟨x, rfl⟩, k2⟩; replace HBv := Lib.hid (k2.at HBv.out fun h => h); replace HKv := Lib.hid (HKv.out.own k2 fun _ h => h.elim); clear k2)
        | (go_at_call 74; refine (rg_store _ b 82 _ 4 x _ HBv.out (Nat.le_refl 20)).mono ?_; rintro e3 w3 ⟨rfl, hb3, k3⟩; have HB3 := Lib.hid hb3; have HK3 := Lib.hid (HKv.out.trans k3); clear hb3 k3)
        | fail)
    all_goals
      go_wp2_with fail
      refine scopeN_normal _ (bodyPost_end (results_none rfl _ _ _) rfl ?_)
      exact ⟨rfl, ⟨2, x, _, W, V, HB3.out⟩, HK3.out⟩
set_option maxRecDepth 100000 in
set_option maxHeartbeats 8000000 in
/-- The other counter was read: there is no room. -/
theorem push_take2f (w : World) (b : Nat) (p : Nat → Int) (own f got : Int) (a : Nat) (ha : a ≤ 4) (h : IsRg w b 82 p 2 own (a : Int) f) (hp : RgOk p) (hm : (a : Int) < p 3) (hf : p 2 ≤ IntKind.u32.wrap (own - got)) :
    Calls Try.prog 69 #[.pointer (some ⟨b, 0, none⟩), .int .u32 got] w (RgQ w b 82 p 5 own (a : Int) 6) := by
  obtain ⟨o1, o2, o3, W, V, hb⟩ := h
  have c5 : w.cell? ⟨b, 5, none⟩ = some (.int .i64 2) := cell_of hb 5
  have lb := lt_of hb
  have HP := Lib.hid hp
  have hpn : ∀ (b : Nat) w, (binOp .eql 64 (.pointer (some ⟨b, 0, none⟩)) (.pointer none)).run Try.prog w = .ok (.bool false) w := fun b w => by kernel_rfl
  have HB := Lib.hid hb
  have HA := Lib.hid (fun W => ahead_u own got W)
  have hc := hp.c
  have hw3 := hp.w
  have iw2 : IntKind.u32.wrap (p 2) = p 2 := IntWalk.u32_in _ ⟨by omega, by omega⟩
  have iw2' : p 2 % 4294967296 = p 2 := by omega
  generalize IntKind.u32.wrap (own - got) = z at *
  have hd : decide (p 2 ≤ z) = true := by simp; omega
  have hd2 : decide ((a : Int) < p 3) = true := by simp; omega
  have i2 : (0 : Int) ≤ (a : Int) := by omega
  have i3 : (a : Int) < 4 := by omega
  have iw : IntKind.i64.wrap (a : Int) = (a : Int) := IntWalk.i64_in _ ⟨by omega, by omega⟩
  have HBu := Lib.hid (show w.drew.heap[b]? = _ from hb)
  have HKu := Lib.hid ((Keeps.refl (fun X => X = b) w).drew)
  clear hb hp hf hm
  go_enter Try.func69, Try.ntmps69
  go_wp2_with fail
  refine wp_scope_n 2 ?_
  go_wp2_with fail
  go_step3
  refine scopeN_goto rfl ?_
  go_wp2_with fail
  go_region_held3 (fun w' => w'.cell? ⟨b, 9, none⟩ = some (.int .u32 own) ∧ w'.cell? ⟨b, 2, none⟩ = some (.int .i64 (p 2)))
    (first
      | exact ⟨cell_of HBu.out 9, cell_of HBu.out 2⟩
      | go_keep)
    (first
      | (go_at_call 73; refine (HA.out _).mono ?_; rintro e2 w2 ⟨rfl, rfl⟩)
      | fail)
  all_goals
    clear c5 lb
    generalize w.drew = Wd at HBu HKu ⊢
    go_wp2_with fail
    refine (rg_end Wd b 82 _ 6 HBu.out (Nat.le_refl 20)).mono ?_
    rintro e3 w3 ⟨rfl, hb3, k3⟩
    have HB3 := Lib.hid hb3
    have HK3 := Lib.hid (HKu.out.trans k3)
    clear hb3 k3
    go_wp2_with fail
    refine scopeN_ret _ (bodyPost_ret (results_none rfl _ _ _) rfl ?_)
    exact ⟨rfl, ⟨0, 0, 0, W, fun _ => 0, HB3.out.trans (by kernel_rfl)⟩, HK3.out⟩
set_option maxRecDepth 100000 in
set_option maxHeartbeats 8000000 in
/-- The other counter was read: there is room. -/
theorem push_take2 (w : World) (b : Nat) (p : Nat → Int) (own f got : Int) (a : Nat) (ha : a ≤ 4) (h : IsRg w b 82 p 2 own (a : Int) f) (hp : RgOk p) (hm : (a : Int) < p 3) (hf : IntKind.u32.wrap (own - got) < p 2) :
    Calls Try.prog 69 #[.pointer (some ⟨b, 0, none⟩), .int .u32 got] w (RgQ w b 82 p 3 own (a : Int) f) := by
  obtain ⟨o1, o2, o3, W, V, hb⟩ := h
  have c5 : w.cell? ⟨b, 5, none⟩ = some (.int .i64 2) := cell_of hb 5
  have lb := lt_of hb
  have HP := Lib.hid hp
  have hpn : ∀ (b : Nat) w, (binOp .eql 64 (.pointer (some ⟨b, 0, none⟩)) (.pointer none)).run Try.prog w = .ok (.bool false) w := fun b w => by kernel_rfl
  have HB := Lib.hid hb
  have HA := Lib.hid (fun W => ahead_u own got W)
  have hc := hp.c
  have hw3 := hp.w
  have iw2 : IntKind.u32.wrap (p 2) = p 2 := IntWalk.u32_in _ ⟨by omega, by omega⟩
  have iw2' : p 2 % 4294967296 = p 2 := by omega
  generalize IntKind.u32.wrap (own - got) = z at *
  have hd : decide (p 2 ≤ z) = false := by simp; omega
  have hd2 : decide ((a : Int) < p 3) = true := by simp; omega
  have i2 : (0 : Int) ≤ (a : Int) := by omega
  have i3 : (a : Int) < 4 := by omega
  have iw : IntKind.i64.wrap (a : Int) = (a : Int) := IntWalk.i64_in _ ⟨by omega, by omega⟩
  have HBu := Lib.hid (show w.drew.heap[b]? = _ from hb)
  have HKu := Lib.hid ((Keeps.refl (fun X => X = b) w).drew)
  clear hb hp hf hm
  go_enter Try.func69, Try.ntmps69
  go_wp2_with fail
  refine wp_scope_n 2 ?_
  go_wp2_with fail
  go_step3
  refine scopeN_goto rfl ?_
  go_wp2_with fail
  go_region_held3 (fun w' => w'.cell? ⟨b, 9, none⟩ = some (.int .u32 own) ∧ w'.cell? ⟨b, 2, none⟩ = some (.int .i64 (p 2)))
    (first
      | exact ⟨cell_of HBu.out 9, cell_of HBu.out 2⟩
      | go_keep)
    (first
      | (go_at_call 73; refine (HA.out _).mono ?_; rintro e2 w2 ⟨rfl, rfl⟩)
      | fail)
  all_goals
    clear c5 lb
    generalize w.drew = Wd at HBu HKu ⊢
    go_wp2_with fail
    go_step3
    go_wp2_with fail
    have HBw := Lib.hid (show Wd.drew.heap[b]? = _ from HBu.out)
    have HKw := Lib.hid HKu.out.drew
    go_region_held3 (fun w' => w'.cell? ⟨b, 14, none⟩ = some (.int .i64 ((a : Int))) ∧ w'.cell? ⟨b, 3, none⟩ = some (.int .i64 (p 3)))
      (first
        | exact ⟨cell_of HBw.out 14, cell_of HBw.out 3⟩
        | go_keep)
      (fail)
    all_goals
      generalize Wd.drew = Wv at HBw HKw ⊢
      go_wp2_with fail
      have HBv := Lib.hid (show Wv.drew.heap[b]? = _ from HBw.out)
      have HKv := Lib.hid HKw.out.drew
      go_region_held3 (fun w' => w'.cell? ⟨b, 14, none⟩ = some (.int .i64 ((a : Int))) ∧ w'.cell? ⟨b, 10 + (a), none⟩ = some (.int .u32 (W (a))))
        (first
          | exact ⟨(cell_of HB3.out 14).trans (by kernel_rfl), (cell_of HB3.out (10 + (a))).trans (word_at2 p _ _ _ _ _ W _ _ _ _ _ _ _ (a) (by omega))⟩
          | exact ⟨cell_of HBv.out 14, (cell_of HBv.out (10 + (a))).trans (word_at p _ _ _ _ _ W _ _ _ (a) (by omega))⟩
          | go_keep)
        (first
          | (go_at_call 75; refine (rg_entry _ b p own (plAt_of HBv.out rfl rfl rfl rfl rfl) (cell_of HBv.out 9) HP.out.ok HP.out.k).mono ?_; rintro e2 w2 ⟨X, Y, i, rfl, hX, hY, k2⟩; replace HBv := Lib.hid (k2.at HBv.out fun h => h); replace HKv := Lib.hid (HKv.out.own k2 fun _ h => h.elim); have HX := Lib.hid hX; have HY := Lib.hid hY; clear k2 hX hY)
          | (go_at_call 78; refine (entry_cell _ b X Y p i _ (plAt_of HBv.out rfl rfl rfl rfl rfl) HP.out.ok HX.out HY.out).mono ?_; rintro e4 w4 ⟨⟨x, rfl⟩, k4⟩; replace HBv := Lib.hid (k4.at HBv.out fun h => h); replace HKv := Lib.hid (HKv.out.own k4 fun _ h => h.elim); clear k4)
          | (go_at_call 74; refine (rg_store _ b 82 _ 3 x _ HBv.out (Nat.le_refl 20)).mono ?_; rintro e3 w3 ⟨rfl, hb3, k3⟩; have HB3 := Lib.hid hb3; have HK3 := Lib.hid (HKv.out.trans k3); clear hb3 k3)
          | fail)
      all_goals
        go_wp2_with fail
        refine scopeN_ret _ (bodyPost_ret (results_none rfl _ _ _) rfl ?_)
        exact ⟨rfl, ⟨2, x, W a, W, V, HB3.out.trans (by kernel_rfl)⟩, HK3.out⟩
end Go.Proofs.Ytdnppkihpddlhaa
