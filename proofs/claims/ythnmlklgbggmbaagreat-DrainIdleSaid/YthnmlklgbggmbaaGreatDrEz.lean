import Derived.Test.YthnmlklgbggmbaaGreatDrAz
namespace Go.Proofs.YthnmlklgbggmbaaGreat
open Go.ChangeShapes Go.WideShapes Go.ChangeAt Go.RowKit
set_option linter.unusedVariables false
set_option linter.unusedSimpArgs false
attribute [local irreducible] wpList
section
variable (w : World) (b : Nat) (p : DrP) (c : CfD) (part op ad : Int) (f : Value) (task : Int)
set_option maxRecDepth 20000 in
set_option maxHeartbeats 4000000 in
/-- No request: the ticks are next. -/
theorem take_ask (level : Int) (h : IsDr w b p 1 op ad f task level) (ht : p.t ≠ -1) :
    Calls Tryz.prog 14 #[.pointer (some ⟨b, 0, none⟩), .int .u32 0] w fun e w' => e = .returned (.slice none 0 0) ∧ IsDr w' b p 3 1 p.t f task level ∧ Keeps (fun j => j = b) w w' := by
  have HO := Lib.hid (on_any w b p 1 op ad f task level h true rfl)
  have HL := Lib.hid (load_cell w b p 1 op ad f task level h 3 p.t ht)
  have c8 : w.cell? ⟨b, 8, none⟩ = some (.int .i64 1) := h.cell 8
  have c2 : w.cell? ⟨b, 2, none⟩ = some (.int .i64 p.t) := h.cell 2
  clear h
  go_enter Tryz.func14, Tryz.ntmps14
  go_wp2_with fail
  refine wp_scope_n 3 ?_
  go_wp2_with fail
  refine HO.out.mono ?_
  rintro e1 w1 ⟨rfl, rfl⟩
  go_wp2_with fail
  go_step3
  refine scopeN_goto rfl ?_
  go_wp2_with fail
  refine HL.out.mono ?_
  rintro e2 w2 ⟨rfl, h2, k2⟩
  have H2 := Lib.hid (And.intro h2 k2)
  clear h2 k2
  go_wp2_with fail
  refine scopeN_ret _ ?_
  go_ret
  exact ⟨rfl, H2.out⟩
set_option maxRecDepth 20000 in
set_option maxHeartbeats 4000000 in
/-- The last: the choice. -/
theorem take_choose (level : Int) (P : Nat → Prop) (a : ScA) (M : ScM) (h : IsDr w b p 10 op ad f task level) (hs : ScW w P a M) (hp : p.s = a.s) (hc : firstM M = M.cur) :
    Calls Tryz.prog 14 #[.pointer (some ⟨b, 0, none⟩), .int .u32 0] w fun e w' => e = .returned (.slice none 0 0) ∧ IsDr w' b p 0 0 0 .nilFunc task level ∧ ScW w' P a M ∧ DK P b w w' := by
  have HO := Lib.hid (on_any w b p 10 op ad f task level h true rfl)
  have HD := Lib.hid (dispatch_same w b p 10 op ad f task level P a M h hs hp hc)
  have c8 : w.cell? ⟨b, 8, none⟩ = some (.int .i64 10) := h.cell 8
  clear h hs hp hc
  go_enter Tryz.func14, Tryz.ntmps14
  go_wp2_with fail
  refine wp_scope_n 3 ?_
  go_wp2_with fail
  refine HO.out.mono ?_
  rintro e1 w1 ⟨rfl, rfl⟩
  go_wp2_with fail
  refine HD.out.mono ?_
  rintro e2 w2 ⟨rfl, h2⟩
  have H2 := Lib.hid h2
  clear h2
  go_wp2_with fail
  refine scopeN_ret _ ?_
  go_ret
  exact ⟨rfl, H2.out⟩
end
/-- What stands behind the lines up to i. -/
def LnQ (w : World) (b : Nat) (p : DrP) (f : Value) (task : Int) (i : Nat) (w' : World) : Prop := ((i < p.nL ∧ ∃ x, IsDr w' b p 5 1 x f task (i : Int)) ∨ (p.nL ≤ i ∧ IsDr w' b p 10 0 0 f task (i : Int))) ∧ Keeps (fun j => j = b) w w'
/-- The lines' places may be. -/
def LnOk (c : CfD) (n : Nat) : Prop := ∀ i, i < n → rightS (oOf (lnPl (lnP (baseP c) c.lr i) (c.lr i))) = true ∧ 0 ≤ lnP (baseP c) c.lr i ∧ lnP (baseP c) c.lr i ≤ 1000000
section
variable (w : World) (b : Nat) (p : DrP) (c : CfD) (part op ad : Int) (f : Value) (task : Int)
set_option maxRecDepth 20000 in
set_option maxHeartbeats 4000000 in
/-- No tick: the lines are next. -/
theorem take_tick (P : Nat → Prop) (a : ScA) (M : ScM) (hS : DrS w b p c) (hR : LnOk c p.nL) (hL : p.nL ≤ 31) (hSC : ScW w P a M) (hp : p.s = a.s) (hw : M.W = []) (h : IsDr w b p 3 op ad f task ((0 : Nat) : Int)) :
    Calls Tryz.prog 14 #[.pointer (some ⟨b, 0, none⟩), .int .u32 0] w fun e w' => e = .returned (.slice none 0 0) ∧ LnQ w b p f task 0 w' := by
  have HO := Lib.hid (on_any w b p 3 op ad f task _ h true rfl)
  have c8 : w.cell? ⟨b, 8, none⟩ = some (.int .i64 3) := h.cell 8
  have c15 : w.cell? ⟨b, 15, none⟩ = some (.int .u32 0) := h.cell 15
  have f15 := h.free 15
  have hs := Lib.hid (fun W (k : Keeps (fun j => j = b) w W) => hS.at k)
  have hr := Lib.hid hR
  have hsc := Lib.hid hSC
  have hty := Lib.hid (show Ty w b 90 from ⟨_, _, h⟩)
  have hps := Lib.hid hp
  have hW := Lib.hid hw
  have HI0 := Lib.hid (show IsDr (setsL w b [(15, .int .u32 0)]) b p 3 op ad f task ((0 : Nat) : Int) from (setsL_heap [(15, .int .u32 0)] h).trans (by kernel_rfl))
  have HK0 := Lib.hid (setsL_keep [(15, .int .u32 0)] w b)
  clear h hS hR hSC hp hw
  go_enter Tryz.func14, Tryz.ntmps14
  go_wp2_with fail
  refine wp_scope_n 3 ?_
  go_wp2_with fail
  refine HO.out.mono ?_
  rintro e1 w1 ⟨rfl, rfl⟩
  go_wp2_with fail
  go_step3
  refine scopeN_goto rfl ?_
  go_wp2_with fail
  refine (unseen_zero _ b p 3 op ad f task _ HI0.out).mono ?_
  rintro e1 W1 ⟨rfl, k1⟩
  have HI := Lib.hid (HI0.out.at k1 fun h => h)
  have HK := Lib.hid (HK0.out.trans (k1.mono fun _ _ e => e.elim))
  clear k1
  go_wp2_with fail
  go_step3
  refine scopeN_goto rfl ?_
  go_wp2_with fail
  by_cases hi : 0 < p.nL
  · refine (unread_more W1 b p c 3 op ad f task (0) hi hL HI.out (hs.out _ HK.out) (hr.out _ hi).1 (hr.out _ hi).2).mono ?_
    rintro e2 w2 ⟨rfl, h2, k2⟩
    have H2 := Lib.hid (show LnQ w b p f task (0) w2 from ⟨.inl ⟨hi, h2⟩, HK.out.trans k2⟩)
    clear h2 k2
    go_wp2_with fail
    refine scopeN_ret _ ?_
    go_ret
    exact ⟨rfl, H2.out⟩
  · refine (unread_done W1 b p 3 op ad f task (0) (by omega) HI.out).mono ?_
    rintro e2 w2 ⟨rfl, k2⟩
    have HI2 := Lib.hid (HI.out.at k2 fun h => h)
    have HK2 := Lib.hid (HK.out.trans (k2.mono fun _ _ e => e.elim))
    have HSC2 := Lib.hid (hsc.out.dr hty.out HK2.out)
    have c5 : w2.cell? ⟨b, 5, none⟩ = some (.pointer (some ⟨p.s, 0, none⟩)) := HI2.out.cell 5
    rw [hps.out] at c5
    clear k2
    go_wp2_with fail
    refine (snext_zero w2 P a M HSC2.out hW.out (-1)).mono ?_
    rintro e3 w3 ⟨rfl, k3⟩
    have HI3 := Lib.hid (HI2.out.at k3 fun h => h)
    have HK3 := Lib.hid (HK2.out.trans (k3.mono fun _ _ e => e.elim))
    have d21 : w3.cell? ⟨b, 21, none⟩ = some (.int .i64 0) := HI3.out.cell 21
    have d22 : w3.cell? ⟨b, 22, none⟩ = some (.int .i64 0) := HI3.out.cell 22
    have d23 : w3.cell? ⟨b, 23, none⟩ = some (.int .i64 0) := HI3.out.cell 23
    have d24 : w3.cell? ⟨b, 24, none⟩ = some (.int .u32 0) := HI3.out.cell 24
    have d25 : w3.cell? ⟨b, 25, none⟩ = some (.bool false) := HI3.out.cell 25
    have g21 := HI3.out.free 21
    have g22 := HI3.out.free 22
    have g23 := HI3.out.free 23
    have g24 := HI3.out.free 24
    have g25 := HI3.out.free 25
    have l3 := HI3.out.lt
    have HI4 := Lib.hid (show IsDr (setsL w3 b [(21, .int .i64 0), (22, .int .i64 0), (23, .int .i64 0), (24, .int .u32 0), (25, .bool false)]) b p 3 op ad f task (((0) : Nat) : Int) from (setsL_heap [(21, .int .i64 0), (22, .int .i64 0), (23, .int .i64 0), (24, .int .u32 0), (25, .bool false)] HI3.out).trans (by kernel_rfl))
    have HK4 := Lib.hid (HK3.out.trans (setsL_keep [(21, .int .i64 0), (22, .int .i64 0), (23, .int .i64 0), (24, .int .u32 0), (25, .bool false)] w3 b))
    clear k3
    go_wp2_with fail
    go_step3
    go_wp2_with fail
    refine (begin_none _ b p 3 op ad f task _ HI4.out).mono ?_
    rintro e5 w5 ⟨rfl, h5, k5⟩
    have H5 := Lib.hid (show LnQ w b p f task (0) w5 from ⟨.inr ⟨by omega, h5⟩, HK4.out.trans k5⟩)
    clear h5 k5
    go_wp2_with fail
    refine scopeN_ret _ ?_
    go_ret
    exact ⟨rfl, H5.out⟩
set_option maxRecDepth 20000 in
set_option maxHeartbeats 4000000 in
/-- No record in a line: the next line. -/
theorem take_tail (P : Nat → Prop) (a : ScA) (M : ScM) (hS : DrS w b p c) (hR : LnOk c p.nL) (hL : p.nL ≤ 31) (hSC : ScW w P a M) (hp : p.s = a.s) (hw : M.W = []) (i : Nat) (hi0 : i < p.nL) (h : IsDr w b p 5 op ad f task (i : Int)) :
    Calls Tryz.prog 14 #[.pointer (some ⟨b, 0, none⟩), .int .u32 0] w fun e w' => e = .returned (.slice none 0 0) ∧ LnQ w b p f task (i + 1) w' := by
  have HO := Lib.hid (on_any w b p 5 op ad f task _ h true rfl)
  have c8 : w.cell? ⟨b, 8, none⟩ = some (.int .i64 5) := h.cell 8
  have c15 : w.cell? ⟨b, 15, none⟩ = some (.int .u32 0) := h.cell 15
  have f15 := h.free 15
  have hs := Lib.hid (fun W (k : Keeps (fun j => j = b) w W) => hS.at k)
  have hr := Lib.hid hR
  have hsc := Lib.hid hSC
  have hty := Lib.hid (show Ty w b 90 from ⟨_, _, h⟩)
  have hps := Lib.hid hp
  have hW := Lib.hid hw
  have HI0 := Lib.hid (show IsDr (setsL w b [(15, .int .u32 0)]) b p 5 op ad f task (i : Int) from (setsL_heap [(15, .int .u32 0)] h).trans (by kernel_rfl))
  have HK0 := Lib.hid (setsL_keep [(15, .int .u32 0)] w b)
  clear h hS hR hSC hp hw
  go_enter Tryz.func14, Tryz.ntmps14
  go_wp2_with fail
  refine wp_scope_n 3 ?_
  go_wp2_with fail
  refine HO.out.mono ?_
  rintro e1 w1 ⟨rfl, rfl⟩
  go_wp2_with fail
  go_step3
  refine scopeN_goto rfl ?_
  go_wp2_with fail
  refine (untaken_zero _ b p c 5 op ad f task i hi0 hL HI0.out (hs.out _ HK0.out)).mono ?_
  rintro e1 W0 ⟨rfl, k1⟩
  have HI1 := Lib.hid (HI0.out.at k1 fun h => h)
  have HK1 := Lib.hid (HK0.out.trans (k1.mono fun _ _ e => e.elim))
  have c14 : W0.cell? ⟨b, 14, none⟩ = some (.int .i64 (i : Int)) := HI1.out.cell 14
  have f14 := HI1.out.free 14
  have l1 := HI1.out.lt
  have y1 : wrap64 ((i : Int) + 1) = (i : Int) + 1 := IntWalk.wrap64_in _ ⟨by omega, by omega⟩
  obtain ⟨W1, hW1⟩ : ∃ W, W = W0.setCell ⟨b, 14, none⟩ (.int .i64 ((i : Int) + 1)) := ⟨_, rfl⟩
  have HI := Lib.hid (show IsDr W1 b p 5 op ad f task ((i + 1 : Nat) : Int) from by rw [hW1]; exact (setsL_heap [(14, .int .i64 ((i : Int) + 1))] HI1.out).trans (by kernel_rfl))
  have HK := Lib.hid (show Keeps (fun j => j = b) w W1 from by rw [hW1]; exact HK1.out.trans (setsL_keep [(14, .int .i64 ((i : Int) + 1))] W0 b))
  clear k1
  go_wp2_with fail
  rw [← hW1]
  clear hW1 c14 f14 l1 y1
  go_step3
  go_wp2_with fail
  by_cases hi : i + 1 < p.nL
  · refine (unread_more W1 b p c 5 op ad f task (i + 1) hi hL HI.out (hs.out _ HK.out) (hr.out _ hi).1 (hr.out _ hi).2).mono ?_
    rintro e2 w2 ⟨rfl, h2, k2⟩
    have H2 := Lib.hid (show LnQ w b p f task (i + 1) w2 from ⟨.inl ⟨hi, h2⟩, HK.out.trans k2⟩)
    clear h2 k2
    go_wp2_with fail
    refine scopeN_ret _ ?_
    go_ret
    exact ⟨rfl, H2.out⟩
  · refine (unread_done W1 b p 5 op ad f task (i + 1) (by omega) HI.out).mono ?_
    rintro e2 w2 ⟨rfl, k2⟩
    have HI2 := Lib.hid (HI.out.at k2 fun h => h)
    have HK2 := Lib.hid (HK.out.trans (k2.mono fun _ _ e => e.elim))
    have HSC2 := Lib.hid (hsc.out.dr hty.out HK2.out)
    have c5 : w2.cell? ⟨b, 5, none⟩ = some (.pointer (some ⟨p.s, 0, none⟩)) := HI2.out.cell 5
    rw [hps.out] at c5
    clear k2
    go_wp2_with fail
    refine (snext_zero w2 P a M HSC2.out hW.out (-1)).mono ?_
    rintro e3 w3 ⟨rfl, k3⟩
    have HI3 := Lib.hid (HI2.out.at k3 fun h => h)
    have HK3 := Lib.hid (HK2.out.trans (k3.mono fun _ _ e => e.elim))
    have d21 : w3.cell? ⟨b, 21, none⟩ = some (.int .i64 0) := HI3.out.cell 21
    have d22 : w3.cell? ⟨b, 22, none⟩ = some (.int .i64 0) := HI3.out.cell 22
    have d23 : w3.cell? ⟨b, 23, none⟩ = some (.int .i64 0) := HI3.out.cell 23
    have d24 : w3.cell? ⟨b, 24, none⟩ = some (.int .u32 0) := HI3.out.cell 24
    have d25 : w3.cell? ⟨b, 25, none⟩ = some (.bool false) := HI3.out.cell 25
    have g21 := HI3.out.free 21
    have g22 := HI3.out.free 22
    have g23 := HI3.out.free 23
    have g24 := HI3.out.free 24
    have g25 := HI3.out.free 25
    have l3 := HI3.out.lt
    have HI4 := Lib.hid (show IsDr (setsL w3 b [(21, .int .i64 0), (22, .int .i64 0), (23, .int .i64 0), (24, .int .u32 0), (25, .bool false)]) b p 5 op ad f task (((i + 1) : Nat) : Int) from (setsL_heap [(21, .int .i64 0), (22, .int .i64 0), (23, .int .i64 0), (24, .int .u32 0), (25, .bool false)] HI3.out).trans (by kernel_rfl))
    have HK4 := Lib.hid (HK3.out.trans (setsL_keep [(21, .int .i64 0), (22, .int .i64 0), (23, .int .i64 0), (24, .int .u32 0), (25, .bool false)] w3 b))
    clear k3
    go_wp2_with fail
    go_step3
    go_wp2_with fail
    refine (begin_none _ b p 5 op ad f task _ HI4.out).mono ?_
    rintro e5 w5 ⟨rfl, h5, k5⟩
    have H5 := Lib.hid (show LnQ w b p f task (i + 1) w5 from ⟨.inr ⟨by omega, h5⟩, HK4.out.trans k5⟩)
    clear h5 k5
    go_wp2_with fail
    refine scopeN_ret _ ?_
    go_ret
    exact ⟨rfl, H5.out⟩
end
end Go.Proofs.YthnmlklgbggmbaaGreat
namespace Go.Proofs.YthnmlklgbggmbaaGreat
open Go.ChangeShapes Go.WideShapes Go.ChangeAt Go.RowKit
set_option linter.unusedVariables false
set_option linter.unusedSimpArgs false
attribute [local irreducible] wpList
theorem fn_nil (fn : Fn) (xs ys : Array Value) (W : World) : (binOp .eql 79 (.func fn xs ys) .nilFunc).run Tryz.prog W = .ok (.bool false) W := by kernel_rfl
section
variable (w : World) (b : Nat) (p : DrP) (c : CfD) (op ad : Int) (f : Value) (task level : Int) (fn : Fn) (xs ys : Array Value)
set_option maxRecDepth 20000 in
set_option maxHeartbeats 4000000 in
/-- A turn begins: nobody is current. -/
theorem begin_idle (P : Nat → Prop) (a : ScA) (M : ScM) (h : IsDr w b p 0 op ad f task level) (hs : DrS w b p c) (hSC : ScW w P a M) (hp : p.s = a.s) (hc : M.cur = -1) :
    Calls Tryz.prog 30 #[.pointer (some ⟨b, 0, none⟩), .func fn xs ys] w fun e w' => e = .returned (.bool true) ∧ IsDr w' b p 3 1 p.t (.func fn xs ys) (-1) 0 ∧ Keeps (fun j => j = b) w w' := by
  have HO := Lib.hid (on_any w b p 0 op ad f task level h false rfl)
  have HC := Lib.hid (current_any w P a M hSC)
  rw [hc] at HC
  have c5 : w.cell? ⟨b, 5, none⟩ = some (.pointer (some ⟨p.s, 0, none⟩)) := h.cell 5
  rw [hp] at c5
  have c2 : w.cell? ⟨b, 2, none⟩ = some (.int .i64 p.t) := h.cell 2
  have c12 : w.cell? ⟨b, 12, none⟩ = some f := h.cell 12
  have c13 : w.cell? ⟨b, 13, none⟩ = some (.int .i64 task) := h.cell 13
  have c14 : w.cell? ⟨b, 14, none⟩ = some (.int .i64 level) := h.cell 14
  have f12 := h.free 12
  have f13 := h.free 13
  have f14 := h.free 14
  have l0 := h.lt
  obtain ⟨W1, hW1⟩ : ∃ W, W = setsL w b [(12, .func fn xs ys), (13, .int .i64 (-1)), (14, .int .i64 0)] := ⟨_, rfl⟩
  have HI := Lib.hid (show IsDr W1 b p 0 op ad (.func fn xs ys) (-1) 0 from by rw [hW1]; exact (setsL_heap [(12, .func fn xs ys), (13, .int .i64 (-1)), (14, .int .i64 0)] h).trans (by kernel_rfl))
  have HK := Lib.hid (show Keeps (fun j => j = b) w W1 from by rw [hW1]; exact setsL_keep [(12, .func fn xs ys), (13, .int .i64 (-1)), (14, .int .i64 0)] w b)
  have HT := Lib.hid hs.t
  have hne := fn_nil fn xs ys
  clear h hs hSC hp hc
  go_enter Tryz.func30, Tryz.ntmps30
  go_wp2_with fail
  refine HO.out.mono ?_
  rintro e1 w1 ⟨rfl, rfl⟩
  go_wp2_with fail
  refine HC.out.mono ?_
  rintro e1 w1 ⟨rfl, rfl⟩
  unfold setsL setsL setsL setsL at hW1
  go_wp2_with fail
  rw [← hW1]
  clear c12 c13 c14 f12 f13 f14 c5 l0
  refine (load_cell W1 b p 0 op ad (.func fn xs ys) (-1) 0 HI.out 3 p.t (by have := HT.out; omega)).mono ?_
  rintro e2 w2 ⟨rfl, h2, k2⟩
  have H2 := Lib.hid h2
  have HK2 := Lib.hid (HK.out.trans k2)
  have d13 : w2.cell? ⟨b, 13, none⟩ = some (.int .i64 (-1)) := H2.out.cell 13
  clear h2 k2 c2 hW1
  go_wp2_with fail
  go_quiet (fail)
  go_wp2_with fail
  go_ret
  exact ⟨rfl, H2.out.at ((Keeps.refl (fun _ => False) w2).drewN _) fun h => h, HK2.out.drewN _⟩
set_option maxRecDepth 20000 in
set_option maxHeartbeats 4000000 in
/-- A turn begins: task k is current. -/
theorem begin_task (P : Nat → Prop) (a : ScA) (M : ScM) (k : Nat) (hk : k < p.nT) (hk2 : p.nT ≤ 16) (h : IsDr w b p 0 op ad f task level) (hs : DrS w b p c) (hSC : ScW w P a M) (hp : p.s = a.s) (hc : M.cur = (k : Int)) :
    Calls Tryz.prog 30 #[.pointer (some ⟨b, 0, none⟩), .func fn xs ys] w fun e w' => e = .returned (.bool true) ∧ IsDr w' b p 1 1 (p.t + 1 + (k : Int)) (.func fn xs ys) (k : Int) 0 ∧ Keeps (fun j => j = b) w w' := by
  have HO := Lib.hid (on_any w b p 0 op ad f task level h false rfl)
  have HC := Lib.hid (current_any w P a M hSC)
  rw [hc] at HC
  have c5 : w.cell? ⟨b, 5, none⟩ = some (.pointer (some ⟨p.s, 0, none⟩)) := h.cell 5
  rw [hp] at c5
  have c2 : w.cell? ⟨b, 2, none⟩ = some (.int .i64 p.t) := h.cell 2
  have c12 : w.cell? ⟨b, 12, none⟩ = some f := h.cell 12
  have c13 : w.cell? ⟨b, 13, none⟩ = some (.int .i64 task) := h.cell 13
  have c14 : w.cell? ⟨b, 14, none⟩ = some (.int .i64 level) := h.cell 14
  have f12 := h.free 12
  have f13 := h.free 13
  have f14 := h.free 14
  have l0 := h.lt
  obtain ⟨W1, hW1⟩ : ∃ W, W = setsL w b [(12, .func fn xs ys), (13, .int .i64 (k : Int)), (14, .int .i64 0)] := ⟨_, rfl⟩
  have HI := Lib.hid (show IsDr W1 b p 0 op ad (.func fn xs ys) (k : Int) 0 from by rw [hW1]; exact (setsL_heap [(12, .func fn xs ys), (13, .int .i64 (k : Int)), (14, .int .i64 0)] h).trans (by kernel_rfl))
  have HK := Lib.hid (show Keeps (fun j => j = b) w W1 from by rw [hW1]; exact setsL_keep [(12, .func fn xs ys), (13, .int .i64 (k : Int)), (14, .int .i64 0)] w b)
  have HT := Lib.hid hs.t
  have HS := Lib.hid hs
  have hne := fn_nil fn xs ys
  clear h hs hSC hp hc
  go_enter Tryz.func30, Tryz.ntmps30
  go_wp2_with fail
  refine HO.out.mono ?_
  rintro e1 w1 ⟨rfl, rfl⟩
  go_wp2_with fail
  refine HC.out.mono ?_
  rintro e1 w1 ⟨rfl, rfl⟩
  unfold setsL setsL setsL setsL at hW1
  go_wp2_with fail
  rw [← hW1]
  clear c12 c13 c14 f12 f13 f14 c5 l0
  refine (load_cell W1 b p 0 op ad (.func fn xs ys) (k : Int) 0 HI.out 3 p.t (by have := HT.out; omega)).mono ?_
  rintro e2 w2 ⟨rfl, h2, k2⟩
  have H2 := Lib.hid h2
  have HK2 := Lib.hid (HK.out.trans k2)
  have d13 : w2.cell? ⟨b, 13, none⟩ = some (.int .i64 (k : Int)) := H2.out.cell 13
  obtain ⟨ab, ao, haa, hne, hab, hcell⟩ := (HS.out.at HK2.out).asks (by omega)
  have d3 : w2.cell? ⟨b, 3, none⟩ = some (.slice p.aa p.nT p.ac) := H2.out.cell 3
  rw [haa] at d3
  have HAA := Lib.hid haa
  have hne' : ¬ ab = b := hne
  have da := hcell k hk
  have b1 : (0 : Int) ≤ (k : Int) := by omega
  have b2 : (k : Int) < (p.nT : Int) := by omega
  have b3 : decide ((k : Int) < (p.nT : Int)) = true := decide_eq_true b2
  have b4 : decide ((0 : Int) ≤ (k : Int)) = true := decide_eq_true b1
  clear h2 k2 c2 hW1 haa
  go_wp2_with fail
  go_quiet (fail)
  rename_i nq
  have kq := (Keeps.refl (fun _ => False) w2).drewN nq
  have H3 := Lib.hid (H2.out.at kq fun h => h)
  have HK3 := Lib.hid (HK2.out.trans (kq.mono fun _ _ e => e.elim))
  have HA3 := Lib.hid (show ∀ W, Keeps (fun j => j = b) (w2.drewN nq) W → W.cell? ⟨ab, ao + k, none⟩ = some (.int .i64 (p.t + 1 + (k : Int))) from fun W kW => (World.cell?_of_block (kW.block ab hab hne')).trans da)
  clear d3 d13 da hcell kq
  generalize w2.drewN nq = w3 at H3 HK3 HA3 ⊢
  go_wp2_with fail
  go_region_held3 (fun w' => w'.cell? ⟨b, 3, none⟩ = some (.slice (some ⟨ab, ao, none⟩) p.nT p.ac) ∧ w'.cell? ⟨b, 13, none⟩ = some (.int .i64 (k : Int)) ∧ w'.cell? ⟨ab, ao + k, none⟩ = some (.int .i64 (p.t + 1 + (k : Int))))
    (first
      | exact ⟨(H3.out.cell 3).trans (by rw [← HAA.out]; rfl), H3.out.cell 13, HA3.out _ (Keeps.refl _ w3).drew⟩
      | exact ⟨(H4.out.cell 3).trans (by rw [← HAA.out]; rfl), H4.out.cell 13, HA3.out _ ((Keeps.refl _ w3).drew.trans HK4.out)⟩
      | go_keep)
    (first
      | (go_at_call 47; refine (load_cell w3.drew b p 3 1 p.t (.func fn xs ys) (k : Int) 0 (H3.out.at ((Keeps.refl (fun _ => False) w3).drew) fun h => h) 1 (p.t + 1 + (k : Int)) (by have := HT.out; omega)).mono ?_; rintro e4 w4 ⟨rfl, h4, k4⟩; have H4 := Lib.hid h4; have HK4 := Lib.hid k4; clear h4 k4)
      | fail)
  all_goals
    go_wp2_with fail
    go_ret
    exact ⟨rfl, H4.out, HK3.out.trans ((Keeps.refl _ w3).drew.trans HK4.out)⟩
end
end Go.Proofs.YthnmlklgbggmbaaGreat
