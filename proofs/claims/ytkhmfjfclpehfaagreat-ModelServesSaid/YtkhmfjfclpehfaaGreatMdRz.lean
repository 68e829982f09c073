import Derived.Test.YtkhmfjfclpehfaaGreatMdOz
import Derived.BigRegion
import Derived.Deep.RegionHeld3
import Derived.Deep.RegionLaw
import Derived.Test.YtkhmfjfclpehfaaGreatOpen
namespace Go.Proofs.YtkhmfjfclpehfaaGreat
open Go.ChangeShapes Go.WideShapes Go.ChangeAt Go.RowKit
set_option linter.unusedVariables false
set_option linter.unusedSimpArgs false
set_option maxRecDepth 100000
theorem vcur_disp (w : World) (a : ScA) (M : ScM) (h : ScV w a (dispM M))  :
    Calls Tryz.prog 15 #[.pointer (some ⟨a.s, 0, none⟩)] w fun e w' => e = .returned (.int .i64 (firstM M)) ∧ w = w' := vcurrent_any w a (dispM M) h
theorem serve_cond {M : ScM} {A : Nat → AskX} {i : Nat} (h : asksP M A (i : Int) = false) : (i : Int) ≠ M.cur ∨ asksP M A M.cur = false := by
  by_cases hq : (i : Int) = M.cur
  · exact Or.inr (hq ▸ h)
  · exact Or.inl hq
theorem asks_yes {M : ScM} {A : Nat → AskX} {i : Nat} (h : i < M.many) (x : AskX) (hx : x.is = true) : asksP M (upd A i x) (i : Int) = true := by
  unfold asksP
  rw [decide_eq_true (⟨by omega, by omega⟩ : 0 ≤ (i : Int) ∧ (i : Int) < (M.many : Int)), Int.toNat_natCast, upd_at]
  exact hx
theorem asks_no {M : ScM} {A : Nat → AskX} {i : Nat} : asksP M (upd A i AskX.no) (i : Int) = false := by
  unfold asksP
  rw [Int.toNat_natCast, upd_at]
  exact Bool.and_false _
set_option maxHeartbeats 16000000 in
theorem serves_in (c : CfD) (w : World) (hc : CfIn w c) (ho : c.Ok) (k o : Int) (m d b : Nat) (hv : badOf c = (0, 0, 0)) (hu : ∀ i, i < c.nO → ∀ j, j < 4 → 0 ≤ c.oi i j ∧ c.oi i j < 4294967296) (hd : d < 4294967296) (hb : b < 4294967296) (i : Nat) (hi : i < c.nT) : Calls Tryz.prog 4 #[.agg c.cells, .agg (rqC k o m d b), .int .i64 (i : Int)] w (LawQ w) := by
  have d0 : decide (0 ≤ (i : Int)) = true := decide_eq_true (by omega)
  have d1 : decide ((i : Int) < (c.nT : Int)) = true := decide_eq_true (by omega)
  have d2 : decide (i < c.nT) = true := decide_eq_true hi
  have HL := Lib.hid (fun W (k : Keeps (fun _ => False) w W) => light3_any c W (hc.none k) ho)
  have HR := Lib.hid (fun W (kk : Keeps (fun _ => False) w W) => right34_any c W (hc.none kk) k o m d b)
  have HN := Lib.hid (fun W (k : Keeps (fun _ => False) w W) => new_good c W (hc.none k) ho hu hv)
  have HG := Lib.hid (good_of hv)
  have HD := Lib.hid (show AskX.Ok (⟨true, k, o, m, d, b⟩ : AskX) from ⟨hd, hb⟩)
  have HI := Lib.hid hi
  clear hc ho hv hu hd hb
  have HB := Lib.hid (BxW.start w c (rqC k o m d b))
  obtain ⟨q0, q1, q2, q3, r0, r1, r2, r3, r4, l0, l1⟩ := HB.out.cells
  go_enter Tryz.func4, Tryz.ntmps4
  go_wp2_with fail
  refine (HL.out _ HB.out.keeps).mono ?_
  rintro e1 w1 ⟨p, rfl, _, k1⟩
  replace HB := Lib.hid (HB.out.quiet k1)
  clear k1
  clear q0 q1 q2 q3 r0 r1 r2 r3 r4 l0 l1
  obtain ⟨q0, q1, q2, q3, r0, r1, r2, r3, r4, l0, l1⟩ := HB.out.cells
  rcases p with _ | _
  · go_wp2_with fail
    refine (al37 HB.out.keeps).mono ?_
    rintro e9 w9 ⟨rfl, k9⟩
    have HK := Lib.hid k9
    clear k9
    go_wp2_with fail
    go_ret
    exact lawQ HK.out
  go_wp2_with fail
  refine (HR.out _ HB.out.keeps).mono ?_
  rintro e2 w2 ⟨p, rfl, k2⟩
  replace HB := Lib.hid (HB.out.quiet k2)
  clear k2
  clear q0 q1 q2 q3 r0 r1 r2 r3 r4 l0 l1
  obtain ⟨q0, q1, q2, q3, r0, r1, r2, r3, r4, l0, l1⟩ := HB.out.cells
  rcases p with _ | _
  · go_wp2_with fail
    refine (al37 HB.out.keeps).mono ?_
    rintro e9 w9 ⟨rfl, k9⟩
    have HK := Lib.hid k9
    clear k9
    go_wp2_with fail
    go_ret
    exact lawQ HK.out
  go_wp2_with fail
  refine (HN.out _ HB.out.keeps).mono ?_
  rintro e3 w3 ⟨a, g, rfl, hm, _, hab, _, _, _, k3⟩
  have HP := Lib.hid (show ∀ x, w2.heap.size ≤ x → w.heap.size ≤ x from fun x h => Nat.le_trans HB.out.keeps.size h)
  replace HB := Lib.hid (HB.out.quiet k3)
  have HAB := Lib.hid hab
  have HMY := Lib.hid (show (dispM (newM ((List.range c.nT).map c.tp))).many = c.nT from new_many HG.out.t)
  generalize dispM (newM ((List.range c.nT).map c.tp)) = M at hm HMY
  have HM := Lib.hid hm
  have hn := fun W => mo_nil a.m W
  clear k3 hm hab
  clear q0 q1 q2 q3 r0 r1 r2 r3 r4 l0 l1
  obtain ⟨q0, q1, q2, q3, r0, r1, r2, r3, r4, l0, l1⟩ := HB.out.cells
  go_wp2_with (first
    | (refine wpList_buildTo rfl 45 _ rfl (some 48) rfl (moC 4 (i : Int) 0 zV ⟨true, k, o, m, d, b⟩) (by kernel_rfl) ?_))
  refine (do_ask_new _ _ a M 0 _ HM.out (i : Int) ⟨true, k, o, m, d, b⟩ i (by have := HI.out; have := HMY.out; omega) rfl rfl HD.out HAB.out).mono ?_
  rintro e w4 ⟨V4, v4, l4, n4, c4, rfl, hm, km⟩
  replace HM := Lib.hid hm
  replace HB := Lib.hid (HB.out.kM km HP.out)
  clear hm km
  obtain ⟨W4, hW4⟩ : ∃ W, W = w4.alloc (.cells (outC 0 V4 v4 l4 n4 c4) 51) := ⟨_, rfl⟩
  have kx : Keeps (fun _ => False) w4 W4 := by rw [hW4]; exact (Keeps.refl _ w4).alloc _
  have ob4 : W4.heap[w4.heap.size]? = some (.cells (outC 0 V4 v4 l4 n4 c4) 51 (0, 0)) := by rw [hW4]; exact heap_new _ _
  replace HM := Lib.hid (HM.out.quiet kx)
  have HW4 := Lib.hid hW4
  have HO4 := Lib.hid ob4
  replace HB := Lib.hid (HB.out.quiet kx)
  clear kx ob4 hW4
  clear q0 q1 q2 q3 r0 r1 r2 r3 r4 l0 l1
  obtain ⟨q0, q1, q2, q3, r0, r1, r2, r3, r4, l0, l1⟩ := HB.out.cells
  go_wp2_with (first
    | (refine wpList_buildTo rfl 45 _ rfl (some 56) rfl (moC 4 (i : Int) 0 zV ⟨true, k, o, m, d, b⟩) (by kernel_rfl) ?_)
    | (refine wpList_alloc_as rfl 51 rfl (some 9) rfl w4.heap.size rfl _ (out_zero _) (outC 0 zV 0 none 0 0) rfl ?_)
    | (refine wpList_store_row rfl 51 (.tmp 9) (.tmp 50) rfl w4.heap.size (outC 0 V4 v4 l4 n4 c4) rfl rfl 51 _ (heap_new _ _) out_info rfl (out_one _ _ _ _ _ _) ?_; rw [World.setRow_alloc_new, ← HW4.out]))
  refine (do_ask_had _ _ a M 0 _ HM.out (i : Int) ⟨true, k, o, m, d, b⟩ i (by have := HI.out; have := HMY.out; omega) rfl (by rw [upd_at])).mono ?_
  rintro e w5 ⟨V5, v5, l5, n5, c5, rfl, hm, km⟩
  replace HM := Lib.hid hm
  replace HB := Lib.hid (HB.out.kM km HP.out)
  clear hm km
  obtain ⟨W5, hW5⟩ : ∃ W, W = w5.alloc (.cells (outC 0 V5 v5 l5 n5 c5) 51) := ⟨_, rfl⟩
  have kx : Keeps (fun _ => False) w5 W5 := by rw [hW5]; exact (Keeps.refl _ w5).alloc _
  have ob5 : W5.heap[w5.heap.size]? = some (.cells (outC 0 V5 v5 l5 n5 c5) 51 (0, 0)) := by rw [hW5]; exact heap_new _ _
  replace HM := Lib.hid (HM.out.quiet kx)
  have HW5 := Lib.hid hW5
  have HO5 := Lib.hid ob5
  replace HB := Lib.hid (HB.out.quiet kx)
  clear kx ob5 hW5
  clear q0 q1 q2 q3 r0 r1 r2 r3 r4 l0 l1
  obtain ⟨q0, q1, q2, q3, r0, r1, r2, r3, r4, l0, l1⟩ := HB.out.cells
  go_wp2_with (first
    | (refine wpList_alloc_as rfl 51 rfl (some 11) rfl w5.heap.size rfl _ (out_zero _) (outC 0 zV 0 none 0 0) rfl ?_)
    | (refine wpList_store_row rfl 51 (.tmp 11) (.tmp 58) rfl w5.heap.size (outC 0 V5 v5 l5 n5 c5) rfl rfl 51 _ (heap_new _ _) out_info rfl (out_one _ _ _ _ _ _) ?_; rw [World.setRow_alloc_new, ← HW5.out]))
  refine (sched_of W5 _ a M 0 _ HM.out).mono ?_
  rintro e w6 ⟨a6, rfl, hv6, k6⟩
  have HV6 := Lib.hid hv6
  replace HM := Lib.hid (HM.out.quiet k6)
  replace HB := Lib.hid (HB.out.quiet k6)
  clear hv6 k6
  clear q0 q1 q2 q3 r0 r1 r2 r3 r4 l0 l1
  obtain ⟨q0, q1, q2, q3, r0, r1, r2, r3, r4, l0, l1⟩ := HB.out.cells
  go_wp2_with fail
  refine (vcurrent_any w6 a6 M HV6.out).mono ?_
  rintro e w6b ⟨rfl, hw6⟩
  subst hw6
  by_cases hcc : M.cur = (i : Int)
  · have HCC := Lib.hid hcc
    clear hcc
    have x0 : (M.cur == (i : Int)) = true := by rw [HCC.out]; exact beq_self_eq_true _
    go_wp2_with (first
      | (refine wpList_buildTo rfl 45 _ rfl (some 79) rfl (moC 5 (i : Int) 0 zV AskX.no) (by kernel_rfl) ?_))
    refine (do_serve_yes _ _ a M 0 _ HM.out (i : Int) AskX.no i (by have := HI.out; have := HMY.out; omega) rfl HCC.out (asks_yes (by have := HI.out; have := HMY.out; omega) _ rfl) HAB.out).mono ?_
    rintro e w7 ⟨V7, v7, l7, n7, c7, rfl, hm, km⟩
    replace HM := Lib.hid hm
    replace HB := Lib.hid (HB.out.kM km HP.out)
    clear hm km
    have HM2 := Lib.hid (serve_many M ((upd (fun _ => AskX.no) i ⟨true, k, o, m, d, b⟩) i).k ((upd (fun _ => AskX.no) i ⟨true, k, o, m, d, b⟩) i).o ((upd (fun _ => AskX.no) i ⟨true, k, o, m, d, b⟩) i).m ((upd (fun _ => AskX.no) i ⟨true, k, o, m, d, b⟩) i).d ((upd (fun _ => AskX.no) i ⟨true, k, o, m, d, b⟩) i).b)
    generalize (serveM M ((upd (fun _ => AskX.no) i ⟨true, k, o, m, d, b⟩) i).k ((upd (fun _ => AskX.no) i ⟨true, k, o, m, d, b⟩) i).o ((upd (fun _ => AskX.no) i ⟨true, k, o, m, d, b⟩) i).m ((upd (fun _ => AskX.no) i ⟨true, k, o, m, d, b⟩) i).d ((upd (fun _ => AskX.no) i ⟨true, k, o, m, d, b⟩) i).b).1 = MF at HM HM2
    generalize hAF : (upd (upd (fun _ => AskX.no) i ⟨true, k, o, m, d, b⟩) i AskX.no) = AF at HM
    have HPA := Lib.hid (show ∀ N : ScM, asksP N AF (i : Int) = false from fun N => by rw [← hAF]; exact asks_no)
    clear hAF
    obtain ⟨W7, hW7⟩ : ∃ W, W = w7.alloc (.cells (outC 0 V7 v7 l7 n7 c7) 51) := ⟨_, rfl⟩
    have kx : Keeps (fun _ => False) w7 W7 := by rw [hW7]; exact (Keeps.refl _ w7).alloc _
    have ob7 : W7.heap[w7.heap.size]? = some (.cells (outC 0 V7 v7 l7 n7 c7) 51 (0, 0)) := by rw [hW7]; exact heap_new _ _
    replace HM := Lib.hid (HM.out.quiet kx)
    have HW7 := Lib.hid hW7
    have HO7 := Lib.hid ob7
    replace HB := Lib.hid (HB.out.quiet kx)
    clear kx ob7 hW7
    clear q0 q1 q2 q3 r0 r1 r2 r3 r4 l0 l1
    obtain ⟨q0, q1, q2, q3, r0, r1, r2, r3, r4, l0, l1⟩ := HB.out.cells
    go_wp2_with (first
      | (refine wpList_buildTo rfl 45 _ rfl (some 86) rfl (moC 5 (i : Int) 0 zV AskX.no) (by kernel_rfl) ?_)
      | (refine wpList_alloc_as rfl 51 rfl (some 14) rfl w7.heap.size rfl _ (out_zero _) (outC 0 zV 0 none 0 0) rfl ?_)
      | (refine wpList_store_row rfl 51 (.tmp 14) (.tmp 81) rfl w7.heap.size (outC 0 V7 v7 l7 n7 c7) rfl rfl 51 _ (heap_new _ _) out_info rfl (out_one _ _ _ _ _ _) ?_; rw [World.setRow_alloc_new, ← HW7.out]))
    refine (do_serve_not _ _ a MF 0 _ HM.out (i : Int) AskX.no (serve_cond (HPA.out MF))).mono ?_
    rintro e w8 ⟨V8, v8, l8, n8, c8, rfl, hm, km⟩
    replace HM := Lib.hid hm
    replace HB := Lib.hid (HB.out.kM km HP.out)
    clear hm km
    obtain ⟨W8, hW8⟩ : ∃ W, W = w8.alloc (.cells (outC 0 V8 v8 l8 n8 c8) 51) := ⟨_, rfl⟩
    have kx : Keeps (fun _ => False) w8 W8 := by rw [hW8]; exact (Keeps.refl _ w8).alloc _
    have ob8 : W8.heap[w8.heap.size]? = some (.cells (outC 0 V8 v8 l8 n8 c8) 51 (0, 0)) := by rw [hW8]; exact heap_new _ _
    replace HM := Lib.hid (HM.out.quiet kx)
    have HW8 := Lib.hid hW8
    have HO8 := Lib.hid ob8
    replace HB := Lib.hid (HB.out.quiet kx)
    clear kx ob8 hW8
    clear q0 q1 q2 q3 r0 r1 r2 r3 r4 l0 l1
    obtain ⟨q0, q1, q2, q3, r0, r1, r2, r3, r4, l0, l1⟩ := HB.out.cells
    go_wp2_with (first
      | (refine wpList_buildTo rfl 45 _ rfl (some 92) rfl (moC 9 0 0 zV AskX.no) (by kernel_rfl) ?_)
      | (refine wpList_alloc_as rfl 51 rfl (some 16) rfl w8.heap.size rfl _ (out_zero _) (outC 0 zV 0 none 0 0) rfl ?_)
      | (refine wpList_store_row rfl 51 (.tmp 16) (.tmp 88) rfl w8.heap.size (outC 0 V8 v8 l8 n8 c8) rfl rfl 51 _ (heap_new _ _) out_info rfl (out_one _ _ _ _ _ _) ?_; rw [World.setRow_alloc_new, ← HW8.out]))
    refine (do_choose _ _ a MF 0 _ HM.out AskX.no 0).mono ?_
    rintro e w10 ⟨V10, v10, b10, c10, rfl, hb10, hm, km⟩
    replace HM := Lib.hid hm
    replace HB := Lib.hid (HB.out.kM km HP.out)
    have HL10 := Lib.hid hb10
    clear hm km hb10
    obtain ⟨W10, hW10⟩ : ∃ W, W = w10.alloc (.cells (outC 0 V10 v10 (some ⟨b10, 0, none⟩) 1 c10) 51) := ⟨_, rfl⟩
    have kx : Keeps (fun _ => False) w10 W10 := by rw [hW10]; exact (Keeps.refl _ w10).alloc _
    have ob10 : W10.heap[w10.heap.size]? = some (.cells (outC 0 V10 v10 (some ⟨b10, 0, none⟩) 1 c10) 51 (0, 0)) := by rw [hW10]; exact heap_new _ _
    replace HM := Lib.hid (HM.out.quiet kx)
    have HW10 := Lib.hid hW10
    have HO10 := Lib.hid ob10
    replace HB := Lib.hid (HB.out.quiet kx)
    clear kx ob10 hW10
    clear q0 q1 q2 q3 r0 r1 r2 r3 r4 l0 l1
    obtain ⟨q0, q1, q2, q3, r0, r1, r2, r3, r4, l0, l1⟩ := HB.out.cells
    have hb10 : W10.heap[b10]? = some (.cells #[.int .i64 (firstM MF)] 3 (0, 0)) := by rw [HW10.out]; exact heap_old HL10.out _
    have HLS := Lib.hid (show ∀ W, Keeps (fun _ => False) W10 W → W.cell? ⟨w10.heap.size, 6, none⟩ = some (.slice (some ⟨b10, 0, none⟩) 1 c10) ∧ W.cell? ⟨b10, 0, none⟩ = some (.int .i64 (firstM MF)) from fun W kk => ⟨cell_of (kk.at HO10.out fun h => h) 6, cell_of (kk.at (by rw [HW10.out]; exact heap_old HL10.out _) fun h => h) 0⟩)
    have HSS := Lib.hid (show W10.drew.cell? ⟨w10.heap.size, 6, none⟩ = some (.slice (some ⟨b10, 0, none⟩) 1 c10) ∧ W10.drew.cell? ⟨b10, 0, none⟩ = some (.int .i64 (firstM MF)) from HLS.out _ (Keeps.refl _ W10).drew)
    clear hb10
    go_wp2_with (first
      | (refine wpList_alloc_as rfl 51 rfl (some 18) rfl w10.heap.size rfl _ (out_zero _) (outC 0 zV 0 none 0 0) rfl ?_)
      | (refine wpList_store_row rfl 51 (.tmp 18) (.tmp 94) rfl w10.heap.size (outC 0 V10 v10 (some ⟨b10, 0, none⟩) 1 c10) rfl rfl 51 _ (heap_new _ _) out_info rfl (out_one _ _ _ _ _ _) ?_; rw [World.setRow_alloc_new, ← HW10.out]))
    refine (asks_any W10 _ a (dispM MF) 0 AF HM.out (i : Int)).mono ?_
    rintro e9 w9 ⟨rfl, hw9⟩
    subst w9
    rw [HPA.out (dispM MF)]
    go_wp2_with fail
    refine wp_region_noPanic ?_
    refine wp_region_held_drew (S := (fun w' => w'.cell? ⟨w10.heap.size, 6, none⟩ = some (.slice (some ⟨b10, 0, none⟩) 1 c10) ∧ w'.cell? ⟨b10, 0, none⟩ = some (.int .i64 (firstM MF)))) (by kernel_rfl) ?_ (fun hHeld => ?_)
    · exact HSS.out
    refine wpAnyH_take (i := 0) (v := ?_) rfl (by kernel_rfl) (by kernel_rfl) (by kernel_rfl) (fun _ _ _ h => h) (Or.inl ⟨by rfl, ?_⟩) (by assumption) ?_
    rotate_left
    · (intro w hSw; (try dsimp only at hSw); go_simp; try with_reducible rfl)
    simp only [Act.put, List.getElem_toArray, List.getElem_cons_zero, List.getElem_cons_succ, List.setIfInBounds_toArray, List.set_cons_zero, List.set_cons_succ]
    refine wpAnyH_take (i := 1) (v := ?_) rfl (by kernel_rfl) (by kernel_rfl) (by kernel_rfl) (fun _ _ _ h => h) (Or.inl ⟨by rfl, ?_⟩) (by assumption) ?_
    rotate_left
    · (intro w hSw; (try dsimp only at hSw); go_simp; try with_reducible rfl)
    simp only [Act.put, List.getElem_toArray, List.getElem_cons_zero, List.getElem_cons_succ, List.setIfInBounds_toArray, List.set_cons_zero, List.set_cons_succ]
    refine wpAnyH_take (i := 2) (v := ?_) rfl (by kernel_rfl) (by kernel_rfl) (by kernel_rfl) (fun _ _ _ h => h) (Or.inl ⟨by rfl, ?_⟩) (by assumption) ?_
    rotate_left
    · (intro w hSw; (try dsimp only at hSw); go_simp; try with_reducible rfl)
    simp only [Act.put, List.getElem_toArray, List.getElem_cons_zero, List.getElem_cons_succ, List.setIfInBounds_toArray, List.set_cons_zero, List.set_cons_succ]
    refine wpAnyH_take (i := 3) (v := ?_) rfl (by kernel_rfl) (by kernel_rfl) (by kernel_rfl) (fun _ _ _ h => h) (Or.inl ⟨by rfl, ?_⟩) (by assumption) ?_
    rotate_left
    · (intro w hSw; (try dsimp only at hSw); go_simp; try with_reducible rfl)
    simp only [Act.put, List.getElem_toArray, List.getElem_cons_zero, List.getElem_cons_succ, List.setIfInBounds_toArray, List.set_cons_zero, List.set_cons_succ]
    refine wpAnyH_take (i := 4) (v := ?_) rfl (by kernel_rfl) (by kernel_rfl) (by kernel_rfl) (fun _ _ _ h => h) (Or.inl ⟨by rfl, ?_⟩) (by assumption) ?_
    rotate_left
    · (intro w hSw; (try dsimp only at hSw); go_simp; try with_reducible rfl)
    simp only [Act.put, List.getElem_toArray, List.getElem_cons_zero, List.getElem_cons_succ, List.setIfInBounds_toArray, List.set_cons_zero, List.set_cons_succ]
    refine wpAnyH_take (i := 5) (v := ?_) rfl (by kernel_rfl) (by kernel_rfl) (by kernel_rfl) (fun _ _ _ h => h) (Or.inl ⟨by rfl, ?_⟩) (by assumption) ?_
    rotate_left
    · (intro w hSw; (try dsimp only at hSw); go_simp; try with_reducible rfl)
    simp only [Act.put, List.getElem_toArray, List.getElem_cons_zero, List.getElem_cons_succ, List.setIfInBounds_toArray, List.set_cons_zero, List.set_cons_succ]
    refine wpAnyH_take (i := 6) (v := ?_) rfl (by kernel_rfl) (by kernel_rfl) (by kernel_rfl) (fun _ _ _ h => h) (Or.inl ⟨by rfl, ?_⟩) (by assumption) ?_
    rotate_left
    · (intro w hSw; (try dsimp only at hSw); go_simp; try with_reducible rfl)
    simp only [Act.put, List.getElem_toArray, List.getElem_cons_zero, List.getElem_cons_succ, List.setIfInBounds_toArray, List.set_cons_zero, List.set_cons_succ]
    refine wpAnyH_take (i := 7) (v := ?_) rfl (by kernel_rfl) (by kernel_rfl) (by kernel_rfl) (fun _ _ _ h => h) (Or.inl ⟨by rfl, ?_⟩) (by assumption) ?_
    rotate_left
    · (intro w hSw; (try dsimp only at hSw); go_simp; try with_reducible rfl)
    simp only [Act.put, List.getElem_toArray, List.getElem_cons_zero, List.getElem_cons_succ, List.setIfInBounds_toArray, List.set_cons_zero, List.set_cons_succ]
    refine wpAnyH_take (i := 8) (v := ?_) rfl (by kernel_rfl) (by kernel_rfl) (by kernel_rfl) (fun _ _ _ h => h) (Or.inl ⟨by rfl, ?_⟩) (by assumption) ?_
    rotate_left
    · (intro w hSw; (try dsimp only at hSw); go_simp; try with_reducible rfl)
    simp only [Act.put, List.getElem_toArray, List.getElem_cons_zero, List.getElem_cons_succ, List.setIfInBounds_toArray, List.set_cons_zero, List.set_cons_succ]
    refine wpAnyH_take (i := 9) (v := ?_) rfl (by kernel_rfl) (by kernel_rfl) (by kernel_rfl) (fun _ _ _ h => h) (Or.inl ⟨by rfl, ?_⟩) (by assumption) ?_
    rotate_left
    · (intro w hSw; (try dsimp only at hSw); go_simp; try with_reducible rfl)
    simp only [Act.put, List.getElem_toArray, List.getElem_cons_zero, List.getElem_cons_succ, List.setIfInBounds_toArray, List.set_cons_zero, List.set_cons_succ]
    refine wpAnyH_ready (rs := [10]) (by kernel_rfl) (by simp) ?_
    refine AllReadyH.cons rfl (fun K hK => ?_) AllReadyH.nil
    go_simp
    (go_at_call 14; refine (sched_of _ _ a (dispM MF) 0 AF (HM.out.quiet (Keeps.refl _ W10).drew)).mono ?_; rintro e9 w11 ⟨a9, rfl, hv9, k9⟩; have HV9 := Lib.hid hv9; have HS11 := Lib.hid (HLS.out _ ((Keeps.refl _ W10).drew.trans k9)); replace HB := Lib.hid (HB.out.quiet ((Keeps.refl _ W10).drew.trans k9)); have HK11 := Lib.hid ((Keeps.refl (fun _ => False) W10).drew.trans k9); clear hv9 k9)
    go_wp2_with fail
    refine hK.out _ _ ?_ (fun hHeld => ?_)
    · ((try dsimp only); exact HS11.out)
    clear hK K
    try simp only [Act.put, List.getElem_toArray, List.getElem_cons_zero, List.getElem_cons_succ, List.setIfInBounds_toArray, List.set_cons_zero, List.set_cons_succ]
    refine wpAnyH_ready (rs := [11]) (by kernel_rfl) (by simp) ?_
    refine AllReadyH.cons rfl (fun K hK => ?_) AllReadyH.nil
    go_simp
    (go_at_call 15; refine (vcur_disp _ a9 MF HV9.out).mono ?_; rintro e9 w12 ⟨rfl, hw12⟩; subst hw12)
    go_wp2_with fail
    refine hK.out _ _ ?_ (fun hHeld => ?_)
    · ((try dsimp only); exact HS11.out)
    clear hK K
    try simp only [Act.put, List.getElem_toArray, List.getElem_cons_zero, List.getElem_cons_succ, List.setIfInBounds_toArray, List.set_cons_zero, List.set_cons_succ]
    refine wpAnyH_take (i := 12) (v := ?_) rfl (by kernel_rfl) (by kernel_rfl) (by kernel_rfl) (fun _ _ _ h => h) (Or.inl ⟨by rfl, ?_⟩) (by assumption) ?_
    rotate_left
    · (intro w hSw; (try dsimp only at hSw); go_simp; try with_reducible rfl)
    simp only [Act.put, List.getElem_toArray, List.getElem_cons_zero, List.getElem_cons_succ, List.setIfInBounds_toArray, List.set_cons_zero, List.set_cons_succ]
    refine wpAnyH_take (i := 13) (v := ?_) rfl (by kernel_rfl) (by kernel_rfl) (by kernel_rfl) (fun _ _ _ h => h) (Or.inl ⟨by rfl, ?_⟩) (by assumption) ?_
    rotate_left
    · (intro w hSw; (try dsimp only at hSw); go_simp; try with_reducible rfl)
    simp only [Act.put, List.getElem_toArray, List.getElem_cons_zero, List.getElem_cons_succ, List.setIfInBounds_toArray, List.set_cons_zero, List.set_cons_succ]
    refine wpAnyH_take (i := 14) (v := ?_) rfl (by kernel_rfl) (by kernel_rfl) (by kernel_rfl) (fun _ _ _ h => h) (Or.inl ⟨by rfl, ?_⟩) (by assumption) ?_
    rotate_left
    · (intro w hSw; (try dsimp only at hSw); go_simp; try with_reducible rfl)
    simp only [Act.put, List.getElem_toArray, List.getElem_cons_zero, List.getElem_cons_succ, List.setIfInBounds_toArray, List.set_cons_zero, List.set_cons_succ]
    refine wpAnyH_ready (rs := [15]) (by kernel_rfl) (by simp) ?_
    refine AllReadyH.cons rfl (fun K hK => ?_) AllReadyH.nil
    go_simp
    (go_at_call 6; refine (alive37_any _).mono ?_; rintro e9 w13 ⟨rfl, k13⟩; have HS13 := Lib.hid (HLS.out _ (HK11.out.trans k13)); replace HB := Lib.hid (HB.out.quiet k13); clear k13)
    go_wp2_with fail
    refine hK.out _ _ ?_ (fun hHeld => ?_)
    · ((try dsimp only); exact HS13.out)
    clear hK K
    try simp only [Act.put, List.getElem_toArray, List.getElem_cons_zero, List.getElem_cons_succ, List.setIfInBounds_toArray, List.set_cons_zero, List.set_cons_succ]
    refine wpAnyH_take (i := 16) (v := ?_) rfl (by kernel_rfl) (by kernel_rfl) (by kernel_rfl) (fun _ _ _ h => h) (Or.inl ⟨by rfl, ?_⟩) (by assumption) ?_
    rotate_left
    · (intro w hSw; (try dsimp only at hSw); go_simp; try with_reducible rfl)
    simp only [Act.put, List.getElem_toArray, List.getElem_cons_zero, List.getElem_cons_succ, List.setIfInBounds_toArray, List.set_cons_zero, List.set_cons_succ]
    refine wpAnyH_take (i := 17) (v := ?_) rfl (by kernel_rfl) (by kernel_rfl) (by kernel_rfl) (fun _ _ _ h => h) (Or.inl ⟨by rfl, ?_⟩) (by assumption) ?_
    rotate_left
    · (intro w hSw; (try dsimp only at hSw); go_simp; try with_reducible rfl)
    simp only [Act.put, List.getElem_toArray, List.getElem_cons_zero, List.getElem_cons_succ, List.setIfInBounds_toArray, List.set_cons_zero, List.set_cons_succ]
    refine wpAnyH_done (by kernel_rfl) ?_ _
    refine NoPanic.normal ?_
    go_wp2_with fail
    go_ret
    exact lawQ HB.out.keeps
  · have HCC := Lib.hid hcc
    clear hcc
    have x0 : (M.cur == (i : Int)) = false := beq_eq_false_iff_ne.2 HCC.out
    go_wp2_with (first
      | (refine wpList_buildTo rfl 45 _ rfl (some 79) rfl (moC 5 (i : Int) 0 zV AskX.no) (by kernel_rfl) ?_))
    refine (do_serve_not _ _ a M 0 _ HM.out (i : Int) AskX.no (Or.inl fun e => HCC.out e.symm)).mono ?_
    rintro e w7 ⟨V7, v7, l7, n7, c7, rfl, hm, km⟩
    replace HM := Lib.hid hm
    replace HB := Lib.hid (HB.out.kM km HP.out)
    clear hm km
    have HPA := Lib.hid (show ∀ N : ScM, N.many = M.many → asksP N (upd (fun _ => AskX.no) i ⟨true, k, o, m, d, b⟩) (i : Int) = true from fun N h => asks_yes (by have := HI.out; have := HMY.out; omega) _ rfl)
    generalize hAF : (upd (fun _ => AskX.no) i ⟨true, k, o, m, d, b⟩) = AF at HM HPA
    clear hAF
    obtain ⟨W7, hW7⟩ : ∃ W, W = w7.alloc (.cells (outC 0 V7 v7 l7 n7 c7) 51) := ⟨_, rfl⟩
    have kx : Keeps (fun _ => False) w7 W7 := by rw [hW7]; exact (Keeps.refl _ w7).alloc _
    have ob7 : W7.heap[w7.heap.size]? = some (.cells (outC 0 V7 v7 l7 n7 c7) 51 (0, 0)) := by rw [hW7]; exact heap_new _ _
    replace HM := Lib.hid (HM.out.quiet kx)
    have HW7 := Lib.hid hW7
    have HO7 := Lib.hid ob7
    replace HB := Lib.hid (HB.out.quiet kx)
    clear kx ob7 hW7
    clear q0 q1 q2 q3 r0 r1 r2 r3 r4 l0 l1
    obtain ⟨q0, q1, q2, q3, r0, r1, r2, r3, r4, l0, l1⟩ := HB.out.cells
    go_wp2_with (first
      | (refine wpList_buildTo rfl 45 _ rfl (some 86) rfl (moC 5 (i : Int) 0 zV AskX.no) (by kernel_rfl) ?_)
      | (refine wpList_alloc_as rfl 51 rfl (some 14) rfl w7.heap.size rfl _ (out_zero _) (outC 0 zV 0 none 0 0) rfl ?_)
      | (refine wpList_store_row rfl 51 (.tmp 14) (.tmp 81) rfl w7.heap.size (outC 0 V7 v7 l7 n7 c7) rfl rfl 51 _ (heap_new _ _) out_info rfl (out_one _ _ _ _ _ _) ?_; rw [World.setRow_alloc_new, ← HW7.out]))
    refine (do_serve_not _ _ a M 0 _ HM.out (i : Int) AskX.no (Or.inl fun e => HCC.out e.symm)).mono ?_
    rintro e w8 ⟨V8, v8, l8, n8, c8, rfl, hm, km⟩
    replace HM := Lib.hid hm
    replace HB := Lib.hid (HB.out.kM km HP.out)
    clear hm km
    obtain ⟨W8, hW8⟩ : ∃ W, W = w8.alloc (.cells (outC 0 V8 v8 l8 n8 c8) 51) := ⟨_, rfl⟩
    have kx : Keeps (fun _ => False) w8 W8 := by rw [hW8]; exact (Keeps.refl _ w8).alloc _
    have ob8 : W8.heap[w8.heap.size]? = some (.cells (outC 0 V8 v8 l8 n8 c8) 51 (0, 0)) := by rw [hW8]; exact heap_new _ _
    replace HM := Lib.hid (HM.out.quiet kx)
    have HW8 := Lib.hid hW8
    have HO8 := Lib.hid ob8
    replace HB := Lib.hid (HB.out.quiet kx)
    clear kx ob8 hW8
    clear q0 q1 q2 q3 r0 r1 r2 r3 r4 l0 l1
    obtain ⟨q0, q1, q2, q3, r0, r1, r2, r3, r4, l0, l1⟩ := HB.out.cells
    go_wp2_with (first
      | (refine wpList_buildTo rfl 45 _ rfl (some 92) rfl (moC 9 0 0 zV AskX.no) (by kernel_rfl) ?_)
      | (refine wpList_alloc_as rfl 51 rfl (some 16) rfl w8.heap.size rfl _ (out_zero _) (outC 0 zV 0 none 0 0) rfl ?_)
      | (refine wpList_store_row rfl 51 (.tmp 16) (.tmp 88) rfl w8.heap.size (outC 0 V8 v8 l8 n8 c8) rfl rfl 51 _ (heap_new _ _) out_info rfl (out_one _ _ _ _ _ _) ?_; rw [World.setRow_alloc_new, ← HW8.out]))
    refine (do_choose _ _ a M 0 _ HM.out AskX.no 0).mono ?_
    rintro e w10 ⟨V10, v10, b10, c10, rfl, hb10, hm, km⟩
    replace HM := Lib.hid hm
    replace HB := Lib.hid (HB.out.kM km HP.out)
    have HL10 := Lib.hid hb10
    clear hm km hb10
    obtain ⟨W10, hW10⟩ : ∃ W, W = w10.alloc (.cells (outC 0 V10 v10 (some ⟨b10, 0, none⟩) 1 c10) 51) := ⟨_, rfl⟩
    have kx : Keeps (fun _ => False) w10 W10 := by rw [hW10]; exact (Keeps.refl _ w10).alloc _
    have ob10 : W10.heap[w10.heap.size]? = some (.cells (outC 0 V10 v10 (some ⟨b10, 0, none⟩) 1 c10) 51 (0, 0)) := by rw [hW10]; exact heap_new _ _
    replace HM := Lib.hid (HM.out.quiet kx)
    have HW10 := Lib.hid hW10
    have HO10 := Lib.hid ob10
    replace HB := Lib.hid (HB.out.quiet kx)
    clear kx ob10 hW10
    clear q0 q1 q2 q3 r0 r1 r2 r3 r4 l0 l1
    obtain ⟨q0, q1, q2, q3, r0, r1, r2, r3, r4, l0, l1⟩ := HB.out.cells
    have hb10 : W10.heap[b10]? = some (.cells #[.int .i64 (firstM M)] 3 (0, 0)) := by rw [HW10.out]; exact heap_old HL10.out _
    have HLS := Lib.hid (show ∀ W, Keeps (fun _ => False) W10 W → W.cell? ⟨w10.heap.size, 6, none⟩ = some (.slice (some ⟨b10, 0, none⟩) 1 c10) ∧ W.cell? ⟨b10, 0, none⟩ = some (.int .i64 (firstM M)) from fun W kk => ⟨cell_of (kk.at HO10.out fun h => h) 6, cell_of (kk.at (by rw [HW10.out]; exact heap_old HL10.out _) fun h => h) 0⟩)
    have HSS := Lib.hid (show W10.drew.cell? ⟨w10.heap.size, 6, none⟩ = some (.slice (some ⟨b10, 0, none⟩) 1 c10) ∧ W10.drew.cell? ⟨b10, 0, none⟩ = some (.int .i64 (firstM M)) from HLS.out _ (Keeps.refl _ W10).drew)
    clear hb10
    go_wp2_with (first
      | (refine wpList_alloc_as rfl 51 rfl (some 18) rfl w10.heap.size rfl _ (out_zero _) (outC 0 zV 0 none 0 0) rfl ?_)
      | (refine wpList_store_row rfl 51 (.tmp 18) (.tmp 94) rfl w10.heap.size (outC 0 V10 v10 (some ⟨b10, 0, none⟩) 1 c10) rfl rfl 51 _ (heap_new _ _) out_info rfl (out_one _ _ _ _ _ _) ?_; rw [World.setRow_alloc_new, ← HW10.out]))
    refine (asks_any W10 _ a (dispM M) 0 AF HM.out (i : Int)).mono ?_
    rintro e9 w9 ⟨rfl, hw9⟩
    subst w9
    rw [HPA.out (dispM M) rfl]
    go_wp2_with fail
    refine wp_region_noPanic ?_
    refine wp_region_held_drew (S := (fun w' => w'.cell? ⟨w10.heap.size, 6, none⟩ = some (.slice (some ⟨b10, 0, none⟩) 1 c10) ∧ w'.cell? ⟨b10, 0, none⟩ = some (.int .i64 (firstM M)))) (by kernel_rfl) ?_ (fun hHeld => ?_)
    · exact HSS.out
    refine wpAnyH_take (i := 0) (v := ?_) rfl (by kernel_rfl) (by kernel_rfl) (by kernel_rfl) (fun _ _ _ h => h) (Or.inl ⟨by rfl, ?_⟩) (by assumption) ?_
    rotate_left
    · (intro w hSw; (try dsimp only at hSw); go_simp; try with_reducible rfl)
    simp only [Act.put, List.getElem_toArray, List.getElem_cons_zero, List.getElem_cons_succ, List.setIfInBounds_toArray, List.set_cons_zero, List.set_cons_succ]
    refine wpAnyH_take (i := 1) (v := ?_) rfl (by kernel_rfl) (by kernel_rfl) (by kernel_rfl) (fun _ _ _ h => h) (Or.inl ⟨by rfl, ?_⟩) (by assumption) ?_
    rotate_left
    · (intro w hSw; (try dsimp only at hSw); go_simp; try with_reducible rfl)
    simp only [Act.put, List.getElem_toArray, List.getElem_cons_zero, List.getElem_cons_succ, List.setIfInBounds_toArray, List.set_cons_zero, List.set_cons_succ]
    refine wpAnyH_take (i := 2) (v := ?_) rfl (by kernel_rfl) (by kernel_rfl) (by kernel_rfl) (fun _ _ _ h => h) (Or.inl ⟨by rfl, ?_⟩) (by assumption) ?_
    rotate_left
    · (intro w hSw; (try dsimp only at hSw); go_simp; try with_reducible rfl)
    simp only [Act.put, List.getElem_toArray, List.getElem_cons_zero, List.getElem_cons_succ, List.setIfInBounds_toArray, List.set_cons_zero, List.set_cons_succ]
    refine wpAnyH_take (i := 3) (v := ?_) rfl (by kernel_rfl) (by kernel_rfl) (by kernel_rfl) (fun _ _ _ h => h) (Or.inl ⟨by rfl, ?_⟩) (by assumption) ?_
    rotate_left
    · (intro w hSw; (try dsimp only at hSw); go_simp; try with_reducible rfl)
    simp only [Act.put, List.getElem_toArray, List.getElem_cons_zero, List.getElem_cons_succ, List.setIfInBounds_toArray, List.set_cons_zero, List.set_cons_succ]
    refine wpAnyH_take (i := 4) (v := ?_) rfl (by kernel_rfl) (by kernel_rfl) (by kernel_rfl) (fun _ _ _ h => h) (Or.inl ⟨by rfl, ?_⟩) (by assumption) ?_
    rotate_left
    · (intro w hSw; (try dsimp only at hSw); go_simp; try with_reducible rfl)
    simp only [Act.put, List.getElem_toArray, List.getElem_cons_zero, List.getElem_cons_succ, List.setIfInBounds_toArray, List.set_cons_zero, List.set_cons_succ]
    refine wpAnyH_take (i := 5) (v := ?_) rfl (by kernel_rfl) (by kernel_rfl) (by kernel_rfl) (fun _ _ _ h => h) (Or.inl ⟨by rfl, ?_⟩) (by assumption) ?_
    rotate_left
    · (intro w hSw; (try dsimp only at hSw); go_simp; try with_reducible rfl)
    simp only [Act.put, List.getElem_toArray, List.getElem_cons_zero, List.getElem_cons_succ, List.setIfInBounds_toArray, List.set_cons_zero, List.set_cons_succ]
    refine wpAnyH_take (i := 6) (v := ?_) rfl (by kernel_rfl) (by kernel_rfl) (by kernel_rfl) (fun _ _ _ h => h) (Or.inl ⟨by rfl, ?_⟩) (by assumption) ?_
    rotate_left
    · (intro w hSw; (try dsimp only at hSw); go_simp; try with_reducible rfl)
    simp only [Act.put, List.getElem_toArray, List.getElem_cons_zero, List.getElem_cons_succ, List.setIfInBounds_toArray, List.set_cons_zero, List.set_cons_succ]
    refine wpAnyH_take (i := 7) (v := ?_) rfl (by kernel_rfl) (by kernel_rfl) (by kernel_rfl) (fun _ _ _ h => h) (Or.inl ⟨by rfl, ?_⟩) (by assumption) ?_
    rotate_left
    · (intro w hSw; (try dsimp only at hSw); go_simp; try with_reducible rfl)
    simp only [Act.put, List.getElem_toArray, List.getElem_cons_zero, List.getElem_cons_succ, List.setIfInBounds_toArray, List.set_cons_zero, List.set_cons_succ]
    refine wpAnyH_take (i := 8) (v := ?_) rfl (by kernel_rfl) (by kernel_rfl) (by kernel_rfl) (fun _ _ _ h => h) (Or.inl ⟨by rfl, ?_⟩) (by assumption) ?_
    rotate_left
    · (intro w hSw; (try dsimp only at hSw); go_simp; try with_reducible rfl)
    simp only [Act.put, List.getElem_toArray, List.getElem_cons_zero, List.getElem_cons_succ, List.setIfInBounds_toArray, List.set_cons_zero, List.set_cons_succ]
    refine wpAnyH_take (i := 9) (v := ?_) rfl (by kernel_rfl) (by kernel_rfl) (by kernel_rfl) (fun _ _ _ h => h) (Or.inl ⟨by rfl, ?_⟩) (by assumption) ?_
    rotate_left
    · (intro w hSw; (try dsimp only at hSw); go_simp; try with_reducible rfl)
    simp only [Act.put, List.getElem_toArray, List.getElem_cons_zero, List.getElem_cons_succ, List.setIfInBounds_toArray, List.set_cons_zero, List.set_cons_succ]
    refine wpAnyH_ready (rs := [10]) (by kernel_rfl) (by simp) ?_
    refine AllReadyH.cons rfl (fun K hK => ?_) AllReadyH.nil
    go_simp
    (go_at_call 14; refine (sched_of _ _ a (dispM M) 0 AF (HM.out.quiet (Keeps.refl _ W10).drew)).mono ?_; rintro e9 w11 ⟨a9, rfl, hv9, k9⟩; have HV9 := Lib.hid hv9; have HS11 := Lib.hid (HLS.out _ ((Keeps.refl _ W10).drew.trans k9)); replace HB := Lib.hid (HB.out.quiet ((Keeps.refl _ W10).drew.trans k9)); have HK11 := Lib.hid ((Keeps.refl (fun _ => False) W10).drew.trans k9); clear hv9 k9)
    go_wp2_with fail
    refine hK.out _ _ ?_ (fun hHeld => ?_)
    · ((try dsimp only); exact HS11.out)
    clear hK K
    try simp only [Act.put, List.getElem_toArray, List.getElem_cons_zero, List.getElem_cons_succ, List.setIfInBounds_toArray, List.set_cons_zero, List.set_cons_succ]
    refine wpAnyH_ready (rs := [11]) (by kernel_rfl) (by simp) ?_
    refine AllReadyH.cons rfl (fun K hK => ?_) AllReadyH.nil
    go_simp
    (go_at_call 15; refine (vcur_disp _ a9 M HV9.out).mono ?_; rintro e9 w12 ⟨rfl, hw12⟩; subst hw12)
    go_wp2_with fail
    refine hK.out _ _ ?_ (fun hHeld => ?_)
    · ((try dsimp only); exact HS11.out)
    clear hK K
    try simp only [Act.put, List.getElem_toArray, List.getElem_cons_zero, List.getElem_cons_succ, List.setIfInBounds_toArray, List.set_cons_zero, List.set_cons_succ]
    refine wpAnyH_take (i := 12) (v := ?_) rfl (by kernel_rfl) (by kernel_rfl) (by kernel_rfl) (fun _ _ _ h => h) (Or.inl ⟨by rfl, ?_⟩) (by assumption) ?_
    rotate_left
    · (intro w hSw; (try dsimp only at hSw); go_simp; try with_reducible rfl)
    simp only [Act.put, List.getElem_toArray, List.getElem_cons_zero, List.getElem_cons_succ, List.setIfInBounds_toArray, List.set_cons_zero, List.set_cons_succ]
    refine wpAnyH_take (i := 13) (v := ?_) rfl (by kernel_rfl) (by kernel_rfl) (by kernel_rfl) (fun _ _ _ h => h) (Or.inl ⟨by rfl, ?_⟩) (by assumption) ?_
    rotate_left
    · (intro w hSw; (try dsimp only at hSw); go_simp; try with_reducible rfl)
    simp only [Act.put, List.getElem_toArray, List.getElem_cons_zero, List.getElem_cons_succ, List.setIfInBounds_toArray, List.set_cons_zero, List.set_cons_succ]
    refine wpAnyH_take (i := 14) (v := ?_) rfl (by kernel_rfl) (by kernel_rfl) (by kernel_rfl) (fun _ _ _ h => h) (Or.inl ⟨by rfl, ?_⟩) (by assumption) ?_
    rotate_left
    · (intro w hSw; (try dsimp only at hSw); go_simp; try with_reducible rfl)
    simp only [Act.put, List.getElem_toArray, List.getElem_cons_zero, List.getElem_cons_succ, List.setIfInBounds_toArray, List.set_cons_zero, List.set_cons_succ]
    refine wpAnyH_ready (rs := [15]) (by kernel_rfl) (by simp) ?_
    refine AllReadyH.cons rfl (fun K hK => ?_) AllReadyH.nil
    go_simp
    (go_at_call 6; refine (alive37_any _).mono ?_; rintro e9 w13 ⟨rfl, k13⟩; have HS13 := Lib.hid (HLS.out _ (HK11.out.trans k13)); replace HB := Lib.hid (HB.out.quiet k13); clear k13)
    go_wp2_with fail
    refine hK.out _ _ ?_ (fun hHeld => ?_)
    · ((try dsimp only); exact HS13.out)
    clear hK K
    try simp only [Act.put, List.getElem_toArray, List.getElem_cons_zero, List.getElem_cons_succ, List.setIfInBounds_toArray, List.set_cons_zero, List.set_cons_succ]
    refine wpAnyH_take (i := 16) (v := ?_) rfl (by kernel_rfl) (by kernel_rfl) (by kernel_rfl) (fun _ _ _ h => h) (Or.inl ⟨by rfl, ?_⟩) (by assumption) ?_
    rotate_left
    · (intro w hSw; (try dsimp only at hSw); go_simp; try with_reducible rfl)
    simp only [Act.put, List.getElem_toArray, List.getElem_cons_zero, List.getElem_cons_succ, List.setIfInBounds_toArray, List.set_cons_zero, List.set_cons_succ]
    refine wpAnyH_take (i := 17) (v := ?_) rfl (by kernel_rfl) (by kernel_rfl) (by kernel_rfl) (fun _ _ _ h => h) (Or.inl ⟨by rfl, ?_⟩) (by assumption) ?_
    rotate_left
    · (intro w hSw; (try dsimp only at hSw); go_simp; try with_reducible rfl)
    simp only [Act.put, List.getElem_toArray, List.getElem_cons_zero, List.getElem_cons_succ, List.setIfInBounds_toArray, List.set_cons_zero, List.set_cons_succ]
    refine wpAnyH_done (by kernel_rfl) ?_ _
    refine NoPanic.normal ?_
    go_wp2_with fail
    go_ret
    exact lawQ HB.out.keeps
end Go.Proofs.YtkhmfjfclpehfaaGreat
namespace Go.Proofs.YtkhmfjfclpehfaaGreat
open Go.ChangeShapes Go.WideShapes Go.ChangeAt Go.RowKit
set_option linter.unusedVariables false
set_option linter.unusedSimpArgs false
set_option maxRecDepth 100000
theorem wf_u32 {q : Int} (hp : (Lit.int .u32 q).wf = true) : ∃ n : Nat, q = (n : Int) ∧ n < 4294967296 := by
  have h2 : 0 ≤ q ∧ q ≤ 4294967295 := by simpa [Lit.wf, IntKind.min, IntKind.max, IntKind.signed, IntKind.bits] using hp
  exact ⟨q.toNat, by omega, by omega⟩
/-- A request as an argument. -/
theorem request_cells {w : World} {cs : List Value} (h : Reads Tryz.prog w 47 cs) : ∃ (k o : Int) (m d b : Nat), cs = (rqC k o m d b).toList ∧ d < 4294967296 ∧ b < 4294967296 := by
  obtain ⟨hl, hf⟩ := h.struct Tryz.underlying47
  have hc : Tryz.prog.cellsOf 47 = 5 := by kernel_rfl
  rw [hc] at hl
  match cs, hl with
  | [v0, v1, v2, v3, v4], _ =>
    obtain ⟨p0, e0, h0⟩ := (h.field Tryz.underlying47 0 3 0 1 rfl (by kernel_rfl)).int Tryz.underlying3
    obtain ⟨p1, e1, h1⟩ := (h.field Tryz.underlying47 1 3 1 1 rfl (by kernel_rfl)).int Tryz.underlying3
    obtain ⟨p2, e2, h2⟩ := (h.field Tryz.underlying47 2 34 2 1 rfl (by kernel_rfl)).int Tryz.underlying34
    obtain ⟨p3, e3, h3⟩ := (h.field Tryz.underlying47 3 34 3 1 rfl (by kernel_rfl)).int Tryz.underlying34
    obtain ⟨p4, e4, h4⟩ := (h.field Tryz.underlying47 4 34 4 1 rfl (by kernel_rfl)).int Tryz.underlying34
    simp at e0 e1 e2 e3 e4
    obtain ⟨m, rfl, _⟩ := wf_u32 h2
    obtain ⟨d, rfl, hd⟩ := wf_u32 h3
    obtain ⟨b, rfl, hb⟩ := wf_u32 h4
    exact ⟨p0, p1, m, d, b, by simp [e0, e1, e2, e3, e4], hd, hb⟩
theorem modelServes_walk {H : Type} {enc : TypeId × Value → H} (W : World) (base : Nat) {v0 v1 v2 : Value} {d0 d1 d2 : DataW H} {p0 p1 p2 : List MemPlace}
    (k0 : Value.okWide Tryz.prog W .any base 26 v0) (h0 : DataW.Trod enc Tryz.prog W 0 (fun _ => true) true 26 v0 d0 p0)
    (k1 : Value.okWide Tryz.prog W .any base 47 v1) (h1 : DataW.Trod enc Tryz.prog W 0 (fun _ => true) true 47 v1 d1 p1)
    (k2 : Value.okWide Tryz.prog W .any base 3 v2) (h2 : DataW.Trod enc Tryz.prog W 0 (fun _ => true) true 3 v2 d2 p2) :
    Calls Tryz.prog 4 #[v0, v1, v2] W fun e w' => e = .returned (.bool true) ∧ Below W.heap.size W w' := by
  obtain ⟨cs0, rfl, _⟩ := okWide_struct Tryz.underlying26 k0
  obtain ⟨cs1, rfl, _⟩ := okWide_struct Tryz.underlying47 k1
  obtain ⟨t, rfl⟩ := okWide_int Tryz.underlying3 k2
  obtain ⟨c, e0, hc, ho, hu⟩ := cfg_of3 (reads_of h0)
  obtain ⟨k, o, m, d, b, e1, hd, hb⟩ := request_cells (reads_of h1)
  obtain rfl : cs0 = c.cells := by
    have : cs0.toList = c.cells.toList := by simpa [Value.cells] using e0
    exact Array.toList_inj.1 this
  obtain rfl : cs1 = rqC k o m d b := by
    have : cs1.toList = (rqC k o m d b).toList := by simpa [Value.cells] using e1
    exact Array.toList_inj.1 this
  have fin : ∀ e w', LawQ W e w' → e = .returned (.bool true) ∧ Below W.heap.size W w' := fun e w' h => ⟨h.1, h.2.none⟩
  by_cases hv : badOf c = (0, 0, 0)
  · by_cases h1 : t < 0
    · exact (serves_low c W hc ho k o m d b t hv hu h1).mono fin
    · by_cases h2 : (c.nT : Int) ≤ t
      · exact (serves_high c W hc ho k o m d b t hv hu ⟨by omega, h2⟩).mono fin
      · obtain ⟨i, rfl⟩ : ∃ i : Nat, t = (i : Int) := ⟨t.toNat, by omega⟩
        exact (serves_in c W hc ho k o m d b hv hu hd hb i (by omega)).mono fin
  · exact (serves_bad c W hc ho k o m d b t hv).mono fin
end Go.Proofs.YtkhmfjfclpehfaaGreat
