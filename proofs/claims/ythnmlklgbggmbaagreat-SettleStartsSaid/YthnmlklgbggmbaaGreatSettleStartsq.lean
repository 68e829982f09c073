import Derived.Test.YthnmlklgbggmbaaGreatStSq
import Derived.Test.YthnmlklgbggmbaaGreatStKq
import Derived.Deep.RegionHeld3
import Derived.Test.YthnmlklgbggmbaaGreatRowq
namespace Go.Proofs.YthnmlklgbggmbaaGreat
open Go.ChangeShapes Go.WideShapes Go.ChangeAt Go.RowKit
set_option linter.unusedVariables false
set_option linter.unusedSimpArgs false
attribute [local irreducible] wpList
def SsQ (w : World) (e : Ending) (w' : World) : Prop := e = .returned (.bool true) ∧ Keeps (fun _ => False) w w'
theorem al39 {w0 w : World} (k : Keeps (fun _ => False) w0 w) : Calls Tryz.prog 22 #[] w (SsQ w0) := (alive39_any w).mono fun _ _ h => ⟨h.1, k.trans h.2⟩
set_option maxRecDepth 20000 in
set_option maxHeartbeats 8000000 in
theorem starts_bad (c : CfD) (w : World) (hc : CfIn w c) (ho : c.Ok) (hv : badOf c ≠ (0, 0, 0)) :
    Calls Tryz.prog 4 #[.agg c.cells] w (SsQ w) := by
  have HL := Lib.hid (fun W (k : Keeps (fun _ => False) w W) => light35_nil c W (hc.none k) ho)
  have HQ := Lib.hid (fun W (k : Keeps (fun _ => False) w W) => check_any c W (hc.none k) ho)
  have HB := Lib.hid ((Has.start w).alloc (.cells c.cells 26))
  have hz : (badOf c).1 ≠ 0 := fun e => hv (bad_zero e)
  generalize badOf c = B at *
  obtain ⟨b0, b1, b2⟩ := B
  have hb0 : (b0 == 0) = false := beq_eq_false_iff_ne.mpr hz
  have hb1 : (b0 = 0) = False := eq_false hz
  clear hc ho hv hz
  go_enter Tryz.func4, Tryz.ntmps4
  go_wp2_with fail
  refine (HL.out _ HB.out.keeps).mono ?_
  rintro e1 w1 ⟨b, rfl, _, k1⟩
  replace HB := Lib.hid (HB.out.none k1)
  clear k1
  obtain ⟨q0, q1, q2, q3⟩ := four_cells (HB.out.at 0 rfl)
  have lq := lt_of (HB.out.at 0 rfl)
  cases b with
  | false =>
    go_wp2_with fail
    refine (al39 HB.out.keeps).mono ?_
    rintro e2 w2 ⟨rfl, k2⟩
    have HK := Lib.hid k2
    clear k2
    go_wp2_with fail
    go_ret
    exact ⟨rfl, HK.out⟩
  | true =>
    go_wp2_with fail
    refine (HQ.out _ HB.out.keeps).mono ?_
    rintro e2 w2 ⟨rfl, k2⟩
    replace HB := Lib.hid (HB.out.none k2)
    clear k2 q0 q1 q2 q3
    go_wp2_with fail
    refine (al39 HB.out.keeps).mono ?_
    rintro e3 w3 ⟨rfl, k3⟩
    have HK := Lib.hid k3
    clear k3
    go_wp2_with fail
    go_ret
    exact ⟨rfl, HK.out⟩
set_option maxRecDepth 20000 in
set_option maxHeartbeats 20000000 in
theorem starts_good (c : CfD) (w : World) (hc : CfIn w c) (ho : c.Ok) (hoi : ∀ i, i < c.nO → ∀ j, j < 4 → 0 ≤ c.oi i j) (hk : CodesIn w c) (hv : badOf c = (0, 0, 0)) :
    Calls Tryz.prog 4 #[.agg c.cells] w (SsQ w) := by
  have HL := Lib.hid (fun W (k : Keeps (fun _ => False) w W) => light35_nil c W (hc.none k) ho)
  have HQ := Lib.hid (fun W (k : Keeps (fun _ => False) w W) => check_any c W (hc.none k) ho)
  have HN := Lib.hid (fun W (k : Keeps (fun _ => False) w W) h => core_new c W (hc.none k) ho hv ⟨fun i hi => (hk.t i hi).quiet k, fun i hi => (hk.l i hi).quiet k⟩ h hoi)
  have hgo := good_of hv
  obtain ⟨t, ht, hcur, hbest⟩ := new_first c.tp c.nT hgo.t1 hgo.t fun i hi => let h := (good_more hv).1 i hi; ⟨h.1, h.2.1⟩
  have HBEST := Lib.hid hbest
  have HCUR := Lib.hid hcur
  have HT := Lib.hid ht
  have HA := Lib.hid (And.intro hgo (And.intro ho hv))
  have HCF := Lib.hid (fun W (k : Keeps (fun _ => False) w W) => hc.none k)
  have HB := Lib.hid ((Has.start w).alloc (.cells c.cells 26))
  rw [hv] at HQ
  clear hc ho hoi hk hv hgo hbest hcur ht
  go_enter Tryz.func4, Tryz.ntmps4
  go_wp2_with fail
  refine (HL.out _ HB.out.keeps).mono ?_
  rintro e1 w1 ⟨b, rfl, hlen, k1⟩
  replace HB := Lib.hid (HB.out.none k1)
  have HLEN := Lib.hid hlen
  clear k1 hlen
  obtain ⟨q0, q1, q2, q3⟩ := four_cells (HB.out.at 0 rfl)
  have lq := lt_of (HB.out.at 0 rfl)
  cases b with
  | false =>
    go_wp2_with fail
    refine (al39 HB.out.keeps).mono ?_
    rintro e2 w2 ⟨rfl, k2⟩
    have HK := Lib.hid k2
    clear k2
    go_wp2_with fail
    go_ret
    exact ⟨rfl, HK.out⟩
  | true =>
    go_wp2_with fail
    refine (HQ.out _ HB.out.keeps).mono ?_
    rintro e2 w2 ⟨rfl, k2⟩
    replace HB := Lib.hid (HB.out.none k2)
    clear k2 q0 q1 q2 q3 lq
    obtain ⟨q0, q1, q2, q3⟩ := four_cells (HB.out.at 0 rfl)
    have lq := lt_of (HB.out.at 0 rfl)
    go_wp2_with fail
    refine (HN.out _ HB.out.keeps (HLEN.out (by first | trivial | rfl)).2.2).mono ?_
    rintro e3 w3 ⟨x, mb, q, gb, zb, fb, p, a, P, rfl, hcs, k3⟩
    have hcur := HCUR.out
    have hfir := disp_first (newM ((List.range c.nT).map c.tp))
    generalize dispM (newM ((List.range c.nT).map c.tp)) = M at *
    have HCS := Lib.hid (fun W (k : Keeps (fun _ => False) w3 W) => hcs.quiet k)
    have HM := Lib.hid (And.intro hcur hfir)
    have HW3 := Lib.hid ((Keeps.refl (fun _ => False) w3).alloc (.cells #[.int .i64 0, .int .i64 0, .int .i64 0] 30))
    replace HB := Lib.hid ((HB.out.none k3).alloc (.cells #[.int .i64 0, .int .i64 0, .int .i64 0] 30))
    clear hcs k3 hcur hfir q0 q1 q2 q3 lq HCUR
    go_wp2_with fail
    refine (Due_any (HCS.out _ HW3.out)).mono ?_
    rintro e4 w4 ⟨rfl, k4⟩
    rw [HM.out.1]
    rw [show ((t : Int) != -1) = true from by simp]
    replace HB := Lib.hid (HB.out.none k4)
    replace HW3 := Lib.hid (HW3.out.trans k4)
    clear k4
    obtain ⟨q0, q1, q2, q3⟩ := four_cells (HB.out.at 1 rfl)
    have lq := lt_of (HB.out.at 1 rfl)
    have ht := HT.out
    have d0 : decide ((t : Int) < 0) = false := decide_eq_false (by omega)
    have d1 : decide ((c.nT : Int) ≤ (t : Int)) = false := decide_eq_false (by omega)
    have d2 : decide (c.nT ≤ t) = false := decide_eq_false (by omega)
    clear ht
    go_wp2_with fail
    refine (Quiet_zero (HCS.out _ HW3.out) HA.out.1 HM.out.2 (HCF.out _ HB.out.keeps) HA.out.2.1 HA.out.2.2).mono ?_
    rintro e5 w5 ⟨rfl, k5⟩
    replace HB := Lib.hid (HB.out.none k5)
    replace HW3 := Lib.hid (HW3.out.trans k5)
    clear k5 q0 q1 q2 q3 lq
    go_wp2_with fail
    go_loopw [7] (fun i wr => ∃ k : Nat, i = .int .i64 (k : Int) ∧ k ≤ c.nT ∧ Keeps (fun _ => False) w5 wr) (fun i _ => c.nT - (intOf i).toNat)
    case atStart => exact ⟨0, rfl, by omega, Keeps.refl _ _⟩
    case round =>
      obtain ⟨k, rfl, hk, hkw⟩ := hrel
      have HK := Lib.hid hkw
      obtain ⟨q0, q1, q2, q3⟩ := four_cells ((HB.out.none hkw).at 1 rfl)
      have lq := lt_of ((HB.out.none hkw).at 1 rfl)
      have hnT := HA.out.1.t
      by_cases hlt : k < c.nT
      · have HLT := Lib.hid hlt
        have HB2 := Lib.hid (HB.out.none hkw)
        have HW := Lib.hid (HW3.out.trans hkw)
        obtain ⟨b, off, hta, hb, hrow⟩ := (HCF.out _ HB2.out.keeps).t (Nat.lt_of_le_of_lt (Nat.zero_le _) hlt)
        have c0 := (hrow k hlt).1
        have ct := (hrow t HT.out).1
        rw [hta] at q0
        have ht := HT.out
        have d1 : decide ((k : Int) < (c.nT : Int)) = true := decide_eq_true (by omega)
        have d2 : decide (k < c.nT) = true := decide_eq_true hlt
        have b1 : (0 : Int) ≤ (k : Int) := by omega
        have b2 : (k : Int) < (c.nT : Int) := by omega
        have b3 : (0 : Int) ≤ (t : Int) := by omega
        have b4 : (t : Int) < (c.nT : Int) := by omega
        have y1 : wrap64 ((k : Int) + 1) = (k : Int) + 1 := IntWalk.wrap64_in _ ⟨by omega, by omega⟩
        have HBE := Lib.hid (HBEST.out k hlt)
        have HBX := Lib.hid (fun W (kk : Keeps (fun _ => False) wr W) => four_cells ((HB2.out.none kk).at 1 rfl))
        have HBR := Lib.hid (fun W (kk : Keeps (fun _ => False) wr W) => And.intro ((kk.none.cell (p := ⟨b, off + k * 3, none⟩) hb).trans c0) ((kk.none.cell (p := ⟨b, off + t * 3, none⟩) hb).trans ct))
        have g1 : decide (c.tp t < c.tp k) = false := decide_eq_false (by have := HBE.out.1; omega)
        have HTA := Lib.hid hta
        clear hrow hb hk hlt hkw hnT ht hta
        by_cases he : c.tp k = c.tp t
        · have g2 : (c.tp k == c.tp t) = true := beq_iff_eq.mpr he
          have g3 : decide ((k : Int) < (t : Int)) = false := decide_eq_false (by have := HBE.out.2 he; omega)
          have g4 : decide (k < t) = false := decide_eq_false (by have := HBE.out.2 he; omega)
          clear he
          generalize c.tp k = X at *
          generalize c.tp t = Y at *
          go_wp2_with fail
          have hS : ∀ W : World, Keeps (fun _ => False) wr W → W.cell? ⟨w.heap.size, 0, none⟩ = some (.slice (some ⟨b, off, none⟩) c.nT c.tc) ∧ W.cell? ⟨w.heap.size, 1, none⟩ = some (.slice c.la c.nL c.lc) ∧ W.cell? ⟨w.heap.size, 2, none⟩ = some (.slice c.oa c.nO c.oc) ∧ W.cell? ⟨w.heap.size, 3, none⟩ = some (.int .i64 c.tick) ∧ W.cell? ⟨b, off + k * 3, none⟩ = some (.int .i64 X) ∧ W.cell? ⟨b, off + t * 3, none⟩ = some (.int .i64 Y) := fun W kk => by
            obtain ⟨u0, u1, u2, u3⟩ := HBX.out W kk
            rw [HTA.out] at u0
            exact ⟨u0, u1, u2, u3, HBR.out W kk⟩
          have HS := Lib.hid hS
          clear hS
          go_region_held3 (fun W => W.cell? ⟨w.heap.size, 0, none⟩ = some (.slice (some ⟨b, off, none⟩) c.nT c.tc) ∧ W.cell? ⟨w.heap.size, 1, none⟩ = some (.slice c.la c.nL c.lc) ∧ W.cell? ⟨w.heap.size, 2, none⟩ = some (.slice c.oa c.nO c.oc) ∧ W.cell? ⟨w.heap.size, 3, none⟩ = some (.int .i64 c.tick) ∧ W.cell? ⟨b, off + k * 3, none⟩ = some (.int .i64 X) ∧ W.cell? ⟨b, off + t * 3, none⟩ = some (.int .i64 Y))
            (first
              | exact HS.out _ (Keeps.refl _ wr).drew
              | exact HS.out _ HK7.out
              | go_keep)
            (first
              | (go_at_call 26; rw [← HTA.out]; refine (Holds_false (HCS.out _ HW.out.drew) HA.out.1 (HCF.out _ HB2.out.keeps.drew) HA.out.2.1 HA.out.2.2 (k : Int)).mono ?_; rintro e7 w7 ⟨rfl, k7⟩; have HK7 := Lib.hid ((Keeps.refl (fun _ => False) wr).drew.trans k7); clear k7)
              | fail)
          go_wp2_with fail
          go_roundw
          case rel => exact ⟨k + 1, by go_num, HLT.out, HK.out.trans HK7.out⟩
          case measure => (rw [y1]; exact meas_as1 HLT.out)
        · have g2 : (c.tp k == c.tp t) = false := beq_eq_false_iff_ne.mpr he
          clear he
          generalize c.tp k = X at *
          generalize c.tp t = Y at *
          go_wp2_with fail
          have hS : ∀ W : World, Keeps (fun _ => False) wr W → W.cell? ⟨w.heap.size, 0, none⟩ = some (.slice (some ⟨b, off, none⟩) c.nT c.tc) ∧ W.cell? ⟨w.heap.size, 1, none⟩ = some (.slice c.la c.nL c.lc) ∧ W.cell? ⟨w.heap.size, 2, none⟩ = some (.slice c.oa c.nO c.oc) ∧ W.cell? ⟨w.heap.size, 3, none⟩ = some (.int .i64 c.tick) ∧ W.cell? ⟨b, off + k * 3, none⟩ = some (.int .i64 X) ∧ W.cell? ⟨b, off + t * 3, none⟩ = some (.int .i64 Y) := fun W kk => by
            obtain ⟨u0, u1, u2, u3⟩ := HBX.out W kk
            rw [HTA.out] at u0
            exact ⟨u0, u1, u2, u3, HBR.out W kk⟩
          have HS := Lib.hid hS
          clear hS
          refine wp_region_noPanic ?_
          refine wp_region_held_drew (S := (fun W => W.cell? ⟨w.heap.size, 0, none⟩ = some (.slice (some ⟨b, off, none⟩) c.nT c.tc) ∧ W.cell? ⟨w.heap.size, 1, none⟩ = some (.slice c.la c.nL c.lc) ∧ W.cell? ⟨w.heap.size, 2, none⟩ = some (.slice c.oa c.nO c.oc) ∧ W.cell? ⟨w.heap.size, 3, none⟩ = some (.int .i64 c.tick) ∧ W.cell? ⟨b, off + k * 3, none⟩ = some (.int .i64 X) ∧ W.cell? ⟨b, off + t * 3, none⟩ = some (.int .i64 Y))) (by kernel_rfl) ?_ (fun hHeld => ?_)
          · exact HS.out _ (Keeps.refl _ wr).drew
          refine wpAnyH_take (i := 0) (v := ?_) rfl (by kernel_rfl) (by kernel_rfl) (by kernel_rfl) (fun _ _ _ h => h) (Or.inl ⟨by rfl, ?_⟩) (by assumption) ?_
          rotate_left
          · (intro w hSw; (try dsimp only at hSw); go_simp; try with_reducible rfl)
          simp only [Act.put, List.getElem_toArray, List.getElem_cons_zero, List.getElem_cons_succ, List.setIfInBounds_toArray, List.set_cons_zero, List.set_cons_succ]
          refine wpAnyH_take (i := 1) (v := ?_) rfl (by kernel_rfl) (by kernel_rfl) (by kernel_rfl) (fun _ _ _ h => h) (Or.inl ⟨by rfl, ?_⟩) (by assumption) ?_
          rotate_left
          · (intro w hSw; (try dsimp only at hSw); go_simp; try with_reducible rfl)
          simp only [Act.put, List.getElem_toArray, List.getElem_cons_zero, List.getElem_cons_succ, List.setIfInBounds_toArray, List.set_cons_zero, List.set_cons_succ]
          refine wpAnyH_take (i := 2) (v := ?_) rfl (by kernel_rfl) (by kernel_rfl) (by kernel_rfl) (fun _ _ _ h => h) (Or.inl ⟨by rfl, ?_⟩) (by assumption) ?_
          rotate_left
          · (intro w hSw; (try dsimp only at hSw); go_simp; try with_reducible rfl)
          simp only [Act.put, List.getElem_toArray, List.getElem_cons_zero, List.getElem_cons_succ, List.setIfInBounds_toArray, List.set_cons_zero, List.set_cons_succ]
          refine wpAnyH_take (i := 3) (v := ?_) rfl (by kernel_rfl) (by kernel_rfl) (by kernel_rfl) (fun _ _ _ h => h) (Or.inl ⟨by rfl, ?_⟩) (by assumption) ?_
          rotate_left
          · (intro w hSw; (try dsimp only at hSw); go_simp; try with_reducible rfl)
          simp only [Act.put, List.getElem_toArray, List.getElem_cons_zero, List.getElem_cons_succ, List.setIfInBounds_toArray, List.set_cons_zero, List.set_cons_succ]
          refine wpAnyH_take (i := 4) (v := ?_) rfl (by kernel_rfl) (by kernel_rfl) (by kernel_rfl) (fun _ _ _ h => h) (Or.inl ⟨by rfl, ?_⟩) (by assumption) ?_
          rotate_left
          · (intro w hSw; (try dsimp only at hSw); go_simp; try with_reducible rfl)
          simp only [Act.put, List.getElem_toArray, List.getElem_cons_zero, List.getElem_cons_succ, List.setIfInBounds_toArray, List.set_cons_zero, List.set_cons_succ]
          refine wpAnyH_take (i := 5) (v := ?_) rfl (by kernel_rfl) (by kernel_rfl) (by kernel_rfl) (fun _ _ _ h => h) (Or.inl ⟨by rfl, ?_⟩) (by assumption) ?_
          rotate_left
          · (intro w hSw; (try dsimp only at hSw); go_simp; try with_reducible rfl)
          simp only [Act.put, List.getElem_toArray, List.getElem_cons_zero, List.getElem_cons_succ, List.setIfInBounds_toArray, List.set_cons_zero, List.set_cons_succ]
          refine wpAnyH_take (i := 6) (v := ?_) rfl (by kernel_rfl) (by kernel_rfl) (by kernel_rfl) (fun _ _ _ h => h) (Or.inl ⟨by rfl, ?_⟩) (by assumption) ?_
          rotate_left
          · (intro w hSw; (try dsimp only at hSw); go_simp; try with_reducible rfl)
          simp only [Act.put, List.getElem_toArray, List.getElem_cons_zero, List.getElem_cons_succ, List.setIfInBounds_toArray, List.set_cons_zero, List.set_cons_succ]
          refine wpAnyH_take (i := 7) (v := ?_) rfl (by kernel_rfl) (by kernel_rfl) (by kernel_rfl) (fun _ _ _ h => h) (Or.inl ⟨by rfl, ?_⟩) (by assumption) ?_
          rotate_left
          · (intro w hSw; (try dsimp only at hSw); go_simp; try with_reducible rfl)
          simp only [Act.put, List.getElem_toArray, List.getElem_cons_zero, List.getElem_cons_succ, List.setIfInBounds_toArray, List.set_cons_zero, List.set_cons_succ]
          refine wpAnyH_take (i := 8) (v := ?_) rfl (by kernel_rfl) (by kernel_rfl) (by kernel_rfl) (fun _ _ _ h => h) (Or.inl ⟨by rfl, ?_⟩) (by assumption) ?_
          rotate_left
          · (intro w hSw; (try dsimp only at hSw); go_simp; try with_reducible rfl)
          simp only [Act.put, List.getElem_toArray, List.getElem_cons_zero, List.getElem_cons_succ, List.setIfInBounds_toArray, List.set_cons_zero, List.set_cons_succ]
          refine wpAnyH_take (i := 9) (v := ?_) rfl (by kernel_rfl) (by kernel_rfl) (by kernel_rfl) (fun _ _ _ h => h) (Or.inl ⟨by rfl, ?_⟩) (by assumption) ?_
          rotate_left
          · (intro w hSw; (try dsimp only at hSw); go_simp; try with_reducible rfl)
          simp only [Act.put, List.getElem_toArray, List.getElem_cons_zero, List.getElem_cons_succ, List.setIfInBounds_toArray, List.set_cons_zero, List.set_cons_succ]
          refine wpAnyH_take (i := 10) (v := ?_) rfl (by kernel_rfl) (by kernel_rfl) (by kernel_rfl) (fun _ _ _ h => h) (Or.inl ⟨by rfl, ?_⟩) (by assumption) ?_
          rotate_left
          · (intro w hSw; (try dsimp only at hSw); go_simp; try with_reducible rfl)
          simp only [Act.put, List.getElem_toArray, List.getElem_cons_zero, List.getElem_cons_succ, List.setIfInBounds_toArray, List.set_cons_zero, List.set_cons_succ]
          refine wpAnyH_take (i := 11) (v := ?_) rfl (by kernel_rfl) (by kernel_rfl) (by kernel_rfl) (fun _ _ _ h => h) (Or.inl ⟨by rfl, ?_⟩) (by assumption) ?_
          rotate_left
          · (intro w hSw; (try dsimp only at hSw); go_simp; try with_reducible rfl)
          simp only [Act.put, List.getElem_toArray, List.getElem_cons_zero, List.getElem_cons_succ, List.setIfInBounds_toArray, List.set_cons_zero, List.set_cons_succ]
          refine wpAnyH_take (i := 12) (v := ?_) rfl (by kernel_rfl) (by kernel_rfl) (by kernel_rfl) (fun _ _ _ h => h) (Or.inl ⟨by rfl, ?_⟩) (by assumption) ?_
          rotate_left
          · (intro w hSw; (try dsimp only at hSw); go_simp; try with_reducible rfl)
          simp only [Act.put, List.getElem_toArray, List.getElem_cons_zero, List.getElem_cons_succ, List.setIfInBounds_toArray, List.set_cons_zero, List.set_cons_succ]
          refine wpAnyH_take (i := 13) (v := ?_) rfl (by kernel_rfl) (by kernel_rfl) (by kernel_rfl) (fun _ _ _ h => h) (Or.inl ⟨by rfl, ?_⟩) (by assumption) ?_
          rotate_left
          · (intro w hSw; (try dsimp only at hSw); go_simp; try with_reducible rfl)
          simp only [Act.put, List.getElem_toArray, List.getElem_cons_zero, List.getElem_cons_succ, List.setIfInBounds_toArray, List.set_cons_zero, List.set_cons_succ]
          refine wpAnyH_take (i := 14) (v := ?_) rfl (by kernel_rfl) (by kernel_rfl) (by kernel_rfl) (fun _ _ _ h => h) (Or.inl ⟨by rfl, ?_⟩) (by assumption) ?_
          rotate_left
          · (intro w hSw; (try dsimp only at hSw); go_simp; try with_reducible rfl)
          simp only [Act.put, List.getElem_toArray, List.getElem_cons_zero, List.getElem_cons_succ, List.setIfInBounds_toArray, List.set_cons_zero, List.set_cons_succ]
          refine wpAnyH_take (i := 15) (v := ?_) rfl (by kernel_rfl) (by kernel_rfl) (by kernel_rfl) (fun _ _ _ h => h) (Or.inl ⟨by rfl, ?_⟩) (by assumption) ?_
          rotate_left
          · (intro w hSw; (try dsimp only at hSw); go_simp; try with_reducible rfl)
          simp only [Act.put, List.getElem_toArray, List.getElem_cons_zero, List.getElem_cons_succ, List.setIfInBounds_toArray, List.set_cons_zero, List.set_cons_succ]
          refine wpAnyH_take (i := 16) (v := ?_) rfl (by kernel_rfl) (by kernel_rfl) (by kernel_rfl) (fun _ _ _ h => h) (Or.inl ⟨by rfl, ?_⟩) (by assumption) ?_
          rotate_left
          · (intro w hSw; (try dsimp only at hSw); go_simp; try with_reducible rfl)
          simp only [Act.put, List.getElem_toArray, List.getElem_cons_zero, List.getElem_cons_succ, List.setIfInBounds_toArray, List.set_cons_zero, List.set_cons_succ]
          refine wpAnyH_take (i := 17) (v := ?_) rfl (by kernel_rfl) (by kernel_rfl) (by kernel_rfl) (fun _ _ _ h => h) (Or.inl ⟨by rfl, ?_⟩) (by assumption) ?_
          rotate_left
          · (intro w hSw; (try dsimp only at hSw); go_simp; try with_reducible rfl)
          simp only [Act.put, List.getElem_toArray, List.getElem_cons_zero, List.getElem_cons_succ, List.setIfInBounds_toArray, List.set_cons_zero, List.set_cons_succ]
          refine wpAnyH_take (i := 18) (v := ?_) rfl (by kernel_rfl) (by kernel_rfl) (by kernel_rfl) (fun _ _ _ h => h) (Or.inl ⟨by rfl, ?_⟩) (by assumption) ?_
          rotate_left
          · (intro w hSw; (try dsimp only at hSw); go_simp; try with_reducible rfl)
          simp only [Act.put, List.getElem_toArray, List.getElem_cons_zero, List.getElem_cons_succ, List.setIfInBounds_toArray, List.set_cons_zero, List.set_cons_succ]
          refine wpAnyH_take (i := 19) (v := ?_) rfl (by kernel_rfl) (by kernel_rfl) (by kernel_rfl) (fun _ _ _ h => h) (Or.inl ⟨by rfl, ?_⟩) (by assumption) ?_
          rotate_left
          · (intro w hSw; (try dsimp only at hSw); go_simp; try with_reducible rfl)
          simp only [Act.put, List.getElem_toArray, List.getElem_cons_zero, List.getElem_cons_succ, List.setIfInBounds_toArray, List.set_cons_zero, List.set_cons_succ]
          refine wpAnyH_take (i := 20) (v := ?_) rfl (by kernel_rfl) (by kernel_rfl) (by kernel_rfl) (fun _ _ _ h => h) (Or.inl ⟨by rfl, ?_⟩) (by assumption) ?_
          rotate_left
          · (intro w hSw; (try dsimp only at hSw); go_simp; try with_reducible rfl)
          simp only [Act.put, List.getElem_toArray, List.getElem_cons_zero, List.getElem_cons_succ, List.setIfInBounds_toArray, List.set_cons_zero, List.set_cons_succ]
          refine wpAnyH_take (i := 21) (v := ?_) rfl (by kernel_rfl) (by kernel_rfl) (by kernel_rfl) (fun _ _ _ h => h) (Or.inl ⟨by rfl, ?_⟩) (by assumption) ?_
          rotate_left
          · (intro w hSw; (try dsimp only at hSw); go_simp; try with_reducible rfl)
          simp only [Act.put, List.getElem_toArray, List.getElem_cons_zero, List.getElem_cons_succ, List.setIfInBounds_toArray, List.set_cons_zero, List.set_cons_succ]
          refine wpAnyH_take (i := 22) (v := ?_) rfl (by kernel_rfl) (by kernel_rfl) (by kernel_rfl) (fun _ _ _ h => h) (Or.inl ⟨by rfl, ?_⟩) (by assumption) ?_
          rotate_left
          · (intro w hSw; (try dsimp only at hSw); go_simp; try with_reducible rfl)
          simp only [Act.put, List.getElem_toArray, List.getElem_cons_zero, List.getElem_cons_succ, List.setIfInBounds_toArray, List.set_cons_zero, List.set_cons_succ]
          refine wpAnyH_take (i := 23) (v := ?_) rfl (by kernel_rfl) (by kernel_rfl) (by kernel_rfl) (fun _ _ _ h => h) (Or.inl ⟨by rfl, ?_⟩) (by assumption) ?_
          rotate_left
          · (intro w hSw; (try dsimp only at hSw); go_simp; try with_reducible rfl)
          simp only [Act.put, List.getElem_toArray, List.getElem_cons_zero, List.getElem_cons_succ, List.setIfInBounds_toArray, List.set_cons_zero, List.set_cons_succ]
          refine wpAnyH_take (i := 24) (v := ?_) rfl (by kernel_rfl) (by kernel_rfl) (by kernel_rfl) (fun _ _ _ h => h) (Or.inl ⟨by rfl, ?_⟩) (by assumption) ?_
          rotate_left
          · (intro w hSw; (try dsimp only at hSw); go_simp; try with_reducible rfl)
          simp only [Act.put, List.getElem_toArray, List.getElem_cons_zero, List.getElem_cons_succ, List.setIfInBounds_toArray, List.set_cons_zero, List.set_cons_succ]
          refine wpAnyH_take (i := 25) (v := ?_) rfl (by kernel_rfl) (by kernel_rfl) (by kernel_rfl) (fun _ _ _ h => h) (Or.inl ⟨by rfl, ?_⟩) (by assumption) ?_
          rotate_left
          · (intro w hSw; (try dsimp only at hSw); go_simp; try with_reducible rfl)
          simp only [Act.put, List.getElem_toArray, List.getElem_cons_zero, List.getElem_cons_succ, List.setIfInBounds_toArray, List.set_cons_zero, List.set_cons_succ]
          refine wpAnyH_take (i := 26) (v := ?_) rfl (by kernel_rfl) (by kernel_rfl) (by kernel_rfl) (fun _ _ _ h => h) (Or.inl ⟨by rfl, ?_⟩) (by assumption) ?_
          rotate_left
          · (intro w hSw; (try dsimp only at hSw); go_simp; try with_reducible rfl)
          simp only [Act.put, List.getElem_toArray, List.getElem_cons_zero, List.getElem_cons_succ, List.setIfInBounds_toArray, List.set_cons_zero, List.set_cons_succ]
          refine wpAnyH_take (i := 27) (v := ?_) rfl (by kernel_rfl) (by kernel_rfl) (by kernel_rfl) (fun _ _ _ h => h) (Or.inl ⟨by rfl, ?_⟩) (by assumption) ?_
          rotate_left
          · (intro w hSw; (try dsimp only at hSw); go_simp; try with_reducible rfl)
          simp only [Act.put, List.getElem_toArray, List.getElem_cons_zero, List.getElem_cons_succ, List.setIfInBounds_toArray, List.set_cons_zero, List.set_cons_succ]
          refine wpAnyH_take (i := 28) (v := undef) rfl (by kernel_rfl) (by kernel_rfl) (by kernel_rfl) (fun _ _ _ h => h) (Or.inr ⟨by rfl, rfl⟩) (by assumption) ?_
          simp only [Act.put, List.getElem_toArray, List.getElem_cons_zero, List.getElem_cons_succ, List.setIfInBounds_toArray, List.set_cons_zero, List.set_cons_succ]
          refine wpAnyH_take (i := 29) (v := undef) rfl (by kernel_rfl) (by kernel_rfl) (by kernel_rfl) (fun _ _ _ h => h) (Or.inr ⟨by rfl, rfl⟩) (by assumption) ?_
          simp only [Act.put, List.getElem_toArray, List.getElem_cons_zero, List.getElem_cons_succ, List.setIfInBounds_toArray, List.set_cons_zero, List.set_cons_succ]
          refine wpAnyH_take (i := 30) (v := undef) rfl (by kernel_rfl) (by kernel_rfl) (by kernel_rfl) (fun _ _ _ h => h) (Or.inr ⟨by rfl, rfl⟩) (by assumption) ?_
          simp only [Act.put, List.getElem_toArray, List.getElem_cons_zero, List.getElem_cons_succ, List.setIfInBounds_toArray, List.set_cons_zero, List.set_cons_succ]
          refine wpAnyH_take (i := 31) (v := ?_) rfl (by kernel_rfl) (by kernel_rfl) (by kernel_rfl) (fun _ _ _ h => h) (Or.inl ⟨by rfl, ?_⟩) (by assumption) ?_
          rotate_left
          · (intro w hSw; (try dsimp only at hSw); go_simp; try with_reducible rfl)
          simp only [Act.put, List.getElem_toArray, List.getElem_cons_zero, List.getElem_cons_succ, List.setIfInBounds_toArray, List.set_cons_zero, List.set_cons_succ]
          refine wpAnyH_take (i := 32) (v := ?_) rfl (by kernel_rfl) (by kernel_rfl) (by kernel_rfl) (fun _ _ _ h => h) (Or.inl ⟨by rfl, ?_⟩) (by assumption) ?_
          rotate_left
          · (intro w hSw; (try dsimp only at hSw); go_simp; try with_reducible rfl)
          simp only [Act.put, List.getElem_toArray, List.getElem_cons_zero, List.getElem_cons_succ, List.setIfInBounds_toArray, List.set_cons_zero, List.set_cons_succ]
          refine wpAnyH_take (i := 33) (v := ?_) rfl (by kernel_rfl) (by kernel_rfl) (by kernel_rfl) (fun _ _ _ h => h) (Or.inl ⟨by rfl, ?_⟩) (by assumption) ?_
          rotate_left
          · (intro w hSw; (try dsimp only at hSw); go_simp; try with_reducible rfl)
          simp only [Act.put, List.getElem_toArray, List.getElem_cons_zero, List.getElem_cons_succ, List.setIfInBounds_toArray, List.set_cons_zero, List.set_cons_succ]
          refine wpAnyH_take (i := 34) (v := ?_) rfl (by kernel_rfl) (by kernel_rfl) (by kernel_rfl) (fun _ _ _ h => h) (Or.inl ⟨by rfl, ?_⟩) (by assumption) ?_
          rotate_left
          · (intro w hSw; (try dsimp only at hSw); go_simp; try with_reducible rfl)
          simp only [Act.put, List.getElem_toArray, List.getElem_cons_zero, List.getElem_cons_succ, List.setIfInBounds_toArray, List.set_cons_zero, List.set_cons_succ]
          refine wpAnyH_take (i := 35) (v := ?_) rfl (by kernel_rfl) (by kernel_rfl) (by kernel_rfl) (fun _ _ _ h => h) (Or.inl ⟨by rfl, ?_⟩) (by assumption) ?_
          rotate_left
          · (intro w hSw; (try dsimp only at hSw); go_simp; try with_reducible rfl)
          simp only [Act.put, List.getElem_toArray, List.getElem_cons_zero, List.getElem_cons_succ, List.setIfInBounds_toArray, List.set_cons_zero, List.set_cons_succ]
          refine wpAnyH_take (i := 36) (v := ?_) rfl (by kernel_rfl) (by kernel_rfl) (by kernel_rfl) (fun _ _ _ h => h) (Or.inl ⟨by rfl, ?_⟩) (by assumption) ?_
          rotate_left
          · (intro w hSw; (try dsimp only at hSw); go_simp; try with_reducible rfl)
          simp only [Act.put, List.getElem_toArray, List.getElem_cons_zero, List.getElem_cons_succ, List.setIfInBounds_toArray, List.set_cons_zero, List.set_cons_succ]
          refine wpAnyH_ready (rs := [37]) (by kernel_rfl) (by simp) ?_
          refine AllReadyH.cons rfl (fun K hK => ?_) AllReadyH.nil
          go_simp
          (go_at_call 26; rw [← HTA.out]; refine (Holds_false (HCS.out _ HW.out.drew) HA.out.1 (HCF.out _ HB2.out.keeps.drew) HA.out.2.1 HA.out.2.2 (k : Int)).mono ?_; rintro e7 w7 ⟨rfl, k7⟩; have HK7 := Lib.hid ((Keeps.refl (fun _ => False) wr).drew.trans k7); clear k7)
          go_wp2_with fail
          refine hK.out _ _ ?_ (fun hHeld => ?_)
          · ((try dsimp only); exact HS.out _ HK7.out)
          clear hK K
          try simp only [Act.put, List.getElem_toArray, List.getElem_cons_zero, List.getElem_cons_succ, List.setIfInBounds_toArray, List.set_cons_zero, List.set_cons_succ]
          refine wpAnyH_take (i := 38) (v := ?_) rfl (by kernel_rfl) (by kernel_rfl) (by kernel_rfl) (fun _ _ _ h => h) (Or.inl ⟨by rfl, ?_⟩) (by assumption) ?_
          rotate_left
          · (intro w hSw; (try dsimp only at hSw); go_simp; try with_reducible rfl)
          simp only [Act.put, List.getElem_toArray, List.getElem_cons_zero, List.getElem_cons_succ, List.setIfInBounds_toArray, List.set_cons_zero, List.set_cons_succ]
          refine wpAnyH_done (by kernel_rfl) ?_ _
          refine NoPanic.normal ?_
          go_wp2_with fail
          go_roundw
          case rel => exact ⟨k + 1, by go_num, HLT.out, HK.out.trans HK7.out⟩
          case measure => (rw [y1]; exact meas_as1 HLT.out)
      · have HB2 := Lib.hid (HB.out.none hkw)
        have e1 : decide ((k : Int) < (c.nT : Int)) = false := decide_eq_false (by omega)
        have e2 : decide (k < c.nT) = false := decide_eq_false hlt
        clear hk hlt hkw hnT
        go_wp2_with fail
        refine (al39 HB2.out.keeps).mono ?_
        rintro e6 w6 ⟨rfl, k6⟩
        have HK6 := Lib.hid k6
        clear k6
        go_wp2_with fail
        go_ret
        exact ⟨rfl, HK6.out⟩
end Go.Proofs.YthnmlklgbggmbaaGreat
namespace Go.Proofs.YthnmlklgbggmbaaGreat
open Go.ChangeShapes Go.WideShapes Go.ChangeAt Go.RowKit
set_option linter.unusedVariables false
set_option linter.unusedSimpArgs false
set_option maxRecDepth 100000
theorem settleStarts_walk {H : Type} {enc : TypeId × Value → H} (W : World) (base : Nat) {v0 : Value} {d0 : DataW H} {p0 : List MemPlace}
    (k0 : Value.okWide Tryz.prog W .any base 26 v0) (h0 : DataW.Trod enc Tryz.prog W 0 (fun _ => true) true 26 v0 d0 p0) :
    Calls Tryz.prog 4 #[v0] W fun e w' => e = .returned (.bool true) ∧ Below W.heap.size W w' := by
  obtain ⟨cs0, rfl, _⟩ := okWide_struct Tryz.underlying26 k0
  obtain ⟨c, e0, hc, ho, hoi, hk⟩ := cfgc_of (reads_of h0)
  obtain rfl : cs0 = c.cells := by
    have : cs0.toList = c.cells.toList := by simpa [Value.cells] using e0
    exact Array.toList_inj.1 this
  have fin : ∀ e w', SsQ W e w' → e = .returned (.bool true) ∧ Below W.heap.size W w' := fun e w' h => ⟨h.1, h.2.none⟩
  by_cases hv : badOf c = (0, 0, 0)
  · exact (starts_good c W hc ho hoi hk hv).mono fin
  · exact (starts_bad c W hc ho hv).mono fin
end Go.Proofs.YthnmlklgbggmbaaGreat
