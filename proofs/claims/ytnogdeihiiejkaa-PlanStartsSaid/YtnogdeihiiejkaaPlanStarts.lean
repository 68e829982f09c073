import Derived.Test.YtnogdeihiiejkaaPlO
namespace Go.Proofs.Ytnogdeihiiejkaa
open Go.ChangeShapes Go.WideShapes Go.ChangeAt Go.RowKit
set_option linter.unusedVariables false
set_option linter.unusedSimpArgs false
theorem pl_alive {w W : World} (h : Keeps (fun _ => False) w W) : Calls Try.prog 5 #[] W fun e w' => e = .returned (.bool true) ∧ Keeps (fun _ => False) w w' :=
  (alive30_any W).mono fun e w' k => ⟨k.1, h.trans k.2⟩
set_option maxRecDepth 20000 in
set_option maxHeartbeats 4000000 in
theorem pls_bad (c : CfD) (w : World) (hc : CfIn w c) (ho : c.Ok) (hv : badOf c ≠ (0, 0, 0)) :
    Calls Try.prog 3 #[.agg c.cells] w fun e w' => e = .returned (.bool true) ∧ Keeps (fun _ => False) w w' := by
  have HL := Lib.hid (fun W (k : Keeps (fun _ => False) w W) => light2_any c W (hc.none k) ho)
  have HP := Lib.hid (fun W (k : Keeps (fun _ => False) w W) => plan_bad c W (hc.none k) ho hv)
  have HM := Lib.hid (fun W (k : Keeps (fun _ => False) w W) => mem_bad c W (hc.none k) ho hv)
  have HB := Lib.hid ((Has.start w).alloc (.cells c.cells 26))
  clear hc ho hv
  go_enter Try.func3, Try.ntmps3
  go_wp2_with fail
  refine (HL.out _ HB.out.keeps).mono ?_
  rintro e1 w1 ⟨b, rfl, _, k1⟩
  replace HB := Lib.hid (HB.out.none k1)
  clear k1
  obtain ⟨q0, q1, q2, q3⟩ := four_cells (HB.out.at 0 rfl)
  cases b with
  | false =>
    go_wp2_with fail
    refine (pl_alive HB.out.keeps).mono ?_
    rintro e2 w2 ⟨rfl, k2⟩
    have HK := Lib.hid k2
    clear k2
    go_wp2_with fail
    go_ret
    exact ⟨rfl, HK.out⟩
  | true =>
    go_wp2_with fail
    refine (HP.out _ HB.out.keeps).mono ?_
    rintro e2 w2 ⟨rfl, k2⟩
    replace HB := Lib.hid ((HB.out.none k2).alloc (.cells #[.slice none 0 0, .slice none 0 0, .int .i64 0, .slice none 0 0, .int .i64 0] 33))
    clear q0 q1 q2 q3 k2
    obtain ⟨q0, q1, q2, q3⟩ := four_cells (HB.out.at 1 rfl)
    have hl := lt_of (HB.out.at 1 rfl)
    go_wp2_with fail
    refine (HM.out _ HB.out.keeps).mono ?_
    rintro e3 w3 ⟨rfl, k3⟩
    replace HB := Lib.hid (HB.out.none k3)
    clear q0 q1 q2 q3 k3
    go_wp2_with fail
    refine (pl_alive HB.out.keeps).mono ?_
    rintro e4 w4 ⟨rfl, k4⟩
    have HK := Lib.hid k4
    clear k4
    go_wp2_with fail
    go_ret
    exact ⟨rfl, HK.out⟩
set_option maxRecDepth 20000 in
set_option maxHeartbeats 16000000 in
theorem pls_good (c : CfD) (w : World) (hc : CfIn w c) (ho : c.Ok) (hv : badOf c = (0, 0, 0)) (hoi : ∀ i, i < c.nO → ∀ j, j < 4 → 0 ≤ c.oi i j) :
    Calls Try.prog 3 #[.agg c.cells] w fun e w' => e = .returned (.bool true) ∧ Keeps (fun _ => False) w w' := by
  have HL := Lib.hid (fun W (k : Keeps (fun _ => False) w W) => light2_any c W (hc.none k) ho)
  have HP := Lib.hid (fun W (k : Keeps (fun _ => False) w W) => plan_good c W (hc.none k) ho hv)
  have HM := Lib.hid (fun W (k : Keeps (fun _ => False) w W) => mem_good c W (hc.none k) ho hv hoi)
  have hgo := good_of hv
  have HG := Lib.hid hgo
  have HST := Lib.hid (fun W (k : Keeps (fun _ => False) w W) => start_any W c.oa c.nO c.oc c.ob c.oi ((ObIn.of hc).keep k) hgo.o hgo.right (fun i hi => ho.ob i hi 1 (by omega)) hoi)
  have HB := Lib.hid ((Has.start w).alloc (.cells c.cells 26))
  have HOB := Lib.hid (ObIn.of hc)
  have HB1 := Lib.hid (show ∀ i, i < c.nO → -9223372036854775808 ≤ c.ob i 1 ∧ c.ob i 1 ≤ 9223372036854775807 from fun i hi => ho.ob i hi 1 (by omega))
  have hn := plan_nums hgo
  have hT := hgo.t
  obtain ⟨m, hm⟩ : ∃ m : Nat, baseP c = (m : Int) := ⟨(baseP c).toNat, by omega⟩
  obtain ⟨n, hnn⟩ : ∃ n : Nat, cellsN c = n := ⟨_, rfl⟩
  have HN := Lib.hid (show n ≤ 65536 ∧ m ≤ n ∧ baseP c = (m : Int) ∧ cellsN c = n from ⟨by unfold cellsN at hnn; omega, by unfold cellsN at hnn; omega, hm, hnn⟩)
  rw [show preP c.ob c.nO = (m : Int) from hm, Int.toNat_natCast] at HST
  rw [hnn, show (baseP c).toNat = m by omega] at HM
  clear hc ho hv hoi hgo hn hT hm hnn
  go_enter Try.func3, Try.ntmps3
  go_wp2_with fail
  refine (HL.out _ HB.out.keeps).mono ?_
  rintro e1 w1 ⟨b, rfl, _, k1⟩
  replace HB := Lib.hid (HB.out.none k1)
  clear k1
  obtain ⟨q0, q1, q2, q3⟩ := four_cells (HB.out.at 0 rfl)
  cases b with
  | false =>
    go_wp2_with fail
    refine (pl_alive HB.out.keeps).mono ?_
    rintro e2 w2 ⟨rfl, k2⟩
    have HK := Lib.hid k2
    clear k2
    go_wp2_with fail
    go_ret
    exact ⟨rfl, HK.out⟩
  | true =>
    go_wp2_with fail
    refine (HP.out _ HB.out.keeps).mono ?_
    rintro e2 w2 ⟨g, la, lc, aa, ac, rfl, hpl, hln, hak, k2⟩
    have hB2 := (HB.out.none k2).at 0 rfl
    have HS1 := Lib.hid HB.out.keeps.size
    obtain ⟨W2, hW2⟩ : ∃ W2, W2 = w2.alloc (.cells ([.slice (some ⟨g, 0, none⟩) c.nO c.nO, .slice la c.nL lc, .int .i64 (tickP c), .slice aa c.nT ac, .int .i64 (tickP c + 1 + (c.nT : Int))] : List Value).toArray 33) := ⟨_, rfl⟩
    have ka : Keeps (fun _ => False) w2 W2 := by rw [hW2]; exact (Keeps.refl _ w2).alloc _
    have HX := Lib.hid (And.intro (hpl.keep ka (fun h => h)) (And.intro (own_keepK hln ka (fun _ _ h => h)) (And.intro (own_keepK hak ka (fun _ _ h => h)) (And.intro (ka.at hB2 (fun h => h)) (show W2.heap[w2.heap.size]? = some (.cells ([.slice (some ⟨g, 0, none⟩) c.nO c.nO, .slice la c.nL lc, .int .i64 (tickP c), .slice aa c.nT ac, .int .i64 (tickP c + 1 + (c.nT : Int))] : List Value).toArray 33 (0, 0)) from by rw [hW2]; exact heap_new w2 _)))))
    have HK2 := Lib.hid (HB.out.keeps.trans (k2.trans ka))
    have HW2 := Lib.hid hW2
    obtain ⟨p0, p1, p2, p3⟩ := four_cells hB2
    have hl := lt_of hB2
    clear q0 q1 q2 q3 k2 hpl hln hak hB2 hW2 ka HB
    go_wp2_with fail
    rw [show (w2.alloc (.cells #[.slice (some ⟨g, 0, none⟩) c.nO c.nO, .slice la c.nL lc, .int .i64 (tickP c), .slice aa c.nT ac, .int .i64 (tickP c + 1 + (c.nT : Int))] 33)) = W2 from HW2.out.symm]
    clear p0 p1 p2 p3 hl
    obtain ⟨PB, hPB⟩ : ∃ PB, PB = w2.heap.size := ⟨_, rfl⟩
    rw [← hPB] at HX ⊢
    clear hPB HW2
    refine (HST.out _ HK2.out).mono ?_
    rintro e3 w3 ⟨b3, x3, rfl, hm3, k3⟩
    have HM3 := Lib.hid (And.intro hm3 k3)
    clear hm3 k3
    go_wp2_with fail
    refine (all_any _ _ _ _ _ HM3.out.1).mono ?_
    rintro e4 w4 ⟨rfl, hg4, k4⟩
    obtain ⟨y1, hy1⟩ : ∃ y1, y1 = w3.heap.size := ⟨_, rfl⟩
    rw [← hy1] at hg4 ⊢
    have k24 := HM3.out.2.trans k4
    have HK4 := Lib.hid (And.intro (HK2.out.trans k24) (And.intro k24 hg4))
    have c4 := k24.at HX.out.2.2.2.1 (fun h => h)
    obtain ⟨p0, p1, p2, p3⟩ := four_cells c4
    clear hg4 k4 hy1 k24 c4 HM3
    go_wp2_with fail
    refine (HM.out _ HK4.out.1).mono ?_
    rintro e5 w5 ⟨b5, x5, rfl, hm5, k5⟩
    have HM5 := Lib.hid (And.intro hm5 k5)
    clear hm5 k5 p0 p1 p2 p3
    go_wp2_with fail
    refine (all_any _ _ _ _ _ HM5.out.1).mono ?_
    rintro e6 w6 ⟨rfl, hg6, k6⟩
    obtain ⟨y2, hy2⟩ : ∃ y2, y2 = w5.heap.size := ⟨_, rfl⟩
    rw [← hy2] at hg6 ⊢
    have HLW := Lib.hid (show LwB w w6 c PB g la lc aa ac y1 y2 m n (startW c.ob c.oi c.nO) from by
      have k46 := HM5.out.2.trans k6
      have k26 := HK4.out.2.1.trans k46
      exact ⟨HK4.out.1.trans k46, k26.at HX.out.2.2.2.1 (fun h => h), k26.at HX.out.2.2.2.2 (fun h => h), HX.out.1.keep k26 (fun h => h), own_base (own_keepK HX.out.2.1 k26 (fun _ _ h => h)) HS1.out, own_base (own_keepK HX.out.2.2.1 k26 (fun _ _ h => h)) HS1.out, k46.at HK4.out.2.2 (fun h => h), hg6⟩)
    have HNB := Lib.hid HN.out.1
    have hnb := HN.out.1
    clear HX HK2 HK4 HM5 hg6 k6 HM HST HP HL hy2
    go_wp2_with fail
    go_loopw [7] (fun x W => ∃ k : Nat, k ≤ n ∧ x = .int .i64 (k : Int) ∧ LwB w W c PB g la lc aa ac y1 y2 m n (startW c.ob c.oi c.nO)) (fun x _ => n - (intOf x).toNat)
    case atStart => exact ⟨0, Nat.zero_le _, rfl, HLW.out⟩
    case round =>
      clear HLW
      obtain ⟨k, hk, rfl, hs⟩ := hrel
      have HS := Lib.hid hs
      clear hs
      by_cases hlt : k < n
      · have HLT := Lib.hid hlt
        have e0 : decide (k < n) = true := decide_eq_true hlt
        have e0' : decide ((k : Int) < (n : Int)) = true := decide_eq_true (by omega)
        have e3 : (0 : Int) ≤ (k : Int) := by omega
        have e4 : (k : Int) < (n : Int) := by omega
        have HRP := Lib.hid (show wr.rangeAt PB 0 [.slice (some ⟨g, 0, none⟩) c.nO c.nO, .slice la c.nL lc, .int .i64 (tickP c), .slice aa c.nT ac, .int .i64 (tickP c + 1 + (c.nT : Int))] from fun j v hv => by
          rw [cell_of HS.out.box (0 + j), show 0 + j = j by omega]
          simpa using hv)
        have HWH := Lib.hid (whose_any c wr g la lc aa ac w.heap.size HG.out HS.out.pl HS.out.ln HS.out.ak HB1.out k (by rw [HN.out.2.2.2]; exact hlt))
        clear hlt
        go_wp2_with (refine wpList_load_mid rfl 33 (.tmp 3) rfl PB 0 rfl [.slice (some ⟨g, 0, none⟩) c.nO c.nO, .slice la c.nL lc, .int .i64 (tickP c), .slice aa c.nT ac, .int .i64 (tickP c + 1 + (c.nT : Int))] _ HRP.out Try.underlying33 rfl plan_info ?_)
        refine HWH.out.mono ?_
        rintro e7 w7 ⟨rfl, k7⟩
        replace HS := Lib.hid (HS.out.none k7)
        clear k7 HWH HRP
        have cw := cell_of HS.out.ws k
        rw [words_get _ n k HLT.out] at cw
        by_cases hkm : k < m
        · obtain ⟨i, hi, hwi⟩ := whose_obj HG.out (k := k) (by rw [HN.out.2.2.1]; omega)
          rw [hwi]
          obtain ⟨b, off, hoa, hbl, hobj⟩ := HOB.out.lies (by omega)
          have co := cell_of HS.out.own k
          rw [words_get _ m k hkm] at co
          rw [show memW (startW c.ob c.oi c.nO) m k = startW c.ob c.oi c.nO k by unfold memW; rw [if_pos hkm]] at cw
          have cp := HS.out.pl.cell hi (j := 0) (v := .int .i64 (c.ob i 0)) rfl
          have cb : w7.cell? ⟨b, off + i * 10, none⟩ = some (.int .i64 (c.ob i 0)) := (HS.out.keeps.none.cell (p := ⟨b, off + i * 10, none⟩) hbl).trans (hobj i hi 0 (by omega))
          obtain ⟨p0, p1, p2, p3⟩ := four_cells HS.out.cfg
          rw [hoa] at p2
          have r0 : w7.cell? ⟨PB, 0, none⟩ = some (.slice (some ⟨g, 0, none⟩) c.nO c.nO) := cell_of HS.out.box 0
          have d1 : decide (m ≤ k) = false := decide_eq_false (by omega)
          have d1' : decide ((m : Int) ≤ (k : Int)) = false := decide_eq_false (by omega)
          have d2 : decide ((i : Int) < 0) = false := decide_eq_false (by omega)
          have d3 : decide (c.nO ≤ i) = false := decide_eq_false (by omega)
          have d3' : decide ((c.nO : Int) ≤ (i : Int)) = false := decide_eq_false (by omega)
          have d4 : ((startW c.ob c.oi c.nO k : Int) != (startW c.ob c.oi c.nO k : Int)) = false := by simp
          have d5 : (c.ob i 0 != c.ob i 0) = false := by simp
          have g1 : (0 : Int) ≤ (i : Int) := by omega
          have g2 : (i : Int) < (c.nO : Int) := by omega
          have g3 : (k : Int) < (m : Int) := by omega
          simp only [Nat.add_zero] at cp
          generalize startW c.ob c.oi c.nO k = z at *
          generalize c.ob i 0 = zk at *
          clear hwi hobj hoa hbl hi hkm
          go_wp2_with fail
          go_quiet (fail)
          go_wp2_with fail
          go_roundw
          case rel => exact ⟨k + 1, by have := HLT.out; omega, by go_num, HS.out.none ((Keeps.refl (fun _ => False) w7).drewN _)⟩
          case measure => simp [intOf]; have := HLT.out; omega
        · have hwo := whose_other HG.out (k := k) (by rw [HN.out.2.2.1]; omega)
          rw [show memW (startW c.ob c.oi c.nO) m k = 0 by unfold memW; rw [if_neg hkm]] at cw
          generalize whoseP (allSt c) (k : Int) = wp at *
          obtain ⟨wa, wb⟩ := wp
          have d1 : (wa == 1) = false := beq_eq_false_iff_ne.mpr hwo
          have d2 : (wa = 1) = False := eq_false hwo
          clear hwo hkm
          go_wp2_with fail
          go_roundw
          case rel => exact ⟨k + 1, by have := HLT.out; omega, by go_num, HS.out⟩
          case measure => simp [intOf]; have := HLT.out; omega
      · obtain rfl : k = n := by omega
        have e0 : decide (k < k) = false := decide_eq_false (by omega)
        clear hlt
        go_wp2_with fail
        refine (pl_alive HS.out.keeps).mono ?_
        rintro e9 w9 ⟨rfl, k9⟩
        have HK := Lib.hid k9
        clear k9
        go_wp2_with fail
        go_ret
        exact ⟨rfl, HK.out⟩
set_option maxRecDepth 100000 in
theorem planStarts_walk {H : Type} {enc : TypeId × Value → H} (W : World) (base : Nat) {v0 : Value} {d0 : DataW H} {p0 : List MemPlace}
    (k0 : Value.okWide Try.prog W .any base 26 v0) (h0 : DataW.Trod enc Try.prog W 0 (fun _ => true) true 26 v0 d0 p0) :
    Calls Try.prog 3 #[v0] W fun e w' => e = .returned (.bool true) ∧ Below W.heap.size W w' := by
  obtain ⟨cs0, rfl, _⟩ := okWide_struct Try.underlying26 k0
  obtain ⟨c, hcs, hin, hok, hoi⟩ := cfg_of2 (reads_of h0)
  have hcs' : cs0 = c.cells := by
    have : cs0.toList = c.cells.toList := by simpa [Value.cells] using hcs
    exact Array.toList_inj.1 this
  rw [hcs']
  by_cases hv : badOf c = (0, 0, 0)
  · exact (pls_good c W hin hok hv hoi).mono fun e w' h => ⟨h.1, h.2.none⟩
  · exact (pls_bad c W hin hok hv).mono fun e w' h => ⟨h.1, h.2.none⟩
end Go.Proofs.Ytnogdeihiiejkaa
