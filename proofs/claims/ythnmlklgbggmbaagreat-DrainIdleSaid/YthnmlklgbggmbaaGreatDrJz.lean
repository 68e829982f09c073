import Derived.Test.YthnmlklgbggmbaaGreatDrGz
import Derived.Test.YthnmlklgbggmbaaGreatLightZ
import Derived.Test.YthnmlklgbggmbaaGreatRefCz
import Derived.Test.YthnmlklgbggmbaaGreatBaseZ
import Derived.Test.YthnmlklgbggmbaaGreatSchPz
namespace Go.Proofs.YthnmlklgbggmbaaGreat
open Go.ChangeShapes Go.WideShapes Go.ChangeAt Go.RowKit
set_option linter.unusedVariables false
set_option linter.unusedSimpArgs false
attribute [local irreducible] wpList
theorem vcurrent_any (w : World) (a : ScA) (M : ScM) (h : ScV w a M)  :
    Calls Tryz.prog 15 #[.pointer (some ⟨a.s, 0, none⟩)] w fun e w' => e = .returned (.int .i64 M.cur) ∧ w = w' := by
  have c33 : w.cell? ⟨a.s, 33, none⟩ = some (.int .i64 M.cur) := h.cell 33 fun cs hc => hc.cur
  clear h
  go_enter Tryz.func15, Tryz.ntmps15
  go_wp2
  go_ret
  exact ⟨rfl, rfl⟩
theorem vready_any (w : World) (a : ScA) (M : ScM) (h : ScV w a M) :
    Calls Tryz.prog 18 #[.pointer (some ⟨a.s, 0, none⟩)] w fun e w' => ∃ v, e = .returned v ∧ w'.ownsRow w.heap.size 3 1 v (listT M.R).length (ints (listT M.R)) ∧ Keeps (fun _ => False) w w' := by
  have c34 : w.cell? ⟨a.s, 34, none⟩ = some (.pointer (some ⟨a.rk, 0, none⟩)) := h.cell 34 fun cs hc => hc.rk
  have HS := Lib.hid (rks_list w a.rk M.R h.rank)
  clear h
  go_enter Tryz.func18, Tryz.ntmps18
  go_wp2_with fail
  refine HS.out.mono ?_
  rintro e w2 ⟨v, rfl, hz⟩
  have HZ := Lib.hid hz
  clear hz HS
  go_wp2_with fail
  go_ret
  exact ⟨v, rfl, HZ.out⟩
theorem same_rows (w : World) {B B' n : Nat} {v v' : Value} {xs : List Nat} (h : w.ownsRow B 3 1 v n (ints xs)) (h' : w.ownsRow B' 3 1 v' n (ints xs)) :
    Calls Tryz.prog 17 #[v, v'] w fun e w' => e = .returned (.bool true) ∧ Keeps (fun _ => False) w w' := by
  have hl := h.1
  rcases h.2 with ⟨rfl, rfl⟩ | ⟨g, cap, cur, rfl, _, hg, hc, hm, hs, ht⟩
  · rcases h'.2 with ⟨rfl, _⟩ | ⟨g', cap', cur', rfl, _, _⟩
    · exact rsame_zero _ _ _ _ w
    · exact rsame_zero _ _ _ _ w
  · rcases h'.2 with ⟨rfl, rfl⟩ | ⟨g', cap', cur', rfl, _, hg', hc', hm', hs', ht'⟩
    · exact rsame_zero _ _ _ _ w
    · have key : ∀ (cur : Array Value), cur.toList.take (n * 1) = ints xs → ∀ i, i < n → cur[i]? = some (.int .i64 ((xs.getD i 0 : Nat) : Int)) := fun cur ht i hi => by
        have hi' : i < xs.length := by
          have : (ints xs).length = xs.length := by unfold ints; exact List.length_map _
          omega
        have h0 : (ints xs)[i]? = some (.int .i64 ((xs.getD i 0 : Nat) : Int)) := by
          unfold ints
          rw [List.getElem?_map, List.getElem?_eq_getElem hi', List.getD_eq_getElem?_getD, List.getElem?_eq_getElem hi']
          rfl
        rw [← ht, List.getElem?_take_of_lt (by omega)] at h0
        rw [← Array.getElem?_toList]; exact h0
      exact rsame_some g 0 g' 0 n cap cap' (fun i => ((xs.getD i 0 : Nat) : Int)) w (by omega) (fun i hi => by rw [Nat.zero_add]; exact (cell_of hg i).trans (key cur ht i hi)) (fun i hi => by rw [Nat.zero_add]; exact (cell_of hg' i).trans (key cur' ht' i hi))
end Go.Proofs.YthnmlklgbggmbaaGreat
namespace Go.Proofs.YthnmlklgbggmbaaGreat
open Go.ChangeShapes Go.WideShapes Go.ChangeAt Go.RowKit
set_option linter.unusedVariables false
set_option linter.unusedSimpArgs false
attribute [local irreducible] wpList
theorem meas_id {n q nL : Nat} (hy : wrap64 ((n : Int) + 1) = (n : Int) + 1) (h : n ≤ q + 2 + nL) (h2 : n ≠ q + 2 + nL) : q + 3 + nL - (intOf (.int .i64 (wrap64 ((n : Int) + 1)))).toNat < q + 3 + nL - (intOf (.int .i64 (n : Int))).toNat := by
  rw [hy]
  show q + 3 + nL - ((n : Int) + 1).toNat < q + 3 + nL - ((n : Int)).toNat
  omega
def IdQ (w : World) (e : Ending) (w' : World) : Prop := e = .returned (.bool true) ∧ Keeps (fun _ => False) w w'
theorem al34 {w W : World} (h : Keeps (fun _ => False) w W) : Calls Tryz.prog 7 #[] W fun e w' => e = .returned (.bool true) ∧ Keeps (fun _ => False) w w' :=
  (alive34_any W).mono fun e w' k => ⟨k.1, h.trans k.2⟩
set_option maxRecDepth 20000 in
set_option maxHeartbeats 8000000 in
theorem idle_bad (c : CfD) (w : World) (hc : CfIn w c) (ho : c.Ok) (hv : badOf c ≠ (0, 0, 0)) :
    Calls Tryz.prog 3 #[.agg c.cells] w (IdQ w) := by
  have HL := Lib.hid (fun W (k : Keeps (fun _ => False) w W) => light2_any c W (hc.none k) ho)
  have HQ := Lib.hid (fun W (k : Keeps (fun _ => False) w W) => rcheck_any c W (hc.none k) ho)
  have HB := Lib.hid ((Has.start w).alloc (.cells c.cells 26))
  have hz : (badOf c).1 ≠ 0 := fun e => hv (bad_zero e)
  generalize badOf c = B at *
  obtain ⟨b0, b1, b2⟩ := B
  have hb0 : (b0 == 0) = false := beq_eq_false_iff_ne.mpr hz
  have hb1 : (b0 = 0) = False := eq_false hz
  clear hc ho hv hz
  go_enter Tryz.func3, Tryz.ntmps3
  go_wp2_with fail
  refine (HL.out _ HB.out.keeps).mono ?_
  rintro e1 w1 ⟨b, rfl, _, k1⟩
  replace HB := Lib.hid (HB.out.none k1)
  clear k1
  obtain ⟨q0, q1, q2, q3⟩ := four_cells (HB.out.at 0 rfl)
  cases b with
  | false =>
    go_wp2_with fail
    refine (al34 HB.out.keeps).mono ?_
    rintro e2 w2 ⟨rfl, k2⟩
    have HK := Lib.hid k2
    clear k2
    go_wp2_with fail
    go_ret
    exact ⟨rfl, HK.out⟩
  | true =>
    go_wp2_with fail
    refine (HQ.out _ HB.out.keeps).mono ?_
    rintro e2 w2 ⟨rfl, k2⟩
    replace HB := Lib.hid (HB.out.none k2)
    clear k2 q0 q1 q2 q3
    go_wp2_with fail
    refine (al34 HB.out.keeps).mono ?_
    rintro e3 w3 ⟨rfl, k3⟩
    have HK := Lib.hid k3
    clear k3
    go_wp2_with fail
    go_ret
    exact ⟨rfl, HK.out⟩
theorem own_zero {w : World} {B size : Nat} {e : TypeId} {v : Value} {xs : List Value} (h : w.ownsRow B e size v 0 xs) : ∃ a c, v = .slice a 0 c := by
  rcases h.2 with ⟨rfl, _⟩ | ⟨g, cap, cur, rfl, _⟩
  · exact ⟨_, _, rfl⟩
  · exact ⟨_, _, rfl⟩
theorem Ph.over {w0 W : World} {b : Nat} {p : DrP} {c : CfD} {a : ScA} {M : ScM} {P : Nat → Prop} {asks n : Nat} (h : Ph w0 W b p c a M P asks n) (hn : n = asks + 2 + p.nL) : ∃ op ad f task level, IsDr W b p 0 op ad f task level := by
  obtain ⟨op, ad, f, task, ho, h⟩ := h.st
  rcases h with ⟨h1, h2, h3, _⟩ | ⟨h1, h3, _⟩ | ⟨i, h1, h2, h3, _⟩ | ⟨h1, h3, _⟩ | ⟨h1, h3⟩
  · omega
  · omega
  · omega
  · omega
  · exact ⟨_, _, _, _, _, h3⟩
theorem idle_ln {c : CfD} (h : GoodC c) : LnOk c c.nL := fun i hi => by
  have h1 := plan_nums h
  have h2 := ln_bound (base := baseP c) (fun i hi => (h.room i hi).2) i (Nat.le_of_lt hi)
  have := h.l
  exact ⟨lnPl_right _ _ (h.room i hi).1 (h.room i hi).2.2, by omega, by omega⟩
theorem new_many {c : CfD} (h : c.nT ≤ 16) : (newM ((List.range c.nT).map c.tp)).many = c.nT := by
  unfold newM
  rw [adds_many]
  show 0 + (((List.range c.nT).map c.tp).take 16).length = c.nT
  simp; omega
set_option maxRecDepth 20000 in
set_option maxHeartbeats 8000000 in
theorem idle_good (c : CfD) (w : World) (hc : CfIn w c) (ho : c.Ok) (hv : badOf c = (0, 0, 0)) :
    Calls Tryz.prog 3 #[.agg c.cells] w (IdQ w) := by
  have HL := Lib.hid (fun W (k : Keeps (fun _ => False) w W) => light2_any c W (hc.none k) ho)
  have HQ := Lib.hid (fun W (k : Keeps (fun _ => False) w W) => rcheck_any c W (hc.none k) ho)
  have HNW := Lib.hid (fun W (k : Keeps (fun _ => False) w W) => drain_new c W (hc.none k) ho hv)
  have HB := Lib.hid ((Has.start w).alloc (.cells c.cells 26))
  have HG := Lib.hid (good_of hv)
  rw [hv] at HQ
  clear hc ho hv
  go_enter Tryz.func3, Tryz.ntmps3
  go_wp2_with fail
  refine (HL.out _ HB.out.keeps).mono ?_
  rintro e1 w1 ⟨bb, rfl, _, k1⟩
  replace HB := Lib.hid (HB.out.none k1)
  clear k1
  obtain ⟨q0, q1, q2, q3⟩ := four_cells (HB.out.at 0 rfl)
  cases bb with
  | false =>
    go_wp2_with fail
    refine (al34 HB.out.keeps).mono ?_
    rintro e2 w2 ⟨rfl, k2⟩
    have HK := Lib.hid k2
    clear k2
    go_wp2_with fail
    go_ret
    exact ⟨rfl, HK.out⟩
  | true =>
    go_wp2_with fail
    refine (HQ.out _ HB.out.keeps).mono ?_
    rintro e2 w2 ⟨rfl, k2⟩
    replace HB := Lib.hid (HB.out.none k2)
    clear k2 q0 q1 q2 q3
    obtain ⟨q0, q1, q2, q3⟩ := four_cells (HB.out.at 0 rfl)
    go_wp2_with fail
    have hcf2 := HB.out.at 0 rfl
    refine (HNW.out _ HB.out.keeps).mono ?_
    rintro e3 w3 ⟨b, p, a, rfl, hI, hS, hSC, hp, ht, hb, k3⟩
    have hfir := disp_first (newM ((List.range c.nT).map c.tp))
    have hww := new_W ((List.range c.nT).map c.tp)
    have hmany : (dispM (newM ((List.range c.nT).map c.tp))).many = c.nT := new_many HG.out.t
    generalize dispM (newM ((List.range c.nT).map c.tp)) = M at *
    have kw2 := HB.out.keeps
    replace HB := Lib.hid (HB.out.none k3)
    have HI := Lib.hid hI
    have HS := Lib.hid hS
    have HBW := Lib.hid (show w.heap.size ≤ b from Nat.le_trans kw2.size hb)
    have HSC := Lib.hid hSC
    have HBB := Lib.hid hb
    have HCL := Lib.hid (show w.heap.size < w2.heap.size from lt_of hcf2)
    have HW2 := Lib.hid (And.intro kw2.size k3.size)
    have HP := Lib.hid hp
    have HM := Lib.hid (And.intro hfir (And.intro hww hmany))
    have HT := Lib.hid ht
    have HLB := Lib.hid (show b < w3.heap.size from hI.lt)
    clear hI hS hSC hp ht hb k3 hfir hww hmany q0 q1 q2 q3 kw2 hcf2
    go_wp2_with fail
    refine (sched_any w3 b p 0 0 0 _ 0 0 HI.out).mono ?_
    rintro e4 w4 ⟨rfl, rfl⟩
    rw [HP.out]
    go_wp2_with fail
    refine (scopy_any w3 _ a M HSC.out).mono ?_
    rintro e4 w4 ⟨a', rfl, _, hv4, hs4, hr4, ht4, k4⟩
    have hSC4 := HSC.out.narrow2 (Q := fun k => w2.heap.size ≤ k ∧ (k < w3.heap.size ∨ w4.heap.size ≤ k)) k4 (fun k hk hp => ⟨hp, .inl hk⟩) fun k hk => ⟨Nat.le_trans HW2.out.2 (Nat.le_trans k4.size hk), .inr hk⟩
    have HV := Lib.hid (fun W (k : Keeps (fun k => k = b ∨ (w2.heap.size ≤ k ∧ (k < w3.heap.size ∨ w4.heap.size ≤ k))) w4 W) => show ScV W a' M from hv4.kept k (fun e => by have := hv4.blk; obtain ⟨_, hx, _⟩ := this; have := lt_of hx; have := HLB.out; rcases e with e | ⟨_, e | e⟩ <;> omega) (fun e => by have := hv4.rank.lt; have := HLB.out; rcases e with e | ⟨_, e | e⟩ <;> omega) (fun t htt e => by obtain ⟨_, hx⟩ := hv4.task t htt; have := lt_of hx; have := ht4 t htt; have := HLB.out; rcases e with e | ⟨_, e | e⟩ <;> omega))
    replace HB := Lib.hid (HB.out.none k4)
    have HI4 := Lib.hid (HI.out.at k4 fun h => h)
    have HS4 := Lib.hid (HS.out.at (k4.mono fun _ _ e => e.elim))
    have HSC4 := Lib.hid hSC4
    have HL4 := Lib.hid (show b < w4.heap.size from Nat.lt_of_lt_of_le HLB.out k4.size)
    clear hv4 hs4 hr4 ht4 k4 hSC4 HI HS HSC
    have hnT : p.nT = c.nT := HS4.out.nT
    have hnL : p.nL = c.nL := HS4.out.nL
    have hgo := HG.out
    have HC := Lib.hid (show PhC p c a M (if M.cur = -1 then 0 else 1) from ⟨HP.out, HM.out.2.1, HM.out.1, by rw [hnL]; exact idle_ln hgo, by rw [hnL]; exact hgo.l, by have := HS4.out.t; omega, by split <;> omega⟩)
    have hcur : M.cur = -1 ∨ ∃ k : Nat, M.cur = (k : Int) ∧ k < p.nT := by
      rcases HSC4.out.cin with h | ⟨h1, h2⟩
      · exact .inl h
      · rw [HM.out.2.2] at h2
        exact .inr ⟨M.cur.toNat, by omega, by omega⟩
    have HNL := Lib.hid hnL
    go_wp2_with fail
    refine (law_begin w4 b p c a M _ HI4.out HS4.out HSC4.out HP.out (by rw [hnT]; exact hgo.t) hcur).mono ?_
    rintro e5 w5 ⟨rfl, hph⟩
    generalize hasks : (if M.cur = -1 then 0 else 1) = asks at HC hph
    have HPH := Lib.hid hph
    have HAS := Lib.hid hasks
    clear hph hasks hnT hnL hgo hcur HI4 HS4 HSC4
    go_wp2_with fail
    go_loopw [5] (fun s5 wr => ∃ n : Nat, s5 = .int .i64 (n : Int) ∧ Ph w4 wr b p c a M (fun k => w2.heap.size ≤ k ∧ (k < w3.heap.size ∨ w4.heap.size ≤ k)) asks n) (fun s5 _ => asks + 3 + p.nL - (intOf s5).toNat)
    case atStart => exact ⟨0, rfl, HPH.out⟩
    case round =>
      obtain ⟨n, rfl, hph⟩ := hrel
      have hle := hph.le
      have hl31 := HC.out.l31
      have ha1 := HC.out.as1
      by_cases hov : n = asks + 2 + p.nL
      · have HN := Lib.hid hov
        have HPN := Lib.hid hph
        have d1 : decide (n ≠ asks + 2 + p.nL) = false := decide_eq_false (fun h => h hov)
        clear hph hle hl31 ha1 hov HPH
        go_wp2_with fail
        refine (on_ph HPN.out false d1).mono ?_
        rintro e6 w6 ⟨rfl, rfl⟩
        clear d1
        have HCB := Lib.hid (HPN.out.fr.at (HB.out.at 0 rfl) (fun e => by have := HCL.out; have := HBB.out; rcases e with e | ⟨e, _⟩ <;> omega))
        have HKF := Lib.hid (show Keeps (fun _ => False) w wr from HB.out.keeps.far HPN.out.fr fun j e => by have := HCL.out; have := HBB.out; rcases e with e | ⟨e, _⟩ <;> omega)
        have HVR := Lib.hid (HV.out _ HPN.out.fr)
        obtain ⟨op, ad, f, task, level, hov⟩ := HPN.out.over HN.out
        have HOV := Lib.hid hov
        have q1 : wr.cell? ⟨w.heap.size, 1, none⟩ = some (.slice c.la c.nL c.lc) := cell_of HCB.out 1
        have hnN : n = asks + 2 + c.nL := by rw [← HNL.out]; exact HN.out
        have HNN := Lib.hid hnN
        have hl31 : c.nL ≤ 31 := HG.out.l
        clear hov hnN
        go_wp2_with fail
        refine (vcurrent_any wr a' M HVR.out).mono ?_
        rintro e6 w6 ⟨rfl, rfl⟩
        have d1 : decide (n ≠ asks + 2 + p.nL) = false := decide_eq_false (fun h => h HN.out)
        by_cases hcm : M.cur = -1
        · have z1 : decide (M.cur < 0) = true := decide_eq_true (by omega)
          have ha : asks = 0 := by rw [← HAS.out, if_pos hcm]
          have z2 : wrap64 ((2 : Int) + (c.nL : Int)) = (2 : Int) + (c.nL : Int) := IntWalk.wrap64_in _ ⟨by omega, by omega⟩
          have z3 : ((n : Int) == 2 + (c.nL : Int)) = true := by rw [HNN.out, ha]; simp
          have z4 : ((n : Int) = 2 + (c.nL : Int)) = True := eq_true (by rw [HNN.out, ha]; push_cast; omega)
          clear ha hcm
          go_wp2_with fail
          refine (on_ph HPN.out false d1).mono ?_
          rintro e7 w7 ⟨rfl, rfl⟩
          go_wp2_with fail
          refine (seen_any wr b p 0 _ _ _ _ _ HOV.out).mono ?_
          rintro e8 w8 ⟨rfl, rfl⟩
          go_wp2_with fail
          refine (sched_any wr b p 0 _ _ _ _ _ HOV.out).mono ?_
          rintro e8 w8 ⟨rfl, rfl⟩
          rw [HP.out]
          go_wp2_with fail
          refine (current_any wr _ a M HPN.out.sc).mono ?_
          rintro e8 w8 ⟨rfl, rfl⟩
          go_wp2_with fail
          refine (vcurrent_any wr a' M HVR.out).mono ?_
          rintro e8 w8 ⟨rfl, rfl⟩
          go_wp2_with fail
          refine (sched_any wr b p 0 _ _ _ _ _ HOV.out).mono ?_
          rintro e8 w8 ⟨rfl, rfl⟩
          rw [HP.out]
          go_wp2_with fail
          refine (sready_any wr _ a M HPN.out.sc).mono ?_
          rintro e8 w8 ⟨v8, rfl, o8, s8, k8⟩
          have HS8 := Lib.hid (And.intro o8 (And.intro s8 k8))
          have HI8 := Lib.hid (HOV.out.at k8 fun h => h)
          have HV8 := Lib.hid (HV.out _ (HPN.out.fr.trans (k8.mono fun _ _ e => e.elim)))
          clear o8 s8 k8
          go_wp2_with fail
          refine (vready_any w8 a' M HV8.out).mono ?_
          rintro e9 w9 ⟨v9, rfl, o9, k9⟩
          have HO9 := Lib.hid (And.intro (own_keepK HS8.out.1 k9 fun _ _ h => h) o9)
          have HK9 := Lib.hid (HS8.out.2.2.trans k9)
          have HI9 := Lib.hid (HI8.out.at k9 fun h => h)
          have HS9 := Lib.hid (HS8.out.2.1.quiet k9)
          clear o9 k9 HI8 HV8
          go_wp2_with fail
          refine (same_rows w9 HO9.out.1 HO9.out.2).mono ?_
          rintro e10 w10 ⟨rfl, k10⟩
          have HK10 := Lib.hid (HK9.out.trans k10)
          have HI10 := Lib.hid (HI9.out.at k10 fun h => h)
          have HS10 := Lib.hid (HS9.out.quiet k10)
          clear k10 HI9 HS9 HO9 HK9 HS8
          go_wp2_with fail
          refine (sched_any w10 b p 0 _ _ _ _ _ HI10.out).mono ?_
          rintro e11 w11 ⟨rfl, rfl⟩
          rw [HP.out]
          go_wp2_with fail
          refine (swaits_any w10 _ a M HS10.out (by rw [HM.out.2.1]; decide)).mono ?_
          rintro e11 w11 ⟨v11, rfl, o11, s11, k11⟩
          rw [HM.out.2.1] at o11
          obtain ⟨x11, y11, rfl⟩ := own_zero o11
          have HK11 := Lib.hid (HK10.out.trans k11)
          clear o11 s11 k11
          go_wp2_with fail
          refine (al34 (HKF.out.trans HK11.out)).mono ?_
          rintro e12 w12 ⟨rfl, k12⟩
          have HK12 := Lib.hid k12
          clear k12
          go_wp2_with fail
          go_ret
          exact ⟨rfl, HK12.out⟩
        · have hci := HPN.out.sc.cin
          have z1 : decide (M.cur < 0) = false := decide_eq_false (by omega)
          have ha : asks = 1 := by rw [← HAS.out, if_neg hcm]
          have z2 : wrap64 ((3 : Int) + (c.nL : Int)) = (3 : Int) + (c.nL : Int) := IntWalk.wrap64_in _ ⟨by omega, by omega⟩
          have z3 : ((n : Int) == 3 + (c.nL : Int)) = true := by rw [HNN.out, ha]; simp
          have z4 : ((n : Int) = 3 + (c.nL : Int)) = True := eq_true (by rw [HNN.out, ha]; push_cast; omega)
          clear ha hcm hci
          go_wp2_with fail
          refine (on_ph HPN.out false d1).mono ?_
          rintro e7 w7 ⟨rfl, rfl⟩
          go_wp2_with fail
          refine (seen_any wr b p 0 _ _ _ _ _ HOV.out).mono ?_
          rintro e8 w8 ⟨rfl, rfl⟩
          go_wp2_with fail
          refine (sched_any wr b p 0 _ _ _ _ _ HOV.out).mono ?_
          rintro e8 w8 ⟨rfl, rfl⟩
          rw [HP.out]
          go_wp2_with fail
          refine (current_any wr _ a M HPN.out.sc).mono ?_
          rintro e8 w8 ⟨rfl, rfl⟩
          go_wp2_with fail
          refine (vcurrent_any wr a' M HVR.out).mono ?_
          rintro e8 w8 ⟨rfl, rfl⟩
          go_wp2_with fail
          refine (sched_any wr b p 0 _ _ _ _ _ HOV.out).mono ?_
          rintro e8 w8 ⟨rfl, rfl⟩
          rw [HP.out]
          go_wp2_with fail
          refine (sready_any wr _ a M HPN.out.sc).mono ?_
          rintro e8 w8 ⟨v8, rfl, o8, s8, k8⟩
          have HS8 := Lib.hid (And.intro o8 (And.intro s8 k8))
          have HI8 := Lib.hid (HOV.out.at k8 fun h => h)
          have HV8 := Lib.hid (HV.out _ (HPN.out.fr.trans (k8.mono fun _ _ e => e.elim)))
          clear o8 s8 k8
          go_wp2_with fail
          refine (vready_any w8 a' M HV8.out).mono ?_
          rintro e9 w9 ⟨v9, rfl, o9, k9⟩
          have HO9 := Lib.hid (And.intro (own_keepK HS8.out.1 k9 fun _ _ h => h) o9)
          have HK9 := Lib.hid (HS8.out.2.2.trans k9)
          have HI9 := Lib.hid (HI8.out.at k9 fun h => h)
          have HS9 := Lib.hid (HS8.out.2.1.quiet k9)
          clear o9 k9 HI8 HV8
          go_wp2_with fail
          refine (same_rows w9 HO9.out.1 HO9.out.2).mono ?_
          rintro e10 w10 ⟨rfl, k10⟩
          have HK10 := Lib.hid (HK9.out.trans k10)
          have HI10 := Lib.hid (HI9.out.at k10 fun h => h)
          have HS10 := Lib.hid (HS9.out.quiet k10)
          clear k10 HI9 HS9 HO9 HK9 HS8
          go_wp2_with fail
          refine (sched_any w10 b p 0 _ _ _ _ _ HI10.out).mono ?_
          rintro e11 w11 ⟨rfl, rfl⟩
          rw [HP.out]
          go_wp2_with fail
          refine (swaits_any w10 _ a M HS10.out (by rw [HM.out.2.1]; decide)).mono ?_
          rintro e11 w11 ⟨v11, rfl, o11, s11, k11⟩
          rw [HM.out.2.1] at o11
          obtain ⟨x11, y11, rfl⟩ := own_zero o11
          have HK11 := Lib.hid (HK10.out.trans k11)
          clear o11 s11 k11
          go_wp2_with fail
          refine (al34 (HKF.out.trans HK11.out)).mono ?_
          rintro e12 w12 ⟨rfl, k12⟩
          have HK12 := Lib.hid k12
          clear k12
          go_wp2_with fail
          go_ret
          exact ⟨rfl, HK12.out⟩
      · have HPN := Lib.hid hph
        have HOV := Lib.hid hov
        have HLE := Lib.hid hle
        have d1 : decide (n ≠ asks + 2 + p.nL) = true := decide_eq_true hov
        have d2 : decide ((n : Int) < 100) = true := decide_eq_true (by omega)
        have d3 : decide (n < 100) = true := decide_eq_true (by omega)
        have y1 : wrap64 ((n : Int) + 1) = (n : Int) + 1 := IntWalk.wrap64_in _ ⟨by omega, by omega⟩
        clear hph hle hl31 ha1 hov HPH
        go_wp2_with fail
        refine (on_ph HPN.out true d1).mono ?_
        rintro e6 w6 ⟨rfl, rfl⟩
        go_wp2_with fail
        refine (act_ph HPN.out HOV.out).mono ?_
        rintro e7 w7 ⟨⟨op, ad, hop, rfl⟩, hp7, k7⟩
        have HP7 := Lib.hid (hp7.quiet ((Keeps.refl (fun _ => False) w7).alloc (.cells #[.int .i64 op, .int .i64 ad, .int .u32 0] 45)))
        clear hp7 k7
        rcases hop with rfl | rfl
        · go_wp2_with fail
          refine (take_ph HC.out HP7.out HOV.out).mono ?_
          rintro e8 w8 ⟨rfl, hp8, _⟩
          have HP8 := Lib.hid hp8
          clear hp8
          go_wp2_with fail
          go_roundw
          case rel => exact ⟨n + 1, by rw [y1]; rfl, HP8.out⟩
          case measure => exact meas_id y1 HLE.out HOV.out
        · go_wp2_with fail
          refine (take_ph HC.out HP7.out HOV.out).mono ?_
          rintro e8 w8 ⟨rfl, hp8, _⟩
          have HP8 := Lib.hid hp8
          clear hp8
          go_wp2_with fail
          go_roundw
          case rel => exact ⟨n + 1, by rw [y1]; rfl, HP8.out⟩
          case measure => exact meas_id y1 HLE.out HOV.out
end Go.Proofs.YthnmlklgbggmbaaGreat
namespace Go.Proofs.YthnmlklgbggmbaaGreat
open Go.ChangeShapes Go.WideShapes Go.ChangeAt Go.RowKit
set_option linter.unusedVariables false
set_option linter.unusedSimpArgs false
set_option maxRecDepth 100000
theorem drainIdle_walk {H : Type} {enc : TypeId × Value → H} (W : World) (base : Nat) {v0 : Value} {d0 : DataW H} {p0 : List MemPlace}
    (k0 : Value.okWide Tryz.prog W .any base 26 v0) (h0 : DataW.Trod enc Tryz.prog W 0 (fun _ => true) true 26 v0 d0 p0) :
    Calls Tryz.prog 3 #[v0] W fun e w' => e = .returned (.bool true) ∧ Below W.heap.size W w' := by
  obtain ⟨cs0, rfl, _⟩ := okWide_struct Tryz.underlying26 k0
  obtain ⟨c, e0, hc, ho, hu⟩ := cfg_of2 (reads_of h0)
  obtain rfl : cs0 = c.cells := by
    have : cs0.toList = c.cells.toList := by simpa [Value.cells] using e0
    exact Array.toList_inj.1 this
  have fin : ∀ e w', IdQ W e w' → e = .returned (.bool true) ∧ Below W.heap.size W w' := fun e w' h => ⟨h.1, h.2.none⟩
  by_cases hv : badOf c = (0, 0, 0)
  · exact (idle_good c W hc ho hv).mono fin
  · exact (idle_bad c W hc ho hv).mono fin
end Go.Proofs.YthnmlklgbggmbaaGreat
