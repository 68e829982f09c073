import Derived.Test.YtdhfppflhmoejacConfQ
import Derived.Deep.RegionLaw
namespace Go.Proofs.Ytdhfppflhmoejac
open Go.ChangeShapes Go.WideShapes Go.ChangeAt Go.RowKit
set_option linter.unusedVariables false
set_option linter.unusedSimpArgs false
theorem dOf_ok (c : CfD) (a : Option Addr) (cap : Nat) (tp : Nat → Int) (nO : Nat) (hn : nO ≤ c.nO) (ho : c.Ok) : (dOf c a cap tp nO).Ok := ⟨ho.t, ho.l, Nat.le_trans hn ho.o, ho.tick, ho.lr, fun i hi => ho.ob i (Nat.lt_of_lt_of_le hi hn)⟩
set_option maxHeartbeats 4000000 in
theorem first29_any (c : CfD) (prio : Int) (w : World) (hc : CfIn w c) (ho : c.Ok) (hoc : c.nO ≤ c.oc) :
    Calls Try.prog 4 #[.agg c.cells, .int .i64 prio] w fun e w' => e = .returned (.bool true) ∧ Keeps (fun _ => False) w w' := by
  have HB := Lib.hid ((Has.start w).alloc (.cells c.cells 46))
  have HLW := Lib.hid (fun w' (kk : Keeps (fun _ => False) w w') => light_any c w' (hc.none kk) ho)
  have HCC := Lib.hid (And.intro hc ho)
  have HOC := Lib.hid hoc
  have HCK := Lib.hid (fun w' (kk : Keeps (fun _ => False) w w') => check_any c w' (hc.none kk) ho)
  have HD := Lib.hid (fun (D : Nat) a cap tp nO w' (h : EB w w' c D a cap tp nO) (hn : nO ≤ c.nO) => check_any (dOf c a cap tp nO) w' (h.cin hc hn) (dOf_ok c a cap tp nO hn ho))
  clear hoc
  obtain ⟨i0, hi0, hz0, hz1, hz2⟩ := info_parts Try.infoT
  clear hc ho
  go_enter Try.func4, Try.ntmps4
  go_wp2_with fail
  refine (HLW.out _ HB.out.keeps).mono ?_
  rintro e w2 ⟨b, rfl, hb20, k2⟩
  replace HB := Lib.hid (HB.out.none k2)
  clear k2
  cases b
  · go_wp2_with fail
    refine (alive29_any _).mono ?_
    rintro e w3 ⟨rfl, k3⟩
    go_wp2
    go_ret
    exact ⟨rfl, HB.out.keeps.trans k3⟩
  have h20 := hb20 rfl
  clear hb20
  obtain ⟨e0, e1, e2, e3⟩ := four_cells (HB.out.at 0 rfl)
  have le := lt_of (HB.out.at 0 rfl)
  go_wp2_with fail
  have HL0 := Lib.hid (show LB w (w2.alloc (.cells #[.slice none 0 0, .slice c.la c.nL c.lc, .slice c.oa c.nO c.oc, .int .i64 c.tick] 46)) c w2.heap.size (.slice none 0 0) 0 from
    ⟨HB.out.keeps.alloc _, heap_old (HB.out.at 0 rfl) _, heap_new w2 _, le, World.ownsRow_nil _ _ _ _⟩)
  clear e0 e1 e2 e3 le HB
  generalize w2.heap.size = D at HL0 ⊢
  replace HD := Lib.hid (HD.out D)
  go_loopw [6] (fun i wr => ∃ (j : Nat) (v : Value), j ≤ c.nT ∧ i = .int .i64 j ∧ LB w wr c D v j) (fun i _ => c.nT - (intOf i).toNat)
  case atStart => exact ⟨0, _, by omega, rfl, HL0.out⟩
  case round =>
    obtain ⟨j, v, hj, rfl, hB⟩ := hrel
    have HB := Lib.hid hB
    clear hB
    obtain ⟨e0, e1, e2, e3⟩ := four_cells HB.out.cb
    obtain ⟨d0, d1, d2, d3⟩ := four_cells HB.out.db
    have lc := lt_of HB.out.cb
    have ld := lt_of HB.out.db
    by_cases hlt : j < c.nT
    · obtain ⟨bb, off, hta, hbl, hrow⟩ := (HCC.out.1.none HB.out.keeps).t (by omega)
      have c0 := (hrow j hlt).1
      have hlim := HCC.out.2.t
      unfold maxLen at hlim
      rw [hta] at e0
      clear hrow hta
      have fd := free_of HB.out.db 0
      have HLE := Lib.hid (show w.heap.size ≤ (wr.alloc (.cells #[.int .i64 (c.tp j), .bool false, .slice none 0 0] 50)).heap.size from by have := HB.out.keeps.size; simp; omega)
      go_wp2_with fail
      go_region_law (refine step_append_lies _ rfl (.tmp 28) (.tmp 36) 42 rfl w.heap.size 50 i0 (.agg #[.int .i64 0, .bool false, .slice none 0 0]) 3 40 Try.underlying42 hi0 hz0 hz1 hz2 rfl (by decide) v j (flatP c.tp j) (by simp [Act.eval, Act.put]) (HB.out.own.alloc _) ⟨wr.heap.size, 0, none⟩ 1 1 [.int .i64 (c.tp j), .bool false, .slice none 0 0] (by simp [Act.eval, Act.put]) rfl (World.news_of_block (heap_new wr (.cells #[.int .i64 (c.tp j), .bool false, .slice none 0 0] 50))) (by simp [Value.oneCell']) (by decide) (by unfold maxLen; omega) (by omega) HLE.out _ rfl ?_; intro g cap w4 hown hgrow hat hlt4; have h4 := Lib.hid (HB.out.more hgrow hown); have s0 := cell_of h4.out.2 0; have t0 := free_of h4.out.2 0; have l0 := lt_of h4.out.2; clear hown hgrow hat hlt4)
      all_goals
        go_wp2
        go_roundw
        case rel => exact ⟨j + 1, _, by omega, by go_num, h4.out.1⟩
        case measure => simp [intOf]; omega
    · obtain rfl : j = c.nT := by omega
      obtain ⟨a, cap, rfl, hE⟩ := HB.out.fin
      replace HB := Lib.hid hE
      clear hE e0 e1 e2 e3 d0 d1 d2 d3
      obtain ⟨e0, e1, e2, e3⟩ := four_cells HB.out.cb
      obtain ⟨d0, d1, d2, d3⟩ := four_cells HB.out.db
      have lc := lt_of HB.out.cb
      have ld := lt_of HB.out.db
      have HDZ := Lib.hid (fun nO (hn : nO ≤ c.nO) (h : (badOf c).1 = 0) => badOf_zero _ (dOf_zero c a cap nO hn h))
      go_wp2_with fail
      refine (HCK.out _ HB.out.keeps).mono ?_
      rintro e w4 ⟨rfl, k4⟩
      replace HB := Lib.hid (HB.out.none k4)
      clear k4
      clear e0 e1 e2 e3 d0 d1 d2 d3 lc ld
      obtain ⟨e0, e1, e2, e3⟩ := four_cells HB.out.cb
      obtain ⟨d0, d1, d2, d3⟩ := four_cells HB.out.db
      have lc := lt_of HB.out.cb
      have ld := lt_of HB.out.db
      rcases Decidable.em ((badOf c).1 = 0) with hz | hz
      · have HZ := Lib.hid hz
        rw [badOf_zero c hz]
        clear hz
        go_wp2_with fail
        refine (HD.out a cap c.tp c.nO _ HB.out (Nat.le_refl _)).mono ?_
        rintro e w5 ⟨rfl, k5⟩
        rw [HDZ.out c.nO (Nat.le_refl _) HZ.out]
        replace HB := Lib.hid (HB.out.none k5)
        clear k5
        clear e0 e1 e2 e3 d0 d1 d2 d3 lc ld
        obtain ⟨e0, e1, e2, e3⟩ := four_cells HB.out.cb
        obtain ⟨d0, d1, d2, d3⟩ := four_cells HB.out.db
        have lc := lt_of HB.out.cb
        have ld := lt_of HB.out.db
        rcases Nat.eq_zero_or_pos c.nO with ho0 | ho0
        · have u0 : decide ((0 : Int) < (c.nO : Int)) = false := decide_eq_false (by omega)
          have u0n : decide (0 < c.nO) = false := decide_eq_false (by omega)
          have u0p : (0 < c.nO) = False := eq_false (by omega)
          have HN := Lib.hid (Nat.le_refl c.nO)
          clear ho0
          go_wp2_with fail
          refine (HD.out a cap c.tp c.nO _ HB.out (Nat.le_refl _)).mono ?_
          rintro e w6 ⟨rfl, k6⟩
          rw [HDZ.out c.nO (Nat.le_refl _) HZ.out]
          replace HB := Lib.hid (HB.out.none k6)
          clear k6
          clear e0 e1 e2 e3 d0 d1 d2 d3 lc ld
          obtain ⟨e0, e1, e2, e3⟩ := four_cells HB.out.cb
          obtain ⟨d0, d1, d2, d3⟩ := four_cells HB.out.db
          have lc := lt_of HB.out.cb
          have ld := lt_of HB.out.db
          rcases Nat.eq_zero_or_pos c.nT with hn0 | hn0
          · have t0 : decide ((0 : Int) < (c.nT : Int)) = false := decide_eq_false (by omega)
            have t0n : decide (0 < c.nT) = false := decide_eq_false (by omega)
            have t0p : (0 < c.nT) = False := eq_false (by omega)
            clear hn0
            go_wp2_with fail
            refine (alive29_any _).mono ?_
            rintro e w9 ⟨rfl, k9⟩
            replace HB := Lib.hid (HB.out.none k9)
            clear k9
            go_wp2
            go_ret
            exact ⟨rfl, HB.out.keeps⟩
          have t0 : decide ((0 : Int) < (c.nT : Int)) = true := decide_eq_true (by omega)
          have t0n : decide (0 < c.nT) = true := decide_eq_true hn0
          have t0p : (0 < c.nT) = True := eq_true hn0
          by_cases hpr : prio < 0
          · have t1 : decide (prio < 0) = true := decide_eq_true hpr
            obtain ⟨g, cs, hag, hgc, _, hcs⟩ := HB.out.row hn0
            have hsz : 0 < cs.size := by
              obtain ⟨r0, _, _⟩ := hcs 0 hn0
              rcases Nat.lt_or_ge 0 cs.size with h5 | h5
              · exact h5
              · rw [Array.getElem?_eq_none (by omega)] at r0; cases r0
            have q0 := (cell_of hgc 0).trans (by have := (hcs 0 hn0).1; simpa using this)
            have f0 := free_of hgc 0
            have lg := lt_of hgc
            subst hag
            have HP := Lib.hid (HB.out.setP hn0 g rfl prio)
            have HX := Lib.hid (HD.out (some ⟨g, 0, none⟩) cap (fun i => if i = 0 then prio else c.tp i) c.nO _ HP.out HN.out)
            have HXP := Lib.hid (dOf_prio c (some ⟨g, 0, none⟩) cap c.nO (fun i => if i = 0 then prio else c.tp i) hn0 (by show (if 0 = 0 then prio else c.tp 0) < 0 ∨ 32 ≤ (if 0 = 0 then prio else c.tp 0); rw [if_pos rfl]; omega))
            clear hgc hcs hsz
            obtain ⟨s0, s1, s2, s3⟩ := four_cells HP.out.db
            have lp := lt_of HP.out.db
            clear hpr
            go_wp2_with fail
            refine HX.out.mono ?_
            rintro e w7 ⟨rfl, k7⟩
            replace HB := Lib.hid (HP.out.none k7)
            clear k7
            have hxp := HXP.out
            clear HXP HX HP
            generalize badOf (dOf c (some ⟨g, 0, none⟩) cap (fun i => if i = 0 then prio else c.tp i) c.nO) = bx at *
            obtain ⟨x0, x1, x2⟩ := bx
            rcases hxp with hxp | hxp
            · obtain ⟨rfl, rfl, rfl⟩ : x0 = 2 ∧ x1 = 2 ∧ x2 = 0 := by simpa using hxp
              clear hxp
              replace HB := Lib.hid (HB.out.none ((Keeps.refl _ _).alloc (.cells #[.int .i64 2, .int .i64 2, .int .i64 0] 53)))
              go_wp2_with fail
              refine (alive29_any _).mono ?_
              rintro e w9 ⟨rfl, k9⟩
              replace HB := Lib.hid (HB.out.none k9)
              clear k9
              go_wp2
              go_ret
              exact ⟨rfl, HB.out.keeps⟩
            · obtain rfl : x1 = 1 := hxp
              replace HB := Lib.hid (HB.out.none ((Keeps.refl _ _).alloc (.cells #[.int .i64 x0, .int .i64 1, .int .i64 x2] 53)))
              go_wp2_with fail
              refine (alive29_any _).mono ?_
              rintro e w9 ⟨rfl, k9⟩
              replace HB := Lib.hid (HB.out.none k9)
              clear k9
              go_wp2
              go_ret
              exact ⟨rfl, HB.out.keeps⟩
          have t1 : decide (prio < 0) = false := decide_eq_false hpr
          clear hpr
          by_cases hpr : 31 < prio
          · have t2 : decide (31 < prio) = true := decide_eq_true hpr
            obtain ⟨g, cs, hag, hgc, _, hcs⟩ := HB.out.row hn0
            have hsz : 0 < cs.size := by
              obtain ⟨r0, _, _⟩ := hcs 0 hn0
              rcases Nat.lt_or_ge 0 cs.size with h5 | h5
              · exact h5
              · rw [Array.getElem?_eq_none (by omega)] at r0; cases r0
            have q0 := (cell_of hgc 0).trans (by have := (hcs 0 hn0).1; simpa using this)
            have f0 := free_of hgc 0
            have lg := lt_of hgc
            subst hag
            have HP := Lib.hid (HB.out.setP hn0 g rfl prio)
            have HX := Lib.hid (HD.out (some ⟨g, 0, none⟩) cap (fun i => if i = 0 then prio else c.tp i) c.nO _ HP.out HN.out)
            have HXP := Lib.hid (dOf_prio c (some ⟨g, 0, none⟩) cap c.nO (fun i => if i = 0 then prio else c.tp i) hn0 (by show (if 0 = 0 then prio else c.tp 0) < 0 ∨ 32 ≤ (if 0 = 0 then prio else c.tp 0); rw [if_pos rfl]; omega))
            clear hgc hcs hsz
            obtain ⟨s0, s1, s2, s3⟩ := four_cells HP.out.db
            have lp := lt_of HP.out.db
            clear hpr
            go_wp2_with fail
            refine HX.out.mono ?_
            rintro e w7 ⟨rfl, k7⟩
            replace HB := Lib.hid (HP.out.none k7)
            clear k7
            have hxp := HXP.out
            clear HXP HX HP
            generalize badOf (dOf c (some ⟨g, 0, none⟩) cap (fun i => if i = 0 then prio else c.tp i) c.nO) = bx at *
            obtain ⟨x0, x1, x2⟩ := bx
            rcases hxp with hxp | hxp
            · obtain ⟨rfl, rfl, rfl⟩ : x0 = 2 ∧ x1 = 2 ∧ x2 = 0 := by simpa using hxp
              clear hxp
              replace HB := Lib.hid (HB.out.none ((Keeps.refl _ _).alloc (.cells #[.int .i64 2, .int .i64 2, .int .i64 0] 53)))
              go_wp2_with fail
              refine (alive29_any _).mono ?_
              rintro e w9 ⟨rfl, k9⟩
              replace HB := Lib.hid (HB.out.none k9)
              clear k9
              go_wp2
              go_ret
              exact ⟨rfl, HB.out.keeps⟩
            · obtain rfl : x1 = 1 := hxp
              replace HB := Lib.hid (HB.out.none ((Keeps.refl _ _).alloc (.cells #[.int .i64 x0, .int .i64 1, .int .i64 x2] 53)))
              go_wp2_with fail
              refine (alive29_any _).mono ?_
              rintro e w9 ⟨rfl, k9⟩
              replace HB := Lib.hid (HB.out.none k9)
              clear k9
              go_wp2
              go_ret
              exact ⟨rfl, HB.out.keeps⟩
          have t2 : decide (31 < prio) = false := decide_eq_false hpr
          clear hpr
          go_wp2_with fail
          refine (alive29_any _).mono ?_
          rintro e w9 ⟨rfl, k9⟩
          replace HB := Lib.hid (HB.out.none k9)
          clear k9
          go_wp2
          go_ret
          exact ⟨rfl, HB.out.keeps⟩
        · have u0 : decide ((0 : Int) < (c.nO : Int)) = true := decide_eq_true (by omega)
          have u0n : decide (0 < c.nO) = true := decide_eq_true ho0
          have u0p : (0 < c.nO) = True := eq_true ho0
          obtain ⟨m, hm⟩ : ∃ m, c.nO = m + 1 := ⟨c.nO - 1, by omega⟩
          have hlim := HCC.out.2.o
          unfold maxLen at hlim
          have u1 : wrap64 ((c.nO : Int) - 1) = (m : Int) := by rw [IntWalk.wrap64_in _ ⟨by omega, by omega⟩]; omega
          have u1' : IntKind.i64.wrap ((c.nO : Int) - 1) = (m : Int) := by rw [IntWalk.i64_in _ ⟨by omega, by omega⟩]; omega
          have u2 : (m : Int) ≤ (c.oc : Int) := by have := HOC.out; omega
          have u3 : m ≤ c.oc := by have := HOC.out; omega
          have HN := Lib.hid (show m ≤ c.nO by omega)
          obtain ⟨ob, off, hoa, _, _⟩ := HCC.out.1.o ho0
          have HOA := Lib.hid hoa
          have HM := Lib.hid hm
          rw [hoa] at d2
          have f2 := free_of HB.out.db 2
          have HO := Lib.hid (HB.out.setO m)
          clear hoa hm ho0 hlim
          go_wp2_with fail
          rw [← HOA.out]
          clear e0 e1 e2 e3 d0 d1 d2 d3 lc ld f2
          replace HB := HO
          clear HO
          obtain ⟨e0, e1, e2, e3⟩ := four_cells HB.out.cb
          obtain ⟨d0, d1, d2, d3⟩ := four_cells HB.out.db
          have lc := lt_of HB.out.cb
          have ld := lt_of HB.out.db
          refine (HD.out a cap c.tp m _ HB.out HN.out).mono ?_
          rintro e w6 ⟨rfl, k6⟩
          rw [HDZ.out m HN.out HZ.out]
          replace HB := Lib.hid (HB.out.none k6)
          clear k6
          clear e0 e1 e2 e3 d0 d1 d2 d3 lc ld
          obtain ⟨e0, e1, e2, e3⟩ := four_cells HB.out.cb
          obtain ⟨d0, d1, d2, d3⟩ := four_cells HB.out.db
          have lc := lt_of HB.out.cb
          have ld := lt_of HB.out.db
          rcases Nat.eq_zero_or_pos c.nT with hn0 | hn0
          · have t0 : decide ((0 : Int) < (c.nT : Int)) = false := decide_eq_false (by omega)
            have t0n : decide (0 < c.nT) = false := decide_eq_false (by omega)
            have t0p : (0 < c.nT) = False := eq_false (by omega)
            clear hn0
            go_wp2_with fail
            refine (alive29_any _).mono ?_
            rintro e w9 ⟨rfl, k9⟩
            replace HB := Lib.hid (HB.out.none k9)
            clear k9
            go_wp2
            go_ret
            exact ⟨rfl, HB.out.keeps⟩
          have t0 : decide ((0 : Int) < (c.nT : Int)) = true := decide_eq_true (by omega)
          have t0n : decide (0 < c.nT) = true := decide_eq_true hn0
          have t0p : (0 < c.nT) = True := eq_true hn0
          by_cases hpr : prio < 0
          · have t1 : decide (prio < 0) = true := decide_eq_true hpr
            obtain ⟨g, cs, hag, hgc, _, hcs⟩ := HB.out.row hn0
            have hsz : 0 < cs.size := by
              obtain ⟨r0, _, _⟩ := hcs 0 hn0
              rcases Nat.lt_or_ge 0 cs.size with h5 | h5
              · exact h5
              · rw [Array.getElem?_eq_none (by omega)] at r0; cases r0
            have q0 := (cell_of hgc 0).trans (by have := (hcs 0 hn0).1; simpa using this)
            have f0 := free_of hgc 0
            have lg := lt_of hgc
            subst hag
            have HP := Lib.hid (HB.out.setP hn0 g rfl prio)
            have HX := Lib.hid (HD.out (some ⟨g, 0, none⟩) cap (fun i => if i = 0 then prio else c.tp i) m _ HP.out HN.out)
            have HXP := Lib.hid (dOf_prio c (some ⟨g, 0, none⟩) cap m (fun i => if i = 0 then prio else c.tp i) hn0 (by show (if 0 = 0 then prio else c.tp 0) < 0 ∨ 32 ≤ (if 0 = 0 then prio else c.tp 0); rw [if_pos rfl]; omega))
            clear hgc hcs hsz
            obtain ⟨s0, s1, s2, s3⟩ := four_cells HP.out.db
            have lp := lt_of HP.out.db
            clear hpr
            go_wp2_with fail
            refine HX.out.mono ?_
            rintro e w7 ⟨rfl, k7⟩
            replace HB := Lib.hid (HP.out.none k7)
            clear k7
            have hxp := HXP.out
            clear HXP HX HP
            generalize badOf (dOf c (some ⟨g, 0, none⟩) cap (fun i => if i = 0 then prio else c.tp i) m) = bx at *
            obtain ⟨x0, x1, x2⟩ := bx
            rcases hxp with hxp | hxp
            · obtain ⟨rfl, rfl, rfl⟩ : x0 = 2 ∧ x1 = 2 ∧ x2 = 0 := by simpa using hxp
              clear hxp
              replace HB := Lib.hid (HB.out.none ((Keeps.refl _ _).alloc (.cells #[.int .i64 2, .int .i64 2, .int .i64 0] 53)))
              go_wp2_with fail
              refine (alive29_any _).mono ?_
              rintro e w9 ⟨rfl, k9⟩
              replace HB := Lib.hid (HB.out.none k9)
              clear k9
              go_wp2
              go_ret
              exact ⟨rfl, HB.out.keeps⟩
            · obtain rfl : x1 = 1 := hxp
              replace HB := Lib.hid (HB.out.none ((Keeps.refl _ _).alloc (.cells #[.int .i64 x0, .int .i64 1, .int .i64 x2] 53)))
              go_wp2_with fail
              refine (alive29_any _).mono ?_
              rintro e w9 ⟨rfl, k9⟩
              replace HB := Lib.hid (HB.out.none k9)
              clear k9
              go_wp2
              go_ret
              exact ⟨rfl, HB.out.keeps⟩
          have t1 : decide (prio < 0) = false := decide_eq_false hpr
          clear hpr
          by_cases hpr : 31 < prio
          · have t2 : decide (31 < prio) = true := decide_eq_true hpr
            obtain ⟨g, cs, hag, hgc, _, hcs⟩ := HB.out.row hn0
            have hsz : 0 < cs.size := by
              obtain ⟨r0, _, _⟩ := hcs 0 hn0
              rcases Nat.lt_or_ge 0 cs.size with h5 | h5
              · exact h5
              · rw [Array.getElem?_eq_none (by omega)] at r0; cases r0
            have q0 := (cell_of hgc 0).trans (by have := (hcs 0 hn0).1; simpa using this)
            have f0 := free_of hgc 0
            have lg := lt_of hgc
            subst hag
            have HP := Lib.hid (HB.out.setP hn0 g rfl prio)
            have HX := Lib.hid (HD.out (some ⟨g, 0, none⟩) cap (fun i => if i = 0 then prio else c.tp i) m _ HP.out HN.out)
            have HXP := Lib.hid (dOf_prio c (some ⟨g, 0, none⟩) cap m (fun i => if i = 0 then prio else c.tp i) hn0 (by show (if 0 = 0 then prio else c.tp 0) < 0 ∨ 32 ≤ (if 0 = 0 then prio else c.tp 0); rw [if_pos rfl]; omega))
            clear hgc hcs hsz
            obtain ⟨s0, s1, s2, s3⟩ := four_cells HP.out.db
            have lp := lt_of HP.out.db
            clear hpr
            go_wp2_with fail
            refine HX.out.mono ?_
            rintro e w7 ⟨rfl, k7⟩
            replace HB := Lib.hid (HP.out.none k7)
            clear k7
            have hxp := HXP.out
            clear HXP HX HP
            generalize badOf (dOf c (some ⟨g, 0, none⟩) cap (fun i => if i = 0 then prio else c.tp i) m) = bx at *
            obtain ⟨x0, x1, x2⟩ := bx
            rcases hxp with hxp | hxp
            · obtain ⟨rfl, rfl, rfl⟩ : x0 = 2 ∧ x1 = 2 ∧ x2 = 0 := by simpa using hxp
              clear hxp
              replace HB := Lib.hid (HB.out.none ((Keeps.refl _ _).alloc (.cells #[.int .i64 2, .int .i64 2, .int .i64 0] 53)))
              go_wp2_with fail
              refine (alive29_any _).mono ?_
              rintro e w9 ⟨rfl, k9⟩
              replace HB := Lib.hid (HB.out.none k9)
              clear k9
              go_wp2
              go_ret
              exact ⟨rfl, HB.out.keeps⟩
            · obtain rfl : x1 = 1 := hxp
              replace HB := Lib.hid (HB.out.none ((Keeps.refl _ _).alloc (.cells #[.int .i64 x0, .int .i64 1, .int .i64 x2] 53)))
              go_wp2_with fail
              refine (alive29_any _).mono ?_
              rintro e w9 ⟨rfl, k9⟩
              replace HB := Lib.hid (HB.out.none k9)
              clear k9
              go_wp2
              go_ret
              exact ⟨rfl, HB.out.keeps⟩
          have t2 : decide (31 < prio) = false := decide_eq_false hpr
          clear hpr
          go_wp2_with fail
          refine (alive29_any _).mono ?_
          rintro e w9 ⟨rfl, k9⟩
          replace HB := Lib.hid (HB.out.none k9)
          clear k9
          go_wp2
          go_ret
          exact ⟨rfl, HB.out.keeps⟩
      · have HN := Lib.hid (Nat.le_refl c.nO)
        generalize badOf c = bo at *
        obtain ⟨b0, b1, b2⟩ := bo
        have hb0 : (b0 == 0) = false := beq_eq_false_iff_ne.mpr hz
        clear hz HDZ
        rcases Nat.eq_zero_or_pos c.nT with hn0 | hn0
        · have t0 : decide ((0 : Int) < (c.nT : Int)) = false := decide_eq_false (by omega)
          have t0n : decide (0 < c.nT) = false := decide_eq_false (by omega)
          have t0p : (0 < c.nT) = False := eq_false (by omega)
          clear hn0
          go_wp2_with fail
          refine (alive29_any _).mono ?_
          rintro e w9 ⟨rfl, k9⟩
          replace HB := Lib.hid (HB.out.none k9)
          clear k9
          go_wp2
          go_ret
          exact ⟨rfl, HB.out.keeps⟩
        have t0 : decide ((0 : Int) < (c.nT : Int)) = true := decide_eq_true (by omega)
        have t0n : decide (0 < c.nT) = true := decide_eq_true hn0
        have t0p : (0 < c.nT) = True := eq_true hn0
        by_cases hpr : prio < 0
        · have t1 : decide (prio < 0) = true := decide_eq_true hpr
          obtain ⟨g, cs, hag, hgc, _, hcs⟩ := HB.out.row hn0
          have hsz : 0 < cs.size := by
            obtain ⟨r0, _, _⟩ := hcs 0 hn0
            rcases Nat.lt_or_ge 0 cs.size with h5 | h5
            · exact h5
            · rw [Array.getElem?_eq_none (by omega)] at r0; cases r0
          have q0 := (cell_of hgc 0).trans (by have := (hcs 0 hn0).1; simpa using this)
          have f0 := free_of hgc 0
          have lg := lt_of hgc
          subst hag
          have HP := Lib.hid (HB.out.setP hn0 g rfl prio)
          have HX := Lib.hid (HD.out (some ⟨g, 0, none⟩) cap (fun i => if i = 0 then prio else c.tp i) c.nO _ HP.out HN.out)
          have HXP := Lib.hid (dOf_prio c (some ⟨g, 0, none⟩) cap c.nO (fun i => if i = 0 then prio else c.tp i) hn0 (by show (if 0 = 0 then prio else c.tp 0) < 0 ∨ 32 ≤ (if 0 = 0 then prio else c.tp 0); rw [if_pos rfl]; omega))
          clear hgc hcs hsz
          obtain ⟨s0, s1, s2, s3⟩ := four_cells HP.out.db
          have lp := lt_of HP.out.db
          clear hpr
          go_wp2_with fail
          refine HX.out.mono ?_
          rintro e w7 ⟨rfl, k7⟩
          replace HB := Lib.hid (HP.out.none k7)
          clear k7
          have hxp := HXP.out
          clear HXP HX HP
          generalize badOf (dOf c (some ⟨g, 0, none⟩) cap (fun i => if i = 0 then prio else c.tp i) c.nO) = bx at *
          obtain ⟨x0, x1, x2⟩ := bx
          rcases hxp with hxp | hxp
          · obtain ⟨rfl, rfl, rfl⟩ : x0 = 2 ∧ x1 = 2 ∧ x2 = 0 := by simpa using hxp
            clear hxp
            replace HB := Lib.hid (HB.out.none ((Keeps.refl _ _).alloc (.cells #[.int .i64 2, .int .i64 2, .int .i64 0] 53)))
            go_wp2_with fail
            refine (alive29_any _).mono ?_
            rintro e w9 ⟨rfl, k9⟩
            replace HB := Lib.hid (HB.out.none k9)
            clear k9
            go_wp2
            go_ret
            exact ⟨rfl, HB.out.keeps⟩
          · obtain rfl : x1 = 1 := hxp
            replace HB := Lib.hid (HB.out.none ((Keeps.refl _ _).alloc (.cells #[.int .i64 x0, .int .i64 1, .int .i64 x2] 53)))
            go_wp2_with fail
            refine (alive29_any _).mono ?_
            rintro e w9 ⟨rfl, k9⟩
            replace HB := Lib.hid (HB.out.none k9)
            clear k9
            go_wp2
            go_ret
            exact ⟨rfl, HB.out.keeps⟩
        have t1 : decide (prio < 0) = false := decide_eq_false hpr
        clear hpr
        by_cases hpr : 31 < prio
        · have t2 : decide (31 < prio) = true := decide_eq_true hpr
          obtain ⟨g, cs, hag, hgc, _, hcs⟩ := HB.out.row hn0
          have hsz : 0 < cs.size := by
            obtain ⟨r0, _, _⟩ := hcs 0 hn0
            rcases Nat.lt_or_ge 0 cs.size with h5 | h5
            · exact h5
            · rw [Array.getElem?_eq_none (by omega)] at r0; cases r0
          have q0 := (cell_of hgc 0).trans (by have := (hcs 0 hn0).1; simpa using this)
          have f0 := free_of hgc 0
          have lg := lt_of hgc
          subst hag
          have HP := Lib.hid (HB.out.setP hn0 g rfl prio)
          have HX := Lib.hid (HD.out (some ⟨g, 0, none⟩) cap (fun i => if i = 0 then prio else c.tp i) c.nO _ HP.out HN.out)
          have HXP := Lib.hid (dOf_prio c (some ⟨g, 0, none⟩) cap c.nO (fun i => if i = 0 then prio else c.tp i) hn0 (by show (if 0 = 0 then prio else c.tp 0) < 0 ∨ 32 ≤ (if 0 = 0 then prio else c.tp 0); rw [if_pos rfl]; omega))
          clear hgc hcs hsz
          obtain ⟨s0, s1, s2, s3⟩ := four_cells HP.out.db
          have lp := lt_of HP.out.db
          clear hpr
          go_wp2_with fail
          refine HX.out.mono ?_
          rintro e w7 ⟨rfl, k7⟩
          replace HB := Lib.hid (HP.out.none k7)
          clear k7
          have hxp := HXP.out
          clear HXP HX HP
          generalize badOf (dOf c (some ⟨g, 0, none⟩) cap (fun i => if i = 0 then prio else c.tp i) c.nO) = bx at *
          obtain ⟨x0, x1, x2⟩ := bx
          rcases hxp with hxp | hxp
          · obtain ⟨rfl, rfl, rfl⟩ : x0 = 2 ∧ x1 = 2 ∧ x2 = 0 := by simpa using hxp
            clear hxp
            replace HB := Lib.hid (HB.out.none ((Keeps.refl _ _).alloc (.cells #[.int .i64 2, .int .i64 2, .int .i64 0] 53)))
            go_wp2_with fail
            refine (alive29_any _).mono ?_
            rintro e w9 ⟨rfl, k9⟩
            replace HB := Lib.hid (HB.out.none k9)
            clear k9
            go_wp2
            go_ret
            exact ⟨rfl, HB.out.keeps⟩
          · obtain rfl : x1 = 1 := hxp
            replace HB := Lib.hid (HB.out.none ((Keeps.refl _ _).alloc (.cells #[.int .i64 x0, .int .i64 1, .int .i64 x2] 53)))
            go_wp2_with fail
            refine (alive29_any _).mono ?_
            rintro e w9 ⟨rfl, k9⟩
            replace HB := Lib.hid (HB.out.none k9)
            clear k9
            go_wp2
            go_ret
            exact ⟨rfl, HB.out.keeps⟩
        have t2 : decide (31 < prio) = false := decide_eq_false hpr
        clear hpr
        go_wp2_with fail
        refine (alive29_any _).mono ?_
        rintro e w9 ⟨rfl, k9⟩
        replace HB := Lib.hid (HB.out.none k9)
        clear k9
        go_wp2
        go_ret
        exact ⟨rfl, HB.out.keeps⟩
end Go.Proofs.Ytdhfppflhmoejac
