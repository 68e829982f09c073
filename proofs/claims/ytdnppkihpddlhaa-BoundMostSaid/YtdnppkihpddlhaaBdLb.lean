import Derived.Test.YtdnppkihpddlhaaBdLa
namespace Go.Proofs.Ytdnppkihpddlhaa
open Go.ChangeShapes Go.WideShapes Go.ChangeAt Go.RowKit
set_option linter.unusedVariables false
set_option linter.unusedSimpArgs false
set_option maxRecDepth 100000
set_option maxHeartbeats 8000000 in
theorem most_false (o oi : Nat → Int) (k : Int) (w : World) (hb : -9223372036854775808 ≤ o 1 ∧ o 1 ≤ 9223372036854775807) (hr : rightS o = false) :
    Calls Try.prog 4 #[.agg (objC o oi), .int .i64 k] w fun e w' => e = .returned (.bool true) ∧ Keeps (fun _ => False) w w' := by
  have HR := Lib.hid (fun W => right_any o oi W hb)
  have HRR := Lib.hid hr
  have HRB := Lib.hid hb
  obtain ⟨W1, hW1⟩ : ∃ W, W = w.alloc (.cells (objC o oi) 26) := ⟨_, rfl⟩
  have h1 := (Has.start w).alloc (.cells (objC o oi) 26)
  rw [← hW1] at h1
  have HB := Lib.hid h1
  have HW := Lib.hid hW1
  clear h1 hW1 hr hb
  go_enter Try.func4, Try.ntmps4
  go_wp2_with (first
    | (refine Great.wpList_boxTo rfl 26 (.tmp 0) rfl (some 2) rfl w.heap.size rfl (objC o oi) rfl ?_; rw [← HW.out])
    | (refine wpList_load_row rfl 26 (.tmp 2) rfl w.heap.size rfl 26 (objC o oi) (0, 0) _ (HB.out.at 0 rfl) Try.underlying26 rfl object_info ?_))
  refine (HR.out _).mono ?_
  rintro e w1 ⟨rfl, k1⟩
  rw [HRR.out]
  have HB1 := Lib.hid (HB.out.none k1)
  clear k1
  go_wp2_with fail
  refine (alive17_any _).mono ?_
  rintro e w2 ⟨rfl, k2⟩
  have HB2 := Lib.hid (HB1.out.none k2)
  clear k2
  go_wp2_with fail
  go_ret
  exact ⟨rfl, HB2.out.keeps⟩
set_option maxHeartbeats 8000000 in
theorem most_any (o oi : Nat → Int) (k : Int) (w : World) (hb : -9223372036854775808 ≤ o 1 ∧ o 1 ≤ 9223372036854775807) (hr : rightS o = true) (hk : k = 16) :
    Calls Try.prog 4 #[.agg (objC o oi), .int .i64 k] w fun e w' => e = .returned (.bool true) ∧ Keeps (fun _ => False) w w' := by
  have HR := Lib.hid (fun W => right_any o oi W hb)
  have HRR := Lib.hid hr
  have HRB := Lib.hid hb
  have e16 : (k == 16) = true := by rw [hk]; rfl
  clear hk
  obtain ⟨W1, hW1⟩ : ∃ W, W = w.alloc (.cells (objC o oi) 26) := ⟨_, rfl⟩
  have h1 := (Has.start w).alloc (.cells (objC o oi) 26)
  rw [← hW1] at h1
  have HB := Lib.hid h1
  have HW := Lib.hid hW1
  clear h1 hW1 hr hb
  go_enter Try.func4, Try.ntmps4
  go_wp2_with (first
    | (refine Great.wpList_boxTo rfl 26 (.tmp 0) rfl (some 2) rfl w.heap.size rfl (objC o oi) rfl ?_; rw [← HW.out])
    | (refine wpList_load_row rfl 26 (.tmp 2) rfl w.heap.size rfl 26 (objC o oi) (0, 0) _ (HB.out.at 0 rfl) Try.underlying26 rfl object_info ?_))
  refine (HR.out _).mono ?_
  rintro e w1 ⟨rfl, k1⟩
  rw [HRR.out]
  have HB1 := Lib.hid (HB.out.none k1)
  clear k1
  go_wp2_with fail
  refine (alive17_any _).mono ?_
  rintro e w2 ⟨rfl, k2⟩
  have HB2 := Lib.hid (HB1.out.none k2)
  clear k2
  go_wp2_with fail
  go_ret
  exact ⟨rfl, HB2.out.keeps⟩
theorem again_w {o : Nat → Int} {k : Int} (h : rightS o = true) : k = 6 → 0 < actsP k (plO o) → 1 ≤ o 2 ∧ o 2 ≤ 4 := by
  intro hk h0
  have hn := right_nums h
  refine hn.2.2.2.2.2 ?_
  intro h4
  have e0 : plO o 0 = o 0 := rfl
  unfold actsP at h0
  rw [e0, h4, hk] at h0
  simp [flagA] at h0
set_option maxHeartbeats 8000000 in
theorem most_true (o oi : Nat → Int) (k : Int) (w : World) (hb : -9223372036854775808 ≤ o 1 ∧ o 1 ≤ 9223372036854775807) (hr : rightS o = true) (hk : k ≠ 16) :
    Calls Try.prog 4 #[.agg (objC o oi), .int .i64 k] w fun e w' => e = .returned (.bool true) ∧ Keeps (fun _ => False) w w' := by
  have HR := Lib.hid (fun W => right_any o oi W hb)
  have HRR := Lib.hid hr
  have HRB := Lib.hid hb
  have e16 : (k == 16) = false := by rw [beq_eq_false_iff_ne]; exact hk
  clear hk
  obtain ⟨W1, hW1⟩ : ∃ W, W = w.alloc (.cells (objC o oi) 26) := ⟨_, rfl⟩
  have h1 := (Has.start w).alloc (.cells (objC o oi) 26)
  rw [← hW1] at h1
  have HB := Lib.hid h1
  have HW := Lib.hid hW1
  clear h1 hW1 hr hb
  go_enter Try.func4, Try.ntmps4
  go_wp2_with (first
    | (refine Great.wpList_boxTo rfl 26 (.tmp 0) rfl (some 2) rfl w.heap.size rfl (objC o oi) rfl ?_; rw [← HW.out])
    | (refine wpList_load_row rfl 26 (.tmp 2) rfl w.heap.size rfl 26 (objC o oi) (0, 0) _ (HB.out.at 0 rfl) Try.underlying26 rfl object_info ?_))
  refine (HR.out _).mono ?_
  rintro e w1 ⟨rfl, k1⟩
  rw [HRR.out]
  have h1 := HB.out.none k1
  clear k1
  obtain ⟨W2, hW2⟩ : ∃ W, W = w1.alloc (.cells (objC o oi) 26) := ⟨_, rfl⟩
  have h2 := h1.alloc (.cells (objC o oi) 26)
  rw [← hW2] at h2
  have HB1 := Lib.hid h1
  have HB2 := Lib.hid h2
  have HW2 := Lib.hid hW2
  clear h1 h2 hW2
  go_wp2_with (first
    | (refine wpList_load_row rfl 26 (.tmp 2) rfl w.heap.size rfl 26 (objC o oi) (0, 0) _ (HB1.out.at 0 rfl) Try.underlying26 rfl object_info ?_)
    | (refine Great.wpList_buildSliceTo rfl 35 26 1 _ rfl w1.heap.size rfl (some 25) rfl Try.underlying35 (objC o oi) (by kernel_rfl) ?_; rw [← HW2.out]))
  refine (sof_any W2 _ 1 _ (fun _ => o) (fun _ => oi) (one_obj (HB2.out.at 0 rfl)) (by omega) (fun _ _ => HRR.out) (fun _ _ => HRB.out)).mono ?_
  rintro e w3 ⟨rfl, hp3, k3⟩
  have hpl := places_one hp3
  obtain ⟨g, hg⟩ : ∃ g, g = W2.heap.size := ⟨_, rfl⟩
  rw [← hg] at hpl
  rw [← hg]
  have HP4 := Lib.hid hpl
  have HO4 := Lib.hid (k3.at (HB2.out.at 1 rfl) fun h => h)
  have HK4 := Lib.hid (HB2.out.keeps.trans k3)
  obtain ⟨c0, c1, c2, c3, c4⟩ := five_cells hpl
  have lg := lt_of hpl
  clear hpl hp3 k3 hg
  go_wp2_with fail
  refine (acts_any k (plO o) _ (plO_ok HRR.out).r).mono ?_
  rintro e w5 ⟨rfl, k5⟩
  have HP5 := Lib.hid (k5.at HP4.out fun h => h)
  have HO5 := Lib.hid (k5.at HO4.out fun h => h)
  have HK5 := Lib.hid (HK4.out.trans k5)
  clear k5 c0 c1 c2 c3 c4 lg
  go_wp2_with fail
  refine (routine_any True k 0 zN (plO o) w5 g _ HP5.out (plO_ok HRR.out)).mono ?_
  rintro e w6 ⟨T, b, fA, fT, fR, I, D, rfl, hM, hI, hbn, k6⟩
  have HM := Lib.hid hM
  have HI := Lib.hid hI
  have HO6 := Lib.hid (k6.at HO5.out fun h => h)
  have HK6 := Lib.hid (HK5.out.trans k6)
  have HBN := Lib.hid (Nat.le_trans HK5.out.size hbn)
  have HBO := Lib.hid (show w.heap.size ≠ b from fun h => by have := lt_of HO5.out; omega)
  have q0 := fun W => iface_eql T b W
  have mA := fun W => (HM.out.mA 233 W).2
  have mT := fun W => (HM.out.mT 233 W).2
  have cA := HM.out.cA
  have cT := HM.out.cT
  have HMO := Lib.hid (acts_most k HRR.out)
  have HAP := Lib.hid (show k = 6 → 0 < actsP k (plO o) → 1 ≤ o 2 ∧ o 2 ≤ 4 from again_w HRR.out)
  clear hM hI hbn k6
  by_cases hz : actsP k (plO o) = 0
  · have ez : (actsP k (plO o) == 0) = true := by rw [hz]; rfl
    have hd : D 0 w6 := HI.out.resolve_left fun h => by have := HM.out.low 0 _ h; rw [hz] at this; omega
    have HD := Lib.hid hd
    clear hz hd
    go_wp2_with fail
    refine (HM.out.idle 0 w6 HD.out).mono ?_
    rintro e wa ⟨⟨o1, o2, o3, rfl⟩, ka⟩
    have HKX := Lib.hid (HK6.out.trans (ka.alloc (.cells #[.int .i64 o1, .int .i64 o2, .int .u32 o3] 43)))
    clear ka
    go_wp2_with fail
    refine (alive17_any _).mono ?_
    rintro e wz ⟨rfl, kz⟩
    have HKZ := Lib.hid (HKX.out.trans kz)
    clear kz
    go_wp2_with fail
    go_ret
    exact ⟨rfl, HKZ.out⟩
  · have ez : (actsP k (plO o) == 0) = false := by rw [beq_eq_false_iff_ne]; exact hz
    have HZ := Lib.hid hz
    clear hz
    go_wp2_with fail
    go_loopw [11] (fun i wr => ∃ n : Nat, n ≤ 54 ∧ i = .int .i64 (n : Int) ∧ (I n wr ∨ D n wr) ∧ wr.heap[w.heap.size]? = some (.cells (objC o oi) 26 (0, 0)) ∧ Keeps (fun _ => False) w wr) (fun i _ => 101 - (intOf i).toNat)
    case atStart => exact ⟨0, by omega, rfl, HI.out, HO6.out, HK6.out⟩
    case round =>
      clear HI HK6 HO6
      obtain ⟨n, hn, rfl, hid, hobj, hkeep⟩ := hrel
      have dn : decide ((n : Int) < 100) = true := decide_eq_true (by omega)
      rcases hid with hi | hd
      · have HN1 := Lib.hid (show n + 1 ≤ 54 from by have := HM.out.low n wr hi; have := HMO.out; omega)
        have HPO := Lib.hid (show 0 < actsP k (plO o) from by have := HM.out.low n wr hi; omega)
        have HI7 := Lib.hid hi
        have HKE := Lib.hid hkeep
        have HOB := Lib.hid hobj
        clear hi hkeep hobj
        go_wp2_with fail
        refine (HM.out.acts n wr HI7.out).mono ?_
        rintro e wa ⟨⟨o1, o2, o3, rfl⟩, ka⟩
        have kb := ka.alloc (.cells #[.int .i64 o1, .int .i64 o2, .int .u32 o3] 43)
        have HIX := Lib.hid (HM.out.own _ _ _ HI7.out kb)
        have HKX := Lib.hid (HKE.out.trans kb)
        have HOX := Lib.hid (kb.at HOB.out fun h => h)
        clear ka kb
        by_cases h2 : k = 2
        · have e2 : (k == 2) = true := by rw [h2]; rfl
          have e6 : (k == 6) = false := by rw [h2]; rfl
          by_cases h1 : n = 1
          · have e1 : ((n : Int) == 1) = true := by rw [h1]; rfl
            have HV := Lib.hid (show (1 : Int) = gotP k (plO o 3) n from by unfold gotP; rw [if_pos ⟨h2, h1⟩])
            clear h1 h2
            go_wp2_with fail
            go_quiet (fail)
            all_goals go_wp2_with fail
            have kd := (Keeps.refl (fun _ => False) (wa.alloc (.cells #[.int .i64 o1, .int .i64 o2, .int .u32 o3] 43))).drewN nq
            refine (HM.out.take n _ 1 (HM.out.own _ _ _ HIX.out kd) (fun _ => HV.out)).mono ?_
            rintro e wt ⟨rfl, hIt, kt⟩
            have HIT := Lib.hid hIt
            have HOT := Lib.hid (kt.at (kd.at HOX.out fun h => h) HBO.out)
            have HKT := Lib.hid ((HKX.out.trans kd).own kt (by intro X hX; have h' : X = b := hX; rw [h']; exact .inr HBN.out))
            clear hIt kt kd
            go_wp2_with fail
            go_roundw
            case rel => exact ⟨n + 1, HN1.out, by go_num, HIT.out, HOT.out, HKT.out⟩
            case measure => simp [intOf]; have := HN1.out; omega
          · have e1 : ((n : Int) == 1) = false := by rw [beq_eq_false_iff_ne]; omega
            have HV := Lib.hid (show (0 : Int) = gotP k (plO o 3) n from by unfold gotP; rw [if_neg (by omega), if_neg (by omega)])
            clear h1 h2
            go_wp2_with fail
            go_quiet (fail)
            all_goals go_wp2_with fail
            have kd := (Keeps.refl (fun _ => False) (wa.alloc (.cells #[.int .i64 o1, .int .i64 o2, .int .u32 o3] 43))).drewN nq
            refine (HM.out.take n _ 0 (HM.out.own _ _ _ HIX.out kd) (fun _ => HV.out)).mono ?_
            rintro e wt ⟨rfl, hIt, kt⟩
            have HIT := Lib.hid hIt
            have HOT := Lib.hid (kt.at (kd.at HOX.out fun h => h) HBO.out)
            have HKT := Lib.hid ((HKX.out.trans kd).own kt (by intro X hX; have h' : X = b := hX; rw [h']; exact .inr HBN.out))
            clear hIt kt kd
            go_wp2_with fail
            go_roundw
            case rel => exact ⟨n + 1, HN1.out, by go_num, HIT.out, HOT.out, HKT.out⟩
            case measure => simp [intOf]; have := HN1.out; omega
        · have e2 : (k == 2) = false := by rw [beq_eq_false_iff_ne]; exact h2
          by_cases h6 : k = 6
          · have e6 : (k == 6) = true := by rw [h6]; rfl
            have hw := HAP.out h6 HPO.out
            have HV0 := Lib.hid h6
            obtain ⟨u0, u1, u2, u3, u4, u5, u6, u7, u8, u9⟩ := ten_cells HOX.out
            have lu := lt_of HOX.out
            have x2 : wrap64 (o 2 + 2) = o 2 + 2 := IntWalk.wrap64_in _ ⟨by omega, by omega⟩
            have x1 : wrap64 (o 2 + 1) = o 2 + 1 := IntWalk.wrap64_in _ ⟨by omega, by omega⟩
            have z2 : (o 2 + 2 == 0) = false := by rw [beq_eq_false_iff_ne]; omega
            have z3 : ¬ (o 2 + 2 = 0) := by omega
            have hw1 := hw.1
            have hw2 := hw.2
            have HX := Lib.hid hw
            clear h2 h6 hw
            go_wp2_with fail
            go_quiet (fail)
            all_goals
              by_cases hq : (n : Int) % (o 2 + 2) = o 2 + 1
              · have eq : ((n : Int) % (o 2 + 2) == o 2 + 1) = true := by rw [hq]; exact beq_self_eq_true _
                have HV := Lib.hid (show (2 : Int) = gotP k (plO o 3) n from by unfold gotP; rw [if_neg (fun h => by have := HV0.out; omega), if_pos ⟨HV0.out, hq⟩])
                clear hq
                go_wp2_with fail
                have kd := (Keeps.refl (fun _ => False) (wa.alloc (.cells #[.int .i64 o1, .int .i64 o2, .int .u32 o3] 43))).drewN nq
                refine (HM.out.take n _ 2 (HM.out.own _ _ _ HIX.out kd) (fun _ => HV.out)).mono ?_
                rintro e wt ⟨rfl, hIt, kt⟩
                have HIT := Lib.hid hIt
                have HOT := Lib.hid (kt.at (kd.at HOX.out fun h => h) HBO.out)
                have HKT := Lib.hid ((HKX.out.trans kd).own kt (by intro X hX; have h' : X = b := hX; rw [h']; exact .inr HBN.out))
                clear hIt kt kd
                go_wp2_with fail
                go_roundw
                case rel => exact ⟨n + 1, HN1.out, by go_num, HIT.out, HOT.out, HKT.out⟩
                case measure => simp [intOf]; have := HN1.out; omega
              · have eq : ((n : Int) % (o 2 + 2) == o 2 + 1) = false := by rw [beq_eq_false_iff_ne]; exact hq
                have HV := Lib.hid (show (0 : Int) = gotP k (plO o 3) n from by unfold gotP; rw [if_neg (fun h => by have := HV0.out; omega), if_neg (fun h => hq h.2)])
                clear hq
                go_wp2_with fail
                have kd := (Keeps.refl (fun _ => False) (wa.alloc (.cells #[.int .i64 o1, .int .i64 o2, .int .u32 o3] 43))).drewN nq
                refine (HM.out.take n _ 0 (HM.out.own _ _ _ HIX.out kd) (fun _ => HV.out)).mono ?_
                rintro e wt ⟨rfl, hIt, kt⟩
                have HIT := Lib.hid hIt
                have HOT := Lib.hid (kt.at (kd.at HOX.out fun h => h) HBO.out)
                have HKT := Lib.hid ((HKX.out.trans kd).own kt (by intro X hX; have h' : X = b := hX; rw [h']; exact .inr HBN.out))
                clear hIt kt kd
                go_wp2_with fail
                go_roundw
                case rel => exact ⟨n + 1, HN1.out, by go_num, HIT.out, HOT.out, HKT.out⟩
                case measure => simp [intOf]; have := HN1.out; omega
          · have e6 : (k == 6) = false := by rw [beq_eq_false_iff_ne]; exact h6
            have HV := Lib.hid (show (0 : Int) = gotP k (plO o 3) n from by unfold gotP; rw [if_neg (fun h => h2 h.1), if_neg (fun h => h6 h.1)])
            clear h2 h6
            go_wp2_with fail
            go_quiet (fail)
            all_goals go_wp2_with fail
            have kd := (Keeps.refl (fun _ => False) (wa.alloc (.cells #[.int .i64 o1, .int .i64 o2, .int .u32 o3] 43))).drewN nq
            refine (HM.out.take n _ 0 (HM.out.own _ _ _ HIX.out kd) (fun _ => HV.out)).mono ?_
            rintro e wt ⟨rfl, hIt, kt⟩
            have HIT := Lib.hid hIt
            have HOT := Lib.hid (kt.at (kd.at HOX.out fun h => h) HBO.out)
            have HKT := Lib.hid ((HKX.out.trans kd).own kt (by intro X hX; have h' : X = b := hX; rw [h']; exact .inr HBN.out))
            clear hIt kt kd
            go_wp2_with fail
            go_roundw
            case rel => exact ⟨n + 1, HN1.out, by go_num, HIT.out, HOT.out, HKT.out⟩
            case measure => simp [intOf]; have := HN1.out; omega
      · have HD7 := Lib.hid hd
        have HKE := Lib.hid hkeep
        have HMO2 := Lib.hid ((HM.out.fin n wr hd).2 trivial)
        clear hd hkeep hobj
        go_wp2_with fail
        refine (HM.out.idle n wr HD7.out).mono ?_
        rintro e wa ⟨⟨o1, o2, o3, rfl⟩, ka⟩
        have kb := ka.alloc (.cells #[.int .i64 o1, .int .i64 o2, .int .u32 o3] 43)
        have HKX := Lib.hid (HKE.out.trans kb)
        have en : ((n : Int) == actsP k (plO o)) = true := by rw [HMO2.out]; exact beq_self_eq_true _
        clear ka kb
        go_wp2_with fail
        refine (alive17_any _).mono ?_
        rintro e wz ⟨rfl, kz⟩
        have HKZ := Lib.hid (HKX.out.trans kz)
        clear kz
        go_wp2_with fail
        go_ret
        exact ⟨rfl, HKZ.out⟩
end Go.Proofs.Ytdnppkihpddlhaa
