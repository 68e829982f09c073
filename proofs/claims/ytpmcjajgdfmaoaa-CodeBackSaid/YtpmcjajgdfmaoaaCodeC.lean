import Derived.Test.YtpmcjajgdfmaoaaCodeB
namespace Go.Proofs.Ytpmcjajgdfmaoaa
open Go.ChangeShapes Go.WideShapes Go.ChangeAt Go.RowKit
set_option linter.unusedVariables false
set_option linter.unusedSimpArgs false
theorem valP_nil : valP [] = none := by
  unfold valP okL
  simp [dig]
set_option maxRecDepth 100000 in
set_option maxHeartbeats 1000000 in
theorem rkind_any (w : World) (l : List UInt8) (hl : l.length ≤ 9223372036854775807) :
    Calls Try.prog 8 #[.string ⟨l.toArray⟩] w fun e w' => e = .returned (.tuple #[.int .i64 (kindP l).1, .bool (kindP l).2]) ∧ Keeps (fun _ => False) w w' := by
  have HKP := Lib.hid (show kindP l = match srch l 19 0 with
    | some i => ((i : Int) + 1, true)
    | none => kindQ l from rfl)
  have hBs := str_size l
  have e1 : (ByteArray.mk l.toArray).toList = l := ByteArray.toList_mk _
  have HIX := Lib.hid (fun (w : World) x t (h : l = x :: t) => (show (Instr.index 9 (.string ⟨l.toArray⟩) (.int .i64 0)).run Try.prog w = .ok (.int .u8 (x.toNat : Int)) w by rw [h]; exact str_index w (x :: t) 0 x rfl))
  have HFR := Lib.hid (fun (w : World) x t (h : l = x :: t) => (show (Instr.slice 9 (.string ⟨l.toArray⟩) (some (.int .i64 1)) none none).run Try.prog w = .ok (.string ⟨t.toArray⟩) w by rw [h]; exact str_from w x t))
  generalize (⟨l.toArray⟩ : ByteArray) = B at e1 hBs HIX HFR ⊢
  go_enter Try.func8, Try.ntmps8
  go_wp2_with fail
  obtain ⟨wo, rfl⟩ : ∃ wo : World, wo = w := ⟨_, rfl⟩
  go_loopw [4] (fun i wr => ∃ k : Nat, k ≤ 19 ∧ i = .int .i64 ((k : Int) + 1) ∧ srch l 19 0 = srch l (19 - k) k ∧ Keeps (fun _ => False) wo wr) (fun i _ => 20 - (intOf i).toNat)
  case atStart => exact ⟨0, by omega, rfl, rfl, Keeps.refl _ _⟩
  case round =>
    obtain ⟨k, hk, rfl, hs, hkp⟩ := hrel
    rename_i wr
    have HK := Lib.hid hkp
    clear hkp
    by_cases hlt : k < 19
    · have d0 : decide ((k : Int) + 1 ≤ 19) = true := decide_eq_true (by omega)
      have HS := Lib.hid hs
      clear hs
      go_wp2_with fail
      refine (rwords_any wr).mono ?_
      rintro e0 w1 ⟨b, rfl, hkw⟩
      have c0 : w1.cell? ⟨b, k + 1, none⟩ = some (.string ⟨(kwF k).toArray⟩) := hkw.cell (k + 1) (by omega)
      have HK1 := Lib.hid (HK.out.trans hkw.keeps)
      clear hkw
      have hu : srch l (19 - k) k = if kwF k = l then some k else srch l (19 - (k + 1)) (k + 1) := by
        rw [show 19 - k = (19 - (k + 1)) + 1 by omega]; rfl
      have e2 : (ByteArray.mk (kwF k).toArray).toList = kwF k := ByteArray.toList_mk _
      by_cases hq : kwF k = l
      · rw [if_pos hq] at hu
        have g0 : (kwF k == l) = true := by rw [hq]; simp
        have HF := Lib.hid (show kindP l = ((k : Int) + 1, true) by rw [HKP.out, HS.out, hu])
        clear hu hq
        generalize (⟨(kwF k).toArray⟩ : ByteArray) = X at *
        generalize kwF k = y at *
        go_wp2_with fail
        refine bodyPost_ret (v := .tuple #[.int .i64 ((k : Int) + 1), .bool true]) (by simp [results, Try.results8, go_sem]) rfl ?_
        exact ⟨by rw [HF.out], HK1.out⟩
      · rw [if_neg hq] at hu
        have g0 : (kwF k == l) = false := by simpa using hq
        have HS2 := Lib.hid (HS.out.trans hu)
        clear hu hq
        generalize (⟨(kwF k).toArray⟩ : ByteArray) = X at *
        generalize kwF k = y at *
        go_wp2_with fail
        go_roundw
        case rel => exact ⟨k + 1, by omega, by go_num, HS2.out, HK1.out⟩
        case measure => simp [intOf]; omega
    · obtain rfl : k = 19 := by omega
      have hnone : srch l 19 0 = none := hs
      have HN := Lib.hid (And.intro hnone (show kindP l = kindQ l by rw [HKP.out, hnone]))
      clear hs hnone
      by_cases h2 : l.length < 2
      · have HF := Lib.hid (show kindP l = (0, false) by
          rw [HN.out.2]
          match l, h2 with
          | [], _ => rfl
          | [x], _ =>
            by_cases hx : x.toNat = 107
            · rw [kindQ_cons x [] hx, valP_nil]
            · exact if_neg hx)
        have d2 : decide ((l.length : Int) < 2) = true := decide_eq_true (by omega)
        clear HIX HFR
        go_wp2_with fail
        refine bodyPost_ret (v := .tuple #[.int .i64 0, .bool false]) (by simp [results, Try.results8, go_sem]) rfl ?_
        exact ⟨by rw [HF.out], HK.out⟩
      · have d2 : decide ((l.length : Int) < 2) = false := decide_eq_false (by omega)
        obtain ⟨x, t, hlx⟩ : ∃ x t, l = x :: t := by
          cases l with
          | nil => simp at h2
          | cons x t => exact ⟨x, t, rfl⟩
        have h0 := HIX.out wr x t hlx
        have h1 := HFR.out wr x t hlx
        have htl : t.length ≤ 9223372036854775807 := by have h := congrArg List.length hlx; rw [List.length_cons] at h; omega
        have HLX := Lib.hid hlx
        clear hlx h2
        by_cases hx : x.toNat = 107
        · have HQ := Lib.hid (show kindP l = match valP t with
            | none => (0, false)
            | some n => if 1 ≤ n ∧ n ≤ 19 then (0, false) else (n, true) by rw [HN.out.2, HLX.out]; exact kindQ_cons x t hx)
          rw [hx] at h0
          have HPP := Lib.hid (fun w => rparse_big w t htl (-999999999999999999) 999999999999999999)
          have HV := Lib.hid (parP_val (t := t) (a := -999999999999999999) (b := 999999999999999999) (by omega) (by omega))
          clear hx
          generalize (⟨t.toArray⟩ : ByteArray) = D at *
          generalize hpx : (parP t (-999999999999999999) 999999999999999999).1 = px at HPP
          generalize hpy : (parP t (-999999999999999999) 999999999999999999).2 = py at HPP
          have HPXY := Lib.hid (And.intro hpx hpy)
          clear hpx hpy
          cases hv : valP t with
          | none =>
            have hv0 : parP t (-999999999999999999) 999999999999999999 = (0, 3) := by rw [HV.out, hv]
            have hy : py = 3 := by rw [← HPXY.out.2, hv0]
            have HF := Lib.hid (show kindP l = (0, false) by rw [HQ.out, hv])
            subst hy
            clear hv hv0
            go_wp2_with fail
            refine (HPP.out _).mono ?_
            rintro e4 w4 ⟨rfl, hw4⟩
            have hw4' := hw4.symm
            subst hw4'
            go_wp2_with fail
            refine bodyPost_ret (v := .tuple #[.int .i64 0, .bool false]) (by simp [results, Try.results8, go_sem]) rfl ?_
            exact ⟨by rw [HF.out], HK.out⟩
          | some n =>
            have hv0 : parP t (-999999999999999999) 999999999999999999 = (n, 0) := by rw [HV.out, hv]
            have hy : py = 0 := by rw [← HPXY.out.2, hv0]
            have hn : px = n := by rw [← HPXY.out.1, hv0]
            have HF := Lib.hid (show kindP l = if 1 ≤ n ∧ n ≤ 19 then (0, false) else (n, true) by rw [HQ.out, hv])
            subst hy
            subst hn
            clear hv hv0
            by_cases hr1 : 1 ≤ px
            · have g1 : decide ((1 : Int) ≤ px) = true := decide_eq_true hr1
              by_cases hr2 : px ≤ 19
              · have g2 : decide (px ≤ 19) = true := decide_eq_true hr2
                have HF2 := Lib.hid (show kindP l = (0, false) by rw [HF.out, if_pos ⟨hr1, hr2⟩])
                clear hr1 hr2
                go_wp2_with fail
                refine (HPP.out _).mono ?_
                rintro e4 w4 ⟨rfl, hw4⟩
                have hw4' := hw4.symm
                subst hw4'
                go_wp2_with fail
                refine bodyPost_ret (v := .tuple #[.int .i64 0, .bool false]) (by simp [results, Try.results8, go_sem]) rfl ?_
                exact ⟨by rw [HF2.out], HK.out⟩
              · have g2 : decide (px ≤ 19) = false := decide_eq_false hr2
                have HF2 := Lib.hid (show kindP l = (px, true) by rw [HF.out, if_neg (fun h => hr2 h.2)])
                clear hr1 hr2
                go_wp2_with fail
                refine (HPP.out _).mono ?_
                rintro e4 w4 ⟨rfl, hw4⟩
                have hw4' := hw4.symm
                subst hw4'
                go_wp2_with fail
                refine bodyPost_ret (v := .tuple #[.int .i64 px, .bool true]) (by simp [results, Try.results8, go_sem]) rfl ?_
                exact ⟨by rw [HF2.out], HK.out⟩
            · have g1 : decide ((1 : Int) ≤ px) = false := decide_eq_false hr1
              have HF2 := Lib.hid (show kindP l = (px, true) by rw [HF.out, if_neg (fun h => hr1 h.1)])
              clear hr1
              go_wp2_with fail
              refine (HPP.out _).mono ?_
              rintro e4 w4 ⟨rfl, hw4⟩
              have hw4' := hw4.symm
              subst hw4'
              go_wp2_with fail
              refine bodyPost_ret (v := .tuple #[.int .i64 px, .bool true]) (by simp [results, Try.results8, go_sem]) rfl ?_
              exact ⟨by rw [HF2.out], HK.out⟩
        · have HF := Lib.hid (show kindP l = (0, false) by rw [HN.out.2, HLX.out]; exact if_neg hx)
          obtain ⟨xn, hxn⟩ : ∃ xn, xn = x.toNat := ⟨_, rfl⟩
          rw [← hxn] at h0 hx
          clear hxn
          have hx2 : ((xn : Int) == 107) = false := by simp; omega
          have hx3 : ((xn : Int) != 107) = true := by simp only [bne, hx2]; rfl
          clear hx
          go_wp2_with fail
          refine bodyPost_ret (v := .tuple #[.int .i64 0, .bool false]) (by simp [results, Try.results8, go_sem]) rfl ?_
          exact ⟨by rw [HF.out], HK.out⟩
end Go.Proofs.Ytpmcjajgdfmaoaa
