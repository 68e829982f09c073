import Derived.Test.YtpmcjajgdfmaoaaCodeA
namespace Go.Proofs.Ytpmcjajgdfmaoaa
open Go.ChangeShapes Go.WideShapes Go.ChangeAt Go.RowKit
set_option linter.unusedVariables false
set_option linter.unusedSimpArgs false
/-- The first of the words from k on that is l. -/
def srch (l : List UInt8) : Nat → Nat → Option Nat
  | 0, _ => none
  | f + 1, k => if kwF k = l then some k else srch l f (k + 1)
theorem srch_none {l : List UInt8} : ∀ {f k : Nat}, srch l f k = none → ∀ i, k ≤ i → i < k + f → kwF i ≠ l
  | 0, k, _, i, h1, h2 => by omega
  | f + 1, k, h, i, h1, h2 => by
    unfold srch at h
    by_cases e : kwF k = l
    · rw [if_pos e] at h; cases h
    · rw [if_neg e] at h
      by_cases q : i = k
      · rw [q]; exact e
      · exact srch_none h i (by omega) (by omega)
/-- Any other word: k and a number that is no kind's. -/
def kindQ : List UInt8 → Int × Bool
  | [] => (0, false)
  | x :: t => if x.toNat = 107 then (match valP t with
    | none => (0, false)
    | some n => if 1 ≤ n ∧ n ≤ 19 then (0, false) else (n, true)) else (0, false)
/-- The kind of a word. -/
def kindP (l : List UInt8) : Int × Bool := match srch l 19 0 with
  | some i => ((i : Int) + 1, true)
  | none => kindQ l
def hasK : List UInt8 → Bool
  | [] => false
  | x :: _ => decide (x.toNat = 107)
def dropK : List UInt8 → List UInt8
  | [] => []
  | x :: t => if x.toNat = 107 then t else x :: t
theorem dropK_len (l : List UInt8) : (dropK l).length ≤ l.length := by
  cases l with
  | nil => simp [dropK]
  | cons x t =>
    show (if x.toNat = 107 then t else x :: t).length ≤ _
    split <;> simp
theorem valP_bound {t : List UInt8} {n : Int} (h : valP t = some n) : -999999999999999999 ≤ n ∧ n ≤ 999999999999999999 ∧ prnL n = t := by
  unfold valP at h
  cases ho : okL t with
  | false => rw [ho] at h; cases h
  | true =>
    rw [ho] at h
    obtain rfl : sgn t = n := by simpa using h
    unfold okL at ho
    simp only [Bool.and_eq_true, decide_eq_true_eq, beq_iff_eq] at ho
    obtain ⟨⟨⟨h1, h2⟩, h3⟩, h4⟩ := ho
    have hv := val_max' h3 h2
    refine ⟨?_, ?_, h4⟩ <;> · unfold sgn; split <;> omega
theorem parP_val {t : List UInt8} {a b : Int} (ha : a ≤ -999999999999999999) (hb : 999999999999999999 ≤ b) : parP t a b = match valP t with
    | none => (0, 3)
    | some n => (n, 0) := by
  unfold parP
  cases h : valP t with
  | none => rfl
  | some n =>
    have := valP_bound h
    show (if n < a ∨ b < n then _ else _) = _
    rw [if_neg (by omega)]
theorem kindQ_cons (x : UInt8) (t : List UInt8) (hx : x.toNat = 107) : kindQ (x :: t) = match valP t with
    | none => (0, false)
    | some n => if 1 ≤ n ∧ n ≤ 19 then (0, false) else (n, true) := by
  show (if x.toNat = 107 then _ else _) = _
  rw [if_pos hx]
set_option maxRecDepth 20000 in
theorem prefk_any (w : World) (l : List UInt8) (hl : l.length ≤ 9223372036854775807) :
    Calls Try.prog 45 #[.string ⟨l.toArray⟩, .string { data := #[107] }] w fun e w' => e = .returned (.bool (hasK l)) ∧ w' = w := by
  cases l with
  | nil =>
    go_enter Try.func45, Try.ntmps45
    go_wp2_with fail
    go_ret
    exact ⟨rfl, rfl⟩
  | cons x t =>
    have h1 := str_to w x t
    have h2 : hasK (x :: t) = (x == (107 : UInt8)) := by
      unfold hasK
      rw [Bool.eq_iff_iff, decide_eq_true_eq]
      simp [← UInt8.toNat_inj]
    rw [h2]
    have hs := str_size (x :: t)
    rw [List.length_cons] at hs hl
    generalize (⟨(x :: t).toArray⟩ : ByteArray) = B at h1 hs ⊢
    clear h2
    go_enter Try.func45, Try.ntmps45
    go_wp2_with fail
    go_ret
    exact ⟨rfl, rfl⟩
set_option maxRecDepth 20000 in
theorem cutpfs_any (w : World) (l : List UInt8) (hl : l.length ≤ 9223372036854775807) :
    Calls Try.prog 35 #[.string ⟨l.toArray⟩, .string { data := #[107] }] w fun e w' => e = .returned (.tuple #[.string ⟨(dropK l).toArray⟩, .bool (hasK l)]) ∧ w' = w := by
  have HC := Lib.hid (prefk_any w l hl)
  by_cases hq : hasK l = true
  · obtain ⟨x, t, rfl⟩ : ∃ x t, l = x :: t := by
      cases l with
      | nil => cases hq
      | cons x t => exact ⟨x, t, rfl⟩
    have e : dropK (x :: t) = t := if_pos (of_decide_eq_true hq)
    have h1 := str_from w x t
    rw [e]
    rw [hq] at HC ⊢
    generalize (⟨(x :: t).toArray⟩ : ByteArray) = B at h1 HC ⊢
    generalize (⟨t.toArray⟩ : ByteArray) = D at h1 ⊢
    clear hq e
    go_enter Try.func35, Try.ntmps35
    go_wp2_with fail
    refine HC.out.mono ?_
    rintro e1 w1 ⟨rfl, rfl⟩
    go_wp2_with fail
    refine bodyPost_ret (v := .tuple #[.string D, .bool true]) (by simp [results, Try.results35, go_sem]) rfl ?_
    exact ⟨rfl, rfl⟩
  · have hq' : hasK l = false := by simpa using hq
    have e : dropK l = l := by
      cases l with
      | nil => rfl
      | cons x t => exact if_neg (of_decide_eq_false hq')
    rw [e]
    rw [hq'] at HC ⊢
    generalize (⟨l.toArray⟩ : ByteArray) = B at HC ⊢
    clear hq hq' e
    go_enter Try.func35, Try.ntmps35
    go_wp2_with fail
    refine HC.out.mono ?_
    rintro e1 w1 ⟨rfl, rfl⟩
    go_wp2_with fail
    refine bodyPost_ret (v := .tuple #[.string B, .bool false]) (by simp [results, Try.results35, go_sem]) rfl ?_
    exact ⟨rfl, rfl⟩
set_option maxRecDepth 20000 in
theorem cutpf_any (w : World) (l : List UInt8) (hl : l.length ≤ 9223372036854775807) :
    Calls Try.prog 20 #[.string ⟨l.toArray⟩, .string { data := #[107] }] w fun e w' => e = .returned (.tuple #[.string ⟨(dropK l).toArray⟩, .bool (hasK l)]) ∧ w' = w := by
  have HC := Lib.hid (cutpfs_any w l hl)
  generalize (⟨(dropK l).toArray⟩ : ByteArray) = D at HC ⊢
  generalize (⟨l.toArray⟩ : ByteArray) = B at HC ⊢
  generalize hasK l = b at HC ⊢
  go_enter Try.func20, Try.ntmps20
  go_wp2_with fail
  refine HC.out.mono ?_
  rintro e1 w1 ⟨rfl, rfl⟩
  go_wp2_with fail
  refine bodyPost_ret (v := .tuple #[.string D, .bool b]) (by simp [results, Try.results20, go_sem]) rfl ?_
  exact ⟨rfl, rfl⟩
set_option maxRecDepth 100000 in
set_option maxHeartbeats 1000000 in
theorem kind_any (w : World) (l : List UInt8) (hl : l.length ≤ 9223372036854775807) :
    Calls Try.prog 7 #[.string ⟨l.toArray⟩] w fun e w' => e = .returned (.tuple #[.int .i64 (kindP l).1, .bool (kindP l).2]) ∧ Keeps (fun _ => False) w w' := by
  have HKP := Lib.hid (show kindP l = match srch l 19 0 with
    | some i => ((i : Int) + 1, true)
    | none => kindQ l from rfl)
  have HCP := Lib.hid (fun w => cutpf_any w l hl)
  have HPP := Lib.hid (fun w => parse_big w (dropK l) (Nat.le_trans (dropK_len l) hl) (-9223372036854775808) 9223372036854775807 (by omega) (by omega))
  have e1 : (ByteArray.mk l.toArray).toList = l := ByteArray.toList_mk _
  generalize (⟨l.toArray⟩ : ByteArray) = B at HCP e1 ⊢
  generalize (⟨(dropK l).toArray⟩ : ByteArray) = D at HCP HPP
  go_enter Try.func7, Try.ntmps7
  go_wp2_with fail
  refine (words_any w).mono ?_
  rintro e0 w1 ⟨b, rfl, hkw⟩
  have HKW := Lib.hid hkw
  clear hkw
  go_wp2_with fail
  go_loop [12] (fun i => ∃ k : Nat, k ≤ 19 ∧ i = .int .i64 (k : Int) ∧ srch l 19 0 = srch l (19 - k) k) (fun i => 19 - (intOf i).toNat)
  case atStart => exact ⟨0, by omega, rfl, rfl⟩
  case round =>
    obtain ⟨k, hk, rfl, hs⟩ := hrel
    by_cases hlt : k < 19
    · have c0 := HKW.out.cell k hlt
      have hu : srch l (19 - k) k = if kwF k = l then some k else srch l (19 - (k + 1)) (k + 1) := by
        rw [show 19 - k = (19 - (k + 1)) + 1 by omega]; rfl
      have e2 : (ByteArray.mk (kwF k).toArray).toList = kwF k := ByteArray.toList_mk _
      by_cases hq : kwF k = l
      · rw [if_pos hq] at hu
        have g0 : (kwF k == l) = true := by rw [hq]; simp
        have HF := Lib.hid (show kindP l = ((k : Int) + 1, true) by rw [HKP.out, hs, hu])
        have HQ := Lib.hid hq
        clear hu hs hq
        generalize (⟨(kwF k).toArray⟩ : ByteArray) = X at *
        generalize kwF k = y at *
        go_wp2_with fail
        refine bodyPost_ret (v := .tuple #[.int .i64 ((k : Int) + 1), .bool true]) (by simp [results, Try.results7, go_sem]) rfl ?_
        exact ⟨by rw [HF.out], HKW.out.keeps⟩
      · rw [if_neg hq] at hu
        have g0 : (kwF k == l) = false := by simpa using hq
        have HS := Lib.hid (hs.trans hu)
        clear hu hs hq
        generalize (⟨(kwF k).toArray⟩ : ByteArray) = X at *
        generalize kwF k = y at *
        go_wp2_with fail
        go_round
        case rel => exact ⟨k + 1, by omega, by go_num, HS.out⟩
        case measure => simp [intOf]; omega
    · obtain rfl : k = 19 := by omega
      have hnone : srch l 19 0 = none := hs
      have HN := Lib.hid (And.intro hnone (show kindP l = kindQ l by rw [HKP.out, hnone]))
      clear hs hnone
      go_wp2_with fail
      refine (HCP.out _).mono ?_
      rintro e3 w3 ⟨rfl, hw3⟩
      have hw3' := hw3.symm
      subst hw3'
      generalize hpx : (parP (dropK l) (-9223372036854775808) 9223372036854775807).1 = px at HPP
      generalize hpy : (parP (dropK l) (-9223372036854775808) 9223372036854775807).2 = py at HPP
      have HPXY := Lib.hid (And.intro hpx hpy)
      clear hpx hpy
      cases l with
      | nil =>
        have HF := Lib.hid (show kindP [] = (0, false) from HN.out.2)
        have hh : hasK [] = false := rfl
        rw [hh]
        clear hh
        go_wp2_with fail
        refine (HPP.out _).mono ?_
        rintro e4 w4 ⟨rfl, k4⟩
        have HK4 := Lib.hid (HKW.out.keeps.trans k4)
        clear k4
        go_wp2_with fail
        refine bodyPost_ret (v := .tuple #[.int .i64 0, .bool false]) (by simp [results, Try.results7, go_sem]) rfl ?_
        exact ⟨by rw [HF.out], HK4.out⟩
      | cons x t =>
        by_cases hx : x.toNat = 107
        · have hh : hasK (x :: t) = true := decide_eq_true hx
          have hd : dropK (x :: t) = t := if_pos hx
          rw [hh]
          have HQ := Lib.hid (kindQ_cons x t hx)
          have HV := Lib.hid (parP_val (t := t) (a := -9223372036854775808) (b := 9223372036854775807) (by omega) (by omega))
          have HX := Lib.hid hx
          rw [hd] at HPXY
          clear hh hd hx
          cases hv : valP t with
          | none =>
            have hv0 : parP t (-9223372036854775808) 9223372036854775807 = (0, 3) := by rw [HV.out, hv]
            have hy : py = 3 := by rw [← HPXY.out.2, hv0]
            have HF := Lib.hid (show kindP (x :: t) = (0, false) by rw [HN.out.2, HQ.out, hv])
            subst hy
            clear hv hv0
            go_wp2_with fail
            refine (HPP.out _).mono ?_
            rintro e4 w4 ⟨rfl, k4⟩
            have HK4 := Lib.hid (HKW.out.keeps.trans k4)
            clear k4
            go_wp2_with fail
            refine bodyPost_ret (v := .tuple #[.int .i64 0, .bool false]) (by simp [results, Try.results7, go_sem]) rfl ?_
            exact ⟨by rw [HF.out], HK4.out⟩
          | some n =>
            have hv0 : parP t (-9223372036854775808) 9223372036854775807 = (n, 0) := by rw [HV.out, hv]
            have hy : py = 0 := by rw [← HPXY.out.2, hv0]
            have hn : px = n := by rw [← HPXY.out.1, hv0]
            have hb := valP_bound hv
            have HF := Lib.hid (show kindP (x :: t) = if 1 ≤ n ∧ n ≤ 19 then (0, false) else (n, true) by rw [HN.out.2, HQ.out, hv])
            subst hy
            subst hn
            have HW := Lib.hid (fun w => word_of w px (by omega))
            have e5 : (ByteArray.mk (wordK px).toArray).toList = wordK px := ByteArray.toList_mk _
            have hwk : (wordK px != x :: t) = if 1 ≤ px ∧ px ≤ 19 then true else false := by
              by_cases hr : 1 ≤ px ∧ px ≤ 19
              · rw [if_pos hr]
                have : wordK px = kwF (px - 1).toNat := if_pos hr
                rw [this]
                have := srch_none HN.out.1 (px - 1).toNat (by omega) (by omega)
                simpa using this
              · rw [if_neg hr]
                have : wordK px = 107 :: prnL px := if_neg hr
                rw [this, hb.2.2]
                have hx := HX.out
                have : x = 107 := by rw [← UInt8.toNat_inj]; exact hx
                rw [this]
                simp
            generalize (⟨(wordK px).toArray⟩ : ByteArray) = WB at HW e5
            clear hv hv0 hb
            by_cases hr : 1 ≤ px ∧ px ≤ 19
            · rw [if_pos hr] at HF hwk
              clear hr
              generalize wordK px = wk at *
              have hwk2 : (wk == x :: t) = false := by simpa using hwk
              go_wp2_with fail
              refine (HPP.out _).mono ?_
              rintro e4 w4 ⟨rfl, k4⟩
              have HK4 := Lib.hid (HKW.out.keeps.trans k4)
              clear k4
              go_wp2_with fail
              refine (HW.out _).mono ?_
              rintro e6 w6 ⟨rfl, k6⟩
              have HK6 := Lib.hid (HK4.out.trans k6)
              clear k6
              go_wp2_with fail
              refine bodyPost_ret (v := .tuple #[.int .i64 0, .bool false]) (by simp [results, Try.results7, go_sem]) rfl ?_
              exact ⟨by rw [HF.out], HK6.out⟩
            · rw [if_neg hr] at HF hwk
              clear hr
              generalize wordK px = wk at *
              have hwk2 : (wk == x :: t) = true := by simpa using hwk
              go_wp2_with fail
              refine (HPP.out _).mono ?_
              rintro e4 w4 ⟨rfl, k4⟩
              have HK4 := Lib.hid (HKW.out.keeps.trans k4)
              clear k4
              go_wp2_with fail
              refine (HW.out _).mono ?_
              rintro e6 w6 ⟨rfl, k6⟩
              have HK6 := Lib.hid (HK4.out.trans k6)
              clear k6
              go_wp2_with fail
              refine bodyPost_ret (v := .tuple #[.int .i64 px, .bool true]) (by simp [results, Try.results7, go_sem]) rfl ?_
              exact ⟨by rw [HF.out], HK6.out⟩
        · have hh : hasK (x :: t) = false := decide_eq_false hx
          have HF := Lib.hid (show kindP (x :: t) = (0, false) by rw [HN.out.2]; exact if_neg hx)
          rw [hh]
          clear hh hx
          go_wp2_with fail
          refine (HPP.out _).mono ?_
          rintro e4 w4 ⟨rfl, k4⟩
          have HK4 := Lib.hid (HKW.out.keeps.trans k4)
          clear k4
          go_wp2_with fail
          refine bodyPost_ret (v := .tuple #[.int .i64 0, .bool false]) (by simp [results, Try.results7, go_sem]) rfl ?_
          exact ⟨by rw [HF.out], HK4.out⟩
end Go.Proofs.Ytpmcjajgdfmaoaa
