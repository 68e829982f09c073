import Derived.Test.YtpmcjajgdfmaoaaNumE
namespace Go.Proofs.Ytpmcjajgdfmaoaa
open Go.ChangeShapes Go.WideShapes Go.ChangeAt Go.RowKit
set_option linter.unusedVariables false
set_option linter.unusedSimpArgs false
set_option maxRecDepth 20000 in
set_option maxHeartbeats 1000000 in
theorem rparse_big (w : World) (l : List UInt8) (hl : l.length ≤ 9223372036854775807) (a b : Int) :
    Calls Try.prog 23 #[.string ⟨l.toArray⟩, .int .i64 a, .int .i64 b] w fun e w' => e = .returned (.tuple #[.int .i64 (parP l a b).1, .int .i64 (parP l a b).2]) ∧ w' = w := by
  have HE := Lib.hid (And.intro (show parP l a b = match valP l with
    | none => (0, 3)
    | some n => if n < a ∨ b < n then (0, 2) else (n, 0) from rfl) (show valP l = if okL l then some (sgn l) else none from rfl))
  have HOk := Lib.hid (show okL l = (decide (0 < (dig l).length) && decide ((dig l).length ≤ 18) && (dig l).all isD && (prnL (sgn l) == l)) from rfl)
  have HBad := Lib.hid (show okL l = false → parP l a b = (0, 3) from fun h => by rw [HE.out.1, HE.out.2, h]; rfl)
  have hdl := dig_len l
  have HSg := Lib.hid (show sgn l = if negL l then -((val (dig l) 0 : Nat) : Int) else ((val (dig l) 0 : Nat) : Int) from rfl)
  have HIx := Lib.hid (fun w => str_index w (dig l))
  have hBs := str_size l
  have hDs := str_size (dig l)
  by_cases hq : negL l = true
  · obtain ⟨x, t, rfl⟩ : ∃ x t, l = x :: t := by
      cases l with
      | nil => cases hq
      | cons x t => exact ⟨x, t, rfl⟩
    have hx45 : x.toNat = 45 := of_decide_eq_true hq
    have e : dig (x :: t) = t := by rw [dig_cons, if_pos hx45]
    have h0 : (Instr.index 9 (.string ⟨(x :: t).toArray⟩) (.int .i64 0)).run Try.prog w = .ok (.int .u8 45) w := by have h := str_index w (x :: t) 0 x rfl; rw [hx45] at h; exact h
    have h1 := str_from w x t
    rw [e] at HOk hdl HSg HIx hDs
    rw [hq] at HSg
    have hlc : (x :: t).length = t.length + 1 := List.length_cons
    rw [hlc] at hBs hl hdl
    generalize hB : (⟨(x :: t).toArray⟩ : ByteArray) = B at h0 h1 hBs ⊢
    generalize (⟨t.toArray⟩ : ByteArray) = D at h1 HIx hDs
    have hBl : B.toList = x :: t := by rw [← hB]; exact ByteArray.toList_mk _
    clear hB e hx45 hlc hq
    generalize x :: t = l at *
    by_cases c0 : t.length = 0
    · have HF := Lib.hid (show parP l a b = (0, 3) from HBad.out (by rw [HOk.out, decide_eq_false (by omega : ¬ 0 < t.length)]; simp))
      go_enter Try.func23, Try.ntmps23
      go_wp2_with fail
      refine bodyPost_ret (v := .tuple #[.int .i64 0, .int .i64 3]) (by simp [results, Try.results23, go_sem]) rfl ?_
      exact ⟨by rw [HF.out], rfl⟩
    by_cases c1 : 18 < t.length
    · have HF := Lib.hid (show parP l a b = (0, 3) from HBad.out (by rw [HOk.out, decide_eq_false (by omega : ¬ t.length ≤ 18)]; simp))
      go_enter Try.func23, Try.ntmps23
      go_wp2_with fail
      refine bodyPost_ret (v := .tuple #[.int .i64 0, .int .i64 3]) (by simp [results, Try.results23, go_sem]) rfl ?_
      exact ⟨by rw [HF.out], rfl⟩
    have f0 : ((t.length : Int) == 0) = false := by simp; intro h; exact c0 (by rw [h]; rfl)
    have f1 : decide (18 < (t.length : Int)) = false := decide_eq_false (by omega)
    go_enter Try.func23, Try.ntmps23
    go_wp2_with fail
    go_loop [10, 11] (fun v5 v19 => ∃ k : Nat, k ≤ t.length ∧ v5 = .int .i64 ((val (t.take k) 0 : Nat) : Int) ∧ v19 = .int .i64 (k : Int) ∧ (t.take k).all isD = true) (fun _ v19 => t.length - (intOf v19).toNat)
    case atStart => exact ⟨0, by omega, rfl, rfl, rfl⟩
    case round =>
    obtain ⟨k, hk, rfl, rfl, ha⟩ := hrel
    by_cases hlt : k < t.length
    · obtain ⟨x, hx⟩ : ∃ x, t[k]? = some x := ⟨_, List.getElem?_eq_getElem hlt⟩
      have hix := HIx.out w k x hx
      have hm := val_max ha (by omega) hk
      have hr := val_take hx
      have hxx := x.toNat_lt
      have HA := Lib.hid (And.intro ha hx)
      generalize hv : val (t.take k) 0 = v at hm hr ⊢
      have HR := Lib.hid hr
      clear hv hr ha hx
      by_cases x1 : x.toNat < 48
      · have HF := Lib.hid (show parP l a b = (0, 3) from HBad.out (by rw [HOk.out, not_all HA.out.2 (by unfold isD; rw [decide_eq_false (by omega : ¬ 48 ≤ x.toNat)]; rfl)]; simp))
        generalize x.toNat = xn at hix hxx x1
        have g1 : decide ((xn : Int) < 48) = true := decide_eq_true (by omega)
        go_wp2_with fail
        refine bodyPost_ret (v := .tuple #[.int .i64 0, .int .i64 3]) (by simp [results, Try.results23, go_sem]) rfl ?_
        exact ⟨by rw [HF.out], rfl⟩
      by_cases x2 : 57 < x.toNat
      · have HF := Lib.hid (show parP l a b = (0, 3) from HBad.out (by rw [HOk.out, not_all HA.out.2 (by unfold isD; rw [decide_eq_false (by omega : ¬ x.toNat ≤ 57)]; simp)]; simp))
        generalize x.toNat = xn at hix hxx x1 x2
        have g1 : decide ((xn : Int) < 48) = false := decide_eq_false (by omega)
        have g2 : decide (57 < (xn : Int)) = true := decide_eq_true (by omega)
        go_wp2_with fail
        refine bodyPost_ret (v := .tuple #[.int .i64 0, .int .i64 3]) (by simp [results, Try.results23, go_sem]) rfl ?_
        exact ⟨by rw [HF.out], rfl⟩
      have HD2 := Lib.hid (all_take HA.out.2 HA.out.1 (by unfold isD; rw [decide_eq_true (by omega : 48 ≤ x.toNat), decide_eq_true (by omega : x.toNat ≤ 57)]; rfl))
      generalize x.toNat = xn at hix hxx x1 x2 HR
      have g1 : decide ((xn : Int) < 48) = false := decide_eq_false (by omega)
      have g2 : decide (57 < (xn : Int)) = false := decide_eq_false (by omega)
      go_wp2_with fail
      go_round
      case rel => exact ⟨k + 1, by omega, by rw [HR.out]; congr 1; omega, by congr 1, HD2.out⟩
      case measure => simp [intOf]; omega
    · obtain rfl : k = t.length := by omega
      rw [List.take_length] at ha ⊢
      have hm := val_max' ha (by omega)
      have HO2 := Lib.hid (show okL l = (prnL (sgn l) == l) from by rw [HOk.out, ha, decide_eq_true (by omega : 0 < t.length), decide_eq_true (by omega : t.length ≤ 18)]; rfl)
      generalize hv : val t 0 = v at hm HSg ⊢
      have hs : sgn l = (-(v : Int)) := by rw [HSg.out]; rfl
      have HP := Lib.hid (rprint_any w (-(v : Int)) (by omega))
      have hPl : (prnB (-(v : Int))).toList = prnL (-(v : Int)) := ByteArray.toList_mk _
      have HO3 := Lib.hid (And.intro (show okL l = (prnL (-(v : Int)) == l) from by rw [HO2.out, hs]) hs)
      clear hs hv ha
      generalize prnB (-(v : Int)) = PB at HP hPl
      generalize prnL (-(v : Int)) = PL at hPl HO3
      cases hp : PL == l with
      | false =>
        have HF := Lib.hid (show parP l a b = (0, 3) from HBad.out (by rw [HO3.out.1, hp]))
        go_wp2_with fail
        refine HP.out.mono ?_
        rintro e2 w2 ⟨rfl, rfl⟩
        go_wp2_with fail
        refine bodyPost_ret (v := .tuple #[.int .i64 0, .int .i64 3]) (by simp [results, Try.results23, go_sem]) rfl ?_
        exact ⟨by rw [HF.out], rfl⟩
      | true =>
        have HF := Lib.hid (show parP l a b = if (-(v : Int)) < a ∨ b < (-(v : Int)) then (0, 2) else ((-(v : Int)), 0) from by rw [HE.out.1, HE.out.2, HO3.out.1, hp, HO3.out.2]; rfl)
        go_wp2_with fail
        refine HP.out.mono ?_
        rintro e2 w2 ⟨rfl, rfl⟩
        by_cases h1 : (-(v : Int)) < a
        · have g1 : decide ((-(v : Int)) < a) = true := decide_eq_true h1
          have HF2 := Lib.hid (show parP l a b = (0, 2) from by rw [HF.out, if_pos (Or.inl h1)])
          go_wp2_with fail
          refine bodyPost_ret (v := .tuple #[.int .i64 0, .int .i64 2]) (by simp [results, Try.results23, go_sem]) rfl ?_
          exact ⟨by rw [HF2.out], rfl⟩
        · have g1 : decide ((-(v : Int)) < a) = false := decide_eq_false h1
          by_cases h2 : b < (-(v : Int))
          · have g2 : decide (b < (-(v : Int))) = true := decide_eq_true h2
            have HF2 := Lib.hid (show parP l a b = (0, 2) from by rw [HF.out, if_pos (Or.inr h2)])
            go_wp2_with fail
            refine bodyPost_ret (v := .tuple #[.int .i64 0, .int .i64 2]) (by simp [results, Try.results23, go_sem]) rfl ?_
            exact ⟨by rw [HF2.out], rfl⟩
          · have g2 : decide (b < (-(v : Int))) = false := decide_eq_false h2
            have HF2 := Lib.hid (show parP l a b = ((-(v : Int)), 0) from by rw [HF.out, if_neg (by omega)])
            go_wp2_with fail
            refine bodyPost_ret (v := .tuple #[.int .i64 (-(v : Int)), .int .i64 0]) (by simp [results, Try.results23, go_sem]) rfl ?_
            exact ⟨by rw [HF2.out], rfl⟩
  · have hq' : negL l = false := by simpa using hq
    have e : dig l = l := by
      cases l with
      | nil => rfl
      | cons x t => rw [dig_cons, if_neg (of_decide_eq_false hq')]
    rw [e] at HOk hdl HSg HIx hDs
    rw [hq'] at HSg
    have H0 := Lib.hid (show ∀ x, l[0]? = some x → ¬ x.toNat = 45 from fun x hx => by
      cases l with
      | nil => cases hx
      | cons y t => cases hx; exact of_decide_eq_false hq')
    generalize hB : (⟨l.toArray⟩ : ByteArray) = B at HIx hBs hDs ⊢
    have hBl : B.toList = l := by rw [← hB]; exact ByteArray.toList_mk _
    clear hB e hq hq' hDs
    obtain ⟨t, rfl⟩ : ∃ t, t = l := ⟨l, rfl⟩
    by_cases c0 : t.length = 0
    · have HF := Lib.hid (show parP t a b = (0, 3) from HBad.out (by rw [HOk.out, decide_eq_false (by omega : ¬ 0 < t.length)]; simp))
      go_enter Try.func23, Try.ntmps23
      go_wp2_with fail
      refine bodyPost_ret (v := .tuple #[.int .i64 0, .int .i64 3]) (by simp [results, Try.results23, go_sem]) rfl ?_
      exact ⟨by rw [HF.out], rfl⟩
    obtain ⟨x, hx⟩ : ∃ x, t[0]? = some x := ⟨_, List.getElem?_eq_getElem (by omega)⟩
    have h0 : (Instr.index 9 (.string B) (.int .i64 0)).run Try.prog w = .ok (.int .u8 (x.toNat : Int)) w := HIx.out w 0 x hx
    have hxne := H0.out x hx
    have hxx := x.toNat_lt
    clear hx
    generalize x.toNat = xn at h0 hxne hxx
    have g0 : ((xn : Int) == 45) = false := by simp; omega
    have hB0 : 0 < t.length := by omega
    by_cases c1 : 18 < t.length
    · have HF := Lib.hid (show parP t a b = (0, 3) from HBad.out (by rw [HOk.out, decide_eq_false (by omega : ¬ t.length ≤ 18)]; simp))
      go_enter Try.func23, Try.ntmps23
      go_wp2_with fail
      refine bodyPost_ret (v := .tuple #[.int .i64 0, .int .i64 3]) (by simp [results, Try.results23, go_sem]) rfl ?_
      exact ⟨by rw [HF.out], rfl⟩
    have f0 : ((t.length : Int) == 0) = false := by simp; intro h; exact c0 (by rw [h]; rfl)
    have f1 : decide (18 < (t.length : Int)) = false := decide_eq_false (by omega)
    go_enter Try.func23, Try.ntmps23
    go_wp2_with fail
    go_loop [10, 11] (fun v5 v19 => ∃ k : Nat, k ≤ t.length ∧ v5 = .int .i64 ((val (t.take k) 0 : Nat) : Int) ∧ v19 = .int .i64 (k : Int) ∧ (t.take k).all isD = true) (fun _ v19 => t.length - (intOf v19).toNat)
    case atStart => exact ⟨0, by omega, rfl, rfl, rfl⟩
    case round =>
    obtain ⟨k, hk, rfl, rfl, ha⟩ := hrel
    by_cases hlt : k < t.length
    · obtain ⟨x, hx⟩ : ∃ x, t[k]? = some x := ⟨_, List.getElem?_eq_getElem hlt⟩
      have hix := HIx.out w k x hx
      have hm := val_max ha (by omega) hk
      have hr := val_take hx
      have hxx := x.toNat_lt
      have HA := Lib.hid (And.intro ha hx)
      generalize hv : val (t.take k) 0 = v at hm hr ⊢
      have HR := Lib.hid hr
      clear hv hr ha hx
      by_cases x1 : x.toNat < 48
      · have HF := Lib.hid (show parP t a b = (0, 3) from HBad.out (by rw [HOk.out, not_all HA.out.2 (by unfold isD; rw [decide_eq_false (by omega : ¬ 48 ≤ x.toNat)]; rfl)]; simp))
        generalize x.toNat = xn at hix hxx x1
        have g1 : decide ((xn : Int) < 48) = true := decide_eq_true (by omega)
        go_wp2_with fail
        refine bodyPost_ret (v := .tuple #[.int .i64 0, .int .i64 3]) (by simp [results, Try.results23, go_sem]) rfl ?_
        exact ⟨by rw [HF.out], rfl⟩
      by_cases x2 : 57 < x.toNat
      · have HF := Lib.hid (show parP t a b = (0, 3) from HBad.out (by rw [HOk.out, not_all HA.out.2 (by unfold isD; rw [decide_eq_false (by omega : ¬ x.toNat ≤ 57)]; simp)]; simp))
        generalize x.toNat = xn at hix hxx x1 x2
        have g1 : decide ((xn : Int) < 48) = false := decide_eq_false (by omega)
        have g2 : decide (57 < (xn : Int)) = true := decide_eq_true (by omega)
        go_wp2_with fail
        refine bodyPost_ret (v := .tuple #[.int .i64 0, .int .i64 3]) (by simp [results, Try.results23, go_sem]) rfl ?_
        exact ⟨by rw [HF.out], rfl⟩
      have HD2 := Lib.hid (all_take HA.out.2 HA.out.1 (by unfold isD; rw [decide_eq_true (by omega : 48 ≤ x.toNat), decide_eq_true (by omega : x.toNat ≤ 57)]; rfl))
      generalize x.toNat = xn at hix hxx x1 x2 HR
      have g1 : decide ((xn : Int) < 48) = false := decide_eq_false (by omega)
      have g2 : decide (57 < (xn : Int)) = false := decide_eq_false (by omega)
      go_wp2_with fail
      go_round
      case rel => exact ⟨k + 1, by omega, by rw [HR.out]; congr 1; omega, by congr 1, HD2.out⟩
      case measure => simp [intOf]; omega
    · obtain rfl : k = t.length := by omega
      rw [List.take_length] at ha ⊢
      have hm := val_max' ha (by omega)
      have HO2 := Lib.hid (show okL t = (prnL (sgn t) == t) from by rw [HOk.out, ha, decide_eq_true (by omega : 0 < t.length), decide_eq_true (by omega : t.length ≤ 18)]; rfl)
      generalize hv : val t 0 = v at hm HSg ⊢
      have hs : sgn t = (v : Int) := by rw [HSg.out]; rfl
      have HP := Lib.hid (rprint_any w (v : Int) (by omega))
      have hPl : (prnB (v : Int)).toList = prnL (v : Int) := ByteArray.toList_mk _
      have HO3 := Lib.hid (And.intro (show okL t = (prnL (v : Int) == t) from by rw [HO2.out, hs]) hs)
      clear hs hv ha
      generalize prnB (v : Int) = PB at HP hPl
      generalize prnL (v : Int) = PL at hPl HO3
      cases hp : PL == t with
      | false =>
        have HF := Lib.hid (show parP t a b = (0, 3) from HBad.out (by rw [HO3.out.1, hp]))
        go_wp2_with fail
        refine HP.out.mono ?_
        rintro e2 w2 ⟨rfl, rfl⟩
        go_wp2_with fail
        refine bodyPost_ret (v := .tuple #[.int .i64 0, .int .i64 3]) (by simp [results, Try.results23, go_sem]) rfl ?_
        exact ⟨by rw [HF.out], rfl⟩
      | true =>
        have HF := Lib.hid (show parP t a b = if (v : Int) < a ∨ b < (v : Int) then (0, 2) else ((v : Int), 0) from by rw [HE.out.1, HE.out.2, HO3.out.1, hp, HO3.out.2]; rfl)
        go_wp2_with fail
        refine HP.out.mono ?_
        rintro e2 w2 ⟨rfl, rfl⟩
        by_cases h1 : (v : Int) < a
        · have g1 : decide ((v : Int) < a) = true := decide_eq_true h1
          have HF2 := Lib.hid (show parP t a b = (0, 2) from by rw [HF.out, if_pos (Or.inl h1)])
          go_wp2_with fail
          refine bodyPost_ret (v := .tuple #[.int .i64 0, .int .i64 2]) (by simp [results, Try.results23, go_sem]) rfl ?_
          exact ⟨by rw [HF2.out], rfl⟩
        · have g1 : decide ((v : Int) < a) = false := decide_eq_false h1
          by_cases h2 : b < (v : Int)
          · have g2 : decide (b < (v : Int)) = true := decide_eq_true h2
            have HF2 := Lib.hid (show parP t a b = (0, 2) from by rw [HF.out, if_pos (Or.inr h2)])
            go_wp2_with fail
            refine bodyPost_ret (v := .tuple #[.int .i64 0, .int .i64 2]) (by simp [results, Try.results23, go_sem]) rfl ?_
            exact ⟨by rw [HF2.out], rfl⟩
          · have g2 : decide (b < (v : Int)) = false := decide_eq_false h2
            have HF2 := Lib.hid (show parP t a b = ((v : Int), 0) from by rw [HF.out, if_neg (by omega)])
            go_wp2_with fail
            refine bodyPost_ret (v := .tuple #[.int .i64 (v : Int), .int .i64 0]) (by simp [results, Try.results23, go_sem]) rfl ?_
            exact ⟨by rw [HF2.out], rfl⟩
theorem rparse_any (w : World) (l : List UInt8) (hl : l.length < 1000000) (a b : Int) :
    Calls Try.prog 23 #[.string ⟨l.toArray⟩, .int .i64 a, .int .i64 b] w fun e w' => e = .returned (.tuple #[.int .i64 (parP l a b).1, .int .i64 (parP l a b).2]) ∧ w' = w := rparse_big w l (by omega) a b
end Go.Proofs.Ytpmcjajgdfmaoaa
