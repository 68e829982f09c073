import Derived.Test.YtakaclkhnajpeaaNumC
namespace Go.Proofs.Ytakaclkhnajpeaa
open Go.ChangeShapes Go.WideShapes Go.ChangeAt Go.RowKit
set_option linter.unusedVariables false
set_option linter.unusedSimpArgs false
theorem all_take {l : List UInt8} {k : Nat} {x : UInt8} (h : l[k]? = some x) (ha : (l.take k).all isD = true) (hx : isD x = true) : (l.take (k + 1)).all isD = true := by
  rw [List.take_add_one, h, List.all_append, ha]
  simp [hx]
theorem val_take {l : List UInt8} {k : Nat} {x : UInt8} (h : l[k]? = some x) : val (l.take (k + 1)) 0 = val (l.take k) 0 * 10 + (x.toNat - 48) := by
  rw [List.take_add_one, h]
  exact val_snoc _ _ _
theorem not_all {l : List UInt8} {k : Nat} {x : UInt8} (h : l[k]? = some x) (hx : isD x = false) : l.all isD = false := by
  rw [List.all_eq_false]
  exact ⟨x, List.mem_of_getElem? h, by simp [hx]⟩
theorem val_max {l : List UInt8} {k : Nat} (h : (l.take k).all isD = true) (hk : k < 18) (hl : k ≤ l.length) : val (l.take k) 0 ≤ 99999999999999999 := by
  have h1 := val_lt (l.take k) 0 0 h (by decide)
  rw [List.length_take, Nat.zero_add, Nat.min_eq_left hl] at h1
  have h2 : 10 ^ k ≤ 10 ^ 17 := Nat.pow_le_pow_right (by omega) (by omega)
  have h3 : (10 : Nat) ^ 17 = 100000000000000000 := by decide
  omega
theorem val_max' {l : List UInt8} (h : l.all isD = true) (hl : l.length ≤ 18) : val l 0 ≤ 999999999999999999 := by
  have h1 := val_lt l 0 0 h (by decide)
  rw [Nat.zero_add] at h1
  have h2 : 10 ^ l.length ≤ 10 ^ 18 := Nat.pow_le_pow_right (by omega) hl
  have h3 : (10 : Nat) ^ 18 = 1000000000000000000 := by decide
  omega
set_option maxRecDepth 20000 in
set_option maxHeartbeats 1000000 in
theorem value_any (w : World) (l : List UInt8) (hl : l.length ≤ 9223372036854775807) :
    Calls Try.prog 36 #[.string ⟨l.toArray⟩] w fun e w' => ∃ v : Int, e = .returned (.tuple #[.int .i64 v, .bool (okL l)]) ∧ (okL l = true → v = sgn l) ∧ Keeps (fun _ => False) w w' := by
  have HT := Lib.hid (trim_any w l hl)
  have HOk := Lib.hid (show okL l = (decide (0 < (dig l).length) && decide ((dig l).length ≤ 18) && (dig l).all isD && (prnL (sgn l) == l)) from rfl)
  have hdl := dig_len l
  have HSg := Lib.hid (And.intro (dig_short l) (show sgn l = if negL l then -((val (dig l) 0 : Nat) : Int) else ((val (dig l) 0 : Nat) : Int) from rfl))
  have HIx := Lib.hid (fun w => str_index w (dig l))
  have hBs := str_size l
  have hDs := str_size (dig l)
  generalize hD : (⟨(dig l).toArray⟩ : ByteArray) = D at HT HIx hDs
  generalize hB : (⟨l.toArray⟩ : ByteArray) = B at HT hBs ⊢
  have HB := Lib.hid hB
  clear hD hB
  generalize hd : dig l = d at HOk hdl HSg HIx hDs
  clear hd
  by_cases c0 : d.length = 0
  · have HF := Lib.hid (show okL l = false from by rw [HOk.out, decide_eq_false (by omega : ¬ 0 < d.length)]; simp)
    go_enter Try.func36, Try.ntmps36
    go_wp2_with fail
    refine HT.out.mono ?_
    rintro e1 w1 ⟨rfl, rfl⟩
    go_wp2_with fail
    refine bodyPost_ret (v := .tuple #[.int .i64 0, .bool false]) (by simp [results, Try.results36, go_sem]) rfl ?_
    exact ⟨0, by rw [HF.out], (fun h => by rw [HF.out] at h; cases h), Keeps.refl _ _⟩
  by_cases c1 : 18 < d.length
  · have HF := Lib.hid (show okL l = false from by rw [HOk.out, decide_eq_false (by omega : ¬ d.length ≤ 18)]; simp)
    go_enter Try.func36, Try.ntmps36
    go_wp2_with fail
    refine HT.out.mono ?_
    rintro e1 w1 ⟨rfl, rfl⟩
    go_wp2_with fail
    refine bodyPost_ret (v := .tuple #[.int .i64 0, .bool false]) (by simp [results, Try.results36, go_sem]) rfl ?_
    exact ⟨0, by rw [HF.out], (fun h => by rw [HF.out] at h; cases h), Keeps.refl _ _⟩
  have f0 : ((d.length : Int) == 0) = false := by simp; intro h; exact c0 (by rw [h]; rfl)
  have f1 : decide (18 < (d.length : Int)) = false := decide_eq_false (by omega)
  go_enter Try.func36, Try.ntmps36
  go_wp2_with fail
  refine HT.out.mono ?_
  rintro e1 w1 ⟨rfl, rfl⟩
  go_wp2_with fail
  go_loop [5, 19] (fun v5 v19 => ∃ k : Nat, k ≤ d.length ∧ v5 = .int .i64 ((val (d.take k) 0 : Nat) : Int) ∧ v19 = .int .i64 (k : Int) ∧ (d.take k).all isD = true) (fun _ v19 => d.length - (intOf v19).toNat)
  case atStart => exact ⟨0, by omega, rfl, rfl, rfl⟩
  case round =>
    obtain ⟨k, hk, rfl, rfl, ha⟩ := hrel
    by_cases hlt : k < d.length
    · obtain ⟨x, hx⟩ : ∃ x, d[k]? = some x := ⟨_, List.getElem?_eq_getElem hlt⟩
      have hix := HIx.out w1 k x hx
      have hm := val_max ha (by omega) hk
      have hr := val_take hx
      have hxx := x.toNat_lt
      have HA := Lib.hid (And.intro ha hx)
      generalize hv : val (d.take k) 0 = v at hm hr ⊢
      have HR := Lib.hid hr
      clear hv hr ha hx
      by_cases x1 : x.toNat < 48
      · have HF := Lib.hid (show okL l = false from by rw [HOk.out, not_all HA.out.2 (by unfold isD; rw [decide_eq_false (by omega : ¬ 48 ≤ x.toNat)]; rfl)]; simp)
        generalize x.toNat = xn at hix hxx x1
        have g1 : decide ((xn : Int) < 48) = true := decide_eq_true (by omega)
        go_wp2_with fail
        refine bodyPost_ret (v := .tuple #[.int .i64 0, .bool false]) (by simp [results, Try.results36, go_sem]) rfl ?_
        exact ⟨0, by rw [HF.out], (fun h => by rw [HF.out] at h; cases h), Keeps.refl _ _⟩
      by_cases x2 : 57 < x.toNat
      · have HF := Lib.hid (show okL l = false from by rw [HOk.out, not_all HA.out.2 (by unfold isD; rw [decide_eq_false (by omega : ¬ x.toNat ≤ 57)]; simp)]; simp)
        generalize x.toNat = xn at hix hxx x1 x2
        have g1 : decide ((xn : Int) < 48) = false := decide_eq_false (by omega)
        have g2 : decide (57 < (xn : Int)) = true := decide_eq_true (by omega)
        go_wp2_with fail
        refine bodyPost_ret (v := .tuple #[.int .i64 0, .bool false]) (by simp [results, Try.results36, go_sem]) rfl ?_
        exact ⟨0, by rw [HF.out], (fun h => by rw [HF.out] at h; cases h), Keeps.refl _ _⟩
      have HD2 := Lib.hid (all_take HA.out.2 HA.out.1 (by unfold isD; rw [decide_eq_true (by omega : 48 ≤ x.toNat), decide_eq_true (by omega : x.toNat ≤ 57)]; rfl))
      generalize x.toNat = xn at hix hxx x1 x2 HR
      have g1 : decide ((xn : Int) < 48) = false := decide_eq_false (by omega)
      have g2 : decide (57 < (xn : Int)) = false := decide_eq_false (by omega)
      go_wp2_with fail
      go_round
      case rel => exact ⟨k + 1, by omega, by rw [HR.out]; congr 1; omega, by congr 1, HD2.out⟩
      case measure => simp [intOf]; omega
    · obtain rfl : k = d.length := by omega
      rw [List.take_length] at ha ⊢
      have hm := val_max' ha (by omega)
      have HO2 := Lib.hid (show okL l = (prnL (sgn l) == l) from by rw [HOk.out, ha, decide_eq_true (by omega : 0 < d.length), decide_eq_true (by omega : d.length ≤ 18)]; rfl)
      generalize hv : val d 0 = v at hm HSg ⊢
      clear hv ha
      have hBl : B.toList = l := by rw [← HB.out]; exact ByteArray.toList_mk _
      have hlq : decide (d.length < l.length) = negL l := HSg.out.1
      cases hq : negL l with
      | true =>
        have hs : sgn l = (-(v : Int)) := by rw [HSg.out.2, hq]; rfl
        have HP := Lib.hid (print_any w1 (-(v : Int)) (by omega))
        have hPl : (prnB (-(v : Int))).toList = prnL (-(v : Int)) := ByteArray.toList_mk _
        rw [hq] at hlq
        have HO3 := Lib.hid (And.intro (show okL l = (prnL (-(v : Int)) == l) from by rw [HO2.out, hs]) hs)
        clear hs hq
        have hlt := of_decide_eq_true hlq
        generalize prnB (-(v : Int)) = PB at HP hPl
        generalize prnL (-(v : Int)) = PL at hPl HO3
        go_wp2_with fail
        refine HP.out.mono ?_
        rintro e2 w2 ⟨rfl, k2⟩
        have HK := Lib.hid k2
        clear k2
        go_wp2_with fail
        refine bodyPost_ret (v := .tuple #[.int .i64 (-(v : Int)), .bool (PL == l)]) (by simp [results, Try.results36, go_sem]) rfl ?_
        exact ⟨(-(v : Int)), by rw [HO3.out.1], fun _ => HO3.out.2.symm, HK.out⟩
      | false =>
        have hs : sgn l = (v : Int) := by rw [HSg.out.2, hq]; rfl
        have HP := Lib.hid (print_any w1 (v : Int) (by omega))
        have hPl : (prnB (v : Int)).toList = prnL (v : Int) := ByteArray.toList_mk _
        rw [hq] at hlq
        have HO3 := Lib.hid (And.intro (show okL l = (prnL (v : Int) == l) from by rw [HO2.out, hs]) hs)
        clear hs hq
        have hlt : ¬ d.length < l.length := of_decide_eq_false hlq
        generalize prnB (v : Int) = PB at HP hPl
        generalize prnL (v : Int) = PL at hPl HO3
        go_wp2_with fail
        refine HP.out.mono ?_
        rintro e2 w2 ⟨rfl, k2⟩
        have HK := Lib.hid k2
        clear k2
        go_wp2_with fail
        refine bodyPost_ret (v := .tuple #[.int .i64 (v : Int), .bool (PL == l)]) (by simp [results, Try.results36, go_sem]) rfl ?_
        exact ⟨(v : Int), by rw [HO3.out.1], fun _ => HO3.out.2.symm, HK.out⟩
end Go.Proofs.Ytakaclkhnajpeaa
