import Derived.Test.YthnmlklgbggmbaaGreatBaseZ
import Derived.WalkKit
import Derived.ProofKit
import Derived.OpenShut
import Derived.Lib.Hide
import Derived.Outline
import Derived.Test.YthnmlklgbggmbaaGreatConfGz
import Derived.LoopN
namespace Go.Proofs.YthnmlklgbggmbaaGreat
open Go.ChangeShapes Go.WideShapes Go.ChangeAt Go.RowKit
set_option linter.unusedVariables false
theorem rpower_any (a : Int) (w : World) (h1 : -9223372036854775808 ≤ a) (h2 : a ≤ 9223372036854775807) :
    Calls Tryz.prog 67 #[.int .i64 a] w fun e w' => e = .returned (.bool (pow2 a)) ∧ w = w' := by
  go_enter Tryz.func67, Tryz.ntmps67
  go_wp2
  go_loop [3] (fun k => ∃ p : Int, 1 ≤ p ∧ p ≤ 4294967296 ∧ k = .int .i64 p ∧ PowInv a p) (fun k => (4294967297 - intOf k).toNat)
  case atStart => exact ⟨1, by omega, by omega, rfl, PowInv.one a⟩
  case round =>
    obtain ⟨p, hp1, hp2, rfl, hi⟩ := hrel
    by_cases hle : p ≤ 2147483648
    · by_cases he : a = p
      · subst he
        have hit := hi.hit hle
        have H := Lib.hid hit
        clear hit hi
        go_wp2
        go_ret
        exact ⟨ret_bool H.out.symm, rfl⟩
      · have ht := hi.twice he
        clear hi
        go_wp2
        go_round
        case rel => exact ⟨2 * p, by omega, by omega, rfl, ht⟩
        case measure => simp [intOf]; omega
    · have miss := hi.miss (by omega)
      have H := Lib.hid miss
      clear miss hi
      go_wp2
      go_ret
      exact ⟨ret_bool H.out.symm, rfl⟩

end Go.Proofs.YthnmlklgbggmbaaGreat
namespace Go.Proofs.YthnmlklgbggmbaaGreat
open Go.ChangeShapes Go.WideShapes Go.ChangeAt Go.RowKit
set_option linter.unusedVariables false
set_option linter.unusedSimpArgs false
theorem each_zero {p : Int} {f : Nat → Int} {n : Nat} (h : ∀ i, i < n → f i = 0) : (eachV p f n).1 = 0 := by rw [eachV_none h]
theorem badOf_1 (c : CfD) (i : Nat) (hi : i < 4) (h0 : ∀ k, k < i → cntF c k = 0) (h1 : cntF c i ≠ 0) : badOf c = (cntF c i, 1, (i : Int)) := by
  have e : bad1 c = (cntF c i, 1, (i : Int)) := eachV_some hi h0 h1
  unfold badOf
  rw [if_neg (by rw [e]; exact h1), e]
theorem badOf_2 (c : CfD) (z1 : ∀ k, k < 4 → cntF c k = 0) (i : Nat) (hi : i < c.nT) (h0 : ∀ k, k < i → taskF (c.tp k) (c.tl k) = 0) (h1 : taskF (c.tp i) (c.tl i) ≠ 0) : badOf c = (taskF (c.tp i) (c.tl i), 2, (i : Int)) := by
  have e : bad2 c = (taskF (c.tp i) (c.tl i), 2, (i : Int)) := eachV_some (f := fun i => taskF (c.tp i) (c.tl i)) hi h0 h1
  have q1 : (bad1 c).1 = 0 := each_zero z1
  unfold badOf
  rw [if_pos q1, if_neg (by rw [e]; exact h1), e]
theorem badOf_3 (c : CfD) (z1 : ∀ k, k < 4 → cntF c k = 0) (z2 : ∀ k, k < c.nT → taskF (c.tp k) (c.tl k) = 0) (i : Nat) (hi : i < c.nL) (h0 : ∀ k, k < i → levelF (c.lr k) (c.ll k) = 0) (h1 : levelF (c.lr i) (c.ll i) ≠ 0) : badOf c = (levelF (c.lr i) (c.ll i), 3, (i : Int)) := by
  have e : bad3 c = (levelF (c.lr i) (c.ll i), 3, (i : Int)) := eachV_some (f := fun i => levelF (c.lr i) (c.ll i)) hi h0 h1
  have q1 : (bad1 c).1 = 0 := each_zero z1
  have q2 : (bad2 c).1 = 0 := each_zero z2
  unfold badOf
  rw [if_pos q1, if_pos q2, if_neg (by rw [e]; exact h1), e]
theorem badOf_4 (c : CfD) (z1 : ∀ k, k < 4 → cntF c k = 0) (z2 : ∀ k, k < c.nT → taskF (c.tp k) (c.tl k) = 0) (z3 : ∀ k, k < c.nL → levelF (c.lr k) (c.ll k) = 0) (i : Nat) (hi : i < c.nO) (h0 : ∀ k, k < i → objF c (c.ob k) = 0) (h1 : objF c (c.ob i) ≠ 0) : badOf c = (objF c (c.ob i), 4, (i : Int)) := by
  have e : bad4 c = (objF c (c.ob i), 4, (i : Int)) := eachV_some (f := fun i => objF c (c.ob i)) hi h0 h1
  have q1 : (bad1 c).1 = 0 := each_zero z1
  have q2 : (bad2 c).1 = 0 := each_zero z2
  have q3 : (bad3 c).1 = 0 := each_zero z3
  unfold badOf
  rw [if_pos q1, if_pos q2, if_pos q3, e]
theorem badOf_0 (c : CfD) (z1 : ∀ k, k < 4 → cntF c k = 0) (z2 : ∀ k, k < c.nT → taskF (c.tp k) (c.tl k) = 0) (z3 : ∀ k, k < c.nL → levelF (c.lr k) (c.ll k) = 0) (z4 : ∀ k, k < c.nO → objF c (c.ob k) = 0) : badOf c = (0, 0, 0) := by
  have e : bad4 c = (0, 0, 0) := eachV_none z4
  have q1 : (bad1 c).1 = 0 := each_zero z1
  have q2 : (bad2 c).1 = 0 := each_zero z2
  have q3 : (bad3 c).1 = 0 := each_zero z3
  unfold badOf
  rw [if_pos q1, if_pos q2, if_pos q3, e]
theorem zero_more {f : Nat → Int} {j : Nat} (h : ∀ k, k < j → f k = 0) (hj : f j = 0) : ∀ k, k < j + 1 → f k = 0 := fun k hk => by
  by_cases e : k = j
  · rw [e]; exact hj
  · exact h k (by omega)
theorem rroom_any (a : Int) (w : World) (h1 : -9223372036854775808 ≤ a) (h2 : a ≤ 9223372036854775807) :
    Calls Tryz.prog 27 #[.int .i64 a] w fun e w' => e = .returned (.bool (roomB a)) ∧ Keeps (fun _ => False) w w' := by
  have hp := Lib.hid (fun w => rpower_any a w h1 h2)
  unfold roomB
  generalize pow2 a = q at *
  clear h1 h2
  cases q
  all_goals
    go_enter Tryz.func27, Tryz.ntmps27
    go_wp2_with fail
    refine (hp.out _).mono ?_
    rintro e w1 ⟨rfl, rfl⟩
    go_wp2
    go_ret
    exact ⟨by simp, Keeps.refl _ _⟩
theorem hasF_true (c : CfD) (x : Int) (h : (∃ t : Nat, t < c.nT ∧ x = (t : Int)) ∨ ∃ t : Nat, t < c.nL ∧ x = -((t : Int) + 1)) : hasF c x = true := by
  unfold hasF
  rw [Bool.and_eq_true, decide_eq_true_eq, decide_eq_true_eq]
  rcases h with ⟨t, h, rfl⟩ | ⟨t, h, rfl⟩ <;> constructor <;> omega
theorem hasF_false (c : CfD) (x : Int) (h1 : ∀ t : Nat, t < c.nT → x ≠ (t : Int)) (h2 : ∀ t : Nat, t < c.nL → x ≠ -((t : Int) + 1)) : hasF c x = false := by
  unfold hasF
  rw [Bool.and_eq_false_iff, decide_eq_false_iff_not, decide_eq_false_iff_not]
  rcases Int.lt_or_le x 0 with h | h
  · left
    intro h3
    exact h2 (-x - 1).toNat (by omega) (by omega)
  · right
    intro h3
    exact h1 x.toNat (by omega) (by omega)
set_option maxHeartbeats 1000000 in
theorem rhas_any (c : CfD) (x : Int) (w : World) (ho : c.Ok) (hL : c.nL ≤ 1000000) :
    Calls Tryz.prog 69 #[.agg c.cells, .int .i64 x] w fun e w' => e = .returned (.bool (hasF c x)) ∧ Keeps (fun _ => False) w w' := by
  have h1 := ho.t
  have h2 := ho.l
  unfold maxLen at h1 h2
  have HT := Lib.hid (hasF_true c x)
  have HF := Lib.hid (hasF_false c x)
  have HB := Lib.hid ((Has.start w).alloc (.cells c.cells 26))
  clear ho
  go_enter Tryz.func69, Tryz.ntmps69
  go_wp2_with fail
  obtain ⟨W, hW⟩ : ∃ W : World, W = w.alloc (.cells c.cells 26) := ⟨_, rfl⟩
  rw [← hW] at HB ⊢
  have HWW := Lib.hid hW
  clear hW
  go_loopw [5] (fun i wr => ∃ j : Nat, j ≤ c.nT ∧ i = .int .i64 j ∧ (∀ t : Nat, t < j → x ≠ (t : Int)) ∧ wr = W) (fun i _ => c.nT - (intOf i).toNat)
  case atStart => exact ⟨0, by omega, rfl, fun t ht => by omega, rfl⟩
  case round =>
    obtain ⟨j, hj, rfl, hz, rfl⟩ := hrel
    have HZ := Lib.hid hz
    clear hz
    obtain ⟨e0, e1, e2, e3⟩ := four_cells (HB.out.at 0 rfl)
    have lx := lt_of (HB.out.at 0 rfl)
    by_cases hlt : j < c.nT
    · rcases hq : x == (j : Int)
      · have HZ2 := Lib.hid (show ∀ t : Nat, t < j + 1 → x ≠ (t : Int) from fun t ht => by
          by_cases e : t = j
          · rw [e]; exact beq_eq_false_iff_ne.1 hq
          · exact HZ.out t (by omega))
        go_wp2
        go_roundw
        case rel => exact ⟨j + 1, by omega, by go_num, HZ2.out, by first | rfl | trivial⟩
        case measure => simp [intOf]; omega
      · have HV := Lib.hid (HT.out (.inl ⟨j, hlt, beq_iff_eq.1 hq⟩))
        go_wp2
        go_ret
        exact ⟨ret_bool HV.out.symm, HB.out.keeps⟩
    · obtain rfl : j = c.nT := by omega
      go_wp2_with fail
      go_loopw [6] (fun i wq => ∃ j : Nat, j ≤ c.nL ∧ i = .int .i64 ((j : Int) + 1) ∧ (∀ t : Nat, t < j → x ≠ -((t : Int) + 1)) ∧ wq = wr) (fun i _ => c.nL + 1 - (intOf i).toNat)
      case atStart => exact ⟨0, by omega, by simp, fun t ht => by omega, rfl⟩
      case round =>
        obtain ⟨j, hj2, rfl, hz2, rfl⟩ := hrel
        have HZ2 := Lib.hid hz2
        clear hz2
        have W1 : wrap64 (-((j : Int) + 1)) = -((j : Int) + 1) := IntWalk.wrap64_in _ ⟨by omega, by omega⟩
        have W1' : IntKind.i64.wrap (-((j : Int) + 1)) = -((j : Int) + 1) := IntWalk.i64_in _ ⟨by omega, by omega⟩
        have W2 : wrap64 ((j : Int) + 1 + 1) = (j : Int) + 1 + 1 := IntWalk.wrap64_in _ ⟨by omega, by omega⟩
        have W2' : IntKind.i64.wrap ((j : Int) + 1 + 1) = (j : Int) + 1 + 1 := IntWalk.i64_in _ ⟨by omega, by omega⟩
        by_cases hlt : j < c.nL
        · have dl : decide ((j : Int) + 1 ≤ (c.nL : Int)) = true := decide_eq_true (by omega)
          rcases hq : x == -((j : Int) + 1)
          · have HZ3 := Lib.hid (show ∀ t : Nat, t < j + 1 → x ≠ -((t : Int) + 1) from fun t ht => by
              by_cases e : t = j
              · rw [e]; exact beq_eq_false_iff_ne.1 hq
              · exact HZ2.out t (by omega))
            go_wp2
            go_roundw
            case rel => exact ⟨j + 1, by omega, by go_num, HZ3.out, by first | rfl | trivial⟩
            case measure => simp [intOf]; omega
          · have HV := Lib.hid (HT.out (.inr ⟨j, hlt, beq_iff_eq.1 hq⟩))
            go_wp2
            go_ret
            exact ⟨ret_bool HV.out.symm, HB.out.keeps⟩
        · obtain rfl : j = c.nL := by omega
          have dl : decide ((c.nL : Int) + 1 ≤ (c.nL : Int)) = false := decide_eq_false (by omega)
          have HV := Lib.hid (HF.out HZ.out HZ2.out)
          go_wp2
          go_ret
          exact ⟨ret_bool HV.out.symm, HB.out.keeps⟩
end Go.Proofs.YthnmlklgbggmbaaGreat
namespace Go.Proofs.YthnmlklgbggmbaaGreat
open Go.ChangeShapes Go.WideShapes Go.ChangeAt Go.RowKit
set_option linter.unusedVariables false
set_option linter.unusedSimpArgs false
theorem within_any (a lo hi : Int) (w : World) :
    Calls Tryz.prog 68 #[.int .i64 a, .int .i64 lo, .int .i64 hi] w fun e w' => e = .returned (.bool (decide (lo ≤ a) && decide (a ≤ hi))) ∧ w = w' := by
  rcases h : decide (lo ≤ a)
  all_goals
    go_enter Tryz.func68, Tryz.ntmps68
    go_wp2
    go_ret
    exact ⟨by simp, rfl⟩
set_option maxHeartbeats 2000000 in
theorem rright_1 (o oi : Nat → Int) (w : World) (hb : -9223372036854775808 ≤ o 1 ∧ o 1 ≤ 9223372036854775807) (hk : o 0 = 1) :
    Calls Tryz.prog 28 #[.agg (objC o oi)] w fun e w' => e = .returned (.bool (rightS o)) ∧ Keeps (fun _ => False) w w' := by
  have HB := Lib.hid ((Has.start w).alloc (.cells (objC o oi) 74))
  have HP := Lib.hid (fun w => rpower_any (o 1) w hb.1 hb.2)
  have HV := Lib.hid (show rightS o = ((pow2 (o 1) && decide (o 1 ≤ 64)) && ((decide (1 ≤ o 2) && decide (o 2 ≤ 4)) && (o 3 == 0))) from by unfold rightS; simp [hk])
  have HL := Lib.hid (show decide (64 < o 1) = !decide (o 1 ≤ 64) from by rw [Bool.eq_iff_iff]; simp)
  have hn : ∀ q : Int, (q != 0) = !(q == 0) := fun _ => rfl
  have d1 : (o 0 == 1) = true := by rw [hk]; rfl
  have d3 : (o 0 == 3) = false := by rw [hk]; rfl
  have d4 : (o 0 == 4) = false := by rw [hk]; rfl
  have d5 : decide (1 ≤ o 0) = true := decide_eq_true (by omega)
  have d6 : decide (o 0 ≤ 4) = true := decide_eq_true (by omega)
  clear hb hk
  go_enter Tryz.func28, Tryz.ntmps28
  go_wp2_with fail
  go_quiet (fail)
  replace HB := Lib.hid (HB.out.none ((Keeps.refl _ _).drewN nq))
  obtain ⟨x0, x1, x2, x3, x4, x5, x6, x7, x8, x9⟩ := ten_cells (HB.out.at 0 rfl)
  go_wp2_with (first
    | (go_at_call 68; refine (within_any _ _ _ _).mono ?_; rintro e w' ⟨rfl, rfl⟩)
    | (go_at_call 67; refine (HP.out _).mono ?_; rintro e w' ⟨rfl, rfl⟩))
  all_goals
    go_ret
    refine ⟨ret_bool ?_, HB.out.keeps⟩
    rw [HV.out]
    have hl := HL.out
    clear HB HP HV HL x0 x1 x2 x3 x4 x5 x6 x7 x8 x9
    simp_all
    all_goals first | omega | (rw [Bool.eq_iff_iff]; simp; omega)
set_option maxHeartbeats 2000000 in
theorem rright_2 (o oi : Nat → Int) (w : World) (hb : -9223372036854775808 ≤ o 1 ∧ o 1 ≤ 9223372036854775807) (hk : o 0 = 2) :
    Calls Tryz.prog 28 #[.agg (objC o oi)] w fun e w' => e = .returned (.bool (rightS o)) ∧ Keeps (fun _ => False) w w' := by
  have HB := Lib.hid ((Has.start w).alloc (.cells (objC o oi) 74))
  have HP := Lib.hid (fun w => rpower_any (o 1) w hb.1 hb.2)
  have HV := Lib.hid (show rightS o = ((o 1 == 0) && ((decide (1 ≤ o 2) && decide (o 2 ≤ 4)) && (o 3 == 0))) from by unfold rightS; simp [hk])
  have HL := Lib.hid (show decide (64 < o 1) = !decide (o 1 ≤ 64) from by rw [Bool.eq_iff_iff]; simp)
  have hn : ∀ q : Int, (q != 0) = !(q == 0) := fun _ => rfl
  have d1 : (o 0 == 1) = false := by rw [hk]; rfl
  have d3 : (o 0 == 3) = false := by rw [hk]; rfl
  have d4 : (o 0 == 4) = false := by rw [hk]; rfl
  have d5 : decide (1 ≤ o 0) = true := decide_eq_true (by omega)
  have d6 : decide (o 0 ≤ 4) = true := decide_eq_true (by omega)
  clear hb hk
  go_enter Tryz.func28, Tryz.ntmps28
  go_wp2_with fail
  go_quiet (fail)
  replace HB := Lib.hid (HB.out.none ((Keeps.refl _ _).drewN nq))
  obtain ⟨x0, x1, x2, x3, x4, x5, x6, x7, x8, x9⟩ := ten_cells (HB.out.at 0 rfl)
  go_wp2_with (first
    | (go_at_call 68; refine (within_any _ _ _ _).mono ?_; rintro e w' ⟨rfl, rfl⟩)
    | (go_at_call 67; refine (HP.out _).mono ?_; rintro e w' ⟨rfl, rfl⟩))
  all_goals
    go_ret
    refine ⟨ret_bool ?_, HB.out.keeps⟩
    rw [HV.out]
    have hl := HL.out
    clear HB HP HV HL x0 x1 x2 x3 x4 x5 x6 x7 x8 x9
    simp_all
    all_goals first | omega | (rw [Bool.eq_iff_iff]; simp; omega)
set_option maxHeartbeats 2000000 in
theorem rright_3 (o oi : Nat → Int) (w : World) (hb : -9223372036854775808 ≤ o 1 ∧ o 1 ≤ 9223372036854775807) (hk : o 0 = 3) :
    Calls Tryz.prog 28 #[.agg (objC o oi)] w fun e w' => e = .returned (.bool (rightS o)) ∧ Keeps (fun _ => False) w w' := by
  have HB := Lib.hid ((Has.start w).alloc (.cells (objC o oi) 74))
  have HP := Lib.hid (fun w => rpower_any (o 1) w hb.1 hb.2)
  have HV := Lib.hid (show rightS o = ((o 1 == 0) && ((decide (1 ≤ o 2) && decide (o 2 ≤ 4)) && (decide (0 ≤ o 3) && decide (o 3 ≤ 8)))) from by unfold rightS; simp [hk])
  have HL := Lib.hid (show decide (64 < o 1) = !decide (o 1 ≤ 64) from by rw [Bool.eq_iff_iff]; simp)
  have hn : ∀ q : Int, (q != 0) = !(q == 0) := fun _ => rfl
  have d1 : (o 0 == 1) = false := by rw [hk]; rfl
  have d3 : (o 0 == 3) = true := by rw [hk]; rfl
  have d4 : (o 0 == 4) = false := by rw [hk]; rfl
  have d5 : decide (1 ≤ o 0) = true := decide_eq_true (by omega)
  have d6 : decide (o 0 ≤ 4) = true := decide_eq_true (by omega)
  clear hb hk
  go_enter Tryz.func28, Tryz.ntmps28
  go_wp2_with fail
  go_quiet (fail)
  replace HB := Lib.hid (HB.out.none ((Keeps.refl _ _).drewN nq))
  obtain ⟨x0, x1, x2, x3, x4, x5, x6, x7, x8, x9⟩ := ten_cells (HB.out.at 0 rfl)
  go_wp2_with (first
    | (go_at_call 68; refine (within_any _ _ _ _).mono ?_; rintro e w' ⟨rfl, rfl⟩)
    | (go_at_call 67; refine (HP.out _).mono ?_; rintro e w' ⟨rfl, rfl⟩))
  all_goals
    go_ret
    refine ⟨ret_bool ?_, HB.out.keeps⟩
    rw [HV.out]
    have hl := HL.out
    clear HB HP HV HL x0 x1 x2 x3 x4 x5 x6 x7 x8 x9
    simp_all
    all_goals first | omega | (rw [Bool.eq_iff_iff]; simp; omega)
set_option maxHeartbeats 2000000 in
theorem rright_4 (o oi : Nat → Int) (w : World) (hb : -9223372036854775808 ≤ o 1 ∧ o 1 ≤ 9223372036854775807) (hk : o 0 = 4) :
    Calls Tryz.prog 28 #[.agg (objC o oi)] w fun e w' => e = .returned (.bool (rightS o)) ∧ Keeps (fun _ => False) w w' := by
  have HB := Lib.hid ((Has.start w).alloc (.cells (objC o oi) 74))
  have HP := Lib.hid (fun w => rpower_any (o 1) w hb.1 hb.2)
  have HV := Lib.hid (show rightS o = ((o 1 == 0) && ((o 2 == 0) && (o 3 == 0))) from by unfold rightS; simp [hk])
  have HL := Lib.hid (show decide (64 < o 1) = !decide (o 1 ≤ 64) from by rw [Bool.eq_iff_iff]; simp)
  have hn : ∀ q : Int, (q != 0) = !(q == 0) := fun _ => rfl
  have d1 : (o 0 == 1) = false := by rw [hk]; rfl
  have d3 : (o 0 == 3) = false := by rw [hk]; rfl
  have d4 : (o 0 == 4) = true := by rw [hk]; rfl
  have d5 : decide (1 ≤ o 0) = true := decide_eq_true (by omega)
  have d6 : decide (o 0 ≤ 4) = true := decide_eq_true (by omega)
  clear hb hk
  go_enter Tryz.func28, Tryz.ntmps28
  go_wp2_with fail
  go_quiet (fail)
  replace HB := Lib.hid (HB.out.none ((Keeps.refl _ _).drewN nq))
  obtain ⟨x0, x1, x2, x3, x4, x5, x6, x7, x8, x9⟩ := ten_cells (HB.out.at 0 rfl)
  go_wp2_with (first
    | (go_at_call 68; refine (within_any _ _ _ _).mono ?_; rintro e w' ⟨rfl, rfl⟩)
    | (go_at_call 67; refine (HP.out _).mono ?_; rintro e w' ⟨rfl, rfl⟩))
  all_goals
    go_ret
    refine ⟨ret_bool ?_, HB.out.keeps⟩
    rw [HV.out]
    have hl := HL.out
    clear HB HP HV HL x0 x1 x2 x3 x4 x5 x6 x7 x8 x9
    simp_all
    all_goals first | omega | (rw [Bool.eq_iff_iff]; simp; omega)
theorem rright_any (o oi : Nat → Int) (w : World) (hb : -9223372036854775808 ≤ o 1 ∧ o 1 ≤ 9223372036854775807) (hk : 1 ≤ o 0 ∧ o 0 ≤ 4) :
    Calls Tryz.prog 28 #[.agg (objC o oi)] w fun e w' => e = .returned (.bool (rightS o)) ∧ Keeps (fun _ => False) w w' := by
  rcases (by omega : o 0 = 1 ∨ o 0 = 2 ∨ o 0 = 3 ∨ o 0 = 4) with h | h | h | h
  · exact rright_1 o oi w hb h
  · exact rright_2 o oi w hb h
  · exact rright_3 o oi w hb h
  · exact rright_4 o oi w hb h
theorem rown_1 (c : CfD) (o oi : Nat → Int) (w : World) (ho : c.Ok) (hL : c.nL ≤ 1000000) (hk : o 0 = 1) :
    Calls Tryz.prog 29 #[.agg c.cells, .agg (objC o oi)] w fun e w' => e = .returned (.bool (ownF c o)) ∧ Keeps (fun _ => False) w w' := by
  have HB := Lib.hid (((Has.start w).alloc (.cells c.cells 26)).alloc (.cells (objC o oi) 74) |>.eq (M := [(w.heap.size + 1, .cells (objC o oi) 74 (0, 0)), (w.heap.size, .cells c.cells 26 (0, 0))]) (by simp))
  have HF := Lib.hid (fun x w => rhas_any c x w ho hL)
  have HV := Lib.hid (show ownF c o = (hasF c (o 4) && hasF c (o 5)) from by unfold ownF; simp [hk])
  have d4 : (o 0 == 4) = false := by rw [hk]; rfl
  have d5 : (o 0 != 4) = true := by rw [bne, d4]; rfl
  have d6 : decide (o 0 ≤ 2) = true := decide_eq_true (by omega)
  have d7 : decide (3 ≤ o 0) = false := decide_eq_false (by omega)
  clear hk ho hL
  rcases hq1 : hasF c (o 4)
  all_goals
    go_enter Tryz.func29, Tryz.ntmps29
    go_wp2_with fail
    refine (HF.out _ _).mono ?_
    rintro e w2 ⟨rfl, k2⟩
    replace HB := Lib.hid (HB.out.none k2)
    clear k2
    obtain ⟨x0, x1, x2, x3, x4, x5, x6, x7, x8, x9⟩ := ten_cells (HB.out.at 0 rfl)
    obtain ⟨e0, e1, e2, e3⟩ := four_cells (HB.out.at 1 rfl)
    rw [hq1]
    go_wp2_with fail
    refine (HF.out _ _).mono ?_
    rintro e w3 ⟨rfl, k3⟩
    replace HB := Lib.hid (HB.out.none k3)
    clear k3
    obtain ⟨x0, x1, x2, x3, x4, x5, x6, x7, x8, x9⟩ := ten_cells (HB.out.at 0 rfl)
    obtain ⟨e0, e1, e2, e3⟩ := four_cells (HB.out.at 1 rfl)
    go_wp2
    all_goals
      go_ret
      exact ⟨ret_bool (by rw [HV.out]; simp [*]), HB.out.keeps⟩
theorem rown_2 (c : CfD) (o oi : Nat → Int) (w : World) (ho : c.Ok) (hL : c.nL ≤ 1000000) (hk : o 0 = 2) :
    Calls Tryz.prog 29 #[.agg c.cells, .agg (objC o oi)] w fun e w' => e = .returned (.bool (ownF c o)) ∧ Keeps (fun _ => False) w w' := by
  have HB := Lib.hid (((Has.start w).alloc (.cells c.cells 26)).alloc (.cells (objC o oi) 74) |>.eq (M := [(w.heap.size + 1, .cells (objC o oi) 74 (0, 0)), (w.heap.size, .cells c.cells 26 (0, 0))]) (by simp))
  have HF := Lib.hid (fun x w => rhas_any c x w ho hL)
  have HV := Lib.hid (show ownF c o = (hasF c (o 4) && hasF c (o 5)) from by unfold ownF; simp [hk])
  have d4 : (o 0 == 4) = false := by rw [hk]; rfl
  have d5 : (o 0 != 4) = true := by rw [bne, d4]; rfl
  have d6 : decide (o 0 ≤ 2) = true := decide_eq_true (by omega)
  have d7 : decide (3 ≤ o 0) = false := decide_eq_false (by omega)
  clear hk ho hL
  rcases hq1 : hasF c (o 4)
  all_goals
    go_enter Tryz.func29, Tryz.ntmps29
    go_wp2_with fail
    refine (HF.out _ _).mono ?_
    rintro e w2 ⟨rfl, k2⟩
    replace HB := Lib.hid (HB.out.none k2)
    clear k2
    obtain ⟨x0, x1, x2, x3, x4, x5, x6, x7, x8, x9⟩ := ten_cells (HB.out.at 0 rfl)
    obtain ⟨e0, e1, e2, e3⟩ := four_cells (HB.out.at 1 rfl)
    rw [hq1]
    go_wp2_with fail
    refine (HF.out _ _).mono ?_
    rintro e w3 ⟨rfl, k3⟩
    replace HB := Lib.hid (HB.out.none k3)
    clear k3
    obtain ⟨x0, x1, x2, x3, x4, x5, x6, x7, x8, x9⟩ := ten_cells (HB.out.at 0 rfl)
    obtain ⟨e0, e1, e2, e3⟩ := four_cells (HB.out.at 1 rfl)
    go_wp2
    all_goals
      go_ret
      exact ⟨ret_bool (by rw [HV.out]; simp [*]), HB.out.keeps⟩
theorem rown_3 (c : CfD) (o oi : Nat → Int) (w : World) (ho : c.Ok) (hL : c.nL ≤ 1000000) (hk : o 0 = 3) :
    Calls Tryz.prog 29 #[.agg c.cells, .agg (objC o oi)] w fun e w' => e = .returned (.bool (ownF c o)) ∧ Keeps (fun _ => False) w w' := by
  have HB := Lib.hid (((Has.start w).alloc (.cells c.cells 26)).alloc (.cells (objC o oi) 74) |>.eq (M := [(w.heap.size + 1, .cells (objC o oi) 74 (0, 0)), (w.heap.size, .cells c.cells 26 (0, 0))]) (by simp))
  have HF := Lib.hid (fun x w => rhas_any c x w ho hL)
  have HV := Lib.hid (show ownF c o = (hasF c (o 4) && (o 5 == 0)) from by unfold ownF; simp [hk])
  have d4 : (o 0 == 4) = false := by rw [hk]; rfl
  have d5 : (o 0 != 4) = true := by rw [bne, d4]; rfl
  have d6 : decide (o 0 ≤ 2) = false := decide_eq_false (by omega)
  have d7 : decide (3 ≤ o 0) = true := decide_eq_true (by omega)
  clear hk ho hL
  rcases hq1 : hasF c (o 4)
  all_goals
    go_enter Tryz.func29, Tryz.ntmps29
    go_wp2_with fail
    refine (HF.out _ _).mono ?_
    rintro e w2 ⟨rfl, k2⟩
    replace HB := Lib.hid (HB.out.none k2)
    clear k2
    obtain ⟨x0, x1, x2, x3, x4, x5, x6, x7, x8, x9⟩ := ten_cells (HB.out.at 0 rfl)
    obtain ⟨e0, e1, e2, e3⟩ := four_cells (HB.out.at 1 rfl)
    rw [hq1]
    go_wp2
    all_goals
      go_ret
      exact ⟨ret_bool (by rw [HV.out]; simp [*]), HB.out.keeps⟩
theorem rown_4 (c : CfD) (o oi : Nat → Int) (w : World) (ho : c.Ok) (hL : c.nL ≤ 1000000) (hk : o 0 = 4) :
    Calls Tryz.prog 29 #[.agg c.cells, .agg (objC o oi)] w fun e w' => e = .returned (.bool (ownF c o)) ∧ Keeps (fun _ => False) w w' := by
  have HB := Lib.hid (((Has.start w).alloc (.cells c.cells 26)).alloc (.cells (objC o oi) 74) |>.eq (M := [(w.heap.size + 1, .cells (objC o oi) 74 (0, 0)), (w.heap.size, .cells c.cells 26 (0, 0))]) (by simp))
  have HF := Lib.hid (fun x w => rhas_any c x w ho hL)
  have HV := Lib.hid (show ownF c o = ((o 4 == 0) && (o 5 == 0)) from by unfold ownF; simp [hk])
  have d4 : (o 0 == 4) = true := by rw [hk]; rfl
  have d5 : (o 0 != 4) = false := by rw [bne, d4]; rfl
  have d6 : decide (o 0 ≤ 2) = false := decide_eq_false (by omega)
  have d7 : decide (3 ≤ o 0) = true := decide_eq_true (by omega)
  clear hk ho hL
  go_enter Tryz.func29, Tryz.ntmps29
  go_wp2_with fail
  go_wp2
  all_goals
    go_ret
    exact ⟨ret_bool (by rw [HV.out]; simp [*]), HB.out.keeps⟩
theorem rown_any (c : CfD) (o oi : Nat → Int) (w : World) (ho : c.Ok) (hL : c.nL ≤ 1000000) (hk : 1 ≤ o 0 ∧ o 0 ≤ 4) :
    Calls Tryz.prog 29 #[.agg c.cells, .agg (objC o oi)] w fun e w' => e = .returned (.bool (ownF c o)) ∧ Keeps (fun _ => False) w w' := by
  rcases (by omega : o 0 = 1 ∨ o 0 = 2 ∨ o 0 = 3 ∨ o 0 = 4) with h | h | h | h
  · exact rown_1 c o oi w ho hL h
  · exact rown_2 c o oi w ho hL h
  · exact rown_3 c o oi w ho hL h
  · exact rown_4 c o oi w ho hL h
end Go.Proofs.YthnmlklgbggmbaaGreat
