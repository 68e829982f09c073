import Derived.Test.YtohajfkekkelhaaDoorWordRefA
import Derived.Test.YtohajfkekkelhaaDoorWordMath
import Derived.Test.YtohajfkekkelhaaDoorPow
import Derived.WalkKit
import Derived.ProofKit
import Derived.OpenShut
import Derived.Lib.Hide
import Derived.Outline
import Derived.Test.YtohajfkekkelhaaDoorObj
import Derived.LoopN
namespace Go.Proofs.YtohajfkekkelhaaDoor
open Go.ChangeShapes Go.WideShapes Go.ChangeAt Go.RowKit
set_option linter.unusedVariables false
theorem rhas_any (x : Nat) (i : Int) (w : World) (hx : x < 4294967296) :
    Calls Tryd.prog 68 #[.int .u32 x, .int .i64 i] w fun e w' => e = .returned (.bool (hasB x i)) ∧ Keeps (fun _ => False) w w' := by
  by_cases hi : 0 ≤ i ∧ i < 32
  · obtain ⟨k, rfl⟩ := Int.eq_ofNat_of_zero_le hi.1
    have hk : k < 32 := by omega
    have hget := bools_get x.testBit 32 k hk
    have HG := Lib.hid hget
    rw [hasB_nat hk]
    clear hget hi
    go_enter Tryd.func68, Tryd.ntmps68
    go_wp2_with fail
    refine (bits_any x _ hx).mono ?_
    rintro e w' ⟨rfl, hK⟩
    have hix := index_bools x.testBit k hk
    go_wp2
    go_ret
    exact ⟨rfl, hK⟩
  · have e : hasB x i = false := by simp [hasB, hi]
    rw [e]
    rcases (by omega : i < 0 ∨ 32 ≤ i) with h | h
    · have d0 : decide (0 ≤ i) = false := by simp; omega
      clear hi
      go_enter Tryd.func68, Tryd.ntmps68
      go_wp2
      go_ret
      exact ⟨rfl, Keeps.refl _ _⟩
    · have d0 : decide (0 ≤ i) = true := by simp; omega
      have d1 : decide (i < 32) = false := by simp; omega
      clear hi
      go_enter Tryd.func68, Tryd.ntmps68
      go_wp2
      go_ret
      exact ⟨rfl, Keeps.refl _ _⟩
end Go.Proofs.YtohajfkekkelhaaDoor
namespace Go.Proofs.YtohajfkekkelhaaDoor

theorem filt_one (p q : Nat → Bool) (c : Nat) (hpc : p c = true) (hqc : q c = false) (h : ∀ j, j ≠ c → p j = q j) :
    ∀ n, ((List.range n).filter p).length = ((List.range n).filter q).length + if c < n then 1 else 0
  | 0 => by simp
  | n + 1 => by
    have ih := filt_one p q c hpc hqc h n
    rw [List.range_succ, List.filter_append, List.filter_append, List.length_append, List.length_append, ih]
    by_cases e : n = c
    · subst e
      simp [hpc, hqc]
    · rw [List.filter_cons, List.filter_cons, h n e]
      have : (if c < n + 1 then 1 else 0) = if c < n then 1 else 0 := by
        by_cases h1 : c < n
        · rw [if_pos h1, if_pos (by omega)]
        · rw [if_neg h1, if_neg (by omega)]
      rw [this]
      cases q n <;> simp <;> omega
/-- How many bits are 1. -/
def popc (x : Nat) : Nat := (bitsL x).length
theorem popc_le (x : Nat) : popc x ≤ 32 := bitsL_len x
theorem popc_zero : popc 0 = 0 := by simp [popc, bitsL_zero]
theorem popc_set {x k : Nat} (hk : k < 32) (hb : x.testBit k = false) : popc (setB x k) = popc x + 1 := by
  have := filt_one (setB x k).testBit x.testBit k (by rw [setB_testBit]; simp [hk]) hb (fun j hj => by
    rw [setB_testBit]
    have : ¬ (j : Int) = (k : Int) := by omega
    simp [this]) 32
  rw [if_pos hk] at this
  exact this
theorem popc_clr {x k : Nat} (hx : x < 4294967296) (hk : k < 32) (hb : x.testBit k = true) : popc x = popc (clrB x k) + 1 := by
  have := filt_one x.testBit (clrB x k).testBit k hb (by rw [clrB_testBit hx]; simp) (fun j hj => by
    rw [clrB_testBit hx]
    have : ¬ (j : Int) = (k : Int) := by omega
    simp [this]) 32
  rw [if_pos hk] at this
  exact this
theorem popc_pos {x : Nat} (hx : x < 4294967296) (h0 : x ≠ 0) : 0 < popc x := by
  unfold popc
  rw [bitsL_cons hx h0]
  simp
theorem clr_low {x : Nat} (hx : x < 4294967296) (h0 : x ≠ 0) : clrB x (Lib.ctz 32 x) = x &&& (x - 1) := by
  obtain ⟨h1, h2, h3, h4⟩ := low_spec hx h0
  apply Nat.eq_of_testBit_eq
  intro j
  rw [clrB_testBit hx, h4]
  congr 1
  by_cases e : j = Lib.ctz 32 x
  · simp [e]
  · have : ¬ (j : Int) = (Lib.ctz 32 x : Int) := by omega
    simp [e, this]
theorem popc_low {x : Nat} (hx : x < 4294967296) (h0 : x ≠ 0) : popc x = popc (clrB x (Lib.ctz 32 x)) + 1 := by
  obtain ⟨h1, h2, h3, h4⟩ := low_spec hx h0
  exact popc_clr hx h1 h2
theorem pop_succ (j x : Nat) : pop (j + 1) x = pop j x + x / 2 ^ j % 2 := by
  unfold pop
  rw [List.range_succ, List.filter_append, List.length_append]
  congr 1
  rw [List.filter_cons, Nat.testBit_eq_decide_div_mod_eq]
  by_cases h : x / 2 ^ j % 2 = 1
  · simp [h]
  · have : x / 2 ^ j % 2 = 0 := by omega
    simp [this]
theorem pop_done {j x : Nat} (hj : j ≤ 32) (h : x / 2 ^ j = 0) : pop j x = popc x := by
  have e : 32 = j + (32 - j) := by omega
  have := pop_split j (32 - j) x
  rw [← e, h] at this
  have z : pop (32 - j) 0 = 0 := by simp [pop]
  rw [z] at this
  show pop j x = pop 32 x
  omega
theorem put_mod (x k : Nat) (hk : k < 32) : (if x.testBit k then setB (x % 2 ^ k) k else clrB (x % 2 ^ k) k) = x % 2 ^ (k + 1) := by
  have hlt : x % 2 ^ k < 4294967296 := Nat.lt_of_lt_of_le (Nat.mod_lt _ (Nat.two_pow_pos k)) (Nat.pow_le_pow_right (by omega) (by omega) : 2 ^ k ≤ 2 ^ 32)
  apply Nat.eq_of_testBit_eq
  intro j
  rw [Nat.testBit_mod_two_pow]
  have key : ∀ y : Nat, y = (if x.testBit k then setB (x % 2 ^ k) k else clrB (x % 2 ^ k) k) → y.testBit j = (decide (j < k + 1) && x.testBit j) := by
    intro y hy
    subst hy
    by_cases e : j = k
    · subst e
      cases hb : x.testBit j
      · rw [if_neg Bool.false_ne_true, clrB_testBit hlt]; simp
      · rw [if_pos rfl, setB_testBit]; simp [hk]
    · have h : ¬ (j : Int) = (k : Int) := by omega
      have h2 : decide (j < k + 1) = decide (j < k) := by rw [Bool.eq_iff_iff]; simp; omega
      rw [h2]
      cases hb : x.testBit k
      · rw [if_neg Bool.false_ne_true, clrB_testBit hlt, Nat.testBit_mod_two_pow]; simp [h]
      · rw [if_pos rfl, setB_testBit, Nat.testBit_mod_two_pow]; simp [h]
  exact key _ rfl
end Go.Proofs.YtohajfkekkelhaaDoor
namespace Go.Proofs.YtohajfkekkelhaaDoor
open Go.ChangeShapes Go.WideShapes Go.ChangeAt Go.RowKit
set_option linter.unusedVariables false
set_option linter.unusedSimpArgs false
/-- The bits of both words, as Or and And have them. -/
def opW (o : Bool) (x y : Nat) : Nat := if o then x ||| y else x &&& y
theorem opW_lt {o : Bool} {x y : Nat} (hx : x < 4294967296) (hy : y < 4294967296) : opW o x y < 4294967296 := by
  unfold opW
  cases o
  · exact Nat.lt_of_le_of_lt Nat.and_le_left hx
  · exact Nat.or_lt_two_pow (n := 32) hx hy
theorem opW_bit (o : Bool) (x y k : Nat) : (opW o x y).testBit k = (if o then (x.testBit k || y.testBit k) else (x.testBit k && y.testBit k)) := by
  unfold opW
  cases o
  · simp
  · simp
set_option maxRecDepth 20000 in
theorem rbits06 (x y : Nat) (o : Bool) (w : World) (hx : x < 4294967296) (hy : y < 4294967296) :
    Calls Tryd.prog 66 #[.int .u32 x, .int .u32 y, .bool o] w fun e w' => e = .returned (.int .u32 (opW o x y : Nat)) ∧ Keeps (fun _ => False) w w' := by
  have hz := opW_lt (o := o) hx hy
  go_enter Tryd.func66, Tryd.ntmps66
  go_wp2_with fail
  obtain ⟨wo, rfl⟩ : ∃ wo : World, wo = w := ⟨_, rfl⟩
  go_loopw [7, 8] (fun z i wr => ∃ k : Nat, k ≤ 32 ∧ i = .int .i64 k ∧ z = .int .u32 ((opW o x y % 2 ^ k : Nat) : Int) ∧ Keeps (fun _ => False) wo wr) (fun _ i _ => 32 - (intOf i).toNat)
  case atStart => exact ⟨0, by omega, rfl, by simp [Nat.mod_one], Keeps.refl _ _⟩
  case round =>
    obtain ⟨k, hk, rfl, rfl, hK⟩ := hrel
    by_cases hk32 : k < 32
    · have hpm := put_mod (opW o x y) k hk32
      rw [opW_bit] at hpm
      have hlt : opW o x y % 2 ^ k < 4294967296 := Nat.lt_of_le_of_lt (Nat.mod_le _ _) hz
      have HK := Lib.hid hK
      have e1 := hasB_nat (w := x) hk32
      have e2 := hasB_nat (w := y) hk32
      generalize opW o x y % 2 ^ k = z at *
      have HE := Lib.hid (And.intro e1 e2)
      have HPM := Lib.hid hpm
      clear hK hpm e1 e2
      go_wp2_with fail
      refine (rhas_any x k _ hx).mono ?_
      rintro e w1 ⟨rfl, k1⟩
      rw [HE.out.1]
      have HK1 := Lib.hid (HK.out.trans k1)
      clear k1 HK
      go_wp2_with fail
      refine (rhas_any y k _ hy).mono ?_
      rintro e w2 ⟨rfl, k2⟩
      rw [HE.out.2]
      have HK2 := Lib.hid (HK1.out.trans k2)
      clear k2 HK1
      generalize x.testBit k = b1 at *
      generalize y.testBit k = b2 at *
      cases o <;> cases b1 <;> cases b2
      all_goals
        go_wp2_with fail
        refine (rput_any z k _ _ hlt).mono ?_
        rintro e w3 ⟨rfl, k3⟩
        go_wp2
        go_roundw
        case rel => exact ⟨k + 1, by omega, by go_num, by rw [← HPM.out]; rfl, HK2.out.trans k3⟩
        case measure => simp [intOf]; omega
    · obtain rfl : k = 32 := by omega
      have hm : opW o x y % 2 ^ 32 = opW o x y := Nat.mod_eq_of_lt hz
      rw [hm]
      clear hm
      go_wp2
      go_ret
      exact ⟨rfl, hK⟩
theorem ror06 (x y : Nat) (w : World) (hx : x < 4294967296) (hy : y < 4294967296) :
    Calls Tryd.prog 58 #[.int .u32 x, .int .u32 y] w fun e w' => e = .returned (.int .u32 (opW true x y : Nat)) ∧ Keeps (fun _ => False) w w' := by
  go_enter Tryd.func58, Tryd.ntmps58
  go_wp2_with fail
  refine (rbits06 x y true _ hx hy).mono ?_
  rintro e w1 ⟨rfl, k1⟩
  go_wp2
  go_ret
  exact ⟨rfl, k1⟩
theorem rand06 (x y : Nat) (w : World) (hx : x < 4294967296) (hy : y < 4294967296) :
    Calls Tryd.prog 59 #[.int .u32 x, .int .u32 y] w fun e w' => e = .returned (.int .u32 (opW false x y : Nat)) ∧ Keeps (fun _ => False) w w' := by
  go_enter Tryd.func59, Tryd.ntmps59
  go_wp2_with fail
  refine (rbits06 x y false _ hx hy).mono ?_
  rintro e w1 ⟨rfl, k1⟩
  go_wp2
  go_ret
  exact ⟨rfl, k1⟩
end Go.Proofs.YtohajfkekkelhaaDoor
namespace Go.Proofs.YtohajfkekkelhaaDoor
open Go.ChangeShapes Go.WideShapes Go.ChangeAt Go.RowKit
set_option linter.unusedVariables false
theorem rpower_any (a : Int) (w : World) (h1 : -9223372036854775808 ≤ a) (h2 : a ≤ 9223372036854775807) :
    Calls Tryd.prog 65 #[.int .i64 a] w fun e w' => e = .returned (.bool (pow2 a)) ∧ w = w' := by
  go_enter Tryd.func65, Tryd.ntmps65
  go_wp2
  go_loop [3] (fun k => ∃ p : Int, 1 ≤ p ∧ p ≤ 4294967296 ∧ k = .int .i64 p ∧ PowInv a p) (fun k => (4294967297 - intOf k).toNat)
  case atStart => exact ⟨1, by omega, by omega, rfl, PowInv.one a⟩
  case round =>
    obtain ⟨p, hp1, hp2, rfl, hi⟩ := hrel
    by_cases hle : p ≤ 2147483648
    · by_cases he : a = p
      · subst he
        have hit := hi.hit hle
        have H := Lib.hid hit
        clear hit hi
        go_wp2
        go_ret
        exact ⟨ret_bool H.out.symm, rfl⟩
      · have ht := hi.twice he
        clear hi
        go_wp2
        go_round
        case rel => exact ⟨2 * p, by omega, by omega, rfl, ht⟩
        case measure => simp [intOf]; omega
    · have miss := hi.miss (by omega)
      have H := Lib.hid miss
      clear miss hi
      go_wp2
      go_ret
      exact ⟨ret_bool H.out.symm, rfl⟩

end Go.Proofs.YtohajfkekkelhaaDoor
namespace Go.Proofs.YtohajfkekkelhaaDoor
open Go.ChangeShapes Go.WideShapes Go.ChangeAt Go.RowKit
set_option linter.unusedVariables false
set_option linter.unusedSimpArgs false
theorem within_any (a lo hi : Int) (w : World) :
    Calls Tryd.prog 64 #[.int .i64 a, .int .i64 lo, .int .i64 hi] w fun e w' => e = .returned (.bool (decide (lo ≤ a) && decide (a ≤ hi))) ∧ w = w' := by
  rcases h : decide (lo ≤ a)
  all_goals
    go_enter Tryd.func64, Tryd.ntmps64
    go_wp2
    go_ret
    exact ⟨by simp, rfl⟩
set_option maxHeartbeats 2000000 in
theorem rright_1 (o oi : Nat → Int) (w : World) (hb : -9223372036854775808 ≤ o 1 ∧ o 1 ≤ 9223372036854775807) (hk : o 0 = 1) :
    Calls Tryd.prog 54 #[.agg (objC o oi)] w fun e w' => e = .returned (.bool (rightS o)) ∧ Keeps (fun _ => False) w w' := by
  have HB := Lib.hid ((Has.start w).alloc (.cells (objC o oi) 49))
  have HP := Lib.hid (fun w => rpower_any (o 1) w hb.1 hb.2)
  have HV := Lib.hid (show rightS o = ((pow2 (o 1) && decide (o 1 ≤ 64)) && ((decide (1 ≤ o 2) && decide (o 2 ≤ 4)) && (o 3 == 0))) from by unfold rightS; simp [hk])
  have HL := Lib.hid (show decide (64 < o 1) = !decide (o 1 ≤ 64) from by rw [Bool.eq_iff_iff]; simp)
  have hn : ∀ q : Int, (q != 0) = !(q == 0) := fun _ => rfl
  have d1 : (o 0 == 1) = true := by rw [hk]; rfl
  have d3 : (o 0 == 3) = false := by rw [hk]; rfl
  have d4 : (o 0 == 4) = false := by rw [hk]; rfl
  have d5 : decide (1 ≤ o 0) = true := decide_eq_true (by omega)
  have d6 : decide (o 0 ≤ 4) = true := decide_eq_true (by omega)
  clear hb hk
  go_enter Tryd.func54, Tryd.ntmps54
  go_wp2_with fail
  go_quiet (fail)
  replace HB := Lib.hid (HB.out.none ((Keeps.refl _ _).drewN nq))
  obtain ⟨x0, x1, x2, x3, x4, x5, x6, x7, x8, x9⟩ := ten_cells (HB.out.at 0 rfl)
  go_wp2_with (first
    | (go_at_call 64; refine (within_any _ _ _ _).mono ?_; rintro e w' ⟨rfl, rfl⟩)
    | (go_at_call 65; refine (HP.out _).mono ?_; rintro e w' ⟨rfl, rfl⟩))
  all_goals
    go_ret
    refine ⟨ret_bool ?_, HB.out.keeps⟩
    rw [HV.out]
    have hl := HL.out
    clear HB HP HV HL x0 x1 x2 x3 x4 x5 x6 x7 x8 x9
    simp_all
    all_goals first | omega | (rw [Bool.eq_iff_iff]; simp; omega)
set_option maxHeartbeats 2000000 in
theorem rright_2 (o oi : Nat → Int) (w : World) (hb : -9223372036854775808 ≤ o 1 ∧ o 1 ≤ 9223372036854775807) (hk : o 0 = 2) :
    Calls Tryd.prog 54 #[.agg (objC o oi)] w fun e w' => e = .returned (.bool (rightS o)) ∧ Keeps (fun _ => False) w w' := by
  have HB := Lib.hid ((Has.start w).alloc (.cells (objC o oi) 49))
  have HP := Lib.hid (fun w => rpower_any (o 1) w hb.1 hb.2)
  have HV := Lib.hid (show rightS o = ((o 1 == 0) && ((decide (1 ≤ o 2) && decide (o 2 ≤ 4)) && (o 3 == 0))) from by unfold rightS; simp [hk])
  have HL := Lib.hid (show decide (64 < o 1) = !decide (o 1 ≤ 64) from by rw [Bool.eq_iff_iff]; simp)
  have hn : ∀ q : Int, (q != 0) = !(q == 0) := fun _ => rfl
  have d1 : (o 0 == 1) = false := by rw [hk]; rfl
  have d3 : (o 0 == 3) = false := by rw [hk]; rfl
  have d4 : (o 0 == 4) = false := by rw [hk]; rfl
  have d5 : decide (1 ≤ o 0) = true := decide_eq_true (by omega)
  have d6 : decide (o 0 ≤ 4) = true := decide_eq_true (by omega)
  clear hb hk
  go_enter Tryd.func54, Tryd.ntmps54
  go_wp2_with fail
  go_quiet (fail)
  replace HB := Lib.hid (HB.out.none ((Keeps.refl _ _).drewN nq))
  obtain ⟨x0, x1, x2, x3, x4, x5, x6, x7, x8, x9⟩ := ten_cells (HB.out.at 0 rfl)
  go_wp2_with (first
    | (go_at_call 64; refine (within_any _ _ _ _).mono ?_; rintro e w' ⟨rfl, rfl⟩)
    | (go_at_call 65; refine (HP.out _).mono ?_; rintro e w' ⟨rfl, rfl⟩))
  all_goals
    go_ret
    refine ⟨ret_bool ?_, HB.out.keeps⟩
    rw [HV.out]
    have hl := HL.out
    clear HB HP HV HL x0 x1 x2 x3 x4 x5 x6 x7 x8 x9
    simp_all
    all_goals first | omega | (rw [Bool.eq_iff_iff]; simp; omega)
set_option maxHeartbeats 2000000 in
theorem rright_3 (o oi : Nat → Int) (w : World) (hb : -9223372036854775808 ≤ o 1 ∧ o 1 ≤ 9223372036854775807) (hk : o 0 = 3) :
    Calls Tryd.prog 54 #[.agg (objC o oi)] w fun e w' => e = .returned (.bool (rightS o)) ∧ Keeps (fun _ => False) w w' := by
  have HB := Lib.hid ((Has.start w).alloc (.cells (objC o oi) 49))
  have HP := Lib.hid (fun w => rpower_any (o 1) w hb.1 hb.2)
  have HV := Lib.hid (show rightS o = ((o 1 == 0) && ((decide (1 ≤ o 2) && decide (o 2 ≤ 4)) && (decide (0 ≤ o 3) && decide (o 3 ≤ 8)))) from by unfold rightS; simp [hk])
  have HL := Lib.hid (show decide (64 < o 1) = !decide (o 1 ≤ 64) from by rw [Bool.eq_iff_iff]; simp)
  have hn : ∀ q : Int, (q != 0) = !(q == 0) := fun _ => rfl
  have d1 : (o 0 == 1) = false := by rw [hk]; rfl
  have d3 : (o 0 == 3) = true := by rw [hk]; rfl
  have d4 : (o 0 == 4) = false := by rw [hk]; rfl
  have d5 : decide (1 ≤ o 0) = true := decide_eq_true (by omega)
  have d6 : decide (o 0 ≤ 4) = true := decide_eq_true (by omega)
  clear hb hk
  go_enter Tryd.func54, Tryd.ntmps54
  go_wp2_with fail
  go_quiet (fail)
  replace HB := Lib.hid (HB.out.none ((Keeps.refl _ _).drewN nq))
  obtain ⟨x0, x1, x2, x3, x4, x5, x6, x7, x8, x9⟩ := ten_cells (HB.out.at 0 rfl)
  go_wp2_with (first
    | (go_at_call 64; refine (within_any _ _ _ _).mono ?_; rintro e w' ⟨rfl, rfl⟩)
    | (go_at_call 65; refine (HP.out _).mono ?_; rintro e w' ⟨rfl, rfl⟩))
  all_goals
    go_ret
    refine ⟨ret_bool ?_, HB.out.keeps⟩
    rw [HV.out]
    have hl := HL.out
    clear HB HP HV HL x0 x1 x2 x3 x4 x5 x6 x7 x8 x9
    simp_all
    all_goals first | omega | (rw [Bool.eq_iff_iff]; simp; omega)
set_option maxHeartbeats 2000000 in
theorem rright_4 (o oi : Nat → Int) (w : World) (hb : -9223372036854775808 ≤ o 1 ∧ o 1 ≤ 9223372036854775807) (hk : o 0 = 4) :
    Calls Tryd.prog 54 #[.agg (objC o oi)] w fun e w' => e = .returned (.bool (rightS o)) ∧ Keeps (fun _ => False) w w' := by
  have HB := Lib.hid ((Has.start w).alloc (.cells (objC o oi) 49))
  have HP := Lib.hid (fun w => rpower_any (o 1) w hb.1 hb.2)
  have HV := Lib.hid (show rightS o = ((o 1 == 0) && ((o 2 == 0) && (o 3 == 0))) from by unfold rightS; simp [hk])
  have HL := Lib.hid (show decide (64 < o 1) = !decide (o 1 ≤ 64) from by rw [Bool.eq_iff_iff]; simp)
  have hn : ∀ q : Int, (q != 0) = !(q == 0) := fun _ => rfl
  have d1 : (o 0 == 1) = false := by rw [hk]; rfl
  have d3 : (o 0 == 3) = false := by rw [hk]; rfl
  have d4 : (o 0 == 4) = true := by rw [hk]; rfl
  have d5 : decide (1 ≤ o 0) = true := decide_eq_true (by omega)
  have d6 : decide (o 0 ≤ 4) = true := decide_eq_true (by omega)
  clear hb hk
  go_enter Tryd.func54, Tryd.ntmps54
  go_wp2_with fail
  go_quiet (fail)
  replace HB := Lib.hid (HB.out.none ((Keeps.refl _ _).drewN nq))
  obtain ⟨x0, x1, x2, x3, x4, x5, x6, x7, x8, x9⟩ := ten_cells (HB.out.at 0 rfl)
  go_wp2_with (first
    | (go_at_call 64; refine (within_any _ _ _ _).mono ?_; rintro e w' ⟨rfl, rfl⟩)
    | (go_at_call 65; refine (HP.out _).mono ?_; rintro e w' ⟨rfl, rfl⟩))
  all_goals
    go_ret
    refine ⟨ret_bool ?_, HB.out.keeps⟩
    rw [HV.out]
    have hl := HL.out
    clear HB HP HV HL x0 x1 x2 x3 x4 x5 x6 x7 x8 x9
    simp_all
    all_goals first | omega | (rw [Bool.eq_iff_iff]; simp; omega)
theorem rright_any (o oi : Nat → Int) (w : World) (hb : -9223372036854775808 ≤ o 1 ∧ o 1 ≤ 9223372036854775807) (hk : 1 ≤ o 0 ∧ o 0 ≤ 4) :
    Calls Tryd.prog 54 #[.agg (objC o oi)] w fun e w' => e = .returned (.bool (rightS o)) ∧ Keeps (fun _ => False) w w' := by
  rcases (by omega : o 0 = 1 ∨ o 0 = 2 ∨ o 0 = 3 ∨ o 0 = 4) with h | h | h | h
  · exact rright_1 o oi w hb h
  · exact rright_2 o oi w hb h
  · exact rright_3 o oi w hb h
  · exact rright_4 o oi w hb h
end Go.Proofs.YtohajfkekkelhaaDoor
