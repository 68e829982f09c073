import Derived.Test.YtlpnobpgphmngabDoorGateNil
import Derived.Test.YtlpnobpgphmngabDoorRow
namespace Go.Proofs.YtlpnobpgphmngabDoor
open Go.ChangeShapes Go.WideShapes Go.ChangeAt Go.RowKit
set_option linter.unusedVariables false
theorem shift_one {x k : Nat} (h : x < 2 ^ (k + 1)) (hb : x.testBit k = true) : x / 2 ^ k = 1 := by
  have h2 : x / 2 ^ k < 2 := by rw [Nat.div_lt_iff_lt_mul (Nat.two_pow_pos k)]; rw [Nat.pow_succ, Nat.mul_comm] at h; exact h
  rw [Nat.testBit_eq_decide_div_mod_eq] at hb
  have h3 : x / 2 ^ k % 2 = 1 := of_decide_eq_true hb
  generalize x / 2 ^ k = z at *
  omega
theorem clr_sub {x k : Nat} (hx : x < 4294967296) (h : x < 2 ^ (k + 1)) (hb : x.testBit k = true) : clrB x k = x - 2 ^ k ∧ 2 ^ k ≤ x ∧ clrB x k < 2 ^ k := by
  have h1 := shift_one h hb
  have hm := Nat.div_add_mod x (2 ^ k)
  rw [h1, Nat.mul_one] at hm
  have hr := Nat.mod_lt x (Nat.two_pow_pos k)
  have e : clrB x k = x % 2 ^ k := by
    apply Nat.eq_of_testBit_eq
    intro j
    rw [clrB_testBit hx, Nat.testBit_mod_two_pow]
    by_cases hj : j < k
    · have : ¬ (j : Int) = (k : Int) := by omega
      simp [hj, this]
    · by_cases he : j = k
      · subst he; simp
      · have hz : x.testBit j = false := Nat.testBit_lt_two_pow (Nat.lt_of_lt_of_le h (Nat.pow_le_pow_right (by omega) (by omega)))
        simp [hz]
  rw [e]
  generalize 2 ^ k = z at *
  omega
/-- What holds at each round's head: the gate, and how many were raised. -/
structure GInv (w wr : World) (b k r : Nat) (s : GS) : Prop where
  at_ : GateAt w wr b s
  count : r = s.en + popc s.x
  t : s.t ≤ k
  m : s.m ≤ k
  en : s.en ≤ k
theorem GInv.r {w wr : World} {b k r : Nat} {s : GS} (h : GInv w wr b k r s) : r ≤ k + 32 := by have := popc_le s.x; have := h.count; have := h.en; omega
set_option maxRecDepth 20000 in
set_option maxHeartbeats 1000000 in
theorem gateHighest_plain (lv : Int) (a0 : Option Addr) (n cap : Nat) (F : Nat → Int) (w : World) (hn : n ≤ 100) (hr : Row w a0 n F)
    (hT : TabAt 0 Lib.deBruijn32tab w) (hg : 0 < w.heap.size) :
    Calls Tryd.prog 4 #[.int .i64 lv, .slice a0 n cap] w fun e w' => e = .returned (.bool true) ∧ Below w.heap.size w w' := by
  have hd : decide (100 < (n : Int)) = false := by simp; omega
  have HR := Lib.hid hr
  have HT := Lib.hid (And.intro hT hg)
  clear hr hT hg
  go_enter Tryd.func4, Tryd.ntmps4
  go_wp2_with fail
  refine (gnew lv w).mono ?_
  rintro e w0 ⟨rfl, h0, k0⟩
  have hz : GInv w w0 w.heap.size 0 0 (GS.zero (min (max lv 0) 31).toNat) := ⟨⟨h0, k0.none, Nat.le_refl _, good_zero _ (by omega)⟩, by simp [GS.zero, popc_zero], Nat.le_refl _, Nat.le_refl _, Nat.le_refl _⟩
  have P0 := Lib.hid hz
  clear h0 k0 hz
  obtain ⟨wo, rfl⟩ : ∃ wo : World, wo = w := ⟨_, rfl⟩
  go_wp2_with fail
  go_loopw [6, 7] (fun r i wr => ∃ (k q : Nat) (s : GS), k ≤ n ∧ i = .int .i64 k ∧ r = .int .i64 q ∧ GInv wo wr wo.heap.size k q s) (fun _ i _ => n - (intOf i).toNat)
  case atStart => exact ⟨0, 0, _, by omega, rfl, rfl, P0.out⟩
  case round =>
    obtain ⟨k, q, s, hk, rfl, rfl, hI⟩ := hrel
    have hq := hI.r
    have HI := Lib.hid hI
    clear hI P0
    by_cases hlt : k < n
    · obtain ⟨b, off, rfl, hb, hc⟩ := (HR.out.below HI.out.at_.below) (by omega)
      have hcell := hc k hlt
      clear hc
      by_cases h0 : 0 ≤ F k
      · have hd0 : decide (0 ≤ F k) = true := by simp; exact h0
        by_cases hfar : (s.mo : Int) < F k
        · go_wp2_with fail
          refine (graise_far _ s _ _ HI.out.at_.is hfar).mono ?_
          rintro e w' ⟨rfl, rfl⟩
          go_wp2_with fail
          go_roundw
          case rel => exact ⟨k + 1, q, s, by omega, by go_num, rfl, ⟨HI.out.at_, HI.out.count, by have := HI.out.t; omega, by have := HI.out.m; omega, by have := HI.out.en; omega⟩⟩
          case measure => simp [intOf]; omega
        · obtain ⟨j, hj⟩ := Int.eq_ofNat_of_zero_le h0
          have hjm : j ≤ s.mo := by omega
          cases hb : s.x.testBit j
          · have HC := Lib.hid (g_raise_step (k := j) HI.out.at_ hjm hb)
            rw [hj] at hcell hd0
            have HBIT := Lib.hid hb
            have HJ := Lib.hid hj
            clear hb hj hfar h0
            go_wp2_with fail
            refine HC.out.mono ?_
            rintro e w1 ⟨rfl, g1⟩
            go_wp2_with fail
            go_roundw
            case rel => exact ⟨k + 1, q + 1, _, by omega, by go_num, by go_num, ⟨g1, by show q + 1 = s.en + popc (setB s.x j); have := popc_set (by have := HI.out.at_.good.mo; omega) HBIT.out; have := HI.out.count; omega, by have := HI.out.t; show s.t ≤ k + 1; omega, by have := HI.out.m; show s.m ≤ k + 1; omega, by have := HI.out.en; show s.en ≤ k + 1; omega⟩⟩
            case measure => simp [intOf]; omega
          · have HC := Lib.hid ((graise_near _ s j _ HI.out.at_.is (by omega) (Q := fun _ w' => IsGate w' _ { s with m := s.m + 1 } ∧ Keeps (fun k => k = wo.heap.size) wr w') false (gpraise_had _ j s wr HI.out.at_.good.x HI.out.at_.good.m HI.out.at_.is (by have := HI.out.at_.good.mo; omega) hb)))
            rw [hj] at hcell hd0
            have HJ := Lib.hid hj
            clear hb hj hfar h0
            go_wp2_with fail
            refine HC.out.mono ?_
            rintro e w1 ⟨rfl, g1, k1⟩
            go_wp2_with fail
            go_roundw
            case rel => exact ⟨k + 1, q, _, by omega, by go_num, by rfl, ⟨HI.out.at_.step g1 k1 (good_merge HI.out.at_.good (by have := HI.out.m; omega)), HI.out.count, by have := HI.out.t; show s.t ≤ k + 1; omega, by have := HI.out.m; show s.m + 1 ≤ k + 1; omega, by have := HI.out.en; show s.en ≤ k + 1; omega⟩⟩
            case measure => simp [intOf]; omega
      · have hd0 : decide (0 ≤ F k) = false := by simp; omega
        by_cases h1 : F k < -1
        · have hd1 : decide (F k < -1) = true := by simp; exact h1
          cases hdd : s.d with
          | zero =>
            have HC := Lib.hid (gleave_no _ s _ hdd HI.out.at_.is)
            clear hdd
            go_wp2_with fail
            refine HC.out.mono ?_
            rintro e w1 ⟨rfl, rfl⟩
            go_wp2_with fail
            go_roundw
            case rel => exact ⟨k + 1, q, s, by omega, by go_num, rfl, ⟨HI.out.at_, HI.out.count, by have := HI.out.t; omega, by have := HI.out.m; omega, by have := HI.out.en; omega⟩⟩
            case measure => simp [intOf]; omega
          | succ d =>
            have HC := Lib.hid (g_leave_step (d := d) HI.out.at_ hdd)
            clear hdd
            go_wp2_with fail
            refine HC.out.mono ?_
            rintro e w1 ⟨rfl, g1⟩
            go_wp2_with fail
            go_roundw
            case rel => exact ⟨k + 1, q, _, by omega, by go_num, rfl, ⟨g1, HI.out.count, by have := HI.out.t; show s.t ≤ k + 1; omega, by have := HI.out.m; show s.m ≤ k + 1; omega, by have := HI.out.en; show s.en ≤ k + 1; omega⟩⟩
            case measure => simp [intOf]; omega
        · have hd1 : decide (F k < -1) = false := by simp; omega
          have hle := HI.out.at_.good.rises.le
          have htop := HI.out.at_.good.rises.top
          go_wp2_with fail
          refine (gpending _ s _ HI.out.at_.is).mono ?_
          rintro e w1 ⟨rfl, rfl⟩
          go_wp2_with fail
          refine (glevel _ s _ hle HI.out.at_.is).mono ?_
          rintro e w1 ⟨rfl, nd, rfl⟩
          go_wp2_with fail
          by_cases hy : s.x ≠ 0 ∧ topV s.L s.d < (Lib.bitLen s.x : Int) - 1
          · obtain ⟨hx0, hlt2⟩ := hy
            obtain ⟨b1, b2, b3, b4⟩ := high_spec HI.out.at_.good.x hx0
            obtain ⟨K, hK⟩ : ∃ K, Lib.bitLen s.x = K + 1 := ⟨Lib.bitLen s.x - 1, by omega⟩
            rw [hK] at b2 b3 b4 hlt2
            have hltK : topV s.L s.d < (K : Int) := by omega
            have hbK : s.x.testBit K = true := b3
            have hxK : s.x < 2 ^ (K + 1) := Nat.lt_pow_two_of_testBit _ fun i hi => b4 i hi
            have hKm : K ≤ s.mo := by
              rcases Nat.lt_or_ge s.mo K with h | h
              · have := HI.out.at_.good.up K h; rw [hbK] at this; cases this
              · exact h
            have hpc := popc_clr HI.out.at_.good.x (k := K) b2 hbK
            have HC := Lib.hid (g_next_step (k := K) (HI.out.at_.drewN nd) hKm hltK hbK hxK (by have := HI.out.t; omega) (by have := HI.out.en; omega))
            have HPC := Lib.hid hpc
            have t0 : decide ((K : Int) < -1) = false := decide_eq_false (by omega)
            have t1 : decide ((K : Int) < 0) = false := by simp
            have h1 : ((s.x : Int) / 2 ^ K != 1) = false := by
              have e := b3
              have hd1 : s.x / 2 ^ K = 1 := shift_one hxK hbK
              have : ((s.x : Int) / 2 ^ K) = ((s.x / 2 ^ K : Nat) : Int) := by simp
              rw [this, hd1]; rfl
            have h2 : (((clrB s.x (K : Int) : Nat) : Int) != ((s.x : Int) - 2 ^ K) % 4294967296) = false := by
              obtain ⟨e1, e2, e3⟩ := clr_sub HI.out.at_.good.x hxK hbK
              have e4 : ((2 : Int) ^ K) = ((2 ^ K : Nat) : Int) := by simp
              have hx32 := HI.out.at_.good.x
              rw [e4]
              generalize 2 ^ K = z at *
              simp
              omega
            have h3 : (((clrB s.x (K : Int) : Nat) : Int) / 2 ^ (K + 1) != 0) = false := by
              obtain ⟨e1, e2, e3⟩ := clr_sub HI.out.at_.good.x hxK hbK
              have e5 : clrB s.x (K : Int) / 2 ^ (K + 1) = 0 := Nat.div_eq_of_lt (Nat.lt_of_lt_of_le e3 (Nat.pow_le_pow_right (by omega) (by omega)))
              have e6 : ((clrB s.x (K : Int) : Nat) : Int) / 2 ^ (K + 1) = ((clrB s.x (K : Int) / 2 ^ (K + 1) : Nat) : Int) := by simp
              rw [e6, e5]; rfl
            generalize htp : topV s.L s.d = tp at *
            have t2 : decide ((K : Int) ≤ tp) = false := by simp; omega
            have HTP := Lib.hid htp
            clear b1 b3 b4 hx0 hlt2 hK hbK hxK hpc htp
            refine HC.out.mono ?_
            rintro e w1 ⟨rfl, q', g1⟩
            have G1 := Lib.hid g1
            have hle1 := g1.good.rises.le
            have hLV : ∀ m, Calls Tryd.prog 23 #[.pointer (some ⟨wo.heap.size, 0, none⟩)] (w1.drewN m) fun e w' => e = .returned (.int .i64 K) ∧ ∃ n, w' = (w1.drewN m).drewN n := fun m => by
              have := glevel _ _ _ hle1 (g1.is.drewN m)
              rwa [show topV (fun i => if i = s.d then (K : Int) else s.L i) (s.d + 1) = K from if_pos rfl] at this
            have hPN : ∀ m, Calls Tryd.prog 22 #[.pointer (some ⟨wo.heap.size, 0, none⟩)] (w1.drewN m) fun e w' => e = .returned (.int .u32 (clrB s.x K : Nat)) ∧ (w1.drewN m) = w' := fun m => gpending _ _ _ (g1.is.drewN m)
            have HLV := Lib.hid (And.intro hLV hPN)
            clear g1 HC hLV hPN
            go_wp2_with fail
            go_quiet ((first
              | (go_at_call 23; exact Calls.quiet_of (HLV.out.1 _))
              | (go_at_call 22; exact Calls.quiet_of_same ((HLV.out.2 _).mono fun _ _ h => ⟨h.1, h.2.symm⟩))))
            have hcl := clrB_lt HI.out.at_.good.x (K : Int)
            generalize hcy : clrB s.x (K : Int) = y at *
            have HCY := Lib.hid hcy
            clear hcy
            by_cases h31 : K < 31
            · have t3 : decide ((K : Int) < 31) = true := by simp; omega
              go_wp2_with fail
              refine (HLV.out.2 _).mono ?_
              rintro e w' ⟨rfl, rfl⟩
              go_wp2_with fail
              go_roundw
              case rel => exact ⟨k + 1, q, _, by omega, by go_num, rfl, ⟨G1.out.drewN _, by show q = (s.en + 1) + popc y; have := HPC.out; have := HI.out.count; omega, by have := HI.out.t; show s.t + 1 ≤ k + 1; omega, by have := HI.out.m; show s.m ≤ k + 1; omega, by have := HI.out.en; show s.en + 1 ≤ k + 1; omega⟩⟩
              case measure => simp [intOf]; omega
            · have t3 : decide ((K : Int) < 31) = false := by simp; omega
              go_wp2_with fail
              go_roundw
              case rel => exact ⟨k + 1, q, _, by omega, by go_num, rfl, ⟨G1.out.drewN _, by show q = (s.en + 1) + popc y; have := HPC.out; have := HI.out.count; omega, by have := HI.out.t; show s.t + 1 ≤ k + 1; omega, by have := HI.out.m; show s.m ≤ k + 1; omega, by have := HI.out.en; show s.en + 1 ≤ k + 1; omega⟩⟩
              case measure => simp [intOf]; omega
          · have hn : ∀ j : Nat, topV s.L s.d < j → s.x.testBit j = false := by
              intro j hj
              by_cases hx0 : s.x = 0
              · rw [hx0]; exact Nat.zero_testBit j
              · obtain ⟨b1, b2, b3, b4⟩ := high_spec HI.out.at_.good.x hx0
                have : ¬ topV s.L s.d < (Lib.bitLen s.x : Int) - 1 := fun h => hy ⟨hx0, h⟩
                exact b4 j (by omega)
            have hx32 := HI.out.at_.good.x
            have h3 : ((s.x : Int) / 2 ^ (topV s.L s.d + 1).toNat != 0) = false := by
              have e3 : s.x < 2 ^ (topV s.L s.d + 1).toNat := Nat.lt_pow_two_of_testBit _ fun i hi => hn i (by omega)
              have e5 : s.x / 2 ^ (topV s.L s.d + 1).toNat = 0 := Nat.div_eq_of_lt e3
              have e6 : (s.x : Int) / 2 ^ (topV s.L s.d + 1).toNat = ((s.x / 2 ^ (topV s.L s.d + 1).toNat : Nat) : Int) := by simp
              rw [e6, e5]; rfl
            have HC := Lib.hid (g_stay_step (HI.out.at_.drewN nd) hn)
            clear hn hy
            generalize htp : topV s.L s.d = tp at *
            have HTP := Lib.hid htp
            clear htp
            have t0 : decide (tp < -1) = false := decide_eq_false (by omega)
            have tlo : -1 ≤ tp := by omega
            refine HC.out.mono ?_
            rintro e w1 ⟨rfl, g1⟩
            have G1 := Lib.hid g1
            have HPN := Lib.hid (gpending _ _ _ g1.is)
            clear g1 HC
            go_wp2_with fail
            refine HPN.out.mono ?_
            rintro e w' ⟨rfl, rfl⟩
            by_cases h31 : tp < 31
            · have t3 : decide (tp < 31) = true := by simp; omega
              go_wp2_with fail
              refine HPN.out.mono ?_
              rintro e w' ⟨rfl, rfl⟩
              go_wp2_with fail
              go_roundw
              case rel => exact ⟨k + 1, q, s, by omega, by go_num, rfl, ⟨G1.out, HI.out.count, by have := HI.out.t; omega, by have := HI.out.m; omega, by have := HI.out.en; omega⟩⟩
              case measure => simp [intOf]; omega
            · have t3 : decide (tp < 31) = false := by simp; omega
              go_wp2_with fail
              go_roundw
              case rel => exact ⟨k + 1, q, s, by omega, by go_num, rfl, ⟨G1.out, HI.out.count, by have := HI.out.t; omega, by have := HI.out.m; omega, by have := HI.out.en; omega⟩⟩
              case measure => simp [intOf]; omega
    · obtain rfl : k = n := by omega
      go_wp2_with fail
      refine (gpending _ s _ HI.out.at_.is).mono ?_
      rintro e w' ⟨rfl, rfl⟩
      go_wp2_with fail
      obtain ⟨w1, rfl⟩ : ∃ w1 : World, w1 = wr := ⟨_, rfl⟩
      go_loop [12, 13] (fun l y => ∃ j : Nat, j ≤ 32 ∧ l = .int .i64 ((pop j s.x : Nat) : Int) ∧ y = .int .u32 ((s.x / 2 ^ j : Nat) : Int)) (fun _ y => (intOf y).toNat)
      case atStart => exact ⟨0, by omega, by simp [pop], by simp⟩
      case round =>
        obtain ⟨j, hj, rfl, rfl⟩ := hrel
        have hps := pop_succ j s.x
        have hpd := @pop_done j s.x hj
        have hjl := pop_le j s.x
        have hlt : s.x / 2 ^ j < 4294967296 := Nat.lt_of_le_of_lt (Nat.div_le_self _ _) HI.out.at_.good.x
        have hjz : s.x / 2 ^ j ≠ 0 → j < 32 := by
          intro hz
          rcases Nat.lt_or_ge j 32 with h | h
          · exact h
          · exact absurd (Nat.div_eq_of_lt (Nat.lt_of_lt_of_le HI.out.at_.good.x (Nat.pow_le_pow_right (by omega) h : 2 ^ 32 ≤ 2 ^ j))) hz
        have hd2 : s.x / 2 ^ (j + 1) = s.x / 2 ^ j / 2 := by rw [Nat.pow_succ, Nat.div_div_eq_div_mul]
        have HH := Lib.hid (And.intro hps (And.intro hpd (And.intro hjz hd2)))
        clear hps hpd hjz hd2
        generalize hpy : pop j s.x = p at *
        generalize hzy : s.x / 2 ^ j = z at *
        have HPZ := Lib.hid (And.intro hpy hzy)
        clear hpy hzy
        by_cases hz : z = 0
        · subst hz
          obtain rfl : p = popc s.x := HH.out.2.1 rfl
          obtain rfl : q = s.en + popc s.x := HI.out.count
          go_wp2_with fail
          refine (gcount _ s _ HI.out.at_.is HI.out.at_.good (tab_keeps HT.out.1 HT.out.2 (Keeps.ofBelow HI.out.at_.below) fun h => h) (Nat.lt_of_lt_of_le HT.out.2 HI.out.at_.below.size)).mono ?_
          rintro e w2 ⟨rfl, k2⟩
          have K2 := Lib.hid (HI.out.at_.below.trans (k2.none.mono HI.out.at_.below.size))
          clear k2
          have hpl := popc_le s.x
          have hen := HI.out.en
          go_wp2_with fail
          refine (alive09_any _).mono ?_
          rintro e w3 ⟨rfl, hb⟩
          go_wp2
          go_ret
          exact ⟨rfl, K2.out.trans (hb.mono K2.out.size)⟩
        · have hz0 : ((z : Int) != 0) = true := by simp; omega
          have hj32 := HH.out.2.2.1 hz
          go_wp2
          go_round
          case rel => exact ⟨j + 1, by omega, by rw [HH.out.1]; go_num, by rw [HH.out.2.2.2]; go_num⟩
          case measure => simp [intOf]; omega
set_option maxRecDepth 20000 in
theorem gateHighest_large (lv : Int) (a0 : Option Addr) (n cap : Nat) (w : World) (hm : n ≤ maxLen) (hn : 100 < n) :
    Calls Tryd.prog 4 #[.int .i64 lv, .slice a0 n cap] w fun e w' => e = .returned (.bool true) ∧ Below w.heap.size w w' := by
  unfold maxLen at hm
  have hd : decide (100 < (n : Int)) = true := by simp; omega
  go_enter Tryd.func4, Tryd.ntmps4
  go_wp2_with fail
  refine (alive09_any _).mono ?_
  rintro e w13 ⟨rfl, hb⟩
  go_wp2
  go_ret
  exact ⟨rfl, hb⟩
def gateHighestLaid := tabLaid
theorem gateHighest_walk {H : Type} {enc : TypeId × Value → H} (W : World) (base : Nat) {v0 v1 : Value} {d0 d1 : DataW H} {p0 p1 : List MemPlace}
    (k0 : Value.okWide Tryd.prog W .any base 3 v0) (h0 : DataW.Trod enc Tryd.prog W 0 (fun _ => true) true 3 v0 d0 p0)
    (k1 : Value.okWide Tryd.prog W .any base 22 v1) (h1 : DataW.Trod enc Tryd.prog W 0 (fun _ => true) true 22 v1 d1 p1)
    (hL : laidMetH Tryd.prog gateHighestLaid W) :
    Calls Tryd.prog 4 #[v0, v1] W fun e w' => e = .returned (.bool true) ∧ Below W.heap.size W w' := by
  obtain ⟨hT, hg⟩ := tab_of hL
  obtain ⟨k, rfl⟩ := okWide_int Tryd.underlying3 k0
  obtain ⟨a, n, cap, F, rfl, hm, hr, _⟩ := row_of k1 h1
  by_cases hn : n ≤ 100
  · exact gateHighest_plain k a n cap F W hn hr hT hg
  · exact gateHighest_large k a n cap W hm (by omega)
end Go.Proofs.YtlpnobpgphmngabDoor
