import Derived.Test.YtffhmlngnnfaeaaDoorWordRefList
import Derived.Test.YtffhmlngnnfaeaaDoorSame
namespace Go.Proofs.YtffhmlngnnfaeaaDoor
open Go.ChangeShapes Go.WideShapes Go.ChangeAt Go.RowKit
set_option linter.unusedVariables false
theorem ints_len (l : List Nat) : (ints l).length = l.length := by simp [ints]
theorem ints_get (l : List Nat) (i : Nat) (h : i < l.length) : (ints l)[i]? = some (.int .i64 (l[i] : Int)) := by simp [ints, h]
theorem own_ints {w : World} {B : Nat} {v : Value} {l : List Nat} (h : w.ownsRow B 3 1 v l.length (ints l)) (hp : 0 < l.length) :
    ∃ g cap, v = .slice (some ⟨g, 0, none⟩) l.length cap ∧ B ≤ g ∧ g < w.heap.size ∧ ∀ i, (hi : i < l.length) → w.cell? ⟨g, i, none⟩ = some (.int .i64 (l[i] : Int)) := by
  have h' : w.ownsRow B 3 1 v (ints l).length (ints l) := by rw [ints_len]; exact h
  obtain ⟨g, cap, hv, hg, hlt, hc⟩ := own_cell h' (by rw [ints_len]; exact hp)
  rw [ints_len] at hv hc
  exact ⟨g, cap, hv, hg, hlt, fun i hi => (hc i hi).trans (ints_get l i hi)⟩
/-- The least bit, or -1. -/
def lowV (x : Nat) : Int := if x = 0 then -1 else Lib.ctz 32 x
theorem rlow_any (x : Nat) (w : World) (hx : x < 4294967296) :
    Calls Tryd.prog 12 #[.int .u32 x] w fun e w' => e = .returned (.int .i64 (lowV x)) ∧ Keeps (fun _ => False) w w' := by
  go_enter Tryd.func12, Tryd.ntmps12
  go_wp2_with fail
  refine (rlist_any x _ hx).mono ?_
  rintro e w1 ⟨v, rfl, hown, hb⟩
  by_cases h0 : x = 0
  · subst h0
    rw [bitsL_zero] at hown
    obtain ⟨a, cap, rfl⟩ := own_zero hown
    go_wp2
    go_ret
    exact ⟨rfl, Keeps.ofBelow hb⟩
  · have hc := bitsL_cons hx h0
    obtain ⟨g, cap, rfl, hg, hlt, hcell⟩ := own_ints hown (by rw [hc]; simp)
    have c0 : w1.cell? ⟨g, 0, none⟩ = some (.int .i64 (Lib.ctz 32 x : Nat)) := by
      rw [hcell 0 (by rw [hc]; simp)]
      simp [hc]
    have hl : 0 < (bitsL x).length := by rw [hc]; simp
    have hz : (((bitsL x).length : Int) == 0) = false := beq_eq_false_iff_ne.2 (by omega)
    have hpos : (0 : Int) < ((bitsL x).length : Int) := by omega
    have hv : lowV x = Lib.ctz 32 x := by simp [lowV, h0]
    have HV := Lib.hid hv
    have HB := Lib.hid hb
    clear hc hcell hown hv hb
    go_wp2
    go_ret
    exact ⟨ret_i64 HV.out.symm, Keeps.ofBelow HB.out⟩
theorem rhigh_any (x : Nat) (w : World) (hx : x < 4294967296) :
    Calls Tryd.prog 14 #[.int .u32 x] w fun e w' => e = .returned (.int .i64 ((Lib.bitLen x : Int) - 1)) ∧ Keeps (fun _ => False) w w' := by
  go_enter Tryd.func14, Tryd.ntmps14
  go_wp2_with fail
  refine (rlist_any x _ hx).mono ?_
  rintro e w1 ⟨v, rfl, hown, hb⟩
  have hbl := bitsL_len x
  by_cases h0 : x = 0
  · subst h0
    rw [bitsL_zero] at hown
    obtain ⟨a, cap, rfl⟩ := own_zero hown
    clear hbl
    go_wp2
    go_ret
    exact ⟨by rw [bitLen_zero]; rfl, Keeps.ofBelow hb⟩
  · have hlast := bitsL_last hx h0
    have hpos : 0 < (bitsL x).length := by rw [bitsL_high hx h0]; simp
    obtain ⟨g, cap, rfl, hg, hlt, hcell⟩ := own_ints hown hpos
    have h1 := (high_spec hx h0).1
    have c0 : w1.cell? ⟨g, (bitsL x).length - 1, none⟩ = some (.int .i64 ((Lib.bitLen x : Int) - 1)) := by
      rw [hcell _ (by omega)]
      rw [List.getElem?_eq_getElem (by omega)] at hlast
      rw [Option.some.inj hlast]
      congr 2
      omega
    have hz : (((bitsL x).length : Int) == 0) = false := beq_eq_false_iff_ne.2 (by omega)
    have HB := Lib.hid hb
    clear hlast hcell hown hb
    go_wp2
    go_ret
    exact ⟨rfl, Keeps.ofBelow HB.out⟩
theorem rmask_any (n : Int) (w : World) (hlo : -9223372036854775808 ≤ n) (hhi : n ≤ 9223372036854775807) :
    Calls Tryd.prog 18 #[.int .i64 n] w fun e w' => e = .returned (.int .u32 ((2 ^ low n - 1 : Nat) : Int)) ∧ Keeps (fun _ => False) w w' := by
  go_enter Tryd.func18, Tryd.ntmps18
  go_wp2_with fail
  obtain ⟨wo, rfl⟩ : ∃ wo : World, wo = w := ⟨_, rfl⟩
  go_loopw [3, 4] (fun y i wr => ∃ k : Nat, k ≤ low n ∧ i = .int .i64 k ∧ y = .int .u32 ((2 ^ k - 1 : Nat) : Int) ∧ Keeps (fun _ => False) wo wr) (fun _ i _ => low n - (intOf i).toNat)
  case atStart => exact ⟨0, by omega, rfl, rfl, Keeps.refl _ _⟩
  case round =>
    obtain ⟨k, hk, rfl, rfl, hK⟩ := hrel
    have hl : low n ≤ 32 := by unfold low; omega
    have hp : 2 ^ k ≤ 2 ^ 32 := Nat.pow_le_pow_right (by omega) (by omega)
    have hp0 : 0 < 2 ^ k := Nat.two_pow_pos k
    have hz : 2 ^ k - 1 < 4294967296 := by
      have : (2 : Nat) ^ 32 = 4294967296 := rfl
      omega
    by_cases hlt : k < low n
    · have e0 : decide ((k : Int) < n) = true := by unfold low at hlt; simp; omega
      have e1 : decide ((k : Int) < 32) = true := by simp; omega
      have hs := mask_set k (by omega)
      have HS := Lib.hid hs
      have HK := Lib.hid hK
      clear hs hK hp hp0
      generalize hy : 2 ^ k - 1 = y at *
      have HY := Lib.hid hy
      clear hy
      go_wp2_with fail
      refine (rput_any y k true _ hz).mono ?_
      rintro e w1 ⟨rfl, hK1⟩
      go_wp2
      go_roundw
      case rel => exact ⟨k + 1, by omega, by go_num, by rw [← HS.out], HK.out.trans hK1⟩
      case measure => simp [intOf]; omega
    · obtain rfl : k = low n := by omega
      have hor : n ≤ (low n : Int) ∨ 32 ≤ (low n : Int) := by unfold low; omega
      clear hlt hp hp0
      generalize hy : 2 ^ low n - 1 = y at *
      have HY := Lib.hid hy
      clear hy hk
      obtain ⟨m, hm⟩ : ∃ m, m = low n := ⟨_, rfl⟩
      rw [← hm] at hor hl ⊢
      have HM := Lib.hid hm
      clear hm
      rcases hor with h | h
      · have e0 : decide ((m : Int) < n) = false := by simp; omega
        go_wp2
        go_ret
        exact ⟨ret_u32 (by rw [HY.out]), hK⟩
      · have e1 : decide ((m : Int) < 32) = false := by simp; omega
        go_wp2
        all_goals
          go_ret
          exact ⟨ret_u32 (by rw [HY.out]), hK⟩
theorem rof_zero (a0 : Option Addr) (cap : Nat) (w : World) :
    Calls Tryd.prog 22 #[.slice a0 0 cap] w fun e w' => e = .returned (.int .u32 0) ∧ Keeps (fun _ => False) w w' := by
  go_enter Tryd.func22, Tryd.ntmps22
  go_wp2_with fail
  obtain ⟨wo, rfl⟩ : ∃ wo : World, wo = w := ⟨_, rfl⟩
  go_loopw [3, 4] (fun y i wr => i = .int .i64 0 ∧ y = .int .u32 0 ∧ wr = wo) (fun _ _ _ => 0)
  case atStart => exact ⟨rfl, rfl, rfl⟩
  case round =>
    obtain ⟨rfl, rfl, rfl⟩ := hrel
    go_wp2
    go_ret
    exact ⟨rfl, Keeps.refl _ _⟩
theorem rof_any (b off n cap : Nat) (F : Nat → Int) (w : World) (hn : n ≤ maxLen) (hb : b < w.heap.size) (hc : ∀ i, i < n → w.cell? ⟨b, off + i, none⟩ = some (.int .i64 (F i))) :
    Calls Tryd.prog 22 #[.slice (some ⟨b, off, none⟩) n cap] w fun e w' => e = .returned (.int .u32 (ofs F n)) ∧ Keeps (fun _ => False) w w' := by
  unfold maxLen at hn
  have HC := Lib.hid hc
  clear hc
  go_enter Tryd.func22, Tryd.ntmps22
  go_wp2_with fail
  obtain ⟨wo, rfl⟩ : ∃ wo : World, wo = w := ⟨_, rfl⟩
  go_loopw [3, 4] (fun t i wr => ∃ k : Nat, k ≤ n ∧ i = .int .i64 k ∧ t = .int .u32 (ofs F k) ∧ Keeps (fun _ => False) wo wr) (fun _ i _ => n - (intOf i).toNat)
  case atStart => exact ⟨0, Nat.zero_le _, rfl, rfl, Keeps.refl _ _⟩
  case round =>
    obtain ⟨k, hk, rfl, rfl, hK⟩ := hrel
    by_cases hlt : k < n
    · have hcell : wr.cell? ⟨b, off + k, none⟩ = some (.int .i64 (F k)) := (World.cell?_of_block (w := wo) (hK.block b hb fun h => h)).trans (HC.out k hlt)
      have hlt' := ofs_lt F k
      have HK := Lib.hid hK
      clear hK
      go_wp2_with fail
      refine (rput_any _ _ true _ hlt').mono ?_
      rintro e w1 ⟨rfl, hK1⟩
      go_wp2
      go_roundw
      case rel => exact ⟨k + 1, by omega, by go_num, rfl, HK.out.trans hK1⟩
      case measure => simp [intOf]; omega
    · obtain rfl : k = n := by omega
      go_wp2
      go_ret
      exact ⟨rfl, hK⟩
end Go.Proofs.YtffhmlngnnfaeaaDoor
