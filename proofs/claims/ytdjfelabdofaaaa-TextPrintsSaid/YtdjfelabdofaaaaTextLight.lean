import Derived.Test.YtdjfelabdofaaaaCfD
import Derived.Test.YtdjfelabdofaaaaHas
import Derived.Test.YtdjfelabdofaaaaKerAz
import Derived.WalkKit
import Derived.ProofKit
import Derived.WalkLawsBesides
import Derived.WalkSpells
import Derived.Lib.Hide
import Derived.Handy
namespace Go.Proofs.Ytdjfelabdofaaaa
open Go.ChangeShapes Go.WideShapes Go.ChangeAt Go.RowKit
set_option linter.unusedVariables false
set_option linter.unusedSimpArgs false
theorem light3_any (c : CfD) (w : World) (hc : CfIn w c) (ho : c.Ok) :
    Calls Try.prog 5 #[.agg c.cells] w fun e w' => ∃ b, e = .returned (.bool b) ∧ (b = true → c.nT ≤ 20 ∧ c.nL ≤ 40 ∧ c.nO ≤ 20 ∧ (∀ i, i < c.nT → c.tl i ≤ 70) ∧ (∀ i, i < c.nL → c.ll i ≤ 70)) ∧ Keeps (fun _ => False) w w' := by
  have h1 := ho.t
  have h2 := ho.l
  unfold maxLen at h1 h2
  by_cases hT : 20 < c.nT
  · have d0 : decide ((20 : Int) < (c.nT : Int)) = true := decide_eq_true (by omega)
    clear hT h1 h2 hc ho
    go_enter Try.func5, Try.ntmps5
    go_wp2
    go_ret
    exact ⟨_, rfl, (fun h => by cases h), (Keeps.refl _ _).alloc _⟩
  have d0 : decide ((20 : Int) < (c.nT : Int)) = false := decide_eq_false (by omega)
  have HT := Lib.hid (show c.nT ≤ 20 from by omega)
  have HB := Lib.hid ((Has.start w).alloc (.cells c.cells 26))
  have HC := Lib.hid (show CfIn (w.alloc (.cells c.cells 26)) c from hc.none ((Keeps.refl _ _).alloc _))
  clear hT hc ho
  by_cases hL : 40 < c.nL
  · have d1 : decide ((40 : Int) < (c.nL : Int)) = true := decide_eq_true (by omega)
    clear hL h1 h2
    go_enter Try.func5, Try.ntmps5
    go_wp2
    go_ret
    exact ⟨_, rfl, (fun h => by cases h), HB.out.keeps⟩
  have d1 : decide ((40 : Int) < (c.nL : Int)) = false := decide_eq_false (by omega)
  have HL := Lib.hid (show c.nL ≤ 40 from by omega)
  clear hL
  by_cases hO : 20 < c.nO
  · have d2 : decide ((20 : Int) < (c.nO : Int)) = true := decide_eq_true (by omega)
    clear hO h1 h2
    go_enter Try.func5, Try.ntmps5
    go_wp2
    go_ret
    exact ⟨_, rfl, (fun h => by cases h), HB.out.keeps⟩
  have d2 : decide ((20 : Int) < (c.nO : Int)) = false := decide_eq_false (by omega)
  have HO := Lib.hid (show c.nO ≤ 20 from by omega)
  clear hO
  go_enter Try.func5, Try.ntmps5
  go_wp2_with fail
  obtain ⟨W, hW⟩ : ∃ W : World, W = w.alloc (.cells c.cells 26) := ⟨_, rfl⟩
  rw [← hW] at HB HC ⊢
  have HWW := Lib.hid hW
  clear hW
  go_loopw [3] (fun i wr => ∃ j : Nat, j ≤ c.nT ∧ i = .int .i64 j ∧ wr = W ∧ ∀ i, i < j → c.tl i ≤ 70) (fun i _ => c.nT - (intOf i).toNat)
  case atStart => exact ⟨0, by omega, rfl, rfl, fun i hi => by omega⟩
  case round =>
    obtain ⟨j, hj, rfl, rfl, ha⟩ := hrel
    have HA := Lib.hid ha
    clear ha
    obtain ⟨e0, e1, e2, e3⟩ := four_cells (HB.out.at 0 rfl)
    have lx := lt_of (HB.out.at 0 rfl)
    by_cases hlt : j < c.nT
    · obtain ⟨b, off, hta, hbl, hrow⟩ := HC.out.t (by omega)
      have c2 := (hrow j hlt).2.2
      rw [hta] at e0
      clear hrow hta
      rcases Nat.lt_or_ge 70 (c.tl j) with h7 | h7
      · have d7 : decide ((70 : Int) < (c.tl j : Int)) = true := decide_eq_true (by omega)
        clear h7
        go_wp2
        go_ret
        exact ⟨_, rfl, (fun h => by cases h), HB.out.keeps⟩
      · have d7 : decide ((70 : Int) < (c.tl j : Int)) = false := decide_eq_false (by omega)
        have H7 := Lib.hid h7
        clear h7
        go_wp2
        go_roundw
        case rel => exact ⟨j + 1, by omega, by go_num, by first | rfl | trivial, fun i hi => by rcases Nat.lt_or_ge i j with h | h; exact HA.out i h; rw [show i = j by omega]; exact H7.out⟩
        case measure => simp [intOf]; omega
    · obtain rfl : j = c.nT := by omega
      go_wp2_with fail
      go_loopw [4] (fun i wq => ∃ j : Nat, j ≤ c.nL ∧ i = .int .i64 j ∧ wq = wr ∧ ∀ i, i < j → c.ll i ≤ 70) (fun i _ => c.nL - (intOf i).toNat)
      case atStart => exact ⟨0, by omega, rfl, rfl, fun i hi => by omega⟩
      case round =>
        obtain ⟨j, hj2, rfl, rfl, ha⟩ := hrel
        have HB2 := Lib.hid ha
        clear ha
        by_cases hlt : j < c.nL
        · obtain ⟨b, off, hta, hbl, hrow⟩ := HC.out.l (by omega)
          have c2 := (hrow j hlt).2
          rw [hta] at e1
          clear hrow hta
          rcases Nat.lt_or_ge 70 (c.ll j) with h7 | h7
          · have d7 : decide ((70 : Int) < (c.ll j : Int)) = true := decide_eq_true (by omega)
            clear h7
            go_wp2
            go_ret
            exact ⟨_, rfl, (fun h => by cases h), HB.out.keeps⟩
          · have d7 : decide ((70 : Int) < (c.ll j : Int)) = false := decide_eq_false (by omega)
            have H7 := Lib.hid h7
            clear h7
            go_wp2
            go_roundw
            case rel => exact ⟨j + 1, by omega, by go_num, by first | rfl | trivial, fun i hi => by rcases Nat.lt_or_ge i j with h | h; exact HB2.out i h; rw [show i = j by omega]; exact H7.out⟩
            case measure => simp [intOf]; omega
        · obtain rfl : j = c.nL := by omega
          go_wp2
          go_ret
          exact ⟨_, rfl, fun _ => ⟨HT.out, HL.out, HO.out, HA.out, HB2.out⟩, HB.out.keeps⟩
end Go.Proofs.Ytdjfelabdofaaaa
