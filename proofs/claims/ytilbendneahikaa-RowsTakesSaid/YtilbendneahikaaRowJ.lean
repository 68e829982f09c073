import Derived.Test.YtilbendneahikaaRowI
import Derived.ChangeMaps5
namespace Go.Proofs.Ytilbendneahikaa
open Go.ChangeShapes Go.WideShapes Go.ChangeAt Go.RowKit
set_option linter.unusedVariables false
set_option linter.unusedSimpArgs false
def SmallRow (n : Nat) (F : Nat → List UInt8) : Prop := n ≤ 20 ∧ ∀ i, i < n → (F i).length ≤ 60
def LargeSays (n : Nat) (F : Nat → List UInt8) (w : World) (e : Ending) (w' : World) : Prop := ∃ r, e = .returned (.bool r) ∧ (r = false → SmallRow n F) ∧ w' = w
set_option maxRecDepth 20000 in
theorem large_many (w : World) (g : Nat) (N : Int) (A : Option Addr) (n c : Nat) (T : TypeId) (hb : w.heap[g]? = some (.cells #[.int .i64 N, .slice A n c] T (0, 0))) (hn : n ≤ maxLen) (h20 : 20 < n) :
    Calls Try.prog 20 #[.slice (some ⟨g, 0, none⟩) 1 1] w fun e w' => e = .returned (.bool true) ∧ w' = w := by
  unfold maxLen at hn
  have c1 := cell_of hb 1
  have c1 : w.cell? ⟨g, 1, none⟩ = some (.slice A n c) := c1
  have d1 : decide ((20 : Int) < (n : Int)) = true := decide_eq_true (by omega)
  clear hb
  go_enter Try.func20, Try.ntmps20
  go_wp2_with fail
  go_loop [3] (fun v3 => v3 = .int .i64 0) (fun _ => 0)
  case atStart => rfl
  case round =>
    obtain rfl := hrel
    go_wp2_with fail
    go_ret
    exact ⟨rfl, rfl⟩
set_option maxRecDepth 20000 in
theorem large_none (w : World) (g : Nat) (N : Int) (A : Option Addr) (c : Nat) (T : TypeId) (hb : w.heap[g]? = some (.cells #[.int .i64 N, .slice A 0 c] T (0, 0))) :
    Calls Try.prog 20 #[.slice (some ⟨g, 0, none⟩) 1 1] w fun e w' => e = .returned (.bool false) ∧ w' = w := by
  have c1 := cell_of hb 1
  have c1 : w.cell? ⟨g, 1, none⟩ = some (.slice A 0 c) := c1
  clear hb
  go_enter Try.func20, Try.ntmps20
  go_wp2_with fail
  go_loop [3] (fun v3 => ∃ k : Nat, k ≤ 1 ∧ v3 = .int .i64 (k : Int)) (fun v3 => 1 - (intOf v3).toNat)
  case atStart => exact ⟨0, by omega, rfl⟩
  case round =>
    obtain ⟨k, hk, rfl⟩ := hrel
    by_cases h0 : k = 0
    · subst h0
      go_wp2_with fail
      go_loop [4] (fun v4 => v4 = .int .i64 0) (fun _ => 0)
      case atStart => rfl
      case round =>
        obtain rfl := hrel
        go_wp2_with fail
        go_round
        case rel => exact ⟨1, by omega, rfl⟩
        case measure => simp [intOf]
    · obtain rfl : k = 1 := by omega
      go_wp2_with fail
      go_ret
      exact ⟨rfl, rfl⟩
set_option maxRecDepth 20000 in
theorem large_some (w : World) (g : Nat) (N : Int) (b o n c : Nat) (T : TypeId) (F : Nat → List UInt8) (hb : w.heap[g]? = some (.cells #[.int .i64 N, .slice (some ⟨b, o, none⟩) n c] T (0, 0))) (hn : n ≤ 20) (hF : ∀ i, i < n → (F i).length ≤ maxLen)
    (hc : ∀ i, i < n → w.cell? ⟨b, o + i, none⟩ = some (.string ⟨(F i).toArray⟩)) :
    Calls Try.prog 20 #[.slice (some ⟨g, 0, none⟩) 1 1] w (LargeSays n F w) := by
  unfold maxLen at hF
  have c1 := cell_of hb 1
  have c1 : w.cell? ⟨g, 1, none⟩ = some (.slice (some ⟨b, o, none⟩) n c) := c1
  have HC := Lib.hid hc
  have HF := Lib.hid hF
  have d1 : decide ((20 : Int) < (n : Int)) = false := decide_eq_false (by omega)
  clear hb hc hF
  go_enter Try.func20, Try.ntmps20
  go_wp2_with fail
  go_loop [3] (fun v3 => ∃ k : Nat, k ≤ 1 ∧ v3 = .int .i64 (k : Int) ∧ (k = 1 → SmallRow n F)) (fun v3 => 1 - (intOf v3).toNat)
  case atStart => exact ⟨0, by omega, rfl, fun h => by omega⟩
  case round =>
    obtain ⟨k, hk, rfl, hP⟩ := hrel
    by_cases h0 : k = 0
    · subst h0
      clear hP
      go_wp2_with fail
      go_loop [4] (fun v4 => ∃ j : Nat, j ≤ n ∧ v4 = .int .i64 (j : Int) ∧ ∀ i, i < j → (F i).length ≤ 60) (fun v4 => n - (intOf v4).toNat)
      case atStart => exact ⟨0, by omega, rfl, fun i hi => by omega⟩
      case round =>
        obtain ⟨j, hj, rfl, hall⟩ := hrel
        have HA := Lib.hid hall
        clear hall
        by_cases hlt : j < n
        · have c2 := HC.out j hlt
          have hFj := HF.out j hlt
          have hsz := str_size (F j)
          by_cases h60 : 60 < (F j).length
          · have d2 : decide ((60 : Int) < ((F j).length : Int)) = true := decide_eq_true (by omega)
            generalize (⟨(F j).toArray⟩ : ByteArray) = B at *
            go_wp2_with fail
            go_ret
            exact ⟨true, rfl, (fun h => by cases h), rfl⟩
          · have d2 : decide ((60 : Int) < ((F j).length : Int)) = false := decide_eq_false (by omega)
            have H60 := Lib.hid (show (F j).length ≤ 60 by omega)
            clear h60
            generalize (⟨(F j).toArray⟩ : ByteArray) = B at *
            go_wp2_with fail
            go_round
            case rel =>
              refine ⟨j + 1, by omega, by go_num, fun i hi => ?_⟩
              by_cases e : i = j
              · rw [e]; exact H60.out
              · exact HA.out i (by omega)
            case measure => simp [intOf]; omega
        · obtain rfl : j = n := by omega
          go_wp2_with fail
          go_round
          case rel => exact ⟨1, by omega, rfl, fun _ => ⟨hn, HA.out⟩⟩
          case measure => simp [intOf]
    · obtain rfl : k = 1 := by omega
      have HP := Lib.hid (hP rfl)
      clear hP
      go_wp2_with fail
      go_ret
      exact ⟨false, rfl, fun _ => HP.out, rfl⟩
theorem large_any (w : World) (g : Nat) (N : Int) (A : Option Addr) (n c : Nat) (T : TypeId) (F : Nat → List UInt8) (hb : w.heap[g]? = some (.cells #[.int .i64 N, .slice A n c] T (0, 0))) (hn : n ≤ maxLen) (hr : StrRow w A n F) (hF : ∀ i, i < n → (F i).length ≤ maxLen) :
    Calls Try.prog 20 #[.slice (some ⟨g, 0, none⟩) 1 1] w (LargeSays n F w) := by
  by_cases h20 : 20 < n
  · refine (large_many w g N A n c T hb hn h20).mono ?_
    rintro e w' ⟨rfl, rfl⟩
    exact ⟨true, rfl, (fun h => by cases h), rfl⟩
  · rcases Nat.eq_zero_or_pos n with rfl | hp
    · refine (large_none w g N A c T hb).mono ?_
      rintro e w' ⟨rfl, rfl⟩
      exact ⟨false, rfl, (fun _ => ⟨by omega, fun i hi => by omega⟩), rfl⟩
    · obtain ⟨b, o, rfl, _, hc⟩ := hr hp
      exact large_some w g N b o n c T F hb (by omega) hF hc
end Go.Proofs.Ytilbendneahikaa
