import Derived.Test.YtfabjoeklohoiaaConfI
namespace Go.Proofs.Ytfabjoeklohoiaa
open Go.ChangeShapes Go.WideShapes Go.ChangeAt Go.RowKit
set_option linter.unusedVariables false
set_option linter.unusedSimpArgs false
def cN : CfD := ⟨0, 0, 0, 0, none, none, none, 0, 0, 0, fun _ => 0, fun _ => false, fun _ => 0, fun _ => none, fun _ => 0, fun _ => 0, fun _ => 0, fun _ => none, fun _ => 0, fun _ _ => 0, fun _ _ => 0⟩
def cO (T : Nat) : CfD := ⟨1, 0, 0, 0, some ⟨T, 0, none⟩, none, none, 1, 0, 0, fun _ => 31, fun _ => false, fun _ => 0, fun _ => none, fun _ => 0, fun _ => 0, fun _ => 0, fun _ => none, fun _ => 0, fun _ _ => 0, fun _ _ => 0⟩
theorem cN_bad : badOf cN = (2, 1, 0) := by kernel_rfl
theorem cO_bad (T : Nat) : badOf (cO T) = (0, 0, 0) := by kernel_rfl
theorem cN_check (w : World) : Calls Try.prog 6 #[.agg #[.slice none 0 0, .slice none 0 0, .slice none 0 0, .int .i64 0]] w fun e w' => e = .returned (.agg #[.int .i64 2, .int .i64 1, .int .i64 0]) ∧ Keeps (fun _ => False) w w' := by
  have h := check_any cN w ⟨fun h => absurd h (by simp [cN]), fun h => absurd h (by simp [cN]), fun h => absurd h (by simp [cN])⟩ ⟨by show 0 ≤ maxLen; omega, by show 0 ≤ maxLen; omega, by show 0 ≤ maxLen; omega, by show -9223372036854775808 ≤ (0 : Int) ∧ (0 : Int) ≤ 9223372036854775807; omega, fun i hi => absurd hi (by simp [cN]), fun i hi => absurd hi (by simp [cN])⟩
  rw [cN_bad] at h
  exact h
theorem cO_check (T : Nat) (w : World) (h1 : w.heap[T]? = some (.cells #[.int .i64 31, .bool false, .slice none 0 0] 37 (0, 0))) : Calls Try.prog 6 #[.agg #[.slice (some ⟨T, 0, none⟩) 1 1, .slice none 0 0, .slice none 0 0, .int .i64 0]] w fun e w' => e = .returned (.agg #[.int .i64 0, .int .i64 0, .int .i64 0]) ∧ Keeps (fun _ => False) w w' := by
  have h := check_any (cO T) w ⟨fun _ => ⟨T, 0, rfl, lt_of h1, fun i hi => by
    obtain rfl : i = 0 := by have : i < 1 := hi; omega
    exact ⟨cell_of h1 0, cell_of h1 1, cell_of h1 2⟩⟩, fun h => absurd h (by simp [cO]), fun h => absurd h (by simp [cO])⟩ ⟨by show 1 ≤ maxLen; unfold maxLen; omega, by show 0 ≤ maxLen; omega, by show 0 ≤ maxLen; omega, by show -9223372036854775808 ≤ (0 : Int) ∧ (0 : Int) ≤ 9223372036854775807; omega, fun i hi => absurd hi (by simp [cO]), fun i hi => absurd hi (by simp [cO])⟩
  rw [cO_bad] at h
  exact h
theorem alive29_any (w : World) :
    Calls Try.prog 5 #[] w fun e w' => e = .returned (.bool true) ∧ Keeps (fun _ => False) w w' := by
  have HO := Lib.hid cO_check
  go_enter Try.func5, Try.ntmps5
  go_wp2_with fail
  refine (cN_check _).mono ?_
  rintro e w2 ⟨rfl, k2⟩
  have HK := Lib.hid (k2.alloc (.cells #[.int .i64 31, .bool false, .slice none 0 0] 37))
  clear k2
  go_wp2_with fail
  refine (HO.out _ _ (heap_new w2 _)).mono ?_
  rintro e w3 ⟨rfl, k3⟩
  have HK2 := Lib.hid (HK.out.trans k3)
  clear k3
  go_wp2
  go_ret
  exact ⟨rfl, HK2.out⟩
end Go.Proofs.Ytfabjoeklohoiaa
