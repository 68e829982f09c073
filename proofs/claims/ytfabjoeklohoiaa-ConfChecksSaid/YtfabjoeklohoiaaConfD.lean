import Derived.Test.YtfabjoeklohoiaaConfC
import Derived.Deep.RegionHeld3
namespace Go.Proofs.Ytfabjoeklohoiaa
open Go.ChangeShapes Go.WideShapes Go.ChangeAt Go.RowKit
set_option linter.unusedVariables false
set_option linter.unusedSimpArgs false
def rightS (o : Nat → Int) : Bool := (decide (1 ≤ o 0) && decide (o 0 ≤ 4)) && ((if o 0 = 1 then pow2 (o 1) && decide (o 1 ≤ 64) else o 1 == 0) && ((if o 0 = 4 then o 2 == 0 else decide (1 ≤ o 2) && decide (o 2 ≤ 4)) && (if o 0 = 3 then decide (0 ≤ o 3) && decide (o 3 ≤ 8) else o 3 == 0)))
def fourB (a b c d : Bool) : Nat → Bool
  | 0 => a
  | 1 => b
  | 2 => c
  | _ => d
theorem fourB_none {a b c d : Bool} (h : ∀ k, k < 4 → fourB a b c d k = true) : (a && (b && (c && d))) = true := by
  have h0 := h 0 (by omega); have h1 := h 1 (by omega); have h2 := h 2 (by omega); have h3 := h 3 (by omega)
  simp [fourB] at h0 h1 h2 h3
  simp [h0, h1, h2, h3]
theorem fourB_some {a b c d : Bool} {k : Nat} (hk : k < 4) (h : fourB a b c d k = false) : (a && (b && (c && d))) = false := by
  rcases (by omega : k = 0 ∨ k = 1 ∨ k = 2 ∨ k = 3) with rfl | rfl | rfl | rfl <;> simp [fourB] at h <;> simp [h]
end Go.Proofs.Ytfabjoeklohoiaa
