import Derived.Test.YtkhmfjfclpehfaaGreatRows
import Derived.Test.YtkhmfjfclpehfaaGreatKeep
import Derived.Test.YtkhmfjfclpehfaaGreatRet
import Derived.Test.YtkhmfjfclpehfaaGreatPow
import Derived.Test.YtkhmfjfclpehfaaGreatHas
import Derived.WalkKit
import Derived.ProofKit
import Derived.OpenShut
import Derived.WalkLawsBesides
import Derived.WalkSpells
import Derived.Lib.Hide
import Derived.Deep.QuietTactic
import Derived.BigQuiet
import Derived.BigRegion
import Derived.LoopN
import Derived.Deep.RegionHeld3
namespace Go.Proofs.YtkhmfjfclpehfaaGreat
open Go.ChangeShapes Go.WideShapes Go.ChangeAt Go.RowKit
set_option linter.unusedVariables false
set_option linter.unusedSimpArgs false
@[reducible] def objC (o oi : Nat → Int) : Array Value := #[.int .i64 (o 0), .int .i64 (o 1), .int .i64 (o 2), .int .i64 (o 3), .int .i64 (o 4), .int .i64 (o 5), .int .u32 (oi 0), .int .u32 (oi 1), .int .u32 (oi 2), .int .u32 (oi 3)]
theorem ten_cells {w : World} {g : Nat} {o oi : Nat → Int} {E : TypeId} (h : w.heap[g]? = some (.cells (objC o oi) E (0, 0))) :
    w.cell? ⟨g, 0, none⟩ = some (.int .i64 (o 0)) ∧ w.cell? ⟨g, 1, none⟩ = some (.int .i64 (o 1)) ∧ w.cell? ⟨g, 2, none⟩ = some (.int .i64 (o 2)) ∧ w.cell? ⟨g, 3, none⟩ = some (.int .i64 (o 3)) ∧ w.cell? ⟨g, 4, none⟩ = some (.int .i64 (o 4)) ∧ w.cell? ⟨g, 5, none⟩ = some (.int .i64 (o 5)) ∧ w.cell? ⟨g, 6, none⟩ = some (.int .u32 (oi 0)) ∧ w.cell? ⟨g, 7, none⟩ = some (.int .u32 (oi 1)) ∧ w.cell? ⟨g, 8, none⟩ = some (.int .u32 (oi 2)) ∧ w.cell? ⟨g, 9, none⟩ = some (.int .u32 (oi 3)) := ⟨cell_of h 0, cell_of h 1, cell_of h 2, cell_of h 3, cell_of h 4, cell_of h 5, cell_of h 6, cell_of h 7, cell_of h 8, cell_of h 9⟩
def rightS (o : Nat → Int) : Bool := (decide (1 ≤ o 0) && decide (o 0 ≤ 4)) && ((if o 0 = 1 then pow2 (o 1) && decide (o 1 ≤ 64) else o 1 == 0) && ((if o 0 = 4 then o 2 == 0 else decide (1 ≤ o 2) && decide (o 2 ≤ 4)) && (if o 0 = 3 then decide (0 ≤ o 3) && decide (o 3 ≤ 8) else o 3 == 0)))
def fourB (a b c d : Bool) : Nat → Bool
  | 0 => a
  | 1 => b
  | 2 => c
  | _ => d
theorem fourB_none {a b c d : Bool} (h : ∀ k, k < 4 → fourB a b c d k = true) : (a && (b && (c && d))) = true := by
  have h0 := h 0 (by omega); have h1 := h 1 (by omega); have h2 := h 2 (by omega); have h3 := h 3 (by omega)
  simp [fourB] at h0 h1 h2 h3
  simp [h0, h1, h2, h3]
theorem fourB_some {a b c d : Bool} {k : Nat} (hk : k < 4) (h : fourB a b c d k = false) : (a && (b && (c && d))) = false := by
  rcases (by omega : k = 0 ∨ k = 1 ∨ k = 2 ∨ k = 3) with rfl | rfl | rfl | rfl <;> simp [fourB] at h <;> simp [h]
end Go.Proofs.YtkhmfjfclpehfaaGreat
