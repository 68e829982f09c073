import Derived.Test.YtfniicgfnlklbabDeltaOrdB
import Derived.Deep.RegionHeld3
import Derived.Handy
import Derived.IntWalk
namespace Go.Proofs.Ytfniicgfnlklbab
open Go.ChangeShapes Go.WideShapes Go.ChangeAt Go.RowKit
set_option linter.unusedVariables false
theorem rrow_take {w : World} {a : Option Addr} {n q : Nat} {P : Nat → Int} {X : Nat → Nat} (h : RRow w a n P X) (hq : q ≤ n) : RRow w a q P X := by
  intro hp
  obtain ⟨b, off, ha, hb, hc⟩ := h (by omega)
  exact ⟨b, off, ha, hb, fun i hi => hc i (by omega)⟩
theorem rrow_drop {w : World} {b off n : Nat} {P : Nat → Int} {X : Nat → Nat} (h : RRow w (some ⟨b, off, none⟩) n P X) (k : Nat) : RRow w (some ⟨b, off + k * 2, none⟩) (n - k) (fun i => P (k + i)) (fun i => X (k + i)) := by
  intro hp
  obtain ⟨b', off', ha, hb, hc⟩ := h (by omega)
  cases ha
  refine ⟨b, off + k * 2, rfl, hb, fun i hi => ?_⟩
  have := hc (k + i) (by omega)
  rw [show off + k * 2 + i * 2 = off + (k + i) * 2 by omega]
  exact this
theorem flatW_join (P : Nat → Int) (X : Nat → Nat) (q : Nat) (Q : Nat → Int) (Y : Nat → Nat) : ∀ m, flatW P X q ++ flatW Q Y m = flatW (fun i => if i < q then P i else Q (i - q)) (fun i => if i < q then X i else Y (i - q)) (q + m)
  | 0 => by
    rw [flatW, List.append_nil]
    exact flatW_congr q fun i hi => ⟨(if_pos hi).symm, (if_pos hi).symm⟩
  | m + 1 => by
    show flatW P X q ++ (flatW Q Y m ++ _) = flatW _ _ (q + m) ++ _
    rw [← List.append_assoc, flatW_join P X q Q Y m]
    show _ = _ ++ [Value.int .i64 (if q + m < q then P (q + m) else Q (q + m - q)), Value.int .u64 ((if q + m < q then X (q + m) else Y (q + m - q) : Nat) : Int)]
    rw [if_neg (by omega), if_neg (by omega), Nat.add_sub_cancel_left]
end Go.Proofs.Ytfniicgfnlklbab
