import Derived.Test.YtdjfelabdofaaaaNumAz
import Derived.Test.YtdjfelabdofaaaaRow
namespace Go.Proofs.Ytdjfelabdofaaaa
open Go.ChangeShapes Go.WideShapes Go.ChangeAt Go.RowKit
set_option linter.unusedVariables false
set_option linter.unusedSimpArgs false
/-- The first k numbers' texts, with by between. -/
def joinN (by' : List UInt8) (F : Nat → Int) : Nat → List UInt8
  | 0 => []
  | k + 1 => joinN by' F k ++ (if k = 0 then [] else by') ++ prnL (F k)
theorem joinN_one (b : List UInt8) (F : Nat → Int) : joinN b F 1 = prnL (F 0) := rfl
theorem joinN_more (b : List UInt8) (F : Nat → Int) (k : Nat) (h : 0 < k) : joinN b F (k + 1) = joinN b F k ++ b ++ prnL (F k) := by
  show joinN b F k ++ (if k = 0 then [] else b) ++ prnL (F k) = _
  rw [if_neg (by omega)]
theorem joinN_len (b : List UInt8) (F : Nat → Int) (m : Nat) (hb : b.length ≤ m) : ∀ k, (∀ i, i < k → -9223372036854775808 ≤ F i ∧ F i ≤ 9223372036854775807) → (joinN b F k).length ≤ k * (m + 21)
  | 0, _ => by simp [joinN]
  | k + 1, h => by
    have h1 := joinN_len b F m hb k fun i hi => h i (by omega)
    have h2 := prnL_len (h k (by omega))
    have h3 : (if k = 0 then [] else b).length ≤ m := by
      split
      · exact Nat.zero_le _
      · exact hb
    show (joinN b F k ++ (if k = 0 then [] else b) ++ prnL (F k)).length ≤ _
    rw [List.length_append, List.length_append, Nat.succ_mul]
    omega
theorem str_app (a b : List UInt8) : (ByteArray.mk a.toArray) ++ (ByteArray.mk b.toArray) = ByteArray.mk (a ++ b).toArray := ByteArray.mk_append_mk a b
end Go.Proofs.Ytdjfelabdofaaaa
