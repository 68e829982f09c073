import Derived.Test.YtfabjoeklohoiaaPow
import Derived.WalkKit
import Derived.ProofKit
import Derived.OpenShut
import Derived.Lib.Hide
import Derived.Outline
namespace Go.Proofs.Ytfabjoeklohoiaa
open Go.ChangeShapes Go.WideShapes Go.ChangeAt Go.RowKit
set_option linter.unusedVariables false
theorem rpower_any (a : Int) (w : World) (h1 : -9223372036854775808 ≤ a) (h2 : a ≤ 9223372036854775807) :
    Calls Try.prog 27 #[.int .i64 a] w fun e w' => e = .returned (.bool (pow2 a)) ∧ w = w' := by
  go_enter Try.func27, Try.ntmps27
  go_wp2
  go_loop [3] (fun k => ∃ p : Int, 1 ≤ p ∧ p ≤ 4294967296 ∧ k = .int .i64 p ∧ PowInv a p) (fun k => (4294967297 - intOf k).toNat)
  case atStart => exact ⟨1, by omega, by omega, rfl, PowInv.one a⟩
  case round =>
    obtain ⟨p, hp1, hp2, rfl, hi⟩ := hrel
    by_cases hle : p ≤ 2147483648
    · by_cases he : a = p
      · subst he
        have hit := hi.hit hle
        have H := Lib.hid hit
        clear hit hi
        go_wp2
        go_ret
        exact ⟨ret_bool H.out.symm, rfl⟩
      · have ht := hi.twice he
        clear hi
        go_wp2
        go_round
        case rel => exact ⟨2 * p, by omega, by omega, rfl, ht⟩
        case measure => simp [intOf]; omega
    · have miss := hi.miss (by omega)
      have H := Lib.hid miss
      clear miss hi
      go_wp2
      go_ret
      exact ⟨ret_bool H.out.symm, rfl⟩

end Go.Proofs.Ytfabjoeklohoiaa
