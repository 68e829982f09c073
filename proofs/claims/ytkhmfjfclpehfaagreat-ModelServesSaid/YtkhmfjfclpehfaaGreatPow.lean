import Derived.Test.YtkhmfjfclpehfaaGreatRows
import Derived.Test.YtkhmfjfclpehfaaGreatBits
import Derived.Test.YtkhmfjfclpehfaaGreatRet
import Derived.WalkKit
import Derived.ProofKit
import Derived.OpenShut
import Derived.WalkLawsBesides
import Derived.WalkSpells
import Derived.Lib.Hide
namespace Go.Proofs.YtkhmfjfclpehfaaGreat
open Go.ChangeShapes Go.WideShapes Go.ChangeAt Go.RowKit
set_option linter.unusedVariables false
theorem power_any (a : Int) (w : World) (h1 : -9223372036854775808 ≤ a) (h2 : a ≤ 9223372036854775807) :
    Calls Tryz.prog 89 #[.int .i64 a] w fun e w' => e = .returned (.bool (pow2 a)) ∧ w = w' := by
  by_cases c1 : 1 ≤ a
  · by_cases c2 : a ≤ 2147483648
    · go_enter Tryz.func89, Tryz.ntmps89
      go_wp2
      go_ret
      exact ⟨ret_bool (pow2_bits a c1 c2), rfl⟩
    · go_enter Tryz.func89, Tryz.ntmps89
      go_wp2
      go_ret
      exact ⟨ret_bool (pow2_high a (by omega)).symm, rfl⟩
  · go_enter Tryz.func89, Tryz.ntmps89
    go_wp2
    go_ret
    exact ⟨ret_bool (pow2_low a (by omega)).symm, rfl⟩
end Go.Proofs.YtkhmfjfclpehfaaGreat
