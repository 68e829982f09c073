import Derived.Test.YtdbplamhpkahaaaWordW
import Derived.Test.YtdbplamhpkahaaaShelf
namespace Go.Proofs.Ytdbplamhpkahaaa
open Go.ChangeShapes Go.WideShapes Go.ChangeAt Go.RowKit
set_option linter.unusedVariables false
theorem high_any (x : Nat) (w : World) (hx : x < 4294967296) :
    Calls Try.prog 69 #[.int .u32 x] w fun e w' => e = .returned (.int .i64 ((Lib.bitLen x : Int) - 1)) ∧ w = w' := by
  have hle : Lib.bitLen x ≤ 32 := Lib.bitLen_le x 32 (by omega) hx
  have H := Lib.hid (Try.bits_Len32 (x : Int) w (by omega) (by omega))
  go_enter Try.func69, Try.ntmps69
  go_wp2_with fail
  refine H.out.mono ?_
  rintro e w' ⟨rfl, rfl⟩
  go_wp2
  go_ret
  exact ⟨rfl, rfl⟩
end Go.Proofs.Ytdbplamhpkahaaa
