import Derived.Test.YtdbplamhpkahaaaRows
import Derived.Test.YtdbplamhpkahaaaWordMath
import Derived.Test.YtdbplamhpkahaaaRet
import Derived.WalkKit
import Derived.ProofKit
import Derived.OpenShut
import Derived.WalkLawsBesides
import Derived.WalkSpells
import Derived.Lib.Hide
import Derived.Outline
import Derived.Laws.BitsAllLaws
import Derived.Laws.ShiftsVarLaws
import Derived.Deep.QuietTactic
import Derived.BigQuiet
namespace Go.Proofs.Ytdbplamhpkahaaa
open Go.ChangeShapes Go.WideShapes Go.ChangeAt Go.RowKit
set_option linter.unusedVariables false

theorem bit_any (i : Int) (w : World) :
    Calls Try.prog 83 #[.int .i64 i] w fun e w' => e = .returned (.int .u32 (bitW i)) ∧ w = w' := by
  by_cases h0 : i < 0
  · go_enter Try.func83, Try.ntmps83
    go_wp2
    go_ret
    exact ⟨ret_u32 (by rw [bitW, if_neg (by omega)]; rfl), rfl⟩
  · by_cases h1 : 32 ≤ i
    · go_enter Try.func83, Try.ntmps83
      go_wp2
      go_ret
      exact ⟨ret_u32 (by rw [bitW, if_neg (by omega)]; rfl), rfl⟩
    · have h2 : 0 ≤ i := by omega
      have h3 : i < 32 := by omega
      go_enter Try.func83, Try.ntmps83
      go_wp2
      go_ret
      refine ⟨ret_u32 ?_, rfl⟩
      have hp : 2 ^ i.toNat < 2 ^ 32 := Nat.pow_lt_pow_right (by omega) (by omega)
      have e : ((2 : Int) ^ i.toNat) = ((2 ^ i.toNat : Nat) : Int) := by simp
      rw [bitW, if_pos ⟨h2, h3⟩, e]
      have e2 : (2 : Nat) ^ 32 = 4294967296 := rfl
      generalize 2 ^ i.toNat = z at *
      omega
theorem with_any (x : Nat) (i : Int) (w : World) (hx : x < 4294967296) :
    Calls Try.prog 68 #[.int .u32 x, .int .i64 i] w fun e w' => e = .returned (.int .u32 (setB x i)) ∧ w = w' := by
  have e : bits .or .u32 (x : Int) (bitW i : Int) = ((x ||| bitW i : Nat) : Int) := u32_or_nat _ _ hx (bitW_lt i)
  go_enter Try.func68, Try.ntmps68
  go_wp2_with fail
  refine (bit_any _ _).mono ?_
  rintro e w' ⟨rfl, rfl⟩
  go_wp2
  go_ret
  exact ⟨rfl, rfl⟩
theorem without_any (x : Nat) (i : Int) (w : World) (hx : x < 4294967296) :
    Calls Try.prog 70 #[.int .u32 x, .int .i64 i] w fun e w' => e = .returned (.int .u32 (clrB x i)) ∧ w = w' := by
  have e : bits .andNot .u32 (x : Int) (bitW i : Int) = ((x &&& (4294967295 - bitW i) : Nat) : Int) := u32_andNot_nat _ _ hx (bitW_lt i)
  go_enter Try.func70, Try.ntmps70
  go_wp2_with fail
  refine (bit_any _ _).mono ?_
  rintro e w' ⟨rfl, rfl⟩
  go_wp2
  go_ret
  exact ⟨rfl, rfl⟩
end Go.Proofs.Ytdbplamhpkahaaa
