import Derived.Test.YtdbplamhpkahaaaQuF
import Derived.Laws.StructEq
namespace Go.Proofs.Ytdbplamhpkahaaa
open Go.RowKit
set_option linter.unusedVariables false
/-- Are two waits the same? -/
def eqW (a b c d a' b' c' d' : Int) : Bool := decide (a = a' ∧ b = b' ∧ c = c' ∧ d = d')
theorem eqw (a b c d a' b' c' d' : Int) (w : World) : (Op.equalIn 10000 56 (.agg #[.int .i64 a, .int .i64 b, .int .i64 c, .int .u32 d]) (.agg #[.int .i64 a', .int .i64 b', .int .i64 c', .int .u32 d'])).run Try.prog w = .ok (eqW a b c d a' b' c' d') w := by
  have u3 := Try.underlying3
  have u4 := Try.underlying30
  have a3 := Try.isAgg3
  have a4 := Try.isAgg30
  have z3 := Try.sizeOf3
  have z4 := Try.sizeOf30
  have hS : Try.prog.underlying 56 = some (.struct (Try.prog.fieldsOf 56)) := by kernel_rfl
  have hp : Try.prog.stoodInHeld 56 = false := by kernel_rfl
  rw [show (10000 : Nat) = 9999 + 1 from rfl, run_equalIn_agg w 9999 56 _ _ hS hp]
  simp only [Program.fieldsOf, Try.underlying56]
  go_simp
  simp only [eqW]
  by_cases h1 : a = a' <;> by_cases h2 : b = b' <;> by_cases h3 : c = c' <;> by_cases h4 : d = d' <;> simp [h1, h2, h3, h4]
def QN.wait (x : QN) : Int × Int × Int × Nat := (x.t, x.k, x.o, x.m)
theorem eqW_wait (x y : QN) : eqW x.t x.k x.o (x.m : Int) y.t y.k y.o (y.m : Int) = decide (x.wait = y.wait) := by
  simp only [eqW, QN.wait, Prod.mk.injEq, Int.ofNat_inj]
theorem others4 (W : World) (b : Nat) (v0 v1 v2 v3 : Value) : KeepsOthers W ((((W.setCell ⟨b, 0, none⟩ v0).setCell ⟨b, 1, none⟩ v1).setCell ⟨b, 2, none⟩ v2).setCell ⟨b, 3, none⟩ v3) :=
  (((KeepsOthers.setCell W _ _).trans (KeepsOthers.setCell _ _ _)).trans (KeepsOthers.setCell _ _ _)).trans (KeepsOthers.setCell _ _ _)
theorem far4 {W : World} {b k : Nat} {o : Obj} (h : W.heap[k]? = some o) (hk : k ≠ b) (v0 v1 v2 v3 : Value) : ((((W.setCell ⟨b, 0, none⟩ v0).setCell ⟨b, 1, none⟩ v1).setCell ⟨b, 2, none⟩ v2).setCell ⟨b, 3, none⟩ v3).heap[k]? = some o :=
  heap_other (heap_other (heap_other (heap_other h hk _) hk _) hk _) hk _
end Go.Proofs.Ytdbplamhpkahaaa
