import Derived.Test.YtdjfelabdofaaaaCodeE
import Derived.Laws.StructEq
namespace Go.Proofs.Ytdjfelabdofaaaa
open Go.RowKit
set_option linter.unusedVariables false
theorem part_int (t : TypeId) (k : IntKind) (xs : Array Value) (i : Nat) (x : Int) (w : World) (ht : ∀ w, (isAgg t).run Try.prog w = .ok false w) (hx : xs[i]? = some (.int k x)) : (part t xs i).run Try.prog w = .ok (.int k x) w := by
  simp [part, ht, hx]
theorem eq_arr (e : Nat) (a b c d : Int) (w : World) : (Op.equalIn (e + 1 + 1) 57 (.agg #[.int .u32 a, .int .u32 b, .int .u32 c, .int .u32 d]) (.agg #[.int .u32 a, .int .u32 b, .int .u32 c, .int .u32 d])).run Try.prog w = .ok true w := by
  have z4 := Try.sizeOf55
  have hT := Try.underlying57
  have p0 := fun w => part_int 55 .u32 #[.int .u32 a, .int .u32 b, .int .u32 c, .int .u32 d] 0 a w Try.isAgg55 rfl
  have p1 := fun w => part_int 55 .u32 #[.int .u32 a, .int .u32 b, .int .u32 c, .int .u32 d] 1 b w Try.isAgg55 rfl
  have p2 := fun w => part_int 55 .u32 #[.int .u32 a, .int .u32 b, .int .u32 c, .int .u32 d] 2 c w Try.isAgg55 rfl
  have p3 := fun w => part_int 55 .u32 #[.int .u32 a, .int .u32 b, .int .u32 c, .int .u32 d] 3 d w Try.isAgg55 rfl
  have q := fun (x : Int) w => (run_equalIn_int (P := Try.prog) w e 55 .u32 .u32 x x Try.underlying55).trans (by rw [beq_self_eq_true])
  rw [Op.equalIn]
  generalize (#[.int .u32 a, .int .u32 b, .int .u32 c, .int .u32 d] : Array Value) = xs at *
  simp only [Sem.run_bind, run_underlying hT, Result.andThen_ok, z4]
  simp [List.range', p0, p1, p2, p3, q]
theorem eq_call (c : CallD) (w : World) : (Op.equalIn 10000 81 (.agg (callC c)) (.agg (callC c))).run Try.prog w = .ok true w := by
  unfold callC
  have u3 := Try.underlying3
  have u4 := Try.underlying55
  have a3 := Try.isAgg3
  have a4 := Try.isAgg55
  have a5 := Try.isAgg57
  have z3 := Try.sizeOf3
  have z4 := Try.sizeOf55
  have z5 := Try.sizeOf57
  have hS : Try.prog.underlying 81 = some (.struct (Try.prog.fieldsOf 81)) := by kernel_rfl
  have hp : Try.prog.stoodInHeld 81 = false := by kernel_rfl
  have hv := fun w => eq_arr 9997 c.v0 c.v1 c.v2 c.v3 w
  rw [show (10000 : Nat) = 9999 + 1 from rfl, run_equalIn_agg w 9999 81 _ _ hS hp]
  simp only [Program.fieldsOf, Try.underlying81]
  go_simp
end Go.Proofs.Ytdjfelabdofaaaa
