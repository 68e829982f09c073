import Derived.Test.YtdjfelabdofaaaaTextK
import Derived.Defers
import Derived.Recover
import Derived.Laws.Pointers
namespace Go.Proofs.Ytdjfelabdofaaaa
open Go.ChangeShapes Go.WideShapes Go.ChangeAt Go.RowKit
set_option linter.unusedVariables false
set_option linter.unusedSimpArgs false
set_option maxRecDepth 100000 in
set_option maxHeartbeats 1000000 in
theorem idle_any (w : World) (l : Nat) (n : Int) (C H f : Value) (hl : w.heap[l]? = some (.cells #[.int .i64 n] 3 (0, 0))) :
    CallsD Try.prog 26 #[.pointer (some ⟨l, 0, none⟩), C, H, f] .returning w fun e u' w' => e = .returned (.tuple #[]) ∧ u' = .returning ∧ w' = w.setCell ⟨l, 0, none⟩ (.int .i64 0) := by
  have c0 : w.cell? ⟨l, 0, none⟩ = some (.int .i64 n) := cell_of hl 0
  have f0 := free_of hl 0
  refine callsD_of_wpS Try.func26 rfl fun c₀ cs hu => ?_
  apply wpS_seq
  apply wpS_region
  simp [wpOpsS, go_sem, recoverD, hu, Try.ntmps26, Exit.thenS]
  refine wpS_of_wp ?_
  have e : (#[Value.pointer (some ⟨l, 0, none⟩), C, H, f] ++ (Array.replicate 12 undef).setIfInBounds 3 Value.nilIface : Array Value) = #[.pointer (some ⟨l, 0, none⟩), C, H, f, undef, undef, undef, .nilIface, undef, undef, undef, undef, undef, undef, undef, undef] := by rfl
  rw [e]
  clear e
  have hq : ∀ w : World, (binOp .eql 20 .nilIface .nilIface).run Try.prog w = .ok (.bool true) w := fun w => by kernel_rfl
  go_wp2_with fail
  clear c0 f0 hl hq
  cases c₀
  simp_all [bodyPostS, results, Try.results26]
end Go.Proofs.Ytdjfelabdofaaaa
