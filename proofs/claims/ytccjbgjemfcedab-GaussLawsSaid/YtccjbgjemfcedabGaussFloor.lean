import Derived.Test.YtccjbgjemfcedabGaussL
namespace Go.Proofs.Ytccjbgjemfcedab
open Go.ChangeShapes Go.WideShapes Go.ChangeAt Go.RowKit
set_option linter.unusedVariables false
theorem ediv_of_tdiv (n m : Int) (hm : 0 < m) : n / m = if n.tmod m < 0 then n.tdiv m - 1 else n.tdiv m := by
  have h1 := Int.tmod_lt_of_pos n hm
  have h2 := Int.lt_tmod_of_pos n hm
  have h3 := Int.mul_tdiv_add_tmod n m
  split
  · refine ((Int.ediv_emod_unique (r := n.tmod m + m) hm).2 ⟨?_, by omega, by omega⟩).1
    rw [Int.mul_sub, Int.mul_one]
    omega
  · refine ((Int.ediv_emod_unique (r := n.tmod m) hm).2 ⟨by omega, by omega, by omega⟩).1
theorem gfloor_any (n m : Int) (w : World) (hm : 0 < m) (hn : -4611686018427387904 ≤ n ∧ n ≤ 4611686018427387904) (hm2 : m ≤ 4611686018427387904) :
    Calls Try.prog 30 #[.int .i64 n, .int .i64 m] w fun e w' => e = .returned (.int .i64 (n / m)) ∧ Keeps (fun _ => False) w w' := by
  rw [ediv_of_tdiv n m hm]
  have hne : ¬ m = 0 := by omega
  have b1 : (n.tdiv m).natAbs ≤ n.natAbs := by rw [Int.natAbs_tdiv]; exact Nat.div_le_self _ _
  go_enter Try.func30, Try.ntmps30
  go_wp2
  all_goals
    go_ret
    exact ⟨rfl, Keeps.refl _ _⟩
theorem ground_any (x : Nat) (P N : Int) (b : Nat) (w : World) (hx : IsF x P) (hP : P.natAbs ≤ 4398046511104) (hN : 0 < N) (hN2 : N ≤ 4398046511104) (hc : w.cell? ⟨b, 0, none⟩ = some (.int .i64 N)) :
    Calls Try.prog 29 #[.float .f64 x, .pointer (some ⟨b, 0, none⟩)] w fun e w' => e = .returned (.int .i64 ((2 * P + N) / (2 * N))) ∧ Keeps (fun _ => False) w w' := by
  have c1 := fun w => run_toInt x P w hx (by omega) (by omega)
  clear hx
  have W1 : IntKind.i64.wrap (2 * P) = 2 * P := by rw [IntWalk.i64_in _ ⟨by omega, by omega⟩]
  have W2 : IntKind.i64.wrap (2 * P + N) = 2 * P + N := by rw [IntWalk.i64_in _ ⟨by omega, by omega⟩]
  have W3 : IntKind.i64.wrap (2 * N) = 2 * N := by rw [IntWalk.i64_in _ ⟨by omega, by omega⟩]
  have HF := Lib.hid (fun w => gfloor_any (2 * P + N) (2 * N) w (by omega) (by omega) (by omega))
  go_enter Try.func29, Try.ntmps29
  go_wp2_with fail
  refine (HF.out _).mono ?_
  rintro e w1 ⟨rfl, k1⟩
  go_wp2
  go_ret
  exact ⟨rfl, k1⟩
end Go.Proofs.Ytccjbgjemfcedab
