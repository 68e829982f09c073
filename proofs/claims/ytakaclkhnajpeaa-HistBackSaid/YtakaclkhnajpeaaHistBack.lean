import Derived.Test.YtakaclkhnajpeaaHistBackT
import Derived.Test.YtakaclkhnajpeaaHistBackF
namespace Go.Proofs.Ytakaclkhnajpeaa
open Go.ChangeShapes Go.WideShapes Go.ChangeAt Go.RowKit
set_option linter.unusedVariables false
set_option linter.unusedSimpArgs false
theorem hback_any (w : World) (a : Option Addr) (n c : Nat) (L : List OpX) (h : OpsArg w a n L) (hn : n ≤ maxLen) :
    Calls Try.prog 3 #[.slice a n c] w fun e w' => e = .returned (.bool true) ∧ Below w.heap.size w w' := by
  unfold maxLen at hn
  by_cases h15 : 15 < n
  · have d1 : decide ((15 : Int) < (n : Int)) = true := decide_eq_true (by omega)
    clear h
    go_enter Try.func3, Try.ntmps3
    go_wp2_with fail
    refine (alive18_any _).mono ?_
    rintro e1 w1 ⟨rfl, k1⟩
    have HK := Lib.hid k1
    clear k1
    go_wp2_with fail
    go_ret
    exact ⟨rfl, HK.out⟩
  · cases hrt : rightH L with
    | true => exact hback_t w a n c L h (by omega) hrt
    | false => exact hback_f w a n c L h (by omega) hrt
set_option maxRecDepth 100000 in
theorem histBack_walk {H : Type} {enc : TypeId × Value → H} (W : World) (base : Nat) {v0 : Value} {d0 : DataW H} {p0 : List MemPlace}
    (k0 : Value.okWide Try.prog W .any base 22 v0) (h0 : DataW.Trod enc Try.prog W 0 (fun _ => true) true 22 v0 d0 p0) :
    Calls Try.prog 3 #[v0] W fun e w' => e = .returned (.bool true) ∧ Below W.heap.size W w' := by
  obtain ⟨a, n, c, L, hcs, hn, harg⟩ := hist_open (reads_of h0)
  obtain ⟨a0, n0, c0, rfl⟩ := okWide_slice Try.underlying22 k0
  simp [Value.cells] at hcs
  obtain ⟨rfl, rfl, rfl⟩ := hcs
  exact hback_any W a0 n0 c0 L harg hn
end Go.Proofs.Ytakaclkhnajpeaa
