import Derived.Test.YtccjbgjemfcedabGaussLaws
import Derived.Test.YtccjbgjemfcedabOpen
namespace Go.Proofs.Ytccjbgjemfcedab
open Go.ChangeShapes Go.WideShapes Go.ChangeAt Go.RowKit
set_option linter.unusedVariables false
set_option maxRecDepth 100000 in
theorem num_cells {w : World} {cs : List Value} (h : Reads Try.prog w 23 cs) : ∃ x y : Int, cs = [.int .i64 x, .int .i64 y] := by
  obtain ⟨hl, hf⟩ := h.struct Try.underlying23
  have hc : Try.prog.cellsOf 23 = 2 := by kernel_rfl
  have hi : Try.prog.cellsOf 3 = 1 := by kernel_rfl
  rw [hc] at hl
  match cs, hl with
  | [v0, v1], _ =>
    obtain ⟨s, hs, _⟩ := (h.field Try.underlying23 0 3 0 1 rfl hi).int Try.underlying3
    obtain ⟨f, hf, _⟩ := (h.field Try.underlying23 1 3 1 1 rfl hi).int Try.underlying3
    simp at hs hf
    exact ⟨s, f, by simp [hs, hf]⟩
set_option maxRecDepth 100000 in
theorem num_of {H : Type} {enc : TypeId × Value → H} {W : World} {base : Nat} {v : Value} {d : DataW H} {p : List MemPlace}
    (k : Value.okWide Try.prog W .any base 23 v) (h : DataW.Trod enc Try.prog W 0 (fun _ => true) true 23 v d p) : ∃ a b : Int, v = .agg #[.int .i64 a, .int .i64 b] := by
  obtain ⟨cs0, rfl, _⟩ := okWide_struct Try.underlying23 k
  obtain ⟨a, b, e0⟩ := num_cells (reads_of h)
  obtain rfl : cs0 = #[.int .i64 a, .int .i64 b] := by
    have : cs0.toList = [.int .i64 a, .int .i64 b] := by simpa [Value.cells] using e0
    cases cs0; simp_all
  exact ⟨a, b, rfl⟩
set_option maxRecDepth 100000 in
theorem gaussLaws_walk {H : Type} {enc : TypeId × Value → H} (W : World) (base : Nat) {v0 v1 v2 : Value} {d0 d1 d2 : DataW H} {p0 p1 p2 : List MemPlace}
    (k0 : Value.okWide Try.prog W .any base 23 v0) (h0 : DataW.Trod enc Try.prog W 0 (fun _ => true) true 23 v0 d0 p0)
    (k1 : Value.okWide Try.prog W .any base 23 v1) (h1 : DataW.Trod enc Try.prog W 0 (fun _ => true) true 23 v1 d1 p1)
    (k2 : Value.okWide Try.prog W .any base 23 v2) (h2 : DataW.Trod enc Try.prog W 0 (fun _ => true) true 23 v2 d2 p2) :
    Calls Try.prog 3 #[v0, v1, v2] W fun e w' => e = .returned (.bool true) ∧ Below W.heap.size W w' := by
  obtain ⟨a, b, rfl⟩ := num_of k0 h0
  obtain ⟨c, d, rfl⟩ := num_of k1 h1
  obtain ⟨e, f, rfl⟩ := num_of k2 h2
  refine (gaussLaws_plain a b c d e f W).mono ?_
  rintro e9 w9 ⟨rfl, hk⟩
  exact ⟨rfl, hk.none⟩
end Go.Proofs.Ytccjbgjemfcedab
