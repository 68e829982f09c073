import Derived.Test.YtjpbfmhfjlbcgaaRotorTt
import Derived.Test.YtjpbfmhfjlbcgaaOpen
namespace Go.Proofs.Ytjpbfmhfjlbcgaa
open Go.ChangeShapes Go.WideShapes Go.ChangeAt Go.RowKit
set_option linter.unusedVariables false
set_option maxRecDepth 100000 in
theorem rotor_cells {w : World} {cs : List Value} (h : Reads Try.prog w 25 cs) : ∃ x y a b c d p : Int, cs = [.int .i64 x, .int .i64 y, .int .i64 a, .int .i64 b, .int .i64 c, .int .i64 d, .int .i64 p] := by
  obtain ⟨hl, hf⟩ := h.struct Try.underlying25
  have hc : Try.prog.cellsOf 25 = 7 := by kernel_rfl
  have hn : Try.prog.cellsOf 23 = 2 := by kernel_rfl
  have hi : Try.prog.cellsOf 3 = 1 := by kernel_rfl
  rw [hc] at hl
  match cs, hl with
  | [v0, v1, v2, v3, v4, v5, v6], _ =>
    have h0 := h.field Try.underlying25 0 23 0 2 rfl hn
    have h1 := h.field Try.underlying25 1 23 2 2 rfl hn
    have h2 := h.field Try.underlying25 2 23 4 2 rfl hn
    obtain ⟨q0, e0, _⟩ := (h0.field Try.underlying23 0 3 0 1 rfl hi).int Try.underlying3
    obtain ⟨q1, e1, _⟩ := (h0.field Try.underlying23 1 3 1 1 rfl hi).int Try.underlying3
    obtain ⟨q2, e2, _⟩ := (h1.field Try.underlying23 0 3 0 1 rfl hi).int Try.underlying3
    obtain ⟨q3, e3, _⟩ := (h1.field Try.underlying23 1 3 1 1 rfl hi).int Try.underlying3
    obtain ⟨q4, e4, _⟩ := (h2.field Try.underlying23 0 3 0 1 rfl hi).int Try.underlying3
    obtain ⟨q5, e5, _⟩ := (h2.field Try.underlying23 1 3 1 1 rfl hi).int Try.underlying3
    obtain ⟨q6, e6, _⟩ := (h.field Try.underlying25 3 3 6 1 rfl hi).int Try.underlying3
    simp at e0 e1 e2 e3 e4 e5 e6
    exact ⟨q0, q1, q2, q3, q4, q5, q6, by simp [e0, e1, e2, e3, e4, e5, e6]⟩
set_option maxRecDepth 100000 in
theorem rotorTakes_walk {H : Type} {enc : TypeId × Value → H} (W : World) (base : Nat) {v0 v1 v2 v3 : Value} {d0 d1 d2 d3 : DataW H} {p0 p1 p2 p3 : List MemPlace}
    (k0 : Value.okWide Try.prog W .any base 25 v0) (h0 : DataW.Trod enc Try.prog W 0 (fun _ => true) true 25 v0 d0 p0)
    (k1 : Value.okWide Try.prog W .any base 3 v1) (h1 : DataW.Trod enc Try.prog W 0 (fun _ => true) true 3 v1 d1 p1)
    (k2 : Value.okWide Try.prog W .any base 3 v2) (h2 : DataW.Trod enc Try.prog W 0 (fun _ => true) true 3 v2 d2 p2)
    (k3 : Value.okWide Try.prog W .any base 3 v3) (h3 : DataW.Trod enc Try.prog W 0 (fun _ => true) true 3 v3 d3 p3) :
    Calls Try.prog 4 #[v0, v1, v2, v3] W fun e w' => e = .returned (.bool true) ∧ Below W.heap.size W w' := by
  obtain ⟨cs0, rfl, _⟩ := okWide_struct Try.underlying25 k0
  obtain ⟨n, rfl, _, _, wk⟩ := open_int Try.underlying3 k1 h1
  obtain ⟨levels, rfl, _, _, wk2⟩ := open_int Try.underlying3 k2 h2
  obtain ⟨calm, rfl, _, _, wk3⟩ := open_int Try.underlying3 k3 h3
  obtain ⟨x, y, a, b, c, d, p, e0⟩ := rotor_cells (reads_of h0)
  obtain rfl : cs0 = rCells x y a b c d p := by
    have : cs0.toList = [.int .i64 x, .int .i64 y, .int .i64 a, .int .i64 b, .int .i64 c, .int .i64 d, .int .i64 p] := by simpa [Value.cells] using e0
    cases cs0; simp_all
  exact (takes05_any x y a b c d p n levels calm W).mono fun e w' ⟨h1, h2⟩ => ⟨h1, h2.none⟩
end Go.Proofs.Ytjpbfmhfjlbcgaa
