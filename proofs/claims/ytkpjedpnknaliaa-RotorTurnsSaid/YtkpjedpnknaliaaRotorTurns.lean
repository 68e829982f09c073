import Derived.Test.YtkpjedpnknaliaaRotorT
import Derived.Test.YtkpjedpnknaliaaOpen
namespace Go.Proofs.Ytkpjedpnknaliaa
open Go.ChangeShapes Go.WideShapes Go.ChangeAt Go.RowKit
set_option linter.unusedVariables false
set_option maxRecDepth 100000 in
theorem rotor_cells {w : World} {cs : List Value} (h : Reads Try.prog w 64 cs) : ∃ x y a b c d p : Int, cs = [.int .i64 x, .int .i64 y, .int .i64 a, .int .i64 b, .int .i64 c, .int .i64 d, .int .i64 p] := by
  obtain ⟨hl, hf⟩ := h.struct Try.underlying64
  have hc : Try.prog.cellsOf 64 = 7 := by kernel_rfl
  have hn : Try.prog.cellsOf 53 = 2 := by kernel_rfl
  have hi : Try.prog.cellsOf 3 = 1 := by kernel_rfl
  rw [hc] at hl
  match cs, hl with
  | [v0, v1, v2, v3, v4, v5, v6], _ =>
    have h0 := h.field Try.underlying64 0 53 0 2 rfl hn
    have h1 := h.field Try.underlying64 1 53 2 2 rfl hn
    have h2 := h.field Try.underlying64 2 53 4 2 rfl hn
    obtain ⟨q0, e0, _⟩ := (h0.field Try.underlying53 0 3 0 1 rfl hi).int Try.underlying3
    obtain ⟨q1, e1, _⟩ := (h0.field Try.underlying53 1 3 1 1 rfl hi).int Try.underlying3
    obtain ⟨q2, e2, _⟩ := (h1.field Try.underlying53 0 3 0 1 rfl hi).int Try.underlying3
    obtain ⟨q3, e3, _⟩ := (h1.field Try.underlying53 1 3 1 1 rfl hi).int Try.underlying3
    obtain ⟨q4, e4, _⟩ := (h2.field Try.underlying53 0 3 0 1 rfl hi).int Try.underlying3
    obtain ⟨q5, e5, _⟩ := (h2.field Try.underlying53 1 3 1 1 rfl hi).int Try.underlying3
    obtain ⟨q6, e6, _⟩ := (h.field Try.underlying64 3 3 6 1 rfl hi).int Try.underlying3
    simp at e0 e1 e2 e3 e4 e5 e6
    exact ⟨q0, q1, q2, q3, q4, q5, q6, by simp [e0, e1, e2, e3, e4, e5, e6]⟩
set_option maxRecDepth 100000 in
theorem rotorTurns_walk {H : Type} {enc : TypeId × Value → H} (W : World) (base : Nat) {v0 v1 : Value} {d0 d1 : DataW H} {p0 p1 : List MemPlace}
    (k0 : Value.okWide Try.prog W .any base 64 v0) (h0 : DataW.Trod enc Try.prog W 0 (fun _ => true) true 64 v0 d0 p0)
    (k1 : Value.okWide Try.prog W .any base 3 v1) (h1 : DataW.Trod enc Try.prog W 0 (fun _ => true) true 3 v1 d1 p1) :
    Calls Try.prog 7 #[v0, v1] W fun e w' => e = .returned (.bool true) ∧ Below W.heap.size W w' := by
  obtain ⟨cs0, rfl, _⟩ := okWide_struct Try.underlying64 k0
  obtain ⟨n, rfl, _, _, wk⟩ := open_int Try.underlying3 k1 h1
  obtain ⟨x, y, a, b, c, d, p, e0⟩ := rotor_cells (reads_of h0)
  obtain rfl : cs0 = rCells x y a b c d p := by
    have : cs0.toList = [.int .i64 x, .int .i64 y, .int .i64 a, .int .i64 b, .int .i64 c, .int .i64 d, .int .i64 p] := by simpa [Value.cells] using e0
    cases cs0; simp_all
  by_cases hn : n ≤ 3000
  · exact (turns05_plain x y a b c d p n W hn).mono fun e w' ⟨h1, h2⟩ => ⟨h1, h2.none⟩
  · exact (turns05_large x y a b c d p n W (by omega)).mono fun e w' ⟨h1, h2⟩ => ⟨h1, h2.none⟩
end Go.Proofs.Ytkpjedpnknaliaa
