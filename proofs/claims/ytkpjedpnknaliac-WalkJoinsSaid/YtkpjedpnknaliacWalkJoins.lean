import Derived.Test.YtkpjedpnknaliacWalkJ
import Derived.Test.YtkpjedpnknaliacOpen
namespace Go.Proofs.Ytkpjedpnknaliac
open Go.ChangeShapes Go.WideShapes Go.ChangeAt Go.RowKit
set_option linter.unusedVariables false
set_option maxRecDepth 100000 in
theorem walk_cells {w : World} {cs : List Value} (h : Reads Try.prog w 50 cs) : ∃ x y z : Int, cs = [.int .i64 x, .int .i64 y, .int .i64 z] := by
  obtain ⟨hl, hf⟩ := h.struct Try.underlying50
  have hc : Try.prog.cellsOf 50 = 3 := by kernel_rfl
  have hn : Try.prog.cellsOf 48 = 2 := by kernel_rfl
  have hi : Try.prog.cellsOf 3 = 1 := by kernel_rfl
  rw [hc] at hl
  match cs, hl with
  | [v0, v1, v2], _ =>
    have h0 := h.field Try.underlying50 0 48 0 2 rfl hn
    obtain ⟨s, hs, _⟩ := (h0.field Try.underlying48 0 3 0 1 rfl hi).int Try.underlying3
    obtain ⟨f, hf, _⟩ := (h0.field Try.underlying48 1 3 1 1 rfl hi).int Try.underlying3
    obtain ⟨g, hg, _⟩ := (h.field Try.underlying50 1 3 2 1 rfl hi).int Try.underlying3
    simp at hs hf hg
    exact ⟨s, f, g, by simp [hs, hf, hg]⟩
set_option maxRecDepth 100000 in
theorem walkJoins_walk {H : Type} {enc : TypeId × Value → H} (W : World) (base : Nat) {v0 v1 : Value} {d0 d1 : DataW H} {p0 p1 : List MemPlace}
    (k0 : Value.okWide Try.prog W .any base 50 v0) (h0 : DataW.Trod enc Try.prog W 0 (fun _ => true) true 50 v0 d0 p0)
    (k1 : Value.okWide Try.prog W .any base 50 v1) (h1 : DataW.Trod enc Try.prog W 0 (fun _ => true) true 50 v1 d1 p1) :
    Calls Try.prog 5 #[v0, v1] W fun e w' => e = .returned (.bool true) ∧ Below W.heap.size W w' := by
  obtain ⟨cs0, rfl, _⟩ := okWide_struct Try.underlying50 k0
  obtain ⟨cs1, rfl, _⟩ := okWide_struct Try.underlying50 k1
  obtain ⟨a, b, t, e0⟩ := walk_cells (reads_of h0)
  obtain ⟨c, d, u, e1⟩ := walk_cells (reads_of h1)
  obtain rfl : cs0 = #[.int .i64 a, .int .i64 b, .int .i64 t] := by
    have : cs0.toList = [.int .i64 a, .int .i64 b, .int .i64 t] := by simpa [Value.cells] using e0
    cases cs0; simp_all
  obtain rfl : cs1 = #[.int .i64 c, .int .i64 d, .int .i64 u] := by
    have : cs1.toList = [.int .i64 c, .int .i64 d, .int .i64 u] := by simpa [Value.cells] using e1
    cases cs1; simp_all
  exact (walkJoins_plain a b t c d u W).mono fun e w' ⟨h1, h2⟩ => ⟨h1, h2.none⟩
end Go.Proofs.Ytkpjedpnknaliac
