import Derived.Test.YtlpnobpgphmngaaGaussSmall
import Derived.Test.YtlpnobpgphmngaaOpen
namespace Go.Proofs.Ytlpnobpgphmngaa
open Go.ChangeShapes Go.WideShapes Go.ChangeAt Go.RowKit
set_option linter.unusedVariables false
set_option maxRecDepth 100000 in
theorem num_cells {w : World} {cs : List Value} (h : Reads Try.prog w 53 cs) : ∃ x y : Int, cs = [.int .i64 x, .int .i64 y] := by
  obtain ⟨hl, hf⟩ := h.struct Try.underlying53
  have hc : Try.prog.cellsOf 53 = 2 := by kernel_rfl
  have hi : Try.prog.cellsOf 3 = 1 := by kernel_rfl
  rw [hc] at hl
  match cs, hl with
  | [v0, v1], _ =>
    obtain ⟨s, hs, _⟩ := (h.field Try.underlying53 0 3 0 1 rfl hi).int Try.underlying3
    obtain ⟨f, hf, _⟩ := (h.field Try.underlying53 1 3 1 1 rfl hi).int Try.underlying3
    simp at hs hf
    exact ⟨s, f, by simp [hs, hf]⟩
set_option maxRecDepth 100000 in
theorem gaussReckons_walk {H : Type} {enc : TypeId × Value → H} (W : World) (base : Nat) {v0 v1 v2 v3 : Value} {d0 d1 d2 d3 : DataW H} {p0 p1 p2 p3 : List MemPlace}
    (k0 : Value.okWide Try.prog W .any base 53 v0) (h0 : DataW.Trod enc Try.prog W 0 (fun _ => true) true 53 v0 d0 p0)
    (k1 : Value.okWide Try.prog W .any base 53 v1) (h1 : DataW.Trod enc Try.prog W 0 (fun _ => true) true 53 v1 d1 p1)
    (k2 : Value.okWide Try.prog W .any base 3 v2) (h2 : DataW.Trod enc Try.prog W 0 (fun _ => true) true 3 v2 d2 p2)
    (k3 : Value.okWide Try.prog W .any base 54 v3) (h3 : DataW.Trod enc Try.prog W 0 (fun _ => true) true 54 v3 d3 p3) :
    Calls Try.prog 6 #[v0, v1, v2, v3] W fun e w' => e = .returned (.bool true) ∧ Below W.heap.size W w' := by
  obtain ⟨cs0, rfl, _⟩ := okWide_struct Try.underlying53 k0
  obtain ⟨cs1, rfl, _⟩ := okWide_struct Try.underlying53 k1
  obtain ⟨k, rfl, _, _, wk⟩ := open_int Try.underlying3 k2 h2
  obtain ⟨a3, n3, c3, rfl⟩ := okWide_slice Try.underlying54 k3
  obtain ⟨a, b, e0⟩ := num_cells (reads_of h0)
  obtain ⟨c, d, e1⟩ := num_cells (reads_of h1)
  obtain rfl : cs0 = #[.int .i64 a, .int .i64 b] := by
    have : cs0.toList = [.int .i64 a, .int .i64 b] := by simpa [Value.cells] using e0
    cases cs0; simp_all
  obtain rfl : cs1 = #[.int .i64 c, .int .i64 d] := by
    have : cs1.toList = [.int .i64 c, .int .i64 d] := by simpa [Value.cells] using e1
    cases cs1; simp_all
  have hk : -9223372036854775808 ≤ k ∧ k ≤ 9223372036854775807 := by simpa [Lit.wf, IntKind.min, IntKind.max, IntKind.signed, IntKind.bits] using wk
  obtain ⟨l, n, cap, e, hl, hm, r⟩ := (reads_of h3).rows Try.underlying54 (n := 2) (by kernel_rfl) (by omega)
  simp [Value.cells] at e
  obtain ⟨rfl, rfl, rfl⟩ := e
  by_cases hn : n3 ≤ 40
  · have q : ∃ F G : Nat → Int, RowP W a3 n3 F G := by
      rcases Nat.eq_zero_or_pos n3 with rfl | hp
      · exact ⟨fun _ => 0, fun _ => 0, fun h => by omega⟩
      · obtain ⟨b, off, rfl, hb, hr⟩ := r hp
        obtain ⟨F, hF⟩ := Deep.choose_lt (n := n3) (p := fun i (f : Int × Int) => W.cell? ⟨b, off + i * 2, none⟩ = some (.int .i64 f.1) ∧ W.cell? ⟨b, off + i * 2 + 1, none⟩ = some (.int .i64 f.2)) (fun i hi => by
          obtain ⟨cs', _, hc, hrd⟩ := hr i hi
          obtain ⟨x, y, rfl⟩ := num_cells hrd
          have c0 := hc 0 (by omega)
          have c1 := hc 1 (by omega)
          simp at c0 c1
          exact ⟨(x, y), c0, c1⟩)
        exact ⟨fun i => (F i).1, fun i => (F i).2, fun _ => ⟨b, off, rfl, hb, hF⟩⟩
    obtain ⟨F, G, hr⟩ := q
    exact (reckons_small a b c d k a3 n3 c3 F G W hn hk hr).mono fun e w' ⟨h1, h2⟩ => ⟨h1, h2.none⟩
  · have hm' : n3 ≤ 9223372036854775807 := by unfold maxLen at hm; omega
    exact (reckons_large a b c d k a3 n3 c3 W hm' (by omega)).mono fun e w' ⟨h1, h2⟩ => ⟨h1, h2.none⟩
end Go.Proofs.Ytlpnobpgphmngaa
