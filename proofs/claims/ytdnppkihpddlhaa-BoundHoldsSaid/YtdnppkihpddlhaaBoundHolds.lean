import Derived.Test.YtdnppkihpddlhaaBdLa
namespace Go.Proofs.Ytdnppkihpddlhaa
open Go.ChangeShapes Go.WideShapes Go.ChangeAt Go.RowKit
set_option linter.unusedVariables false
set_option maxRecDepth 100000 in
theorem boundHolds_walk {H : Type} {enc : TypeId × Value → H} (W : World) (base : Nat) {v0 v1 v2 : Value} {d0 d1 d2 : DataW H} {p0 p1 p2 : List MemPlace}
    (k0 : Value.okWide Try.prog W .any base 26 v0) (h0 : DataW.Trod enc Try.prog W 0 (fun _ => true) true 26 v0 d0 p0)
    (k1 : Value.okWide Try.prog W .any base 28 v1) (h1 : DataW.Trod enc Try.prog W 0 (fun _ => true) true 28 v1 d1 p1)
    (k2 : Value.okWide Try.prog W .any base 29 v2) (h2 : DataW.Trod enc Try.prog W 0 (fun _ => true) true 29 v2 d2 p2) :
    Calls Try.prog 3 #[v0, v1, v2] W fun e w' => e = .returned (.bool true) ∧ Below W.heap.size W w' := by
  obtain ⟨cs0, rfl, _⟩ := okWide_struct Try.underlying26 k0
  obtain ⟨cs1, rfl, _⟩ := okWide_struct Try.underlying28 k1
  obtain ⟨a', m', c', rfl⟩ := okWide_slice Try.underlying29 k2
  obtain ⟨o, oi, e0, hb⟩ := object_cells (reads_of h0)
  obtain ⟨k, ob, V, n, e1⟩ := call_cells (reads_of h1)
  obtain rfl : cs0 = objC o oi := by
    have : cs0.toList = (objC o oi).toList := by simpa [Value.cells] using e0
    exact Array.toList_inj.1 this
  obtain rfl : cs1 = clC k ob V n := by
    have : cs1.toList = (clC k ob V n).toList := by simpa [Value.cells] using e1
    exact Array.toList_inj.1 this
  obtain ⟨a, m, c, e, hl2, hm2, r2⟩ := (reads_of h2).rows Try.underlying29 (n := 1) (by kernel_rfl) (by omega)
  simp [Value.cells] at e
  obtain ⟨rfl, rfl, rfl⟩ := e
  have hb1 := hb 1 (by omega)
  by_cases hr : rightS o = true
  · have hG : ∃ G : Nat → Int, 0 < m' → ∃ B off, a' = some ⟨B, off, none⟩ ∧ B < W.heap.size ∧ ∀ i, i < m' → W.cell? ⟨B, off + i, none⟩ = some (.int .u32 (G i)) := by
      by_cases h0 : 0 < m'
      · obtain ⟨B, off, ha, hB, hr⟩ := r2 h0
        obtain ⟨N, hN⟩ := Deep.choose_lt (n := m') (p := fun i (x : Int) => W.cell? ⟨B, off + i, none⟩ = some (.int .u32 x)) (fun i hi => by
          obtain ⟨cs', _, hc, hrd⟩ := hr i hi
          obtain ⟨x, rfl, _⟩ := hrd.int Try.underlying22
          have := hc 0 (by omega)
          simp at this
          exact ⟨x, this⟩)
        exact ⟨N, fun _ => ⟨B, off, ha, hB, hN⟩⟩
      · exact ⟨fun _ => 0, fun h => absurd h h0⟩
    obtain ⟨G, hG⟩ := hG
    exact (hold_true o oi k ob n V a' m' c' G W hb1 hr (by omega) hG).mono fun e w' ⟨h1, h2⟩ => ⟨h1, h2.none⟩
  · exact (hold_false o oi k ob n V a' m' c' W hb1 (by simpa using hr)).mono fun e w' ⟨h1, h2⟩ => ⟨h1, h2.none⟩
end Go.Proofs.Ytdnppkihpddlhaa
