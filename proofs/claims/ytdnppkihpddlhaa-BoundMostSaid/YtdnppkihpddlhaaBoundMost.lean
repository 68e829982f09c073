import Derived.Test.YtdnppkihpddlhaaBdLb
namespace Go.Proofs.Ytdnppkihpddlhaa
open Go.ChangeShapes Go.WideShapes Go.ChangeAt Go.RowKit
set_option linter.unusedVariables false
set_option maxRecDepth 100000 in
theorem boundMost_walk {H : Type} {enc : TypeId × Value → H} (W : World) (base : Nat) {v0 v1 : Value} {d0 d1 : DataW H} {p0 p1 : List MemPlace}
    (k0 : Value.okWide Try.prog W .any base 26 v0) (h0 : DataW.Trod enc Try.prog W 0 (fun _ => true) true 26 v0 d0 p0)
    (k1 : Value.okWide Try.prog W .any base 3 v1) (h1 : DataW.Trod enc Try.prog W 0 (fun _ => true) true 3 v1 d1 p1) :
    Calls Try.prog 4 #[v0, v1] W fun e w' => e = .returned (.bool true) ∧ Below W.heap.size W w' := by
  obtain ⟨cs0, rfl, _⟩ := okWide_struct Try.underlying26 k0
  obtain ⟨k, rfl⟩ := okWide_int Try.underlying3 k1
  obtain ⟨o, oi, e0, hb⟩ := object_cells (reads_of h0)
  obtain rfl : cs0 = objC o oi := by
    have : cs0.toList = (objC o oi).toList := by simpa [Value.cells] using e0
    exact Array.toList_inj.1 this
  have hb1 := hb 1 (by omega)
  by_cases hr : rightS o = true
  · by_cases hk : k = 16
    · exact (most_any o oi k W hb1 hr hk).mono fun e w' ⟨h1, h2⟩ => ⟨h1, h2.none⟩
    · exact (most_true o oi k W hb1 hr hk).mono fun e w' ⟨h1, h2⟩ => ⟨h1, h2.none⟩
  · exact (most_false o oi k W hb1 (by simpa using hr)).mono fun e w' ⟨h1, h2⟩ => ⟨h1, h2.none⟩
end Go.Proofs.Ytdnppkihpddlhaa
