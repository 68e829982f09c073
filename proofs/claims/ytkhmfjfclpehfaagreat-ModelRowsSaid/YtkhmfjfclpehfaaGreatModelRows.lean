import Derived.Test.YtkhmfjfclpehfaaGreatMeP
import Derived.Test.YtkhmfjfclpehfaaGreatBaseZ
namespace Go.Proofs.YtkhmfjfclpehfaaGreat
open Go.ChangeShapes Go.WideShapes Go.ChangeAt Go.RowKit
set_option linter.unusedVariables false
set_option linter.unusedSimpArgs false
set_option maxRecDepth 100000
theorem modelRows_walk {H : Type} {enc : TypeId × Value → H} (W : World) (base : Nat) {v0 v1 : Value} {d0 d1 : DataW H} {p0 p1 : List MemPlace}
    (k0 : Value.okWide Tryz.prog W .any base 26 v0) (h0 : DataW.Trod enc Tryz.prog W 0 (fun _ => true) true 26 v0 d0 p0)
    (k1 : Value.okWide Tryz.prog W .any base 27 v1) (h1 : DataW.Trod enc Tryz.prog W 0 (fun _ => true) true 27 v1 d1 p1) :
    Calls Tryz.prog 3 #[v0, v1] W fun e w' => e = .returned (.bool true) ∧ Below W.heap.size W w' := by
  obtain ⟨cs0, rfl, _⟩ := okWide_struct Tryz.underlying26 k0
  obtain ⟨a0, n0, c0, rfl⟩ := okWide_slice Tryz.underlying27 k1
  obtain ⟨c, e0, hc, ho, hu⟩ := cfg_of3 (reads_of h0)
  obtain ⟨a, n, cp, L, e1, hn, hm⟩ := moves_open (reads_of h1)
  obtain rfl : cs0 = c.cells := by
    have : cs0.toList = c.cells.toList := by simpa [Value.cells] using e0
    exact Array.toList_inj.1 this
  obtain ⟨rfl, rfl, rfl⟩ : a0 = a ∧ n0 = n ∧ c0 = cp := by simpa [Value.cells] using e1
  have fin : ∀ e w', LawQ W e w' → e = .returned (.bool true) ∧ Below W.heap.size W w' := fun e w' h => ⟨h.1, h.2.none⟩
  by_cases hv : badOf c = (0, 0, 0)
  · exact (rows_good c W hc ho a0 n0 c0 L hn hm hu hv).mono fin
  · exact (rows_bad c W hc ho a0 n0 c0 L hn hm hv).mono fin
end Go.Proofs.YtkhmfjfclpehfaaGreat
