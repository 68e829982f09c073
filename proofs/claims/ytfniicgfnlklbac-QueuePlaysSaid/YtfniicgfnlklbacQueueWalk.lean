import Derived.Test.YtfniicgfnlklbacQueuePlays
namespace Go.Proofs.Ytfniicgfnlklbac
open Go.ChangeShapes Go.WideShapes Go.ChangeAt Go.RowKit
set_option maxRecDepth 100000 in
theorem queuePlays_walk {H : Type} {enc : TypeId × Value → H} (W : World) (base : Nat) {v0 v1 v2 : Value} {d0 d1 d2 : DataW H} {p0 p1 p2 : List MemPlace}
    (k0 : Value.okWide Try.prog W .any base 22 v0) (h0 : DataW.Trod enc Try.prog W 0 (fun _ => true) true 22 v0 d0 p0)
    (k1 : Value.okWide Try.prog W .any base 3 v1) (_ : DataW.Trod enc Try.prog W 0 (fun _ => true) true 3 v1 d1 p1)
    (k2 : Value.okWide Try.prog W .any base 3 v2) (_ : DataW.Trod enc Try.prog W 0 (fun _ => true) true 3 v2 d2 p2) :
    Calls Try.prog 3 #[v0, v1, v2] W fun e w' => e = .returned (.bool true) ∧ Below W.heap.size W w' := by
  obtain ⟨a, n, c, G, V, rfl, hn, hs⟩ := steps25_of k0 h0
  obtain ⟨t, rfl⟩ := okWide_int Try.underlying3 k1
  obtain ⟨o, rfl⟩ := okWide_int Try.underlying3 k2
  by_cases hl : 100 < n
  · exact queuePlays_long a n c t o W hn hl
  · exact queuePlays_plain a n c G V t o W (by omega) hs
end Go.Proofs.Ytfniicgfnlklbac
