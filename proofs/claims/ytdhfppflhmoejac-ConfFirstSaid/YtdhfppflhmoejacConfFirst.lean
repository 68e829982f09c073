import Derived.Test.YtdhfppflhmoejacConfR
namespace Go.Proofs.Ytdhfppflhmoejac
open Go.ChangeShapes Go.WideShapes Go.ChangeAt Go.RowKit
set_option linter.unusedVariables false
set_option maxRecDepth 100000 in
theorem cfg_cap {w : World} {c : CfD} (h : Reads Try.prog w 46 c.cells.toList) : c.nO ≤ c.oc := by
  obtain ⟨a, n, cap, e, hl, _⟩ := (h.field Try.underlying46 2 44 2 1 rfl (by kernel_rfl)).slice Try.underlying44
  simp at e
  obtain ⟨_, h2, h3⟩ := e
  omega
set_option maxRecDepth 100000 in
theorem confFirst_walk {H : Type} {enc : TypeId × Value → H} (W : World) (base : Nat) {v0 v1 : Value} {d0 d1 : DataW H} {p0 p1 : List MemPlace}
    (k0 : Value.okWide Try.prog W .any base 46 v0) (h0 : DataW.Trod enc Try.prog W 0 (fun _ => true) true 46 v0 d0 p0)
    (k1 : Value.okWide Try.prog W .any base 3 v1) (h1 : DataW.Trod enc Try.prog W 0 (fun _ => true) true 3 v1 d1 p1) :
    Calls Try.prog 4 #[v0, v1] W fun e w' => e = .returned (.bool true) ∧ Below W.heap.size W w' := by
  obtain ⟨cs0, rfl, _⟩ := okWide_struct Try.underlying46 k0
  obtain ⟨x, rfl, _, _, wk⟩ := open_int Try.underlying3 k1 h1
  have hr := reads_of h0
  obtain ⟨c, e0, hc, ho⟩ := cfg_of hr
  obtain rfl : cs0 = c.cells := by
    have : cs0.toList = c.cells.toList := by simpa [Value.cells] using e0
    exact Array.toList_inj.1 this
  have hcap : c.nO ≤ c.oc := cfg_cap (by rw [← e0]; exact hr)
  exact (first29_any c x W hc ho hcap).mono fun e w' ⟨h1, h2⟩ => ⟨h1, h2.none⟩
end Go.Proofs.Ytdhfppflhmoejac
