import Derived.Test.YtkhmfjfclpehfaaGreatOpA
namespace Go.Proofs.YtkhmfjfclpehfaaGreat
open Go.ChangeShapes Go.WideShapes Go.ChangeAt Go.RowKit
set_option linter.unusedVariables false
set_option linter.unusedSimpArgs false
/-- Calls in memory. -/
def OpsIn (w : World) (g o : Nat) (L : List OpX) : Prop := ∀ k x, L[k]? = some x → w.rangeAt g (o + k * 17) (opL x)
theorem range_below {w w' : World} {B b o : Nat} {cs : List Value} (h : w.rangeAt b o cs) (hb : Below B w w') (hB : b < B) : w'.rangeAt b o cs := fun j v hv => (hb.cell (p := ⟨b, o + j, none⟩) hB).trans (h j v hv)
theorem range_keeps {w w' : World} {b o : Nat} {cs : List Value} (h : w.rangeAt b o cs) (hk : Keeps (fun _ => False) w w') (hl : b < w.heap.size) : w'.rangeAt b o cs := range_below h hk.none hl
/-- A history as an argument. -/
structure OpsArg (w : World) (a : Option Addr) (n : Nat) (L : List OpX) : Prop where
  len : L.length = n
  ok : ∀ x, x ∈ L → OpOk x
  lies : 0 < n → ∃ b off, a = some ⟨b, off, none⟩ ∧ b < w.heap.size ∧ OpsIn w b off L
theorem OpsArg.below {w w' : World} {a : Option Addr} {n : Nat} {L : List OpX} (h : OpsArg w a n L) (hb : Below w.heap.size w w') : OpsArg w' a n L :=
  ⟨h.len, h.ok, fun hn => by
    obtain ⟨b, off, e, hl, hc⟩ := h.lies hn
    exact ⟨b, off, e, Nat.lt_of_lt_of_le hl hb.size, fun k x hk => range_below (hc k x hk) hb hl⟩⟩
end Go.Proofs.YtkhmfjfclpehfaaGreat
