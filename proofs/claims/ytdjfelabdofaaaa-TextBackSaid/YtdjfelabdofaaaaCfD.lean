import Derived.Test.YtdjfelabdofaaaaRows
import Derived.Test.YtdjfelabdofaaaaKerAz
import Derived.WalkKit
import Derived.ProofKit
import Derived.OpenShut
import Derived.WalkLawsBesides
namespace Go.Proofs.Ytdjfelabdofaaaa
open Go.ChangeShapes Go.WideShapes Go.ChangeAt Go.RowKit
set_option linter.unusedVariables false
set_option linter.unusedSimpArgs false
/-- A configuration's numbers, and where they lie. -/
structure CfD where
  nT : Nat
  nL : Nat
  nO : Nat
  tick : Int
  ta : Option Addr
  la : Option Addr
  oa : Option Addr
  tc : Nat
  lc : Nat
  oc : Nat
  tp : Nat → Int
  tb : Nat → Bool
  tl : Nat → Nat
  tca : Nat → Option Addr
  tcc : Nat → Nat
  lr : Nat → Int
  ll : Nat → Nat
  lca : Nat → Option Addr
  lcc : Nat → Nat
  ob : Nat → Nat → Int
  oi : Nat → Nat → Int
@[reducible] def CfD.cells (c : CfD) : Array Value := #[.slice c.ta c.nT c.tc, .slice c.la c.nL c.lc, .slice c.oa c.nO c.oc, .int .i64 c.tick]
@[reducible] def CfD.obj (c : CfD) (i : Nat) : Array Value := #[.int .i64 (c.ob i 0), .int .i64 (c.ob i 1), .int .i64 (c.ob i 2), .int .i64 (c.ob i 3), .int .i64 (c.ob i 4), .int .i64 (c.ob i 5), .int .u32 (c.oi i 0), .int .u32 (c.oi i 1), .int .u32 (c.oi i 2), .int .u32 (c.oi i 3)]
/-- Where a configuration's rows lie, they lie so. -/
structure CfIn (w : World) (c : CfD) : Prop where
  t : 0 < c.nT → ∃ b off, c.ta = some ⟨b, off, none⟩ ∧ b < w.heap.size ∧ ∀ i, i < c.nT → w.cell? ⟨b, off + i * 3, none⟩ = some (.int .i64 (c.tp i)) ∧ w.cell? ⟨b, off + i * 3 + 1, none⟩ = some (.bool (c.tb i)) ∧ w.cell? ⟨b, off + i * 3 + 2, none⟩ = some (.slice (c.tca i) (c.tl i) (c.tcc i))
  l : 0 < c.nL → ∃ b off, c.la = some ⟨b, off, none⟩ ∧ b < w.heap.size ∧ ∀ i, i < c.nL → w.cell? ⟨b, off + i * 2, none⟩ = some (.int .i64 (c.lr i)) ∧ w.cell? ⟨b, off + i * 2 + 1, none⟩ = some (.slice (c.lca i) (c.ll i) (c.lcc i))
  o : 0 < c.nO → ∃ b off, c.oa = some ⟨b, off, none⟩ ∧ b < w.heap.size ∧ ∀ i, i < c.nO → ∀ j, j < 10 → w.cell? ⟨b, off + i * 10 + j, none⟩ = (c.obj i)[j]?
/-- Within the bounds of the machine. -/
structure CfD.Ok (c : CfD) : Prop where
  t : c.nT ≤ maxLen
  l : c.nL ≤ maxLen
  o : c.nO ≤ maxLen
  tick : -9223372036854775808 ≤ c.tick ∧ c.tick ≤ 9223372036854775807
  lr : ∀ i, i < c.nL → -9223372036854775808 ≤ c.lr i ∧ c.lr i ≤ 9223372036854775807
  ob : ∀ i, i < c.nO → ∀ j, j < 6 → -9223372036854775808 ≤ c.ob i j ∧ c.ob i j ≤ 9223372036854775807
theorem CfIn.none {w w' : World} {c : CfD} (h : CfIn w c) (k : Keeps (fun _ => False) w w') : CfIn w' c := by
  have hk := k.none
  refine ⟨fun hn => ?_, fun hn => ?_, fun hn => ?_⟩
  · obtain ⟨b, off, ha, hb, hc⟩ := h.t hn
    exact ⟨b, off, ha, Nat.lt_of_lt_of_le hb k.size, fun i hi => ⟨(hk.cell (p := ⟨b, off + i * 3, Option.none⟩) hb).trans (hc i hi).1, (hk.cell (p := ⟨b, off + i * 3 + 1, Option.none⟩) hb).trans (hc i hi).2.1, (hk.cell (p := ⟨b, off + i * 3 + 2, Option.none⟩) hb).trans (hc i hi).2.2⟩⟩
  · obtain ⟨b, off, ha, hb, hc⟩ := h.l hn
    exact ⟨b, off, ha, Nat.lt_of_lt_of_le hb k.size, fun i hi => ⟨(hk.cell (p := ⟨b, off + i * 2, Option.none⟩) hb).trans (hc i hi).1, (hk.cell (p := ⟨b, off + i * 2 + 1, Option.none⟩) hb).trans (hc i hi).2⟩⟩
  · obtain ⟨b, off, ha, hb, hc⟩ := h.o hn
    exact ⟨b, off, ha, Nat.lt_of_lt_of_le hb k.size, fun i hi j hj => (hk.cell (p := ⟨b, off + i * 10 + j, Option.none⟩) hb).trans (hc i hi j hj)⟩
theorem four_cells {w : World} {g : Nat} {x y z v : Value} {E : TypeId} (h : w.heap[g]? = some (.cells #[x, y, z, v] E (0, 0))) :
    w.cell? ⟨g, 0, none⟩ = some x ∧ w.cell? ⟨g, 1, none⟩ = some y ∧ w.cell? ⟨g, 2, none⟩ = some z ∧ w.cell? ⟨g, 3, none⟩ = some v := ⟨cell_of h 0, cell_of h 1, cell_of h 2, cell_of h 3⟩
end Go.Proofs.Ytdjfelabdofaaaa
