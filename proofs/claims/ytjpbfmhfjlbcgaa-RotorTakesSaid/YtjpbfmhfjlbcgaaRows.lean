/-
  No cell of these rows narrows 'for every input' (looked for: loops, veiled, ifaces, maps, wideKeys, modest, calm, conditions, laid).
  DERIVED. THE GIVEN ROWS OF THIS SEAT. 3 by the template 'for every input the law returns true; each argument reads behind the call as it read before'; 0 by the template 'total and deterministic' (their statements: YtjpbfmhfjlbcgaaTotals.lean).
  GIVEN WITH THE SEED: the statements are not yours to turn. If you find one false, say at which input.
  Laid BY PROGRAM, IN A SANDBOX (cutbox-rows.mjs): the forced cells as the released guide's own fill.sh prints them over the translation 0da95f3b859a47e0… (all of the seat's roots in one cut). By AI agents, Wed Nov 11 2026. No macro, syntax, notation, axiom, sorry.
-/
import Derived.Test.YtjpbfmhfjlbcgaaChecked
import GoSem.Claim
import GoSem.ClaimJoined
import GoSem.ClaimMapViews
import Derived.JoinedTies
import Derived.KernelRfl
namespace Go.Proofs.Ytjpbfmhfjlbcgaa
/- THE CELL 'sum', in the pinned program and in every row, IS THE sha256 OF THE DUMP (.gsa) THAT YtjpbfmhfjlbcgaaProg.lean LOADS. Nothing in Lean hashes anything: it is a label: what it is worth is what the hold of that sum in a sandbox is worth. -/
noncomputable def Try.pinned : Pinned := { name := "ytjpbfmhfjlbcgaa", sum := "0da95f3b859a47e0b43c020a0fc3e58ed83688ca75213d381388e31e277e92de", checked := Try.checked }
namespace Rows
def none {H : Type} : Left H := { results := [], args := [] }

/-- 'bellropelaw05.RotorTurns': WHATEVER THE INPUT: true; the input reads as it did. -/
def rotorTurnsSpec : ChangeSpec := { name := "rotorTurns", fn := fun _ => fun
  | [d1, d2] => { results := [.lit (.bool true)], args := [d1, d2] }
  | _ => none }
def rotorTurnsRow : OpenClaim := { program := "ytjpbfmhfjlbcgaa", sum := "0da95f3b859a47e0b43c020a0fc3e58ed83688ca75213d381388e31e277e92de", func := "bellrope/bellropelaw05.RotorTurns", spec := "rotorTurns", unfollowed := true, recurses := true, apart := false }
def RotorTurnsSaid : Prop := rotorTurnsRow.holds Try.pinned (OpenSpec.ofChange rotorTurnsSpec)

/-- ITS FALSE NEIGHBOUR: 'it returns false'. Refute it at one input. -/
def rotorTurnsWrong : ChangeSpec := { name := "rotorTurns", fn := fun _ => fun
  | [d1, d2] => { results := [.lit (.bool false)], args := [d1, d2] }
  | _ => none }
def RotorTurnsWrongFalsely : Prop := rotorTurnsRow.holds Try.pinned (OpenSpec.ofChange rotorTurnsWrong)

/-- 'bellropelaw05.RotorTakes': WHATEVER THE INPUT: true; the input reads as it did. -/
def rotorTakesSpec : ChangeSpec := { name := "rotorTakes", fn := fun _ => fun
  | [d1, d2, d3, d4] => { results := [.lit (.bool true)], args := [d1, d2, d3, d4] }
  | _ => none }
def rotorTakesRow : OpenClaim := { program := "ytjpbfmhfjlbcgaa", sum := "0da95f3b859a47e0b43c020a0fc3e58ed83688ca75213d381388e31e277e92de", func := "bellrope/bellropelaw05.RotorTakes", spec := "rotorTakes", unfollowed := true, recurses := true, apart := false }
def RotorTakesSaid : Prop := rotorTakesRow.holds Try.pinned (OpenSpec.ofChange rotorTakesSpec)

/-- ITS FALSE NEIGHBOUR: 'it returns false'. Refute it at one input. -/
def rotorTakesWrong : ChangeSpec := { name := "rotorTakes", fn := fun _ => fun
  | [d1, d2, d3, d4] => { results := [.lit (.bool false)], args := [d1, d2, d3, d4] }
  | _ => none }
def RotorTakesWrongFalsely : Prop := rotorTakesRow.holds Try.pinned (OpenSpec.ofChange rotorTakesWrong)

/-- 'bellropelaw05.RotorLaws': WHATEVER THE INPUT: true; the input reads as it did. -/
def rotorLawsSpec : ChangeSpec := { name := "rotorLaws", fn := fun _ => fun
  | [d1, d2, d3] => { results := [.lit (.bool true)], args := [d1, d2, d3] }
  | _ => none }
def rotorLawsRow : OpenClaim := { program := "ytjpbfmhfjlbcgaa", sum := "0da95f3b859a47e0b43c020a0fc3e58ed83688ca75213d381388e31e277e92de", func := "bellrope/bellropelaw05.RotorLaws", spec := "rotorLaws", unfollowed := true, recurses := true, apart := false }
def RotorLawsSaid : Prop := rotorLawsRow.holds Try.pinned (OpenSpec.ofChange rotorLawsSpec)

/-- ITS FALSE NEIGHBOUR: 'it returns false'. Refute it at one input. -/
def rotorLawsWrong : ChangeSpec := { name := "rotorLaws", fn := fun _ => fun
  | [d1, d2, d3] => { results := [.lit (.bool false)], args := [d1, d2, d3] }
  | _ => none }
def RotorLawsWrongFalsely : Prop := rotorLawsRow.holds Try.pinned (OpenSpec.ofChange rotorLawsWrong)

/- THE SECOND FORM. 'bulk': how many values and letters a reading holds, each counted each time it is reached (what is shared counts as often as it is met; a slice's spare places count too). A statement '..UptoSaid' is the law's where the arguments, and the package variables that the reading takes, are together of bulk at most 1048576: NARROWER than '..Said'. Prove '..Said' where nothing that the law and all that it calls make is longer than what came in: it says more and counts as full. Else prove '..UptoSaid'. A law counts once. -/
mutual
def uptoBulk {H : Type} : DataW H → Nat
  | .lit (.string bytes) => bytes.length + 1
  | .lit _ => 1
  | .nil => 1
  | .ptr d => uptoBulk d + 1
  | .slice elems spare => uptoBulkAll elems + uptoBulkAll spare + 1
  | .agg parts => uptoBulkAll parts + 1
  | .iface _ d => uptoBulk d + 1
  | .map entries => uptoBulkEntries entries + 1
  | .held _ => 1
def uptoBulkAll {H : Type} : List (DataW H) → Nat
  | [] => 0
  | d :: r => uptoBulk d + uptoBulkAll r
def uptoBulkEntries {H : Type} : List (Lit × DataW H) → Nat
  | [] => 0
  | x :: r => uptoBulkEntry x + uptoBulkEntries r
def uptoBulkEntry {H : Type} : Lit × DataW H → Nat
  | (.string bytes, d) => bytes.length + uptoBulk d + 1
  | (_, d) => uptoBulk d + 1
 end
def uptoSmall : (H : Type) → List (DataW H) → Bool := fun _ ds => decide (uptoBulkAll ds ≤ 1048576)
def OpenSpec.upto (s : _root_.Go.ChangeSpec) : _root_.Go.OpenSpec := { _root_.Go.OpenSpec.ofChange s with cond := some uptoSmall }

/-- 'bellropelaw05.RotorTurns', WHERE WHAT IT READS IS OF BULK AT MOST 1048576: true; the input reads as it did. -/
def rotorTurnsUptoRow : OpenClaim := { program := "ytjpbfmhfjlbcgaa", sum := "0da95f3b859a47e0b43c020a0fc3e58ed83688ca75213d381388e31e277e92de", func := "bellrope/bellropelaw05.RotorTurns", spec := "rotorTurns", unfollowed := true, recurses := true, apart := false, narrowed := true }
def RotorTurnsUptoSaid : Prop := rotorTurnsUptoRow.holds Try.pinned (OpenSpec.upto rotorTurnsSpec)

/-- 'bellropelaw05.RotorTakes', WHERE WHAT IT READS IS OF BULK AT MOST 1048576: true; the input reads as it did. -/
def rotorTakesUptoRow : OpenClaim := { program := "ytjpbfmhfjlbcgaa", sum := "0da95f3b859a47e0b43c020a0fc3e58ed83688ca75213d381388e31e277e92de", func := "bellrope/bellropelaw05.RotorTakes", spec := "rotorTakes", unfollowed := true, recurses := true, apart := false, narrowed := true }
def RotorTakesUptoSaid : Prop := rotorTakesUptoRow.holds Try.pinned (OpenSpec.upto rotorTakesSpec)

/-- 'bellropelaw05.RotorLaws', WHERE WHAT IT READS IS OF BULK AT MOST 1048576: true; the input reads as it did. -/
def rotorLawsUptoRow : OpenClaim := { program := "ytjpbfmhfjlbcgaa", sum := "0da95f3b859a47e0b43c020a0fc3e58ed83688ca75213d381388e31e277e92de", func := "bellrope/bellropelaw05.RotorLaws", spec := "rotorLaws", unfollowed := true, recurses := true, apart := false, narrowed := true }
def RotorLawsUptoSaid : Prop := rotorLawsUptoRow.holds Try.pinned (OpenSpec.upto rotorLawsSpec)

end Rows
end Go.Proofs.Ytjpbfmhfjlbcgaa
