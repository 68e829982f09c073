/-
  No cell of these rows narrows 'for every input' (looked for: loops, veiled, ifaces, maps, wideKeys, modest, calm, conditions, laid).
  DERIVED. THE GIVEN ROWS OF THIS SEAT. 4 by the template 'for every input the law returns true; each argument reads behind the call as it read before'; 0 by the template 'total and deterministic' (their statements: YtffhmlngnnfaeacTotals.lean).
  GIVEN WITH THE SEED: the statements are not yours to turn. If you find one false, say at which input.
  Laid BY PROGRAM, IN A SANDBOX (cutbox-rows.mjs): the forced cells as the released guide's own fill.sh prints them over the translation 45fe5582539cd93f… (all of the seat's roots in one cut). By AI agents, Wed Nov 11 2026. No macro, syntax, notation, axiom, sorry.
-/
import Derived.Test.YtffhmlngnnfaeacChecked
import GoSem.Claim
import GoSem.ClaimJoined
import GoSem.ClaimMapViews
import Derived.JoinedTies
import Derived.KernelRfl
namespace Go.Proofs.Ytffhmlngnnfaeac
/- THE CELL 'sum', in the pinned program and in every row, IS THE sha256 OF THE DUMP (.gsa) THAT YtffhmlngnnfaeacProg.lean LOADS. Nothing in Lean hashes anything: it is a label: what it is worth is what the hold of that sum in a sandbox is worth. -/
noncomputable def Try.pinned : Pinned := { name := "ytffhmlngnnfaeac", sum := "45fe5582539cd93fbc3ab630bf133a70694ec174d58a9d70c4eaba9aa0e5a637", checked := Try.checked }
namespace Rows
def none {H : Type} : Left H := { results := [], args := [] }

/-- 'bellropelaw06.CellKeeps': WHATEVER THE INPUT: true; the input reads as it did. -/
def cellKeepsSpec : ChangeSpec := { name := "cellKeeps", fn := fun _ => fun
  | [d1, d2, d3, d4] => { results := [.lit (.bool true)], args := [d1, d2, d3, d4] }
  | _ => none }
def cellKeepsRow : OpenClaim := { program := "ytffhmlngnnfaeac", sum := "45fe5582539cd93fbc3ab630bf133a70694ec174d58a9d70c4eaba9aa0e5a637", func := "bellrope/bellropelaw06.CellKeeps", spec := "cellKeeps", unfollowed := true, recurses := true, apart := false }
def CellKeepsSaid : Prop := cellKeepsRow.holds Try.pinned (OpenSpec.ofChange cellKeepsSpec)

/-- ITS FALSE NEIGHBOUR: 'it returns false'. Refute it at one input. -/
def cellKeepsWrong : ChangeSpec := { name := "cellKeeps", fn := fun _ => fun
  | [d1, d2, d3, d4] => { results := [.lit (.bool false)], args := [d1, d2, d3, d4] }
  | _ => none }
def CellKeepsWrongFalsely : Prop := cellKeepsRow.holds Try.pinned (OpenSpec.ofChange cellKeepsWrong)

/-- 'bellropelaw07.PendHighest': WHATEVER THE INPUT: true; the input reads as it did. -/
def pendHighestSpec : ChangeSpec := { name := "pendHighest", fn := fun _ => fun
  | [d] => { results := [.lit (.bool true)], args := [d] }
  | _ => none }
def pendHighestRow : OpenClaim := { program := "ytffhmlngnnfaeac", sum := "45fe5582539cd93fbc3ab630bf133a70694ec174d58a9d70c4eaba9aa0e5a637", func := "bellrope/bellropelaw07.PendHighest", spec := "pendHighest", unfollowed := true, recurses := true, apart := false }
def PendHighestSaid : Prop := pendHighestRow.holds Try.pinned (OpenSpec.ofChange pendHighestSpec)

/-- ITS FALSE NEIGHBOUR: 'it returns false'. Refute it at one input. -/
def pendHighestWrong : ChangeSpec := { name := "pendHighest", fn := fun _ => fun
  | [d] => { results := [.lit (.bool false)], args := [d] }
  | _ => none }
def PendHighestWrongFalsely : Prop := pendHighestRow.holds Try.pinned (OpenSpec.ofChange pendHighestWrong)

/-- 'bellropelaw08.NestPlays': WHATEVER THE INPUT: true; the input reads as it did. -/
def nestPlaysSpec : ChangeSpec := { name := "nestPlays", fn := fun _ => fun
  | [d] => { results := [.lit (.bool true)], args := [d] }
  | _ => none }
def nestPlaysRow : OpenClaim := { program := "ytffhmlngnnfaeac", sum := "45fe5582539cd93fbc3ab630bf133a70694ec174d58a9d70c4eaba9aa0e5a637", func := "bellrope/bellropelaw08.NestPlays", spec := "nestPlays", unfollowed := true, recurses := true, apart := false }
def NestPlaysSaid : Prop := nestPlaysRow.holds Try.pinned (OpenSpec.ofChange nestPlaysSpec)

/-- ITS FALSE NEIGHBOUR: 'it returns false'. Refute it at one input. -/
def nestPlaysWrong : ChangeSpec := { name := "nestPlays", fn := fun _ => fun
  | [d] => { results := [.lit (.bool false)], args := [d] }
  | _ => none }
def NestPlaysWrongFalsely : Prop := nestPlaysRow.holds Try.pinned (OpenSpec.ofChange nestPlaysWrong)

/-- 'bellropelaw08.NestRises': WHATEVER THE INPUT: true; the input reads as it did. -/
def nestRisesSpec : ChangeSpec := { name := "nestRises", fn := fun _ => fun
  | [d] => { results := [.lit (.bool true)], args := [d] }
  | _ => none }
def nestRisesRow : OpenClaim := { program := "ytffhmlngnnfaeac", sum := "45fe5582539cd93fbc3ab630bf133a70694ec174d58a9d70c4eaba9aa0e5a637", func := "bellrope/bellropelaw08.NestRises", spec := "nestRises", unfollowed := true, recurses := true, apart := false }
def NestRisesSaid : Prop := nestRisesRow.holds Try.pinned (OpenSpec.ofChange nestRisesSpec)

/-- ITS FALSE NEIGHBOUR: 'it returns false'. Refute it at one input. -/
def nestRisesWrong : ChangeSpec := { name := "nestRises", fn := fun _ => fun
  | [d] => { results := [.lit (.bool false)], args := [d] }
  | _ => none }
def NestRisesWrongFalsely : Prop := nestRisesRow.holds Try.pinned (OpenSpec.ofChange nestRisesWrong)

/- THE SECOND FORM. 'bulk': how many values and letters a reading holds, each counted each time it is reached (what is shared counts as often as it is met; a slice's spare places count too). A statement '..UptoSaid' is the law's where the arguments, and the package variables that the reading takes, are together of bulk at most 1048576: NARROWER than '..Said'. Prove '..Said' where nothing that the law and all that it calls make is longer than what came in: it says more and counts as full. Else prove '..UptoSaid'. A law counts once. -/
mutual
def uptoBulk {H : Type} : DataW H → Nat
  | .lit (.string bytes) => bytes.length + 1
  | .lit _ => 1
  | .nil => 1
  | .ptr d => uptoBulk d + 1
  | .slice elems spare => uptoBulkAll elems + uptoBulkAll spare + 1
  | .agg parts => uptoBulkAll parts + 1
  | .iface _ d => uptoBulk d + 1
  | .map entries => uptoBulkEntries entries + 1
  | .held _ => 1
def uptoBulkAll {H : Type} : List (DataW H) → Nat
  | [] => 0
  | d :: r => uptoBulk d + uptoBulkAll r
def uptoBulkEntries {H : Type} : List (Lit × DataW H) → Nat
  | [] => 0
  | x :: r => uptoBulkEntry x + uptoBulkEntries r
def uptoBulkEntry {H : Type} : Lit × DataW H → Nat
  | (.string bytes, d) => bytes.length + uptoBulk d + 1
  | (_, d) => uptoBulk d + 1
 end
def uptoSmall : (H : Type) → List (DataW H) → Bool := fun _ ds => decide (uptoBulkAll ds ≤ 1048576)
def OpenSpec.upto (s : _root_.Go.ChangeSpec) : _root_.Go.OpenSpec := { _root_.Go.OpenSpec.ofChange s with cond := some uptoSmall }

/-- 'bellropelaw06.CellKeeps', WHERE WHAT IT READS IS OF BULK AT MOST 1048576: true; the input reads as it did. -/
def cellKeepsUptoRow : OpenClaim := { program := "ytffhmlngnnfaeac", sum := "45fe5582539cd93fbc3ab630bf133a70694ec174d58a9d70c4eaba9aa0e5a637", func := "bellrope/bellropelaw06.CellKeeps", spec := "cellKeeps", unfollowed := true, recurses := true, apart := false, narrowed := true }
def CellKeepsUptoSaid : Prop := cellKeepsUptoRow.holds Try.pinned (OpenSpec.upto cellKeepsSpec)

/-- 'bellropelaw07.PendHighest', WHERE WHAT IT READS IS OF BULK AT MOST 1048576: true; the input reads as it did. -/
def pendHighestUptoRow : OpenClaim := { program := "ytffhmlngnnfaeac", sum := "45fe5582539cd93fbc3ab630bf133a70694ec174d58a9d70c4eaba9aa0e5a637", func := "bellrope/bellropelaw07.PendHighest", spec := "pendHighest", unfollowed := true, recurses := true, apart := false, narrowed := true }
def PendHighestUptoSaid : Prop := pendHighestUptoRow.holds Try.pinned (OpenSpec.upto pendHighestSpec)

/-- 'bellropelaw08.NestPlays', WHERE WHAT IT READS IS OF BULK AT MOST 1048576: true; the input reads as it did. -/
def nestPlaysUptoRow : OpenClaim := { program := "ytffhmlngnnfaeac", sum := "45fe5582539cd93fbc3ab630bf133a70694ec174d58a9d70c4eaba9aa0e5a637", func := "bellrope/bellropelaw08.NestPlays", spec := "nestPlays", unfollowed := true, recurses := true, apart := false, narrowed := true }
def NestPlaysUptoSaid : Prop := nestPlaysUptoRow.holds Try.pinned (OpenSpec.upto nestPlaysSpec)

/-- 'bellropelaw08.NestRises', WHERE WHAT IT READS IS OF BULK AT MOST 1048576: true; the input reads as it did. -/
def nestRisesUptoRow : OpenClaim := { program := "ytffhmlngnnfaeac", sum := "45fe5582539cd93fbc3ab630bf133a70694ec174d58a9d70c4eaba9aa0e5a637", func := "bellrope/bellropelaw08.NestRises", spec := "nestRises", unfollowed := true, recurses := true, apart := false, narrowed := true }
def NestRisesUptoSaid : Prop := nestRisesUptoRow.holds Try.pinned (OpenSpec.upto nestRisesSpec)

end Rows
end Go.Proofs.Ytffhmlngnnfaeac
