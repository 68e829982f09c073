/-
  No cell of these rows narrows 'for every input' (looked for: loops, veiled, ifaces, maps, wideKeys, modest, calm, conditions, laid).
  DERIVED. THE GIVEN ROWS OF THIS SEAT. 8 by the template 'for every input the law returns true; each argument reads behind the call as it read before'; 0 by the template 'total and deterministic' (their statements: YtdbplamhpkahaaaTotals.lean).
  GIVEN WITH THE SEED: the statements are not yours to turn. If you find one false, say at which input.
  Laid BY PROGRAM, IN A SANDBOX (cutbox-rows.mjs): the forced cells as the released guide's own fill.sh prints them over the translation c187549380a19854… (all of the seat's roots in one cut). By AI agents, Wed Nov 11 2026. No macro, syntax, notation, axiom, sorry.
-/
import Derived.Test.YtdbplamhpkahaaaChecked
import GoSem.Claim
import GoSem.ClaimJoined
import GoSem.ClaimMapViews
import Derived.JoinedTies
import Derived.KernelRfl
namespace Go.Proofs.Ytdbplamhpkahaaa
/- THE CELL 'sum', in the pinned program and in every row, IS THE sha256 OF THE DUMP (.gsa) THAT YtdbplamhpkahaaaProg.lean LOADS. Nothing in Lean hashes anything: it is a label: what it is worth is what the hold of that sum in a sandbox is worth. -/
noncomputable def Try.pinned : Pinned := { name := "ytdbplamhpkahaaa", sum := "c187549380a19854fe320991462e26ccc8c8b0a5eb5f420031f8524b24d42940", checked := Try.checked }
namespace Rows
def none {H : Type} : Left H := { results := [], args := [] }

/-- 'bellropelaw23.RankTurns': WHATEVER THE INPUT: true; the input reads as it did. -/
def rankTurnsSpec : ChangeSpec := { name := "rankTurns", fn := fun _ => fun
  | [d] => { results := [.lit (.bool true)], args := [d] }
  | _ => none }
def rankTurnsRow : OpenClaim := { program := "ytdbplamhpkahaaa", sum := "c187549380a19854fe320991462e26ccc8c8b0a5eb5f420031f8524b24d42940", func := "bellrope/bellropelaw23.RankTurns", spec := "rankTurns", apart := false }
def RankTurnsSaid : Prop := rankTurnsRow.holds Try.pinned (OpenSpec.ofChange rankTurnsSpec)

/-- ITS FALSE NEIGHBOUR: 'it returns false'. Refute it at one input. -/
def rankTurnsWrong : ChangeSpec := { name := "rankTurns", fn := fun _ => fun
  | [d] => { results := [.lit (.bool false)], args := [d] }
  | _ => none }
def RankTurnsWrongFalsely : Prop := rankTurnsRow.holds Try.pinned (OpenSpec.ofChange rankTurnsWrong)

/-- 'bellropelaw23.RankRows': WHATEVER THE INPUT: true; the input reads as it did. -/
def rankRowsSpec : ChangeSpec := { name := "rankRows", fn := fun _ => fun
  | [d] => { results := [.lit (.bool true)], args := [d] }
  | _ => none }
def rankRowsRow : OpenClaim := { program := "ytdbplamhpkahaaa", sum := "c187549380a19854fe320991462e26ccc8c8b0a5eb5f420031f8524b24d42940", func := "bellrope/bellropelaw23.RankRows", spec := "rankRows", apart := false }
def RankRowsSaid : Prop := rankRowsRow.holds Try.pinned (OpenSpec.ofChange rankRowsSpec)

/-- ITS FALSE NEIGHBOUR: 'it returns false'. Refute it at one input. -/
def rankRowsWrong : ChangeSpec := { name := "rankRows", fn := fun _ => fun
  | [d] => { results := [.lit (.bool false)], args := [d] }
  | _ => none }
def RankRowsWrongFalsely : Prop := rankRowsRow.holds Try.pinned (OpenSpec.ofChange rankRowsWrong)

/-- 'bellropelaw24.DeltaTimes': WHATEVER THE INPUT: true; the input reads as it did. -/
def deltaTimesSpec : ChangeSpec := { name := "deltaTimes", fn := fun _ => fun
  | [d1, d2] => { results := [.lit (.bool true)], args := [d1, d2] }
  | _ => none }
def deltaTimesRow : OpenClaim := { program := "ytdbplamhpkahaaa", sum := "c187549380a19854fe320991462e26ccc8c8b0a5eb5f420031f8524b24d42940", func := "bellrope/bellropelaw24.DeltaTimes", spec := "deltaTimes", unfollowed := true, recurses := true, apart := false }
def DeltaTimesSaid : Prop := deltaTimesRow.holds Try.pinned (OpenSpec.ofChange deltaTimesSpec)

/-- ITS FALSE NEIGHBOUR: 'it returns false'. Refute it at one input. -/
def deltaTimesWrong : ChangeSpec := { name := "deltaTimes", fn := fun _ => fun
  | [d1, d2] => { results := [.lit (.bool false)], args := [d1, d2] }
  | _ => none }
def DeltaTimesWrongFalsely : Prop := deltaTimesRow.holds Try.pinned (OpenSpec.ofChange deltaTimesWrong)

/-- 'bellropelaw25.QueueOrder': WHATEVER THE INPUT: true; the input reads as it did. -/
def queueOrderSpec : ChangeSpec := { name := "queueOrder", fn := fun _ => fun
  | [d1, d2] => { results := [.lit (.bool true)], args := [d1, d2] }
  | _ => none }
def queueOrderRow : OpenClaim := { program := "ytdbplamhpkahaaa", sum := "c187549380a19854fe320991462e26ccc8c8b0a5eb5f420031f8524b24d42940", func := "bellrope/bellropelaw25.QueueOrder", spec := "queueOrder", unfollowed := true, recurses := true, apart := false }
def QueueOrderSaid : Prop := queueOrderRow.holds Try.pinned (OpenSpec.ofChange queueOrderSpec)

/-- ITS FALSE NEIGHBOUR: 'it returns false'. Refute it at one input. -/
def queueOrderWrong : ChangeSpec := { name := "queueOrder", fn := fun _ => fun
  | [d1, d2] => { results := [.lit (.bool false)], args := [d1, d2] }
  | _ => none }
def QueueOrderWrongFalsely : Prop := queueOrderRow.holds Try.pinned (OpenSpec.ofChange queueOrderWrong)

/-- 'bellropelaw26.TaskEnds': WHATEVER THE INPUT: true; the input reads as it did. -/
def taskEndsSpec : ChangeSpec := { name := "taskEnds", fn := fun _ => fun
  | [d1, d2] => { results := [.lit (.bool true)], args := [d1, d2] }
  | _ => none }
def taskEndsRow : OpenClaim := { program := "ytdbplamhpkahaaa", sum := "c187549380a19854fe320991462e26ccc8c8b0a5eb5f420031f8524b24d42940", func := "bellrope/bellropelaw26.TaskEnds", spec := "taskEnds", unfollowed := true, recurses := true, apart := false }
def TaskEndsSaid : Prop := taskEndsRow.holds Try.pinned (OpenSpec.ofChange taskEndsSpec)

/-- ITS FALSE NEIGHBOUR: 'it returns false'. Refute it at one input. -/
def taskEndsWrong : ChangeSpec := { name := "taskEnds", fn := fun _ => fun
  | [d1, d2] => { results := [.lit (.bool false)], args := [d1, d2] }
  | _ => none }
def TaskEndsWrongFalsely : Prop := taskEndsRow.holds Try.pinned (OpenSpec.ofChange taskEndsWrong)

/-- 'bellropelaw26.TaskLast': WHATEVER THE INPUT: true; the input reads as it did. -/
def taskLastSpec : ChangeSpec := { name := "taskLast", fn := fun _ => fun
  | [d1, d2] => { results := [.lit (.bool true)], args := [d1, d2] }
  | _ => none }
def taskLastRow : OpenClaim := { program := "ytdbplamhpkahaaa", sum := "c187549380a19854fe320991462e26ccc8c8b0a5eb5f420031f8524b24d42940", func := "bellrope/bellropelaw26.TaskLast", spec := "taskLast", unfollowed := true, recurses := true, apart := false }
def TaskLastSaid : Prop := taskLastRow.holds Try.pinned (OpenSpec.ofChange taskLastSpec)

/-- ITS FALSE NEIGHBOUR: 'it returns false'. Refute it at one input. -/
def taskLastWrong : ChangeSpec := { name := "taskLast", fn := fun _ => fun
  | [d1, d2] => { results := [.lit (.bool false)], args := [d1, d2] }
  | _ => none }
def TaskLastWrongFalsely : Prop := taskLastRow.holds Try.pinned (OpenSpec.ofChange taskLastWrong)

/-- 'bellropelaw27.SchedWhole': WHATEVER THE INPUT: true; the input reads as it did. -/
def schedWholeSpec : ChangeSpec := { name := "schedWhole", fn := fun _ => fun
  | [d1, d2] => { results := [.lit (.bool true)], args := [d1, d2] }
  | _ => none }
def schedWholeRow : OpenClaim := { program := "ytdbplamhpkahaaa", sum := "c187549380a19854fe320991462e26ccc8c8b0a5eb5f420031f8524b24d42940", func := "bellrope/bellropelaw27.SchedWhole", spec := "schedWhole", unfollowed := true, recurses := true, apart := false }
def SchedWholeSaid : Prop := schedWholeRow.holds Try.pinned (OpenSpec.ofChange schedWholeSpec)

/-- ITS FALSE NEIGHBOUR: 'it returns false'. Refute it at one input. -/
def schedWholeWrong : ChangeSpec := { name := "schedWhole", fn := fun _ => fun
  | [d1, d2] => { results := [.lit (.bool false)], args := [d1, d2] }
  | _ => none }
def SchedWholeWrongFalsely : Prop := schedWholeRow.holds Try.pinned (OpenSpec.ofChange schedWholeWrong)

/-- 'bellropelaw27.SchedTimes': WHATEVER THE INPUT: true; the input reads as it did. -/
def schedTimesSpec : ChangeSpec := { name := "schedTimes", fn := fun _ => fun
  | [d1, d2, d3] => { results := [.lit (.bool true)], args := [d1, d2, d3] }
  | _ => none }
def schedTimesRow : OpenClaim := { program := "ytdbplamhpkahaaa", sum := "c187549380a19854fe320991462e26ccc8c8b0a5eb5f420031f8524b24d42940", func := "bellrope/bellropelaw27.SchedTimes", spec := "schedTimes", unfollowed := true, recurses := true, apart := false }
def SchedTimesSaid : Prop := schedTimesRow.holds Try.pinned (OpenSpec.ofChange schedTimesSpec)

/-- ITS FALSE NEIGHBOUR: 'it returns false'. Refute it at one input. -/
def schedTimesWrong : ChangeSpec := { name := "schedTimes", fn := fun _ => fun
  | [d1, d2, d3] => { results := [.lit (.bool false)], args := [d1, d2, d3] }
  | _ => none }
def SchedTimesWrongFalsely : Prop := schedTimesRow.holds Try.pinned (OpenSpec.ofChange schedTimesWrong)

/- THE SECOND FORM. 'bulk': how many values and letters a reading holds, each counted each time it is reached (what is shared counts as often as it is met; a slice's spare places count too). A statement '..UptoSaid' is the law's where the arguments, and the package variables that the reading takes, are together of bulk at most 1048576: NARROWER than '..Said'. Prove '..Said' where nothing that the law and all that it calls make is longer than what came in: it says more and counts as full. Else prove '..UptoSaid'. A law counts once. -/
mutual
def uptoBulk {H : Type} : DataW H → Nat
  | .lit (.string bytes) => bytes.length + 1
  | .lit _ => 1
  | .nil => 1
  | .ptr d => uptoBulk d + 1
  | .slice elems spare => uptoBulkAll elems + uptoBulkAll spare + 1
  | .agg parts => uptoBulkAll parts + 1
  | .iface _ d => uptoBulk d + 1
  | .map entries => uptoBulkEntries entries + 1
  | .held _ => 1
def uptoBulkAll {H : Type} : List (DataW H) → Nat
  | [] => 0
  | d :: r => uptoBulk d + uptoBulkAll r
def uptoBulkEntries {H : Type} : List (Lit × DataW H) → Nat
  | [] => 0
  | x :: r => uptoBulkEntry x + uptoBulkEntries r
def uptoBulkEntry {H : Type} : Lit × DataW H → Nat
  | (.string bytes, d) => bytes.length + uptoBulk d + 1
  | (_, d) => uptoBulk d + 1
 end
def uptoSmall : (H : Type) → List (DataW H) → Bool := fun _ ds => decide (uptoBulkAll ds ≤ 1048576)
def OpenSpec.upto (s : _root_.Go.ChangeSpec) : _root_.Go.OpenSpec := { _root_.Go.OpenSpec.ofChange s with cond := some uptoSmall }

/-- 'bellropelaw23.RankTurns', WHERE WHAT IT READS IS OF BULK AT MOST 1048576: true; the input reads as it did. -/
def rankTurnsUptoRow : OpenClaim := { program := "ytdbplamhpkahaaa", sum := "c187549380a19854fe320991462e26ccc8c8b0a5eb5f420031f8524b24d42940", func := "bellrope/bellropelaw23.RankTurns", spec := "rankTurns", apart := false, narrowed := true }
def RankTurnsUptoSaid : Prop := rankTurnsUptoRow.holds Try.pinned (OpenSpec.upto rankTurnsSpec)

/-- 'bellropelaw23.RankRows', WHERE WHAT IT READS IS OF BULK AT MOST 1048576: true; the input reads as it did. -/
def rankRowsUptoRow : OpenClaim := { program := "ytdbplamhpkahaaa", sum := "c187549380a19854fe320991462e26ccc8c8b0a5eb5f420031f8524b24d42940", func := "bellrope/bellropelaw23.RankRows", spec := "rankRows", apart := false, narrowed := true }
def RankRowsUptoSaid : Prop := rankRowsUptoRow.holds Try.pinned (OpenSpec.upto rankRowsSpec)

/-- 'bellropelaw24.DeltaTimes', WHERE WHAT IT READS IS OF BULK AT MOST 1048576: true; the input reads as it did. -/
def deltaTimesUptoRow : OpenClaim := { program := "ytdbplamhpkahaaa", sum := "c187549380a19854fe320991462e26ccc8c8b0a5eb5f420031f8524b24d42940", func := "bellrope/bellropelaw24.DeltaTimes", spec := "deltaTimes", unfollowed := true, recurses := true, apart := false, narrowed := true }
def DeltaTimesUptoSaid : Prop := deltaTimesUptoRow.holds Try.pinned (OpenSpec.upto deltaTimesSpec)

/-- 'bellropelaw25.QueueOrder', WHERE WHAT IT READS IS OF BULK AT MOST 1048576: true; the input reads as it did. -/
def queueOrderUptoRow : OpenClaim := { program := "ytdbplamhpkahaaa", sum := "c187549380a19854fe320991462e26ccc8c8b0a5eb5f420031f8524b24d42940", func := "bellrope/bellropelaw25.QueueOrder", spec := "queueOrder", unfollowed := true, recurses := true, apart := false, narrowed := true }
def QueueOrderUptoSaid : Prop := queueOrderUptoRow.holds Try.pinned (OpenSpec.upto queueOrderSpec)

/-- 'bellropelaw26.TaskEnds', WHERE WHAT IT READS IS OF BULK AT MOST 1048576: true; the input reads as it did. -/
def taskEndsUptoRow : OpenClaim := { program := "ytdbplamhpkahaaa", sum := "c187549380a19854fe320991462e26ccc8c8b0a5eb5f420031f8524b24d42940", func := "bellrope/bellropelaw26.TaskEnds", spec := "taskEnds", unfollowed := true, recurses := true, apart := false, narrowed := true }
def TaskEndsUptoSaid : Prop := taskEndsUptoRow.holds Try.pinned (OpenSpec.upto taskEndsSpec)

/-- 'bellropelaw26.TaskLast', WHERE WHAT IT READS IS OF BULK AT MOST 1048576: true; the input reads as it did. -/
def taskLastUptoRow : OpenClaim := { program := "ytdbplamhpkahaaa", sum := "c187549380a19854fe320991462e26ccc8c8b0a5eb5f420031f8524b24d42940", func := "bellrope/bellropelaw26.TaskLast", spec := "taskLast", unfollowed := true, recurses := true, apart := false, narrowed := true }
def TaskLastUptoSaid : Prop := taskLastUptoRow.holds Try.pinned (OpenSpec.upto taskLastSpec)

/-- 'bellropelaw27.SchedWhole', WHERE WHAT IT READS IS OF BULK AT MOST 1048576: true; the input reads as it did. -/
def schedWholeUptoRow : OpenClaim := { program := "ytdbplamhpkahaaa", sum := "c187549380a19854fe320991462e26ccc8c8b0a5eb5f420031f8524b24d42940", func := "bellrope/bellropelaw27.SchedWhole", spec := "schedWhole", unfollowed := true, recurses := true, apart := false, narrowed := true }
def SchedWholeUptoSaid : Prop := schedWholeUptoRow.holds Try.pinned (OpenSpec.upto schedWholeSpec)

/-- 'bellropelaw27.SchedTimes', WHERE WHAT IT READS IS OF BULK AT MOST 1048576: true; the input reads as it did. -/
def schedTimesUptoRow : OpenClaim := { program := "ytdbplamhpkahaaa", sum := "c187549380a19854fe320991462e26ccc8c8b0a5eb5f420031f8524b24d42940", func := "bellrope/bellropelaw27.SchedTimes", spec := "schedTimes", unfollowed := true, recurses := true, apart := false, narrowed := true }
def SchedTimesUptoSaid : Prop := schedTimesUptoRow.holds Try.pinned (OpenSpec.upto schedTimesSpec)

end Rows
end Go.Proofs.Ytdbplamhpkahaaa
