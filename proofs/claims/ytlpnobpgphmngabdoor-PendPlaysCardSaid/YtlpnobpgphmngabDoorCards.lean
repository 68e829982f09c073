/-
  DERIVED. GIVEN WITH THE SEED: THE CARDS: each row of YtlpnobpgphmngabDoorRows.lean that lists a variable, with what it lists TIED to the program's text (the seventh form; the later family's looks); each row that meets fmt, with fmt's text TOLD by the authors' own Lean function (tested against real Go, not proved from fmt's source: count such statements apart). THE CARD IS WHAT COUNTS. Prove the row's statement (the work); the ties are given (YtlpnobpgphmngabDoorTie.lean); close each card by the builder's one call (the guide's Derived/Test/ToyasCard.lean, 'card_holds'). Laid BY PROGRAM, IN A SANDBOX (cutbox-door.mjs). By AI agents, Wed Nov 11 2026. No macro, syntax, notation, axiom, sorry.
-/
import Derived.Test.YtlpnobpgphmngabDoorRows
import GoSem.ClaimSeven
namespace Go.Proofs.YtlpnobpgphmngabDoor
namespace Rows

/-- THE TIED CARD OF 'bellropelaw07.PendPlays'. -/
def pendPlaysCard : Claim7 := { stood := { row := pendPlaysRow, standIns := [], harness := (true, "b1ea733c09e15ab5b33e9dbdc628a69e3a1d7b9e6003543a1b51cf155ab48118"), looks := false }, kinds := [], alts := [], laidByText := true, laidKinds := [.data], laidTests := true, laidLooks := .later }
def PendPlaysCardSaid : Prop := Claim7.holds Tryd.pinned (.plain (OpenSpec.ofChange pendPlaysSpec)) pendPlaysCard

/-- THE TIED CARD OF 'bellropelaw09.GateHighest'. -/
def gateHighestCard : Claim7 := { stood := { row := gateHighestRow, standIns := [], harness := (true, "b1ea733c09e15ab5b33e9dbdc628a69e3a1d7b9e6003543a1b51cf155ab48118"), looks := false }, kinds := [], alts := [], laidByText := true, laidKinds := [.data], laidTests := true, laidLooks := .later }
def GateHighestCardSaid : Prop := Claim7.holds Tryd.pinned (.plain (OpenSpec.ofChange gateHighestSpec)) gateHighestCard

/-- THE TIED CARD OF 'bellropelaw09.GateNil'. -/
def gateNilCard : Claim7 := { stood := { row := gateNilRow, standIns := [], harness := (true, "b1ea733c09e15ab5b33e9dbdc628a69e3a1d7b9e6003543a1b51cf155ab48118"), looks := false }, kinds := [], alts := [], laidByText := true, laidKinds := [.data], laidTests := true, laidLooks := .later }
def GateNilCardSaid : Prop := Claim7.holds Tryd.pinned (.plain (OpenSpec.ofChange gateNilSpec)) gateNilCard

/-- THE SECOND FORM's CARD OF 'bellropelaw07.PendPlays'. -/
def pendPlaysUptoCard : Claim7 := { stood := { row := pendPlaysUptoRow, standIns := [], harness := (true, "b1ea733c09e15ab5b33e9dbdc628a69e3a1d7b9e6003543a1b51cf155ab48118"), looks := false }, kinds := [], alts := [], laidByText := true, laidKinds := [.data], laidTests := true, laidLooks := .later }
def PendPlaysUptoCardSaid : Prop := Claim7.holds Tryd.pinned (.plain (OpenSpec.upto pendPlaysSpec)) pendPlaysUptoCard

/-- THE SECOND FORM's CARD OF 'bellropelaw09.GateHighest'. -/
def gateHighestUptoCard : Claim7 := { stood := { row := gateHighestUptoRow, standIns := [], harness := (true, "b1ea733c09e15ab5b33e9dbdc628a69e3a1d7b9e6003543a1b51cf155ab48118"), looks := false }, kinds := [], alts := [], laidByText := true, laidKinds := [.data], laidTests := true, laidLooks := .later }
def GateHighestUptoCardSaid : Prop := Claim7.holds Tryd.pinned (.plain (OpenSpec.upto gateHighestSpec)) gateHighestUptoCard

/-- THE SECOND FORM's CARD OF 'bellropelaw09.GateNil'. -/
def gateNilUptoCard : Claim7 := { stood := { row := gateNilUptoRow, standIns := [], harness := (true, "b1ea733c09e15ab5b33e9dbdc628a69e3a1d7b9e6003543a1b51cf155ab48118"), looks := false }, kinds := [], alts := [], laidByText := true, laidKinds := [.data], laidTests := true, laidLooks := .later }
def GateNilUptoCardSaid : Prop := Claim7.holds Tryd.pinned (.plain (OpenSpec.upto gateNilSpec)) gateNilUptoCard
end Rows
end Go.Proofs.YtlpnobpgphmngabDoor
