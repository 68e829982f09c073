/-
  DERIVED. GIVEN WITH THE SEED: THE CARDS: each row of YtohajfkekkelhaaDoorRows.lean that lists a variable, with what it lists TIED to the program's text (the seventh form; the later family's looks); each row that meets fmt, with fmt's text TOLD by the authors' own Lean function (tested against real Go, not proved from fmt's source: count such statements apart). THE CARD IS WHAT COUNTS. Prove the row's statement (the work); the ties are given (YtohajfkekkelhaaDoorTie.lean); close each card by the builder's one call (the guide's Derived/Test/ToyasCard.lean, 'card_holds'). Laid BY PROGRAM, IN A SANDBOX (cutbox-door.mjs). By AI agents, Wed Nov 11 2026. No macro, syntax, notation, axiom, sorry.
-/
import Derived.Test.YtohajfkekkelhaaDoorRows
import GoSem.ClaimSeven
namespace Go.Proofs.YtohajfkekkelhaaDoor
namespace Rows

/-- THE TIED CARD OF 'bellropelaw21.LinFinds'. -/
def linFindsCard : Claim7 := { stood := { row := linFindsRow, standIns := [], harness := (true, "68064dcb241369c9f29faf6b533de39f06c24025386eb69ff025ea3274c96513"), looks := false }, kinds := [], alts := [], laidByText := true, laidKinds := [.data], laidTests := true, laidLooks := .later }
def LinFindsCardSaid : Prop := Claim7.holds Tryd.pinned (.plain (OpenSpec.ofChange linFindsSpec)) linFindsCard

/-- THE TIED CARD OF 'bellropelaw21.LinSound'. -/
def linSoundCard : Claim7 := { stood := { row := linSoundRow, standIns := [], harness := (true, "68064dcb241369c9f29faf6b533de39f06c24025386eb69ff025ea3274c96513"), looks := false }, kinds := [], alts := [], laidByText := true, laidKinds := [.data], laidTests := true, laidLooks := .later }
def LinSoundCardSaid : Prop := Claim7.holds Tryd.pinned (.plain (OpenSpec.ofChange linSoundSpec)) linSoundCard

/-- THE TIED CARD OF 'bellropelaw21.LinComplete'. -/
def linCompleteCard : Claim7 := { stood := { row := linCompleteRow, standIns := [], harness := (true, "68064dcb241369c9f29faf6b533de39f06c24025386eb69ff025ea3274c96513"), looks := false }, kinds := [], alts := [], laidByText := true, laidKinds := [.data], laidTests := true, laidLooks := .later }
def LinCompleteCardSaid : Prop := Claim7.holds Tryd.pinned (.plain (OpenSpec.ofChange linCompleteSpec)) linCompleteCard

/-- THE SECOND FORM's CARD OF 'bellropelaw21.LinFinds'. -/
def linFindsUptoCard : Claim7 := { stood := { row := linFindsUptoRow, standIns := [], harness := (true, "68064dcb241369c9f29faf6b533de39f06c24025386eb69ff025ea3274c96513"), looks := false }, kinds := [], alts := [], laidByText := true, laidKinds := [.data], laidTests := true, laidLooks := .later }
def LinFindsUptoCardSaid : Prop := Claim7.holds Tryd.pinned (.plain (OpenSpec.upto linFindsSpec)) linFindsUptoCard

/-- THE SECOND FORM's CARD OF 'bellropelaw21.LinSound'. -/
def linSoundUptoCard : Claim7 := { stood := { row := linSoundUptoRow, standIns := [], harness := (true, "68064dcb241369c9f29faf6b533de39f06c24025386eb69ff025ea3274c96513"), looks := false }, kinds := [], alts := [], laidByText := true, laidKinds := [.data], laidTests := true, laidLooks := .later }
def LinSoundUptoCardSaid : Prop := Claim7.holds Tryd.pinned (.plain (OpenSpec.upto linSoundSpec)) linSoundUptoCard

/-- THE SECOND FORM's CARD OF 'bellropelaw21.LinComplete'. -/
def linCompleteUptoCard : Claim7 := { stood := { row := linCompleteUptoRow, standIns := [], harness := (true, "68064dcb241369c9f29faf6b533de39f06c24025386eb69ff025ea3274c96513"), looks := false }, kinds := [], alts := [], laidByText := true, laidKinds := [.data], laidTests := true, laidLooks := .later }
def LinCompleteUptoCardSaid : Prop := Claim7.holds Tryd.pinned (.plain (OpenSpec.upto linCompleteSpec)) linCompleteUptoCard
end Rows
end Go.Proofs.YtohajfkekkelhaaDoor
