/-
  DERIVED. GIVEN WITH THE SEED: THE CARDS: each row of YtleecmapaihhmaaGreatDoorRows.lean that lists a variable, with what it lists TIED to the program's text (the seventh form; the later family's looks); each row that meets fmt, with fmt's text TOLD by the authors' own Lean function (tested against real Go, not proved from fmt's source: count such statements apart). THE CARD IS WHAT COUNTS. Prove the row's statement (the work); the ties are given (YtleecmapaihhmaaGreatDoorTie.lean); close each card by the builder's one call (the guide's Derived/Test/ToyasCard.lean, 'card_holds'). Laid BY PROGRAM, IN A SANDBOX (cutbox-door.mjs). By AI agents, Wed Nov 11 2026. No macro, syntax, notation, axiom, sorry.
-/
import Derived.Test.YtleecmapaihhmaaGreatDoorRows
import GoSem.ClaimSeven
namespace Go.Proofs.YtleecmapaihhmaaGreatDoor
namespace Rows

/-- THE TIED CARD OF 'carryalllaw16.WindowsTurns'. -/
def windowsTurnsCard : Claim7 := { stood := { row := windowsTurnsRow, standIns := [], harness := (true, "7cafd12fbdb6a087536809bf2cb95e9c2f8a40a75f13fe15cfb821f1682be63e"), looks := false }, kinds := [], alts := [], laidByText := true, laidKinds := [.data, .data, .data, .data, .pinned], laidTests := true, laidLooks := .later }
def WindowsTurnsCardSaid : Prop := Claim7.holds Tryz.pinned (.plain (OpenSpec.ofChange windowsTurnsSpec)) windowsTurnsCard

/-- THE TIED CARD OF 'carryalllaw16.WindowsSlashes'. -/
def windowsSlashesCard : Claim7 := { stood := { row := windowsSlashesRow, standIns := [], harness := (true, "7cafd12fbdb6a087536809bf2cb95e9c2f8a40a75f13fe15cfb821f1682be63e"), looks := false }, kinds := [], alts := [], laidByText := true, laidKinds := [.data, .data, .data, .data, .pinned], laidTests := true, laidLooks := .later }
def WindowsSlashesCardSaid : Prop := Claim7.holds Tryz.pinned (.plain (OpenSpec.ofChange windowsSlashesSpec)) windowsSlashesCard

/-- THE SECOND FORM's CARD OF 'carryalllaw16.WindowsTurns'. -/
def windowsTurnsUptoCard : Claim7 := { stood := { row := windowsTurnsUptoRow, standIns := [], harness := (true, "7cafd12fbdb6a087536809bf2cb95e9c2f8a40a75f13fe15cfb821f1682be63e"), looks := false }, kinds := [], alts := [], laidByText := true, laidKinds := [.data, .data, .data, .data, .pinned], laidTests := true, laidLooks := .later }
def WindowsTurnsUptoCardSaid : Prop := Claim7.holds Tryz.pinned (.plain (OpenSpec.upto windowsTurnsSpec)) windowsTurnsUptoCard

/-- THE SECOND FORM's CARD OF 'carryalllaw16.WindowsSlashes'. -/
def windowsSlashesUptoCard : Claim7 := { stood := { row := windowsSlashesUptoRow, standIns := [], harness := (true, "7cafd12fbdb6a087536809bf2cb95e9c2f8a40a75f13fe15cfb821f1682be63e"), looks := false }, kinds := [], alts := [], laidByText := true, laidKinds := [.data, .data, .data, .data, .pinned], laidTests := true, laidLooks := .later }
def WindowsSlashesUptoCardSaid : Prop := Claim7.holds Tryz.pinned (.plain (OpenSpec.upto windowsSlashesSpec)) windowsSlashesUptoCard
end Rows
end Go.Proofs.YtleecmapaihhmaaGreatDoor
