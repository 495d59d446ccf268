/-
  DERIVED. GIVEN WITH THE SEED: THE CARDS: each row of YtgockiomacchoaaGreatDoorRows.lean that lists a variable, with what it lists TIED to the program's text (the seventh form; the later family's looks); each row that meets fmt, with fmt's text TOLD by the authors' own Lean function (tested against real Go, not proved from fmt's source: count such statements apart). THE CARD IS WHAT COUNTS. Prove the row's statement (the work); the ties are given (YtgockiomacchoaaGreatDoorTie.lean); close each card by the builder's one call (the guide's Derived/Test/ToyasCard.lean, 'card_holds'). Laid BY PROGRAM, IN A SANDBOX (cutbox-door.mjs). By AI agents, Wed Nov 11 2026. No macro, syntax, notation, axiom, sorry.
-/
import Derived.Test.YtgockiomacchoaaGreatDoorRows
import GoSem.ClaimSeven
namespace Go.Proofs.YtgockiomacchoaaGreatDoor
namespace Rows

/-- THE TIED CARD OF 'carryalllaw12.ParseBeside'. -/
def parseBesideCard : Claim7 := { stood := { row := parseBesideRow, standIns := [], harness := (true, "9c03c2e242a489de15f849561c31cd51ecc001eed013796fe4c1dcda8f59c070"), looks := false }, kinds := [], alts := [], laidByText := true, laidKinds := [.data, .data, .data, .data, .pinned], laidTests := true, laidLooks := .later }
def ParseBesideCardSaid : Prop := Claim7.holds Tryz.pinned (.plain (OpenSpec.ofChange parseBesideSpec)) parseBesideCard

/-- THE SECOND FORM's CARD OF 'carryalllaw12.ParseBeside'. -/
def parseBesideUptoCard : Claim7 := { stood := { row := parseBesideUptoRow, standIns := [], harness := (true, "9c03c2e242a489de15f849561c31cd51ecc001eed013796fe4c1dcda8f59c070"), looks := false }, kinds := [], alts := [], laidByText := true, laidKinds := [.data, .data, .data, .data, .pinned], laidTests := true, laidLooks := .later }
def ParseBesideUptoCardSaid : Prop := Claim7.holds Tryz.pinned (.plain (OpenSpec.upto parseBesideSpec)) parseBesideUptoCard
end Rows
end Go.Proofs.YtgockiomacchoaaGreatDoor
