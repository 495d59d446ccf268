/-
  DERIVED. GIVEN WITH THE SEED: THE CARDS: each row of YtaeohdlnidnofaaGreatDoorRows.lean that lists a variable, with what it lists TIED to the program's text (the seventh form; the later family's looks); each row that meets fmt, with fmt's text TOLD by the authors' own Lean function (tested against real Go, not proved from fmt's source: count such statements apart). THE CARD IS WHAT COUNTS. Prove the row's statement (the work); the ties are given (YtaeohdlnidnofaaGreatDoorTie.lean); close each card by the builder's one call (the guide's Derived/Test/ToyasCard.lean, 'card_holds'). Laid BY PROGRAM, IN A SANDBOX (cutbox-door.mjs). By AI agents, Wed Nov 11 2026. No macro, syntax, notation, axiom, sorry.
-/
import Derived.Test.YtaeohdlnidnofaaGreatDoorRows
import GoSem.ClaimSeven
namespace Go.Proofs.YtaeohdlnidnofaaGreatDoor
namespace Rows

/-- THE TIED CARD OF 'carryalllaw12.ParseReads'. -/
def parseReadsCard : Claim7 := { stood := { row := parseReadsRow, standIns := [], harness := (true, "be9691ef60345975848fe28fbb52cc579eab42d22d92fa4f8fb9fc714646cf10"), looks := false }, kinds := [], alts := [], laidByText := true, laidKinds := [.data, .data, .data, .data, .pinned], laidTests := true, laidLooks := .later }
def ParseReadsCardSaid : Prop := Claim7.holds Tryz.pinned (.plain (OpenSpec.ofChange parseReadsSpec)) parseReadsCard

/-- THE TIED CARD OF 'carryalllaw12.ParseBeside'. -/
def parseBesideCard : Claim7 := { stood := { row := parseBesideRow, standIns := [], harness := (true, "be9691ef60345975848fe28fbb52cc579eab42d22d92fa4f8fb9fc714646cf10"), looks := false }, kinds := [], alts := [], laidByText := true, laidKinds := [.data, .data, .data, .data, .pinned], laidTests := true, laidLooks := .later }
def ParseBesideCardSaid : Prop := Claim7.holds Tryz.pinned (.plain (OpenSpec.ofChange parseBesideSpec)) parseBesideCard

/-- THE TIED CARD OF 'carryalllaw13.OriginTells'. -/
def originTellsCard : Claim7 := { stood := { row := originTellsRow, standIns := [], harness := (true, "be9691ef60345975848fe28fbb52cc579eab42d22d92fa4f8fb9fc714646cf10"), looks := false }, kinds := [], alts := [], laidByText := true, laidKinds := [.data, .data, .data, .data, .pinned], laidTests := true, laidLooks := .later }
def OriginTellsCardSaid : Prop := Claim7.holds Tryz.pinned (.plain (OpenSpec.ofChange originTellsSpec)) originTellsCard

/-- THE TIED CARD OF 'carryalllaw17.DataSays'. -/
def dataSaysCard : Claim7 := { stood := { row := dataSaysRow, standIns := [], harness := (true, "be9691ef60345975848fe28fbb52cc579eab42d22d92fa4f8fb9fc714646cf10"), looks := false }, kinds := [], alts := [], laidByText := true, laidKinds := [.data, .data, .data, .data, .pinned], laidTests := true, laidLooks := .later }
def DataSaysCardSaid : Prop := Claim7.holds Tryz.pinned (.plain (OpenSpec.ofChange dataSaysSpec)) dataSaysCard

/-- THE SECOND FORM's CARD OF 'carryalllaw12.ParseReads'. -/
def parseReadsUptoCard : Claim7 := { stood := { row := parseReadsUptoRow, standIns := [], harness := (true, "be9691ef60345975848fe28fbb52cc579eab42d22d92fa4f8fb9fc714646cf10"), looks := false }, kinds := [], alts := [], laidByText := true, laidKinds := [.data, .data, .data, .data, .pinned], laidTests := true, laidLooks := .later }
def ParseReadsUptoCardSaid : Prop := Claim7.holds Tryz.pinned (.plain (OpenSpec.upto parseReadsSpec)) parseReadsUptoCard

/-- THE SECOND FORM's CARD OF 'carryalllaw12.ParseBeside'. -/
def parseBesideUptoCard : Claim7 := { stood := { row := parseBesideUptoRow, standIns := [], harness := (true, "be9691ef60345975848fe28fbb52cc579eab42d22d92fa4f8fb9fc714646cf10"), looks := false }, kinds := [], alts := [], laidByText := true, laidKinds := [.data, .data, .data, .data, .pinned], laidTests := true, laidLooks := .later }
def ParseBesideUptoCardSaid : Prop := Claim7.holds Tryz.pinned (.plain (OpenSpec.upto parseBesideSpec)) parseBesideUptoCard

/-- THE SECOND FORM's CARD OF 'carryalllaw13.OriginTells'. -/
def originTellsUptoCard : Claim7 := { stood := { row := originTellsUptoRow, standIns := [], harness := (true, "be9691ef60345975848fe28fbb52cc579eab42d22d92fa4f8fb9fc714646cf10"), looks := false }, kinds := [], alts := [], laidByText := true, laidKinds := [.data, .data, .data, .data, .pinned], laidTests := true, laidLooks := .later }
def OriginTellsUptoCardSaid : Prop := Claim7.holds Tryz.pinned (.plain (OpenSpec.upto originTellsSpec)) originTellsUptoCard

/-- THE SECOND FORM's CARD OF 'carryalllaw17.DataSays'. -/
def dataSaysUptoCard : Claim7 := { stood := { row := dataSaysUptoRow, standIns := [], harness := (true, "be9691ef60345975848fe28fbb52cc579eab42d22d92fa4f8fb9fc714646cf10"), looks := false }, kinds := [], alts := [], laidByText := true, laidKinds := [.data, .data, .data, .data, .pinned], laidTests := true, laidLooks := .later }
def DataSaysUptoCardSaid : Prop := Claim7.holds Tryz.pinned (.plain (OpenSpec.upto dataSaysSpec)) dataSaysUptoCard
end Rows
end Go.Proofs.YtaeohdlnidnofaaGreatDoor
