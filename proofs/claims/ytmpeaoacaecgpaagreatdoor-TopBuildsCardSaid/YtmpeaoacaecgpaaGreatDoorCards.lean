/-
  DERIVED. GIVEN WITH THE SEED: THE CARDS: each row of YtmpeaoacaecgpaaGreatDoorRows.lean that lists a variable, with what it lists TIED to the program's text (the seventh form; the later family's looks); each row that meets fmt, with fmt's text TOLD by the authors' own Lean function (tested against real Go, not proved from fmt's source: count such statements apart). THE CARD IS WHAT COUNTS. Prove the row's statement (the work); the ties are given (YtmpeaoacaecgpaaGreatDoorTie.lean); close each card by the builder's one call (the guide's Derived/Test/ToyasCard.lean, 'card_holds'). Laid BY PROGRAM, IN A SANDBOX (cutbox-door.mjs). By AI agents, Wed Nov 11 2026. No macro, syntax, notation, axiom, sorry.
-/
import Derived.Test.YtmpeaoacaecgpaaGreatDoorRows
import GoSem.ClaimSeven
namespace Go.Proofs.YtmpeaoacaecgpaaGreatDoor
namespace Rows

/-- THE TIED CARD OF 'carryalllaw12.ParseReads'. -/
def parseReadsCard : Claim7 := { stood := { row := parseReadsRow, standIns := [], harness := (true, "aed2654326f857fb339382ba01280bb594dfbaa8f8647c5d8bdc772b487ccf30"), looks := false }, kinds := [], alts := [], laidByText := true, laidKinds := [.data, .data, .data, .data, .pinned], laidTests := true, laidLooks := .later }
def ParseReadsCardSaid : Prop := Claim7.holds Tryz.pinned (.plain (OpenSpec.ofChange parseReadsSpec)) parseReadsCard

/-- THE TIED CARD OF 'carryalllaw12.ParseBeside'. -/
def parseBesideCard : Claim7 := { stood := { row := parseBesideRow, standIns := [], harness := (true, "aed2654326f857fb339382ba01280bb594dfbaa8f8647c5d8bdc772b487ccf30"), looks := false }, kinds := [], alts := [], laidByText := true, laidKinds := [.data, .data, .data, .data, .pinned], laidTests := true, laidLooks := .later }
def ParseBesideCardSaid : Prop := Claim7.holds Tryz.pinned (.plain (OpenSpec.ofChange parseBesideSpec)) parseBesideCard

/-- THE TIED CARD OF 'carryalllaw13.OriginTells'. -/
def originTellsCard : Claim7 := { stood := { row := originTellsRow, standIns := [], harness := (true, "aed2654326f857fb339382ba01280bb594dfbaa8f8647c5d8bdc772b487ccf30"), looks := false }, kinds := [], alts := [], laidByText := true, laidKinds := [.data, .data, .data, .data, .pinned], laidTests := true, laidLooks := .later }
def OriginTellsCardSaid : Prop := Claim7.holds Tryz.pinned (.plain (OpenSpec.ofChange originTellsSpec)) originTellsCard

/-- THE TIED CARD OF 'carryalllaw17.DataSays'. -/
def dataSaysCard : Claim7 := { stood := { row := dataSaysRow, standIns := [], harness := (true, "aed2654326f857fb339382ba01280bb594dfbaa8f8647c5d8bdc772b487ccf30"), looks := false }, kinds := [], alts := [], laidByText := true, laidKinds := [.data, .data, .data, .data, .pinned], laidTests := true, laidLooks := .later }
def DataSaysCardSaid : Prop := Claim7.holds Tryz.pinned (.plain (OpenSpec.ofChange dataSaysSpec)) dataSaysCard

/-- THE TIED CARD OF 'carryalllaw18.BuildPlain'. -/
def buildPlainCard : Claim7 := { stood := { row := buildPlainRow, standIns := [], harness := (true, "aed2654326f857fb339382ba01280bb594dfbaa8f8647c5d8bdc772b487ccf30"), looks := false }, kinds := [], alts := [], laidByText := true, laidKinds := [.data, .data, .data, .data, .pinned], laidTests := true, laidLooks := .later }
def BuildPlainCardSaid : Prop := Claim7.holds Tryz.pinned (.plain (OpenSpec.ofChange buildPlainSpec)) buildPlainCard

/-- THE TIED CARD OF 'carryalllaw27.StackBack'. -/
def stackBackCard : Claim7 := { stood := { row := stackBackRow, standIns := [], harness := (true, "aed2654326f857fb339382ba01280bb594dfbaa8f8647c5d8bdc772b487ccf30"), looks := false }, kinds := [], alts := [], laidByText := true, laidKinds := [.data, .data, .data, .data, .pinned], laidTests := true, laidLooks := .later }
def StackBackCardSaid : Prop := Claim7.holds Tryz.pinned (.plain (OpenSpec.ofChange stackBackSpec)) stackBackCard

/-- THE TIED CARD OF 'carryalltop.TopBuilds'. -/
def topBuildsCard : Claim7 := { stood := { row := topBuildsRow, standIns := [], harness := (true, "aed2654326f857fb339382ba01280bb594dfbaa8f8647c5d8bdc772b487ccf30"), looks := false }, kinds := [], alts := [], laidByText := true, laidKinds := [.data, .data, .data, .data, .pinned], laidTests := true, laidLooks := .later }
def TopBuildsCardSaid : Prop := Claim7.holds Tryz.pinned (.plain (OpenSpec.ofChange topBuildsSpec)) topBuildsCard

/-- THE TIED CARD OF 'carryalltop.TopPosix'. -/
def topPosixCard : Claim7 := { stood := { row := topPosixRow, standIns := [], harness := (true, "aed2654326f857fb339382ba01280bb594dfbaa8f8647c5d8bdc772b487ccf30"), looks := false }, kinds := [], alts := [], laidByText := true, laidKinds := [.data, .data, .data, .data, .pinned], laidTests := true, laidLooks := .later }
def TopPosixCardSaid : Prop := Claim7.holds Tryz.pinned (.plain (OpenSpec.ofChange topPosixSpec)) topPosixCard

/-- THE TIED CARD OF 'carryalltop.TopWindows'. -/
def topWindowsCard : Claim7 := { stood := { row := topWindowsRow, standIns := [], harness := (true, "aed2654326f857fb339382ba01280bb594dfbaa8f8647c5d8bdc772b487ccf30"), looks := false }, kinds := [], alts := [], laidByText := true, laidKinds := [.data, .data, .data, .data, .pinned], laidTests := true, laidLooks := .later }
def TopWindowsCardSaid : Prop := Claim7.holds Tryz.pinned (.plain (OpenSpec.ofChange topWindowsSpec)) topWindowsCard

/-- THE TIED CARD OF 'carryalltop.TopUrls'. -/
def topUrlsCard : Claim7 := { stood := { row := topUrlsRow, standIns := [], harness := (true, "aed2654326f857fb339382ba01280bb594dfbaa8f8647c5d8bdc772b487ccf30"), looks := false }, kinds := [], alts := [], laidByText := true, laidKinds := [.data, .data, .data, .data, .pinned], laidTests := true, laidLooks := .later }
def TopUrlsCardSaid : Prop := Claim7.holds Tryz.pinned (.plain (OpenSpec.ofChange topUrlsSpec)) topUrlsCard

/-- THE TIED CARD OF 'carryalltop.TopMachine'. -/
def topMachineCard : Claim7 := { stood := { row := topMachineRow, standIns := [], harness := (true, "aed2654326f857fb339382ba01280bb594dfbaa8f8647c5d8bdc772b487ccf30"), looks := false }, kinds := [], alts := [], laidByText := true, laidKinds := [.data, .data, .data, .data, .pinned], laidTests := true, laidLooks := .later }
def TopMachineCardSaid : Prop := Claim7.holds Tryz.pinned (.plain (OpenSpec.ofChange topMachineSpec)) topMachineCard

/-- THE TIED CARD OF 'carryalltop.TopSorts'. -/
def topSortsCard : Claim7 := { stood := { row := topSortsRow, standIns := [], harness := (true, "aed2654326f857fb339382ba01280bb594dfbaa8f8647c5d8bdc772b487ccf30"), looks := false }, kinds := [], alts := [], laidByText := true, laidKinds := [.data, .data, .data, .data, .pinned], laidTests := true, laidLooks := .later }
def TopSortsCardSaid : Prop := Claim7.holds Tryz.pinned (.plain (OpenSpec.ofChange topSortsSpec)) topSortsCard

/-- THE SECOND FORM's CARD OF 'carryalllaw12.ParseReads'. -/
def parseReadsUptoCard : Claim7 := { stood := { row := parseReadsUptoRow, standIns := [], harness := (true, "aed2654326f857fb339382ba01280bb594dfbaa8f8647c5d8bdc772b487ccf30"), looks := false }, kinds := [], alts := [], laidByText := true, laidKinds := [.data, .data, .data, .data, .pinned], laidTests := true, laidLooks := .later }
def ParseReadsUptoCardSaid : Prop := Claim7.holds Tryz.pinned (.plain (OpenSpec.upto parseReadsSpec)) parseReadsUptoCard

/-- THE SECOND FORM's CARD OF 'carryalllaw12.ParseBeside'. -/
def parseBesideUptoCard : Claim7 := { stood := { row := parseBesideUptoRow, standIns := [], harness := (true, "aed2654326f857fb339382ba01280bb594dfbaa8f8647c5d8bdc772b487ccf30"), looks := false }, kinds := [], alts := [], laidByText := true, laidKinds := [.data, .data, .data, .data, .pinned], laidTests := true, laidLooks := .later }
def ParseBesideUptoCardSaid : Prop := Claim7.holds Tryz.pinned (.plain (OpenSpec.upto parseBesideSpec)) parseBesideUptoCard

/-- THE SECOND FORM's CARD OF 'carryalllaw13.OriginTells'. -/
def originTellsUptoCard : Claim7 := { stood := { row := originTellsUptoRow, standIns := [], harness := (true, "aed2654326f857fb339382ba01280bb594dfbaa8f8647c5d8bdc772b487ccf30"), looks := false }, kinds := [], alts := [], laidByText := true, laidKinds := [.data, .data, .data, .data, .pinned], laidTests := true, laidLooks := .later }
def OriginTellsUptoCardSaid : Prop := Claim7.holds Tryz.pinned (.plain (OpenSpec.upto originTellsSpec)) originTellsUptoCard

/-- THE SECOND FORM's CARD OF 'carryalllaw17.DataSays'. -/
def dataSaysUptoCard : Claim7 := { stood := { row := dataSaysUptoRow, standIns := [], harness := (true, "aed2654326f857fb339382ba01280bb594dfbaa8f8647c5d8bdc772b487ccf30"), looks := false }, kinds := [], alts := [], laidByText := true, laidKinds := [.data, .data, .data, .data, .pinned], laidTests := true, laidLooks := .later }
def DataSaysUptoCardSaid : Prop := Claim7.holds Tryz.pinned (.plain (OpenSpec.upto dataSaysSpec)) dataSaysUptoCard

/-- THE SECOND FORM's CARD OF 'carryalllaw18.BuildPlain'. -/
def buildPlainUptoCard : Claim7 := { stood := { row := buildPlainUptoRow, standIns := [], harness := (true, "aed2654326f857fb339382ba01280bb594dfbaa8f8647c5d8bdc772b487ccf30"), looks := false }, kinds := [], alts := [], laidByText := true, laidKinds := [.data, .data, .data, .data, .pinned], laidTests := true, laidLooks := .later }
def BuildPlainUptoCardSaid : Prop := Claim7.holds Tryz.pinned (.plain (OpenSpec.upto buildPlainSpec)) buildPlainUptoCard

/-- THE SECOND FORM's CARD OF 'carryalllaw27.StackBack'. -/
def stackBackUptoCard : Claim7 := { stood := { row := stackBackUptoRow, standIns := [], harness := (true, "aed2654326f857fb339382ba01280bb594dfbaa8f8647c5d8bdc772b487ccf30"), looks := false }, kinds := [], alts := [], laidByText := true, laidKinds := [.data, .data, .data, .data, .pinned], laidTests := true, laidLooks := .later }
def StackBackUptoCardSaid : Prop := Claim7.holds Tryz.pinned (.plain (OpenSpec.upto stackBackSpec)) stackBackUptoCard

/-- THE SECOND FORM's CARD OF 'carryalltop.TopBuilds'. -/
def topBuildsUptoCard : Claim7 := { stood := { row := topBuildsUptoRow, standIns := [], harness := (true, "aed2654326f857fb339382ba01280bb594dfbaa8f8647c5d8bdc772b487ccf30"), looks := false }, kinds := [], alts := [], laidByText := true, laidKinds := [.data, .data, .data, .data, .pinned], laidTests := true, laidLooks := .later }
def TopBuildsUptoCardSaid : Prop := Claim7.holds Tryz.pinned (.plain (OpenSpec.upto topBuildsSpec)) topBuildsUptoCard

/-- THE SECOND FORM's CARD OF 'carryalltop.TopPosix'. -/
def topPosixUptoCard : Claim7 := { stood := { row := topPosixUptoRow, standIns := [], harness := (true, "aed2654326f857fb339382ba01280bb594dfbaa8f8647c5d8bdc772b487ccf30"), looks := false }, kinds := [], alts := [], laidByText := true, laidKinds := [.data, .data, .data, .data, .pinned], laidTests := true, laidLooks := .later }
def TopPosixUptoCardSaid : Prop := Claim7.holds Tryz.pinned (.plain (OpenSpec.upto topPosixSpec)) topPosixUptoCard

/-- THE SECOND FORM's CARD OF 'carryalltop.TopWindows'. -/
def topWindowsUptoCard : Claim7 := { stood := { row := topWindowsUptoRow, standIns := [], harness := (true, "aed2654326f857fb339382ba01280bb594dfbaa8f8647c5d8bdc772b487ccf30"), looks := false }, kinds := [], alts := [], laidByText := true, laidKinds := [.data, .data, .data, .data, .pinned], laidTests := true, laidLooks := .later }
def TopWindowsUptoCardSaid : Prop := Claim7.holds Tryz.pinned (.plain (OpenSpec.upto topWindowsSpec)) topWindowsUptoCard

/-- THE SECOND FORM's CARD OF 'carryalltop.TopUrls'. -/
def topUrlsUptoCard : Claim7 := { stood := { row := topUrlsUptoRow, standIns := [], harness := (true, "aed2654326f857fb339382ba01280bb594dfbaa8f8647c5d8bdc772b487ccf30"), looks := false }, kinds := [], alts := [], laidByText := true, laidKinds := [.data, .data, .data, .data, .pinned], laidTests := true, laidLooks := .later }
def TopUrlsUptoCardSaid : Prop := Claim7.holds Tryz.pinned (.plain (OpenSpec.upto topUrlsSpec)) topUrlsUptoCard

/-- THE SECOND FORM's CARD OF 'carryalltop.TopMachine'. -/
def topMachineUptoCard : Claim7 := { stood := { row := topMachineUptoRow, standIns := [], harness := (true, "aed2654326f857fb339382ba01280bb594dfbaa8f8647c5d8bdc772b487ccf30"), looks := false }, kinds := [], alts := [], laidByText := true, laidKinds := [.data, .data, .data, .data, .pinned], laidTests := true, laidLooks := .later }
def TopMachineUptoCardSaid : Prop := Claim7.holds Tryz.pinned (.plain (OpenSpec.upto topMachineSpec)) topMachineUptoCard

/-- THE SECOND FORM's CARD OF 'carryalltop.TopSorts'. -/
def topSortsUptoCard : Claim7 := { stood := { row := topSortsUptoRow, standIns := [], harness := (true, "aed2654326f857fb339382ba01280bb594dfbaa8f8647c5d8bdc772b487ccf30"), looks := false }, kinds := [], alts := [], laidByText := true, laidKinds := [.data, .data, .data, .data, .pinned], laidTests := true, laidLooks := .later }
def TopSortsUptoCardSaid : Prop := Claim7.holds Tryz.pinned (.plain (OpenSpec.upto topSortsSpec)) topSortsUptoCard
end Rows
end Go.Proofs.YtmpeaoacaecgpaaGreatDoor
