/-
  DERIVED. GIVEN WITH THE SEED: THE CARDS: each row of YtmdofbccebkbiaaGreatDoorRows.lean that lists a variable, with what it lists TIED to the program's text (the seventh form; the later family's looks); each row that meets fmt, with fmt's text TOLD by the authors' own Lean function (tested against real Go, not proved from fmt's source: count such statements apart). THE CARD IS WHAT COUNTS. Prove the row's statement (the work); the ties are given (YtmdofbccebkbiaaGreatDoorTie.lean); close each card by the builder's one call (the guide's Derived/Test/ToyasCard.lean, 'card_holds'). Laid BY PROGRAM, IN A SANDBOX (cutbox-door.mjs). By AI agents, Wed Nov 11 2026. No macro, syntax, notation, axiom, sorry.
-/
import Derived.Test.YtmdofbccebkbiaaGreatDoorRows
import GoSem.ClaimSeven
namespace Go.Proofs.YtmdofbccebkbiaaGreatDoor
namespace Rows

/-- THE TIED CARD OF 'carryalllaw12.ParseReads'. -/
def parseReadsCard : Claim7 := { stood := { row := parseReadsRow, standIns := [], harness := (true, "f321a34648144c88633fb0d6edcec4d6a30525add6b108e929f9558dded08fbc"), looks := false }, kinds := [], alts := [], laidByText := true, laidKinds := [.data, .data, .data, .data, .pinned], laidTests := true, laidLooks := .later }
def ParseReadsCardSaid : Prop := Claim7.holds Tryz.pinned (.plain (OpenSpec.ofChange parseReadsSpec)) parseReadsCard

/-- THE TIED CARD OF 'carryalllaw12.ParseBeside'. -/
def parseBesideCard : Claim7 := { stood := { row := parseBesideRow, standIns := [], harness := (true, "f321a34648144c88633fb0d6edcec4d6a30525add6b108e929f9558dded08fbc"), looks := false }, kinds := [], alts := [], laidByText := true, laidKinds := [.data, .data, .data, .data, .pinned], laidTests := true, laidLooks := .later }
def ParseBesideCardSaid : Prop := Claim7.holds Tryz.pinned (.plain (OpenSpec.ofChange parseBesideSpec)) parseBesideCard

/-- THE TIED CARD OF 'carryalllaw13.OriginTells'. -/
def originTellsCard : Claim7 := { stood := { row := originTellsRow, standIns := [], harness := (true, "f321a34648144c88633fb0d6edcec4d6a30525add6b108e929f9558dded08fbc"), looks := false }, kinds := [], alts := [], laidByText := true, laidKinds := [.data, .data, .data, .data, .pinned], laidTests := true, laidLooks := .later }
def OriginTellsCardSaid : Prop := Claim7.holds Tryz.pinned (.plain (OpenSpec.ofChange originTellsSpec)) originTellsCard

/-- THE TIED CARD OF 'carryalllaw13.OriginBlobs'. -/
def originBlobsCard : Claim7 := { stood := { row := originBlobsRow, standIns := [], harness := (true, "f321a34648144c88633fb0d6edcec4d6a30525add6b108e929f9558dded08fbc"), looks := false }, kinds := [], alts := [], laidByText := true, laidKinds := [.data, .data, .data, .data, .pinned], laidTests := true, laidLooks := .later }
def OriginBlobsCardSaid : Prop := Claim7.holds Tryz.pinned (.plain (OpenSpec.ofChange originBlobsSpec)) originBlobsCard

/-- THE TIED CARD OF 'carryalllaw15.PosixPaths'. -/
def posixPathsCard : Claim7 := { stood := { row := posixPathsRow, standIns := [], harness := (true, "f321a34648144c88633fb0d6edcec4d6a30525add6b108e929f9558dded08fbc"), looks := false }, kinds := [], alts := [], laidByText := true, laidKinds := [.data, .data, .data, .data, .pinned], laidTests := true, laidLooks := .later }
def PosixPathsCardSaid : Prop := Claim7.holds Tryz.pinned (.plain (OpenSpec.ofChange posixPathsSpec)) posixPathsCard

/-- THE TIED CARD OF 'carryalllaw15.PosixBack'. -/
def posixBackCard : Claim7 := { stood := { row := posixBackRow, standIns := [], harness := (true, "f321a34648144c88633fb0d6edcec4d6a30525add6b108e929f9558dded08fbc"), looks := false }, kinds := [], alts := [], laidByText := true, laidKinds := [.data, .data, .data, .data, .pinned], laidTests := true, laidLooks := .later }
def PosixBackCardSaid : Prop := Claim7.holds Tryz.pinned (.plain (OpenSpec.ofChange posixBackSpec)) posixBackCard

/-- THE TIED CARD OF 'carryalllaw16.WindowsPaths'. -/
def windowsPathsCard : Claim7 := { stood := { row := windowsPathsRow, standIns := [], harness := (true, "f321a34648144c88633fb0d6edcec4d6a30525add6b108e929f9558dded08fbc"), looks := false }, kinds := [], alts := [], laidByText := true, laidKinds := [.data, .data, .data, .data, .pinned], laidTests := true, laidLooks := .later }
def WindowsPathsCardSaid : Prop := Claim7.holds Tryz.pinned (.plain (OpenSpec.ofChange windowsPathsSpec)) windowsPathsCard

/-- THE TIED CARD OF 'carryalllaw16.WindowsBack'. -/
def windowsBackCard : Claim7 := { stood := { row := windowsBackRow, standIns := [], harness := (true, "f321a34648144c88633fb0d6edcec4d6a30525add6b108e929f9558dded08fbc"), looks := false }, kinds := [], alts := [], laidByText := true, laidKinds := [.data, .data, .data, .data, .pinned], laidTests := true, laidLooks := .later }
def WindowsBackCardSaid : Prop := Claim7.holds Tryz.pinned (.plain (OpenSpec.ofChange windowsBackSpec)) windowsBackCard

/-- THE SECOND FORM's CARD OF 'carryalllaw12.ParseReads'. -/
def parseReadsUptoCard : Claim7 := { stood := { row := parseReadsUptoRow, standIns := [], harness := (true, "f321a34648144c88633fb0d6edcec4d6a30525add6b108e929f9558dded08fbc"), looks := false }, kinds := [], alts := [], laidByText := true, laidKinds := [.data, .data, .data, .data, .pinned], laidTests := true, laidLooks := .later }
def ParseReadsUptoCardSaid : Prop := Claim7.holds Tryz.pinned (.plain (OpenSpec.upto parseReadsSpec)) parseReadsUptoCard

/-- THE SECOND FORM's CARD OF 'carryalllaw12.ParseBeside'. -/
def parseBesideUptoCard : Claim7 := { stood := { row := parseBesideUptoRow, standIns := [], harness := (true, "f321a34648144c88633fb0d6edcec4d6a30525add6b108e929f9558dded08fbc"), looks := false }, kinds := [], alts := [], laidByText := true, laidKinds := [.data, .data, .data, .data, .pinned], laidTests := true, laidLooks := .later }
def ParseBesideUptoCardSaid : Prop := Claim7.holds Tryz.pinned (.plain (OpenSpec.upto parseBesideSpec)) parseBesideUptoCard

/-- THE SECOND FORM's CARD OF 'carryalllaw13.OriginTells'. -/
def originTellsUptoCard : Claim7 := { stood := { row := originTellsUptoRow, standIns := [], harness := (true, "f321a34648144c88633fb0d6edcec4d6a30525add6b108e929f9558dded08fbc"), looks := false }, kinds := [], alts := [], laidByText := true, laidKinds := [.data, .data, .data, .data, .pinned], laidTests := true, laidLooks := .later }
def OriginTellsUptoCardSaid : Prop := Claim7.holds Tryz.pinned (.plain (OpenSpec.upto originTellsSpec)) originTellsUptoCard

/-- THE SECOND FORM's CARD OF 'carryalllaw13.OriginBlobs'. -/
def originBlobsUptoCard : Claim7 := { stood := { row := originBlobsUptoRow, standIns := [], harness := (true, "f321a34648144c88633fb0d6edcec4d6a30525add6b108e929f9558dded08fbc"), looks := false }, kinds := [], alts := [], laidByText := true, laidKinds := [.data, .data, .data, .data, .pinned], laidTests := true, laidLooks := .later }
def OriginBlobsUptoCardSaid : Prop := Claim7.holds Tryz.pinned (.plain (OpenSpec.upto originBlobsSpec)) originBlobsUptoCard

/-- THE SECOND FORM's CARD OF 'carryalllaw15.PosixPaths'. -/
def posixPathsUptoCard : Claim7 := { stood := { row := posixPathsUptoRow, standIns := [], harness := (true, "f321a34648144c88633fb0d6edcec4d6a30525add6b108e929f9558dded08fbc"), looks := false }, kinds := [], alts := [], laidByText := true, laidKinds := [.data, .data, .data, .data, .pinned], laidTests := true, laidLooks := .later }
def PosixPathsUptoCardSaid : Prop := Claim7.holds Tryz.pinned (.plain (OpenSpec.upto posixPathsSpec)) posixPathsUptoCard

/-- THE SECOND FORM's CARD OF 'carryalllaw15.PosixBack'. -/
def posixBackUptoCard : Claim7 := { stood := { row := posixBackUptoRow, standIns := [], harness := (true, "f321a34648144c88633fb0d6edcec4d6a30525add6b108e929f9558dded08fbc"), looks := false }, kinds := [], alts := [], laidByText := true, laidKinds := [.data, .data, .data, .data, .pinned], laidTests := true, laidLooks := .later }
def PosixBackUptoCardSaid : Prop := Claim7.holds Tryz.pinned (.plain (OpenSpec.upto posixBackSpec)) posixBackUptoCard

/-- THE SECOND FORM's CARD OF 'carryalllaw16.WindowsPaths'. -/
def windowsPathsUptoCard : Claim7 := { stood := { row := windowsPathsUptoRow, standIns := [], harness := (true, "f321a34648144c88633fb0d6edcec4d6a30525add6b108e929f9558dded08fbc"), looks := false }, kinds := [], alts := [], laidByText := true, laidKinds := [.data, .data, .data, .data, .pinned], laidTests := true, laidLooks := .later }
def WindowsPathsUptoCardSaid : Prop := Claim7.holds Tryz.pinned (.plain (OpenSpec.upto windowsPathsSpec)) windowsPathsUptoCard

/-- THE SECOND FORM's CARD OF 'carryalllaw16.WindowsBack'. -/
def windowsBackUptoCard : Claim7 := { stood := { row := windowsBackUptoRow, standIns := [], harness := (true, "f321a34648144c88633fb0d6edcec4d6a30525add6b108e929f9558dded08fbc"), looks := false }, kinds := [], alts := [], laidByText := true, laidKinds := [.data, .data, .data, .data, .pinned], laidTests := true, laidLooks := .later }
def WindowsBackUptoCardSaid : Prop := Claim7.holds Tryz.pinned (.plain (OpenSpec.upto windowsBackSpec)) windowsBackUptoCard
end Rows
end Go.Proofs.YtmdofbccebkbiaaGreatDoor
