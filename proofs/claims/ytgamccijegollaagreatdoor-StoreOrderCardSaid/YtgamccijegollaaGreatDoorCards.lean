/-
  DERIVED. GIVEN WITH THE SEED: THE CARDS: each row of YtgamccijegollaaGreatDoorRows.lean that lists a variable, with what it lists TIED to the program's text (the seventh form; the later family's looks); each row that meets fmt, with fmt's text TOLD by the authors' own Lean function (tested against real Go, not proved from fmt's source: count such statements apart). THE CARD IS WHAT COUNTS. Prove the row's statement (the work); the ties are given (YtgamccijegollaaGreatDoorTie.lean); close each card by the builder's one call (the guide's Derived/Test/ToyasCard.lean, 'card_holds'). Laid BY PROGRAM, IN A SANDBOX (cutbox-door.mjs). By AI agents, Wed Nov 11 2026. No macro, syntax, notation, axiom, sorry.
-/
import Derived.Test.YtgamccijegollaaGreatDoorRows
import GoSem.ClaimSeven
namespace Go.Proofs.YtgamccijegollaaGreatDoor
namespace Rows

/-- THE TIED CARD OF 'carryalllaw12.ParseReads'. -/
def parseReadsCard : Claim7 := { stood := { row := parseReadsRow, standIns := [], harness := (true, "4729eb681d6e033789bf38dfcd2d340e86865f8974a48d2fce7ced59fa130860"), looks := false }, kinds := [], alts := [], laidByText := true, laidKinds := [.data, .data, .data, .data, .pinned], laidTests := true, laidLooks := .later }
def ParseReadsCardSaid : Prop := Claim7.holds Tryz.pinned (.plain (OpenSpec.ofChange parseReadsSpec)) parseReadsCard

/-- THE TIED CARD OF 'carryalllaw12.ParseBeside'. -/
def parseBesideCard : Claim7 := { stood := { row := parseBesideRow, standIns := [], harness := (true, "4729eb681d6e033789bf38dfcd2d340e86865f8974a48d2fce7ced59fa130860"), looks := false }, kinds := [], alts := [], laidByText := true, laidKinds := [.data, .data, .data, .data, .pinned], laidTests := true, laidLooks := .later }
def ParseBesideCardSaid : Prop := Claim7.holds Tryz.pinned (.plain (OpenSpec.ofChange parseBesideSpec)) parseBesideCard

/-- THE TIED CARD OF 'carryalllaw13.OriginTells'. -/
def originTellsCard : Claim7 := { stood := { row := originTellsRow, standIns := [], harness := (true, "4729eb681d6e033789bf38dfcd2d340e86865f8974a48d2fce7ced59fa130860"), looks := false }, kinds := [], alts := [], laidByText := true, laidKinds := [.data, .data, .data, .data, .pinned], laidTests := true, laidLooks := .later }
def OriginTellsCardSaid : Prop := Claim7.holds Tryz.pinned (.plain (OpenSpec.ofChange originTellsSpec)) originTellsCard

/-- THE TIED CARD OF 'carryalllaw17.DataSays'. -/
def dataSaysCard : Claim7 := { stood := { row := dataSaysRow, standIns := [], harness := (true, "4729eb681d6e033789bf38dfcd2d340e86865f8974a48d2fce7ced59fa130860"), looks := false }, kinds := [], alts := [], laidByText := true, laidKinds := [.data, .data, .data, .data, .pinned], laidTests := true, laidLooks := .later }
def DataSaysCardSaid : Prop := Claim7.holds Tryz.pinned (.plain (OpenSpec.ofChange dataSaysSpec)) dataSaysCard

/-- THE TIED CARD OF 'carryalllaw18.BuildAgain'. -/
def buildAgainCard : Claim7 := { stood := { row := buildAgainRow, standIns := [], harness := (true, "4729eb681d6e033789bf38dfcd2d340e86865f8974a48d2fce7ced59fa130860"), looks := false }, kinds := [], alts := [], laidByText := true, laidKinds := [.data, .data, .data, .data, .pinned], laidTests := true, laidLooks := .later }
def BuildAgainCardSaid : Prop := Claim7.holds Tryz.pinned (.plain (OpenSpec.ofChange buildAgainSpec)) buildAgainCard

/-- THE TIED CARD OF 'carryalllaw24.StoreOrder'. -/
def storeOrderCard : Claim7 := { stood := { row := storeOrderRow, standIns := [], harness := (true, "4729eb681d6e033789bf38dfcd2d340e86865f8974a48d2fce7ced59fa130860"), looks := false }, kinds := [], alts := [], laidByText := true, laidKinds := [.data, .data, .data, .data, .pinned], laidTests := true, laidLooks := .later }
def StoreOrderCardSaid : Prop := Claim7.holds Tryz.pinned (.plain (OpenSpec.ofChange storeOrderSpec)) storeOrderCard

/-- THE TIED CARD OF 'carryalllaw26.FetchParts'. -/
def fetchPartsCard : Claim7 := { stood := { row := fetchPartsRow, standIns := [], harness := (true, "4729eb681d6e033789bf38dfcd2d340e86865f8974a48d2fce7ced59fa130860"), looks := false }, kinds := [], alts := [], laidByText := true, laidKinds := [.data, .data, .data, .data, .pinned], laidTests := true, laidLooks := .later }
def FetchPartsCardSaid : Prop := Claim7.holds Tryz.pinned (.plain (OpenSpec.ofChange fetchPartsSpec)) fetchPartsCard

/-- THE TIED CARD OF 'carryalllaw26.FetchNothing'. -/
def fetchNothingCard : Claim7 := { stood := { row := fetchNothingRow, standIns := [], harness := (true, "4729eb681d6e033789bf38dfcd2d340e86865f8974a48d2fce7ced59fa130860"), looks := false }, kinds := [], alts := [], laidByText := true, laidKinds := [.data, .data, .data, .data, .pinned], laidTests := true, laidLooks := .later }
def FetchNothingCardSaid : Prop := Claim7.holds Tryz.pinned (.plain (OpenSpec.ofChange fetchNothingSpec)) fetchNothingCard

/-- THE TIED CARD OF 'carryalltop.TopRebuilds'. -/
def topRebuildsCard : Claim7 := { stood := { row := topRebuildsRow, standIns := [], harness := (true, "4729eb681d6e033789bf38dfcd2d340e86865f8974a48d2fce7ced59fa130860"), looks := false }, kinds := [], alts := [], laidByText := true, laidKinds := [.data, .data, .data, .data, .pinned], laidTests := true, laidLooks := .later }
def TopRebuildsCardSaid : Prop := Claim7.holds Tryz.pinned (.plain (OpenSpec.ofChange topRebuildsSpec)) topRebuildsCard

/-- THE TIED CARD OF 'carryalltop.TopInline'. -/
def topInlineCard : Claim7 := { stood := { row := topInlineRow, standIns := [], harness := (true, "4729eb681d6e033789bf38dfcd2d340e86865f8974a48d2fce7ced59fa130860"), looks := false }, kinds := [], alts := [], laidByText := true, laidKinds := [.data, .data, .data, .data, .pinned], laidTests := true, laidLooks := .later }
def TopInlineCardSaid : Prop := Claim7.holds Tryz.pinned (.plain (OpenSpec.ofChange topInlineSpec)) topInlineCard

/-- THE TIED CARD OF 'carryalltop.TopMachine'. -/
def topMachineCard : Claim7 := { stood := { row := topMachineRow, standIns := [], harness := (true, "4729eb681d6e033789bf38dfcd2d340e86865f8974a48d2fce7ced59fa130860"), looks := false }, kinds := [], alts := [], laidByText := true, laidKinds := [.data, .data, .data, .data, .pinned], laidTests := true, laidLooks := .later }
def TopMachineCardSaid : Prop := Claim7.holds Tryz.pinned (.plain (OpenSpec.ofChange topMachineSpec)) topMachineCard

/-- THE TIED CARD OF 'carryalltop.TopSorts'. -/
def topSortsCard : Claim7 := { stood := { row := topSortsRow, standIns := [], harness := (true, "4729eb681d6e033789bf38dfcd2d340e86865f8974a48d2fce7ced59fa130860"), looks := false }, kinds := [], alts := [], laidByText := true, laidKinds := [.data, .data, .data, .data, .pinned], laidTests := true, laidLooks := .later }
def TopSortsCardSaid : Prop := Claim7.holds Tryz.pinned (.plain (OpenSpec.ofChange topSortsSpec)) topSortsCard

/-- THE SECOND FORM's CARD OF 'carryalllaw12.ParseReads'. -/
def parseReadsUptoCard : Claim7 := { stood := { row := parseReadsUptoRow, standIns := [], harness := (true, "4729eb681d6e033789bf38dfcd2d340e86865f8974a48d2fce7ced59fa130860"), looks := false }, kinds := [], alts := [], laidByText := true, laidKinds := [.data, .data, .data, .data, .pinned], laidTests := true, laidLooks := .later }
def ParseReadsUptoCardSaid : Prop := Claim7.holds Tryz.pinned (.plain (OpenSpec.upto parseReadsSpec)) parseReadsUptoCard

/-- THE SECOND FORM's CARD OF 'carryalllaw12.ParseBeside'. -/
def parseBesideUptoCard : Claim7 := { stood := { row := parseBesideUptoRow, standIns := [], harness := (true, "4729eb681d6e033789bf38dfcd2d340e86865f8974a48d2fce7ced59fa130860"), looks := false }, kinds := [], alts := [], laidByText := true, laidKinds := [.data, .data, .data, .data, .pinned], laidTests := true, laidLooks := .later }
def ParseBesideUptoCardSaid : Prop := Claim7.holds Tryz.pinned (.plain (OpenSpec.upto parseBesideSpec)) parseBesideUptoCard

/-- THE SECOND FORM's CARD OF 'carryalllaw13.OriginTells'. -/
def originTellsUptoCard : Claim7 := { stood := { row := originTellsUptoRow, standIns := [], harness := (true, "4729eb681d6e033789bf38dfcd2d340e86865f8974a48d2fce7ced59fa130860"), looks := false }, kinds := [], alts := [], laidByText := true, laidKinds := [.data, .data, .data, .data, .pinned], laidTests := true, laidLooks := .later }
def OriginTellsUptoCardSaid : Prop := Claim7.holds Tryz.pinned (.plain (OpenSpec.upto originTellsSpec)) originTellsUptoCard

/-- THE SECOND FORM's CARD OF 'carryalllaw17.DataSays'. -/
def dataSaysUptoCard : Claim7 := { stood := { row := dataSaysUptoRow, standIns := [], harness := (true, "4729eb681d6e033789bf38dfcd2d340e86865f8974a48d2fce7ced59fa130860"), looks := false }, kinds := [], alts := [], laidByText := true, laidKinds := [.data, .data, .data, .data, .pinned], laidTests := true, laidLooks := .later }
def DataSaysUptoCardSaid : Prop := Claim7.holds Tryz.pinned (.plain (OpenSpec.upto dataSaysSpec)) dataSaysUptoCard

/-- THE SECOND FORM's CARD OF 'carryalllaw18.BuildAgain'. -/
def buildAgainUptoCard : Claim7 := { stood := { row := buildAgainUptoRow, standIns := [], harness := (true, "4729eb681d6e033789bf38dfcd2d340e86865f8974a48d2fce7ced59fa130860"), looks := false }, kinds := [], alts := [], laidByText := true, laidKinds := [.data, .data, .data, .data, .pinned], laidTests := true, laidLooks := .later }
def BuildAgainUptoCardSaid : Prop := Claim7.holds Tryz.pinned (.plain (OpenSpec.upto buildAgainSpec)) buildAgainUptoCard

/-- THE SECOND FORM's CARD OF 'carryalllaw24.StoreOrder'. -/
def storeOrderUptoCard : Claim7 := { stood := { row := storeOrderUptoRow, standIns := [], harness := (true, "4729eb681d6e033789bf38dfcd2d340e86865f8974a48d2fce7ced59fa130860"), looks := false }, kinds := [], alts := [], laidByText := true, laidKinds := [.data, .data, .data, .data, .pinned], laidTests := true, laidLooks := .later }
def StoreOrderUptoCardSaid : Prop := Claim7.holds Tryz.pinned (.plain (OpenSpec.upto storeOrderSpec)) storeOrderUptoCard

/-- THE SECOND FORM's CARD OF 'carryalllaw26.FetchParts'. -/
def fetchPartsUptoCard : Claim7 := { stood := { row := fetchPartsUptoRow, standIns := [], harness := (true, "4729eb681d6e033789bf38dfcd2d340e86865f8974a48d2fce7ced59fa130860"), looks := false }, kinds := [], alts := [], laidByText := true, laidKinds := [.data, .data, .data, .data, .pinned], laidTests := true, laidLooks := .later }
def FetchPartsUptoCardSaid : Prop := Claim7.holds Tryz.pinned (.plain (OpenSpec.upto fetchPartsSpec)) fetchPartsUptoCard

/-- THE SECOND FORM's CARD OF 'carryalllaw26.FetchNothing'. -/
def fetchNothingUptoCard : Claim7 := { stood := { row := fetchNothingUptoRow, standIns := [], harness := (true, "4729eb681d6e033789bf38dfcd2d340e86865f8974a48d2fce7ced59fa130860"), looks := false }, kinds := [], alts := [], laidByText := true, laidKinds := [.data, .data, .data, .data, .pinned], laidTests := true, laidLooks := .later }
def FetchNothingUptoCardSaid : Prop := Claim7.holds Tryz.pinned (.plain (OpenSpec.upto fetchNothingSpec)) fetchNothingUptoCard

/-- THE SECOND FORM's CARD OF 'carryalltop.TopRebuilds'. -/
def topRebuildsUptoCard : Claim7 := { stood := { row := topRebuildsUptoRow, standIns := [], harness := (true, "4729eb681d6e033789bf38dfcd2d340e86865f8974a48d2fce7ced59fa130860"), looks := false }, kinds := [], alts := [], laidByText := true, laidKinds := [.data, .data, .data, .data, .pinned], laidTests := true, laidLooks := .later }
def TopRebuildsUptoCardSaid : Prop := Claim7.holds Tryz.pinned (.plain (OpenSpec.upto topRebuildsSpec)) topRebuildsUptoCard

/-- THE SECOND FORM's CARD OF 'carryalltop.TopInline'. -/
def topInlineUptoCard : Claim7 := { stood := { row := topInlineUptoRow, standIns := [], harness := (true, "4729eb681d6e033789bf38dfcd2d340e86865f8974a48d2fce7ced59fa130860"), looks := false }, kinds := [], alts := [], laidByText := true, laidKinds := [.data, .data, .data, .data, .pinned], laidTests := true, laidLooks := .later }
def TopInlineUptoCardSaid : Prop := Claim7.holds Tryz.pinned (.plain (OpenSpec.upto topInlineSpec)) topInlineUptoCard

/-- THE SECOND FORM's CARD OF 'carryalltop.TopMachine'. -/
def topMachineUptoCard : Claim7 := { stood := { row := topMachineUptoRow, standIns := [], harness := (true, "4729eb681d6e033789bf38dfcd2d340e86865f8974a48d2fce7ced59fa130860"), looks := false }, kinds := [], alts := [], laidByText := true, laidKinds := [.data, .data, .data, .data, .pinned], laidTests := true, laidLooks := .later }
def TopMachineUptoCardSaid : Prop := Claim7.holds Tryz.pinned (.plain (OpenSpec.upto topMachineSpec)) topMachineUptoCard

/-- THE SECOND FORM's CARD OF 'carryalltop.TopSorts'. -/
def topSortsUptoCard : Claim7 := { stood := { row := topSortsUptoRow, standIns := [], harness := (true, "4729eb681d6e033789bf38dfcd2d340e86865f8974a48d2fce7ced59fa130860"), looks := false }, kinds := [], alts := [], laidByText := true, laidKinds := [.data, .data, .data, .data, .pinned], laidTests := true, laidLooks := .later }
def TopSortsUptoCardSaid : Prop := Claim7.holds Tryz.pinned (.plain (OpenSpec.upto topSortsSpec)) topSortsUptoCard
end Rows
end Go.Proofs.YtgamccijegollaaGreatDoor
