/-
  DERIVED. GIVEN WITH THE SEED: THE CARDS: each row of YthajldjmplfnaaaGreatDoorRows.lean that lists a variable, with what it lists TIED to the program's text (the seventh form; the later family's looks); each row that meets fmt, with fmt's text TOLD by the authors' own Lean function (tested against real Go, not proved from fmt's source: count such statements apart). THE CARD IS WHAT COUNTS. Prove the row's statement (the work); the ties are given (YthajldjmplfnaaaGreatDoorTie.lean); close each card by the builder's one call (the guide's Derived/Test/ToyasCard.lean, 'card_holds'). Laid BY PROGRAM, IN A SANDBOX (cutbox-door.mjs). By AI agents, Wed Nov 11 2026. No macro, syntax, notation, axiom, sorry.
-/
import Derived.Test.YthajldjmplfnaaaGreatDoorRows
import GoSem.ClaimSeven
namespace Go.Proofs.YthajldjmplfnaaaGreatDoor
namespace Rows

/-- THE TIED CARD OF 'carryalllaw24.StoreRoom'. -/
def storeRoomCard : Claim7 := { stood := { row := storeRoomRow, standIns := [], harness := (true, "10fa88a263dc2cc3afad74d24e2643d42b2675d8083366c8c87cdd2804f18058"), looks := false }, kinds := [], alts := [], laidByText := true, laidKinds := [.data, .data, .data, .data, .pinned], laidTests := true, laidLooks := .later }
def StoreRoomCardSaid : Prop := Claim7.holds Tryz.pinned (.plain (OpenSpec.ofChange storeRoomSpec)) storeRoomCard

/-- THE TIED CARD OF 'carryalllaw24.StoreOrder'. -/
def storeOrderCard : Claim7 := { stood := { row := storeOrderRow, standIns := [], harness := (true, "10fa88a263dc2cc3afad74d24e2643d42b2675d8083366c8c87cdd2804f18058"), looks := false }, kinds := [], alts := [], laidByText := true, laidKinds := [.data, .data, .data, .data, .pinned], laidTests := true, laidLooks := .later }
def StoreOrderCardSaid : Prop := Claim7.holds Tryz.pinned (.plain (OpenSpec.ofChange storeOrderSpec)) storeOrderCard

/-- THE TIED CARD OF 'carryalllaw26.FetchParts'. -/
def fetchPartsCard : Claim7 := { stood := { row := fetchPartsRow, standIns := [], harness := (true, "10fa88a263dc2cc3afad74d24e2643d42b2675d8083366c8c87cdd2804f18058"), looks := false }, kinds := [], alts := [], laidByText := true, laidKinds := [.data, .data, .data, .data, .pinned], laidTests := true, laidLooks := .later }
def FetchPartsCardSaid : Prop := Claim7.holds Tryz.pinned (.plain (OpenSpec.ofChange fetchPartsSpec)) fetchPartsCard

/-- THE TIED CARD OF 'carryalllaw26.FetchNothing'. -/
def fetchNothingCard : Claim7 := { stood := { row := fetchNothingRow, standIns := [], harness := (true, "10fa88a263dc2cc3afad74d24e2643d42b2675d8083366c8c87cdd2804f18058"), looks := false }, kinds := [], alts := [], laidByText := true, laidKinds := [.data, .data, .data, .data, .pinned], laidTests := true, laidLooks := .later }
def FetchNothingCardSaid : Prop := Claim7.holds Tryz.pinned (.plain (OpenSpec.ofChange fetchNothingSpec)) fetchNothingCard

/-- THE TIED CARD OF 'carryalllaw27.StackBack'. -/
def stackBackCard : Claim7 := { stood := { row := stackBackRow, standIns := [], harness := (true, "10fa88a263dc2cc3afad74d24e2643d42b2675d8083366c8c87cdd2804f18058"), looks := false }, kinds := [], alts := [], laidByText := true, laidKinds := [.data, .data, .data, .data, .pinned], laidTests := true, laidLooks := .later }
def StackBackCardSaid : Prop := Claim7.holds Tryz.pinned (.plain (OpenSpec.ofChange stackBackSpec)) stackBackCard

/-- THE TIED CARD OF 'carryalllaw27.StackNil'. -/
def stackNilCard : Claim7 := { stood := { row := stackNilRow, standIns := [], harness := (true, "10fa88a263dc2cc3afad74d24e2643d42b2675d8083366c8c87cdd2804f18058"), looks := false }, kinds := [], alts := [], laidByText := true, laidKinds := [.data, .data, .data, .data, .pinned], laidTests := true, laidLooks := .later }
def StackNilCardSaid : Prop := Claim7.holds Tryz.pinned (.plain (OpenSpec.ofChange stackNilSpec)) stackNilCard

/-- THE TIED CARD OF 'carryalllaw27.StackQuota'. -/
def stackQuotaCard : Claim7 := { stood := { row := stackQuotaRow, standIns := [], harness := (true, "10fa88a263dc2cc3afad74d24e2643d42b2675d8083366c8c87cdd2804f18058"), looks := false }, kinds := [], alts := [], laidByText := true, laidKinds := [.data, .data, .data, .data, .pinned], laidTests := true, laidLooks := .later }
def StackQuotaCardSaid : Prop := Claim7.holds Tryz.pinned (.plain (OpenSpec.ofChange stackQuotaSpec)) stackQuotaCard

/-- THE TIED CARD OF 'carryalllaw27.StackGoes'. -/
def stackGoesCard : Claim7 := { stood := { row := stackGoesRow, standIns := [], harness := (true, "10fa88a263dc2cc3afad74d24e2643d42b2675d8083366c8c87cdd2804f18058"), looks := false }, kinds := [], alts := [], laidByText := true, laidKinds := [.data, .data, .data, .data, .pinned], laidTests := true, laidLooks := .later }
def StackGoesCardSaid : Prop := Claim7.holds Tryz.pinned (.plain (OpenSpec.ofChange stackGoesSpec)) stackGoesCard

/-- THE TIED CARD OF 'carryalltop.TopUrls'. -/
def topUrlsCard : Claim7 := { stood := { row := topUrlsRow, standIns := [], harness := (true, "10fa88a263dc2cc3afad74d24e2643d42b2675d8083366c8c87cdd2804f18058"), looks := false }, kinds := [], alts := [], laidByText := true, laidKinds := [.data, .data, .data, .data, .pinned], laidTests := true, laidLooks := .later }
def TopUrlsCardSaid : Prop := Claim7.holds Tryz.pinned (.plain (OpenSpec.ofChange topUrlsSpec)) topUrlsCard

/-- THE TIED CARD OF 'carryalltop.TopRanges'. -/
def topRangesCard : Claim7 := { stood := { row := topRangesRow, standIns := [], harness := (true, "10fa88a263dc2cc3afad74d24e2643d42b2675d8083366c8c87cdd2804f18058"), looks := false }, kinds := [], alts := [], laidByText := true, laidKinds := [.data, .data, .data, .data, .pinned], laidTests := true, laidLooks := .later }
def TopRangesCardSaid : Prop := Claim7.holds Tryz.pinned (.plain (OpenSpec.ofChange topRangesSpec)) topRangesCard

/-- THE TIED CARD OF 'carryalltop.TopSlices'. -/
def topSlicesCard : Claim7 := { stood := { row := topSlicesRow, standIns := [], harness := (true, "10fa88a263dc2cc3afad74d24e2643d42b2675d8083366c8c87cdd2804f18058"), looks := false }, kinds := [], alts := [], laidByText := true, laidKinds := [.data, .data, .data, .data, .pinned], laidTests := true, laidLooks := .later }
def TopSlicesCardSaid : Prop := Claim7.holds Tryz.pinned (.plain (OpenSpec.ofChange topSlicesSpec)) topSlicesCard

/-- THE TIED CARD OF 'carryalltop.TopInline'. -/
def topInlineCard : Claim7 := { stood := { row := topInlineRow, standIns := [], harness := (true, "10fa88a263dc2cc3afad74d24e2643d42b2675d8083366c8c87cdd2804f18058"), looks := false }, kinds := [], alts := [], laidByText := true, laidKinds := [.data, .data, .data, .data, .pinned], laidTests := true, laidLooks := .later }
def TopInlineCardSaid : Prop := Claim7.holds Tryz.pinned (.plain (OpenSpec.ofChange topInlineSpec)) topInlineCard

/-- THE SECOND FORM's CARD OF 'carryalllaw24.StoreRoom'. -/
def storeRoomUptoCard : Claim7 := { stood := { row := storeRoomUptoRow, standIns := [], harness := (true, "10fa88a263dc2cc3afad74d24e2643d42b2675d8083366c8c87cdd2804f18058"), looks := false }, kinds := [], alts := [], laidByText := true, laidKinds := [.data, .data, .data, .data, .pinned], laidTests := true, laidLooks := .later }
def StoreRoomUptoCardSaid : Prop := Claim7.holds Tryz.pinned (.plain (OpenSpec.upto storeRoomSpec)) storeRoomUptoCard

/-- THE SECOND FORM's CARD OF 'carryalllaw24.StoreOrder'. -/
def storeOrderUptoCard : Claim7 := { stood := { row := storeOrderUptoRow, standIns := [], harness := (true, "10fa88a263dc2cc3afad74d24e2643d42b2675d8083366c8c87cdd2804f18058"), looks := false }, kinds := [], alts := [], laidByText := true, laidKinds := [.data, .data, .data, .data, .pinned], laidTests := true, laidLooks := .later }
def StoreOrderUptoCardSaid : Prop := Claim7.holds Tryz.pinned (.plain (OpenSpec.upto storeOrderSpec)) storeOrderUptoCard

/-- THE SECOND FORM's CARD OF 'carryalllaw26.FetchParts'. -/
def fetchPartsUptoCard : Claim7 := { stood := { row := fetchPartsUptoRow, standIns := [], harness := (true, "10fa88a263dc2cc3afad74d24e2643d42b2675d8083366c8c87cdd2804f18058"), looks := false }, kinds := [], alts := [], laidByText := true, laidKinds := [.data, .data, .data, .data, .pinned], laidTests := true, laidLooks := .later }
def FetchPartsUptoCardSaid : Prop := Claim7.holds Tryz.pinned (.plain (OpenSpec.upto fetchPartsSpec)) fetchPartsUptoCard

/-- THE SECOND FORM's CARD OF 'carryalllaw26.FetchNothing'. -/
def fetchNothingUptoCard : Claim7 := { stood := { row := fetchNothingUptoRow, standIns := [], harness := (true, "10fa88a263dc2cc3afad74d24e2643d42b2675d8083366c8c87cdd2804f18058"), looks := false }, kinds := [], alts := [], laidByText := true, laidKinds := [.data, .data, .data, .data, .pinned], laidTests := true, laidLooks := .later }
def FetchNothingUptoCardSaid : Prop := Claim7.holds Tryz.pinned (.plain (OpenSpec.upto fetchNothingSpec)) fetchNothingUptoCard

/-- THE SECOND FORM's CARD OF 'carryalllaw27.StackBack'. -/
def stackBackUptoCard : Claim7 := { stood := { row := stackBackUptoRow, standIns := [], harness := (true, "10fa88a263dc2cc3afad74d24e2643d42b2675d8083366c8c87cdd2804f18058"), looks := false }, kinds := [], alts := [], laidByText := true, laidKinds := [.data, .data, .data, .data, .pinned], laidTests := true, laidLooks := .later }
def StackBackUptoCardSaid : Prop := Claim7.holds Tryz.pinned (.plain (OpenSpec.upto stackBackSpec)) stackBackUptoCard

/-- THE SECOND FORM's CARD OF 'carryalllaw27.StackNil'. -/
def stackNilUptoCard : Claim7 := { stood := { row := stackNilUptoRow, standIns := [], harness := (true, "10fa88a263dc2cc3afad74d24e2643d42b2675d8083366c8c87cdd2804f18058"), looks := false }, kinds := [], alts := [], laidByText := true, laidKinds := [.data, .data, .data, .data, .pinned], laidTests := true, laidLooks := .later }
def StackNilUptoCardSaid : Prop := Claim7.holds Tryz.pinned (.plain (OpenSpec.upto stackNilSpec)) stackNilUptoCard

/-- THE SECOND FORM's CARD OF 'carryalllaw27.StackQuota'. -/
def stackQuotaUptoCard : Claim7 := { stood := { row := stackQuotaUptoRow, standIns := [], harness := (true, "10fa88a263dc2cc3afad74d24e2643d42b2675d8083366c8c87cdd2804f18058"), looks := false }, kinds := [], alts := [], laidByText := true, laidKinds := [.data, .data, .data, .data, .pinned], laidTests := true, laidLooks := .later }
def StackQuotaUptoCardSaid : Prop := Claim7.holds Tryz.pinned (.plain (OpenSpec.upto stackQuotaSpec)) stackQuotaUptoCard

/-- THE SECOND FORM's CARD OF 'carryalllaw27.StackGoes'. -/
def stackGoesUptoCard : Claim7 := { stood := { row := stackGoesUptoRow, standIns := [], harness := (true, "10fa88a263dc2cc3afad74d24e2643d42b2675d8083366c8c87cdd2804f18058"), looks := false }, kinds := [], alts := [], laidByText := true, laidKinds := [.data, .data, .data, .data, .pinned], laidTests := true, laidLooks := .later }
def StackGoesUptoCardSaid : Prop := Claim7.holds Tryz.pinned (.plain (OpenSpec.upto stackGoesSpec)) stackGoesUptoCard

/-- THE SECOND FORM's CARD OF 'carryalltop.TopUrls'. -/
def topUrlsUptoCard : Claim7 := { stood := { row := topUrlsUptoRow, standIns := [], harness := (true, "10fa88a263dc2cc3afad74d24e2643d42b2675d8083366c8c87cdd2804f18058"), looks := false }, kinds := [], alts := [], laidByText := true, laidKinds := [.data, .data, .data, .data, .pinned], laidTests := true, laidLooks := .later }
def TopUrlsUptoCardSaid : Prop := Claim7.holds Tryz.pinned (.plain (OpenSpec.upto topUrlsSpec)) topUrlsUptoCard

/-- THE SECOND FORM's CARD OF 'carryalltop.TopRanges'. -/
def topRangesUptoCard : Claim7 := { stood := { row := topRangesUptoRow, standIns := [], harness := (true, "10fa88a263dc2cc3afad74d24e2643d42b2675d8083366c8c87cdd2804f18058"), looks := false }, kinds := [], alts := [], laidByText := true, laidKinds := [.data, .data, .data, .data, .pinned], laidTests := true, laidLooks := .later }
def TopRangesUptoCardSaid : Prop := Claim7.holds Tryz.pinned (.plain (OpenSpec.upto topRangesSpec)) topRangesUptoCard

/-- THE SECOND FORM's CARD OF 'carryalltop.TopSlices'. -/
def topSlicesUptoCard : Claim7 := { stood := { row := topSlicesUptoRow, standIns := [], harness := (true, "10fa88a263dc2cc3afad74d24e2643d42b2675d8083366c8c87cdd2804f18058"), looks := false }, kinds := [], alts := [], laidByText := true, laidKinds := [.data, .data, .data, .data, .pinned], laidTests := true, laidLooks := .later }
def TopSlicesUptoCardSaid : Prop := Claim7.holds Tryz.pinned (.plain (OpenSpec.upto topSlicesSpec)) topSlicesUptoCard

/-- THE SECOND FORM's CARD OF 'carryalltop.TopInline'. -/
def topInlineUptoCard : Claim7 := { stood := { row := topInlineUptoRow, standIns := [], harness := (true, "10fa88a263dc2cc3afad74d24e2643d42b2675d8083366c8c87cdd2804f18058"), looks := false }, kinds := [], alts := [], laidByText := true, laidKinds := [.data, .data, .data, .data, .pinned], laidTests := true, laidLooks := .later }
def TopInlineUptoCardSaid : Prop := Claim7.holds Tryz.pinned (.plain (OpenSpec.upto topInlineSpec)) topInlineUptoCard
end Rows
end Go.Proofs.YthajldjmplfnaaaGreatDoor
