/-
  DERIVED. GIVEN WITH THE SEED: THE CARDS: each row of YtegpfgccaminkaaGreatDoorRows.lean that lists a variable, with what it lists TIED to the program's text (the seventh form; the later family's looks); each row that meets fmt, with fmt's text TOLD by the authors' own Lean function (tested against real Go, not proved from fmt's source: count such statements apart). THE CARD IS WHAT COUNTS. Prove the row's statement (the work); the ties are given (YtegpfgccaminkaaGreatDoorTie.lean); close each card by the builder's one call (the guide's Derived/Test/ToyasCard.lean, 'card_holds'). Laid BY PROGRAM, IN A SANDBOX (cutbox-door.mjs). By AI agents, Wed Nov 11 2026. No macro, syntax, notation, axiom, sorry.
-/
import Derived.Test.YtegpfgccaminkaaGreatDoorRows
import GoSem.ClaimSeven
namespace Go.Proofs.YtegpfgccaminkaaGreatDoor
namespace Rows

/-- THE TIED CARD OF 'carryalllaw27.StackQuota'. -/
def stackQuotaCard : Claim7 := { stood := { row := stackQuotaRow, standIns := [], harness := (true, "bf3bfa28f8c393bac6c7122f614d5174ffed082527a77b79993f2c7558c21163"), looks := false }, kinds := [], alts := [], laidByText := true, laidKinds := [.data, .data, .data, .data, .pinned], laidTests := true, laidLooks := .later }
def StackQuotaCardSaid : Prop := Claim7.holds Tryz.pinned (.plain (OpenSpec.ofChange stackQuotaSpec)) stackQuotaCard

/-- THE TIED CARD OF 'carryalllaw27.StackNil'. -/
def stackNilCard : Claim7 := { stood := { row := stackNilRow, standIns := [], harness := (true, "bf3bfa28f8c393bac6c7122f614d5174ffed082527a77b79993f2c7558c21163"), looks := false }, kinds := [], alts := [], laidByText := true, laidKinds := [.data, .data, .data, .data, .pinned], laidTests := true, laidLooks := .later }
def StackNilCardSaid : Prop := Claim7.holds Tryz.pinned (.plain (OpenSpec.ofChange stackNilSpec)) stackNilCard

/-- THE TIED CARD OF 'carryalllaw27.StackGoes'. -/
def stackGoesCard : Claim7 := { stood := { row := stackGoesRow, standIns := [], harness := (true, "bf3bfa28f8c393bac6c7122f614d5174ffed082527a77b79993f2c7558c21163"), looks := false }, kinds := [], alts := [], laidByText := true, laidKinds := [.data, .data, .data, .data, .pinned], laidTests := true, laidLooks := .later }
def StackGoesCardSaid : Prop := Claim7.holds Tryz.pinned (.plain (OpenSpec.ofChange stackGoesSpec)) stackGoesCard

/-- THE TIED CARD OF 'carryalllaw26.FetchParts'. -/
def fetchPartsCard : Claim7 := { stood := { row := fetchPartsRow, standIns := [], harness := (true, "bf3bfa28f8c393bac6c7122f614d5174ffed082527a77b79993f2c7558c21163"), looks := false }, kinds := [], alts := [], laidByText := true, laidKinds := [.data, .data, .data, .data, .pinned], laidTests := true, laidLooks := .later }
def FetchPartsCardSaid : Prop := Claim7.holds Tryz.pinned (.plain (OpenSpec.ofChange fetchPartsSpec)) fetchPartsCard

/-- THE TIED CARD OF 'carryalltop.TopRanges'. -/
def topRangesCard : Claim7 := { stood := { row := topRangesRow, standIns := [], harness := (true, "bf3bfa28f8c393bac6c7122f614d5174ffed082527a77b79993f2c7558c21163"), looks := false }, kinds := [], alts := [], laidByText := true, laidKinds := [.data, .data, .data, .data, .pinned], laidTests := true, laidLooks := .later }
def TopRangesCardSaid : Prop := Claim7.holds Tryz.pinned (.plain (OpenSpec.ofChange topRangesSpec)) topRangesCard

/-- THE TIED CARD OF 'carryalltop.TopSlices'. -/
def topSlicesCard : Claim7 := { stood := { row := topSlicesRow, standIns := [], harness := (true, "bf3bfa28f8c393bac6c7122f614d5174ffed082527a77b79993f2c7558c21163"), looks := false }, kinds := [], alts := [], laidByText := true, laidKinds := [.data, .data, .data, .data, .pinned], laidTests := true, laidLooks := .later }
def TopSlicesCardSaid : Prop := Claim7.holds Tryz.pinned (.plain (OpenSpec.ofChange topSlicesSpec)) topSlicesCard

/-- THE SECOND FORM's CARD OF 'carryalllaw27.StackQuota'. -/
def stackQuotaUptoCard : Claim7 := { stood := { row := stackQuotaUptoRow, standIns := [], harness := (true, "bf3bfa28f8c393bac6c7122f614d5174ffed082527a77b79993f2c7558c21163"), looks := false }, kinds := [], alts := [], laidByText := true, laidKinds := [.data, .data, .data, .data, .pinned], laidTests := true, laidLooks := .later }
def StackQuotaUptoCardSaid : Prop := Claim7.holds Tryz.pinned (.plain (OpenSpec.upto stackQuotaSpec)) stackQuotaUptoCard

/-- THE SECOND FORM's CARD OF 'carryalllaw27.StackNil'. -/
def stackNilUptoCard : Claim7 := { stood := { row := stackNilUptoRow, standIns := [], harness := (true, "bf3bfa28f8c393bac6c7122f614d5174ffed082527a77b79993f2c7558c21163"), looks := false }, kinds := [], alts := [], laidByText := true, laidKinds := [.data, .data, .data, .data, .pinned], laidTests := true, laidLooks := .later }
def StackNilUptoCardSaid : Prop := Claim7.holds Tryz.pinned (.plain (OpenSpec.upto stackNilSpec)) stackNilUptoCard

/-- THE SECOND FORM's CARD OF 'carryalllaw27.StackGoes'. -/
def stackGoesUptoCard : Claim7 := { stood := { row := stackGoesUptoRow, standIns := [], harness := (true, "bf3bfa28f8c393bac6c7122f614d5174ffed082527a77b79993f2c7558c21163"), looks := false }, kinds := [], alts := [], laidByText := true, laidKinds := [.data, .data, .data, .data, .pinned], laidTests := true, laidLooks := .later }
def StackGoesUptoCardSaid : Prop := Claim7.holds Tryz.pinned (.plain (OpenSpec.upto stackGoesSpec)) stackGoesUptoCard

/-- THE SECOND FORM's CARD OF 'carryalllaw26.FetchParts'. -/
def fetchPartsUptoCard : Claim7 := { stood := { row := fetchPartsUptoRow, standIns := [], harness := (true, "bf3bfa28f8c393bac6c7122f614d5174ffed082527a77b79993f2c7558c21163"), looks := false }, kinds := [], alts := [], laidByText := true, laidKinds := [.data, .data, .data, .data, .pinned], laidTests := true, laidLooks := .later }
def FetchPartsUptoCardSaid : Prop := Claim7.holds Tryz.pinned (.plain (OpenSpec.upto fetchPartsSpec)) fetchPartsUptoCard

/-- THE SECOND FORM's CARD OF 'carryalltop.TopRanges'. -/
def topRangesUptoCard : Claim7 := { stood := { row := topRangesUptoRow, standIns := [], harness := (true, "bf3bfa28f8c393bac6c7122f614d5174ffed082527a77b79993f2c7558c21163"), looks := false }, kinds := [], alts := [], laidByText := true, laidKinds := [.data, .data, .data, .data, .pinned], laidTests := true, laidLooks := .later }
def TopRangesUptoCardSaid : Prop := Claim7.holds Tryz.pinned (.plain (OpenSpec.upto topRangesSpec)) topRangesUptoCard

/-- THE SECOND FORM's CARD OF 'carryalltop.TopSlices'. -/
def topSlicesUptoCard : Claim7 := { stood := { row := topSlicesUptoRow, standIns := [], harness := (true, "bf3bfa28f8c393bac6c7122f614d5174ffed082527a77b79993f2c7558c21163"), looks := false }, kinds := [], alts := [], laidByText := true, laidKinds := [.data, .data, .data, .data, .pinned], laidTests := true, laidLooks := .later }
def TopSlicesUptoCardSaid : Prop := Claim7.holds Tryz.pinned (.plain (OpenSpec.upto topSlicesSpec)) topSlicesUptoCard
end Rows
end Go.Proofs.YtegpfgccaminkaaGreatDoor
