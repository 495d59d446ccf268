/-
  DERIVED. GIVEN WITH THE SEED: THE CARDS: each row of YtnmkkejodkjjiaaDoorRows.lean that lists a variable, with what it lists TIED to the program's text (the seventh form; the later family's looks); each row that meets fmt, with fmt's text TOLD by the authors' own Lean function (tested against real Go, not proved from fmt's source: count such statements apart). THE CARD IS WHAT COUNTS. Prove the row's statement (the work); the ties are given (YtnmkkejodkjjiaaDoorTie.lean); close each card by the builder's one call (the guide's Derived/Test/ToyasCard.lean, 'card_holds'). Laid BY PROGRAM, IN A SANDBOX (cutbox-door.mjs). By AI agents, Wed Nov 11 2026. No macro, syntax, notation, axiom, sorry.
-/
import Derived.Test.YtnmkkejodkjjiaaDoorRows
import GoSem.ClaimSeven
namespace Go.Proofs.YtnmkkejodkjjiaaDoor
namespace Rows

/-- THE TIED CARD OF 'carryalllaw08.SixReads'. -/
def sixReadsCard : Claim7 := { stood := { row := sixReadsRow, standIns := [], harness := (true, "8ee667710f5465005041147cdb738755d8ff48ffa6d4f2c24725efd603e7decc"), looks := false }, kinds := [], alts := [], laidByText := true, laidKinds := [.data, .data, .data, .data, .pinned], laidTests := true, laidLooks := .later }
def SixReadsCardSaid : Prop := Claim7.holds Tryd.pinned (.plain (OpenSpec.ofChange sixReadsSpec)) sixReadsCard

/-- THE TIED CARD OF 'carryalllaw08.SixBack'. -/
def sixBackCard : Claim7 := { stood := { row := sixBackRow, standIns := [], harness := (true, "8ee667710f5465005041147cdb738755d8ff48ffa6d4f2c24725efd603e7decc"), looks := false }, kinds := [], alts := [], laidByText := true, laidKinds := [.data, .data, .data, .data, .pinned], laidTests := true, laidLooks := .later }
def SixBackCardSaid : Prop := Claim7.holds Tryd.pinned (.plain (OpenSpec.ofChange sixBackSpec)) sixBackCard

/-- THE TIED CARD OF 'carryalllaw08.SixFull'. -/
def sixFullCard : Claim7 := { stood := { row := sixFullRow, standIns := [], harness := (true, "8ee667710f5465005041147cdb738755d8ff48ffa6d4f2c24725efd603e7decc"), looks := false }, kinds := [], alts := [], laidByText := true, laidKinds := [.data, .data, .data, .data, .pinned], laidTests := true, laidLooks := .later }
def SixFullCardSaid : Prop := Claim7.holds Tryd.pinned (.plain (OpenSpec.ofChange sixFullSpec)) sixFullCard

/-- THE TIED CARD OF 'carryalllaw08.SixGap'. -/
def sixGapCard : Claim7 := { stood := { row := sixGapRow, standIns := [], harness := (true, "8ee667710f5465005041147cdb738755d8ff48ffa6d4f2c24725efd603e7decc"), looks := false }, kinds := [], alts := [], laidByText := true, laidKinds := [.data, .data, .data, .data, .pinned], laidTests := true, laidLooks := .later }
def SixGapCardSaid : Prop := Claim7.holds Tryd.pinned (.plain (OpenSpec.ofChange sixGapSpec)) sixGapCard

/-- THE TIED CARD OF 'carryalllaw09.HostReads'. -/
def hostReadsCard : Claim7 := { stood := { row := hostReadsRow, standIns := [], harness := (true, "8ee667710f5465005041147cdb738755d8ff48ffa6d4f2c24725efd603e7decc"), looks := false }, kinds := [], alts := [], laidByText := true, laidKinds := [.data, .data, .data, .data, .pinned], laidTests := true, laidLooks := .later }
def HostReadsCardSaid : Prop := Claim7.holds Tryd.pinned (.plain (OpenSpec.ofChange hostReadsSpec)) hostReadsCard

/-- THE TIED CARD OF 'carryalllaw09.HostBack'. -/
def hostBackCard : Claim7 := { stood := { row := hostBackRow, standIns := [], harness := (true, "8ee667710f5465005041147cdb738755d8ff48ffa6d4f2c24725efd603e7decc"), looks := false }, kinds := [], alts := [], laidByText := true, laidKinds := [.data, .data, .data, .data, .pinned], laidTests := true, laidLooks := .later }
def HostBackCardSaid : Prop := Claim7.holds Tryd.pinned (.plain (OpenSpec.ofChange hostBackSpec)) hostBackCard

/-- THE TIED CARD OF 'carryalllaw09.HostCase'. -/
def hostCaseCard : Claim7 := { stood := { row := hostCaseRow, standIns := [], harness := (true, "8ee667710f5465005041147cdb738755d8ff48ffa6d4f2c24725efd603e7decc"), looks := false }, kinds := [], alts := [], laidByText := true, laidKinds := [.data, .data, .data, .data, .pinned], laidTests := true, laidLooks := .later }
def HostCaseCardSaid : Prop := Claim7.holds Tryd.pinned (.plain (OpenSpec.ofChange hostCaseSpec)) hostCaseCard

/-- THE TIED CARD OF 'carryalllaw09.HostEmpty'. -/
def hostEmptyCard : Claim7 := { stood := { row := hostEmptyRow, standIns := [], harness := (true, "8ee667710f5465005041147cdb738755d8ff48ffa6d4f2c24725efd603e7decc"), looks := false }, kinds := [], alts := [], laidByText := true, laidKinds := [.data, .data, .data, .data, .pinned], laidTests := true, laidLooks := .later }
def HostEmptyCardSaid : Prop := Claim7.holds Tryd.pinned (.plain (OpenSpec.ofChange hostEmptySpec)) hostEmptyCard

/-- THE SECOND FORM's CARD OF 'carryalllaw08.SixReads'. -/
def sixReadsUptoCard : Claim7 := { stood := { row := sixReadsUptoRow, standIns := [], harness := (true, "8ee667710f5465005041147cdb738755d8ff48ffa6d4f2c24725efd603e7decc"), looks := false }, kinds := [], alts := [], laidByText := true, laidKinds := [.data, .data, .data, .data, .pinned], laidTests := true, laidLooks := .later }
def SixReadsUptoCardSaid : Prop := Claim7.holds Tryd.pinned (.plain (OpenSpec.upto sixReadsSpec)) sixReadsUptoCard

/-- THE SECOND FORM's CARD OF 'carryalllaw08.SixBack'. -/
def sixBackUptoCard : Claim7 := { stood := { row := sixBackUptoRow, standIns := [], harness := (true, "8ee667710f5465005041147cdb738755d8ff48ffa6d4f2c24725efd603e7decc"), looks := false }, kinds := [], alts := [], laidByText := true, laidKinds := [.data, .data, .data, .data, .pinned], laidTests := true, laidLooks := .later }
def SixBackUptoCardSaid : Prop := Claim7.holds Tryd.pinned (.plain (OpenSpec.upto sixBackSpec)) sixBackUptoCard

/-- THE SECOND FORM's CARD OF 'carryalllaw08.SixFull'. -/
def sixFullUptoCard : Claim7 := { stood := { row := sixFullUptoRow, standIns := [], harness := (true, "8ee667710f5465005041147cdb738755d8ff48ffa6d4f2c24725efd603e7decc"), looks := false }, kinds := [], alts := [], laidByText := true, laidKinds := [.data, .data, .data, .data, .pinned], laidTests := true, laidLooks := .later }
def SixFullUptoCardSaid : Prop := Claim7.holds Tryd.pinned (.plain (OpenSpec.upto sixFullSpec)) sixFullUptoCard

/-- THE SECOND FORM's CARD OF 'carryalllaw08.SixGap'. -/
def sixGapUptoCard : Claim7 := { stood := { row := sixGapUptoRow, standIns := [], harness := (true, "8ee667710f5465005041147cdb738755d8ff48ffa6d4f2c24725efd603e7decc"), looks := false }, kinds := [], alts := [], laidByText := true, laidKinds := [.data, .data, .data, .data, .pinned], laidTests := true, laidLooks := .later }
def SixGapUptoCardSaid : Prop := Claim7.holds Tryd.pinned (.plain (OpenSpec.upto sixGapSpec)) sixGapUptoCard

/-- THE SECOND FORM's CARD OF 'carryalllaw09.HostReads'. -/
def hostReadsUptoCard : Claim7 := { stood := { row := hostReadsUptoRow, standIns := [], harness := (true, "8ee667710f5465005041147cdb738755d8ff48ffa6d4f2c24725efd603e7decc"), looks := false }, kinds := [], alts := [], laidByText := true, laidKinds := [.data, .data, .data, .data, .pinned], laidTests := true, laidLooks := .later }
def HostReadsUptoCardSaid : Prop := Claim7.holds Tryd.pinned (.plain (OpenSpec.upto hostReadsSpec)) hostReadsUptoCard

/-- THE SECOND FORM's CARD OF 'carryalllaw09.HostBack'. -/
def hostBackUptoCard : Claim7 := { stood := { row := hostBackUptoRow, standIns := [], harness := (true, "8ee667710f5465005041147cdb738755d8ff48ffa6d4f2c24725efd603e7decc"), looks := false }, kinds := [], alts := [], laidByText := true, laidKinds := [.data, .data, .data, .data, .pinned], laidTests := true, laidLooks := .later }
def HostBackUptoCardSaid : Prop := Claim7.holds Tryd.pinned (.plain (OpenSpec.upto hostBackSpec)) hostBackUptoCard

/-- THE SECOND FORM's CARD OF 'carryalllaw09.HostCase'. -/
def hostCaseUptoCard : Claim7 := { stood := { row := hostCaseUptoRow, standIns := [], harness := (true, "8ee667710f5465005041147cdb738755d8ff48ffa6d4f2c24725efd603e7decc"), looks := false }, kinds := [], alts := [], laidByText := true, laidKinds := [.data, .data, .data, .data, .pinned], laidTests := true, laidLooks := .later }
def HostCaseUptoCardSaid : Prop := Claim7.holds Tryd.pinned (.plain (OpenSpec.upto hostCaseSpec)) hostCaseUptoCard

/-- THE SECOND FORM's CARD OF 'carryalllaw09.HostEmpty'. -/
def hostEmptyUptoCard : Claim7 := { stood := { row := hostEmptyUptoRow, standIns := [], harness := (true, "8ee667710f5465005041147cdb738755d8ff48ffa6d4f2c24725efd603e7decc"), looks := false }, kinds := [], alts := [], laidByText := true, laidKinds := [.data, .data, .data, .data, .pinned], laidTests := true, laidLooks := .later }
def HostEmptyUptoCardSaid : Prop := Claim7.holds Tryd.pinned (.plain (OpenSpec.upto hostEmptySpec)) hostEmptyUptoCard
end Rows
end Go.Proofs.YtnmkkejodkjjiaaDoor
