/-
  NARROWER THAN 'FOR EVERY INPUT', by the rows' own cells (each row's printed sentence says how): MimeReads: laid · MimeTells: laid · MimeBack: laid · MimeSame: laid · MimeBlanks: laid · MimeTwice: laid.
  DERIVED. THE GIVEN ROWS OF THIS SEAT. 6 by the template 'for every input the law returns true; each argument reads behind the call as it read before'; 0 by the template 'total and deterministic' (their statements: YtlbgcibdpeaomaaDoorTotals.lean).
  GIVEN WITH THE SEED: the statements are not yours to turn. If you find one false, say at which input.
  Laid BY PROGRAM, IN A SANDBOX (cutbox-rows.mjs): the forced cells as the released guide's own fill.sh prints them over the translation 33bf10f1be5b6ba1… (all of the seat's roots in one cut). By AI agents, Wed Nov 11 2026. No macro, syntax, notation, axiom, sorry.
-/
import Derived.Test.YtlbgcibdpeaomaaDoorChecked
import GoSem.PinnedTables
import GoSem.Claim
import GoSem.ClaimJoined
import GoSem.ClaimMapViews
import Derived.JoinedTies
import Derived.KernelRfl
namespace Go.Proofs.YtlbgcibdpeaomaaDoor
/- THE CELL 'sum', in the pinned program and in every row, IS THE sha256 OF THE DUMP (.gsa) THAT YtlbgcibdpeaomaaDoorProg.lean LOADS. Nothing in Lean hashes anything: it is a label: what it is worth is what the hold of that sum in a sandbox is worth. -/
noncomputable def Tryd.pinned : Pinned := { name := "ytlbgcibdpeaomaadoor", sum := "33bf10f1be5b6ba1fcb17b3b767268d063bc9dc72318e8a40e8146259d3b28a3", checked := Tryd.checked }
namespace Rows
def none {H : Type} : Left H := { results := [], args := [] }

/- WHAT THE LISTED PACKAGE-LEVEL VARIABLES READ AS WHEN THE CALL BEGINS. Each datum BY PROGRAM (the guide's laid-datum.mjs) off the statement by which the dump's own 'gosem.cut.vars' lays the variable. In a bare row this is a premise. The card (YtlbgcibdpeaomaaDoorCards.lean) ties it to the program's text. -/
def laid_unicode_utf8_acceptRanges {H : Type} : DataW H := .agg [.agg [.lit (.int .u8 128), .lit (.int .u8 191)], .agg [.lit (.int .u8 160), .lit (.int .u8 191)], .agg [.lit (.int .u8 128), .lit (.int .u8 159)], .agg [.lit (.int .u8 144), .lit (.int .u8 191)], .agg [.lit (.int .u8 128), .lit (.int .u8 143)], .agg [.lit (.int .u8 0), .lit (.int .u8 0)], .agg [.lit (.int .u8 0), .lit (.int .u8 0)], .agg [.lit (.int .u8 0), .lit (.int .u8 0)], .agg [.lit (.int .u8 0), .lit (.int .u8 0)], .agg [.lit (.int .u8 0), .lit (.int .u8 0)], .agg [.lit (.int .u8 0), .lit (.int .u8 0)], .agg [.lit (.int .u8 0), .lit (.int .u8 0)], .agg [.lit (.int .u8 0), .lit (.int .u8 0)], .agg [.lit (.int .u8 0), .lit (.int .u8 0)], .agg [.lit (.int .u8 0), .lit (.int .u8 0)], .agg [.lit (.int .u8 0), .lit (.int .u8 0)]]
/-- One of Go's own tables, pinned by name: the form's constant. -/
def laid_unicode_utf8_first : DataW Unit := Go.Pinned.utf8First

/-- 'carryalllaw05.MimeReads': WHATEVER THE INPUT: true; the input reads as it did. -/
def mimeReadsSpec : ChangeSpec := { name := "mimeReads", fn := fun _ => fun
  | [d] => { results := [.lit (.bool true)], args := [d] }
  | _ => none }
def mimeReadsRow : OpenClaim := { program := "ytlbgcibdpeaomaadoor", sum := "33bf10f1be5b6ba1fcb17b3b767268d063bc9dc72318e8a40e8146259d3b28a3", func := "carryall/carryalllaw05.MimeReads", spec := "mimeReads", inPlace := ["internal/bytealg.IndexByteString", "internal/bytealg.IndexString", "internal/abi.NoEscape"], named := ["unicode/utf8.first", "unicode/utf8.acceptRanges", "internal/bytealg.MaxLen"], apart := false, laid := [("unicode/utf8.acceptRanges", laid_unicode_utf8_acceptRanges), ("unicode/utf8.first", laid_unicode_utf8_first)] }
def MimeReadsSaid : Prop := mimeReadsRow.holds Tryd.pinned (OpenSpec.ofChange mimeReadsSpec)

/-- ITS FALSE NEIGHBOUR: 'it returns false'. Refute it at one input. -/
def mimeReadsWrong : ChangeSpec := { name := "mimeReads", fn := fun _ => fun
  | [d] => { results := [.lit (.bool false)], args := [d] }
  | _ => none }
def MimeReadsWrongFalsely : Prop := mimeReadsRow.holds Tryd.pinned (OpenSpec.ofChange mimeReadsWrong)

/-- 'carryalllaw05.MimeTells': WHATEVER THE INPUT: true; the input reads as it did. -/
def mimeTellsSpec : ChangeSpec := { name := "mimeTells", fn := fun _ => fun
  | [d1, d2] => { results := [.lit (.bool true)], args := [d1, d2] }
  | _ => none }
def mimeTellsRow : OpenClaim := { program := "ytlbgcibdpeaomaadoor", sum := "33bf10f1be5b6ba1fcb17b3b767268d063bc9dc72318e8a40e8146259d3b28a3", func := "carryall/carryalllaw05.MimeTells", spec := "mimeTells", inPlace := ["internal/bytealg.IndexByteString", "internal/bytealg.IndexString", "internal/abi.NoEscape"], named := ["unicode/utf8.first", "unicode/utf8.acceptRanges", "internal/bytealg.MaxLen"], apart := false, laid := [("unicode/utf8.acceptRanges", laid_unicode_utf8_acceptRanges), ("unicode/utf8.first", laid_unicode_utf8_first)] }
def MimeTellsSaid : Prop := mimeTellsRow.holds Tryd.pinned (OpenSpec.ofChange mimeTellsSpec)

/-- ITS FALSE NEIGHBOUR: 'it returns false'. Refute it at one input. -/
def mimeTellsWrong : ChangeSpec := { name := "mimeTells", fn := fun _ => fun
  | [d1, d2] => { results := [.lit (.bool false)], args := [d1, d2] }
  | _ => none }
def MimeTellsWrongFalsely : Prop := mimeTellsRow.holds Tryd.pinned (OpenSpec.ofChange mimeTellsWrong)

/-- 'carryalllaw05.MimeBack': WHATEVER THE INPUT: true; the input reads as it did. -/
def mimeBackSpec : ChangeSpec := { name := "mimeBack", fn := fun _ => fun
  | [d] => { results := [.lit (.bool true)], args := [d] }
  | _ => none }
def mimeBackRow : OpenClaim := { program := "ytlbgcibdpeaomaadoor", sum := "33bf10f1be5b6ba1fcb17b3b767268d063bc9dc72318e8a40e8146259d3b28a3", func := "carryall/carryalllaw05.MimeBack", spec := "mimeBack", inPlace := ["internal/bytealg.IndexByteString", "internal/bytealg.IndexString", "internal/abi.NoEscape"], named := ["unicode/utf8.first", "unicode/utf8.acceptRanges", "internal/bytealg.MaxLen"], apart := false, laid := [("unicode/utf8.acceptRanges", laid_unicode_utf8_acceptRanges), ("unicode/utf8.first", laid_unicode_utf8_first)] }
def MimeBackSaid : Prop := mimeBackRow.holds Tryd.pinned (OpenSpec.ofChange mimeBackSpec)

/-- ITS FALSE NEIGHBOUR: 'it returns false'. Refute it at one input. -/
def mimeBackWrong : ChangeSpec := { name := "mimeBack", fn := fun _ => fun
  | [d] => { results := [.lit (.bool false)], args := [d] }
  | _ => none }
def MimeBackWrongFalsely : Prop := mimeBackRow.holds Tryd.pinned (OpenSpec.ofChange mimeBackWrong)

/-- 'carryalllaw05.MimeSame': WHATEVER THE INPUT: true; the input reads as it did. -/
def mimeSameSpec : ChangeSpec := { name := "mimeSame", fn := fun _ => fun
  | [d1, d2] => { results := [.lit (.bool true)], args := [d1, d2] }
  | _ => none }
def mimeSameRow : OpenClaim := { program := "ytlbgcibdpeaomaadoor", sum := "33bf10f1be5b6ba1fcb17b3b767268d063bc9dc72318e8a40e8146259d3b28a3", func := "carryall/carryalllaw05.MimeSame", spec := "mimeSame", inPlace := ["internal/bytealg.IndexByteString", "internal/bytealg.IndexString", "internal/abi.NoEscape"], named := ["unicode/utf8.first", "unicode/utf8.acceptRanges", "internal/bytealg.MaxLen"], apart := false, laid := [("unicode/utf8.acceptRanges", laid_unicode_utf8_acceptRanges), ("unicode/utf8.first", laid_unicode_utf8_first)] }
def MimeSameSaid : Prop := mimeSameRow.holds Tryd.pinned (OpenSpec.ofChange mimeSameSpec)

/-- ITS FALSE NEIGHBOUR: 'it returns false'. Refute it at one input. -/
def mimeSameWrong : ChangeSpec := { name := "mimeSame", fn := fun _ => fun
  | [d1, d2] => { results := [.lit (.bool false)], args := [d1, d2] }
  | _ => none }
def MimeSameWrongFalsely : Prop := mimeSameRow.holds Tryd.pinned (OpenSpec.ofChange mimeSameWrong)

/-- 'carryalllaw05.MimeBlanks': WHATEVER THE INPUT: true; the input reads as it did. -/
def mimeBlanksSpec : ChangeSpec := { name := "mimeBlanks", fn := fun _ => fun
  | [d1, d2, d3] => { results := [.lit (.bool true)], args := [d1, d2, d3] }
  | _ => none }
def mimeBlanksRow : OpenClaim := { program := "ytlbgcibdpeaomaadoor", sum := "33bf10f1be5b6ba1fcb17b3b767268d063bc9dc72318e8a40e8146259d3b28a3", func := "carryall/carryalllaw05.MimeBlanks", spec := "mimeBlanks", inPlace := ["internal/bytealg.IndexByteString", "internal/bytealg.IndexString", "internal/abi.NoEscape"], named := ["unicode/utf8.first", "unicode/utf8.acceptRanges", "internal/bytealg.MaxLen"], apart := false, laid := [("unicode/utf8.acceptRanges", laid_unicode_utf8_acceptRanges), ("unicode/utf8.first", laid_unicode_utf8_first)] }
def MimeBlanksSaid : Prop := mimeBlanksRow.holds Tryd.pinned (OpenSpec.ofChange mimeBlanksSpec)

/-- ITS FALSE NEIGHBOUR: 'it returns false'. Refute it at one input. -/
def mimeBlanksWrong : ChangeSpec := { name := "mimeBlanks", fn := fun _ => fun
  | [d1, d2, d3] => { results := [.lit (.bool false)], args := [d1, d2, d3] }
  | _ => none }
def MimeBlanksWrongFalsely : Prop := mimeBlanksRow.holds Tryd.pinned (OpenSpec.ofChange mimeBlanksWrong)

/-- 'carryalllaw05.MimeTwice': WHATEVER THE INPUT: true; the input reads as it did. -/
def mimeTwiceSpec : ChangeSpec := { name := "mimeTwice", fn := fun _ => fun
  | [d1, d2, d3] => { results := [.lit (.bool true)], args := [d1, d2, d3] }
  | _ => none }
def mimeTwiceRow : OpenClaim := { program := "ytlbgcibdpeaomaadoor", sum := "33bf10f1be5b6ba1fcb17b3b767268d063bc9dc72318e8a40e8146259d3b28a3", func := "carryall/carryalllaw05.MimeTwice", spec := "mimeTwice", inPlace := ["internal/bytealg.IndexByteString", "internal/bytealg.IndexString", "internal/abi.NoEscape"], named := ["unicode/utf8.first", "unicode/utf8.acceptRanges", "internal/bytealg.MaxLen"], apart := false, laid := [("unicode/utf8.acceptRanges", laid_unicode_utf8_acceptRanges), ("unicode/utf8.first", laid_unicode_utf8_first)] }
def MimeTwiceSaid : Prop := mimeTwiceRow.holds Tryd.pinned (OpenSpec.ofChange mimeTwiceSpec)

/-- ITS FALSE NEIGHBOUR: 'it returns false'. Refute it at one input. -/
def mimeTwiceWrong : ChangeSpec := { name := "mimeTwice", fn := fun _ => fun
  | [d1, d2, d3] => { results := [.lit (.bool false)], args := [d1, d2, d3] }
  | _ => none }
def MimeTwiceWrongFalsely : Prop := mimeTwiceRow.holds Tryd.pinned (OpenSpec.ofChange mimeTwiceWrong)

/- THE SECOND FORM. 'bulk': how many values and letters a reading holds, each counted each time it is reached (what is shared counts as often as it is met; a slice's spare places count too). A statement '..UptoSaid' is the law's where the arguments, and the package variables that the reading takes, are together of bulk at most 1048576: NARROWER than '..Said'. Prove '..Said' where nothing that the law and all that it calls make is longer than what came in: it says more and counts as full. Else prove '..UptoSaid'. A law counts once. -/
mutual
def uptoBulk {H : Type} : DataW H → Nat
  | .lit (.string bytes) => bytes.length + 1
  | .lit _ => 1
  | .nil => 1
  | .ptr d => uptoBulk d + 1
  | .slice elems spare => uptoBulkAll elems + uptoBulkAll spare + 1
  | .agg parts => uptoBulkAll parts + 1
  | .iface _ d => uptoBulk d + 1
  | .map entries => uptoBulkEntries entries + 1
  | .held _ => 1
def uptoBulkAll {H : Type} : List (DataW H) → Nat
  | [] => 0
  | d :: r => uptoBulk d + uptoBulkAll r
def uptoBulkEntries {H : Type} : List (Lit × DataW H) → Nat
  | [] => 0
  | x :: r => uptoBulkEntry x + uptoBulkEntries r
def uptoBulkEntry {H : Type} : Lit × DataW H → Nat
  | (.string bytes, d) => bytes.length + uptoBulk d + 1
  | (_, d) => uptoBulk d + 1
 end
def uptoSmall : (H : Type) → List (DataW H) → Bool := fun _ ds => decide (uptoBulkAll ds ≤ 1048576)
def OpenSpec.upto (s : _root_.Go.ChangeSpec) : _root_.Go.OpenSpec := { _root_.Go.OpenSpec.ofChange s with cond := some uptoSmall }

/-- 'carryalllaw05.MimeReads', WHERE WHAT IT READS IS OF BULK AT MOST 1048576: true; the input reads as it did. -/
def mimeReadsUptoRow : OpenClaim := { program := "ytlbgcibdpeaomaadoor", sum := "33bf10f1be5b6ba1fcb17b3b767268d063bc9dc72318e8a40e8146259d3b28a3", func := "carryall/carryalllaw05.MimeReads", spec := "mimeReads", inPlace := ["internal/bytealg.IndexByteString", "internal/bytealg.IndexString", "internal/abi.NoEscape"], named := ["unicode/utf8.first", "unicode/utf8.acceptRanges", "internal/bytealg.MaxLen"], apart := false, laid := [("unicode/utf8.acceptRanges", laid_unicode_utf8_acceptRanges), ("unicode/utf8.first", laid_unicode_utf8_first)], narrowed := true }
def MimeReadsUptoSaid : Prop := mimeReadsUptoRow.holds Tryd.pinned (OpenSpec.upto mimeReadsSpec)

/-- 'carryalllaw05.MimeTells', WHERE WHAT IT READS IS OF BULK AT MOST 1048576: true; the input reads as it did. -/
def mimeTellsUptoRow : OpenClaim := { program := "ytlbgcibdpeaomaadoor", sum := "33bf10f1be5b6ba1fcb17b3b767268d063bc9dc72318e8a40e8146259d3b28a3", func := "carryall/carryalllaw05.MimeTells", spec := "mimeTells", inPlace := ["internal/bytealg.IndexByteString", "internal/bytealg.IndexString", "internal/abi.NoEscape"], named := ["unicode/utf8.first", "unicode/utf8.acceptRanges", "internal/bytealg.MaxLen"], apart := false, laid := [("unicode/utf8.acceptRanges", laid_unicode_utf8_acceptRanges), ("unicode/utf8.first", laid_unicode_utf8_first)], narrowed := true }
def MimeTellsUptoSaid : Prop := mimeTellsUptoRow.holds Tryd.pinned (OpenSpec.upto mimeTellsSpec)

/-- 'carryalllaw05.MimeBack', WHERE WHAT IT READS IS OF BULK AT MOST 1048576: true; the input reads as it did. -/
def mimeBackUptoRow : OpenClaim := { program := "ytlbgcibdpeaomaadoor", sum := "33bf10f1be5b6ba1fcb17b3b767268d063bc9dc72318e8a40e8146259d3b28a3", func := "carryall/carryalllaw05.MimeBack", spec := "mimeBack", inPlace := ["internal/bytealg.IndexByteString", "internal/bytealg.IndexString", "internal/abi.NoEscape"], named := ["unicode/utf8.first", "unicode/utf8.acceptRanges", "internal/bytealg.MaxLen"], apart := false, laid := [("unicode/utf8.acceptRanges", laid_unicode_utf8_acceptRanges), ("unicode/utf8.first", laid_unicode_utf8_first)], narrowed := true }
def MimeBackUptoSaid : Prop := mimeBackUptoRow.holds Tryd.pinned (OpenSpec.upto mimeBackSpec)

/-- 'carryalllaw05.MimeSame', WHERE WHAT IT READS IS OF BULK AT MOST 1048576: true; the input reads as it did. -/
def mimeSameUptoRow : OpenClaim := { program := "ytlbgcibdpeaomaadoor", sum := "33bf10f1be5b6ba1fcb17b3b767268d063bc9dc72318e8a40e8146259d3b28a3", func := "carryall/carryalllaw05.MimeSame", spec := "mimeSame", inPlace := ["internal/bytealg.IndexByteString", "internal/bytealg.IndexString", "internal/abi.NoEscape"], named := ["unicode/utf8.first", "unicode/utf8.acceptRanges", "internal/bytealg.MaxLen"], apart := false, laid := [("unicode/utf8.acceptRanges", laid_unicode_utf8_acceptRanges), ("unicode/utf8.first", laid_unicode_utf8_first)], narrowed := true }
def MimeSameUptoSaid : Prop := mimeSameUptoRow.holds Tryd.pinned (OpenSpec.upto mimeSameSpec)

/-- 'carryalllaw05.MimeBlanks', WHERE WHAT IT READS IS OF BULK AT MOST 1048576: true; the input reads as it did. -/
def mimeBlanksUptoRow : OpenClaim := { program := "ytlbgcibdpeaomaadoor", sum := "33bf10f1be5b6ba1fcb17b3b767268d063bc9dc72318e8a40e8146259d3b28a3", func := "carryall/carryalllaw05.MimeBlanks", spec := "mimeBlanks", inPlace := ["internal/bytealg.IndexByteString", "internal/bytealg.IndexString", "internal/abi.NoEscape"], named := ["unicode/utf8.first", "unicode/utf8.acceptRanges", "internal/bytealg.MaxLen"], apart := false, laid := [("unicode/utf8.acceptRanges", laid_unicode_utf8_acceptRanges), ("unicode/utf8.first", laid_unicode_utf8_first)], narrowed := true }
def MimeBlanksUptoSaid : Prop := mimeBlanksUptoRow.holds Tryd.pinned (OpenSpec.upto mimeBlanksSpec)

/-- 'carryalllaw05.MimeTwice', WHERE WHAT IT READS IS OF BULK AT MOST 1048576: true; the input reads as it did. -/
def mimeTwiceUptoRow : OpenClaim := { program := "ytlbgcibdpeaomaadoor", sum := "33bf10f1be5b6ba1fcb17b3b767268d063bc9dc72318e8a40e8146259d3b28a3", func := "carryall/carryalllaw05.MimeTwice", spec := "mimeTwice", inPlace := ["internal/bytealg.IndexByteString", "internal/bytealg.IndexString", "internal/abi.NoEscape"], named := ["unicode/utf8.first", "unicode/utf8.acceptRanges", "internal/bytealg.MaxLen"], apart := false, laid := [("unicode/utf8.acceptRanges", laid_unicode_utf8_acceptRanges), ("unicode/utf8.first", laid_unicode_utf8_first)], narrowed := true }
def MimeTwiceUptoSaid : Prop := mimeTwiceUptoRow.holds Tryd.pinned (OpenSpec.upto mimeTwiceSpec)

end Rows
end Go.Proofs.YtlbgcibdpeaomaaDoor
