/-
  No cell of these rows narrows 'for every input' (looked for: loops, veiled, ifaces, maps, wideKeys, modest, calm, conditions, laid).
  DERIVED. THE GIVEN ROWS OF THIS SEAT. 10 by the template 'for every input the law returns true; each argument reads behind the call as it read before'; 0 by the template 'total and deterministic' (their statements: YtdgdmlchegjejaaTotals.lean).
  GIVEN WITH THE SEED: the statements are not yours to turn. If you find one false, say at which input.
  Laid BY PROGRAM, IN A SANDBOX (cutbox-rows.mjs): the forced cells as the released guide's own fill.sh prints them over the translation 87c886569543b53c… (all of the seat's roots in one cut). By AI agents, Wed Nov 11 2026. No macro, syntax, notation, axiom, sorry.
-/
import Derived.Test.YtdgdmlchegjejaaChecked
import GoSem.Claim
import GoSem.ClaimJoined
import GoSem.ClaimMapViews
import Derived.JoinedTies
import Derived.KernelRfl
namespace Go.Proofs.Ytdgdmlchegjejaa
/- THE CELL 'sum', in the pinned program and in every row, IS THE sha256 OF THE DUMP (.gsa) THAT YtdgdmlchegjejaaProg.lean LOADS. Nothing in Lean hashes anything: it is a label: what it is worth is what the hold of that sum in a sandbox is worth. -/
noncomputable def Try.pinned : Pinned := { name := "ytdgdmlchegjejaa", sum := "87c886569543b53c6e6a5569835a726610d00bf2d4235b559333af40d62e4bfb", checked := Try.checked }
namespace Rows
def none {H : Type} : Left H := { results := [], args := [] }

/-- 'carryalllaw19.BlobSlices': WHATEVER THE INPUT: true; the input reads as it did. -/
def blobSlicesSpec : ChangeSpec := { name := "blobSlices", fn := fun _ => fun
  | [d1, d2, d3, d4, d5, d6, d7] => { results := [.lit (.bool true)], args := [d1, d2, d3, d4, d5, d6, d7] }
  | _ => none }
def blobSlicesRow : OpenClaim := { program := "ytdgdmlchegjejaa", sum := "87c886569543b53c6e6a5569835a726610d00bf2d4235b559333af40d62e4bfb", func := "carryall/carryalllaw19.BlobSlices", spec := "blobSlices", apart := false }
def BlobSlicesSaid : Prop := blobSlicesRow.holds Try.pinned (OpenSpec.ofChange blobSlicesSpec)

/-- ITS FALSE NEIGHBOUR: 'it returns false'. Refute it at one input. -/
def blobSlicesWrong : ChangeSpec := { name := "blobSlices", fn := fun _ => fun
  | [d1, d2, d3, d4, d5, d6, d7] => { results := [.lit (.bool false)], args := [d1, d2, d3, d4, d5, d6, d7] }
  | _ => none }
def BlobSlicesWrongFalsely : Prop := blobSlicesRow.holds Try.pinned (OpenSpec.ofChange blobSlicesWrong)

/-- 'carryalllaw19.BlobStays': WHATEVER THE INPUT: true; the input reads as it did. -/
def blobStaysSpec : ChangeSpec := { name := "blobStays", fn := fun _ => fun
  | [d] => { results := [.lit (.bool true)], args := [d] }
  | _ => none }
def blobStaysRow : OpenClaim := { program := "ytdgdmlchegjejaa", sum := "87c886569543b53c6e6a5569835a726610d00bf2d4235b559333af40d62e4bfb", func := "carryall/carryalllaw19.BlobStays", spec := "blobStays", apart := false }
def BlobStaysSaid : Prop := blobStaysRow.holds Try.pinned (OpenSpec.ofChange blobStaysSpec)

/-- ITS FALSE NEIGHBOUR: 'it returns false'. Refute it at one input. -/
def blobStaysWrong : ChangeSpec := { name := "blobStays", fn := fun _ => fun
  | [d] => { results := [.lit (.bool false)], args := [d] }
  | _ => none }
def BlobStaysWrongFalsely : Prop := blobStaysRow.holds Try.pinned (OpenSpec.ofChange blobStaysWrong)

/-- 'carryalllaw19.BlobParts': WHATEVER THE INPUT: true; the input reads as it did. -/
def blobPartsSpec : ChangeSpec := { name := "blobParts", fn := fun _ => fun
  | [d1, d2] => { results := [.lit (.bool true)], args := [d1, d2] }
  | _ => none }
def blobPartsRow : OpenClaim := { program := "ytdgdmlchegjejaa", sum := "87c886569543b53c6e6a5569835a726610d00bf2d4235b559333af40d62e4bfb", func := "carryall/carryalllaw19.BlobParts", spec := "blobParts", apart := false }
def BlobPartsSaid : Prop := blobPartsRow.holds Try.pinned (OpenSpec.ofChange blobPartsSpec)

/-- ITS FALSE NEIGHBOUR: 'it returns false'. Refute it at one input. -/
def blobPartsWrong : ChangeSpec := { name := "blobParts", fn := fun _ => fun
  | [d1, d2] => { results := [.lit (.bool false)], args := [d1, d2] }
  | _ => none }
def BlobPartsWrongFalsely : Prop := blobPartsRow.holds Try.pinned (OpenSpec.ofChange blobPartsWrong)

/-- 'carryalllaw19.BlobNil': WHATEVER THE INPUT: true; the input reads as it did. -/
def blobNilSpec : ChangeSpec := { name := "blobNil", fn := fun _ => fun
  | [d] => { results := [.lit (.bool true)], args := [d] }
  | _ => none }
def blobNilRow : OpenClaim := { program := "ytdgdmlchegjejaa", sum := "87c886569543b53c6e6a5569835a726610d00bf2d4235b559333af40d62e4bfb", func := "carryall/carryalllaw19.BlobNil", spec := "blobNil", apart := false }
def BlobNilSaid : Prop := blobNilRow.holds Try.pinned (OpenSpec.ofChange blobNilSpec)

/-- ITS FALSE NEIGHBOUR: 'it returns false'. Refute it at one input. -/
def blobNilWrong : ChangeSpec := { name := "blobNil", fn := fun _ => fun
  | [d] => { results := [.lit (.bool false)], args := [d] }
  | _ => none }
def BlobNilWrongFalsely : Prop := blobNilRow.holds Try.pinned (OpenSpec.ofChange blobNilWrong)

/-- 'carryalllaw19.BlobTwice': WHATEVER THE INPUT: true; the input reads as it did. -/
def blobTwiceSpec : ChangeSpec := { name := "blobTwice", fn := fun _ => fun
  | [d1, d2, d3, d4, d5] => { results := [.lit (.bool true)], args := [d1, d2, d3, d4, d5] }
  | _ => none }
def blobTwiceRow : OpenClaim := { program := "ytdgdmlchegjejaa", sum := "87c886569543b53c6e6a5569835a726610d00bf2d4235b559333af40d62e4bfb", func := "carryall/carryalllaw19.BlobTwice", spec := "blobTwice", apart := false }
def BlobTwiceSaid : Prop := blobTwiceRow.holds Try.pinned (OpenSpec.ofChange blobTwiceSpec)

/-- ITS FALSE NEIGHBOUR: 'it returns false'. Refute it at one input. -/
def blobTwiceWrong : ChangeSpec := { name := "blobTwice", fn := fun _ => fun
  | [d1, d2, d3, d4, d5] => { results := [.lit (.bool false)], args := [d1, d2, d3, d4, d5] }
  | _ => none }
def BlobTwiceWrongFalsely : Prop := blobTwiceRow.holds Try.pinned (OpenSpec.ofChange blobTwiceWrong)

/-- 'carryalllaw21.IdentNames': WHATEVER THE INPUT: true; the input reads as it did. -/
def identNamesSpec : ChangeSpec := { name := "identNames", fn := fun _ => fun
  | [d1, d2] => { results := [.lit (.bool true)], args := [d1, d2] }
  | _ => none }
def identNamesRow : OpenClaim := { program := "ytdgdmlchegjejaa", sum := "87c886569543b53c6e6a5569835a726610d00bf2d4235b559333af40d62e4bfb", func := "carryall/carryalllaw21.IdentNames", spec := "identNames", apart := false }
def IdentNamesSaid : Prop := identNamesRow.holds Try.pinned (OpenSpec.ofChange identNamesSpec)

/-- ITS FALSE NEIGHBOUR: 'it returns false'. Refute it at one input. -/
def identNamesWrong : ChangeSpec := { name := "identNames", fn := fun _ => fun
  | [d1, d2] => { results := [.lit (.bool false)], args := [d1, d2] }
  | _ => none }
def IdentNamesWrongFalsely : Prop := identNamesRow.holds Try.pinned (OpenSpec.ofChange identNamesWrong)

/-- 'carryalllaw21.IdentApart': WHATEVER THE INPUT: true; the input reads as it did. -/
def identApartSpec : ChangeSpec := { name := "identApart", fn := fun _ => fun
  | [d1, d2] => { results := [.lit (.bool true)], args := [d1, d2] }
  | _ => none }
def identApartRow : OpenClaim := { program := "ytdgdmlchegjejaa", sum := "87c886569543b53c6e6a5569835a726610d00bf2d4235b559333af40d62e4bfb", func := "carryall/carryalllaw21.IdentApart", spec := "identApart", apart := false }
def IdentApartSaid : Prop := identApartRow.holds Try.pinned (OpenSpec.ofChange identApartSpec)

/-- ITS FALSE NEIGHBOUR: 'it returns false'. Refute it at one input. -/
def identApartWrong : ChangeSpec := { name := "identApart", fn := fun _ => fun
  | [d1, d2] => { results := [.lit (.bool false)], args := [d1, d2] }
  | _ => none }
def IdentApartWrongFalsely : Prop := identApartRow.holds Try.pinned (OpenSpec.ofChange identApartWrong)

/-- 'carryalllaw21.IdentCase': WHATEVER THE INPUT: true; the input reads as it did. -/
def identCaseSpec : ChangeSpec := { name := "identCase", fn := fun _ => fun
  | [d1, d2, d3] => { results := [.lit (.bool true)], args := [d1, d2, d3] }
  | _ => none }
def identCaseRow : OpenClaim := { program := "ytdgdmlchegjejaa", sum := "87c886569543b53c6e6a5569835a726610d00bf2d4235b559333af40d62e4bfb", func := "carryall/carryalllaw21.IdentCase", spec := "identCase", apart := false }
def IdentCaseSaid : Prop := identCaseRow.holds Try.pinned (OpenSpec.ofChange identCaseSpec)

/-- ITS FALSE NEIGHBOUR: 'it returns false'. Refute it at one input. -/
def identCaseWrong : ChangeSpec := { name := "identCase", fn := fun _ => fun
  | [d1, d2, d3] => { results := [.lit (.bool false)], args := [d1, d2, d3] }
  | _ => none }
def IdentCaseWrongFalsely : Prop := identCaseRow.holds Try.pinned (OpenSpec.ofChange identCaseWrong)

/-- 'carryalllaw22.TableNil': WHATEVER THE INPUT: true; the input reads as it did. -/
def tableNilSpec : ChangeSpec := { name := "tableNil", fn := fun _ => fun
  | [d1, d2] => { results := [.lit (.bool true)], args := [d1, d2] }
  | _ => none }
def tableNilRow : OpenClaim := { program := "ytdgdmlchegjejaa", sum := "87c886569543b53c6e6a5569835a726610d00bf2d4235b559333af40d62e4bfb", func := "carryall/carryalllaw22.TableNil", spec := "tableNil", unfollowed := true, recurses := true, apart := false }
def TableNilSaid : Prop := tableNilRow.holds Try.pinned (OpenSpec.ofChange tableNilSpec)

/-- ITS FALSE NEIGHBOUR: 'it returns false'. Refute it at one input. -/
def tableNilWrong : ChangeSpec := { name := "tableNil", fn := fun _ => fun
  | [d1, d2] => { results := [.lit (.bool false)], args := [d1, d2] }
  | _ => none }
def TableNilWrongFalsely : Prop := tableNilRow.holds Try.pinned (OpenSpec.ofChange tableNilWrong)

/-- 'carryalllaw23.MailNil': WHATEVER THE INPUT: true; the input reads as it did. -/
def mailNilSpec : ChangeSpec := { name := "mailNil", fn := fun _ => fun
  | [d1, d2] => { results := [.lit (.bool true)], args := [d1, d2] }
  | _ => none }
def mailNilRow : OpenClaim := { program := "ytdgdmlchegjejaa", sum := "87c886569543b53c6e6a5569835a726610d00bf2d4235b559333af40d62e4bfb", func := "carryall/carryalllaw23.MailNil", spec := "mailNil", apart := false }
def MailNilSaid : Prop := mailNilRow.holds Try.pinned (OpenSpec.ofChange mailNilSpec)

/-- ITS FALSE NEIGHBOUR: 'it returns false'. Refute it at one input. -/
def mailNilWrong : ChangeSpec := { name := "mailNil", fn := fun _ => fun
  | [d1, d2] => { results := [.lit (.bool false)], args := [d1, d2] }
  | _ => none }
def MailNilWrongFalsely : Prop := mailNilRow.holds Try.pinned (OpenSpec.ofChange mailNilWrong)

/- THE SECOND FORM. 'bulk': how many values and letters a reading holds, each counted each time it is reached (what is shared counts as often as it is met; a slice's spare places count too). A statement '..UptoSaid' is the law's where the arguments, and the package variables that the reading takes, are together of bulk at most 1048576: NARROWER than '..Said'. Prove '..Said' where nothing that the law and all that it calls make is longer than what came in: it says more and counts as full. Else prove '..UptoSaid'. A law counts once. -/
mutual
def uptoBulk {H : Type} : DataW H → Nat
  | .lit (.string bytes) => bytes.length + 1
  | .lit _ => 1
  | .nil => 1
  | .ptr d => uptoBulk d + 1
  | .slice elems spare => uptoBulkAll elems + uptoBulkAll spare + 1
  | .agg parts => uptoBulkAll parts + 1
  | .iface _ d => uptoBulk d + 1
  | .map entries => uptoBulkEntries entries + 1
  | .held _ => 1
def uptoBulkAll {H : Type} : List (DataW H) → Nat
  | [] => 0
  | d :: r => uptoBulk d + uptoBulkAll r
def uptoBulkEntries {H : Type} : List (Lit × DataW H) → Nat
  | [] => 0
  | x :: r => uptoBulkEntry x + uptoBulkEntries r
def uptoBulkEntry {H : Type} : Lit × DataW H → Nat
  | (.string bytes, d) => bytes.length + uptoBulk d + 1
  | (_, d) => uptoBulk d + 1
 end
def uptoSmall : (H : Type) → List (DataW H) → Bool := fun _ ds => decide (uptoBulkAll ds ≤ 1048576)
def OpenSpec.upto (s : _root_.Go.ChangeSpec) : _root_.Go.OpenSpec := { _root_.Go.OpenSpec.ofChange s with cond := some uptoSmall }

/-- 'carryalllaw19.BlobSlices', WHERE WHAT IT READS IS OF BULK AT MOST 1048576: true; the input reads as it did. -/
def blobSlicesUptoRow : OpenClaim := { program := "ytdgdmlchegjejaa", sum := "87c886569543b53c6e6a5569835a726610d00bf2d4235b559333af40d62e4bfb", func := "carryall/carryalllaw19.BlobSlices", spec := "blobSlices", apart := false, narrowed := true }
def BlobSlicesUptoSaid : Prop := blobSlicesUptoRow.holds Try.pinned (OpenSpec.upto blobSlicesSpec)

/-- 'carryalllaw19.BlobStays', WHERE WHAT IT READS IS OF BULK AT MOST 1048576: true; the input reads as it did. -/
def blobStaysUptoRow : OpenClaim := { program := "ytdgdmlchegjejaa", sum := "87c886569543b53c6e6a5569835a726610d00bf2d4235b559333af40d62e4bfb", func := "carryall/carryalllaw19.BlobStays", spec := "blobStays", apart := false, narrowed := true }
def BlobStaysUptoSaid : Prop := blobStaysUptoRow.holds Try.pinned (OpenSpec.upto blobStaysSpec)

/-- 'carryalllaw19.BlobParts', WHERE WHAT IT READS IS OF BULK AT MOST 1048576: true; the input reads as it did. -/
def blobPartsUptoRow : OpenClaim := { program := "ytdgdmlchegjejaa", sum := "87c886569543b53c6e6a5569835a726610d00bf2d4235b559333af40d62e4bfb", func := "carryall/carryalllaw19.BlobParts", spec := "blobParts", apart := false, narrowed := true }
def BlobPartsUptoSaid : Prop := blobPartsUptoRow.holds Try.pinned (OpenSpec.upto blobPartsSpec)

/-- 'carryalllaw19.BlobNil', WHERE WHAT IT READS IS OF BULK AT MOST 1048576: true; the input reads as it did. -/
def blobNilUptoRow : OpenClaim := { program := "ytdgdmlchegjejaa", sum := "87c886569543b53c6e6a5569835a726610d00bf2d4235b559333af40d62e4bfb", func := "carryall/carryalllaw19.BlobNil", spec := "blobNil", apart := false, narrowed := true }
def BlobNilUptoSaid : Prop := blobNilUptoRow.holds Try.pinned (OpenSpec.upto blobNilSpec)

/-- 'carryalllaw19.BlobTwice', WHERE WHAT IT READS IS OF BULK AT MOST 1048576: true; the input reads as it did. -/
def blobTwiceUptoRow : OpenClaim := { program := "ytdgdmlchegjejaa", sum := "87c886569543b53c6e6a5569835a726610d00bf2d4235b559333af40d62e4bfb", func := "carryall/carryalllaw19.BlobTwice", spec := "blobTwice", apart := false, narrowed := true }
def BlobTwiceUptoSaid : Prop := blobTwiceUptoRow.holds Try.pinned (OpenSpec.upto blobTwiceSpec)

/-- 'carryalllaw21.IdentNames', WHERE WHAT IT READS IS OF BULK AT MOST 1048576: true; the input reads as it did. -/
def identNamesUptoRow : OpenClaim := { program := "ytdgdmlchegjejaa", sum := "87c886569543b53c6e6a5569835a726610d00bf2d4235b559333af40d62e4bfb", func := "carryall/carryalllaw21.IdentNames", spec := "identNames", apart := false, narrowed := true }
def IdentNamesUptoSaid : Prop := identNamesUptoRow.holds Try.pinned (OpenSpec.upto identNamesSpec)

/-- 'carryalllaw21.IdentApart', WHERE WHAT IT READS IS OF BULK AT MOST 1048576: true; the input reads as it did. -/
def identApartUptoRow : OpenClaim := { program := "ytdgdmlchegjejaa", sum := "87c886569543b53c6e6a5569835a726610d00bf2d4235b559333af40d62e4bfb", func := "carryall/carryalllaw21.IdentApart", spec := "identApart", apart := false, narrowed := true }
def IdentApartUptoSaid : Prop := identApartUptoRow.holds Try.pinned (OpenSpec.upto identApartSpec)

/-- 'carryalllaw21.IdentCase', WHERE WHAT IT READS IS OF BULK AT MOST 1048576: true; the input reads as it did. -/
def identCaseUptoRow : OpenClaim := { program := "ytdgdmlchegjejaa", sum := "87c886569543b53c6e6a5569835a726610d00bf2d4235b559333af40d62e4bfb", func := "carryall/carryalllaw21.IdentCase", spec := "identCase", apart := false, narrowed := true }
def IdentCaseUptoSaid : Prop := identCaseUptoRow.holds Try.pinned (OpenSpec.upto identCaseSpec)

/-- 'carryalllaw22.TableNil', WHERE WHAT IT READS IS OF BULK AT MOST 1048576: true; the input reads as it did. -/
def tableNilUptoRow : OpenClaim := { program := "ytdgdmlchegjejaa", sum := "87c886569543b53c6e6a5569835a726610d00bf2d4235b559333af40d62e4bfb", func := "carryall/carryalllaw22.TableNil", spec := "tableNil", unfollowed := true, recurses := true, apart := false, narrowed := true }
def TableNilUptoSaid : Prop := tableNilUptoRow.holds Try.pinned (OpenSpec.upto tableNilSpec)

/-- 'carryalllaw23.MailNil', WHERE WHAT IT READS IS OF BULK AT MOST 1048576: true; the input reads as it did. -/
def mailNilUptoRow : OpenClaim := { program := "ytdgdmlchegjejaa", sum := "87c886569543b53c6e6a5569835a726610d00bf2d4235b559333af40d62e4bfb", func := "carryall/carryalllaw23.MailNil", spec := "mailNil", apart := false, narrowed := true }
def MailNilUptoSaid : Prop := mailNilUptoRow.holds Try.pinned (OpenSpec.upto mailNilSpec)

end Rows
end Go.Proofs.Ytdgdmlchegjejaa
