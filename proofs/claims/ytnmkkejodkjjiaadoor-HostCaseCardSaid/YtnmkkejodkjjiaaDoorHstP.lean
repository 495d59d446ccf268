/- Hosts, plain: which bytes may not stand in one, and which host a text is. -/
import Derived.Test.YtnmkkejodkjjiaaDoorSixL
import Derived.Test.YtnmkkejodkjjiaaDoorQudI
import Derived.Test.YtnmkkejodkjjiaaDoorEscD
import Derived.Test.YtnmkkejodkjjiaaDoorEscE
import Derived.Test.YtnmkkejodkjjiaaDoorUtfL
namespace Go.Proofs.YtnmkkejodkjjiaaDoor.HstP
open Go.RowKit Go.Proofs.YtnmkkejodkjjiaaDoor.Base Go.Proofs.YtnmkkejodkjjiaaDoor.UtfL Go.Proofs.YtnmkkejodkjjiaaDoor.QudP Go.Proofs.YtnmkkejodkjjiaaDoor.SixP Go.Proofs.YtnmkkejodkjjiaaDoor.SixH

def FRB : List UInt8 := [0, 9, 10, 13, 32, 35, 47, 58, 60, 62, 63, 64, 91, 92, 93, 94, 124]
def frb (c : UInt8) : Bool := FRB.contains c
def fbd (d : Bool) (c : UInt8) : Bool := frb c || (d && (decide (c.toNat < 32) || (c == 127 || c == 37)))
theorem fbd_false (c : UInt8) : fbd false c = frb c := by simp [fbd]
/-- May all of a text's bytes stand there? -/
def okb (d : Bool) (c : UInt8) : Bool := !(fbd d c) && (!d || decide (c.toNat ≤ 126))
def oks (d : Bool) (L : List UInt8) : Bool := L.all (okb d)
def prtL (V : List Nat) : List UInt8 := SixI.prt fun i => V.getD i 0
/-- The host in brackets, of what stands between them. -/
def addr (M : List UInt8) : Option (List UInt8) := match six M with
  | none => none
  | some V => some (91 :: (prtL V ++ [93]))
def hbr (M : List UInt8) : Option (List UInt8) := if Lib.hasSuffix M [93] = true then addr (Lib.trimSuffix M [93]) else none
def dm2 (M : List UInt8) : Option (List UInt8) := if M = [] then none else if ends M = true then (prs M).map QudG.pr else some M
def dmn (L : List UInt8) : Option (List UInt8) := if oks true L = true then dm2 (lower L) else none
def plc (s : List UInt8) : Option (List UInt8) := if oks false s = true then some (EscE.enc 0 s) else none
def hst (s : List UInt8) (sp : Bool) : Option (List UInt8) := if s.head? = some 91 then hbr s.tail else if sp = true then dmn (EscD.dec s) else plc s
def HV (o : Option (List UInt8)) : Value := match o with
  | none => .tuple #[.string (strOf []), .bool false]
  | some L => .tuple #[.string (strOf L), .bool true]
theorem hv_none {o : Option (List UInt8)} (h : o = none) : HV o = .tuple #[.string (strOf []), .bool false] := by rw [h]; rfl
theorem hv_some {o : Option (List UInt8)} {L : List UInt8} (h : o = some L) : HV o = .tuple #[.string (strOf L), .bool true] := by rw [h]; rfl
theorem frb_index (c : UInt8) : decide (0 ≤ Lib.indexByte FRB c) = frb c := by
  have H : ∀ n : Fin 256, decide (0 ≤ Lib.indexByte FRB (UInt8.ofNat n.val)) = frb (UInt8.ofNat n.val) := by decide +kernel
  have := H ⟨c.toNat, c.toNat_lt⟩
  simpa using this
theorem okb_false (c : UInt8) : okb false c = !(frb c) := by simp [okb, fbd]
theorem okb_true (c : UInt8) : okb true c = (!(fbd true c) && decide (c.toNat ≤ 126)) := by simp [okb]
theorem frb_cases (c : UInt8) (h : frb c = true) : c = 0 ∨ c = 9 ∨ c = 10 ∨ c = 13 ∨ c = 32 ∨ c = 35 ∨ c = 47 ∨ c = 58 ∨ c = 60 ∨ c = 62 ∨ c = 63 ∨ c = 64 ∨ c = 91 ∨ c = 92 ∨ c = 93 ∨ c = 94 ∨ c = 124 := by
  unfold frb FRB at h
  simpa using h
theorem frb_nots (c : UInt8) (h : frb c = false) (k : UInt8) (hk : frb k = true) : ((c.toNat : Int) == (k.toNat : Int)) = false := by
  rw [beq_eq_false_iff_ne]
  intro e
  have : c = k := UInt8.toNat_inj.1 (by omega)
  rw [this, hk] at h
  cases h
/-- A small letter may stand just where its capital may. -/
theorem okb_low (c : UInt8) : okb true (low c) = okb true c := by
  have H : ∀ n : Fin 256, okb true (low (UInt8.ofNat n.val)) = okb true (UInt8.ofNat n.val) := by decide +kernel
  have := H ⟨c.toNat, c.toNat_lt⟩
  simpa using this
theorem oks_lower (L : List UInt8) : oks true (lower L) = oks true L := by
  unfold oks lower
  rw [List.all_map]
  congr 1
  funext c
  exact okb_low c
theorem oks_take_succ (d : Bool) (L : List UInt8) (k : Nat) (h : k < L.length) : oks d (L.take (k + 1)) = (oks d (L.take k) && okb d L[k]) := by
  unfold oks
  rw [List.take_succ_eq_append_getElem h, List.all_append]
  simp
theorem oks_no (d : Bool) (L : List UInt8) (k : Nat) (h : k < L.length) (hn : okb d L[k] = false) : oks d L = false := by
  unfold oks
  rw [List.all_eq_false]
  exact ⟨L[k], List.getElem_mem h, by rw [hn]; exact Bool.false_ne_true⟩
end Go.Proofs.YtnmkkejodkjjiaaDoor.HstP
