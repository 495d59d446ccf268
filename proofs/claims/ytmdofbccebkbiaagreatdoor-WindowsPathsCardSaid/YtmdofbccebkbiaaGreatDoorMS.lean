/- Texts that belong together: Ulw, PrsW, Ulx. -/
import Derived.Test.YtmdofbccebkbiaaGreatDoorML
import Derived.Test.YtmdofbccebkbiaaGreatDoorMJ
import Derived.Test.YtmdofbccebkbiaaGreatDoorMK
import Derived.Test.YtmdofbccebkbiaaGreatDoorMA
import Derived.Test.YtmdofbccebkbiaaGreatDoorMR
import Derived.Test.YtmdofbccebkbiaaGreatDoorMP
set_option linter.unusedSimpArgs false
set_option linter.unusedVariables false
set_option maxRecDepth 100000
set_option maxHeartbeats 64000000
namespace Go.Proofs.YtmdofbccebkbiaaGreatDoor.Ulw
open Go.RowKit Base aT iT mY VT Yk wR aI zV zU Ce lI uT L9 Yc rG Ot
structure Env (w : World) : Prop where
 pow : Tab.Pow w
 QG : nP w
 max : Max w
 TR : tK w
theorem Env.below {w w' : World} (h : Env w) (hb : Below w.heap.size w w') : Env w' := ⟨bJ h.pow hb, h.QG.below hb, h.max.below hb, h.TR.below hb⟩
structure Pt (w : World) (u : U) (A : Option Addr) (n c : Nat) : Prop where
 aF : iK w u A n c
theorem Pt.below {w w' : World} {u : U} {A : Option Addr} {n c : Nat} (h : Pt w u A n c) (hb : Below w.heap.size w w') : Pt w' u A n c := ⟨zV.iK.below h.aF hb⟩
theorem dl (s : ByteArray) : s.data.toList.length = s.size := Array.length_toList
theorem BI {T : ByteArray} {u : U} (ho : aI.url T.data.toList none = some u) (hs : T.size ≤ 65536) (w : World) (E : Env w) : Calls Tryz.prog 12 #[.string T, .pointer none] w fun e w' => ∃ A' n' c', e = .returned (.tuple #[.agg #[.string (strOf u.au), .string (strOf u.usr), .string (strOf u.dR), .string (strOf u.hst), .bool u.hh, .int .i64 u.port, .bool u.opq, .string (strOf u.txt), .slice A' n' c', .bool u.hq, .bool u.hf, .string (strOf u.eu), .string (strOf u.fH)], .int .i64 0]) ∧ Pt w' u A' n' c' ∧ Below w.heap.size w w' := by
 have h := BH T.data.toList w (by rw [dl]; exact hs) E.QG E.pow E.max E.TR
 rw [aS, ho] at h
 exact h.mono fun e w' ⟨h1, A, n, c, h2, h3⟩ => ⟨A, n, c, h2, ⟨h3.aF⟩, h1⟩
theorem S9 {T : ByteArray} {u : U} (hu : u = U0) (ho : aI.url T.data.toList none = none) (hs : T.size ≤ 65536) (w : World) (E : Env w) : Calls Tryz.prog 12 #[.string T, .pointer none] w fun e w' => ∃ A' n' c', e = .returned (.tuple #[.agg #[.string (strOf u.au), .string (strOf u.usr), .string (strOf u.dR), .string (strOf u.hst), .bool u.hh, .int .i64 u.port, .bool u.opq, .string (strOf u.txt), .slice A' n' c', .bool u.hq, .bool u.hf, .string (strOf u.eu), .string (strOf u.fH)], .int .i64 2]) ∧ Pt w' u A' n' c' ∧ Below w.heap.size w w' := by
 subst hu
 have h := BH T.data.toList w (by rw [dl]; exact hs) E.QG E.pow E.max E.TR
 rw [aS, ho] at h
 exact h.mono fun e w' ⟨h1, A, n, c, h2, h3⟩ => ⟨A, n, c, h2, ⟨h3.aF⟩, h1⟩
def sameU (u v : U) : Bool := decide (bQ.qZ (strOf u.au) (strOf u.usr) (strOf u.dR) (strOf u.hst) u.hh u.port u.opq (strOf u.txt) u.aF u.hq u.hf (strOf u.eu) (strOf u.fH) = bQ.qZ (strOf v.au) (strOf v.usr) (strOf v.dR) (strOf v.hst) v.hh v.port v.opq (strOf v.txt) v.aF v.hq v.hf (strOf v.eu) (strOf v.fH))
theorem TI (u : U) : sameU u u = true := decide_eq_true rfl
theorem same_u (u v : U) (A A2 : Option Addr) (n c n2 c2 : Nat) (w : World) (hP : Pt w u A n c) (hQ : Pt w v A2 n2 c2) : Calls Tryz.prog 32 #[.agg #[.string (strOf u.au), .string (strOf u.usr), .string (strOf u.dR), .string (strOf u.hst), .bool u.hh, .int .i64 u.port, .bool u.opq, .string (strOf u.txt), .slice A n c, .bool u.hq, .bool u.hf, .string (strOf u.eu), .string (strOf u.fH)], .agg #[.string (strOf v.au), .string (strOf v.usr), .string (strOf v.dR), .string (strOf v.hst), .bool v.hh, .int .i64 v.port, .bool v.opq, .string (strOf v.txt), .slice A2 n2 c2, .bool v.hq, .bool v.hf, .string (strOf v.eu), .string (strOf v.fH)]] w fun e w' => e = .returned (.bool (sameU u v)) ∧ Below w.heap.size w w' :=
 aan _ _ _ _ _ _ _ _ A n c u.aF _ _ _ _ _ _ _ _ _ _ _ _ A2 n2 c2 v.aF _ _ _ _ w hP.aF.1 hP.aF.2.1 hP.aF.2.2 hQ.aF.1 hQ.aF.2.1 hQ.aF.2.2
theorem aap (u : U) (A A2 : Option Addr) (n c n2 c2 : Nat) (w : World) (hP : Pt w u A n c) (hQ : Pt w u A2 n2 c2) : Calls Tryz.prog 32 #[.agg #[.string (strOf u.au), .string (strOf u.usr), .string (strOf u.dR), .string (strOf u.hst), .bool u.hh, .int .i64 u.port, .bool u.opq, .string (strOf u.txt), .slice A n c, .bool u.hq, .bool u.hf, .string (strOf u.eu), .string (strOf u.fH)], .agg #[.string (strOf u.au), .string (strOf u.usr), .string (strOf u.dR), .string (strOf u.hst), .bool u.hh, .int .i64 u.port, .bool u.opq, .string (strOf u.txt), .slice A2 n2 c2, .bool u.hq, .bool u.hf, .string (strOf u.eu), .string (strOf u.fH)]] w fun e w' => e = .returned (.bool true) ∧ Below w.heap.size w w' := by
 have h := same_u u u A A2 n c n2 c2 w hP hQ
 rw [TI] at h
 exact h
theorem Ez {u : U} {N : Nat} (h : Fit u N) (hN : N ≤ 1073741824) : (strOf u.au).size ≤ 1073741824 ∧ (strOf u.usr).size ≤ 1073741824 ∧ (strOf u.dR).size ≤ 1073741824 ∧ (strOf u.hst).size ≤ 1073741824 ∧ (strOf u.txt).size ≤ 1073741824 ∧ (strOf u.eu).size ≤ 1073741824 ∧ (strOf u.fH).size ≤ 1073741824 ∧ (bQ.aF u.aF).length ≤ 1073741824 := by
 have h1 := h.all
 unfold rG.pl at h1
 simp only [ah]
 omega
theorem Vd {u : U} {N : Nat} (hF : Fit u N) (hN : N ≤ 1073741824) (A : Option Addr) (n c : Nat) (w : World) (hP : Pt w u A n c) (E : Env w) : Calls Tryz.prog 31 #[.agg #[.string (strOf u.au), .string (strOf u.usr), .string (strOf u.dR), .string (strOf u.hst), .bool u.hh, .int .i64 u.port, .bool u.opq, .string (strOf u.txt), .slice A n c, .bool u.hq, .bool u.hf, .string (strOf u.eu), .string (strOf u.fH)]] w fun e w' => e = .returned (.string (strOf (kT u))) ∧ Below w.heap.size w w' := by
 obtain ⟨h1, h2, h3, h4, h5, h6, h7, h8⟩ := Ez hF hN
 exact print_any _ _ _ _ _ _ _ _ A n c u.aF _ _ _ _ w hP.aF.1 hP.aF.2.1 hP.aF.2.2 h1 h2 h3 h4 h5 h6 h7 (by have := hF.lo; omega) (by have := hF.hi; omega) h8 E.pow
theorem W9 {u : U} {N : Nat} (h : Fit u N) : (kT u).length ≤ N + 60 := by
 have h1 := h.all
 have hl := h.lo
 have hh := h.hi
 have hp : (bQ.jP u.port).length ≤ 21 := PS u.port (by omega) (by omega)
 have hc : (bQ.lq (strOf u.usr) (strOf u.dR)).length ≤ u.usr.length + u.dR.length + 2 := by
  unfold bQ.lq
  have e1 : (strOf u.usr).data.toList = u.usr := rfl
  have e2 : (strOf u.dR).data.toList = u.dR := rfl
  rw [e1, e2]
  split
  ·split
   ·simp
   ·simp only [List.length_append, List.length_cons, List.length_nil]; omega
  ·simp only [List.length_append, List.length_cons, List.length_nil]; omega
 have hm : (SL u).length ≤ u.usr.length + u.dR.length + u.hst.length + 25 := by
  unfold SL bQ.qV
  have e1 : (strOf u.hst).data.toList = u.hst := rfl
  rw [e1]
  split
  ·simp only [List.length_append, List.length_cons, List.length_nil]; omega
  ·split
   ·simp only [List.length_cons, List.length_nil]; omega
   ·simp
 have hpl : (bQ.qg u.opq (strOf u.txt) u.aF).length ≤ u.txt.length + rG.pl u.aF := by
  unfold bQ.qg rG.pl
  have e1 : (strOf u.txt).data.toList = u.txt := rfl
  rw [e1]
  split <;> omega
 have hq : (if u.hq = true then (63 : UInt8) :: u.eu else []).length ≤ u.eu.length + 1 := by split <;> simp
 have hf : (if u.hf = true then (35 : UInt8) :: u.fH else []).length ≤ u.fH.length + 1 := by split <;> simp
 rw [Le, OD]
 simp only [List.length_append, List.length_cons, List.length_nil]
 omega
end Go.Proofs.YtmdofbccebkbiaaGreatDoor.Ulw
