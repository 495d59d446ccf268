/- Texts that belong together: Ulw, PrsW, Ulx. -/
import Derived.Test.YtmdofbccebkbiaaGreatDoorML
import Derived.Test.YtmdofbccebkbiaaGreatDoorMJ
import Derived.Test.YtmdofbccebkbiaaGreatDoorMK
import Derived.Test.YtmdofbccebkbiaaGreatDoorMA
import Derived.Test.YtmdofbccebkbiaaGreatDoorMR
import Derived.Test.YtmdofbccebkbiaaGreatDoorMP
set_option linter.unusedSimpArgs false
set_option linter.unusedVariables false
namespace Go.Proofs.YtmdofbccebkbiaaGreatDoor.Ulw
open Go.RowKit Base Base2 UtfL UrlA UrlC UrlF HstC PrsP Ubx PrsC PrsD SixG Spl PrsG PrsR PrsV PrsY
structure Env (w : World) : Prop where
 pow : Tab.Pow w
 lad : Lad w
 max : Max w
 utab : Utab w
theorem Env.below {w w' : World} (h : Env w) (hb : Below w.heap.size w w') : Env w' := ⟨pow_below h.pow hb, h.lad.below hb, h.max.below hb, h.utab.below hb⟩
structure Pt (w : World) (u : U) (A : Option Addr) (n c : Nat) : Prop where
 pth : PthIs w u A n c
theorem Pt.below {w w' : World} {u : U} {A : Option Addr} {n c : Nat} (h : Pt w u A n c) (hb : Below w.heap.size w w') : Pt w' u A n c := ⟨Ubx.PthIs.below h.pth hb⟩
theorem dl (s : ByteArray) : s.data.toList.length = s.size := Array.length_toList
theorem parse_some {T : ByteArray} {u : U} (ho : PrsP.url T.data.toList none = some u) (hs : T.size ≤ 65536) (w : World) (E : Env w) : Calls Tryz.prog 12 #[.string T, .pointer none] w fun e w' => ∃ A' n' c', e = .returned (.tuple #[.agg #[.string (strOf u.sch), .string (strOf u.usr), .string (strOf u.pwd), .string (strOf u.hst), .bool u.hh, .int .i64 u.port, .bool u.opq, .string (strOf u.txt), .slice A' n' c', .bool u.hq, .bool u.hf, .string (strOf u.qry), .string (strOf u.frg)], .int .i64 0]) ∧ Pt w' u A' n' c' ∧ Below w.heap.size w w' := by
 have h := parseN_any T.data.toList w (by rw [dl]; exact hs) E.lad E.pow E.max E.utab
 rw [strOf_toList, ho] at h
 exact h.mono fun e w' ⟨h1, A, n, c, h2, h3⟩ => ⟨A, n, c, h2, ⟨h3.pth⟩, h1⟩
theorem parse_none {T : ByteArray} {u : U} (hu : u = U0) (ho : PrsP.url T.data.toList none = none) (hs : T.size ≤ 65536) (w : World) (E : Env w) : Calls Tryz.prog 12 #[.string T, .pointer none] w fun e w' => ∃ A' n' c', e = .returned (.tuple #[.agg #[.string (strOf u.sch), .string (strOf u.usr), .string (strOf u.pwd), .string (strOf u.hst), .bool u.hh, .int .i64 u.port, .bool u.opq, .string (strOf u.txt), .slice A' n' c', .bool u.hq, .bool u.hf, .string (strOf u.qry), .string (strOf u.frg)], .int .i64 2]) ∧ Pt w' u A' n' c' ∧ Below w.heap.size w w' := by
 subst hu
 have h := parseN_any T.data.toList w (by rw [dl]; exact hs) E.lad E.pow E.max E.utab
 rw [strOf_toList, ho] at h
 exact h.mono fun e w' ⟨h1, A, n, c, h2, h3⟩ => ⟨A, n, c, h2, ⟨h3.pth⟩, h1⟩
def sameU (u v : U) : Bool := decide (UrlP.same1 (strOf u.sch) (strOf u.usr) (strOf u.pwd) (strOf u.hst) u.hh u.port u.opq (strOf u.txt) u.pth u.hq u.hf (strOf u.qry) (strOf u.frg) = UrlP.same1 (strOf v.sch) (strOf v.usr) (strOf v.pwd) (strOf v.hst) v.hh v.port v.opq (strOf v.txt) v.pth v.hq v.hf (strOf v.qry) (strOf v.frg))
theorem sameU_self (u : U) : sameU u u = true := decide_eq_true rfl
theorem same_u (u v : U) (A A2 : Option Addr) (n c n2 c2 : Nat) (w : World) (hP : Pt w u A n c) (hQ : Pt w v A2 n2 c2) : Calls Tryz.prog 32 #[.agg #[.string (strOf u.sch), .string (strOf u.usr), .string (strOf u.pwd), .string (strOf u.hst), .bool u.hh, .int .i64 u.port, .bool u.opq, .string (strOf u.txt), .slice A n c, .bool u.hq, .bool u.hf, .string (strOf u.qry), .string (strOf u.frg)], .agg #[.string (strOf v.sch), .string (strOf v.usr), .string (strOf v.pwd), .string (strOf v.hst), .bool v.hh, .int .i64 v.port, .bool v.opq, .string (strOf v.txt), .slice A2 n2 c2, .bool v.hq, .bool v.hf, .string (strOf v.qry), .string (strOf v.frg)]] w fun e w' => e = .returned (.bool (sameU u v)) ∧ Below w.heap.size w w' :=
 same_any _ _ _ _ _ _ _ _ A n c u.pth _ _ _ _ _ _ _ _ _ _ _ _ A2 n2 c2 v.pth _ _ _ _ w hP.pth.1 hP.pth.2.1 hP.pth.2.2 hQ.pth.1 hQ.pth.2.1 hQ.pth.2.2
theorem same_yes (u : U) (A A2 : Option Addr) (n c n2 c2 : Nat) (w : World) (hP : Pt w u A n c) (hQ : Pt w u A2 n2 c2) : Calls Tryz.prog 32 #[.agg #[.string (strOf u.sch), .string (strOf u.usr), .string (strOf u.pwd), .string (strOf u.hst), .bool u.hh, .int .i64 u.port, .bool u.opq, .string (strOf u.txt), .slice A n c, .bool u.hq, .bool u.hf, .string (strOf u.qry), .string (strOf u.frg)], .agg #[.string (strOf u.sch), .string (strOf u.usr), .string (strOf u.pwd), .string (strOf u.hst), .bool u.hh, .int .i64 u.port, .bool u.opq, .string (strOf u.txt), .slice A2 n2 c2, .bool u.hq, .bool u.hf, .string (strOf u.qry), .string (strOf u.frg)]] w fun e w' => e = .returned (.bool true) ∧ Below w.heap.size w w' := by
 have h := same_u u u A A2 n c n2 c2 w hP hQ
 rw [sameU_self] at h
 exact h
theorem fit_sizes {u : U} {N : Nat} (h : Fit u N) (hN : N ≤ 1073741824) : (strOf u.sch).size ≤ 1073741824 ∧ (strOf u.usr).size ≤ 1073741824 ∧ (strOf u.pwd).size ≤ 1073741824 ∧ (strOf u.hst).size ≤ 1073741824 ∧ (strOf u.txt).size ≤ 1073741824 ∧ (strOf u.qry).size ≤ 1073741824 ∧ (strOf u.frg).size ≤ 1073741824 ∧ (UrlP.pth u.pth).length ≤ 1073741824 := by
 have h1 := h.all
 unfold PrsV.pl at h1
 simp only [size_strOf]
 omega
theorem print_len {u : U} {N : Nat} (h : Fit u N) : (printU u).length ≤ N + 60 := by
 have h1 := h.all
 have hl := h.lo
 have hh := h.hi
 have hp : (UrlP.portL u.port).length ≤ 21 := port_len u.port (by omega) (by omega)
 have hc : (UrlP.credL (strOf u.usr) (strOf u.pwd)).length ≤ u.usr.length + u.pwd.length + 2 := by
  unfold UrlP.credL
  have e1 : (strOf u.usr).data.toList = u.usr := rfl
  have e2 : (strOf u.pwd).data.toList = u.pwd := rfl
  rw [e1, e2]
  split
  ·split
   ·simp
   ·simp only [List.length_append, List.length_cons, List.length_nil]; omega
  ·simp only [List.length_append, List.length_cons, List.length_nil]; omega
 have hm : (midB u).length ≤ u.usr.length + u.pwd.length + u.hst.length + 25 := by
  unfold midB UrlP.midL
  have e1 : (strOf u.hst).data.toList = u.hst := rfl
  rw [e1]
  split
  ·simp only [List.length_append, List.length_cons, List.length_nil]; omega
  ·split
   ·simp only [List.length_cons, List.length_nil]; omega
   ·simp
 have hpl : (UrlP.pathL u.opq (strOf u.txt) u.pth).length ≤ u.txt.length + PrsV.pl u.pth := by
  unfold UrlP.pathL PrsV.pl
  have e1 : (strOf u.txt).data.toList = u.txt := rfl
  rw [e1]
  split <;> omega
 have hq : (if u.hq = true then (63 : UInt8) :: u.qry else []).length ≤ u.qry.length + 1 := by split <;> simp
 have hf : (if u.hf = true then (35 : UInt8) :: u.frg else []).length ≤ u.frg.length + 1 := by split <;> simp
 rw [printU_eq, bareU_eq]
 simp only [List.length_append, List.length_cons, List.length_nil]
 omega
end Go.Proofs.YtmdofbccebkbiaaGreatDoor.Ulw
