/- Texts that belong together: Ulw. -/
import Derived.Test.YtcfgioklgmlclaaGreatDoorML
import Derived.Test.YtcfgioklgmlclaaGreatDoorMJ
import Derived.Test.YtcfgioklgmlclaaGreatDoorMK
import Derived.Test.YtcfgioklgmlclaaGreatDoorMA
import Derived.Test.YtcfgioklgmlclaaGreatDoorMR
import Derived.Test.YtcfgioklgmlclaaGreatDoorMP
set_option linter.unusedSimpArgs false
set_option linter.unusedVariables false
set_option maxRecDepth 100000
set_option maxHeartbeats 64000000
namespace Go.Proofs.YtcfgioklgmlclaaGreatDoor.Ulw
open Go.RowKit Base aP fE ng Uu UrlF AA aH tZ AL Em kX Fh J8 PrsR xY Uo
structure Env (w : World) : Prop where
 pow : Tab.Pow w
 lad : pR w
 max : Max w
 Z7 : uw w
theorem Env.below {w w' : World} (h : Env w) (hb : Below w.heap.size w w') : Env w' := ⟨cO h.pow hb, h.lad.below hb, h.max.below hb, h.Z7.below hb⟩
structure Pt (w : World) (u : U) (A : Option Addr) (n c : Nat) : Prop where
 aN : iR w u A n c
theorem Pt.below {w w' : World} {u : U} {A : Option Addr} {n c : Nat} (h : Pt w u A n c) (hb : Below w.heap.size w w') : Pt w' u A n c := ⟨tZ.iR.below h.aN hb⟩
theorem dl (s : ByteArray) : s.data.toList.length = s.size := Array.length_toList
theorem I4 {T : ByteArray} {u : U} (ho : aH.url T.data.toList none = some u) (hs : T.size ≤ 65536) (w : World) (E : Env w) : Calls Tryz.prog 16 #[.string T, .pointer none] w fun e w' => ∃ A' n' c', e = .returned (.tuple #[.agg #[.string (strOf u.aj), .string (strOf u.usr), .string (strOf u.dR), .string (strOf u.hst), .bool u.hh, .int .i64 u.port, .bool u.opq, .string (strOf u.txt), .slice A' n' c', .bool u.hq, .bool u.hf, .string (strOf u.eF), .string (strOf u.fG)], .int .i64 0]) ∧ Pt w' u A' n' c' ∧ Below w.heap.size w w' := by
 have h := IZ T.data.toList w (by rw [dl]; exact hs) E.lad E.pow E.max E.Z7
 rw [ay, ho] at h
 exact h.mono fun e w' ⟨h1, A, n, c, h2, h3⟩ => ⟨A, n, c, h2, ⟨h3.aN⟩, h1⟩
theorem Vq {T : ByteArray} {u : U} (hu : u = U0) (ho : aH.url T.data.toList none = none) (hs : T.size ≤ 65536) (w : World) (E : Env w) : Calls Tryz.prog 16 #[.string T, .pointer none] w fun e w' => ∃ A' n' c', e = .returned (.tuple #[.agg #[.string (strOf u.aj), .string (strOf u.usr), .string (strOf u.dR), .string (strOf u.hst), .bool u.hh, .int .i64 u.port, .bool u.opq, .string (strOf u.txt), .slice A' n' c', .bool u.hq, .bool u.hf, .string (strOf u.eF), .string (strOf u.fG)], .int .i64 2]) ∧ Pt w' u A' n' c' ∧ Below w.heap.size w w' := by
 subst hu
 have h := IZ T.data.toList w (by rw [dl]; exact hs) E.lad E.pow E.max E.Z7
 rw [ay, ho] at h
 exact h.mono fun e w' ⟨h1, A, n, c, h2, h3⟩ => ⟨A, n, c, h2, ⟨h3.aN⟩, h1⟩
end Go.Proofs.YtcfgioklgmlclaaGreatDoor.Ulw
