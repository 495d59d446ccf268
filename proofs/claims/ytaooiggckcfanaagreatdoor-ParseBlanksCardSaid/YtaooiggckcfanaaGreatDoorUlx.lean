/- What the laws over texts' URLs need beside: worlds since a world; paths of a call's own. -/
import Derived.Test.YtaooiggckcfanaaGreatDoorMS
namespace Go.Proofs.YtaooiggckcfanaaGreatDoor.Ulx
open Go.RowKit Go.Proofs.YtaooiggckcfanaaGreatDoor.Base Go.Proofs.YtaooiggckcfanaaGreatDoor.Base2 Go.Proofs.YtaooiggckcfanaaGreatDoor.UtfL Go.Proofs.YtaooiggckcfanaaGreatDoor.UrlA Go.Proofs.YtaooiggckcfanaaGreatDoor.UrlC Go.Proofs.YtaooiggckcfanaaGreatDoor.UrlF Go.Proofs.YtaooiggckcfanaaGreatDoor.HstC Go.Proofs.YtaooiggckcfanaaGreatDoor.PrsP Go.Proofs.YtaooiggckcfanaaGreatDoor.Ubx Go.Proofs.YtaooiggckcfanaaGreatDoor.PrsC Go.Proofs.YtaooiggckcfanaaGreatDoor.PrsD Go.Proofs.YtaooiggckcfanaaGreatDoor.SixG Go.Proofs.YtaooiggckcfanaaGreatDoor.Spl Go.Proofs.YtaooiggckcfanaaGreatDoor.PrsG Go.Proofs.YtaooiggckcfanaaGreatDoor.PrsR Go.Proofs.YtaooiggckcfanaaGreatDoor.PrsS Go.Proofs.YtaooiggckcfanaaGreatDoor.PrsV Go.Proofs.YtaooiggckcfanaaGreatDoor.PrsY Go.Proofs.YtaooiggckcfanaaGreatDoor.Ulw

structure Anc (w0 w : World) : Prop where
  b : Below w0.heap.size w0 w
theorem Anc.below {w0 w w' : World} (h : Anc w0 w) (hb : Below w.heap.size w w') : Anc w0 w' := ⟨bel h.b hb⟩
theorem Anc.refl (w : World) : Anc w w := ⟨Below.refl _ _⟩
structure Ow (w0 w : World) (u : U) (A : Option Addr) (n c : Nat) : Prop where
  own : Own w0 w u A n c
theorem Ow.below {w0 w w' : World} {u : U} {A : Option Addr} {n c : Nat} (h : Ow w0 w u A n c) (hb : Below w.heap.size w w') : Ow w0 w' u A n c := ⟨h.own.below hb⟩
theorem Ow.set {w0 w : World} {u : U} {A : Option Addr} {n c g i : Nat} (h : Ow w0 w u A n c) (hg : g < w0.heap.size) (v : Value) : Ow w0 (w.setCell ⟨g, i, none⟩ v) u A n c := ⟨SixC.owns_other (gb := g) h.own (fun _ hk => heap_setCell_other _ _ _ _ hk) hg⟩
theorem parse_own {T : ByteArray} {u : U} {o : Option U} {z : Int} (ho : PrsP.url T.data.toList none = o) (hu : o.getD U0 = u) (hz : (if o.isSome = true then (0 : Int) else 2) = z) (hs : T.size ≤ 65536) (w : World) (E : Env w) : Calls Tryz.prog 16 #[.string T, .pointer none] w fun e w' => ∃ A' n' c', e = .returned (.tuple #[.agg #[.string (strOf u.sch), .string (strOf u.usr), .string (strOf u.pwd), .string (strOf u.hst), .bool u.hh, .int .i64 u.port, .bool u.opq, .string (strOf u.txt), .slice A' n' c', .bool u.hq, .bool u.hf, .string (strOf u.qry), .string (strOf u.frg)], .int .i64 z]) ∧ Ow w w' u A' n' c' ∧ Below w.heap.size w w' := by
  have h := parseN_any T.data.toList w (by rw [Ulw.dl]; exact hs) E.lad E.pow E.max E.utab
  rw [strOf_toList, ho] at h
  exact h.mono fun e w' ⟨h1, A, n, c, h2, h3⟩ => ⟨A, n, c, by rw [h2, hu, hz]; rfl, ⟨hu ▸ h3⟩, h1⟩
end Go.Proofs.YtaooiggckcfanaaGreatDoor.Ulx
