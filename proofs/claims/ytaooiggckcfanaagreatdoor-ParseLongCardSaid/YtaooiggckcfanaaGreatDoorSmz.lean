/- The document's Same of nothing and nothing. -/
import Derived.Test.YtaooiggckcfanaaGreatDoorMQ
import Derived.Test.YtaooiggckcfanaaGreatDoorMS
namespace Go.Proofs.YtaooiggckcfanaaGreatDoor.Smz
open Go.RowKit Go.Proofs.YtaooiggckcfanaaGreatDoor.Base Go.Proofs.YtaooiggckcfanaaGreatDoor.Base2 Go.Proofs.YtaooiggckcfanaaGreatDoor.UtfL Go.Proofs.YtaooiggckcfanaaGreatDoor.UrlA Go.Proofs.YtaooiggckcfanaaGreatDoor.UrlC Go.Proofs.YtaooiggckcfanaaGreatDoor.UrlF Go.Proofs.YtaooiggckcfanaaGreatDoor.HstC Go.Proofs.YtaooiggckcfanaaGreatDoor.PrsP Go.Proofs.YtaooiggckcfanaaGreatDoor.Ubx Go.Proofs.YtaooiggckcfanaaGreatDoor.PrsC Go.Proofs.YtaooiggckcfanaaGreatDoor.PrsD Go.Proofs.YtaooiggckcfanaaGreatDoor.SixG Go.Proofs.YtaooiggckcfanaaGreatDoor.Spl Go.Proofs.YtaooiggckcfanaaGreatDoor.PrsG Go.Proofs.YtaooiggckcfanaaGreatDoor.PrsR Go.Proofs.YtaooiggckcfanaaGreatDoor.PrsS Go.Proofs.YtaooiggckcfanaaGreatDoor.PrsV Go.Proofs.YtaooiggckcfanaaGreatDoor.PrsY Go.Proofs.YtaooiggckcfanaaGreatDoor.Ulw

theorem same_zero {u : U} (hu : u = U0) (A : Option Addr) (n c : Nat) (w : World) (hP : Pt w u A n c) : Calls Tryz.prog 21 #[.agg #[.string (strOf u.sch), .string (strOf u.usr), .string (strOf u.pwd), .string (strOf u.hst), .bool u.hh, .int .i64 u.port, .bool u.opq, .string (strOf u.txt), .slice A n c, .bool u.hq, .bool u.hf, .string (strOf u.qry), .string (strOf u.frg)], .agg #[.string ⟨#[]⟩, .string ⟨#[]⟩, .string ⟨#[]⟩, .string ⟨#[]⟩, .bool false, .int .i64 0, .bool false, .string ⟨#[]⟩, .slice none 0 0, .bool false, .bool false, .string ⟨#[]⟩, .string ⟨#[]⟩]] w fun e w' => e = .returned (.bool true) ∧ Below w.heap.size w w' := by
  subst hu
  have h := UrlG.refSame_any (strOf U0.sch) (strOf U0.usr) (strOf U0.pwd) (strOf U0.hst) U0.hh U0.port U0.opq (strOf U0.txt) A n c U0.pth U0.hq U0.hf (strOf U0.qry) (strOf U0.frg) ⟨#[]⟩ ⟨#[]⟩ ⟨#[]⟩ ⟨#[]⟩ false 0 false ⟨#[]⟩ none 0 0 [] false false ⟨#[]⟩ ⟨#[]⟩ w hP.pth.1 hP.pth.2.1 hP.pth.2.2 (Rds.nil _) (Nat.le_refl _) (Nat.zero_le _)
  rw [decide_eq_true (show UrlP.same1 (strOf U0.sch) (strOf U0.usr) (strOf U0.pwd) (strOf U0.hst) U0.hh U0.port U0.opq (strOf U0.txt) U0.pth U0.hq U0.hf (strOf U0.qry) (strOf U0.frg) = UrlP.same1 ⟨#[]⟩ ⟨#[]⟩ ⟨#[]⟩ ⟨#[]⟩ false 0 false ⟨#[]⟩ [] false false ⟨#[]⟩ ⟨#[]⟩ from rfl)] at h
  exact h
end Go.Proofs.YtaooiggckcfanaaGreatDoor.Smz
