/- Texts that belong together: Smz. -/
import Derived.Test.YtcfgioklgmlclaaGreatDoorMQ
import Derived.Test.YtcfgioklgmlclaaGreatDoorMS
set_option linter.unusedSimpArgs false
set_option linter.unusedVariables false
set_option maxRecDepth 100000
set_option maxHeartbeats 64000000
namespace Go.Proofs.YtcfgioklgmlclaaGreatDoor.Smz
open Go.RowKit Base aP fE ng Uu UrlF AA aH tZ AL Em kX Fh J8 PrsR xY Uo Ulw
theorem ZK {u : U} (hu : u = U0) (A : Option Addr) (n c : Nat) (w : World) (hP : Pt w u A n c) : Calls Tryz.prog 17 #[.agg #[.string (strOf u.aj), .string (strOf u.usr), .string (strOf u.dR), .string (strOf u.hst), .bool u.hh, .int .i64 u.port, .bool u.opq, .string (strOf u.txt), .slice A n c, .bool u.hq, .bool u.hf, .string (strOf u.eF), .string (strOf u.fG)], .agg #[.string ⟨#[]⟩, .string ⟨#[]⟩, .string ⟨#[]⟩, .string ⟨#[]⟩, .bool false, .int .i64 0, .bool false, .string ⟨#[]⟩, .slice none 0 0, .bool false, .bool false, .string ⟨#[]⟩, .string ⟨#[]⟩]] w fun e w' => e = .returned (.bool true) ∧ Below w.heap.size w w' := by
 subst hu
 have h := UrlG.yS (strOf U0.aj) (strOf U0.usr) (strOf U0.dR) (strOf U0.hst) U0.hh U0.port U0.opq (strOf U0.txt) A n c U0.aN U0.hq U0.hf (strOf U0.eF) (strOf U0.fG) ⟨#[]⟩ ⟨#[]⟩ ⟨#[]⟩ ⟨#[]⟩ false 0 false ⟨#[]⟩ none 0 0 [] false false ⟨#[]⟩ ⟨#[]⟩ w hP.aN.1 hP.aN.2.1 hP.aN.2.2 (dS.nil _) (Nat.le_refl _) (Nat.zero_le _)
 rw [decide_eq_true (show dD.vG (strOf U0.aj) (strOf U0.usr) (strOf U0.dR) (strOf U0.hst) U0.hh U0.port U0.opq (strOf U0.txt) U0.aN U0.hq U0.hf (strOf U0.eF) (strOf U0.fG) = dD.vG ⟨#[]⟩ ⟨#[]⟩ ⟨#[]⟩ ⟨#[]⟩ false 0 false ⟨#[]⟩ [] false false ⟨#[]⟩ ⟨#[]⟩ from rfl)] at h
 exact h
end Go.Proofs.YtcfgioklgmlclaaGreatDoor.Smz
