/- Texts that belong together: Smz. -/
import Derived.Test.YtmpeaoacaecgpaaGreatDoorWAR
import Derived.Test.YtmpeaoacaecgpaaGreatDoorWAU
set_option linter.unusedSimpArgs false
set_option linter.unusedVariables false
set_option maxRecDepth 100000
set_option maxHeartbeats 64000000
namespace Go.Proofs.YtmpeaoacaecgpaaGreatDoor.Smz
open Go.RowKit Base Base2 cO UrlA Pg ag0 sU PrsP mW tK yx jQ pO vZ WQ akc oN wo UG
theorem aiE {u : U} (hu : u = U0) (A : Option Addr) (n c : Nat) (w : World) (hP : Pt w u A n c) : Calls Tryz.prog 21 #[.agg #[.string (strOf u.au), .string (strOf u.usr), .string (strOf u.pwd), .string (strOf u.hst), .bool u.hh, .int .i64 u.port, .bool u.opq, .string (strOf u.txt), .slice A n c, .bool u.hq, .bool u.hf, .string (strOf u.dY), .string (strOf u.fB)], .agg #[.string ⟨#[]⟩, .string ⟨#[]⟩, .string ⟨#[]⟩, .string ⟨#[]⟩, .bool false, .int .i64 0, .bool false, .string ⟨#[]⟩, .slice none 0 0, .bool false, .bool false, .string ⟨#[]⟩, .string ⟨#[]⟩]] w fun e w' => e = .returned (.bool true) ∧ Below w.heap.size w w' := by
 subst hu
 have h := acT.jW (strOf U0.au) (strOf U0.usr) (strOf U0.pwd) (strOf U0.hst) U0.hh U0.port U0.opq (strOf U0.txt) A n c U0.aO U0.hq U0.hf (strOf U0.dY) (strOf U0.fB) ⟨#[]⟩ ⟨#[]⟩ ⟨#[]⟩ ⟨#[]⟩ false 0 false ⟨#[]⟩ none 0 0 [] false false ⟨#[]⟩ ⟨#[]⟩ w hP.aO.1 hP.aO.2.1 hP.aO.2.2 (aY.nil _) (Nat.le_refl _) (Nat.zero_le _)
 rw [decide_eq_true (show aZ.zn (strOf U0.au) (strOf U0.usr) (strOf U0.pwd) (strOf U0.hst) U0.hh U0.port U0.opq (strOf U0.txt) U0.aO U0.hq U0.hf (strOf U0.dY) (strOf U0.fB) = aZ.zn ⟨#[]⟩ ⟨#[]⟩ ⟨#[]⟩ ⟨#[]⟩ false 0 false ⟨#[]⟩ [] false false ⟨#[]⟩ ⟨#[]⟩ from rfl)] at h
 exact h
end Go.Proofs.YtmpeaoacaecgpaaGreatDoor.Smz
