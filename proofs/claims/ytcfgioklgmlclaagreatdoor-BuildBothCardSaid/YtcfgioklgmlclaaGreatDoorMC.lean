/- Texts that belong together: SixD, SixE, SixF, aaW, SixM. -/
import Derived.Test.YtcfgioklgmlclaaGreatDoorMB
import Derived.Test.YtcfgioklgmlclaaGreatDoorMA
import Derived.Deep.DeepCutAuto
import Derived.Deep.CutBlock
set_option linter.unusedSimpArgs false
set_option linter.unusedVariables false
set_option maxRecDepth 100000
set_option maxHeartbeats 64000000
namespace Go.Proofs.YtcfgioklgmlclaaGreatDoor.SixE
open Go.RowKit Base aP uf eX nO tC G9 Ko Kq
theorem cut_str (s : ByteArray) (k : Nat) : (s.extract k s.size).data.toList = s.data.toList.drop k := by
 have hl : s.data.toList.length = s.size := Array.length_toList
 rw [ByteArray.data_extract]
 simp only [Array.toList_extract, List.extract_eq_take_drop]
 rw [List.take_of_length_le (by rw [List.length_drop]; omega)]
end Go.Proofs.YtcfgioklgmlclaaGreatDoor.SixE
namespace Go.Proofs.YtcfgioklgmlclaaGreatDoor.SixF
open Go.RowKit Base aP uf eX nO tC G9 Ko Kq fH SixE
theorem VL {t : List UInt8} {a b : Nat} (h : nG t = some [a, b]) : a < 65536 ∧ b < 65536 := by
 have hall : ∀ (ps : List (List UInt8)) (l : List Nat), smalls ps = some l → ∀ x ∈ l, x ≤ 255 := by
  intro ps
  induction ps with
  | nil => intro l h; injection h with h; subst h; intro x hx; simp at hx
  | cons p r ih =>
   intro l h
   rw [smalls] at h
   split at h
   ·rename_i n y h1 h2
    injection h with h
    subst h
    intro x hx
    rcases List.mem_cons.1 hx with rfl | hx
    ·exact SS h1
    ·exact ih y h2 x hx
   ·cases h
 unfold nG at h
 cases e : smalls (dN t) with
 | none => rw [e] at h; cases h
 | some l =>
  rw [e] at h
  replace h : two l = some [a, b] := h
  unfold two at h
  split at h
  ·rename_i x1 x2 x3 x4
   injection h with h
   injection h with h1 h
   injection h with h2 _
   have y1 := hall _ _ e x1 (by simp)
   have y2 := hall _ _ e x2 (by simp)
   have y3 := hall _ _ e x3 (by simp)
   have y4 := hall _ _ e x4 (by simp)
   omega
  ·cases h
end Go.Proofs.YtcfgioklgmlclaaGreatDoor.SixF
namespace Go.Proofs.YtcfgioklgmlclaaGreatDoor.aaW
open Go.RowKit Base nO tC G9 Ko Kq fH kX QA mD
theorem six_len {s : List UInt8} {V : List Nat} (h : six s = some V) : V.length = 8 := by
 unfold six at h
 split at h
 ·unfold tC.eight at h
  split at h
  ·split at h
   ·rename_i hlt
    injection h with h
    subst h
    simpa using hlt
   ·cases h
  ·cases h
 ·unfold both at h
  split at h
  ·split at h
   ·injection h with h
    subst h
    rename_i hlt
    unfold fill
    simp at hlt ⊢
    omega
   ·cases h
  ·cases h
end Go.Proofs.YtcfgioklgmlclaaGreatDoor.aaW
