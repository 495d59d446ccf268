/- Types, plain: what is read is not too long. -/
import Derived.Test.YtlbgcibdpeaomaaDoorMimL
namespace Go.Proofs.YtlbgcibdpeaomaaDoor.MimN
open Go.RowKit Go.Proofs.YtlbgcibdpeaomaaDoor.Base Go.Proofs.YtlbgcibdpeaomaaDoor.Base2 Go.Proofs.YtlbgcibdpeaomaaDoor.UtfL Go.Proofs.YtlbgcibdpeaomaaDoor.TokP Go.Proofs.YtlbgcibdpeaomaaDoor.MimP Go.Proofs.YtlbgcibdpeaomaaDoor.MimB Go.Proofs.YtlbgcibdpeaomaaDoor.MimC Go.Proofs.YtlbgcibdpeaomaaDoor.MimD Go.Proofs.YtlbgcibdpeaomaaDoor.MimE Go.Proofs.YtlbgcibdpeaomaaDoor.MimQ Go.Proofs.YtlbgcibdpeaomaaDoor.MimF Go.Proofs.YtlbgcibdpeaomaaDoor.MimH Go.Proofs.YtlbgcibdpeaomaaDoor.MimI Go.Proofs.YtlbgcibdpeaomaaDoor.MimL Go.Proofs.YtlbgcibdpeaomaaDoor.Mim0 Go.Proofs.YtlbgcibdpeaomaaDoor.Mim1

theorem pm_value_len {t : List UInt8} {p : List UInt8 × List UInt8} (h : (pm t).1 = some p) : p.2.length ≤ t.length := by
  unfold pm at h
  split at h
  · cases h
  · rename_i c r hd
    have h1 := dw_len [59, 61] (tl t)
    have h2 := tl_len t
    rw [hd] at h1
    simp at h1
    split at h
    · cases h
    · simp only [] at h
      split at h
      · injection h with h
        subst h
        have := vl_val_len r
        show (vl r).1.length ≤ _
        omega
      · cases h
theorem prF_bound : ∀ (n : Nat) (r : List UInt8) (acc : PL) (N : Nat), r.length ≤ N → (∀ p ∈ acc, p.1.length ≤ N ∧ p.2.length ≤ N) → (∀ p ∈ prF n r acc, p.1.length ≤ N ∧ p.2.length ≤ N) ∧ (prF n r acc).length ≤ acc.length + r.length
  | 0, r, acc, N, _, h => ⟨h, by show acc.length ≤ _; omega⟩
  | _ + 1, [], acc, N, _, h => ⟨h, by show acc.length ≤ _; omega⟩
  | n + 1, c :: t, acc, N, hr, h => by
    rw [prF]
    have hp := pm_len t
    simp at hr
    have hadd : (∀ p ∈ addp acc (pm t).1, p.1.length ≤ N ∧ p.2.length ≤ N) ∧ (addp acc (pm t).1).length ≤ acc.length + 1 := by
      unfold addp
      split
      · exact ⟨h, by omega⟩
      · rename_i p hp
        split
        · exact ⟨h, by omega⟩
        · refine ⟨fun q hq => ?_, by simp⟩
          rcases List.mem_append.1 hq with hq | hq
          · exact h q hq
          · simp at hq
            subst hq
            have h1 := pm_name_len hp
            have h2 := pm_value_len hp
            omega
    have ih := prF_bound n (pm t).2 (addp acc (pm t).1) N (by omega) hadd.1
    refine ⟨ih.1, ?_⟩
    have := ih.2
    have := hadd.2
    simp
    omega
theorem mime_bound {s : List UInt8} {m : MT} (h : mime s = some m) : m.ty.length ≤ s.length ∧ m.sub.length ≤ s.length ∧ m.ps.length ≤ s.length ∧ ∀ p ∈ m.ps, p.1.length ≤ s.length ∧ p.2.length ≤ s.length := by
  have ht := trm_len s
  have h1 := tw_len [47] (trm s)
  have h2 := dw_len [47] (trm s)
  unfold mime at h
  split at h
  · cases h
  · rename_i c B hB
    rw [hB] at h2
    simp at h2
    split at h
    · injection h with h
      subst h
      have h3 := tw_len [59] B
      have h4 := dw_len [59] B
      have h5 := tr_len (tw [59] B)
      have h6 := prF_bound (dw [59] B).length (dw [59] B) [] s.length (by omega) (by simp)
      refine ⟨?_, ?_, ?_, h6.1⟩
      · simp [lower]; omega
      · simp [lower]; omega
      · have := h6.2
        show (prms (dw [59] B) []).length ≤ _
        unfold prms
        simp at this
        omega
    · cases h
/-- What Parse answers, in its parts. -/
theorem mid_of {s : List UInt8} {o : Option MT} (h : mime s = o) (hs : s.length ≤ 1048576) : MidB (strOf (o.getD mt0).ty) (strOf (o.getD mt0).sub) (psS (o.getD mt0).ps) := by
  cases o with
  | none => exact ⟨by simp [psS, mt0], by decide, by decide, by simp [psS, mt0]⟩
  | some m =>
    obtain ⟨h1, h2, h3, h4⟩ := mime_bound h
    refine ⟨by rw [psS_len]; show m.ps.length ≤ _; omega, by rw [size_strOf]; show m.ty.length ≤ _; omega, by rw [size_strOf]; show m.sub.length ≤ _; omega, ?_⟩
    intro p hp
    obtain ⟨q, hq, rfl⟩ := List.mem_map.1 hp
    have := h4 q hq
    show (strOf q.1).size ≤ _ ∧ (strOf q.2).size ≤ _
    rw [size_strOf, size_strOf]
    omega
theorem PSL_psS (ps : PL) : PSL (psS ps) = ps := by
  unfold PSL psS
  rw [List.map_map]
  conv => rhs; rw [← List.map_id ps]
  exact List.map_congr_left fun p _ => rfl
theorem psS_PSL (l : List (ByteArray × ByteArray)) : psS (PSL l) = l := by
  unfold PSL psS
  rw [List.map_map]
  conv => rhs; rw [← List.map_id l]
  exact List.map_congr_left fun p _ => by
    show (strOf p.1.data.toList, strOf p.2.data.toList) = p
    rw [strOf_toList, strOf_toList]
theorem same_self (T S : ByteArray) (l : List (ByteArray × ByteArray)) : sameM T S l T S l = true := by unfold sameM; simp
/-- Parse's answer. -/
def PrsA (w : World) (T S : ByteArray) (l : List (ByteArray × ByteArray)) (b : Bool) (e : Ending) (w' : World) : Prop := (∃ A n c, e = .returned (.tuple #[.agg #[.string T, .string S, .slice A n c], .bool b]) ∧ n ≤ c ∧ c ≤ maxLen ∧ Prm w' A n l) ∧ Below w.heap.size w w'
theorem prs_of {s : List UInt8} {o : Option MT} {w : World} {e : Ending} {w' : World} (h : mime s = o) (hp : MtR (mime s) e w' ∧ Below w.heap.size w w') : PrsA w (strOf (o.getD mt0).ty) (strOf (o.getD mt0).sub) (psS (o.getD mt0).ps) o.isSome e w' := by
  rw [h] at hp
  obtain ⟨⟨A, c, h1, h2, h3, h4⟩, hb⟩ := hp
  exact ⟨⟨A, _, c, h1, h2, h3, h4⟩, hb⟩
end Go.Proofs.YtlbgcibdpeaomaaDoor.MimN
