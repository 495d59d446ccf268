/- Types: a parameter's value, by the code. -/
import Derived.Test.YtlbgcibdpeaomaaDoorMimF
namespace Go.Proofs.YtlbgcibdpeaomaaDoor.MimG
open Go.RowKit Go.Proofs.YtlbgcibdpeaomaaDoor.Base Go.Proofs.YtlbgcibdpeaomaaDoor.Base2 Go.Proofs.YtlbgcibdpeaomaaDoor.UtfL Go.Proofs.YtlbgcibdpeaomaaDoor.TokP Go.Proofs.YtlbgcibdpeaomaaDoor.MimP Go.Proofs.YtlbgcibdpeaomaaDoor.MimA Go.Proofs.YtlbgcibdpeaomaaDoor.MimB Go.Proofs.YtlbgcibdpeaomaaDoor.MimC Go.Proofs.YtlbgcibdpeaomaaDoor.MimD Go.Proofs.YtlbgcibdpeaomaaDoor.MimE Go.Proofs.YtlbgcibdpeaomaaDoor.MimQ Go.Proofs.YtlbgcibdpeaomaaDoor.MimF Go.Proofs.YtlbgcibdpeaomaaDoor.Mim0 Go.Proofs.YtlbgcibdpeaomaaDoor.Mim1

set_option linter.unusedSimpArgs false in
set_option maxRecDepth 100000 in
set_option maxHeartbeats 2000000 in
theorem get_any (T S : ByteArray) (A : Option Addr) (n cap : Nat) (l : List (ByteArray × ByteArray)) (name : ByteArray) (w : World) (hr : Prm w A n l) (hc : n ≤ cap) (hm : cap ≤ maxLen) :
    Calls Tryd.prog 15 #[.agg #[.string T, .string S, .slice A n cap], .string name] w fun e w' => e = .returned (GetV (getV l name.data.toList)) ∧ Below w.heap.size w w' := by
  unfold maxLen at hm
  have hl : l.length = n := hr.1
  have HL := hid hl
  have HR := hid hr
  obtain ⟨G, hG⟩ : ∃ G, G = GetV (getV l name.data.toList) := ⟨_, rfl⟩
  rw [← hG]
  have HG := hid hG
  clear hr hG hl
  go_enter Tryd.func15, Tryd.ntmps15
  go_wp2
  go_loopw [7, 11] (fun _ vk wr => ∃ k : Nat, k ≤ n ∧ vk = .int .i64 (k : Int) ∧ Hid (Below w.heap.size w wr) ∧ Hid (G = GetV (getV (l.drop k) name.data.toList))) (fun _ vk _ => n - (intOf vk).toNat)
  case atStart => exact ⟨0, Nat.zero_le _, rfl, (Below.refl _ _).alloc (Nat.le_refl _) _, HG.out⟩
  case round =>
    obtain ⟨k, hk, rfl, HB, HK⟩ := hrel
    by_cases hlt : k < n
    · have hkl : k < l.length := by rw [HL.out]; exact hlt
      obtain ⟨b, off, rfl, hb, h1, h2⟩ := (HR.out.under HB.out (Nat.le_refl _)).2 k hkl
      have hd : l.drop k = l[k] :: l.drop (k + 1) := List.drop_eq_getElem_cons hkl
      obtain ⟨s1, hs1⟩ : ∃ s, s = l[k].1 := ⟨_, rfl⟩
      obtain ⟨s2, hs2⟩ : ∃ s, s = l[k].2 := ⟨_, rfl⟩
      rw [← hs1] at h1
      rw [← hs2] at h2
      have hki : (k : Int) < (n : Int) := by omega
      have hBS : w.heap.size ≤ wr.heap.size := HB.out.size
      by_cases he : s1.data.toList = name.data.toList
      · have HE : Hid (G = .tuple #[.string s2, .bool true]) := by
          show _ = _
          rw [HK.out, hd]
          unfold getV
          rw [← hs1, ← hs2, if_pos he]
          rfl
        have hq : (s1.toList == name.toList) = true := by rw [Lib.toList_data, Lib.toList_data, he]; simp
        clear hd hs1 hs2 hkl he
        go_wp2
        go_ret2
        exact ⟨by rw [HE.out]; rfl, HB.out.alloc hBS _⟩
      · have HE : Hid (G = GetV (getV (l.drop (k + 1)) name.data.toList)) := by
          show _ = _
          rw [HK.out, hd]
          conv => lhs; unfold getV
          rw [← hs1, if_neg he]
        have hq : (s1.toList == name.toList) = false := by rw [Lib.toList_data, Lib.toList_data, beq_eq_false_iff_ne]; exact he
        have hq2 : ¬ s1.toList = name.toList := by rw [Lib.toList_data, Lib.toList_data]; exact he
        clear hd hs1 hs2 hkl he
        go_wp2
        go_roundw
        case rel => exact ⟨k + 1, by omega, by go_num, HB.out.alloc hBS _, HE.out⟩
        case measure => simp [intOf]; omega
    · have HE : Hid (G = .tuple #[.string ⟨#[]⟩, .bool false]) := by
        show _ = _
        rw [HK.out, List.drop_eq_nil_of_le (by rw [HL.out]; omega)]
        rfl
      go_wp2
      go_ret2
      exact ⟨by rw [HE.out]; rfl, HB.out⟩
end Go.Proofs.YtlbgcibdpeaomaaDoor.MimG
