/- Types: the document's Find and Get; the code's Get. -/
import Derived.Test.YtlbgcibdpeaomaaDoorMimD
import Derived.Test.YtlbgcibdpeaomaaDoorTokR
import Derived.Test.YtlbgcibdpeaomaaDoorTokU
namespace Go.Proofs.YtlbgcibdpeaomaaDoor.MimE
open Go.RowKit Go.Proofs.YtlbgcibdpeaomaaDoor.Base Go.Proofs.YtlbgcibdpeaomaaDoor.Base2 Go.Proofs.YtlbgcibdpeaomaaDoor.UtfL Go.Proofs.YtlbgcibdpeaomaaDoor.TokP Go.Proofs.YtlbgcibdpeaomaaDoor.MimP Go.Proofs.YtlbgcibdpeaomaaDoor.MimA Go.Proofs.YtlbgcibdpeaomaaDoor.MimB Go.Proofs.YtlbgcibdpeaomaaDoor.MimC Go.Proofs.YtlbgcibdpeaomaaDoor.MimD Go.Proofs.YtlbgcibdpeaomaaDoor.Mim0

theorem tw_cons_in {st : List UInt8} {c : UInt8} (L : List UInt8) (h : st.contains c = true) : tw st (c :: L) = [] := by unfold tw; simp only [List.takeWhile_cons, h]; rfl
theorem tw_cons_out {st : List UInt8} {c : UInt8} (L : List UInt8) (h : st.contains c = false) : tw st (c :: L) = c :: tw st L := by unfold tw; simp only [List.takeWhile_cons, h]; rfl
set_option linter.unusedSimpArgs false in
set_option maxHeartbeats 1000000 in
theorem find_any (s some_ : ByteArray) (w : World) (hs : s.size ≤ 1073741824) (hs2 : some_.size ≤ 1073741824) : Calls Tryd.prog 29 #[.string s, .string some_] w fun e w' => e = .returned (.int .i64 ((tw some_.data.toList s.data.toList).length : Int)) ∧ w = w' := by
  have hl : s.data.toList.length = s.size := Array.length_toList
  have HL := hid hl
  obtain ⟨N, hN⟩ : ∃ N, N = (tw some_.data.toList s.data.toList).length := ⟨_, rfl⟩
  rw [← hN]
  have HN := hid hN
  have HHAS := hid (fun c w => TokA.has_any some_ c w hs2)
  clear hN hl
  go_enter Tryd.func29, Tryd.ntmps29
  go_wp2
  go_loop [5, 8] (fun _ vk => ∃ k : Nat, k ≤ s.size ∧ vk = .int .i64 (k : Int) ∧ Hid (N = k + (tw some_.data.toList (s.data.toList.drop k)).length)) (fun _ vk => s.size - (intOf vk).toNat)
  case atStart => exact ⟨0, Nat.zero_le _, rfl, by show _ = _; rw [Nat.zero_add]; exact HN.out⟩
  case round =>
    obtain ⟨k, hk, rfl, HK⟩ := hrel
    by_cases hlt : k < s.size
    · obtain ⟨c, hc⟩ : ∃ c, s[k] = c := ⟨_, rfl⟩
      have hkl : k < s.data.toList.length := by rw [HL.out]; exact hlt
      have hcl : s.data.toList[k] = c := hc
      have hd : s.data.toList.drop k = c :: s.data.toList.drop (k + 1) := by rw [← hcl]; exact List.drop_eq_getElem_cons hkl
      cases hh : TokA.has some_.data.toList c with
      | true =>
        have HE : Hid (N = k) := by show _ = _; rw [HK.out, hd, tw_cons_in _ hh]; rfl
        have hh2 := fun w => HHAS.out c w
        rw [hh] at hh2
        have HH := hid hh2
        clear hkl hcl hd hh hh2
        go_wp2_with fail
        refine (HH.out _).mono ?_
        rintro e w2 ⟨rfl, hw2⟩
        subst hw2
        go_wp2
        go_ret
        exact ⟨ret_int (by rw [HE.out]), rfl⟩
      | false =>
        have HE : Hid (N = (k + 1) + (tw some_.data.toList (s.data.toList.drop (k + 1))).length) := by
          show _ = _
          rw [HK.out, hd, tw_cons_out _ hh, List.length_cons]
          omega
        have hh2 := fun w => HHAS.out c w
        rw [hh] at hh2
        have HH := hid hh2
        clear hkl hcl hd hh hh2
        go_wp2_with fail
        refine (HH.out _).mono ?_
        rintro e w2 ⟨rfl, hw2⟩
        subst hw2
        go_wp2
        go_round
        case rel => exact ⟨k + 1, by omega, by go_num, HE.out⟩
        case measure => simp [intOf]; omega
    · have HE : Hid (N = s.size) := by
        show _ = _
        rw [HK.out, List.drop_eq_nil_of_le (by rw [HL.out]; omega)]
        show k + 0 = _
        omega
      go_wp2
      go_ret
      exact ⟨ret_int (by rw [HE.out]), rfl⟩
/-- The value of the first parameter of a name. -/
def getV : List (ByteArray × ByteArray) → List UInt8 → Option ByteArray
  | [], _ => none
  | p :: r, n => if p.1.data.toList = n then some p.2 else getV r n
def GetV (o : Option ByteArray) : Value := match o with
  | none => .tuple #[.string ⟨#[]⟩, .bool false]
  | some x => .tuple #[.string x, .bool true]
theorem getV_some (l : List (ByteArray × ByteArray)) (n : List UInt8) : (getV l n).isSome = l.any fun p => p.1.data.toList == n := by
  induction l with
  | nil => rfl
  | cons p r ih =>
    unfold getV
    by_cases h : p.1.data.toList = n
    · simp [h]
    · rw [if_neg h, ih]
      simp [h]
theorem getV_hasN (acc : List (List UInt8 × List UInt8)) (n : List UInt8) : (getV (psS acc) n).isSome = hasN n acc := by
  rw [getV_some]
  unfold psS hasN
  rw [List.any_map]
  rfl
set_option linter.unusedSimpArgs false in
set_option maxHeartbeats 1000000 in
theorem refGet_any (A : Option Addr) (n cap : Nat) (l : List (ByteArray × ByteArray)) (name : ByteArray) (w : World) (hr : Prm w A n l) (hc : n ≤ cap) (hm : n ≤ 1073741824) :
    Calls Tryd.prog 16 #[.slice A n cap, .string name] w fun e w' => e = .returned (GetV (getV l name.data.toList)) ∧ Below w.heap.size w w' := by
  have hl : l.length = n := hr.1
  have HL := hid hl
  have HR := hid hr
  obtain ⟨G, hG⟩ : ∃ G, G = GetV (getV l name.data.toList) := ⟨_, rfl⟩
  rw [← hG]
  have HG := hid hG
  clear hr hG hl
  go_enter Tryd.func16, Tryd.ntmps16
  go_wp2
  go_loopw [6, 9] (fun _ vk wr => ∃ k : Nat, k ≤ n ∧ vk = .int .i64 (k : Int) ∧ Hid (Below w.heap.size w wr) ∧ Hid (G = GetV (getV (l.drop k) name.data.toList))) (fun _ vk _ => n - (intOf vk).toNat)
  case atStart => exact ⟨0, Nat.zero_le _, rfl, Below.refl _ _, HG.out⟩
  case round =>
    obtain ⟨k, hk, rfl, HB, HK⟩ := hrel
    by_cases hlt : k < n
    · have hkl : k < l.length := by rw [HL.out]; exact hlt
      obtain ⟨b, off, rfl, hb, h1, h2⟩ := (HR.out.under HB.out (Nat.le_refl _)).2 k hkl
      have hd : l.drop k = l[k] :: l.drop (k + 1) := List.drop_eq_getElem_cons hkl
      obtain ⟨s1, hs1⟩ : ∃ s, s = l[k].1 := ⟨_, rfl⟩
      obtain ⟨s2, hs2⟩ : ∃ s, s = l[k].2 := ⟨_, rfl⟩
      rw [← hs1] at h1
      rw [← hs2] at h2
      have hki : (k : Int) < (n : Int) := by omega
      by_cases he : s1.data.toList = name.data.toList
      · have HE : Hid (G = .tuple #[.string s2, .bool true]) := by
          show _ = _
          rw [HK.out, hd]
          unfold getV
          rw [← hs1, ← hs2, if_pos he]
          rfl
        have hq : (s1.toList == name.toList) = true := by rw [Lib.toList_data, Lib.toList_data, he]; simp
        have hq2 : s1.toList = name.toList := by rw [Lib.toList_data, Lib.toList_data, he]
        clear hd hs1 hs2 hb hkl he hq2
        go_wp2
        go_ret2
        exact ⟨by rw [HE.out]; rfl, HB.out⟩
      · have HE : Hid (G = GetV (getV (l.drop (k + 1)) name.data.toList)) := by
          show _ = _
          rw [HK.out, hd]
          conv => lhs; unfold getV
          rw [← hs1, if_neg he]
        have hq : (s1.toList == name.toList) = false := by rw [Lib.toList_data, Lib.toList_data, beq_eq_false_iff_ne]; exact he
        have hq2 : ¬ s1.toList = name.toList := by rw [Lib.toList_data, Lib.toList_data]; exact he
        clear hd hs1 hs2 hb hkl he
        go_wp2
        go_roundw
        case rel => exact ⟨k + 1, by omega, by go_num, HB.out, HE.out⟩
        case measure => simp [intOf]; omega
    · have HE : Hid (G = .tuple #[.string ⟨#[]⟩, .bool false]) := by
        show _ = _
        rw [HK.out, List.drop_eq_nil_of_le (by rw [HL.out]; omega)]
        rfl
      go_wp2
      go_ret2
      exact ⟨by rw [HE.out]; rfl, HB.out⟩
end Go.Proofs.YtlbgcibdpeaomaaDoor.MimE
