/- Paths: path.Walk. -/
import Derived.Test.YtpodicomfmkpcaaPthK
namespace Go.Proofs.Ytpodicomfmkpcaa.PthL
open Go.RowKit Go.Proofs.Ytpodicomfmkpcaa.Base Go.Proofs.Ytpodicomfmkpcaa.Base2 Go.Proofs.Ytpodicomfmkpcaa.Base3 Go.Proofs.Ytpodicomfmkpcaa.PthP Go.Proofs.Ytpodicomfmkpcaa.PthE Go.Proofs.Ytpodicomfmkpcaa.PthG Go.Proofs.Ytpodicomfmkpcaa.PthH Go.Proofs.Ytpodicomfmkpcaa.PthJ

def cs (sp : Bool) : ByteArray := strOf (chs sp)
theorem any_cs (sp : Bool) (s : ByteArray) (w : World) (hs : s.size ≤ 1073741824) :
    Calls Try.prog 31 #[.string s, .string (cs sp)] w fun e w' => e = .returned (.int .i64 (if upto sp s.data.toList < s.size then (upto sp s.data.toList : Int) else -1)) ∧ Below w.heap.size w w' := by
  have hsz : s.data.toList.length = s.size := Array.length_toList
  have hi := index_chs sp s.data.toList
  rw [hsz] at hi
  rw [← hi]
  cases sp with
  | false => exact (Try.strings_IndexAny_one s (cs false) w rfl (by intro j b h; match j, h with | 0, h => simp [cs, chs, strOf] at h; subst h; decide)).mono fun e w' ⟨h1, h2⟩ => ⟨h1, h2 ▸ Below.refl _ _⟩
  | true =>
    by_cases h8 : 8 < s.size
    · exact Try.strings_IndexAny_long s (cs true) w (Nat.le_refl _) h8 (by omega) (by decide) (by intro j b h; match j, h with | 0, h => (simp [cs, chs, strOf] at h; subst h; decide) | 1, h => (simp [cs, chs, strOf] at h; subst h; decide))
    · exact PthK.short_any s w (by omega)
set_option linter.unusedSimpArgs false in
set_option maxHeartbeats 4000000 in
theorem walk_any (file sp : Bool) (A : Option Addr) (n cap : Nat) (l : List ByteArray) (s : ByteArray) (w : World) (hR : Rds w A n (l.map Value.string)) (hnc : n ≤ cap) (hcm : cap ≤ maxLen) (hm : n + s.size ≤ 900000) :
    Calls Try.prog 19 #[.bool file, .bool sp, .slice A n cap, .string s] w (Owned w.heap.size w (wb file sp l [] s.data.toList)) := by
  have hln : l.length = n := by rw [← hR.1, List.length_map]
  have hsl : s.data.toList.length = s.size := Array.length_toList
  obtain ⟨S, hS⟩ : ∃ S, S = wb file sp l [] s.data.toList := ⟨_, rfl⟩
  rw [← hS]
  have HS := hid hS
  have HR := hid hR
  have HL := hid hln
  have HSL := hid hsl
  have hn6 : n ≤ 1000000 := by omega
  clear hS hR hln hsl
  cases sp with
  | false =>
    have HIX : Hid (∀ (s : ByteArray) (w : World), s.size ≤ 1073741824 → Calls Try.prog 31 #[.string s, .string ⟨#[47]⟩] w fun e w' => e = .returned (.int .i64 (if upto false s.data.toList < s.size then (upto false s.data.toList : Int) else -1)) ∧ Below w.heap.size w w') := fun s w h => any_cs false s w h
    obtain ⟨p, hp⟩ : ∃ p, p = false := ⟨_, rfl⟩
    rw [← hp] at HIX HS
    clear hp
    go_enter Try.func19, Try.ntmps19
    go_wp2_with fail
    refine (cloneS_any A n cap l _ HR.out hn6).mono ?_
    rintro e w2 ⟨v, rfl, hown2, hb2⟩
    have HO2 := hid hown2
    clear hown2
    go_wp2
    go_loopw [3, 10, 11] (fun vs vo _ wr => ∃ (M : List UInt8) (l' : List ByteArray), vs = .string (strOf M) ∧ l'.length + M.length ≤ n + s.size ∧ Hid (wr.ownsRow w.heap.size 9 1 vo l'.length (l'.map Value.string)) ∧ Hid (Below w.heap.size w wr) ∧ Hid (S = wb file p l' [] M)) (fun vs _ _ _ => match vs with | .string x => x.size | _ => 0)
    case atStart => exact ⟨s.data.toList, l, by rw [strOf_toList], by rw [HL.out, HSL.out]; exact Nat.le_refl _, HO2, hb2, HS⟩
    case round =>
      clear HO2
      obtain ⟨M, l', rfl, hlen, HO, HB, HW⟩ := hrel
      obtain ⟨U, hU⟩ : ∃ U, U = upto p M := ⟨_, rfl⟩
      obtain ⟨Z, hZ⟩ : ∃ Z, Z = strOf M := ⟨_, rfl⟩
      have hzs : Z.size = M.length := by rw [hZ, size_strOf]
      have hzl : Z.data.toList = M := by rw [hZ]; rfl
      have hul : U ≤ M.length := by rw [hU]; exact upto_le p M
      rw [← hZ]
      have HU := hid hU
      have HZL := hid hzl
      have HZ := hid hZ
      clear hU hZ hzl
      obtain ⟨m, hm⟩ : ∃ m, m = M.length := ⟨_, rfl⟩
      obtain ⟨k, hk⟩ : ∃ k, k = l'.length := ⟨_, rfl⟩
      rw [← hm] at hul hlen hzs
      rw [← hk] at hlen
      have HM := hid hm
      have HK := hid hk
      clear hm hk
      by_cases hlt : U < m
      · have HRV : Hid ((if upto p Z.data.toList < Z.size then (upto p Z.data.toList : Int) else -1) = (U : Int)) := by
          show _ = _
          rw [HZL.out, ← HU.out, if_pos (by omega)]
        have HT1 : Hid (Z.extract 0 U = strOf (M.take U)) := by show _ = _; rw [Regs.ext_take, HZL.out]
        have HT2 : Hid (Z.extract (U + 1) m = strOf (M.drop (U + 1))) := by show _ = _; rw [Regs.ext_drop _ _ _ hzs.symm, HZL.out]
        obtain ⟨X, hX⟩ : ∃ X, X = Z.extract 0 U := ⟨_, rfl⟩
        obtain ⟨Y, hY⟩ : ∃ Y, Y = Z.extract (U + 1) m := ⟨_, rfl⟩
        rw [← hX] at HT1
        rw [← hY] at HT2
        have hxe : Z.extract 0 U = X := hX.symm
        have hye : Z.extract (U + 1) m = Y := hY.symm
        clear hX hY
        have hxs : X.size ≤ 1073741824 := by rw [HT1.out, size_strOf, List.length_take]; omega
        have hys : Y.size < m := by rw [HT2.out, size_strOf, List.length_drop, ← HM.out]; omega
        have hxd : Hid (X.data.toList = M.take U) := by show _ = _; rw [HT1.out]; rfl
        have HYS := hid hys
        have hkm : k ≤ 1000000 := by omega
        have hls := length_stp file false l' X.data.toList
        rw [← HK.out] at hls
        have HLS := hid hls
        clear hls hys
        go_wp2_with fail
        refine (HIX.out Z _ (by omega)).mono ?_
        rintro e w3 ⟨rfl, hb3⟩
        rw [HRV.out]
        go_wp2_with fail
        refine (step_any file false w.heap.size _ l' X _ (owns_below HO.out hb3) (Nat.le_trans HB.out.size hb3.size) (by rw [← HK.out]; exact hkm) hxs).mono ?_
        rintro e w4 ⟨v4, rfl, hown4, hb4⟩
        have HO4 := hid hown4
        have HB4 : Hid (Below w.heap.size w w4) := (bel HB.out hb3).trans (hb4.mono (Nat.le_refl _))
        clear hown4 hb4 hb3
        go_wp2
        go_roundw
        case rel => exact ⟨M.drop (U + 1), stp file false l' X.data.toList, by rw [HT2.out], by rw [List.length_drop, ← HM.out]; have := HLS.out; omega, HO4, HB4, by show _ = _; rw [HW.out, wb_some file p M l' [] (by rw [← HU.out, ← HM.out]; exact hlt), ← HU.out, hxd.out]; rfl⟩
        case measure => show Y.size < Z.size; rw [hzs]; exact HYS.out
      · have HRV : Hid ((if upto p Z.data.toList < Z.size then (upto p Z.data.toList : Int) else -1) = -1) := by
          show _ = _
          rw [HZL.out, ← HU.out, if_neg (by omega)]
        have hkm : k ≤ 1000000 := by omega
        have HE : Hid (S = stp file true l' Z.data.toList) := by
          show _ = _
          rw [HW.out, wb_none file p M l' [] (by rw [← HU.out, ← HM.out]; exact hlt), HZL.out]
          rfl
        go_wp2_with fail
        refine (HIX.out Z _ (by omega)).mono ?_
        rintro e w3 ⟨rfl, hb3⟩
        rw [HRV.out]
        go_wp2_with fail
        refine (step_any file true w.heap.size _ l' Z _ (owns_below HO.out hb3) (Nat.le_trans HB.out.size hb3.size) (by rw [← HK.out]; exact hkm) (by omega)).mono ?_
        rintro e w4 ⟨v4, rfl, hown4, hb4⟩
        have HX : Hid (Owned w.heap.size w S (.returned v4) w4) := ⟨v4, rfl, by rw [HE.out]; exact hown4, (bel HB.out hb3).trans (hb4.mono (Nat.le_refl _))⟩
        clear hown4 hb4 hb3
        go_wp2
        go_ret
        exact HX.out
  | true =>
    have HIX : Hid (∀ (s : ByteArray) (w : World), s.size ≤ 1073741824 → Calls Try.prog 31 #[.string s, .string ⟨#[47, 92]⟩] w fun e w' => e = .returned (.int .i64 (if upto true s.data.toList < s.size then (upto true s.data.toList : Int) else -1)) ∧ Below w.heap.size w w') := fun s w h => any_cs true s w h
    obtain ⟨p, hp⟩ : ∃ p, p = true := ⟨_, rfl⟩
    rw [← hp] at HIX HS
    clear hp
    go_enter Try.func19, Try.ntmps19
    go_wp2_with fail
    refine (cloneS_any A n cap l _ HR.out hn6).mono ?_
    rintro e w2 ⟨v, rfl, hown2, hb2⟩
    have HO2 := hid hown2
    clear hown2
    go_wp2
    go_loopw [3, 10, 11] (fun vs vo _ wr => ∃ (M : List UInt8) (l' : List ByteArray), vs = .string (strOf M) ∧ l'.length + M.length ≤ n + s.size ∧ Hid (wr.ownsRow w.heap.size 9 1 vo l'.length (l'.map Value.string)) ∧ Hid (Below w.heap.size w wr) ∧ Hid (S = wb file p l' [] M)) (fun vs _ _ _ => match vs with | .string x => x.size | _ => 0)
    case atStart => exact ⟨s.data.toList, l, by rw [strOf_toList], by rw [HL.out, HSL.out]; exact Nat.le_refl _, HO2, hb2, HS⟩
    case round =>
      clear HO2
      obtain ⟨M, l', rfl, hlen, HO, HB, HW⟩ := hrel
      obtain ⟨U, hU⟩ : ∃ U, U = upto p M := ⟨_, rfl⟩
      obtain ⟨Z, hZ⟩ : ∃ Z, Z = strOf M := ⟨_, rfl⟩
      have hzs : Z.size = M.length := by rw [hZ, size_strOf]
      have hzl : Z.data.toList = M := by rw [hZ]; rfl
      have hul : U ≤ M.length := by rw [hU]; exact upto_le p M
      rw [← hZ]
      have HU := hid hU
      have HZL := hid hzl
      have HZ := hid hZ
      clear hU hZ hzl
      obtain ⟨m, hm⟩ : ∃ m, m = M.length := ⟨_, rfl⟩
      obtain ⟨k, hk⟩ : ∃ k, k = l'.length := ⟨_, rfl⟩
      rw [← hm] at hul hlen hzs
      rw [← hk] at hlen
      have HM := hid hm
      have HK := hid hk
      clear hm hk
      by_cases hlt : U < m
      · have HRV : Hid ((if upto p Z.data.toList < Z.size then (upto p Z.data.toList : Int) else -1) = (U : Int)) := by
          show _ = _
          rw [HZL.out, ← HU.out, if_pos (by omega)]
        have HT1 : Hid (Z.extract 0 U = strOf (M.take U)) := by show _ = _; rw [Regs.ext_take, HZL.out]
        have HT2 : Hid (Z.extract (U + 1) m = strOf (M.drop (U + 1))) := by show _ = _; rw [Regs.ext_drop _ _ _ hzs.symm, HZL.out]
        obtain ⟨X, hX⟩ : ∃ X, X = Z.extract 0 U := ⟨_, rfl⟩
        obtain ⟨Y, hY⟩ : ∃ Y, Y = Z.extract (U + 1) m := ⟨_, rfl⟩
        rw [← hX] at HT1
        rw [← hY] at HT2
        have hxe : Z.extract 0 U = X := hX.symm
        have hye : Z.extract (U + 1) m = Y := hY.symm
        clear hX hY
        have hxs : X.size ≤ 1073741824 := by rw [HT1.out, size_strOf, List.length_take]; omega
        have hys : Y.size < m := by rw [HT2.out, size_strOf, List.length_drop, ← HM.out]; omega
        have hxd : Hid (X.data.toList = M.take U) := by show _ = _; rw [HT1.out]; rfl
        have HYS := hid hys
        have hkm : k ≤ 1000000 := by omega
        have hls := length_stp file false l' X.data.toList
        rw [← HK.out] at hls
        have HLS := hid hls
        clear hls hys
        go_wp2_with fail
        refine (HIX.out Z _ (by omega)).mono ?_
        rintro e w3 ⟨rfl, hb3⟩
        rw [HRV.out]
        go_wp2_with fail
        refine (step_any file false w.heap.size _ l' X _ (owns_below HO.out hb3) (Nat.le_trans HB.out.size hb3.size) (by rw [← HK.out]; exact hkm) hxs).mono ?_
        rintro e w4 ⟨v4, rfl, hown4, hb4⟩
        have HO4 := hid hown4
        have HB4 : Hid (Below w.heap.size w w4) := (bel HB.out hb3).trans (hb4.mono (Nat.le_refl _))
        clear hown4 hb4 hb3
        go_wp2
        go_roundw
        case rel => exact ⟨M.drop (U + 1), stp file false l' X.data.toList, by rw [HT2.out], by rw [List.length_drop, ← HM.out]; have := HLS.out; omega, HO4, HB4, by show _ = _; rw [HW.out, wb_some file p M l' [] (by rw [← HU.out, ← HM.out]; exact hlt), ← HU.out, hxd.out]; rfl⟩
        case measure => show Y.size < Z.size; rw [hzs]; exact HYS.out
      · have HRV : Hid ((if upto p Z.data.toList < Z.size then (upto p Z.data.toList : Int) else -1) = -1) := by
          show _ = _
          rw [HZL.out, ← HU.out, if_neg (by omega)]
        have hkm : k ≤ 1000000 := by omega
        have HE : Hid (S = stp file true l' Z.data.toList) := by
          show _ = _
          rw [HW.out, wb_none file p M l' [] (by rw [← HU.out, ← HM.out]; exact hlt), HZL.out]
          rfl
        go_wp2_with fail
        refine (HIX.out Z _ (by omega)).mono ?_
        rintro e w3 ⟨rfl, hb3⟩
        rw [HRV.out]
        go_wp2_with fail
        refine (step_any file true w.heap.size _ l' Z _ (owns_below HO.out hb3) (Nat.le_trans HB.out.size hb3.size) (by rw [← HK.out]; exact hkm) (by omega)).mono ?_
        rintro e w4 ⟨v4, rfl, hown4, hb4⟩
        have HX : Hid (Owned w.heap.size w S (.returned v4) w4) := ⟨v4, rfl, by rw [HE.out]; exact hown4, (bel HB.out hb3).trans (hb4.mono (Nat.le_refl _))⟩
        clear hown4 hb4 hb3
        go_wp2
        go_ret
        exact HX.out
end Go.Proofs.Ytpodicomfmkpcaa.PthL
