/- Paths: the document's Walk, byte by byte. -/
import Derived.Test.YtpodicomfmkpcaaPthW
import Derived.Test.YtpodicomfmkpcaaEscK
import Derived.Test.YtpodicomfmkpcaaEscR
namespace Go.Proofs.Ytpodicomfmkpcaa.PthN
open Go.RowKit Go.Proofs.Ytpodicomfmkpcaa.Base Go.Proofs.Ytpodicomfmkpcaa.Base2 Go.Proofs.Ytpodicomfmkpcaa.Base3 Go.Proofs.Ytpodicomfmkpcaa.UtfA Go.Proofs.Ytpodicomfmkpcaa.PthP Go.Proofs.Ytpodicomfmkpcaa.PthA Go.Proofs.Ytpodicomfmkpcaa.PthB Go.Proofs.Ytpodicomfmkpcaa.PthC Go.Proofs.Ytpodicomfmkpcaa.PthE Go.Proofs.Ytpodicomfmkpcaa.PthF Go.Proofs.Ytpodicomfmkpcaa.PthG Go.Proofs.Ytpodicomfmkpcaa.PthH Go.Proofs.Ytpodicomfmkpcaa.PthI Go.Proofs.Ytpodicomfmkpcaa.PthJ

theorem in4 (c : UInt8) (w : World) : Calls Try.prog 42 #[.int .i64 4, .int .u8 (c.toNat : Int)] w fun e w' => e = .returned (.bool (EscI.inS 4 c.toNat)) ∧ w = w' := by
  by_cases h : 32 ≤ (c.toNat : Int) ∧ (c.toNat : Int) ≤ 126
  · exact EscI.ref_4 _ w h.1 h.2
  · exact EscI.ref_far 4 _ w (by omega) (by omega) (by omega)
theorem enc4_any (s : ByteArray) (w : World) (hs : s.size ≤ 1073741824) : Calls Try.prog 34 #[.int .i64 4, .string s] w fun e w' => e = .returned (.string (strOf (EscE.enc 4 s.data.toList))) ∧ Below w.heap.size w w' := EscR.ref_encode 4 s w hs in4
theorem plain_letter (c : UInt8) (h : letter (c.toNat : Int) = true) : EscI.inS 4 c.toNat = false := by
  have H : ∀ n : Fin 256, letter (n.val : Int) = true → EscI.inS 4 (n.val : Int) = false := by decide +kernel
  exact H ⟨c.toNat, c.toNat_lt⟩ h
theorem enc_drive (b : List UInt8) (h : drv b = true) : EscE.enc 4 (b.take 1 ++ [58]) = b.take 1 ++ [58] := by
  match b, h with
  | [x, y], h =>
    have hx : letter (x.toNat : Int) = true := by
      simp only [drv, Bool.and_eq_true] at h
      exact h.1
    have h1 := plain_letter x hx
    have h2 : EscI.inS 4 ((58 : UInt8).toNat : Int) = false := by decide +kernel
    simp only [List.take_succ_cons, List.take_zero, List.cons_append, List.nil_append, EscE.enc, List.flatMap_cons, List.flatMap_nil, EscE.one, h1, h2]
    rfl
theorem stp_dbl (file e : Bool) (l : List ByteArray) (b : List UInt8) (h : dbl b = true) : stp file e l b = if e then sho file l ++ [strOf []] else sho file l := by unfold stp; rw [if_pos h]
theorem stp_sgl (file e : Bool) (l : List ByteArray) (b : List UInt8) (h : dbl b = false) (h2 : sgl b = true) : stp file e l b = if e then l ++ [strOf []] else l := by unfold stp; rw [h, if_neg (by decide), if_pos h2]
theorem stp_oth (file e : Bool) (l : List ByteArray) (b : List UInt8) (h : dbl b = false) (h2 : sgl b = false) : stp file e l b = l ++ [strOf (wr (file && l.isEmpty) b)] := by unfold stp; rw [h, if_neg (by decide), h2, if_neg (by decide)]
theorem wb_hit (file sp : Bool) (l : List ByteArray) (b L : List UInt8) (k : Nat) (c : UInt8) (hk : k < L.length) (hc : L[k] = c) (h : stp1 sp c = true) : wb file sp l b (L.drop k) = wb file sp (stp file false l b) [] (L.drop (k + 1)) := by
  rw [List.drop_eq_getElem_cons hk, hc, wb, if_pos h]
theorem wb_on (file sp : Bool) (l : List ByteArray) (b L : List UInt8) (k : Nat) (c : UInt8) (hk : k < L.length) (hc : L[k] = c) (h : stp1 sp c = false) : wb file sp l b (L.drop k) = wb file sp l (b ++ [c]) (L.drop (k + 1)) := by
  rw [List.drop_eq_getElem_cons hk, hc, wb, h, if_neg (by decide)]
theorem wb_end (file sp : Bool) (l : List ByteArray) (b L : List UInt8) (k : Nat) (hk : k = L.length) : wb file sp l b (L.drop k) = stp file true l b := by
  subst hk
  rw [List.drop_length]
  rfl
theorem length_sho_le (file : Bool) (l : List ByteArray) : (sho file l).length ≤ l.length := by rw [length_sho]; split <;> omega
set_option linter.unusedSimpArgs false in
set_option maxRecDepth 100000 in
set_option maxHeartbeats 4000000 in
theorem refWalk_any (file sp : Bool) (A : Option Addr) (n0 cap : Nat) (l : List ByteArray) (s : ByteArray) (w : World) (hR : Rds w A n0 (l.map Value.string)) (hnc : n0 ≤ cap) (hcm : cap ≤ maxLen) (hm : n0 + s.size ≤ 900000) :
    Calls Try.prog 22 #[.bool file, .bool sp, .slice A n0 cap, .string s] w (Owned w.heap.size w (wb file sp l [] s.data.toList)) := by
  have hln : l.length = n0 := by rw [← hR.1, List.length_map]
  have hsl : s.data.toList.length = s.size := Array.length_toList
  obtain ⟨i0, hi, hz0, hz1, hz2⟩ := info_parts info_str
  obtain ⟨S, hS⟩ : ∃ S, S = wb file sp l [] s.data.toList := ⟨_, rfl⟩
  rw [← hS]
  have HS := hid hS
  have HR := hid hR
  have HL := hid hln
  have HSL := hid hsl
  have hownA : (w.alloc (.cells #[] 9)).ownsRow w.heap.size 9 1 (.slice (some ⟨w.heap.size, 0, none⟩) 0 0) 0 [] := World.ownsRow_made w #[] 0 (Nat.le_refl _) (by decide) rfl
  have hbelA : Below w.heap.size w (w.alloc (.cells #[] 9)) := (Below.refl _ _).alloc (Nat.le_refl _) _
  have HRA : Hid (Rds (w.alloc (.cells #[] 9)) A n0 (l.map Value.string)) := HR.out.below hbelA
  clear hS hR hln hsl
  go_enter Try.func22, Try.ntmps22
  go_wp2_with (at_builtin; refine wpList_app_any rfl _ _ 24 rfl w.heap.size 9 i0 (.string ByteArray.empty) 16 Try.underlying24 hi hz0 hz1 hz2 rfl _ 0 [] rfl hownA hbelA hbelA.size A n0 cap (l.map Value.string) rfl HRA.out (strs_one _) (by unfold maxLen; omega) (by omega) ?_)
  intro v3 w3 hown3 hbel3
  have HO3 : Hid (w3.ownsRow w.heap.size 9 1 v3 l.length (l.map Value.string)) := by
    show World.ownsRow _ _ _ _ _ _ _
    rw [HL.out]
    simpa using hown3
  have HB3 := hid hbel3
  clear hownA hbelA HRA hown3 hbel3
  go_wp2
  go_loopw [9, 10, 11, 12, 13, 20] (fun vo vb _ _ _ vk wr => ∃ (k : Nat) (b : List UInt8) (l' : List ByteArray), k ≤ s.size + 1 ∧ vk = .int .i64 (k : Int) ∧ vb = .string (strOf b) ∧ l'.length ≤ n0 + k ∧ b.length ≤ k ∧ Hid (wr.ownsRow w.heap.size 9 1 vo l'.length (l'.map Value.string)) ∧ Hid (Below w.heap.size w wr) ∧ Hid (k ≤ s.size → S = wb file sp l' b (s.data.toList.drop k)) ∧ Hid (k = s.size + 1 → S = l')) (fun _ _ _ _ _ vk _ => s.size + 1 - (intOf vk).toNat)
  case atStart => exact ⟨0, [], l, Nat.zero_le _, rfl, rfl, by rw [HL.out]; omega, Nat.zero_le _, HO3, HB3, fun _ => HS.out, fun h => absurd h (by omega)⟩
  case round =>
    clear HO3 HB3
    obtain ⟨k, b, l', hk1, rfl, rfl, hl', hb', HO, HB, HW, HE⟩ := hrel
    obtain ⟨Z, hZ⟩ : ∃ Z, Z = strOf b := ⟨_, rfl⟩
    have hzs : Z.size = b.length := by rw [hZ, size_strOf]
    have hZd : Hid (Z.data.toList = b) := by show _ = _; rw [hZ]; rfl
    obtain ⟨m, hm'⟩ : ∃ m, m = l'.length := ⟨_, rfl⟩
    rw [← hm'] at hl'
    have HM := hid hm'
    obtain ⟨vA, vc, rfl, hvnc, hvcm, hvR⟩ := owns_form HO.out
    have HVR := hid hvR
    rw [← hZ]
    have HZ := hid hZ
    have HOM : Hid (wr.ownsRow w.heap.size 9 1 (.slice vA m vc) m (l'.map Value.string)) := by show World.ownsRow _ _ _ _ _ _ _; rw [hm']; exact HO.out
    rw [← hm'] at hvnc HVR ⊢
    have hzsm : Z.size ≤ 1073741824 := by omega
    have HZS := hid hzs
    have HVC := hid hvcm
    have HBS := hid HB.out.size
    clear hm' hZ hzs hvR hvcm
    by_cases hlt : k < s.size + 1
    · have HW' : Hid (S = wb file sp l' b (s.data.toList.drop k)) := HW.out (by omega)
      clear HW HE
      by_cases hkn : k < s.size
      · obtain ⟨c, hc⟩ : ∃ c, s[k] = c := ⟨_, rfl⟩
        have hkl : k < s.data.toList.length := by rw [HSL.out]; exact hkn
        have hcl : s.data.toList[k] = c := hc
        have q1 : ((k : Int) == (s.size : Int)) = false := by simp; omega
        cases hst : stp1 sp c with
        | false =>
          have HW2 : Hid (S = wb file sp l' (b ++ [c]) (s.data.toList.drop (k + 1))) := by show _ = _; rw [HW'.out, wb_on file sp l' b _ k c hkl hcl hst]
          have hcut : s.extract k (k + 1) = strOf [c] := by have := EscR.str_cut s k hkn; rw [hc] at this; exact this
          have hadd : ∀ w : World, (Op.stringOp .add Z (strOf [c])).run Try.prog w = .ok (.string (strOf (b ++ [c]))) w := fun w => by rw [HZ.out]; exact str_add b [c] w (by show _ + 1 ≤ _; omega)
          have h47 : ((c.toNat : Int) == 47) = false := by
            have : c ≠ 47 := by rintro rfl; cases sp <;> exact absurd hst (by decide)
            have : c.toNat ≠ 47 := fun h => this (UInt8.toNat_inj.1 h)
            simp; omega
          clear HW' hkl hcl
          have FE : Hid (k + 1 = s.size + 1 → S = l') := fun h => absurd h (by omega)
          cases sp with
          | false =>
            clear hst
            go_wp2
            go_roundw
            case rel => exact ⟨k + 1, b ++ [c], l', by omega, by go_num, rfl, by rw [← HM.out]; omega, by rw [List.length_append]; show _ + 1 ≤ _; omega, by (show World.ownsRow _ _ _ _ _ _ _; rw [← HM.out]; exact HOM.out), HB, fun _ => HW2.out, FE⟩
            case measure => simp [intOf]; omega
          | true =>
            have h92 : ((c.toNat : Int) == 92) = false := by
              have : c ≠ 92 := by rintro rfl; exact absurd hst (by decide)
              have : c.toNat ≠ 92 := fun h => this (UInt8.toNat_inj.1 h)
              simp; omega
            clear hst
            go_wp2
            go_roundw
            case rel => exact ⟨k + 1, b ++ [c], l', by omega, by go_num, rfl, by rw [← HM.out]; omega, by rw [List.length_append]; show _ + 1 ≤ _; omega, by (show World.ownsRow _ _ _ _ _ _ _; rw [← HM.out]; exact HOM.out), HB, fun _ => HW2.out, FE⟩
            case measure => simp [intOf]; omega
        | true =>
          have FWS : Hid (k + 1 ≤ s.size → S = wb file sp (stp file false l' b) [] (s.data.toList.drop (k + 1))) := by intro _; rw [HW'.out, wb_hit file sp l' b _ k c hkl hcl hst]
          have FES : Hid (k + 1 = s.size + 1 → S = stp file false l' b) := fun h => absurd h (by omega)
          have hcase : ((c.toNat : Int) == 47) = true ∨ ((c.toNat : Int) == 47) = false ∧ sp = true ∧ ((c.toNat : Int) == 92) = true := by
            by_cases h : c = 47
            · subst h; exact .inl rfl
            · refine .inr ⟨?_, ?_⟩
              · have : c.toNat ≠ 47 := fun e => h (UInt8.toNat_inj.1 e)
                simp; omega
              · simp only [stp1, Bool.or_eq_true, Bool.and_eq_true, decide_eq_true_eq] at hst
                rcases hst with hst | ⟨h1, h2⟩
                · exact absurd hst h
                · subst h2; exact ⟨h1, rfl⟩
          clear HW' hkl hcl hst
          rcases hcase with h47 | ⟨h47, hsp, h92⟩
          · skip
            go_wp2_with fail
            refine (refDouble_any Z _ hzsm).mono ?_
            rintro e w2 ⟨rfl, hb2⟩
            rw [hZd.out]
            have HB2 : Hid (Below w.heap.size w w2) := bel HB.out hb2
            have HO2 : Hid (w2.ownsRow w.heap.size 9 1 (.slice vA m vc) m (l'.map Value.string)) := owns_below HOM.out hb2
            have HVR2 : Hid (Rds w2 vA m (l'.map Value.string)) := HVR.out.below hb2
            clear hb2
            cases hd : dbl b with
            | true =>
              have HD := hid hd
              clear hd
              have hownE : (w2.alloc (.cells #[] 9)).ownsRow w.heap.size 9 1 (.slice (some ⟨w2.heap.size, 0, none⟩) 0 0) 0 [] := owns_base (World.ownsRow_made w2 #[] 0 (Nat.le_refl _) (by decide) rfl) HB2.out.size
              have HOWNE := hid hownE
              clear hownE
              have HBE : Hid (Below w.heap.size w (w2.alloc (.cells #[] 9))) := HB2.out.alloc HB2.out.size _
              go_wp2_with fail
              refine (refShorten_any file vA m vc l' _ (HVR2.out.below ((Below.refl _ _).alloc (Nat.le_refl _) _)) hvnc HVC.out (by omega)).mono ?_
              rintro e w4 ⟨A4, n4, c4, rfl, hn4, hnc4, hcm4, hr4, hb4⟩
              have hle4 := length_sho_le file l'
              rw [← hn4, ← HM.out] at hle4
              have HN4 := hid hn4
              have HR4 := hid hr4
              have hown5 := owns_below HOWNE.out hb4
              have hbel5 : Below w.heap.size w w4 := bel HBE.out hb4
              have HCM4 := hid hcm4
              clear hn4 hr4 hb4 hcm4
              go_wp2_with (at_builtin; refine wpList_app_any rfl _ _ 24 rfl w.heap.size 9 i0 (.string ByteArray.empty) 16 Try.underlying24 hi hz0 hz1 hz2 rfl _ 0 [] rfl hown5 hbel5 hbel5.size A4 n4 c4 ((sho file l').map Value.string) rfl HR4.out (strs_one _) (by unfold maxLen; omega) (by omega) ?_)
              intro v6 w6 hown6 hbel6
              replace hown6 : w6.ownsRow w.heap.size 9 1 v6 n4 ((sho file l').map Value.string) := by simpa using hown6
              clear hown5 hbel5
              have HX : Hid (w6.ownsRow w.heap.size 9 1 v6 (sho file l').length ((sho file l').map Value.string)) := by show World.ownsRow _ _ _ _ _ _ _; rw [← HN4.out]; exact hown6
              have HY := hid hbel6
              clear hown6 hbel6
              have HLEN : Hid ((sho file l').length ≤ n0 + (k + 1)) := by show _ ≤ _; rw [← HN4.out]; omega
              have FS : Hid (stp file false l' b = (sho file l')) := stp_dbl file false l' b HD.out
              have FW : Hid (k + 1 ≤ s.size → S = wb file sp (sho file l') [] (s.data.toList.drop (k + 1))) := by intro h; rw [← FS.out]; exact FWS.out h
              have FE : Hid (k + 1 = s.size + 1 → S = (sho file l')) := by intro h; rw [← FS.out]; exact FES.out h
              go_wp2
              go_roundw
              case rel => exact ⟨k + 1, [], (sho file l'), by omega, by go_num, rfl, by first | exact HLEN.out | omega, Nat.zero_le _, HX, HY, FW, FE⟩
              case measure => simp [intOf]; omega
            | false =>
              have HD := hid hd
              clear hd
              go_wp2_with fail
              refine (refSingle_any Z _ hzsm).mono ?_
              rintro e w3 ⟨rfl, hb3⟩
              rw [hZd.out]
              have HB3 : Hid (Below w.heap.size w w3) := bel HB2.out hb3
              have HO3 : Hid (w3.ownsRow w.heap.size 9 1 (.slice vA m vc) m (l'.map Value.string)) := owns_below HO2.out hb3
              clear hb3
              cases hg : sgl b with
              | true =>
                have HG := hid hg
                clear hg
                have HX : Hid (w3.ownsRow w.heap.size 9 1 (.slice vA m vc) l'.length (l'.map Value.string)) := by show World.ownsRow _ _ _ _ _ _ _; rw [← HM.out]; exact HO3.out
                have HY := HB3
                have HLEN : Hid (l'.length ≤ n0 + (k + 1)) := by show _ ≤ _; rw [← HM.out]; omega
                have FS : Hid (stp file false l' b = l') := stp_sgl file false l' b HD.out HG.out
                have FW : Hid (k + 1 ≤ s.size → S = wb file sp l' [] (s.data.toList.drop (k + 1))) := by intro h; rw [← FS.out]; exact FWS.out h
                have FE : Hid (k + 1 = s.size + 1 → S = l') := by intro h; rw [← FS.out]; exact FES.out h
                go_wp2
                go_roundw
                case rel => exact ⟨k + 1, [], l', by omega, by go_num, rfl, by first | exact HLEN.out | omega, Nat.zero_le _, HX, HY, FW, FE⟩
                case measure => simp [intOf]; omega
              | false =>
                have HG := hid hg
                clear hg
                have hcase : (file && l'.isEmpty) = false ∧ (file = false ∨ (file = true ∧ ¬ m = 0)) ∨ (file && l'.isEmpty) = true ∧ file = true ∧ m = 0 := by
                  cases file with
                  | false => exact .inl ⟨rfl, .inl rfl⟩
                  | true =>
                    match l', HM.out with
                    | [], h => exact .inr ⟨rfl, rfl, h⟩
                    | _ :: _, h => exact .inl ⟨rfl, .inr ⟨rfl, by rw [h]; simp⟩⟩
                rcases hcase with ⟨hfe, hcase⟩ | ⟨hfe, hf, hm0⟩
                · have HWR : Hid (PthF.wr (file && l'.isEmpty) b = EscE.enc 4 Z.data.toList) := by show _ = _; rw [hfe, hZd.out]; rfl
                  clear hfe
                  rcases hcase with hf | ⟨hf, hm0⟩
                  · subst hf
                    go_wp2_with fail
                    refine (enc4_any Z _ hzsm).mono ?_
                    rintro e w5 ⟨rfl, hb5⟩
                    have hown5 := owns_below HO3.out hb5
                    have hbel5 : Below w.heap.size w w5 := bel HB3.out hb5
                    clear hb5
                    obtain ⟨R, hR⟩ : ∃ R, R = strOf (EscE.enc 4 Z.data.toList) := ⟨_, rfl⟩
                    rw [← hR]
                    have HR5 := hid hR
                    clear hR
                    go_wp2_with (at_builtin; refine wpList_app rfl _ _ 24 rfl w.heap.size 9 i0 (.string ByteArray.empty) 16 Try.underlying24 hi hz0 hz1 hz2 rfl _ m _ rfl hown5 hbel5 hbel5.size [.string R] 1 rfl rfl (by intro u hu; simp at hu; subst hu; rfl) (by unfold maxLen; omega) (by omega) ?_)
                    intro v7 w7 hown7 hbel7
                    have HX : Hid (w7.ownsRow w.heap.size 9 1 v7 (l' ++ [R]).length ((l' ++ [R]).map Value.string)) := by show World.ownsRow _ _ _ _ _ _ _; rw [List.length_append, List.map_append, ← HM.out]; exact hown7
                    have HY := hid hbel7
                    clear hown5 hbel5 hown7 hbel7
                    have HLEN : Hid ((l' ++ [R]).length ≤ n0 + (k + 1)) := by show _ ≤ _; rw [List.length_append, ← HM.out]; show m + 1 ≤ _; omega
                    have FS : Hid (stp false false l' b = l' ++ [R]) := by show _ = _; rw [stp_oth false false l' b HD.out HG.out, HR5.out, HWR.out]
                    have FW : Hid (k + 1 ≤ s.size → S = wb false sp (l' ++ [R]) [] (s.data.toList.drop (k + 1))) := by intro h; rw [← FS.out]; exact FWS.out h
                    have FE : Hid (k + 1 = s.size + 1 → S = l' ++ [R]) := by intro h; rw [← FS.out]; exact FES.out h
                    go_wp2
                    go_roundw
                    case rel => exact ⟨k + 1, [], (l' ++ [R]), by omega, by go_num, rfl, by first | exact HLEN.out | omega, Nat.zero_le _, HX, HY, FW, FE⟩
                    case measure => simp [intOf]; omega
                  · subst hf
                    have q0 : ((m : Int) == 0) = false := by simp; omega
                    clear hm0
                    go_wp2_with fail
                    refine (enc4_any Z _ hzsm).mono ?_
                    rintro e w5 ⟨rfl, hb5⟩
                    have hown5 := owns_below HO3.out hb5
                    have hbel5 : Below w.heap.size w w5 := bel HB3.out hb5
                    clear hb5
                    obtain ⟨R, hR⟩ : ∃ R, R = strOf (EscE.enc 4 Z.data.toList) := ⟨_, rfl⟩
                    rw [← hR]
                    have HR5 := hid hR
                    clear hR
                    go_wp2_with (at_builtin; refine wpList_app rfl _ _ 24 rfl w.heap.size 9 i0 (.string ByteArray.empty) 16 Try.underlying24 hi hz0 hz1 hz2 rfl _ m _ rfl hown5 hbel5 hbel5.size [.string R] 1 rfl rfl (by intro u hu; simp at hu; subst hu; rfl) (by unfold maxLen; omega) (by omega) ?_)
                    intro v7 w7 hown7 hbel7
                    have HX : Hid (w7.ownsRow w.heap.size 9 1 v7 (l' ++ [R]).length ((l' ++ [R]).map Value.string)) := by show World.ownsRow _ _ _ _ _ _ _; rw [List.length_append, List.map_append, ← HM.out]; exact hown7
                    have HY := hid hbel7
                    clear hown5 hbel5 hown7 hbel7
                    have HLEN : Hid ((l' ++ [R]).length ≤ n0 + (k + 1)) := by show _ ≤ _; rw [List.length_append, ← HM.out]; show m + 1 ≤ _; omega
                    have FS : Hid (stp true false l' b = l' ++ [R]) := by show _ = _; rw [stp_oth true false l' b HD.out HG.out, HR5.out, HWR.out]
                    have FW : Hid (k + 1 ≤ s.size → S = wb true sp (l' ++ [R]) [] (s.data.toList.drop (k + 1))) := by intro h; rw [← FS.out]; exact FWS.out h
                    have FE : Hid (k + 1 = s.size + 1 → S = l' ++ [R]) := by intro h; rw [← FS.out]; exact FES.out h
                    go_wp2
                    go_roundw
                    case rel => exact ⟨k + 1, [], (l' ++ [R]), by omega, by go_num, rfl, by first | exact HLEN.out | omega, Nat.zero_le _, HX, HY, FW, FE⟩
                    case measure => simp [intOf]; omega
                · subst hf
                  subst hm0
                  have HFE := hid hfe
                  clear hfe
                  go_wp2_with fail
                  refine (refDrive_any Z _).mono ?_
                  rintro e w8 ⟨rfl, hw8⟩
                  subst hw8
                  rw [hZd.out]
                  cases hv : drv b with
                  | false =>
                    have HWR : Hid (PthF.wr (true && l'.isEmpty) b = EscE.enc 4 Z.data.toList) := by show _ = _; rw [HFE.out, hZd.out]; unfold PthF.wr; rw [hv]; rfl
                    clear hv
                    go_wp2_with fail
                    refine (enc4_any Z _ hzsm).mono ?_
                    rintro e w5 ⟨rfl, hb5⟩
                    have hown5 := owns_below HO3.out hb5
                    have hbel5 : Below w.heap.size w w5 := bel HB3.out hb5
                    clear hb5
                    obtain ⟨R, hR⟩ : ∃ R, R = strOf (EscE.enc 4 Z.data.toList) := ⟨_, rfl⟩
                    rw [← hR]
                    have HR5 := hid hR
                    clear hR
                    go_wp2_with (at_builtin; refine wpList_app rfl _ _ 24 rfl w.heap.size 9 i0 (.string ByteArray.empty) 16 Try.underlying24 hi hz0 hz1 hz2 rfl _ 0 _ rfl hown5 hbel5 hbel5.size [.string R] 1 rfl rfl (by intro u hu; simp at hu; subst hu; rfl) (by unfold maxLen; omega) (by omega) ?_)
                    intro v7 w7 hown7 hbel7
                    have HX : Hid (w7.ownsRow w.heap.size 9 1 v7 (l' ++ [R]).length ((l' ++ [R]).map Value.string)) := by show World.ownsRow _ _ _ _ _ _ _; rw [List.length_append, List.map_append, ← HM.out]; exact hown7
                    have HY := hid hbel7
                    clear hown5 hbel5 hown7 hbel7
                    have HLEN : Hid ((l' ++ [R]).length ≤ n0 + (k + 1)) := by show _ ≤ _; rw [List.length_append, ← HM.out]; show 0 + 1 ≤ _; omega
                    have FS : Hid (stp true false l' b = l' ++ [R]) := by show _ = _; rw [stp_oth true false l' b HD.out HG.out, HR5.out, HWR.out]
                    have FW : Hid (k + 1 ≤ s.size → S = wb true sp (l' ++ [R]) [] (s.data.toList.drop (k + 1))) := by intro h; rw [← FS.out]; exact FWS.out h
                    have FE : Hid (k + 1 = s.size + 1 → S = l' ++ [R]) := by intro h; rw [← FS.out]; exact FES.out h
                    go_wp2
                    go_roundw
                    case rel => exact ⟨k + 1, [], (l' ++ [R]), by omega, by go_num, rfl, by first | exact HLEN.out | omega, Nat.zero_le _, HX, HY, FW, FE⟩
                    case measure => simp [intOf]; omega
                  | true =>
                    obtain ⟨X, hX⟩ : ∃ X, X = Z.extract 0 1 := ⟨_, rfl⟩
                    have hx : Z.extract 0 1 = X := hX.symm
                    have hXd : X = strOf (b.take 1) := by rw [hX, Regs.ext_take, hZd.out]
                    obtain ⟨Y, hY⟩ : ∃ Y, Y = strOf (b.take 1 ++ [58]) := ⟨_, rfl⟩
                    have a1 : ∀ w : World, (Op.stringOp .add X ⟨#[58]⟩).run Try.prog w = .ok (.string Y) w := fun w => by
                      rw [hXd, hY]
                      exact str_add' _ ⟨#[58]⟩ w (by rw [size_strOf, List.length_take]; show _ + 1 ≤ _; omega)
                    have HXS : Hid (Y.size ≤ 1073741824) := by show _ ≤ _; rw [hY, size_strOf, List.length_append, List.length_take]; show _ + 1 ≤ _; omega
                    have h2 : b.length = 2 := drv_len _ hv
                    have q1 : (1 : Int) ≤ (Z.size : Int) := by have := HZS.out; omega
                    have q2 : 1 ≤ Z.size := by have := HZS.out; omega
                    have HWR : Hid (PthF.wr (true && l'.isEmpty) b = EscE.enc 4 Y.data.toList) := by
                      show _ = _
                      rw [HFE.out, hY]
                      show _ = EscE.enc 4 (b.take 1 ++ [58])
                      rw [enc_drive b hv]
                      unfold PthF.wr
                      rw [hv]
                      rfl
                    clear hv hX hXd hY h2
                    go_wp2_with fail
                    refine (enc4_any Y _ HXS.out).mono ?_
                    rintro e w5 ⟨rfl, hb5⟩
                    have hown5 := owns_below HO3.out hb5
                    have hbel5 : Below w.heap.size w w5 := bel HB3.out hb5
                    clear hb5
                    obtain ⟨R, hR⟩ : ∃ R, R = strOf (EscE.enc 4 Y.data.toList) := ⟨_, rfl⟩
                    rw [← hR]
                    have HR5 := hid hR
                    clear hR
                    go_wp2_with (at_builtin; refine wpList_app rfl _ _ 24 rfl w.heap.size 9 i0 (.string ByteArray.empty) 16 Try.underlying24 hi hz0 hz1 hz2 rfl _ 0 _ rfl hown5 hbel5 hbel5.size [.string R] 1 rfl rfl (by intro u hu; simp at hu; subst hu; rfl) (by unfold maxLen; omega) (by omega) ?_)
                    intro v7 w7 hown7 hbel7
                    have HX : Hid (w7.ownsRow w.heap.size 9 1 v7 (l' ++ [R]).length ((l' ++ [R]).map Value.string)) := by show World.ownsRow _ _ _ _ _ _ _; rw [List.length_append, List.map_append, ← HM.out]; exact hown7
                    have HY := hid hbel7
                    clear hown5 hbel5 hown7 hbel7
                    have HLEN : Hid ((l' ++ [R]).length ≤ n0 + (k + 1)) := by show _ ≤ _; rw [List.length_append, ← HM.out]; show 0 + 1 ≤ _; omega
                    have FS : Hid (stp true false l' b = l' ++ [R]) := by show _ = _; rw [stp_oth true false l' b HD.out HG.out, HR5.out, HWR.out]
                    have FW : Hid (k + 1 ≤ s.size → S = wb true sp (l' ++ [R]) [] (s.data.toList.drop (k + 1))) := by intro h; rw [← FS.out]; exact FWS.out h
                    have FE : Hid (k + 1 = s.size + 1 → S = l' ++ [R]) := by intro h; rw [← FS.out]; exact FES.out h
                    go_wp2
                    go_roundw
                    case rel => exact ⟨k + 1, [], (l' ++ [R]), by omega, by go_num, rfl, by first | exact HLEN.out | omega, Nat.zero_le _, HX, HY, FW, FE⟩
                    case measure => simp [intOf]; omega
          · subst hsp
            go_wp2_with fail
            refine (refDouble_any Z _ hzsm).mono ?_
            rintro e w2 ⟨rfl, hb2⟩
            rw [hZd.out]
            have HB2 : Hid (Below w.heap.size w w2) := bel HB.out hb2
            have HO2 : Hid (w2.ownsRow w.heap.size 9 1 (.slice vA m vc) m (l'.map Value.string)) := owns_below HOM.out hb2
            have HVR2 : Hid (Rds w2 vA m (l'.map Value.string)) := HVR.out.below hb2
            clear hb2
            cases hd : dbl b with
            | true =>
              have HD := hid hd
              clear hd
              have hownE : (w2.alloc (.cells #[] 9)).ownsRow w.heap.size 9 1 (.slice (some ⟨w2.heap.size, 0, none⟩) 0 0) 0 [] := owns_base (World.ownsRow_made w2 #[] 0 (Nat.le_refl _) (by decide) rfl) HB2.out.size
              have HOWNE := hid hownE
              clear hownE
              have HBE : Hid (Below w.heap.size w (w2.alloc (.cells #[] 9))) := HB2.out.alloc HB2.out.size _
              go_wp2_with fail
              refine (refShorten_any file vA m vc l' _ (HVR2.out.below ((Below.refl _ _).alloc (Nat.le_refl _) _)) hvnc HVC.out (by omega)).mono ?_
              rintro e w4 ⟨A4, n4, c4, rfl, hn4, hnc4, hcm4, hr4, hb4⟩
              have hle4 := length_sho_le file l'
              rw [← hn4, ← HM.out] at hle4
              have HN4 := hid hn4
              have HR4 := hid hr4
              have hown5 := owns_below HOWNE.out hb4
              have hbel5 : Below w.heap.size w w4 := bel HBE.out hb4
              have HCM4 := hid hcm4
              clear hn4 hr4 hb4 hcm4
              go_wp2_with (at_builtin; refine wpList_app_any rfl _ _ 24 rfl w.heap.size 9 i0 (.string ByteArray.empty) 16 Try.underlying24 hi hz0 hz1 hz2 rfl _ 0 [] rfl hown5 hbel5 hbel5.size A4 n4 c4 ((sho file l').map Value.string) rfl HR4.out (strs_one _) (by unfold maxLen; omega) (by omega) ?_)
              intro v6 w6 hown6 hbel6
              replace hown6 : w6.ownsRow w.heap.size 9 1 v6 n4 ((sho file l').map Value.string) := by simpa using hown6
              clear hown5 hbel5
              have HX : Hid (w6.ownsRow w.heap.size 9 1 v6 (sho file l').length ((sho file l').map Value.string)) := by show World.ownsRow _ _ _ _ _ _ _; rw [← HN4.out]; exact hown6
              have HY := hid hbel6
              clear hown6 hbel6
              have HLEN : Hid ((sho file l').length ≤ n0 + (k + 1)) := by show _ ≤ _; rw [← HN4.out]; omega
              have FS : Hid (stp file false l' b = (sho file l')) := stp_dbl file false l' b HD.out
              have FW : Hid (k + 1 ≤ s.size → S = wb file true (sho file l') [] (s.data.toList.drop (k + 1))) := by intro h; rw [← FS.out]; exact FWS.out h
              have FE : Hid (k + 1 = s.size + 1 → S = (sho file l')) := by intro h; rw [← FS.out]; exact FES.out h
              go_wp2
              go_roundw
              case rel => exact ⟨k + 1, [], (sho file l'), by omega, by go_num, rfl, by first | exact HLEN.out | omega, Nat.zero_le _, HX, HY, FW, FE⟩
              case measure => simp [intOf]; omega
            | false =>
              have HD := hid hd
              clear hd
              go_wp2_with fail
              refine (refSingle_any Z _ hzsm).mono ?_
              rintro e w3 ⟨rfl, hb3⟩
              rw [hZd.out]
              have HB3 : Hid (Below w.heap.size w w3) := bel HB2.out hb3
              have HO3 : Hid (w3.ownsRow w.heap.size 9 1 (.slice vA m vc) m (l'.map Value.string)) := owns_below HO2.out hb3
              clear hb3
              cases hg : sgl b with
              | true =>
                have HG := hid hg
                clear hg
                have HX : Hid (w3.ownsRow w.heap.size 9 1 (.slice vA m vc) l'.length (l'.map Value.string)) := by show World.ownsRow _ _ _ _ _ _ _; rw [← HM.out]; exact HO3.out
                have HY := HB3
                have HLEN : Hid (l'.length ≤ n0 + (k + 1)) := by show _ ≤ _; rw [← HM.out]; omega
                have FS : Hid (stp file false l' b = l') := stp_sgl file false l' b HD.out HG.out
                have FW : Hid (k + 1 ≤ s.size → S = wb file true l' [] (s.data.toList.drop (k + 1))) := by intro h; rw [← FS.out]; exact FWS.out h
                have FE : Hid (k + 1 = s.size + 1 → S = l') := by intro h; rw [← FS.out]; exact FES.out h
                go_wp2
                go_roundw
                case rel => exact ⟨k + 1, [], l', by omega, by go_num, rfl, by first | exact HLEN.out | omega, Nat.zero_le _, HX, HY, FW, FE⟩
                case measure => simp [intOf]; omega
              | false =>
                have HG := hid hg
                clear hg
                have hcase : (file && l'.isEmpty) = false ∧ (file = false ∨ (file = true ∧ ¬ m = 0)) ∨ (file && l'.isEmpty) = true ∧ file = true ∧ m = 0 := by
                  cases file with
                  | false => exact .inl ⟨rfl, .inl rfl⟩
                  | true =>
                    match l', HM.out with
                    | [], h => exact .inr ⟨rfl, rfl, h⟩
                    | _ :: _, h => exact .inl ⟨rfl, .inr ⟨rfl, by rw [h]; simp⟩⟩
                rcases hcase with ⟨hfe, hcase⟩ | ⟨hfe, hf, hm0⟩
                · have HWR : Hid (PthF.wr (file && l'.isEmpty) b = EscE.enc 4 Z.data.toList) := by show _ = _; rw [hfe, hZd.out]; rfl
                  clear hfe
                  rcases hcase with hf | ⟨hf, hm0⟩
                  · subst hf
                    go_wp2_with fail
                    refine (enc4_any Z _ hzsm).mono ?_
                    rintro e w5 ⟨rfl, hb5⟩
                    have hown5 := owns_below HO3.out hb5
                    have hbel5 : Below w.heap.size w w5 := bel HB3.out hb5
                    clear hb5
                    obtain ⟨R, hR⟩ : ∃ R, R = strOf (EscE.enc 4 Z.data.toList) := ⟨_, rfl⟩
                    rw [← hR]
                    have HR5 := hid hR
                    clear hR
                    go_wp2_with (at_builtin; refine wpList_app rfl _ _ 24 rfl w.heap.size 9 i0 (.string ByteArray.empty) 16 Try.underlying24 hi hz0 hz1 hz2 rfl _ m _ rfl hown5 hbel5 hbel5.size [.string R] 1 rfl rfl (by intro u hu; simp at hu; subst hu; rfl) (by unfold maxLen; omega) (by omega) ?_)
                    intro v7 w7 hown7 hbel7
                    have HX : Hid (w7.ownsRow w.heap.size 9 1 v7 (l' ++ [R]).length ((l' ++ [R]).map Value.string)) := by show World.ownsRow _ _ _ _ _ _ _; rw [List.length_append, List.map_append, ← HM.out]; exact hown7
                    have HY := hid hbel7
                    clear hown5 hbel5 hown7 hbel7
                    have HLEN : Hid ((l' ++ [R]).length ≤ n0 + (k + 1)) := by show _ ≤ _; rw [List.length_append, ← HM.out]; show m + 1 ≤ _; omega
                    have FS : Hid (stp false false l' b = l' ++ [R]) := by show _ = _; rw [stp_oth false false l' b HD.out HG.out, HR5.out, HWR.out]
                    have FW : Hid (k + 1 ≤ s.size → S = wb false true (l' ++ [R]) [] (s.data.toList.drop (k + 1))) := by intro h; rw [← FS.out]; exact FWS.out h
                    have FE : Hid (k + 1 = s.size + 1 → S = l' ++ [R]) := by intro h; rw [← FS.out]; exact FES.out h
                    go_wp2
                    go_roundw
                    case rel => exact ⟨k + 1, [], (l' ++ [R]), by omega, by go_num, rfl, by first | exact HLEN.out | omega, Nat.zero_le _, HX, HY, FW, FE⟩
                    case measure => simp [intOf]; omega
                  · subst hf
                    have q0 : ((m : Int) == 0) = false := by simp; omega
                    clear hm0
                    go_wp2_with fail
                    refine (enc4_any Z _ hzsm).mono ?_
                    rintro e w5 ⟨rfl, hb5⟩
                    have hown5 := owns_below HO3.out hb5
                    have hbel5 : Below w.heap.size w w5 := bel HB3.out hb5
                    clear hb5
                    obtain ⟨R, hR⟩ : ∃ R, R = strOf (EscE.enc 4 Z.data.toList) := ⟨_, rfl⟩
                    rw [← hR]
                    have HR5 := hid hR
                    clear hR
                    go_wp2_with (at_builtin; refine wpList_app rfl _ _ 24 rfl w.heap.size 9 i0 (.string ByteArray.empty) 16 Try.underlying24 hi hz0 hz1 hz2 rfl _ m _ rfl hown5 hbel5 hbel5.size [.string R] 1 rfl rfl (by intro u hu; simp at hu; subst hu; rfl) (by unfold maxLen; omega) (by omega) ?_)
                    intro v7 w7 hown7 hbel7
                    have HX : Hid (w7.ownsRow w.heap.size 9 1 v7 (l' ++ [R]).length ((l' ++ [R]).map Value.string)) := by show World.ownsRow _ _ _ _ _ _ _; rw [List.length_append, List.map_append, ← HM.out]; exact hown7
                    have HY := hid hbel7
                    clear hown5 hbel5 hown7 hbel7
                    have HLEN : Hid ((l' ++ [R]).length ≤ n0 + (k + 1)) := by show _ ≤ _; rw [List.length_append, ← HM.out]; show m + 1 ≤ _; omega
                    have FS : Hid (stp true false l' b = l' ++ [R]) := by show _ = _; rw [stp_oth true false l' b HD.out HG.out, HR5.out, HWR.out]
                    have FW : Hid (k + 1 ≤ s.size → S = wb true true (l' ++ [R]) [] (s.data.toList.drop (k + 1))) := by intro h; rw [← FS.out]; exact FWS.out h
                    have FE : Hid (k + 1 = s.size + 1 → S = l' ++ [R]) := by intro h; rw [← FS.out]; exact FES.out h
                    go_wp2
                    go_roundw
                    case rel => exact ⟨k + 1, [], (l' ++ [R]), by omega, by go_num, rfl, by first | exact HLEN.out | omega, Nat.zero_le _, HX, HY, FW, FE⟩
                    case measure => simp [intOf]; omega
                · subst hf
                  subst hm0
                  have HFE := hid hfe
                  clear hfe
                  go_wp2_with fail
                  refine (refDrive_any Z _).mono ?_
                  rintro e w8 ⟨rfl, hw8⟩
                  subst hw8
                  rw [hZd.out]
                  cases hv : drv b with
                  | false =>
                    have HWR : Hid (PthF.wr (true && l'.isEmpty) b = EscE.enc 4 Z.data.toList) := by show _ = _; rw [HFE.out, hZd.out]; unfold PthF.wr; rw [hv]; rfl
                    clear hv
                    go_wp2_with fail
                    refine (enc4_any Z _ hzsm).mono ?_
                    rintro e w5 ⟨rfl, hb5⟩
                    have hown5 := owns_below HO3.out hb5
                    have hbel5 : Below w.heap.size w w5 := bel HB3.out hb5
                    clear hb5
                    obtain ⟨R, hR⟩ : ∃ R, R = strOf (EscE.enc 4 Z.data.toList) := ⟨_, rfl⟩
                    rw [← hR]
                    have HR5 := hid hR
                    clear hR
                    go_wp2_with (at_builtin; refine wpList_app rfl _ _ 24 rfl w.heap.size 9 i0 (.string ByteArray.empty) 16 Try.underlying24 hi hz0 hz1 hz2 rfl _ 0 _ rfl hown5 hbel5 hbel5.size [.string R] 1 rfl rfl (by intro u hu; simp at hu; subst hu; rfl) (by unfold maxLen; omega) (by omega) ?_)
                    intro v7 w7 hown7 hbel7
                    have HX : Hid (w7.ownsRow w.heap.size 9 1 v7 (l' ++ [R]).length ((l' ++ [R]).map Value.string)) := by show World.ownsRow _ _ _ _ _ _ _; rw [List.length_append, List.map_append, ← HM.out]; exact hown7
                    have HY := hid hbel7
                    clear hown5 hbel5 hown7 hbel7
                    have HLEN : Hid ((l' ++ [R]).length ≤ n0 + (k + 1)) := by show _ ≤ _; rw [List.length_append, ← HM.out]; show 0 + 1 ≤ _; omega
                    have FS : Hid (stp true false l' b = l' ++ [R]) := by show _ = _; rw [stp_oth true false l' b HD.out HG.out, HR5.out, HWR.out]
                    have FW : Hid (k + 1 ≤ s.size → S = wb true true (l' ++ [R]) [] (s.data.toList.drop (k + 1))) := by intro h; rw [← FS.out]; exact FWS.out h
                    have FE : Hid (k + 1 = s.size + 1 → S = l' ++ [R]) := by intro h; rw [← FS.out]; exact FES.out h
                    go_wp2
                    go_roundw
                    case rel => exact ⟨k + 1, [], (l' ++ [R]), by omega, by go_num, rfl, by first | exact HLEN.out | omega, Nat.zero_le _, HX, HY, FW, FE⟩
                    case measure => simp [intOf]; omega
                  | true =>
                    obtain ⟨X, hX⟩ : ∃ X, X = Z.extract 0 1 := ⟨_, rfl⟩
                    have hx : Z.extract 0 1 = X := hX.symm
                    have hXd : X = strOf (b.take 1) := by rw [hX, Regs.ext_take, hZd.out]
                    obtain ⟨Y, hY⟩ : ∃ Y, Y = strOf (b.take 1 ++ [58]) := ⟨_, rfl⟩
                    have a1 : ∀ w : World, (Op.stringOp .add X ⟨#[58]⟩).run Try.prog w = .ok (.string Y) w := fun w => by
                      rw [hXd, hY]
                      exact str_add' _ ⟨#[58]⟩ w (by rw [size_strOf, List.length_take]; show _ + 1 ≤ _; omega)
                    have HXS : Hid (Y.size ≤ 1073741824) := by show _ ≤ _; rw [hY, size_strOf, List.length_append, List.length_take]; show _ + 1 ≤ _; omega
                    have h2 : b.length = 2 := drv_len _ hv
                    have q1 : (1 : Int) ≤ (Z.size : Int) := by have := HZS.out; omega
                    have q2 : 1 ≤ Z.size := by have := HZS.out; omega
                    have HWR : Hid (PthF.wr (true && l'.isEmpty) b = EscE.enc 4 Y.data.toList) := by
                      show _ = _
                      rw [HFE.out, hY]
                      show _ = EscE.enc 4 (b.take 1 ++ [58])
                      rw [enc_drive b hv]
                      unfold PthF.wr
                      rw [hv]
                      rfl
                    clear hv hX hXd hY h2
                    go_wp2_with fail
                    refine (enc4_any Y _ HXS.out).mono ?_
                    rintro e w5 ⟨rfl, hb5⟩
                    have hown5 := owns_below HO3.out hb5
                    have hbel5 : Below w.heap.size w w5 := bel HB3.out hb5
                    clear hb5
                    obtain ⟨R, hR⟩ : ∃ R, R = strOf (EscE.enc 4 Y.data.toList) := ⟨_, rfl⟩
                    rw [← hR]
                    have HR5 := hid hR
                    clear hR
                    go_wp2_with (at_builtin; refine wpList_app rfl _ _ 24 rfl w.heap.size 9 i0 (.string ByteArray.empty) 16 Try.underlying24 hi hz0 hz1 hz2 rfl _ 0 _ rfl hown5 hbel5 hbel5.size [.string R] 1 rfl rfl (by intro u hu; simp at hu; subst hu; rfl) (by unfold maxLen; omega) (by omega) ?_)
                    intro v7 w7 hown7 hbel7
                    have HX : Hid (w7.ownsRow w.heap.size 9 1 v7 (l' ++ [R]).length ((l' ++ [R]).map Value.string)) := by show World.ownsRow _ _ _ _ _ _ _; rw [List.length_append, List.map_append, ← HM.out]; exact hown7
                    have HY := hid hbel7
                    clear hown5 hbel5 hown7 hbel7
                    have HLEN : Hid ((l' ++ [R]).length ≤ n0 + (k + 1)) := by show _ ≤ _; rw [List.length_append, ← HM.out]; show 0 + 1 ≤ _; omega
                    have FS : Hid (stp true false l' b = l' ++ [R]) := by show _ = _; rw [stp_oth true false l' b HD.out HG.out, HR5.out, HWR.out]
                    have FW : Hid (k + 1 ≤ s.size → S = wb true true (l' ++ [R]) [] (s.data.toList.drop (k + 1))) := by intro h; rw [← FS.out]; exact FWS.out h
                    have FE : Hid (k + 1 = s.size + 1 → S = l' ++ [R]) := by intro h; rw [← FS.out]; exact FES.out h
                    go_wp2
                    go_roundw
                    case rel => exact ⟨k + 1, [], (l' ++ [R]), by omega, by go_num, rfl, by first | exact HLEN.out | omega, Nat.zero_le _, HX, HY, FW, FE⟩
                    case measure => simp [intOf]; omega
      · have hke : k = s.size := by omega
        have q1 : ((k : Int) == (s.size : Int)) = true := by simp; omega
        have FWS : Hid (k + 1 ≤ s.size → S = wb file sp (stp file true l' b) [] (s.data.toList.drop (k + 1))) := fun h => absurd h (by omega)
        have FES : Hid (k + 1 = s.size + 1 → S = stp file true l' b) := by intro _; rw [HW'.out, wb_end file sp l' b _ _ (by rw [HSL.out]; exact hke)]
        clear HW' hke hkn
        go_wp2_with fail
        refine (refDouble_any Z _ hzsm).mono ?_
        rintro e w2 ⟨rfl, hb2⟩
        rw [hZd.out]
        have HB2 : Hid (Below w.heap.size w w2) := bel HB.out hb2
        have HO2 : Hid (w2.ownsRow w.heap.size 9 1 (.slice vA m vc) m (l'.map Value.string)) := owns_below HOM.out hb2
        have HVR2 : Hid (Rds w2 vA m (l'.map Value.string)) := HVR.out.below hb2
        clear hb2
        cases hd : dbl b with
        | true =>
          have HD := hid hd
          clear hd
          have hownE : (w2.alloc (.cells #[] 9)).ownsRow w.heap.size 9 1 (.slice (some ⟨w2.heap.size, 0, none⟩) 0 0) 0 [] := owns_base (World.ownsRow_made w2 #[] 0 (Nat.le_refl _) (by decide) rfl) HB2.out.size
          have HOWNE := hid hownE
          clear hownE
          have HBE : Hid (Below w.heap.size w (w2.alloc (.cells #[] 9))) := HB2.out.alloc HB2.out.size _
          go_wp2_with fail
          refine (refShorten_any file vA m vc l' _ (HVR2.out.below ((Below.refl _ _).alloc (Nat.le_refl _) _)) hvnc HVC.out (by omega)).mono ?_
          rintro e w4 ⟨A4, n4, c4, rfl, hn4, hnc4, hcm4, hr4, hb4⟩
          have hle4 := length_sho_le file l'
          rw [← hn4, ← HM.out] at hle4
          have HN4 := hid hn4
          have HR4 := hid hr4
          have hown5 := owns_below HOWNE.out hb4
          have hbel5 : Below w.heap.size w w4 := bel HBE.out hb4
          have HCM4 := hid hcm4
          clear hn4 hr4 hb4 hcm4
          go_wp2_with (at_builtin; refine wpList_app_any rfl _ _ 24 rfl w.heap.size 9 i0 (.string ByteArray.empty) 16 Try.underlying24 hi hz0 hz1 hz2 rfl _ 0 [] rfl hown5 hbel5 hbel5.size A4 n4 c4 ((sho file l').map Value.string) rfl HR4.out (strs_one _) (by unfold maxLen; omega) (by omega) ?_)
          intro v6 w6 hown6 hbel6
          replace hown6 : w6.ownsRow w.heap.size 9 1 v6 n4 ((sho file l').map Value.string) := by simpa using hown6
          clear hown5 hbel5
          go_wp2_with (at_builtin; refine wpList_app rfl _ _ 24 rfl w.heap.size 9 i0 (.string ByteArray.empty) 16 Try.underlying24 hi hz0 hz1 hz2 rfl _ n4 _ rfl hown6 hbel6 hbel6.size [.string (strOf [])] 1 rfl rfl (by intro u hu; simp at hu; subst hu; rfl) (by unfold maxLen; omega) (by omega) ?_)
          intro v7 w7 hown7 hbel7
          have HX : Hid (w7.ownsRow w.heap.size 9 1 v7 (sho file l' ++ [strOf []]).length ((sho file l' ++ [strOf []]).map Value.string)) := by show World.ownsRow _ _ _ _ _ _ _; rw [List.length_append, List.map_append, ← HN4.out]; exact hown7
          have HY := hid hbel7
          clear hown6 hbel6 hown7 hbel7
          have HLEN : Hid ((sho file l' ++ [strOf []]).length ≤ n0 + (k + 1)) := by show _ ≤ _; rw [List.length_append, ← HN4.out]; show n4 + 1 ≤ _; omega
          have FS : Hid (stp file true l' b = (sho file l' ++ [strOf []])) := stp_dbl file true l' b HD.out
          have FW : Hid (k + 1 ≤ s.size → S = wb file sp (sho file l' ++ [strOf []]) [] (s.data.toList.drop (k + 1))) := by intro h; rw [← FS.out]; exact FWS.out h
          have FE : Hid (k + 1 = s.size + 1 → S = (sho file l' ++ [strOf []])) := by intro h; rw [← FS.out]; exact FES.out h
          go_wp2
          go_roundw
          case rel => exact ⟨k + 1, [], (sho file l' ++ [strOf []]), by omega, by go_num, rfl, by first | exact HLEN.out | omega, Nat.zero_le _, HX, HY, FW, FE⟩
          case measure => simp [intOf]; omega
        | false =>
          have HD := hid hd
          clear hd
          go_wp2_with fail
          refine (refSingle_any Z _ hzsm).mono ?_
          rintro e w3 ⟨rfl, hb3⟩
          rw [hZd.out]
          have HB3 : Hid (Below w.heap.size w w3) := bel HB2.out hb3
          have HO3 : Hid (w3.ownsRow w.heap.size 9 1 (.slice vA m vc) m (l'.map Value.string)) := owns_below HO2.out hb3
          clear hb3
          cases hg : sgl b with
          | true =>
            have HG := hid hg
            clear hg
            have hown3 := HO3.out
            have hbel3 := HB3.out
            go_wp2_with (at_builtin; refine wpList_app rfl _ _ 24 rfl w.heap.size 9 i0 (.string ByteArray.empty) 16 Try.underlying24 hi hz0 hz1 hz2 rfl _ m _ rfl hown3 hbel3 hbel3.size [.string (strOf [])] 1 rfl rfl (by intro u hu; simp at hu; subst hu; rfl) (by unfold maxLen; omega) (by omega) ?_)
            intro v7 w7 hown7 hbel7
            have HX : Hid (w7.ownsRow w.heap.size 9 1 v7 (l' ++ [strOf []]).length ((l' ++ [strOf []]).map Value.string)) := by show World.ownsRow _ _ _ _ _ _ _; rw [List.length_append, List.map_append, ← HM.out]; exact hown7
            have HY := hid hbel7
            clear hown3 hbel3 hown7 hbel7
            have HLEN : Hid ((l' ++ [strOf []]).length ≤ n0 + (k + 1)) := by show _ ≤ _; rw [List.length_append, ← HM.out]; show m + 1 ≤ _; omega
            have FS : Hid (stp file true l' b = (l' ++ [strOf []])) := stp_sgl file true l' b HD.out HG.out
            have FW : Hid (k + 1 ≤ s.size → S = wb file sp (l' ++ [strOf []]) [] (s.data.toList.drop (k + 1))) := by intro h; rw [← FS.out]; exact FWS.out h
            have FE : Hid (k + 1 = s.size + 1 → S = (l' ++ [strOf []])) := by intro h; rw [← FS.out]; exact FES.out h
            go_wp2
            go_roundw
            case rel => exact ⟨k + 1, [], (l' ++ [strOf []]), by omega, by go_num, rfl, by first | exact HLEN.out | omega, Nat.zero_le _, HX, HY, FW, FE⟩
            case measure => simp [intOf]; omega
          | false =>
            have HG := hid hg
            clear hg
            have hcase : (file && l'.isEmpty) = false ∧ (file = false ∨ (file = true ∧ ¬ m = 0)) ∨ (file && l'.isEmpty) = true ∧ file = true ∧ m = 0 := by
              cases file with
              | false => exact .inl ⟨rfl, .inl rfl⟩
              | true =>
                match l', HM.out with
                | [], h => exact .inr ⟨rfl, rfl, h⟩
                | _ :: _, h => exact .inl ⟨rfl, .inr ⟨rfl, by rw [h]; simp⟩⟩
            rcases hcase with ⟨hfe, hcase⟩ | ⟨hfe, hf, hm0⟩
            · have HWR : Hid (PthF.wr (file && l'.isEmpty) b = EscE.enc 4 Z.data.toList) := by show _ = _; rw [hfe, hZd.out]; rfl
              clear hfe
              rcases hcase with hf | ⟨hf, hm0⟩
              · subst hf
                go_wp2_with fail
                refine (enc4_any Z _ hzsm).mono ?_
                rintro e w5 ⟨rfl, hb5⟩
                have hown5 := owns_below HO3.out hb5
                have hbel5 : Below w.heap.size w w5 := bel HB3.out hb5
                clear hb5
                obtain ⟨R, hR⟩ : ∃ R, R = strOf (EscE.enc 4 Z.data.toList) := ⟨_, rfl⟩
                rw [← hR]
                have HR5 := hid hR
                clear hR
                go_wp2_with (at_builtin; refine wpList_app rfl _ _ 24 rfl w.heap.size 9 i0 (.string ByteArray.empty) 16 Try.underlying24 hi hz0 hz1 hz2 rfl _ m _ rfl hown5 hbel5 hbel5.size [.string R] 1 rfl rfl (by intro u hu; simp at hu; subst hu; rfl) (by unfold maxLen; omega) (by omega) ?_)
                intro v7 w7 hown7 hbel7
                have HX : Hid (w7.ownsRow w.heap.size 9 1 v7 (l' ++ [R]).length ((l' ++ [R]).map Value.string)) := by show World.ownsRow _ _ _ _ _ _ _; rw [List.length_append, List.map_append, ← HM.out]; exact hown7
                have HY := hid hbel7
                clear hown5 hbel5 hown7 hbel7
                have HLEN : Hid ((l' ++ [R]).length ≤ n0 + (k + 1)) := by show _ ≤ _; rw [List.length_append, ← HM.out]; show m + 1 ≤ _; omega
                have FS : Hid (stp false true l' b = l' ++ [R]) := by show _ = _; rw [stp_oth false true l' b HD.out HG.out, HR5.out, HWR.out]
                have FW : Hid (k + 1 ≤ s.size → S = wb false sp (l' ++ [R]) [] (s.data.toList.drop (k + 1))) := by intro h; rw [← FS.out]; exact FWS.out h
                have FE : Hid (k + 1 = s.size + 1 → S = l' ++ [R]) := by intro h; rw [← FS.out]; exact FES.out h
                go_wp2
                go_roundw
                case rel => exact ⟨k + 1, [], (l' ++ [R]), by omega, by go_num, rfl, by first | exact HLEN.out | omega, Nat.zero_le _, HX, HY, FW, FE⟩
                case measure => simp [intOf]; omega
              · subst hf
                have q0 : ((m : Int) == 0) = false := by simp; omega
                clear hm0
                go_wp2_with fail
                refine (enc4_any Z _ hzsm).mono ?_
                rintro e w5 ⟨rfl, hb5⟩
                have hown5 := owns_below HO3.out hb5
                have hbel5 : Below w.heap.size w w5 := bel HB3.out hb5
                clear hb5
                obtain ⟨R, hR⟩ : ∃ R, R = strOf (EscE.enc 4 Z.data.toList) := ⟨_, rfl⟩
                rw [← hR]
                have HR5 := hid hR
                clear hR
                go_wp2_with (at_builtin; refine wpList_app rfl _ _ 24 rfl w.heap.size 9 i0 (.string ByteArray.empty) 16 Try.underlying24 hi hz0 hz1 hz2 rfl _ m _ rfl hown5 hbel5 hbel5.size [.string R] 1 rfl rfl (by intro u hu; simp at hu; subst hu; rfl) (by unfold maxLen; omega) (by omega) ?_)
                intro v7 w7 hown7 hbel7
                have HX : Hid (w7.ownsRow w.heap.size 9 1 v7 (l' ++ [R]).length ((l' ++ [R]).map Value.string)) := by show World.ownsRow _ _ _ _ _ _ _; rw [List.length_append, List.map_append, ← HM.out]; exact hown7
                have HY := hid hbel7
                clear hown5 hbel5 hown7 hbel7
                have HLEN : Hid ((l' ++ [R]).length ≤ n0 + (k + 1)) := by show _ ≤ _; rw [List.length_append, ← HM.out]; show m + 1 ≤ _; omega
                have FS : Hid (stp true true l' b = l' ++ [R]) := by show _ = _; rw [stp_oth true true l' b HD.out HG.out, HR5.out, HWR.out]
                have FW : Hid (k + 1 ≤ s.size → S = wb true sp (l' ++ [R]) [] (s.data.toList.drop (k + 1))) := by intro h; rw [← FS.out]; exact FWS.out h
                have FE : Hid (k + 1 = s.size + 1 → S = l' ++ [R]) := by intro h; rw [← FS.out]; exact FES.out h
                go_wp2
                go_roundw
                case rel => exact ⟨k + 1, [], (l' ++ [R]), by omega, by go_num, rfl, by first | exact HLEN.out | omega, Nat.zero_le _, HX, HY, FW, FE⟩
                case measure => simp [intOf]; omega
            · subst hf
              subst hm0
              have HFE := hid hfe
              clear hfe
              go_wp2_with fail
              refine (refDrive_any Z _).mono ?_
              rintro e w8 ⟨rfl, hw8⟩
              subst hw8
              rw [hZd.out]
              cases hv : drv b with
              | false =>
                have HWR : Hid (PthF.wr (true && l'.isEmpty) b = EscE.enc 4 Z.data.toList) := by show _ = _; rw [HFE.out, hZd.out]; unfold PthF.wr; rw [hv]; rfl
                clear hv
                go_wp2_with fail
                refine (enc4_any Z _ hzsm).mono ?_
                rintro e w5 ⟨rfl, hb5⟩
                have hown5 := owns_below HO3.out hb5
                have hbel5 : Below w.heap.size w w5 := bel HB3.out hb5
                clear hb5
                obtain ⟨R, hR⟩ : ∃ R, R = strOf (EscE.enc 4 Z.data.toList) := ⟨_, rfl⟩
                rw [← hR]
                have HR5 := hid hR
                clear hR
                go_wp2_with (at_builtin; refine wpList_app rfl _ _ 24 rfl w.heap.size 9 i0 (.string ByteArray.empty) 16 Try.underlying24 hi hz0 hz1 hz2 rfl _ 0 _ rfl hown5 hbel5 hbel5.size [.string R] 1 rfl rfl (by intro u hu; simp at hu; subst hu; rfl) (by unfold maxLen; omega) (by omega) ?_)
                intro v7 w7 hown7 hbel7
                have HX : Hid (w7.ownsRow w.heap.size 9 1 v7 (l' ++ [R]).length ((l' ++ [R]).map Value.string)) := by show World.ownsRow _ _ _ _ _ _ _; rw [List.length_append, List.map_append, ← HM.out]; exact hown7
                have HY := hid hbel7
                clear hown5 hbel5 hown7 hbel7
                have HLEN : Hid ((l' ++ [R]).length ≤ n0 + (k + 1)) := by show _ ≤ _; rw [List.length_append, ← HM.out]; show 0 + 1 ≤ _; omega
                have FS : Hid (stp true true l' b = l' ++ [R]) := by show _ = _; rw [stp_oth true true l' b HD.out HG.out, HR5.out, HWR.out]
                have FW : Hid (k + 1 ≤ s.size → S = wb true sp (l' ++ [R]) [] (s.data.toList.drop (k + 1))) := by intro h; rw [← FS.out]; exact FWS.out h
                have FE : Hid (k + 1 = s.size + 1 → S = l' ++ [R]) := by intro h; rw [← FS.out]; exact FES.out h
                go_wp2
                go_roundw
                case rel => exact ⟨k + 1, [], (l' ++ [R]), by omega, by go_num, rfl, by first | exact HLEN.out | omega, Nat.zero_le _, HX, HY, FW, FE⟩
                case measure => simp [intOf]; omega
              | true =>
                obtain ⟨X, hX⟩ : ∃ X, X = Z.extract 0 1 := ⟨_, rfl⟩
                have hx : Z.extract 0 1 = X := hX.symm
                have hXd : X = strOf (b.take 1) := by rw [hX, Regs.ext_take, hZd.out]
                obtain ⟨Y, hY⟩ : ∃ Y, Y = strOf (b.take 1 ++ [58]) := ⟨_, rfl⟩
                have a1 : ∀ w : World, (Op.stringOp .add X ⟨#[58]⟩).run Try.prog w = .ok (.string Y) w := fun w => by
                  rw [hXd, hY]
                  exact str_add' _ ⟨#[58]⟩ w (by rw [size_strOf, List.length_take]; show _ + 1 ≤ _; omega)
                have HXS : Hid (Y.size ≤ 1073741824) := by show _ ≤ _; rw [hY, size_strOf, List.length_append, List.length_take]; show _ + 1 ≤ _; omega
                have h2 : b.length = 2 := drv_len _ hv
                have q1 : (1 : Int) ≤ (Z.size : Int) := by have := HZS.out; omega
                have q2 : 1 ≤ Z.size := by have := HZS.out; omega
                have HWR : Hid (PthF.wr (true && l'.isEmpty) b = EscE.enc 4 Y.data.toList) := by
                  show _ = _
                  rw [HFE.out, hY]
                  show _ = EscE.enc 4 (b.take 1 ++ [58])
                  rw [enc_drive b hv]
                  unfold PthF.wr
                  rw [hv]
                  rfl
                clear hv hX hXd hY h2
                go_wp2_with fail
                refine (enc4_any Y _ HXS.out).mono ?_
                rintro e w5 ⟨rfl, hb5⟩
                have hown5 := owns_below HO3.out hb5
                have hbel5 : Below w.heap.size w w5 := bel HB3.out hb5
                clear hb5
                obtain ⟨R, hR⟩ : ∃ R, R = strOf (EscE.enc 4 Y.data.toList) := ⟨_, rfl⟩
                rw [← hR]
                have HR5 := hid hR
                clear hR
                go_wp2_with (at_builtin; refine wpList_app rfl _ _ 24 rfl w.heap.size 9 i0 (.string ByteArray.empty) 16 Try.underlying24 hi hz0 hz1 hz2 rfl _ 0 _ rfl hown5 hbel5 hbel5.size [.string R] 1 rfl rfl (by intro u hu; simp at hu; subst hu; rfl) (by unfold maxLen; omega) (by omega) ?_)
                intro v7 w7 hown7 hbel7
                have HX : Hid (w7.ownsRow w.heap.size 9 1 v7 (l' ++ [R]).length ((l' ++ [R]).map Value.string)) := by show World.ownsRow _ _ _ _ _ _ _; rw [List.length_append, List.map_append, ← HM.out]; exact hown7
                have HY := hid hbel7
                clear hown5 hbel5 hown7 hbel7
                have HLEN : Hid ((l' ++ [R]).length ≤ n0 + (k + 1)) := by show _ ≤ _; rw [List.length_append, ← HM.out]; show 0 + 1 ≤ _; omega
                have FS : Hid (stp true true l' b = l' ++ [R]) := by show _ = _; rw [stp_oth true true l' b HD.out HG.out, HR5.out, HWR.out]
                have FW : Hid (k + 1 ≤ s.size → S = wb true sp (l' ++ [R]) [] (s.data.toList.drop (k + 1))) := by intro h; rw [← FS.out]; exact FWS.out h
                have FE : Hid (k + 1 = s.size + 1 → S = l' ++ [R]) := by intro h; rw [← FS.out]; exact FES.out h
                go_wp2
                go_roundw
                case rel => exact ⟨k + 1, [], (l' ++ [R]), by omega, by go_num, rfl, by first | exact HLEN.out | omega, Nat.zero_le _, HX, HY, FW, FE⟩
                case measure => simp [intOf]; omega
    · obtain rfl : k = s.size + 1 := by omega
      have HX : Hid (Owned w.heap.size w S (.returned (.slice vA m vc)) wr) := ⟨_, rfl, by rw [HE.out rfl, ← HM.out]; exact HOM.out, HB.out⟩
      go_wp2
      go_ret
      exact HX.out
end Go.Proofs.Ytpodicomfmkpcaa.PthN
