/- The law ParseLong, walked. -/
import Derived.Test.YtaooiggckcfanaaGreatDoorMS
import Derived.Test.YtaooiggckcfanaaGreatDoorSmz
import Derived.Test.YtaooiggckcfanaaGreatDoorAppZ
namespace Go.Proofs.YtaooiggckcfanaaGreatDoor.Laws
open Go.RowKit Go.Proofs.YtaooiggckcfanaaGreatDoor.Base Go.Proofs.YtaooiggckcfanaaGreatDoor.Base2 Go.Proofs.YtaooiggckcfanaaGreatDoor.UtfL Go.Proofs.YtaooiggckcfanaaGreatDoor.UrlA Go.Proofs.YtaooiggckcfanaaGreatDoor.UrlC Go.Proofs.YtaooiggckcfanaaGreatDoor.UrlF Go.Proofs.YtaooiggckcfanaaGreatDoor.HstC Go.Proofs.YtaooiggckcfanaaGreatDoor.PrsP Go.Proofs.YtaooiggckcfanaaGreatDoor.Ubx Go.Proofs.YtaooiggckcfanaaGreatDoor.PrsC Go.Proofs.YtaooiggckcfanaaGreatDoor.PrsD Go.Proofs.YtaooiggckcfanaaGreatDoor.SixG Go.Proofs.YtaooiggckcfanaaGreatDoor.Spl Go.Proofs.YtaooiggckcfanaaGreatDoor.PrsG Go.Proofs.YtaooiggckcfanaaGreatDoor.PrsR Go.Proofs.YtaooiggckcfanaaGreatDoor.PrsS Go.Proofs.YtaooiggckcfanaaGreatDoor.PrsV Go.Proofs.YtaooiggckcfanaaGreatDoor.PrsY Go.Proofs.YtaooiggckcfanaaGreatDoor.Ulw Go.Proofs.YtaooiggckcfanaaGreatDoor.PrsW Go.Proofs.YtaooiggckcfanaaGreatDoor.AppZ

def lenV : Value → Nat
  | .slice _ n _ => n
  | _ => 0
set_option linter.unusedSimpArgs false in
set_option maxRecDepth 100000 in
set_option maxHeartbeats 8000000 in
theorem ParseLong_any (s : ByteArray) (k : Int) (w : World) (hs : s.size ≤ 140737488351232) (hk : 0 ≤ k ∧ k ≤ 255) (hT : Tab.Pow w) (hL : Lad w) (hM : Max w) (hU : Utab w) : Calls Tryz.prog 7 #[.string s, .int .u8 k] w fun e w' => e = .returned (.bool true) ∧ Below w.heap.size w w' := by
  have HE := hid (⟨hT, hL, hM, hU⟩ : Env w)
  have HAW : Hid (∀ w : World, Env w → Calls Tryz.prog 15 #[] w fun e w' => e = .returned (.bool true) ∧ Below w.heap.size w w') := fun w E => awake_any w E
  clear hT hL hM hU
  obtain ⟨k0, k1⟩ := hk
  by_cases hl : s.size ≤ 100
  · have hli : ¬ (100 : Int) < (s.size : Int) := by omega
    obtain ⟨u0, hu0⟩ : ∃ u0, u0 = U0 := ⟨_, rfl⟩
    have HU0 := hid hu0
    have HPL : Hid (∀ (T : ByteArray) (w : World), 65536 < T.size → Calls Tryz.prog 16 #[.string T, .pointer none] w fun e w' => e = .returned (.tuple #[.agg #[.string (strOf u0.sch), .string (strOf u0.usr), .string (strOf u0.pwd), .string (strOf u0.hst), .bool u0.hh, .int .i64 u0.port, .bool u0.opq, .string (strOf u0.txt), .slice none 0 0, .bool u0.hq, .bool u0.hf, .string (strOf u0.qry), .string (strOf u0.frg)], .int .i64 3]) ∧ Below w.heap.size w w') := fun T w h => by rw [hu0]; exact parseLong_any T _ w h (.inl rfl)
    have HSZ : Hid (∀ (w : World), Calls Tryz.prog 21 #[.agg #[.string (strOf u0.sch), .string (strOf u0.usr), .string (strOf u0.pwd), .string (strOf u0.hst), .bool u0.hh, .int .i64 u0.port, .bool u0.opq, .string (strOf u0.txt), .slice none 0 0, .bool u0.hq, .bool u0.hf, .string (strOf u0.qry), .string (strOf u0.frg)], .agg #[.string ⟨#[]⟩, .string ⟨#[]⟩, .string ⟨#[]⟩, .string ⟨#[]⟩, .bool false, .int .i64 0, .bool false, .string ⟨#[]⟩, .slice none 0 0, .bool false, .bool false, .string ⟨#[]⟩, .string ⟨#[]⟩]] w fun e w' => e = .returned (.bool true) ∧ Below w.heap.size w w') := fun w => Smz.same_zero hu0 none 0 0 w ⟨by rw [hu0]; exact pth_nil w rfl⟩
    obtain ⟨i0, hi, hz0, hz1, hz2⟩ := info_parts info_u8
    obtain ⟨T, hTT⟩ : ∃ T : Nat, T = 65537 + k.toNat := ⟨_, rfl⟩
    have hTk : (T : Int) = 65537 + k := by omega
    have hcv := fun (w : World) s => run_bytes_of_string (P := Tryz.prog) w 9 38 5 s Tryz.underlying9 Tryz.underlying38 Tryz.underlying5
    have HCV := hid hcv
    clear hcv hu0 hTT hs
    go_enter Tryz.func7, Tryz.ntmps7
    go_wp2_with fail
    refine (HAW.out _ HE.out).mono ?_
    rintro e w1 ⟨rfl, hb⟩
    have HB1 := hid hb
    have E_1 := hid (HE.out.below hb)
    clear hb
    have hcv := HCV.out
    go_wp2
    clear hcv
    have hge := grownCap_ge w1 s.size 0 5
    have hcm := grownCap_le_maxLen w1 s.size 0 5 (by unfold maxLen; omega)
    have hmade := OwnZ.made w1.drew w1 s _ rfl hge hcm
    have hb0 : Below w.heap.size w _ := bel HB1.out (((Below.refl w1.heap.size w1).drew).alloc (Nat.le_refl _) (.cells (bytesRow s (grownCap w1 s.size 0 5)) 5 ((bytesRow s (grownCap w1 s.size 0 5)).size, (bytesRow s (grownCap w1 s.size 0 5)).size + 1)))
    have hlw := HB1.out.size
    go_loopw [5] (fun v wr => ∃ (j : Nat), j ≤ T ∧ ∃ L, Hid (OwnZ wr w1.heap.size v j L) ∧ Hid (Below w1.heap.size w1 wr)) (fun v _ => T - lenV v)
    case atStart => exact ⟨s.size, by omega, _, hmade, ((Below.refl w1.heap.size w1).drew).alloc (Nat.le_refl _) _⟩
    case round =>
      clear hmade hb0 hge hcm
      obtain ⟨j, hj, L, HO, HBL⟩ := hrel
      obtain ⟨g, cap, hv, hnc, hcp, hrd⟩ := HO.out.rds
      subst hv
      have HO2 := hid HO.out
      have HRD := hid hrd
      clear hrd HO
      by_cases hlt : j < T
      · have q1 : (j : Int) ≤ 65536 + k := by omega
        clear hlt
        go_wp2_with (at_builtin; refine wpList_appz rfl _ _ 38 rfl w1.heap.size i0 Tryz.underlying38 hi hz0 hz1 hz2 _ j _ rfl HO2.out HBL.out HBL.out.size 97 97 rfl rfl (by omega) ?_)
        intro v' w2 hown2 hbel2
        obtain ⟨g', cap', hv', _, _, _⟩ := hown2.rds
        subst hv'
        have HOW := hid hown2
        have HBW := hid hbel2
        clear hown2 hbel2 HO2 HBL HRD
        go_wp2
        go_roundw
        case rel => exact ⟨j + 1, by omega, _, HOW.out, HBW.out⟩
        case measure => simp [lenV]; omega
      · obtain rfl : j = T := by omega
        have q1 : ¬ (j : Int) ≤ 65536 + k := by omega
        have hLn := HO2.out.1
        have hJs : 65536 < (strOf L).size := by rw [size_strOf, hLn]; omega
        have HJS := hid hJs
        clear hJs hLn
        have hst := run_string_of 38 9 5 Tryz.underlying38 Tryz.underlying5 Tryz.underlying9 _ cap HRD.out
        have HBQ := hid (bel HB1.out HBL.out)
        go_wp2_with fail
        clear hst
        refine (HPL.out _ _ HJS.out).mono ?_
        rintro e w21 ⟨rfl, hb⟩
        have HB21 := hid (bel HBQ.out hb)
        clear hb
        go_upto_region 7 with (fail)
        generalize hwa : World.alloc _ _ = v22
        have hxa : UB v22 (w21.heap.size) u0 (.slice none 0 0) := by rw [← hwa]; exact heap_alloc_new _ _
        have hb : Below w21.heap.size w21 v22 := by rw [← hwa]; exact (Below.refl _ _).alloc (Nat.le_refl _) _
        have X1 := hid hxa
        clear hwa hxa
        have HB22 := hid (bel HB21.out hb)
        clear hb
        obtain ⟨ka0, ka1, ka2, ka3, ka4, ka5, ka6, ka7, ka8, ka9, ka10, ka11, ka12⟩ := X1.out.facts
        go_wp2_with fail
        clear ka0 ka1 ka2 ka3 ka4 ka5 ka6 ka7 ka8 ka9 ka10 ka11 ka12
        refine (HSZ.out _).mono ?_
        rintro e w23 ⟨rfl, hb⟩
        have HB23 := hid (bel HB22.out hb)
        have X1_23 := hid (X1.out.below hb)
        clear hb
        go_wp2
        go_ret
        exact ⟨rfl, HB23.out⟩
  · have hli : (100 : Int) < (s.size : Int) := by omega
    go_enter Tryz.func7, Tryz.ntmps7
    go_wp2_with fail
    refine (HAW.out _ HE.out).mono ?_
    rintro e w1 ⟨rfl, hb⟩
    have HB1 := hid hb
    have E_1 := hid (HE.out.below hb)
    clear hb
    go_wp2_with fail
    refine (HAW.out _ E_1.out).mono ?_
    rintro e w2 ⟨rfl, hb⟩
    have HB2 := hid (bel HB1.out hb)
    have E_2 := hid (E_1.out.below hb)
    clear hb
    go_wp2
    go_ret
    exact ⟨rfl, HB2.out⟩
end Go.Proofs.YtaooiggckcfanaaGreatDoor.Laws
