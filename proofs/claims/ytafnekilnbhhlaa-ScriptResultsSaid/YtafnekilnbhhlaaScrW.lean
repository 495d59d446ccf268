/- Scripts: an operation is written. -/
import Derived.Test.YtafnekilnbhhlaaScrB
namespace Go.Proofs.Ytafnekilnbhhlaa.ScrW
open Go.RowKit Go.Proofs.Ytafnekilnbhhlaa.Base Go.Proofs.Ytafnekilnbhhlaa.Base2 Go.Proofs.Ytafnekilnbhhlaa.AnsP Go.Proofs.Ytafnekilnbhhlaa.AnsW Go.Proofs.Ytafnekilnbhhlaa.ScrP Go.Proofs.Ytafnekilnbhhlaa.ScrB

theorem OB.keep {w w' : World} {g : Nat} {o : O} (h : OB 37 w g o) (hk : KeepW w w') : OB 37 w' g o := hk g _ _ _ (by decide) (by decide) h
structure Small (o : O) : Prop where
  fits : Fits o
  s : o.s.length ≤ 1000000
  t : o.t.length ≤ 1000000
  c : o.c.length ≤ 1000000
  d : o.d.length ≤ 1000000
set_option maxRecDepth 100000 in
set_option maxHeartbeats 8000000 in
theorem write_any (B gw : Nat) (L : List UInt8) (o : O) (w : World) (h : IsW B gw L w) (hs : Small o) (hl : L.length ≤ 500000000) :
    Calls Try.prog 18 #[.pointer (some ⟨gw, 0, none⟩), val o] w fun e w' => e = .returned (.tuple #[]) ∧ IsW B gw (L ++ enco o) w' ∧ Below B w w' ∧ KeepW w w' := by
  have hB : B ≤ w.heap.size := by have := h.lt; obtain ⟨_, _, _, h3⟩ := h; omega
  have HH := hid h
  have HBB := hid hB
  have HS := hid hs
  have HL0 : Hid (L.length ≤ 500000000) := hl
  clear h hs hl hB
  go_enter Try.func18, Try.ntmps18
  go_upto_region 1 with (fail)
  generalize hw : World.alloc w _ = W0
  have h1 : OB 37 W0 w.heap.size o ∧ Below w.heap.size w W0 := by
    subst hw
    exact ⟨OB.new _ w o, (Below.refl _ _).alloc (Nat.le_refl _) _⟩
  have HO0 := hid h1.1
  have HW0 := hid (HH.out.below h1.2)
  have HB0 := hid (h1.2.mono HBB.out)
  have HK0 := hid (KeepW.below h1.2)
  clear h1 hw HH HBB
  have c0 := HO0.out.cell 0 (v := .int .u8 (o.k : Int)) rfl
  go_wp2_with fail
  clear c0
  refine (u8w_keep B gw o.k L _ HW0.out HS.out.fits.k (by have := HL0.out; omega)).mono ?_
  rintro e w1 ⟨rfl, hw, hb, hk⟩
  obtain ⟨M1, hM⟩ : ∃ M, M = L ++ be o.k 1 := ⟨_, rfl⟩
  rw [← hM] at hw
  have HL1 : Hid (M1.length ≤ 500000001) := by have h1 := HL0.out; show _ ≤ _; rw [hM, List.length_append, length_be]; omega
  have HM1 : Hid (L ++ enco o = M1 ++ (be o.f 1 ++ (be o.h 8 ++ (be o.a 8 ++ (be o.b 8 ++ (str o.s ++ (str o.t ++ (str o.c ++ (str o.d ++ (be o.p 8 ++ (be o.n 8 ++ (o.r)))))))))))) := by show _ = _; rw [hM]; unfold enco; rw [List.append_assoc]
  have HW1 := hid hw
  have HO1 := hid (OB.keep HO0.out hk)
  have HB1 := hid (HB0.out.trans hb)
  have HK1 := hid (HK0.out.trans hk)
  clear hM hw hb hk HW0 HO0 HB0 HK0 HL0
  have c1 := HO1.out.cell 1 (v := .int .u8 (o.f : Int)) rfl
  go_wp2_with fail
  clear c1
  refine (u8w_keep B gw o.f M1 _ HW1.out HS.out.fits.f (by have := HL1.out; omega)).mono ?_
  rintro e w2 ⟨rfl, hw, hb, hk⟩
  obtain ⟨M2, hM⟩ : ∃ M, M = M1 ++ be o.f 1 := ⟨_, rfl⟩
  rw [← hM] at hw
  have HL2 : Hid (M2.length ≤ 500000002) := by have h1 := HL1.out; show _ ≤ _; rw [hM, List.length_append, length_be]; omega
  have HM2 : Hid (L ++ enco o = M2 ++ (be o.h 8 ++ (be o.a 8 ++ (be o.b 8 ++ (str o.s ++ (str o.t ++ (str o.c ++ (str o.d ++ (be o.p 8 ++ (be o.n 8 ++ (o.r))))))))))) := by show _ = _; rw [HM1.out, hM]; rw [List.append_assoc]
  have HW2 := hid hw
  have HO2 := hid (OB.keep HO1.out hk)
  have HB2 := hid (HB1.out.trans hb)
  have HK2 := hid (HK1.out.trans hk)
  clear hM hw hb hk HW1 HO1 HB1 HK1 HL1 HM1
  have c2 := HO2.out.cell 2 (v := .int .i64 (AnsW.sg o.h)) rfl
  go_wp2_with fail
  clear c2
  refine (i64w_keep B gw o.h M2 _ HW2.out HS.out.fits.h (by have := HL2.out; omega)).mono ?_
  rintro e w3 ⟨rfl, hw, hb, hk⟩
  obtain ⟨M3, hM⟩ : ∃ M, M = M2 ++ be o.h 8 := ⟨_, rfl⟩
  rw [← hM] at hw
  have HL3 : Hid (M3.length ≤ 500000010) := by have h1 := HL2.out; show _ ≤ _; rw [hM, List.length_append, length_be]; omega
  have HM3 : Hid (L ++ enco o = M3 ++ (be o.a 8 ++ (be o.b 8 ++ (str o.s ++ (str o.t ++ (str o.c ++ (str o.d ++ (be o.p 8 ++ (be o.n 8 ++ (o.r)))))))))) := by show _ = _; rw [HM2.out, hM]; rw [List.append_assoc]
  have HW3 := hid hw
  have HO3 := hid (OB.keep HO2.out hk)
  have HB3 := hid (HB2.out.trans hb)
  have HK3 := hid (HK2.out.trans hk)
  clear hM hw hb hk HW2 HO2 HB2 HK2 HL2 HM2
  have c3 := HO3.out.cell 3 (v := .int .i64 (AnsW.sg o.a)) rfl
  go_wp2_with fail
  clear c3
  refine (i64w_keep B gw o.a M3 _ HW3.out HS.out.fits.a (by have := HL3.out; omega)).mono ?_
  rintro e w4 ⟨rfl, hw, hb, hk⟩
  obtain ⟨M4, hM⟩ : ∃ M, M = M3 ++ be o.a 8 := ⟨_, rfl⟩
  rw [← hM] at hw
  have HL4 : Hid (M4.length ≤ 500000018) := by have h1 := HL3.out; show _ ≤ _; rw [hM, List.length_append, length_be]; omega
  have HM4 : Hid (L ++ enco o = M4 ++ (be o.b 8 ++ (str o.s ++ (str o.t ++ (str o.c ++ (str o.d ++ (be o.p 8 ++ (be o.n 8 ++ (o.r))))))))) := by show _ = _; rw [HM3.out, hM]; rw [List.append_assoc]
  have HW4 := hid hw
  have HO4 := hid (OB.keep HO3.out hk)
  have HB4 := hid (HB3.out.trans hb)
  have HK4 := hid (HK3.out.trans hk)
  clear hM hw hb hk HW3 HO3 HB3 HK3 HL3 HM3
  have c4 := HO4.out.cell 4 (v := .int .i64 (AnsW.sg o.b)) rfl
  go_wp2_with fail
  clear c4
  refine (i64w_keep B gw o.b M4 _ HW4.out HS.out.fits.b (by have := HL4.out; omega)).mono ?_
  rintro e w5 ⟨rfl, hw, hb, hk⟩
  obtain ⟨M5, hM⟩ : ∃ M, M = M4 ++ be o.b 8 := ⟨_, rfl⟩
  rw [← hM] at hw
  have HL5 : Hid (M5.length ≤ 500000026) := by have h1 := HL4.out; show _ ≤ _; rw [hM, List.length_append, length_be]; omega
  have HM5 : Hid (L ++ enco o = M5 ++ (str o.s ++ (str o.t ++ (str o.c ++ (str o.d ++ (be o.p 8 ++ (be o.n 8 ++ (o.r)))))))) := by show _ = _; rw [HM4.out, hM]; rw [List.append_assoc]
  have HW5 := hid hw
  have HO5 := hid (OB.keep HO4.out hk)
  have HB5 := hid (HB4.out.trans hb)
  have HK5 := hid (HK4.out.trans hk)
  clear hM hw hb hk HW4 HO4 HB4 HK4 HL4 HM4
  have c5 := HO5.out.cell 5 (v := .string (strOf o.s)) rfl
  go_wp2_with fail
  clear c5
  refine (strw_keep B gw M5 (strOf o.s) _ HW5.out (by have := HL5.out; omega) (by rw [size_strOf]; exact HS.out.s)).mono ?_
  rintro e w6 ⟨rfl, hw, hb, hk⟩
  rw [show (strOf o.s).data.toList = o.s from rfl] at hw
  obtain ⟨M6, hM⟩ : ∃ M, M = M5 ++ str o.s := ⟨_, rfl⟩
  rw [← hM] at hw
  have HL6 : Hid (M6.length ≤ 501000030) := by have h1 := HL5.out; show _ ≤ _; rw [hM, List.length_append, str, List.length_append, length_be]; have := HS.out.s; omega
  have HM6 : Hid (L ++ enco o = M6 ++ (str o.t ++ (str o.c ++ (str o.d ++ (be o.p 8 ++ (be o.n 8 ++ (o.r))))))) := by show _ = _; rw [HM5.out, hM]; rw [List.append_assoc]
  have HW6 := hid hw
  have HO6 := hid (OB.keep HO5.out hk)
  have HB6 := hid (HB5.out.trans hb)
  have HK6 := hid (HK5.out.trans hk)
  clear hM hw hb hk HW5 HO5 HB5 HK5 HL5 HM5
  have c6 := HO6.out.cell 6 (v := .string (strOf o.t)) rfl
  go_wp2_with fail
  clear c6
  refine (strw_keep B gw M6 (strOf o.t) _ HW6.out (by have := HL6.out; omega) (by rw [size_strOf]; exact HS.out.t)).mono ?_
  rintro e w7 ⟨rfl, hw, hb, hk⟩
  rw [show (strOf o.t).data.toList = o.t from rfl] at hw
  obtain ⟨M7, hM⟩ : ∃ M, M = M6 ++ str o.t := ⟨_, rfl⟩
  rw [← hM] at hw
  have HL7 : Hid (M7.length ≤ 502000034) := by have h1 := HL6.out; show _ ≤ _; rw [hM, List.length_append, str, List.length_append, length_be]; have := HS.out.t; omega
  have HM7 : Hid (L ++ enco o = M7 ++ (str o.c ++ (str o.d ++ (be o.p 8 ++ (be o.n 8 ++ (o.r)))))) := by show _ = _; rw [HM6.out, hM]; rw [List.append_assoc]
  have HW7 := hid hw
  have HO7 := hid (OB.keep HO6.out hk)
  have HB7 := hid (HB6.out.trans hb)
  have HK7 := hid (HK6.out.trans hk)
  clear hM hw hb hk HW6 HO6 HB6 HK6 HL6 HM6
  have c7 := HO7.out.cell 7 (v := .string (strOf o.c)) rfl
  go_wp2_with fail
  clear c7
  refine (strw_keep B gw M7 (strOf o.c) _ HW7.out (by have := HL7.out; omega) (by rw [size_strOf]; exact HS.out.c)).mono ?_
  rintro e w8 ⟨rfl, hw, hb, hk⟩
  rw [show (strOf o.c).data.toList = o.c from rfl] at hw
  obtain ⟨M8, hM⟩ : ∃ M, M = M7 ++ str o.c := ⟨_, rfl⟩
  rw [← hM] at hw
  have HL8 : Hid (M8.length ≤ 503000038) := by have h1 := HL7.out; show _ ≤ _; rw [hM, List.length_append, str, List.length_append, length_be]; have := HS.out.c; omega
  have HM8 : Hid (L ++ enco o = M8 ++ (str o.d ++ (be o.p 8 ++ (be o.n 8 ++ (o.r))))) := by show _ = _; rw [HM7.out, hM]; rw [List.append_assoc]
  have HW8 := hid hw
  have HO8 := hid (OB.keep HO7.out hk)
  have HB8 := hid (HB7.out.trans hb)
  have HK8 := hid (HK7.out.trans hk)
  clear hM hw hb hk HW7 HO7 HB7 HK7 HL7 HM7
  have c8 := HO8.out.cell 8 (v := .string (strOf o.d)) rfl
  go_wp2_with fail
  clear c8
  refine (strw_keep B gw M8 (strOf o.d) _ HW8.out (by have := HL8.out; omega) (by rw [size_strOf]; exact HS.out.d)).mono ?_
  rintro e w9 ⟨rfl, hw, hb, hk⟩
  rw [show (strOf o.d).data.toList = o.d from rfl] at hw
  obtain ⟨M9, hM⟩ : ∃ M, M = M8 ++ str o.d := ⟨_, rfl⟩
  rw [← hM] at hw
  have HL9 : Hid (M9.length ≤ 504000042) := by have h1 := HL8.out; show _ ≤ _; rw [hM, List.length_append, str, List.length_append, length_be]; have := HS.out.d; omega
  have HM9 : Hid (L ++ enco o = M9 ++ (be o.p 8 ++ (be o.n 8 ++ (o.r)))) := by show _ = _; rw [HM8.out, hM]; rw [List.append_assoc]
  have HW9 := hid hw
  have HO9 := hid (OB.keep HO8.out hk)
  have HB9 := hid (HB8.out.trans hb)
  have HK9 := hid (HK8.out.trans hk)
  clear hM hw hb hk HW8 HO8 HB8 HK8 HL8 HM8
  have c9 := HO9.out.cell 9 (v := .int .i64 (AnsW.sg o.p)) rfl
  go_wp2_with fail
  clear c9
  refine (i64w_keep B gw o.p M9 _ HW9.out HS.out.fits.p (by have := HL9.out; omega)).mono ?_
  rintro e w10 ⟨rfl, hw, hb, hk⟩
  obtain ⟨M10, hM⟩ : ∃ M, M = M9 ++ be o.p 8 := ⟨_, rfl⟩
  rw [← hM] at hw
  have HL10 : Hid (M10.length ≤ 504000050) := by have h1 := HL9.out; show _ ≤ _; rw [hM, List.length_append, length_be]; omega
  have HM10 : Hid (L ++ enco o = M10 ++ (be o.n 8 ++ (o.r))) := by show _ = _; rw [HM9.out, hM]; rw [List.append_assoc]
  have HW10 := hid hw
  have HO10 := hid (OB.keep HO9.out hk)
  have HB10 := hid (HB9.out.trans hb)
  have HK10 := hid (HK9.out.trans hk)
  clear hM hw hb hk HW9 HO9 HB9 HK9 HL9 HM9
  have c10 := HO10.out.cell 10 (v := .int .i64 (AnsW.sg o.n)) rfl
  go_wp2_with fail
  clear c10
  refine (i64w_keep B gw o.n M10 _ HW10.out HS.out.fits.n (by have := HL10.out; omega)).mono ?_
  rintro e w11 ⟨rfl, hw, hb, hk⟩
  obtain ⟨M11, hM⟩ : ∃ M, M = M10 ++ be o.n 8 := ⟨_, rfl⟩
  rw [← hM] at hw
  have HL11 : Hid (M11.length ≤ 504000058) := by have h1 := HL10.out; show _ ≤ _; rw [hM, List.length_append, length_be]; omega
  have HM11 : Hid (L ++ enco o = M11 ++ (o.r)) := by show _ = _; rw [HM10.out, hM]; rw [List.append_assoc]
  have HW11 := hid hw
  have HO11 := hid (OB.keep HO10.out hk)
  have HB11 := hid (HB10.out.trans hb)
  have HK11 := hid (HK10.out.trans hk)
  clear hM hw hb hk HW10 HO10 HB10 HK10 HL10 HM10
  have hld := HO11.out.bytes HS.out.fits.r Try.underlying35 (by kernel_rfl)
  have hr := HS.out.fits.r
  obtain ⟨R, hR⟩ : ∃ R, R = o.r := ⟨_, rfl⟩
  rw [← hR] at hld hr
  have HM := HM11
  rw [← hR] at HM
  have HRL := hid hr
  have HLD := hid hld
  clear hr hR HM11 hld
  go_wp2_with (refine load_as HLD.out (.tmp 54) rfl rfl rfl ?_)
  go_loopw [56] (fun vk wr => ∃ (k : Nat) (X : List UInt8), k ≤ 16 ∧ vk = .int .i64 (k : Int) ∧ Hid (X = M11 ++ R.take k) ∧ Hid (IsW B gw X wr) ∧ Hid (Below B w wr) ∧ Hid (KeepW w wr)) (fun vk _ => 16 - (intOf vk).toNat)
  case atStart => exact ⟨0, M11, by omega, rfl, by show _ = _; simp, HW11.out, HB11.out, HK11.out⟩
  case round =>
    obtain ⟨k, X, hk, rfl, HX, HW, HB, HK⟩ := hrel
    by_cases hlt : k < 16
    · have hkl : k < R.length := by rw [HRL.out]; exact hlt
      have hix := fun W => at_bytes (S := 35) (e := 5) (n := 16) k hkl HRL.out.symm Try.underlying35 Try.underlying5 (by kernel_rfl) W
      have HXL : Hid (X.length ≤ 600000000) := by
        have h1 := HL11.out
        show _ ≤ _
        rw [HX.out, List.length_append, List.length_take]
        omega
      obtain ⟨d, hd⟩ : ∃ d, d = R[k] := ⟨_, rfl⟩
      rw [← hd] at hix
      have HX2 : Hid (X ++ be d.toNat 1 = M11 ++ R.take (k + 1)) := by
        show _ = _
        rw [HX.out, List.take_succ_eq_append_getElem hkl, hd, List.append_assoc]
        congr 2
        simp [be]
      have hdn := d.toNat_lt
      clear hd hkl
      go_wp2_with fail
      clear hix
      refine (u8w_keep B gw d.toNat X _ HW.out hdn (by have := HXL.out; omega)).mono ?_
      rintro e w2 ⟨rfl, hw, hb, hk2⟩
      have HW2 := hid hw
      have HB2 := hid (HB.out.trans hb)
      have HK2 := hid (HK.out.trans hk2)
      clear hw hb hk2 hdn
      go_wp2
      go_roundw
      case rel => exact ⟨k + 1, _, by omega, by go_num, HX2.out, HW2.out, HB2.out, HK2.out⟩
      case measure => simp [intOf]; omega
    · obtain rfl : k = 16 := by omega
      have HX2 : Hid (X = L ++ enco o) := by show _ = _; rw [HX.out, HM.out, ← HRL.out, List.take_length]
      go_wp2
      go_end0
      exact ⟨rfl, HX2.out ▸ HW.out, HB.out, HK.out⟩
end Go.Proofs.Ytafnekilnbhhlaa.ScrW
