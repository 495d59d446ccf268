/- Texts that belong together: PrsC, PrsD. -/
import Derived.Test.YtmdofbccebkbiaaGreatDoorMG
import Derived.Test.YtmdofbccebkbiaaGreatDoorME
import Derived.Test.YtmdofbccebkbiaaGreatDoorMA
import Derived.Test.YtmdofbccebkbiaaGreatDoorMB
import Derived.Test.YtmdofbccebkbiaaGreatDoorMF
set_option linter.unusedSimpArgs false
set_option linter.unusedVariables false
namespace Go.Proofs.YtmdofbccebkbiaaGreatDoor.PrsC
open Go.RowKit Base Regs Base2 UtfA UtfL PthG PthH UrlA PrsP PrsA PrsQ PrsB Ubx
def Own (w0 w : World) (u : U) (A : Option Addr) (n c : Nat) : Prop := w.ownsRow w0.heap.size 9 1 (.slice A n c) n (u.pth.map Value.string)
theorem Own.pth {w0 w : World} {u : U} {A : Option Addr} {n c : Nat} (h : Own w0 w u A n c) : PthIs w u A n c := by
 obtain ⟨A', c', e, h1, h2, h3⟩ := owns_form h
 cases e
 exact ⟨h3, h1, h2⟩
theorem Own.below {w0 w w' : World} {u : U} {A : Option Addr} {n c : Nat} (h : Own w0 w u A n c) (hb : Below w.heap.size w w') : Own w0 w' u A n c := owns_below h hb
theorem Own.row {w0 w : World} {u : U} {A : Option Addr} {n c g : Nat} (h : Own w0 w u A n c) (hg : g < w0.heap.size) (cs : Array Value) : Own w0 (w.setRow g cs) u A n c := SixC.owns_other (gb := g) h (fun k hk => setRow_other _ _ _ _ hk) hg
theorem Own.base {w0 w1 w : World} {u : U} {A : Option Addr} {n c : Nat} (h : Own w1 w u A n c) (hb : w0.heap.size ≤ w1.heap.size) : Own w0 w u A n c := owns_base h hb
theorem own_nil (w0 w : World) {u : U} (h : u.pth = []) : Own w0 w u none 0 0 := by
 unfold Own
 rw [h]
 exact World.ownsRow_nil _ _ _ _
def AnsO (w : World) (o : Option U) (e : Ending) (w' : World) : Prop := Below w.heap.size w w' ∧ ∃ u A n c ok, e = .returned (.tuple #[.agg (cells u (.slice A n c)), .bool ok]) ∧ Own w w' u A n c ∧ (o = some u ∧ ok = true ∨ o = none ∧ ok = false ∧ u = U0)
end Go.Proofs.YtmdofbccebkbiaaGreatDoor.PrsC
namespace Go.Proofs.YtmdofbccebkbiaaGreatDoor.PrsD
open Go.RowKit Base Regs Base2 UtfA UtfL PthG PthH PthJ UrlA SixG HstP HstA HstB HstC Spl PrsP PrsA PrsQ PrsB Ubx PrsC
def tailU (S x y V D : List UInt8) : Option U :=
 if (hap false V).2.2 = true ∧ (hap false V).1 = [] then none else
 match hst (hap false V).1 (special S), prt S (hap false V).2.1 with
 | some H, some p => some { U0 with sch := S, usr := x, pwd := y, hst := H, hh := true, port := p, pth := rooted S D }
 | _, _ => none
theorem auth_tail (S T : List UInt8) : authority S T = if (credU (T.take (upto (special S) T))).2.2.2 = true ∧ (credU (T.take (upto (special S) T))).2.2.1 = [] then none else tailU S (credU (T.take (upto (special S) T))).1 (credU (T.take (upto (special S) T))).2.1 (credU (T.take (upto (special S) T))).2.2.1 (T.drop (upto (special S) T)) := rfl
theorem prtv_form {o : Option Int} {e : Ending} (h : PrtV o e) : ∃ z b, e = .returned (.tuple #[.int .i64 z, .bool b]) ∧ (o = some z ∧ b = true ∨ o = none ∧ b = false) := by
 cases o with
 | some z => exact ⟨z, true, h, .inl ⟨rfl, rfl⟩⟩
 | none => obtain ⟨z, hz⟩ := h; exact ⟨z, false, hz, .inr ⟨rfl, rfl⟩⟩
theorem size_of {L : List UInt8} {n : Nat} (h : L.length ≤ n) : (strOf L).size ≤ n := by rw [size_strOf]; exact h
theorem str_tl (L : List UInt8) : (strOf L).toList = L := by rw [Lib.toList_data]; rfl
theorem ans_none {w w' : World} {o : Option U} (ho : o = none) (hb : Below w.heap.size w w') : AnsO w o (.returned (.tuple #[.agg (cells U0 (.slice none 0 0)), .bool false])) w' :=
 ⟨hb, U0, none, 0, 0, false, rfl, own_nil _ _ rfl, .inr ⟨ho, rfl, rfl⟩⟩
theorem ans_some {w w' : World} {o : Option U} {u : U} {A : Option Addr} {n c : Nat} (ho : o = some u) (hb : Below w.heap.size w w') (hp : Own w w' u A n c) : AnsO w o (.returned (.tuple #[.agg (cells u (.slice A n c)), .bool true])) w' :=
 ⟨hb, u, A, n, c, true, rfl, hp, .inl ⟨ho, rfl⟩⟩
theorem cutB_len (b : UInt8) : ∀ L : List UInt8, (cutB b L).1.length ≤ L.length ∧ (cutB b L).2.1.length ≤ L.length
 | [] => by simp [cutB]
 | c :: L => by
  have h := cutB_len b L
  unfold cutB
  split
  ·simp
  ·simp only [List.length_cons]
   omega
set_option maxRecDepth 100000 in
set_option maxHeartbeats 16000000 in
theorem authority_any (S T : List UInt8) (w : World) (hs : T.length ≤ 900000) (hL : Lad w) (hT : Tab.Pow w) (hM : Max w) : Calls Tryz.prog 86 #[.string (strOf S), .string (strOf T)] w (AnsO w (authority S T)) := by
 obtain ⟨O, hO⟩ : ∃ O, O = authority S T := ⟨_, rfl⟩
 rw [← hO]
 rw [auth_tail] at hO
 obtain ⟨X, hX⟩ : ∃ X, X = T.take (upto (special S) T) := ⟨_, rfl⟩
 obtain ⟨D, hD⟩ : ∃ D, D = T.drop (upto (special S) T) := ⟨_, rfl⟩
 have hXl : X.length ≤ 900000 := by rw [hX, List.length_take]; omega
 have hDl : D.length ≤ 900000 := by rw [hD, List.length_drop]; omega
 have hU : ∀ w : World, Calls Tryz.prog 159 #[.string (strOf S), .string (strOf T)] w fun e w' => e = .returned (.tuple #[.string (strOf X), .string (strOf D)]) ∧ Below w.heap.size w w' := fun w => by rw [hX, hD]; exact until_any (strOf S) (strOf T) w (size_of (by omega))
 rw [← hX, ← hD] at hO
 have hLa : ∀ w : World, Calls Tryz.prog 160 #[.string (strOf X), .int .u8 64] w fun e w' => e = .returned (.int .i64 (Lib.lastIndexByte (strOf X) 64)) ∧ w' = w := fun w => Tryz.strings_LastIndexByte (strOf X) 64 w (by rw [size_strOf]; omega)
 have hsp : ∀ w : World, Calls Tryz.prog 84 #[.string (strOf S)] w fun e w' => e = .returned (.bool (special S)) ∧ w' = w := fun w => special_any (strOf S) w
 have hrt : ∀ w : World, Calls Tryz.prog 158 #[.string (strOf S), .string (strOf D)] w (Owned w.heap.size w (rooted S D)) := fun w => rooted_any (strOf S) (strOf D) w (size_of hDl)
 have HU := hid hU
 have HSP := hid hsp
 have HRT := hid hrt
 have HL := hid hL
 have HT := hid hT
 have HM := hid hM
 clear hU hsp hrt hL hT hM hX hD hDl hs
 have hls := last_spec (strOf X)
 rw [show (strOf X).data.toList = X from rfl] at hls
 obtain ⟨zl, hzl⟩ : ∃ z, z = Lib.lastIndexByte (strOf X) 64 := ⟨_, rfl⟩
 rw [← hzl] at hLa hls
 have HLA := hid hLa
 have HO0 := hid hO
 clear hLa hzl hO
 go_enter Tryz.func86, Tryz.ntmps86
 go_upto_region 1 with (fail)
 generalize hw : World.alloc w _ = w1
 have h1 : UB w1 (w.heap.size) (U0) (.slice none 0 0) ∧ Below w.heap.size w w1 := by
  subst hw
  exact laid1 w _ _
 clear hw
 have LE_r : Hid (w.heap.size ≤ w.heap.size) := (Below.refl w.heap.size w).size
 have HBw1 := hid (bel (Below.refl w.heap.size w) h1.2)
 have HXrw1 := hid h1.1
 clear h1
 go_wp2_with fail
 refine (HU.out _).mono ?_
 rintro e w2 ⟨rfl, hbx⟩
 have HXrw2 := hid (HXrw1.out.below hbx)
 have HBw2 := hid (bel HBw1.out hbx)
 clear HXrw1 HBw1
 clear hbx
 go_upto_region 3 with (fail)
 generalize hw : World.alloc w2 _ = w3
 have h1 : UB w3 (w2.heap.size) ({ U0 with sch := S, hh := true }) (.slice none 0 0) ∧ Below w2.heap.size w2 w3 := by
  subst hw
  exact laid1 w2 _ _
 clear hw
 have hlr := HXrw2.out.lt
 have NE_r_u : Hid (w.heap.size ≠ w2.heap.size) := by show _ ≠ _; omega
 have NE_u_r : Hid (w2.heap.size ≠ w.heap.size) := by show _ ≠ _; omega
 clear hlr
 have LE_u : Hid (w.heap.size ≤ w2.heap.size) := HBw2.out.size
 have HXrw3 := hid (HXrw2.out.below h1.2)
 have HBw3 := hid (bel HBw2.out h1.2)
 have HXuw3 := hid h1.1
 clear HXrw2 HBw2
 clear h1
 go_wp2_with fail
 refine (HLA.out _).mono ?_
 rintro e wx ⟨rfl, hwx⟩
 obtain rfl : w3 = wx := by first | exact hwx | exact hwx.symm
 clear hwx
 rcases hls with ⟨rfl, hl⟩ | ⟨k, hk, rfl, hl⟩
 ·
  obtain ⟨V, hV⟩ : ∃ V, V = X := ⟨_, rfl⟩
  have HOT : Hid (O = tailU S [] [] V D) := by show _ = _; rw [HO0.out, show credU X = ([], [], X, false) by unfold credU; rw [hl], hV]; rfl
  have hVl : V.length ≤ 900000 := by rw [hV]; exact hXl
  rw [← hV]
  clear HO0 hl hXl HU HLA
  subst hV
  obtain ⟨H1, H2, c, hh⟩ : ∃ H1 H2 c, hap false V = (H1, H2, c) := ⟨_, _, _, rfl⟩
  have hl1 := (hap_len V false).1
  have hl2 := (hap_len V false).2
  rw [hh] at hl1 hl2
  simp only at hl1 hl2
  have hhp : ∀ w : World, Calls Tryz.prog 161 #[.string (strOf V)] w fun e w' => e = .returned (.tuple #[.string (strOf H1), .string (strOf H2), .bool c]) ∧ Below w.heap.size w w' := fun w => by
   have h := hostAndPort_any (strOf V) w (size_of (by omega))
   rw [show (strOf V).data.toList = V from rfl, hh] at h
   exact h
  have HHP := hid hhp
  have hO2 : O = if c = true ∧ H1 = [] then none else match hst H1 (special S), prt S H2 with | some H, some p => some { U0 with sch := S, usr := [], pwd := [], hst := H, hh := true, port := p, pth := rooted S D } | _, _ => none := by
   rw [HOT.out]; unfold tailU; rw [hh]; first | done | rfl
  have hH : ∀ w : World, Lad w → Tab.Pow w → Max w → Calls Tryz.prog 162 #[.string (strOf H1), .bool (special S)] w fun e w' => e = .returned (HV (hst H1 (special S))) ∧ Below w.heap.size w w' := fun w a b d => HstC.parse_any (strOf H1) (special S) w (size_of (by omega)) a b d
  have hPo : ∀ w : World, Calls Tryz.prog 163 #[.string (strOf S), .string (strOf H2)] w fun e w' => PrtV (prt S H2) e ∧ w' = w := fun w => port_any (strOf S) (strOf H2) w (size_of (by omega))
  have HH := hid hH
  have HPO := hid hPo
  have HO2 := hid hO2
  clear hhp hl1 hl2 hh hH hPo HOT hO2
  go_wp2_with fail
  refine (HHP.out _).mono ?_
  rintro e w4 ⟨rfl, hbx⟩
  have HXrw4 := hid (HXrw3.out.below hbx)
  have HXuw4 := hid (HXuw3.out.below hbx)
  have HBw4 := hid (bel HBw3.out hbx)
  clear HXrw3 HXuw3 HBw3
  clear hbx
  cases c with
  | false =>
   have HO3 : Hid (O = match hst H1 (special S), prt S H2 with | some H, some p => some { U0 with sch := S, usr := [], pwd := [], hst := H, hh := true, port := p, pth := rooted S D } | _, _ => none) := by show _ = _; rw [HO2.out, if_neg (by simp)]
   clear HO2
   go_wp2_with fail
   refine (HSP.out _).mono ?_
   rintro e wx ⟨rfl, hwx⟩
   obtain rfl : w4 = wx := by first | exact hwx | exact hwx.symm
   clear hwx
   cases hx : hst H1 (special S) with
   | none =>
    have HNO : Hid (O = none) := by show _ = _; rw [HO3.out, hx]
    rw [hx] at HH
    clear hx
    go_wp2_with fail
    refine (HH.out _ (HL.out.below HBw4.out) (pow_below HT.out HBw4.out) (HM.out.below HBw4.out)).mono ?_
    rintro e w5 ⟨rfl, hbx⟩
    have HXrw5 := hid (HXrw4.out.below hbx)
    have HXuw5 := hid (HXuw4.out.below hbx)
    have HBw5 := hid (bel HBw4.out hbx)
    clear HXrw4 HXuw4 HBw4
    clear hbx
    rw [show HV none = .tuple #[.string (strOf []), .bool false] from rfl]
    have cx := HXuw5.out.facts.2.2.2.1
    have fx := HXuw5.out.thaw.2.2.2.1
    go_upto_region 16 with (fail)
    have hxr := HXrw5.out.set (k := w2.heap.size) (i := 3) (.string (strOf [])) (NE_r_u.out)
    have hxu := HXuw5.out.hst []
    have hb := HBw5.out.setCell (p := ⟨w2.heap.size, 3, none⟩) (LE_u.out) (.string (strOf []))
    clear HXrw5 HXuw5 HBw5
    clear cx fx
    generalize World.setCell w5 _ _ = w6 at hxr hxu hb ⊢
    have HXrw6 : Hid (UB w6 (w.heap.size) (U0) (.slice none 0 0)) := hxr
    clear hxr
    have HXuw6 : Hid (UB w6 (w2.heap.size) ({ U0 with sch := S, usr := [], pwd := [], hh := true, hst := [] }) (.slice none 0 0)) := hxu
    clear hxu
    have HBw6 := hid hb
    clear hb
    go_wp2_with fail
    refine (HPO.out _).mono ?_
    rintro e wx ⟨hv, hwx⟩
    obtain rfl : w6 = wx := hwx.symm
    clear hwx
    obtain ⟨z, ok, rfl, hzo⟩ := prtv_form hv
    clear hv
    have cx := HXuw6.out.facts.2.2.2.2.2.1
    have fx := HXuw6.out.thaw.2.2.2.2.2.1
    go_upto_region 17 with (fail)
    have hxr := HXrw6.out.set (k := w2.heap.size) (i := 5) (.int .i64 z) (NE_r_u.out)
    have hxu := HXuw6.out.port z
    have hb := HBw6.out.setCell (p := ⟨w2.heap.size, 5, none⟩) (LE_u.out) (.int .i64 z)
    clear HXrw6 HXuw6 HBw6
    clear cx fx
    generalize World.setCell w6 _ _ = w7 at hxr hxu hb ⊢
    have HXrw7 : Hid (UB w7 (w.heap.size) (U0) (.slice none 0 0)) := hxr
    clear hxr
    have HXuw7 : Hid (UB w7 (w2.heap.size) ({ U0 with sch := S, usr := [], pwd := [], hh := true, hst := [], port := z }) (.slice none 0 0)) := hxu
    clear hxu
    have HBw7 := hid hb
    clear hb
    clear hzo
    go_wp2_with (refine store_box HXrw7.out U0 none 0 0 (.tmp 4) (.tmp 86) rfl rfl rfl rfl ?_)
    try simp only [Exit.inBlock, Exit.then]
    exact bodyPost_ret (w := World.setRow w7 w.heap.size (cells U0 (.slice none 0 0))) (res2 (u := U0) (p := .slice none 0 0) rfl (HXrw7.out.row U0 _) false _ rfl rfl) rfl (ans_none HNO.out (below_setRow HBw7.out LE_r.out _))
   | some R =>
    have HO4 : Hid (O = match prt S H2 with | some p => some { U0 with sch := S, usr := [], pwd := [], hst := R, hh := true, port := p, pth := rooted S D } | none => none) := by show _ = _; rw [HO3.out, hx]; cases prt S H2 <;> rfl
    rw [hx] at HH
    clear hx
    go_wp2_with fail
    refine (HH.out _ (HL.out.below HBw4.out) (pow_below HT.out HBw4.out) (HM.out.below HBw4.out)).mono ?_
    rintro e w5 ⟨rfl, hbx⟩
    have HXrw5 := hid (HXrw4.out.below hbx)
    have HXuw5 := hid (HXuw4.out.below hbx)
    have HBw5 := hid (bel HBw4.out hbx)
    clear HXrw4 HXuw4 HBw4
    clear hbx
    rw [show HV (some R) = .tuple #[.string (strOf R), .bool true] from rfl]
    have cx := HXuw5.out.facts.2.2.2.1
    have fx := HXuw5.out.thaw.2.2.2.1
    go_upto_region 16 with (fail)
    have hxr := HXrw5.out.set (k := w2.heap.size) (i := 3) (.string (strOf R)) (NE_r_u.out)
    have hxu := HXuw5.out.hst R
    have hb := HBw5.out.setCell (p := ⟨w2.heap.size, 3, none⟩) (LE_u.out) (.string (strOf R))
    clear HXrw5 HXuw5 HBw5
    clear cx fx
    generalize World.setCell w5 _ _ = w6 at hxr hxu hb ⊢
    have HXrw6 : Hid (UB w6 (w.heap.size) (U0) (.slice none 0 0)) := hxr
    clear hxr
    have HXuw6 : Hid (UB w6 (w2.heap.size) ({ U0 with sch := S, usr := [], pwd := [], hh := true, hst := R }) (.slice none 0 0)) := hxu
    clear hxu
    have HBw6 := hid hb
    clear hb
    go_wp2_with fail
    refine (HPO.out _).mono ?_
    rintro e wx ⟨hv, hwx⟩
    obtain rfl : w6 = wx := hwx.symm
    clear hwx
    obtain ⟨z, ok, rfl, hzo⟩ := prtv_form hv
    clear hv
    have cx := HXuw6.out.facts.2.2.2.2.2.1
    have fx := HXuw6.out.thaw.2.2.2.2.2.1
    go_upto_region 17 with (fail)
    have hxr := HXrw6.out.set (k := w2.heap.size) (i := 5) (.int .i64 z) (NE_r_u.out)
    have hxu := HXuw6.out.port z
    have hb := HBw6.out.setCell (p := ⟨w2.heap.size, 5, none⟩) (LE_u.out) (.int .i64 z)
    clear HXrw6 HXuw6 HBw6
    clear cx fx
    generalize World.setCell w6 _ _ = w7 at hxr hxu hb ⊢
    have HXrw7 : Hid (UB w7 (w.heap.size) (U0) (.slice none 0 0)) := hxr
    clear hxr
    have HXuw7 : Hid (UB w7 (w2.heap.size) ({ U0 with sch := S, usr := [], pwd := [], hh := true, hst := R, port := z }) (.slice none 0 0)) := hxu
    clear hxu
    have HBw7 := hid hb
    clear hb
    rcases hzo with ⟨hz, rfl⟩ | ⟨hz, rfl⟩
    ·
     have HO5 : Hid (O = some { U0 with sch := S, usr := [], pwd := [], hst := R, hh := true, port := z, pth := rooted S D }) := by show _ = _; rw [HO4.out, hz]
     clear hz
     go_wp2_with fail
     refine (HRT.out _).mono ?_
     rintro e w8 ⟨q, rfl, hown, hbx⟩
     obtain ⟨A, c2, rfl, hq⟩ := pth_of_owned (u := { U0 with pth := rooted S D }) hown
     clear hq
     replace hown := owns_base hown (Nat.le_refl _)
     have HLu : Hid (w2.heap.size < w7.heap.size) := HXuw7.out.lt
     have HLr : Hid (w.heap.size < w7.heap.size) := HXrw7.out.lt
     have HXrw8 := hid (HXrw7.out.below hbx)
     have HXuw8 := hid (HXuw7.out.below hbx)
     have HBw8 := hid (bel HBw7.out hbx)
     have HOqw8 := hid hown
     clear hown
     clear HXrw7 HXuw7 HBw7
     clear hbx
     have hlu := HLu.out
     have cx := HXuw8.out.facts.2.2.2.2.2.2.2.2.1
     have fx := HXuw8.out.thaw.2.2.2.2.2.2.2.2.1
     go_upto_region 20 with (fail)
     have hxr := HXrw8.out.set (k := w2.heap.size) (i := 8) (.slice A (rooted S D).length c2) (NE_r_u.out)
     have hxu := HXuw8.out.path (.slice A (rooted S D).length c2)
     have hoq := SixC.owns_other (w' := w8.setCell ⟨w2.heap.size, 8, none⟩ (.slice A (rooted S D).length c2)) (gb := w2.heap.size) HOqw8.out (fun k hk => heap_setCell_other _ _ _ _ hk) (by omega)
     have hb := HBw8.out.setCell (p := ⟨w2.heap.size, 8, none⟩) (LE_u.out) (.slice A (rooted S D).length c2)
     clear HXrw8 HXuw8 HOqw8 HBw8
     clear cx fx
     generalize World.setCell w8 _ _ = w9 at hxr hxu hoq hb ⊢
     have HXrw9 : Hid (UB w9 (w.heap.size) (U0) (.slice none 0 0)) := hxr
     clear hxr
     have HXuw9 : Hid (UB w9 (w2.heap.size) ({ U0 with sch := S, usr := [], pwd := [], hh := true, hst := R, port := z }) (.slice A (rooted S D).length c2)) := hxu
     clear hxu
     have HOqw9 := hid hoq
     clear hoq
     have HBw9 := hid hb
     clear hb
     clear hlu
     obtain ⟨c0, c1, c2', c3, c4, c5, c6, c7, c8, c9, c10, c11, c12⟩ := HXuw9.out.facts
     go_wp2_with (refine store_box HXrw9.out { U0 with sch := S, usr := [], pwd := [], hh := true, hst := R, port := z } A (rooted S D).length c2 (.tmp 4) (.tmp 91) rfl rfl rfl rfl ?_)
     try simp only [Exit.inBlock, Exit.then]
     have hpo : ∀ k, k ≠ w.heap.size → (World.setRow w9 (w.heap.size) (cells { U0 with sch := S, usr := [], pwd := [], hh := true, hst := R, port := z } (.slice A (rooted S D).length c2))).heap[k]? = w9.heap[k]? := fun k hk => setRow_other _ _ _ _ hk
     have ho := owns_base (SixC.owns_other HOqw9.out hpo HLr.out) (by have h1 := LE_r.out; have h2 := HLr.out; omega : w.heap.size ≤ _)
     exact bodyPost_ret (w := World.setRow w9 w.heap.size (cells { U0 with sch := S, usr := [], pwd := [], hh := true, hst := R, port := z } (.slice A (rooted S D).length c2))) (res2 (u := { U0 with sch := S, usr := [], pwd := [], hh := true, hst := R, port := z }) (p := (.slice A (rooted S D).length c2)) rfl (HXrw9.out.row { U0 with sch := S, usr := [], pwd := [], hh := true, hst := R, port := z } _) true _ rfl rfl) rfl (ans_some (u := { U0 with sch := S, usr := [], pwd := [], hst := R, hh := true, port := z, pth := rooted S D }) HO5.out (below_setRow HBw9.out LE_r.out _) ho)
    ·
     have HNO : Hid (O = none) := by show _ = _; rw [HO4.out, hz]
     clear hz
     go_wp2_with (refine store_box HXrw7.out U0 none 0 0 (.tmp 4) (.tmp 86) rfl rfl rfl rfl ?_)
     try simp only [Exit.inBlock, Exit.then]
     exact bodyPost_ret (w := World.setRow w7 w.heap.size (cells U0 (.slice none 0 0))) (res2 (u := U0) (p := .slice none 0 0) rfl (HXrw7.out.row U0 _) false _ rfl rfl) rfl (ans_none HNO.out (below_setRow HBw7.out LE_r.out _))
  | true =>
   by_cases h0 : H1 = []
   ·
    have HNO : Hid (O = none) := by show _ = _; rw [HO2.out, if_pos ⟨rfl, h0⟩]
    have q0 : ((strOf H1).toList == []) = true := by rw [str_tl, h0]; rfl
    have q1 : (strOf H1).toList = [] := by rw [str_tl, h0]
    clear HO2 h0
    go_wp2_with (refine store_box HXrw4.out U0 none 0 0 (.tmp 4) (.tmp 64) rfl rfl rfl rfl ?_)
    try simp only [Exit.inBlock, Exit.then]
    exact bodyPost_ret (w := World.setRow w4 w.heap.size (cells U0 (.slice none 0 0))) (res2 (u := U0) (p := .slice none 0 0) rfl (HXrw4.out.row U0 _) false _ rfl rfl) rfl (ans_none HNO.out (below_setRow HBw4.out LE_r.out _))
   ·
    have HO3 : Hid (O = match hst H1 (special S), prt S H2 with | some H, some p => some { U0 with sch := S, usr := [], pwd := [], hst := H, hh := true, port := p, pth := rooted S D } | _, _ => none) := by show _ = _; rw [HO2.out, if_neg (fun h => h0 h.2)]
    have q0 : ((strOf H1).toList == []) = false := by rw [str_tl, beq_eq_false_iff_ne]; exact h0
    have q1 : ¬ (strOf H1).toList = [] := by rw [str_tl]; exact h0
    have q2 : (strOf H1).toList.isEmpty = false := by rw [str_tl]; simpa using h0
    clear HO2 h0
    go_wp2_with fail
    refine (HSP.out _).mono ?_
    rintro e wx ⟨rfl, hwx⟩
    obtain rfl : w4 = wx := by first | exact hwx | exact hwx.symm
    clear hwx
    cases hx : hst H1 (special S) with
    | none =>
     have HNO : Hid (O = none) := by show _ = _; rw [HO3.out, hx]
     rw [hx] at HH
     clear hx
     go_wp2_with fail
     refine (HH.out _ (HL.out.below HBw4.out) (pow_below HT.out HBw4.out) (HM.out.below HBw4.out)).mono ?_
     rintro e w5 ⟨rfl, hbx⟩
     have HXrw5 := hid (HXrw4.out.below hbx)
     have HXuw5 := hid (HXuw4.out.below hbx)
     have HBw5 := hid (bel HBw4.out hbx)
     clear HXrw4 HXuw4 HBw4
     clear hbx
     rw [show HV none = .tuple #[.string (strOf []), .bool false] from rfl]
     have cx := HXuw5.out.facts.2.2.2.1
     have fx := HXuw5.out.thaw.2.2.2.1
     go_upto_region 16 with (fail)
     have hxr := HXrw5.out.set (k := w2.heap.size) (i := 3) (.string (strOf [])) (NE_r_u.out)
     have hxu := HXuw5.out.hst []
     have hb := HBw5.out.setCell (p := ⟨w2.heap.size, 3, none⟩) (LE_u.out) (.string (strOf []))
     clear HXrw5 HXuw5 HBw5
     clear cx fx
     generalize World.setCell w5 _ _ = w6 at hxr hxu hb ⊢
     have HXrw6 : Hid (UB w6 (w.heap.size) (U0) (.slice none 0 0)) := hxr
     clear hxr
     have HXuw6 : Hid (UB w6 (w2.heap.size) ({ U0 with sch := S, usr := [], pwd := [], hh := true, hst := [] }) (.slice none 0 0)) := hxu
     clear hxu
     have HBw6 := hid hb
     clear hb
     go_wp2_with fail
     refine (HPO.out _).mono ?_
     rintro e wx ⟨hv, hwx⟩
     obtain rfl : w6 = wx := hwx.symm
     clear hwx
     obtain ⟨z, ok, rfl, hzo⟩ := prtv_form hv
     clear hv
     have cx := HXuw6.out.facts.2.2.2.2.2.1
     have fx := HXuw6.out.thaw.2.2.2.2.2.1
     go_upto_region 17 with (fail)
     have hxr := HXrw6.out.set (k := w2.heap.size) (i := 5) (.int .i64 z) (NE_r_u.out)
     have hxu := HXuw6.out.port z
     have hb := HBw6.out.setCell (p := ⟨w2.heap.size, 5, none⟩) (LE_u.out) (.int .i64 z)
     clear HXrw6 HXuw6 HBw6
     clear cx fx
     generalize World.setCell w6 _ _ = w7 at hxr hxu hb ⊢
     have HXrw7 : Hid (UB w7 (w.heap.size) (U0) (.slice none 0 0)) := hxr
     clear hxr
     have HXuw7 : Hid (UB w7 (w2.heap.size) ({ U0 with sch := S, usr := [], pwd := [], hh := true, hst := [], port := z }) (.slice none 0 0)) := hxu
     clear hxu
     have HBw7 := hid hb
     clear hb
     clear hzo
     go_wp2_with (refine store_box HXrw7.out U0 none 0 0 (.tmp 4) (.tmp 86) rfl rfl rfl rfl ?_)
     try simp only [Exit.inBlock, Exit.then]
     exact bodyPost_ret (w := World.setRow w7 w.heap.size (cells U0 (.slice none 0 0))) (res2 (u := U0) (p := .slice none 0 0) rfl (HXrw7.out.row U0 _) false _ rfl rfl) rfl (ans_none HNO.out (below_setRow HBw7.out LE_r.out _))
    | some R =>
     have HO4 : Hid (O = match prt S H2 with | some p => some { U0 with sch := S, usr := [], pwd := [], hst := R, hh := true, port := p, pth := rooted S D } | none => none) := by show _ = _; rw [HO3.out, hx]; cases prt S H2 <;> rfl
     rw [hx] at HH
     clear hx
     go_wp2_with fail
     refine (HH.out _ (HL.out.below HBw4.out) (pow_below HT.out HBw4.out) (HM.out.below HBw4.out)).mono ?_
     rintro e w5 ⟨rfl, hbx⟩
     have HXrw5 := hid (HXrw4.out.below hbx)
     have HXuw5 := hid (HXuw4.out.below hbx)
     have HBw5 := hid (bel HBw4.out hbx)
     clear HXrw4 HXuw4 HBw4
     clear hbx
     rw [show HV (some R) = .tuple #[.string (strOf R), .bool true] from rfl]
     have cx := HXuw5.out.facts.2.2.2.1
     have fx := HXuw5.out.thaw.2.2.2.1
     go_upto_region 16 with (fail)
     have hxr := HXrw5.out.set (k := w2.heap.size) (i := 3) (.string (strOf R)) (NE_r_u.out)
     have hxu := HXuw5.out.hst R
     have hb := HBw5.out.setCell (p := ⟨w2.heap.size, 3, none⟩) (LE_u.out) (.string (strOf R))
     clear HXrw5 HXuw5 HBw5
     clear cx fx
     generalize World.setCell w5 _ _ = w6 at hxr hxu hb ⊢
     have HXrw6 : Hid (UB w6 (w.heap.size) (U0) (.slice none 0 0)) := hxr
     clear hxr
     have HXuw6 : Hid (UB w6 (w2.heap.size) ({ U0 with sch := S, usr := [], pwd := [], hh := true, hst := R }) (.slice none 0 0)) := hxu
     clear hxu
     have HBw6 := hid hb
     clear hb
     go_wp2_with fail
     refine (HPO.out _).mono ?_
     rintro e wx ⟨hv, hwx⟩
     obtain rfl : w6 = wx := hwx.symm
     clear hwx
     obtain ⟨z, ok, rfl, hzo⟩ := prtv_form hv
     clear hv
     have cx := HXuw6.out.facts.2.2.2.2.2.1
     have fx := HXuw6.out.thaw.2.2.2.2.2.1
     go_upto_region 17 with (fail)
     have hxr := HXrw6.out.set (k := w2.heap.size) (i := 5) (.int .i64 z) (NE_r_u.out)
     have hxu := HXuw6.out.port z
     have hb := HBw6.out.setCell (p := ⟨w2.heap.size, 5, none⟩) (LE_u.out) (.int .i64 z)
     clear HXrw6 HXuw6 HBw6
     clear cx fx
     generalize World.setCell w6 _ _ = w7 at hxr hxu hb ⊢
     have HXrw7 : Hid (UB w7 (w.heap.size) (U0) (.slice none 0 0)) := hxr
     clear hxr
     have HXuw7 : Hid (UB w7 (w2.heap.size) ({ U0 with sch := S, usr := [], pwd := [], hh := true, hst := R, port := z }) (.slice none 0 0)) := hxu
     clear hxu
     have HBw7 := hid hb
     clear hb
     rcases hzo with ⟨hz, rfl⟩ | ⟨hz, rfl⟩
     ·
      have HO5 : Hid (O = some { U0 with sch := S, usr := [], pwd := [], hst := R, hh := true, port := z, pth := rooted S D }) := by show _ = _; rw [HO4.out, hz]
      clear hz
      go_wp2_with fail
      refine (HRT.out _).mono ?_
      rintro e w8 ⟨q, rfl, hown, hbx⟩
      obtain ⟨A, c2, rfl, hq⟩ := pth_of_owned (u := { U0 with pth := rooted S D }) hown
      clear hq
      replace hown := owns_base hown (Nat.le_refl _)
      have HLu : Hid (w2.heap.size < w7.heap.size) := HXuw7.out.lt
      have HLr : Hid (w.heap.size < w7.heap.size) := HXrw7.out.lt
      have HXrw8 := hid (HXrw7.out.below hbx)
      have HXuw8 := hid (HXuw7.out.below hbx)
      have HBw8 := hid (bel HBw7.out hbx)
      have HOqw8 := hid hown
      clear hown
      clear HXrw7 HXuw7 HBw7
      clear hbx
      have hlu := HLu.out
      have cx := HXuw8.out.facts.2.2.2.2.2.2.2.2.1
      have fx := HXuw8.out.thaw.2.2.2.2.2.2.2.2.1
      go_upto_region 20 with (fail)
      have hxr := HXrw8.out.set (k := w2.heap.size) (i := 8) (.slice A (rooted S D).length c2) (NE_r_u.out)
      have hxu := HXuw8.out.path (.slice A (rooted S D).length c2)
      have hoq := SixC.owns_other (w' := w8.setCell ⟨w2.heap.size, 8, none⟩ (.slice A (rooted S D).length c2)) (gb := w2.heap.size) HOqw8.out (fun k hk => heap_setCell_other _ _ _ _ hk) (by omega)
      have hb := HBw8.out.setCell (p := ⟨w2.heap.size, 8, none⟩) (LE_u.out) (.slice A (rooted S D).length c2)
      clear HXrw8 HXuw8 HOqw8 HBw8
      clear cx fx
      generalize World.setCell w8 _ _ = w9 at hxr hxu hoq hb ⊢
      have HXrw9 : Hid (UB w9 (w.heap.size) (U0) (.slice none 0 0)) := hxr
      clear hxr
      have HXuw9 : Hid (UB w9 (w2.heap.size) ({ U0 with sch := S, usr := [], pwd := [], hh := true, hst := R, port := z }) (.slice A (rooted S D).length c2)) := hxu
      clear hxu
      have HOqw9 := hid hoq
      clear hoq
      have HBw9 := hid hb
      clear hb
      clear hlu
      obtain ⟨c0, c1, c2', c3, c4, c5, c6, c7, c8, c9, c10, c11, c12⟩ := HXuw9.out.facts
      go_wp2_with (refine store_box HXrw9.out { U0 with sch := S, usr := [], pwd := [], hh := true, hst := R, port := z } A (rooted S D).length c2 (.tmp 4) (.tmp 91) rfl rfl rfl rfl ?_)
      try simp only [Exit.inBlock, Exit.then]
      have hpo : ∀ k, k ≠ w.heap.size → (World.setRow w9 (w.heap.size) (cells { U0 with sch := S, usr := [], pwd := [], hh := true, hst := R, port := z } (.slice A (rooted S D).length c2))).heap[k]? = w9.heap[k]? := fun k hk => setRow_other _ _ _ _ hk
      have ho := owns_base (SixC.owns_other HOqw9.out hpo HLr.out) (by have h1 := LE_r.out; have h2 := HLr.out; omega : w.heap.size ≤ _)
      exact bodyPost_ret (w := World.setRow w9 w.heap.size (cells { U0 with sch := S, usr := [], pwd := [], hh := true, hst := R, port := z } (.slice A (rooted S D).length c2))) (res2 (u := { U0 with sch := S, usr := [], pwd := [], hh := true, hst := R, port := z }) (p := (.slice A (rooted S D).length c2)) rfl (HXrw9.out.row { U0 with sch := S, usr := [], pwd := [], hh := true, hst := R, port := z } _) true _ rfl rfl) rfl (ans_some (u := { U0 with sch := S, usr := [], pwd := [], hst := R, hh := true, port := z, pth := rooted S D }) HO5.out (below_setRow HBw9.out LE_r.out _) ho)
     ·
      have HNO : Hid (O = none) := by show _ = _; rw [HO4.out, hz]
      clear hz
      go_wp2_with (refine store_box HXrw7.out U0 none 0 0 (.tmp 4) (.tmp 86) rfl rfl rfl rfl ?_)
      try simp only [Exit.inBlock, Exit.then]
      exact bodyPost_ret (w := World.setRow w7 w.heap.size (cells U0 (.slice none 0 0))) (res2 (u := U0) (p := .slice none 0 0) rfl (HXrw7.out.row U0 _) false _ rfl rfl) rfl (ans_none HNO.out (below_setRow HBw7.out LE_r.out _))
 ·
  rw [size_strOf] at hk
  obtain ⟨E, hE⟩ : ∃ E, E = X.take k := ⟨_, rfl⟩
  obtain ⟨V, hV⟩ : ∃ V, V = X.drop (k + 1) := ⟨_, rfl⟩
  have hVl : V.length ≤ 900000 := by rw [hV, List.length_drop]; omega
  have hEl : E.length ≤ 900000 := by rw [hE, List.length_take]; omega
  obtain ⟨N, P2, bb, hc⟩ : ∃ N P2 b, cutB 58 E = (N, P2, b) := ⟨_, _, _, rfl⟩
  have hNl : N.length ≤ 900000 ∧ P2.length ≤ 900000 := by have h := cutB_len 58 E; rw [hc] at h; simp only at h; omega
  have hC : ∀ w : World, Max w → Calls Tryz.prog 80 #[.string (strOf E), .string ⟨#[58]⟩] w fun e w' => e = .returned (.tuple #[.string (strOf N), .string (strOf P2), .bool bb]) ∧ Below w.heap.size w w' := fun w ⟨m, hm⟩ => (Tryz.strings_Cut (strOf E) ⟨#[58]⟩ m w (by rw [size_strOf]; omega) hm).mono fun e w' ⟨h1, q, h2⟩ => ⟨by rw [h1, show (strOf E).data.toList = E from rfl, show (⟨#[58]⟩ : ByteArray).data.toList = [58] from rfl, cut_cutB, hc]; rfl, by rw [h2]; exact Base.below_drewN (Below.refl _ _) _⟩
  have HC := hid hC
  have hx1 : (strOf X).extract 0 k = strOf E := by rw [str_left, hE]; rfl
  have hx2 : (strOf X).extract (k + 1) (strOf X).size = strOf V := by rw [str_right, hV]; rfl
  have hcr : credU X = (EscE.enc 5 N, EscE.enc 5 P2, V, true) := by unfold credU; rw [hl]; simp only; rw [← hE, ← hV, hc]
  have hO := HO0.out
  rw [hcr] at hO
  simp only at hO
  have hkI : (k : Int) ≤ ((strOf X).size : Int) := by rw [size_strOf]; omega
  have hkJ : (k : Int) + 1 ≤ ((strOf X).size : Int) := by rw [size_strOf]; omega
  have hk0 : ¬ (k : Int) < 0 := by omega
  have hk1 : (0 : Int) ≤ (k : Int) := by omega
  have hkt : ((k : Int) + 1).toNat = k + 1 := by omega
  have hXs : (strOf X).size ≤ 900000 := size_of hXl
  have HO := hid hO
  have HX2 := hid hx2
  clear hC hcr hO hE hV hc hl HO0
  go_wp2_with fail
  refine (HC.out _ (HM.out.below HBw3.out)).mono ?_
  rintro e w4 ⟨rfl, hbx⟩
  have HXrw4 := hid (HXrw3.out.below hbx)
  have HXuw4 := hid (HXuw3.out.below hbx)
  have HBw4 := hid (bel HBw3.out hbx)
  clear HXrw3 HXuw3 HBw3
  clear hbx
  clear hx1
  have hcv := fun (w : World) s => run_bytes_of_string (P := Tryz.prog) w 9 61 5 s Tryz.underlying9 Tryz.underlying61 Tryz.underlying5
  go_wp2_with fail
  clear hcv
  refine (EscE.encode_any 5 _ _ _ N _ (rds_made (strOf N) _ _ _) (size_of (by omega))).mono ?_
  rintro e w5 ⟨rfl, hb0⟩
  have hbx : Below w4.heap.size w4 w5 := bel (((Below.refl w4.heap.size w4).alloc (Nat.le_refl _) _).drew) hb0
  clear hb0
  have HXrw5 := hid (HXrw4.out.below hbx)
  have HXuw5 := hid (HXuw4.out.below hbx)
  have HBw5 := hid (bel HBw4.out hbx)
  clear HXrw4 HXuw4 HBw4
  clear hbx
  have cx := HXuw5.out.facts.2.1
  have fx := HXuw5.out.thaw.2.1
  go_upto_region 7 with (fail)
  have hxr := HXrw5.out.set (k := w2.heap.size) (i := 1) (.string (strOf (EscE.enc 5 N))) (NE_r_u.out)
  have hxu := HXuw5.out.usr (EscE.enc 5 N)
  have hb := HBw5.out.setCell (p := ⟨w2.heap.size, 1, none⟩) (LE_u.out) (.string (strOf (EscE.enc 5 N)))
  clear HXrw5 HXuw5 HBw5
  clear cx fx
  generalize World.setCell w5 _ _ = w6 at hxr hxu hb ⊢
  have HXrw6 : Hid (UB w6 (w.heap.size) (U0) (.slice none 0 0)) := hxr
  clear hxr
  have HXuw6 : Hid (UB w6 (w2.heap.size) ({ U0 with sch := S, hh := true, usr := EscE.enc 5 N }) (.slice none 0 0)) := hxu
  clear hxu
  have HBw6 := hid hb
  clear hb
  have hcv := fun (w : World) s => run_bytes_of_string (P := Tryz.prog) w 9 61 5 s Tryz.underlying9 Tryz.underlying61 Tryz.underlying5
  go_wp2_with fail
  clear hcv
  refine (EscE.encode_any 5 _ _ _ P2 _ (rds_made (strOf P2) _ _ _) (size_of (by omega))).mono ?_
  rintro e w7 ⟨rfl, hb0⟩
  have hbx : Below w6.heap.size w6 w7 := bel (((Below.refl w6.heap.size w6).alloc (Nat.le_refl _) _).drew) hb0
  clear hb0
  have HXrw7 := hid (HXrw6.out.below hbx)
  have HXuw7 := hid (HXuw6.out.below hbx)
  have HBw7 := hid (bel HBw6.out hbx)
  clear HXrw6 HXuw6 HBw6
  clear hbx
  have cx := HXuw7.out.facts.2.2.1
  have fx := HXuw7.out.thaw.2.2.1
  go_upto_region 8 with (fail)
  have hxr := HXrw7.out.set (k := w2.heap.size) (i := 2) (.string (strOf (EscE.enc 5 P2))) (NE_r_u.out)
  have hxu := HXuw7.out.pwd (EscE.enc 5 P2)
  have hb := HBw7.out.setCell (p := ⟨w2.heap.size, 2, none⟩) (LE_u.out) (.string (strOf (EscE.enc 5 P2)))
  clear HXrw7 HXuw7 HBw7
  clear cx fx
  generalize World.setCell w7 _ _ = w8 at hxr hxu hb ⊢
  have HXrw8 : Hid (UB w8 (w.heap.size) (U0) (.slice none 0 0)) := hxr
  clear hxr
  have HXuw8 : Hid (UB w8 (w2.heap.size) ({ U0 with sch := S, hh := true, usr := EscE.enc 5 N, pwd := EscE.enc 5 P2 }) (.slice none 0 0)) := hxu
  clear hxu
  have HBw8 := hid hb
  clear hb
  have hx2 := HX2.out
  by_cases h0 : V = []
  ·
   have HNO : Hid (O = none) := by show _ = _; rw [HO.out, if_pos ⟨by first | rfl | trivial, h0⟩]
   have q0 : ((strOf V).toList == []) = true := by rw [str_tl, h0]; rfl
   have q1 : (strOf V).toList = [] := by rw [str_tl, h0]
   clear h0
   go_wp2_with (refine store_box HXrw8.out U0 none 0 0 (.tmp 4) (.tmp 52) rfl rfl rfl rfl ?_)
   try simp only [Exit.inBlock, Exit.then]
   exact bodyPost_ret (w := World.setRow w8 w.heap.size (cells U0 (.slice none 0 0))) (res2 (u := U0) (p := .slice none 0 0) rfl (HXrw8.out.row U0 _) false _ rfl rfl) rfl (ans_none HNO.out (below_setRow HBw8.out LE_r.out _))
  ·
   obtain ⟨xe, hxe⟩ : ∃ x, x = EscE.enc 5 N := ⟨_, rfl⟩
   obtain ⟨ye, hye⟩ : ∃ x, x = EscE.enc 5 P2 := ⟨_, rfl⟩
   have HOT : Hid (O = tailU S xe ye V D) := by show _ = _; rw [HO.out, if_neg (fun h => h0 h.2), hxe, hye]
   have q0 : ((strOf V).toList == []) = false := by rw [str_tl, beq_eq_false_iff_ne]; exact h0
   have q1 : ¬ (strOf V).toList = [] := by rw [str_tl]; exact h0
   have q2 : (strOf V).toList.isEmpty = false := by rw [str_tl]; simpa using h0
   rw [← hxe, ← hye] at HXuw8
   clear h0 hxe hye HO
   go_upto_region 11 with (fail)
   clear q0 q1 q2 hx2 hkI hkJ hk0 hk1 hkt hXs hXl hEl hNl HX2
   obtain ⟨H1, H2, c, hh⟩ : ∃ H1 H2 c, hap false V = (H1, H2, c) := ⟨_, _, _, rfl⟩
   have hl1 := (hap_len V false).1
   have hl2 := (hap_len V false).2
   rw [hh] at hl1 hl2
   simp only at hl1 hl2
   have hhp : ∀ w : World, Calls Tryz.prog 161 #[.string (strOf V)] w fun e w' => e = .returned (.tuple #[.string (strOf H1), .string (strOf H2), .bool c]) ∧ Below w.heap.size w w' := fun w => by
    have h := hostAndPort_any (strOf V) w (size_of (by omega))
    rw [show (strOf V).data.toList = V from rfl, hh] at h
    exact h
   have HHP := hid hhp
   have hO2 : O = if c = true ∧ H1 = [] then none else match hst H1 (special S), prt S H2 with | some H, some p => some { U0 with sch := S, usr := xe, pwd := ye, hst := H, hh := true, port := p, pth := rooted S D } | _, _ => none := by
    rw [HOT.out]; unfold tailU; rw [hh]; first | done | rfl
   have hH : ∀ w : World, Lad w → Tab.Pow w → Max w → Calls Tryz.prog 162 #[.string (strOf H1), .bool (special S)] w fun e w' => e = .returned (HV (hst H1 (special S))) ∧ Below w.heap.size w w' := fun w a b d => HstC.parse_any (strOf H1) (special S) w (size_of (by omega)) a b d
   have hPo : ∀ w : World, Calls Tryz.prog 163 #[.string (strOf S), .string (strOf H2)] w fun e w' => PrtV (prt S H2) e ∧ w' = w := fun w => port_any (strOf S) (strOf H2) w (size_of (by omega))
   have HH := hid hH
   have HPO := hid hPo
   have HO2 := hid hO2
   clear hhp hl1 hl2 hh hH hPo HOT hO2
   go_wp2_with fail
   refine (HHP.out _).mono ?_
   rintro e w9 ⟨rfl, hbx⟩
   have HXrw9 := hid (HXrw8.out.below hbx)
   have HXuw9 := hid (HXuw8.out.below hbx)
   have HBw9 := hid (bel HBw8.out hbx)
   clear HXrw8 HXuw8 HBw8
   clear hbx
   cases c with
   | false =>
    have HO3 : Hid (O = match hst H1 (special S), prt S H2 with | some H, some p => some { U0 with sch := S, usr := xe, pwd := ye, hst := H, hh := true, port := p, pth := rooted S D } | _, _ => none) := by show _ = _; rw [HO2.out, if_neg (by simp)]
    clear HO2
    go_wp2_with fail
    refine (HSP.out _).mono ?_
    rintro e wx ⟨rfl, hwx⟩
    obtain rfl : w9 = wx := by first | exact hwx | exact hwx.symm
    clear hwx
    cases hx : hst H1 (special S) with
    | none =>
     have HNO : Hid (O = none) := by show _ = _; rw [HO3.out, hx]
     rw [hx] at HH
     clear hx
     go_wp2_with fail
     refine (HH.out _ (HL.out.below HBw9.out) (pow_below HT.out HBw9.out) (HM.out.below HBw9.out)).mono ?_
     rintro e w10 ⟨rfl, hbx⟩
     have HXrw10 := hid (HXrw9.out.below hbx)
     have HXuw10 := hid (HXuw9.out.below hbx)
     have HBw10 := hid (bel HBw9.out hbx)
     clear HXrw9 HXuw9 HBw9
     clear hbx
     rw [show HV none = .tuple #[.string (strOf []), .bool false] from rfl]
     have cx := HXuw10.out.facts.2.2.2.1
     have fx := HXuw10.out.thaw.2.2.2.1
     go_upto_region 16 with (fail)
     have hxr := HXrw10.out.set (k := w2.heap.size) (i := 3) (.string (strOf [])) (NE_r_u.out)
     have hxu := HXuw10.out.hst []
     have hb := HBw10.out.setCell (p := ⟨w2.heap.size, 3, none⟩) (LE_u.out) (.string (strOf []))
     clear HXrw10 HXuw10 HBw10
     clear cx fx
     generalize World.setCell w10 _ _ = w11 at hxr hxu hb ⊢
     have HXrw11 : Hid (UB w11 (w.heap.size) (U0) (.slice none 0 0)) := hxr
     clear hxr
     have HXuw11 : Hid (UB w11 (w2.heap.size) ({ U0 with sch := S, usr := xe, pwd := ye, hh := true, hst := [] }) (.slice none 0 0)) := hxu
     clear hxu
     have HBw11 := hid hb
     clear hb
     go_wp2_with fail
     refine (HPO.out _).mono ?_
     rintro e wx ⟨hv, hwx⟩
     obtain rfl : w11 = wx := hwx.symm
     clear hwx
     obtain ⟨z, ok, rfl, hzo⟩ := prtv_form hv
     clear hv
     have cx := HXuw11.out.facts.2.2.2.2.2.1
     have fx := HXuw11.out.thaw.2.2.2.2.2.1
     go_upto_region 17 with (fail)
     have hxr := HXrw11.out.set (k := w2.heap.size) (i := 5) (.int .i64 z) (NE_r_u.out)
     have hxu := HXuw11.out.port z
     have hb := HBw11.out.setCell (p := ⟨w2.heap.size, 5, none⟩) (LE_u.out) (.int .i64 z)
     clear HXrw11 HXuw11 HBw11
     clear cx fx
     generalize World.setCell w11 _ _ = w12 at hxr hxu hb ⊢
     have HXrw12 : Hid (UB w12 (w.heap.size) (U0) (.slice none 0 0)) := hxr
     clear hxr
     have HXuw12 : Hid (UB w12 (w2.heap.size) ({ U0 with sch := S, usr := xe, pwd := ye, hh := true, hst := [], port := z }) (.slice none 0 0)) := hxu
     clear hxu
     have HBw12 := hid hb
     clear hb
     clear hzo
     go_wp2_with (refine store_box HXrw12.out U0 none 0 0 (.tmp 4) (.tmp 86) rfl rfl rfl rfl ?_)
     try simp only [Exit.inBlock, Exit.then]
     exact bodyPost_ret (w := World.setRow w12 w.heap.size (cells U0 (.slice none 0 0))) (res2 (u := U0) (p := .slice none 0 0) rfl (HXrw12.out.row U0 _) false _ rfl rfl) rfl (ans_none HNO.out (below_setRow HBw12.out LE_r.out _))
    | some R =>
     have HO4 : Hid (O = match prt S H2 with | some p => some { U0 with sch := S, usr := xe, pwd := ye, hst := R, hh := true, port := p, pth := rooted S D } | none => none) := by show _ = _; rw [HO3.out, hx]; cases prt S H2 <;> rfl
     rw [hx] at HH
     clear hx
     go_wp2_with fail
     refine (HH.out _ (HL.out.below HBw9.out) (pow_below HT.out HBw9.out) (HM.out.below HBw9.out)).mono ?_
     rintro e w10 ⟨rfl, hbx⟩
     have HXrw10 := hid (HXrw9.out.below hbx)
     have HXuw10 := hid (HXuw9.out.below hbx)
     have HBw10 := hid (bel HBw9.out hbx)
     clear HXrw9 HXuw9 HBw9
     clear hbx
     rw [show HV (some R) = .tuple #[.string (strOf R), .bool true] from rfl]
     have cx := HXuw10.out.facts.2.2.2.1
     have fx := HXuw10.out.thaw.2.2.2.1
     go_upto_region 16 with (fail)
     have hxr := HXrw10.out.set (k := w2.heap.size) (i := 3) (.string (strOf R)) (NE_r_u.out)
     have hxu := HXuw10.out.hst R
     have hb := HBw10.out.setCell (p := ⟨w2.heap.size, 3, none⟩) (LE_u.out) (.string (strOf R))
     clear HXrw10 HXuw10 HBw10
     clear cx fx
     generalize World.setCell w10 _ _ = w11 at hxr hxu hb ⊢
     have HXrw11 : Hid (UB w11 (w.heap.size) (U0) (.slice none 0 0)) := hxr
     clear hxr
     have HXuw11 : Hid (UB w11 (w2.heap.size) ({ U0 with sch := S, usr := xe, pwd := ye, hh := true, hst := R }) (.slice none 0 0)) := hxu
     clear hxu
     have HBw11 := hid hb
     clear hb
     go_wp2_with fail
     refine (HPO.out _).mono ?_
     rintro e wx ⟨hv, hwx⟩
     obtain rfl : w11 = wx := hwx.symm
     clear hwx
     obtain ⟨z, ok, rfl, hzo⟩ := prtv_form hv
     clear hv
     have cx := HXuw11.out.facts.2.2.2.2.2.1
     have fx := HXuw11.out.thaw.2.2.2.2.2.1
     go_upto_region 17 with (fail)
     have hxr := HXrw11.out.set (k := w2.heap.size) (i := 5) (.int .i64 z) (NE_r_u.out)
     have hxu := HXuw11.out.port z
     have hb := HBw11.out.setCell (p := ⟨w2.heap.size, 5, none⟩) (LE_u.out) (.int .i64 z)
     clear HXrw11 HXuw11 HBw11
     clear cx fx
     generalize World.setCell w11 _ _ = w12 at hxr hxu hb ⊢
     have HXrw12 : Hid (UB w12 (w.heap.size) (U0) (.slice none 0 0)) := hxr
     clear hxr
     have HXuw12 : Hid (UB w12 (w2.heap.size) ({ U0 with sch := S, usr := xe, pwd := ye, hh := true, hst := R, port := z }) (.slice none 0 0)) := hxu
     clear hxu
     have HBw12 := hid hb
     clear hb
     rcases hzo with ⟨hz, rfl⟩ | ⟨hz, rfl⟩
     ·
      have HO5 : Hid (O = some { U0 with sch := S, usr := xe, pwd := ye, hst := R, hh := true, port := z, pth := rooted S D }) := by show _ = _; rw [HO4.out, hz]
      clear hz
      go_wp2_with fail
      refine (HRT.out _).mono ?_
      rintro e w13 ⟨q, rfl, hown, hbx⟩
      obtain ⟨A, c2, rfl, hq⟩ := pth_of_owned (u := { U0 with pth := rooted S D }) hown
      clear hq
      replace hown := owns_base hown (Nat.le_refl _)
      have HLu : Hid (w2.heap.size < w12.heap.size) := HXuw12.out.lt
      have HLr : Hid (w.heap.size < w12.heap.size) := HXrw12.out.lt
      have HXrw13 := hid (HXrw12.out.below hbx)
      have HXuw13 := hid (HXuw12.out.below hbx)
      have HBw13 := hid (bel HBw12.out hbx)
      have HOqw13 := hid hown
      clear hown
      clear HXrw12 HXuw12 HBw12
      clear hbx
      have hlu := HLu.out
      have cx := HXuw13.out.facts.2.2.2.2.2.2.2.2.1
      have fx := HXuw13.out.thaw.2.2.2.2.2.2.2.2.1
      go_upto_region 20 with (fail)
      have hxr := HXrw13.out.set (k := w2.heap.size) (i := 8) (.slice A (rooted S D).length c2) (NE_r_u.out)
      have hxu := HXuw13.out.path (.slice A (rooted S D).length c2)
      have hoq := SixC.owns_other (w' := w13.setCell ⟨w2.heap.size, 8, none⟩ (.slice A (rooted S D).length c2)) (gb := w2.heap.size) HOqw13.out (fun k hk => heap_setCell_other _ _ _ _ hk) (by omega)
      have hb := HBw13.out.setCell (p := ⟨w2.heap.size, 8, none⟩) (LE_u.out) (.slice A (rooted S D).length c2)
      clear HXrw13 HXuw13 HOqw13 HBw13
      clear cx fx
      generalize World.setCell w13 _ _ = w14 at hxr hxu hoq hb ⊢
      have HXrw14 : Hid (UB w14 (w.heap.size) (U0) (.slice none 0 0)) := hxr
      clear hxr
      have HXuw14 : Hid (UB w14 (w2.heap.size) ({ U0 with sch := S, usr := xe, pwd := ye, hh := true, hst := R, port := z }) (.slice A (rooted S D).length c2)) := hxu
      clear hxu
      have HOqw14 := hid hoq
      clear hoq
      have HBw14 := hid hb
      clear hb
      clear hlu
      obtain ⟨c0, c1, c2', c3, c4, c5, c6, c7, c8, c9, c10, c11, c12⟩ := HXuw14.out.facts
      go_wp2_with (refine store_box HXrw14.out { U0 with sch := S, usr := xe, pwd := ye, hh := true, hst := R, port := z } A (rooted S D).length c2 (.tmp 4) (.tmp 91) rfl rfl rfl rfl ?_)
      try simp only [Exit.inBlock, Exit.then]
      have hpo : ∀ k, k ≠ w.heap.size → (World.setRow w14 (w.heap.size) (cells { U0 with sch := S, usr := xe, pwd := ye, hh := true, hst := R, port := z } (.slice A (rooted S D).length c2))).heap[k]? = w14.heap[k]? := fun k hk => setRow_other _ _ _ _ hk
      have ho := owns_base (SixC.owns_other HOqw14.out hpo HLr.out) (by have h1 := LE_r.out; have h2 := HLr.out; omega : w.heap.size ≤ _)
      exact bodyPost_ret (w := World.setRow w14 w.heap.size (cells { U0 with sch := S, usr := xe, pwd := ye, hh := true, hst := R, port := z } (.slice A (rooted S D).length c2))) (res2 (u := { U0 with sch := S, usr := xe, pwd := ye, hh := true, hst := R, port := z }) (p := (.slice A (rooted S D).length c2)) rfl (HXrw14.out.row { U0 with sch := S, usr := xe, pwd := ye, hh := true, hst := R, port := z } _) true _ rfl rfl) rfl (ans_some (u := { U0 with sch := S, usr := xe, pwd := ye, hst := R, hh := true, port := z, pth := rooted S D }) HO5.out (below_setRow HBw14.out LE_r.out _) ho)
     ·
      have HNO : Hid (O = none) := by show _ = _; rw [HO4.out, hz]
      clear hz
      go_wp2_with (refine store_box HXrw12.out U0 none 0 0 (.tmp 4) (.tmp 86) rfl rfl rfl rfl ?_)
      try simp only [Exit.inBlock, Exit.then]
      exact bodyPost_ret (w := World.setRow w12 w.heap.size (cells U0 (.slice none 0 0))) (res2 (u := U0) (p := .slice none 0 0) rfl (HXrw12.out.row U0 _) false _ rfl rfl) rfl (ans_none HNO.out (below_setRow HBw12.out LE_r.out _))
   | true =>
    by_cases h0 : H1 = []
    ·
     have HNO : Hid (O = none) := by show _ = _; rw [HO2.out, if_pos ⟨rfl, h0⟩]
     have q0 : ((strOf H1).toList == []) = true := by rw [str_tl, h0]; rfl
     have q1 : (strOf H1).toList = [] := by rw [str_tl, h0]
     clear HO2 h0
     go_wp2_with (refine store_box HXrw9.out U0 none 0 0 (.tmp 4) (.tmp 64) rfl rfl rfl rfl ?_)
     try simp only [Exit.inBlock, Exit.then]
     exact bodyPost_ret (w := World.setRow w9 w.heap.size (cells U0 (.slice none 0 0))) (res2 (u := U0) (p := .slice none 0 0) rfl (HXrw9.out.row U0 _) false _ rfl rfl) rfl (ans_none HNO.out (below_setRow HBw9.out LE_r.out _))
    ·
     have HO3 : Hid (O = match hst H1 (special S), prt S H2 with | some H, some p => some { U0 with sch := S, usr := xe, pwd := ye, hst := H, hh := true, port := p, pth := rooted S D } | _, _ => none) := by show _ = _; rw [HO2.out, if_neg (fun h => h0 h.2)]
     have q0 : ((strOf H1).toList == []) = false := by rw [str_tl, beq_eq_false_iff_ne]; exact h0
     have q1 : ¬ (strOf H1).toList = [] := by rw [str_tl]; exact h0
     have q2 : (strOf H1).toList.isEmpty = false := by rw [str_tl]; simpa using h0
     clear HO2 h0
     go_wp2_with fail
     refine (HSP.out _).mono ?_
     rintro e wx ⟨rfl, hwx⟩
     obtain rfl : w9 = wx := by first | exact hwx | exact hwx.symm
     clear hwx
     cases hx : hst H1 (special S) with
     | none =>
      have HNO : Hid (O = none) := by show _ = _; rw [HO3.out, hx]
      rw [hx] at HH
      clear hx
      go_wp2_with fail
      refine (HH.out _ (HL.out.below HBw9.out) (pow_below HT.out HBw9.out) (HM.out.below HBw9.out)).mono ?_
      rintro e w10 ⟨rfl, hbx⟩
      have HXrw10 := hid (HXrw9.out.below hbx)
      have HXuw10 := hid (HXuw9.out.below hbx)
      have HBw10 := hid (bel HBw9.out hbx)
      clear HXrw9 HXuw9 HBw9
      clear hbx
      rw [show HV none = .tuple #[.string (strOf []), .bool false] from rfl]
      have cx := HXuw10.out.facts.2.2.2.1
      have fx := HXuw10.out.thaw.2.2.2.1
      go_upto_region 16 with (fail)
      have hxr := HXrw10.out.set (k := w2.heap.size) (i := 3) (.string (strOf [])) (NE_r_u.out)
      have hxu := HXuw10.out.hst []
      have hb := HBw10.out.setCell (p := ⟨w2.heap.size, 3, none⟩) (LE_u.out) (.string (strOf []))
      clear HXrw10 HXuw10 HBw10
      clear cx fx
      generalize World.setCell w10 _ _ = w11 at hxr hxu hb ⊢
      have HXrw11 : Hid (UB w11 (w.heap.size) (U0) (.slice none 0 0)) := hxr
      clear hxr
      have HXuw11 : Hid (UB w11 (w2.heap.size) ({ U0 with sch := S, usr := xe, pwd := ye, hh := true, hst := [] }) (.slice none 0 0)) := hxu
      clear hxu
      have HBw11 := hid hb
      clear hb
      go_wp2_with fail
      refine (HPO.out _).mono ?_
      rintro e wx ⟨hv, hwx⟩
      obtain rfl : w11 = wx := hwx.symm
      clear hwx
      obtain ⟨z, ok, rfl, hzo⟩ := prtv_form hv
      clear hv
      have cx := HXuw11.out.facts.2.2.2.2.2.1
      have fx := HXuw11.out.thaw.2.2.2.2.2.1
      go_upto_region 17 with (fail)
      have hxr := HXrw11.out.set (k := w2.heap.size) (i := 5) (.int .i64 z) (NE_r_u.out)
      have hxu := HXuw11.out.port z
      have hb := HBw11.out.setCell (p := ⟨w2.heap.size, 5, none⟩) (LE_u.out) (.int .i64 z)
      clear HXrw11 HXuw11 HBw11
      clear cx fx
      generalize World.setCell w11 _ _ = w12 at hxr hxu hb ⊢
      have HXrw12 : Hid (UB w12 (w.heap.size) (U0) (.slice none 0 0)) := hxr
      clear hxr
      have HXuw12 : Hid (UB w12 (w2.heap.size) ({ U0 with sch := S, usr := xe, pwd := ye, hh := true, hst := [], port := z }) (.slice none 0 0)) := hxu
      clear hxu
      have HBw12 := hid hb
      clear hb
      clear hzo
      go_wp2_with (refine store_box HXrw12.out U0 none 0 0 (.tmp 4) (.tmp 86) rfl rfl rfl rfl ?_)
      try simp only [Exit.inBlock, Exit.then]
      exact bodyPost_ret (w := World.setRow w12 w.heap.size (cells U0 (.slice none 0 0))) (res2 (u := U0) (p := .slice none 0 0) rfl (HXrw12.out.row U0 _) false _ rfl rfl) rfl (ans_none HNO.out (below_setRow HBw12.out LE_r.out _))
     | some R =>
      have HO4 : Hid (O = match prt S H2 with | some p => some { U0 with sch := S, usr := xe, pwd := ye, hst := R, hh := true, port := p, pth := rooted S D } | none => none) := by show _ = _; rw [HO3.out, hx]; cases prt S H2 <;> rfl
      rw [hx] at HH
      clear hx
      go_wp2_with fail
      refine (HH.out _ (HL.out.below HBw9.out) (pow_below HT.out HBw9.out) (HM.out.below HBw9.out)).mono ?_
      rintro e w10 ⟨rfl, hbx⟩
      have HXrw10 := hid (HXrw9.out.below hbx)
      have HXuw10 := hid (HXuw9.out.below hbx)
      have HBw10 := hid (bel HBw9.out hbx)
      clear HXrw9 HXuw9 HBw9
      clear hbx
      rw [show HV (some R) = .tuple #[.string (strOf R), .bool true] from rfl]
      have cx := HXuw10.out.facts.2.2.2.1
      have fx := HXuw10.out.thaw.2.2.2.1
      go_upto_region 16 with (fail)
      have hxr := HXrw10.out.set (k := w2.heap.size) (i := 3) (.string (strOf R)) (NE_r_u.out)
      have hxu := HXuw10.out.hst R
      have hb := HBw10.out.setCell (p := ⟨w2.heap.size, 3, none⟩) (LE_u.out) (.string (strOf R))
      clear HXrw10 HXuw10 HBw10
      clear cx fx
      generalize World.setCell w10 _ _ = w11 at hxr hxu hb ⊢
      have HXrw11 : Hid (UB w11 (w.heap.size) (U0) (.slice none 0 0)) := hxr
      clear hxr
      have HXuw11 : Hid (UB w11 (w2.heap.size) ({ U0 with sch := S, usr := xe, pwd := ye, hh := true, hst := R }) (.slice none 0 0)) := hxu
      clear hxu
      have HBw11 := hid hb
      clear hb
      go_wp2_with fail
      refine (HPO.out _).mono ?_
      rintro e wx ⟨hv, hwx⟩
      obtain rfl : w11 = wx := hwx.symm
      clear hwx
      obtain ⟨z, ok, rfl, hzo⟩ := prtv_form hv
      clear hv
      have cx := HXuw11.out.facts.2.2.2.2.2.1
      have fx := HXuw11.out.thaw.2.2.2.2.2.1
      go_upto_region 17 with (fail)
      have hxr := HXrw11.out.set (k := w2.heap.size) (i := 5) (.int .i64 z) (NE_r_u.out)
      have hxu := HXuw11.out.port z
      have hb := HBw11.out.setCell (p := ⟨w2.heap.size, 5, none⟩) (LE_u.out) (.int .i64 z)
      clear HXrw11 HXuw11 HBw11
      clear cx fx
      generalize World.setCell w11 _ _ = w12 at hxr hxu hb ⊢
      have HXrw12 : Hid (UB w12 (w.heap.size) (U0) (.slice none 0 0)) := hxr
      clear hxr
      have HXuw12 : Hid (UB w12 (w2.heap.size) ({ U0 with sch := S, usr := xe, pwd := ye, hh := true, hst := R, port := z }) (.slice none 0 0)) := hxu
      clear hxu
      have HBw12 := hid hb
      clear hb
      rcases hzo with ⟨hz, rfl⟩ | ⟨hz, rfl⟩
      ·
       have HO5 : Hid (O = some { U0 with sch := S, usr := xe, pwd := ye, hst := R, hh := true, port := z, pth := rooted S D }) := by show _ = _; rw [HO4.out, hz]
       clear hz
       go_wp2_with fail
       refine (HRT.out _).mono ?_
       rintro e w13 ⟨q, rfl, hown, hbx⟩
       obtain ⟨A, c2, rfl, hq⟩ := pth_of_owned (u := { U0 with pth := rooted S D }) hown
       clear hq
       replace hown := owns_base hown (Nat.le_refl _)
       have HLu : Hid (w2.heap.size < w12.heap.size) := HXuw12.out.lt
       have HLr : Hid (w.heap.size < w12.heap.size) := HXrw12.out.lt
       have HXrw13 := hid (HXrw12.out.below hbx)
       have HXuw13 := hid (HXuw12.out.below hbx)
       have HBw13 := hid (bel HBw12.out hbx)
       have HOqw13 := hid hown
       clear hown
       clear HXrw12 HXuw12 HBw12
       clear hbx
       have hlu := HLu.out
       have cx := HXuw13.out.facts.2.2.2.2.2.2.2.2.1
       have fx := HXuw13.out.thaw.2.2.2.2.2.2.2.2.1
       go_upto_region 20 with (fail)
       have hxr := HXrw13.out.set (k := w2.heap.size) (i := 8) (.slice A (rooted S D).length c2) (NE_r_u.out)
       have hxu := HXuw13.out.path (.slice A (rooted S D).length c2)
       have hoq := SixC.owns_other (w' := w13.setCell ⟨w2.heap.size, 8, none⟩ (.slice A (rooted S D).length c2)) (gb := w2.heap.size) HOqw13.out (fun k hk => heap_setCell_other _ _ _ _ hk) (by omega)
       have hb := HBw13.out.setCell (p := ⟨w2.heap.size, 8, none⟩) (LE_u.out) (.slice A (rooted S D).length c2)
       clear HXrw13 HXuw13 HOqw13 HBw13
       clear cx fx
       generalize World.setCell w13 _ _ = w14 at hxr hxu hoq hb ⊢
       have HXrw14 : Hid (UB w14 (w.heap.size) (U0) (.slice none 0 0)) := hxr
       clear hxr
       have HXuw14 : Hid (UB w14 (w2.heap.size) ({ U0 with sch := S, usr := xe, pwd := ye, hh := true, hst := R, port := z }) (.slice A (rooted S D).length c2)) := hxu
       clear hxu
       have HOqw14 := hid hoq
       clear hoq
       have HBw14 := hid hb
       clear hb
       clear hlu
       obtain ⟨c0, c1, c2', c3, c4, c5, c6, c7, c8, c9, c10, c11, c12⟩ := HXuw14.out.facts
       go_wp2_with (refine store_box HXrw14.out { U0 with sch := S, usr := xe, pwd := ye, hh := true, hst := R, port := z } A (rooted S D).length c2 (.tmp 4) (.tmp 91) rfl rfl rfl rfl ?_)
       try simp only [Exit.inBlock, Exit.then]
       have hpo : ∀ k, k ≠ w.heap.size → (World.setRow w14 (w.heap.size) (cells { U0 with sch := S, usr := xe, pwd := ye, hh := true, hst := R, port := z } (.slice A (rooted S D).length c2))).heap[k]? = w14.heap[k]? := fun k hk => setRow_other _ _ _ _ hk
       have ho := owns_base (SixC.owns_other HOqw14.out hpo HLr.out) (by have h1 := LE_r.out; have h2 := HLr.out; omega : w.heap.size ≤ _)
       exact bodyPost_ret (w := World.setRow w14 w.heap.size (cells { U0 with sch := S, usr := xe, pwd := ye, hh := true, hst := R, port := z } (.slice A (rooted S D).length c2))) (res2 (u := { U0 with sch := S, usr := xe, pwd := ye, hh := true, hst := R, port := z }) (p := (.slice A (rooted S D).length c2)) rfl (HXrw14.out.row { U0 with sch := S, usr := xe, pwd := ye, hh := true, hst := R, port := z } _) true _ rfl rfl) rfl (ans_some (u := { U0 with sch := S, usr := xe, pwd := ye, hst := R, hh := true, port := z, pth := rooted S D }) HO5.out (below_setRow HBw14.out LE_r.out _) ho)
      ·
       have HNO : Hid (O = none) := by show _ = _; rw [HO4.out, hz]
       clear hz
       go_wp2_with (refine store_box HXrw12.out U0 none 0 0 (.tmp 4) (.tmp 86) rfl rfl rfl rfl ?_)
       try simp only [Exit.inBlock, Exit.then]
       exact bodyPost_ret (w := World.setRow w12 w.heap.size (cells U0 (.slice none 0 0))) (res2 (u := U0) (p := .slice none 0 0) rfl (HXrw12.out.row U0 _) false _ rfl rfl) rfl (ans_none HNO.out (below_setRow HBw12.out LE_r.out _))
end Go.Proofs.YtmdofbccebkbiaaGreatDoor.PrsD
