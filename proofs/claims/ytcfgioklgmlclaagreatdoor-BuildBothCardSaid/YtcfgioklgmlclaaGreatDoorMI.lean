/- Texts that belong together: AL, Em. -/
import Derived.Test.YtcfgioklgmlclaaGreatDoorMG
import Derived.Test.YtcfgioklgmlclaaGreatDoorME
import Derived.Test.YtcfgioklgmlclaaGreatDoorMA
import Derived.Test.YtcfgioklgmlclaaGreatDoorMB
import Derived.Test.YtcfgioklgmlclaaGreatDoorMF
set_option linter.unusedSimpArgs false
set_option linter.unusedVariables false
set_option maxRecDepth 100000
set_option maxHeartbeats 64000000
namespace Go.Proofs.YtcfgioklgmlclaaGreatDoor.AL
open Go.RowKit Base fZ aP eX fE pU AO ng aH xX tq Ej tZ
def Own (w0 w : World) (u : U) (A : Option Addr) (n c : Nat) : Prop := w.ownsRow w0.heap.size 9 1 (.slice A n c) n (u.aN.map Value.string)
theorem Own.aN {w0 w : World} {u : U} {A : Option Addr} {n c : Nat} (h : Own w0 w u A n c) : iR w u A n c := by
 obtain ⟨A', c', e, h1, h2, h3⟩ := bZ h
 cases e
 exact ⟨h3, h1, h2⟩
theorem Own.below {w0 w w' : World} {u : U} {A : Option Addr} {n c : Nat} (h : Own w0 w u A n c) (hb : Below w.heap.size w w') : Own w0 w' u A n c := aI h hb
theorem Own.row {w0 w : World} {u : U} {A : Option Addr} {n c g : Nat} (h : Own w0 w u A n c) (hg : g < w0.heap.size) (cs : Array Value) : Own w0 (w.setRow g cs) u A n c := fH.aC (gb := g) h (fun k hk => setRow_other _ _ _ _ hk) hg
theorem Own.base {w0 w1 w : World} {u : U} {A : Option Addr} {n c : Nat} (h : Own w1 w u A n c) (hb : w0.heap.size ≤ w1.heap.size) : Own w0 w u A n c := aF h hb
theorem wG (w0 w : World) {u : U} (h : u.aN = []) : Own w0 w u none 0 0 := by
 unfold Own
 rw [h]
 exact World.ownsRow_nil _ _ _ _
def mG (w : World) (o : Option U) (e : Ending) (w' : World) : Prop := Below w.heap.size w w' ∧ ∃ u A n c ok, e = .returned (.tuple #[.agg (cells u (.slice A n c)), .bool ok]) ∧ Own w w' u A n c ∧ (o = some u ∧ ok = true ∨ o = none ∧ ok = false ∧ u = U0)
end Go.Proofs.YtcfgioklgmlclaaGreatDoor.AL
namespace Go.Proofs.YtcfgioklgmlclaaGreatDoor.Em
open Go.RowKit Base fZ aP eX fE pU AO qM ng kX zN Uk Qu AA Fh aH xX tq Ej tZ AL
def Ar (S x y V D : List UInt8) : Option U :=
 if (hap false V).2.2 = true ∧ (hap false V).1 = [] then none else
 match hst (hap false V).1 (special S), prt S (hap false V).2.1 with
 | some H, some p => some { U0 with aj := S, usr := x, dR := y, hst := H, hh := true, port := p, aN := rooted S D }
 | _, _ => none
theorem Yt (S T : List UInt8) : authority S T = if (jh (T.take (upto (special S) T))).2.2.2 = true ∧ (jh (T.take (upto (special S) T))).2.2.1 = [] then none else Ar S (jh (T.take (upto (special S) T))).1 (jh (T.take (upto (special S) T))).2.1 (jh (T.take (upto (special S) T))).2.2.1 (T.drop (upto (special S) T)) := rfl
theorem lZ {o : Option Int} {e : Ending} (h : PrtV o e) : ∃ z b, e = .returned (.tuple #[.int .i64 z, .bool b]) ∧ (o = some z ∧ b = true ∨ o = none ∧ b = false) := by
 cases o with
 | some z => exact ⟨z, true, h, .inl ⟨rfl, rfl⟩⟩
 | none => obtain ⟨z, hz⟩ := h; exact ⟨z, false, hz, .inr ⟨rfl, rfl⟩⟩
theorem fC {L : List UInt8} {n : Nat} (h : L.length ≤ n) : (strOf L).size ≤ n := by rw [ah]; exact h
theorem aK (L : List UInt8) : (strOf L).toList = L := by rw [Lib.toList_data]; rfl
theorem iw {w w' : World} {o : Option U} (ho : o = none) (hb : Below w.heap.size w w') : mG w o (.returned (.tuple #[.agg (cells U0 (.slice none 0 0)), .bool false])) w' :=
 ⟨hb, U0, none, 0, 0, false, rfl, wG _ _ rfl, .inr ⟨ho, rfl, rfl⟩⟩
theorem dP {w w' : World} {o : Option U} {u : U} {A : Option Addr} {n c : Nat} (ho : o = some u) (hb : Below w.heap.size w w') (hp : Own w w' u A n c) : mG w o (.returned (.tuple #[.agg (cells u (.slice A n c)), .bool true])) w' :=
 ⟨hb, u, A, n, c, true, rfl, hp, .inl ⟨ho, rfl⟩⟩
theorem o8 (b : UInt8) : ∀ L : List UInt8, (dV b L).1.length ≤ L.length ∧ (dV b L).2.1.length ≤ L.length
 | [] => by simp [dV]
 | c :: L => by
  have h := o8 b L
  unfold dV
  split
  ·simp
  ·simp only [List.length_cons]
   omega
theorem oG (S T : List UInt8) (w : World) (hs : T.length ≤ 900000) (hL : pR w) (hT : Tab.Pow w) (hM : Max w) : Calls Tryz.prog 99 #[.string (strOf S), .string (strOf T)] w (mG w (authority S T)) := by
 obtain ⟨O, hO⟩ : ∃ O, O = authority S T := ⟨_, rfl⟩
 rw [← hO]
 rw [Yt] at hO
 obtain ⟨X, hX⟩ : ∃ X, X = T.take (upto (special S) T) := ⟨_, rfl⟩
 obtain ⟨D, hD⟩ : ∃ D, D = T.drop (upto (special S) T) := ⟨_, rfl⟩
 have hXl : X.length ≤ 900000 := by rw [hX, List.length_take]; omega
 have hDl : D.length ≤ 900000 := by rw [hD, List.length_drop]; omega
 have hU : ∀ w : World, Calls Tryz.prog 155 #[.string (strOf S), .string (strOf T)] w fun e w' => e = .returned (.tuple #[.string (strOf X), .string (strOf D)]) ∧ Below w.heap.size w w' := fun w => by rw [hX, hD]; exact MO (strOf S) (strOf T) w (fC (by omega))
 rw [← hX, ← hD] at hO
 have hLa : ∀ w : World, Calls Tryz.prog 156 #[.string (strOf X), .int .u8 64] w fun e w' => e = .returned (.int .i64 (Lib.lastIndexByte (strOf X) 64)) ∧ w' = w := fun w => Tryz.strings_LastIndexByte (strOf X) 64 w (by rw [ah]; omega)
 have hsp : ∀ w : World, Calls Tryz.prog 97 #[.string (strOf S)] w fun e w' => e = .returned (.bool (special S)) ∧ w' = w := fun w => jq (strOf S) w
 have hrt : ∀ w : World, Calls Tryz.prog 154 #[.string (strOf S), .string (strOf D)] w (jT w.heap.size w (rooted S D)) := fun w => wM (strOf S) (strOf D) w (fC hDl)
 have HU := hid hU
 have Fe := hid hsp
 have Ce := hid hrt
 have HL := hid hL
 have HT := hid hT
 have HM := hid hM
 clear hU hsp hrt hL hT hM hX hD hDl hs
 have hls := Zi (strOf X)
 rw [show (strOf X).data.toList = X from rfl] at hls
 obtain ⟨zl, hzl⟩ : ∃ z, z = Lib.lastIndexByte (strOf X) 64 := ⟨_, rfl⟩
 rw [← hzl] at hLa hls
 have Ye := hid hLa
 have HO0 := hid hO
 clear hLa hzl hO
 go_enter Tryz.func99, Tryz.ntmps99
 go_upto_region 1 with (fail)
 generalize hw : World.alloc w _ = w1
 have h1 : UB w1 (w.heap.size) (U0) (.slice none 0 0) ∧ Below w.heap.size w w1 := by
  subst hw
  exact laid1 w _ _
 clear hw
 have bU : Hid (w.heap.size ≤ w.heap.size) := (Below.refl w.heap.size w).size
 have dn := hid (bel (Below.refl w.heap.size w) h1.2)
 have bJ := hid h1.1
 clear h1
 go_wp2_with fail
 refine (HU.out _).mono ?_
 rintro e w2 ⟨rfl, hbx⟩
 have dh := hid (bJ.out.below hbx)
 have eY := hid (bel dn.out hbx)
 clear bJ dn
 clear hbx
 go_upto_region 3 with (fail)
 generalize hw : World.alloc w2 _ = w3
 have h1 : UB w3 (w2.heap.size) ({ U0 with aj := S, hh := true }) (.slice none 0 0) ∧ Below w2.heap.size w2 w3 := by
  subst hw
  exact laid1 w2 _ _
 clear hw
 have hlr := dh.out.lt
 have aU : Hid (w.heap.size ≠ w2.heap.size) := by show _ ≠ _; omega
 have nU : Hid (w2.heap.size ≠ w.heap.size) := by show _ ≠ _; omega
 clear hlr
 have dU : Hid (w.heap.size ≤ w2.heap.size) := eY.out.size
 have bQ := hid (dh.out.below h1.2)
 have dL := hid (bel eY.out h1.2)
 have eG := hid h1.1
 clear dh eY
 clear h1
 go_wp2_with fail
 refine (Ye.out _).mono ?_
 rintro e wx ⟨rfl, hwx⟩
 obtain rfl : w3 = wx := by first | exact hwx | exact hwx.symm
 clear hwx
 rcases hls with ⟨rfl, hl⟩ | ⟨k, hk, rfl, hl⟩
 ·
  obtain ⟨V, hV⟩ : ∃ V, V = X := ⟨_, rfl⟩
  have HOT : Hid (O = Ar S [] [] V D) := by show _ = _; rw [HO0.out, show jh X = ([], [], X, false) by unfold jh; rw [hl], hV]; rfl
  have hVl : V.length ≤ 900000 := by rw [hV]; exact hXl
  rw [← hV]
  clear HO0 hl hXl HU Ye
  subst hV
  obtain ⟨H1, H2, c, hh⟩ : ∃ H1 H2 c, hap false V = (H1, H2, c) := ⟨_, _, _, rfl⟩
  have hl1 := (zu V false).1
  have hl2 := (zu V false).2
  rw [hh] at hl1 hl2
  simp only at hl1 hl2
  have hhp : ∀ w : World, Calls Tryz.prog 157 #[.string (strOf V)] w fun e w' => e = .returned (.tuple #[.string (strOf H1), .string (strOf H2), .bool c]) ∧ Below w.heap.size w w' := fun w => by
   have h := wX (strOf V) w (fC (by omega))
   rw [show (strOf V).data.toList = V from rfl, hh] at h
   exact h
  have HHP := hid hhp
  have hO2 : O = if c = true ∧ H1 = [] then none else match hst H1 (special S), prt S H2 with | some H, some p => some { U0 with aj := S, usr := [], dR := [], hst := H, hh := true, port := p, aN := rooted S D } | _, _ => none := by
   rw [HOT.out]; unfold Ar; rw [hh]; first | done | rfl
  have hH : ∀ w : World, pR w → Tab.Pow w → Max w → Calls Tryz.prog 158 #[.string (strOf H1), .bool (special S)] w fun e w' => e = .returned (HV (hst H1 (special S))) ∧ Below w.heap.size w w' := fun w a b d => AA.parse_any (strOf H1) (special S) w (fC (by omega)) a b d
  have hPo : ∀ w : World, Calls Tryz.prog 159 #[.string (strOf S), .string (strOf H2)] w fun e w' => PrtV (prt S H2) e ∧ w' = w := fun w => uV (strOf S) (strOf H2) w (fC (by omega))
  have HH := hid hH
  have Qo := hid hPo
  have jI := hid hO2
  clear hhp hl1 hl2 hh hH hPo HOT hO2
  go_wp2_with fail
  refine (HHP.out _).mono ?_
  rintro e w4 ⟨rfl, hbx⟩
  have bP := hid (bQ.out.below hbx)
  have dA := hid (eG.out.below hbx)
  have dH := hid (bel dL.out hbx)
  clear bQ eG dL
  clear hbx
  cases c
  focus
   have ig : Hid (O = match hst H1 (special S), prt S H2 with | some H, some p => some { U0 with aj := S, usr := [], dR := [], hst := H, hh := true, port := p, aN := rooted S D } | _, _ => none) := by show _ = _; rw [jI.out, if_neg (by simp)]
   clear jI
   go_wp2_with fail
   refine (Fe.out _).mono ?_
   rintro e wx ⟨rfl, hwx⟩
   obtain rfl : w4 = wx := by first | exact hwx | exact hwx.symm
   clear hwx
  rotate_left
  focus
   by_cases h0 : H1 = []
   ·
    have oD : Hid (O = none) := by show _ = _; rw [jI.out, if_pos ⟨rfl, h0⟩]
    have q0 : ((strOf H1).toList == []) = true := by rw [aK, h0]; rfl
    have q1 : (strOf H1).toList = [] := by rw [aK, h0]
    clear jI h0
    go_wp2_with (refine au bP.out U0 none 0 0 (.tmp 4) (.tmp 64) rfl rfl rfl rfl ?_)
    try simp only [Exit.inBlock, Exit.then]
    exact bodyPost_ret (w := World.setRow w4 w.heap.size (cells U0 (.slice none 0 0))) (res2 (u := U0) (p := .slice none 0 0) rfl (bP.out.row U0 _) false _ rfl rfl) rfl (iw oD.out (below_setRow dH.out bU.out _))
   have ig : Hid (O = match hst H1 (special S), prt S H2 with | some H, some p => some { U0 with aj := S, usr := [], dR := [], hst := H, hh := true, port := p, aN := rooted S D } | _, _ => none) := by show _ = _; rw [jI.out, if_neg (fun h => h0 h.2)]
   have q0 : ((strOf H1).toList == []) = false := by rw [aK, beq_eq_false_iff_ne]; exact h0
   have q1 : ¬ (strOf H1).toList = [] := by rw [aK]; exact h0
   have q2 : (strOf H1).toList.isEmpty = false := by rw [aK]; simpa using h0
   clear jI h0
   go_wp2_with fail
   refine (Fe.out _).mono ?_
   rintro e wx ⟨rfl, hwx⟩
   obtain rfl : w4 = wx := by first | exact hwx | exact hwx.symm
   clear hwx
  rotate_left
  all_goals
   cases hx : hst H1 (special S) with
   | none =>
    have oD : Hid (O = none) := by show _ = _; rw [ig.out, hx]
    rw [hx] at HH
    clear hx
    go_wp2_with fail
    refine (HH.out _ (HL.out.below dH.out) (cO HT.out dH.out) (HM.out.below dH.out)).mono ?_
    rintro e w5 ⟨rfl, hbx⟩
    have bM := hid (bP.out.below hbx)
    have bG := hid (dA.out.below hbx)
    have dZ := hid (bel dH.out hbx)
    clear bP dA dH
    clear hbx
    rw [show HV none = .tuple #[.string (strOf []), .bool false] from rfl]
    have cx := bG.out.facts.2.2.2.1
    have fx := bG.out.thaw.2.2.2.1
    go_upto_region 16 with (fail)
    have hxr := bM.out.set (k := w2.heap.size) (i := 3) (.string (strOf [])) (aU.out)
    have hxu := bG.out.hst []
    have hb := dZ.out.setCell (p := ⟨w2.heap.size, 3, none⟩) (dU.out) (.string (strOf []))
    clear bM bG dZ
    clear cx fx
    generalize World.setCell w5 _ _ = w6 at hxr hxu hb ⊢
    have bT : Hid (UB w6 (w.heap.size) (U0) (.slice none 0 0)) := hxr
    clear hxr
    have bD : Hid (UB w6 (w2.heap.size) ({ U0 with aj := S, usr := [], dR := [], hh := true, hst := [] }) (.slice none 0 0)) := hxu
    clear hxu
    have fA := hid hb
    clear hb
    go_wp2_with fail
    refine (Qo.out _).mono ?_
    rintro e wx ⟨hv, hwx⟩
    obtain rfl : w6 = wx := hwx.symm
    clear hwx
    obtain ⟨z, ok, rfl, U7⟩ := lZ hv
    clear hv
    have cx := bD.out.facts.2.2.2.2.2.1
    have fx := bD.out.thaw.2.2.2.2.2.1
    go_upto_region 17 with (fail)
    have hxr := bT.out.set (k := w2.heap.size) (i := 5) (.int .i64 z) (aU.out)
    have hxu := bD.out.port z
    have hb := fA.out.setCell (p := ⟨w2.heap.size, 5, none⟩) (dU.out) (.int .i64 z)
    clear bT bD fA
    clear cx fx
    generalize World.setCell w6 _ _ = w7 at hxr hxu hb ⊢
    have dI : Hid (UB w7 (w.heap.size) (U0) (.slice none 0 0)) := hxr
    clear hxr
    have dJ : Hid (UB w7 (w2.heap.size) ({ U0 with aj := S, usr := [], dR := [], hh := true, hst := [], port := z }) (.slice none 0 0)) := hxu
    clear hxu
    have gQ := hid hb
    clear hb
    clear U7
    go_wp2_with (refine au dI.out U0 none 0 0 (.tmp 4) (.tmp 86) rfl rfl rfl rfl ?_)
    try simp only [Exit.inBlock, Exit.then]
    exact bodyPost_ret (w := World.setRow w7 w.heap.size (cells U0 (.slice none 0 0))) (res2 (u := U0) (p := .slice none 0 0) rfl (dI.out.row U0 _) false _ rfl rfl) rfl (iw oD.out (below_setRow gQ.out bU.out _))
   | some R =>
    have GN : Hid (O = match prt S H2 with | some p => some { U0 with aj := S, usr := [], dR := [], hst := R, hh := true, port := p, aN := rooted S D } | none => none) := by show _ = _; rw [ig.out, hx]; cases prt S H2 <;> rfl
    rw [hx] at HH
    clear hx
    go_wp2_with fail
    refine (HH.out _ (HL.out.below dH.out) (cO HT.out dH.out) (HM.out.below dH.out)).mono ?_
    rintro e w5 ⟨rfl, hbx⟩
    have bM := hid (bP.out.below hbx)
    have bG := hid (dA.out.below hbx)
    have dZ := hid (bel dH.out hbx)
    clear bP dA dH
    clear hbx
    rw [show HV (some R) = .tuple #[.string (strOf R), .bool true] from rfl]
    have cx := bG.out.facts.2.2.2.1
    have fx := bG.out.thaw.2.2.2.1
    go_upto_region 16 with (fail)
    have hxr := bM.out.set (k := w2.heap.size) (i := 3) (.string (strOf R)) (aU.out)
    have hxu := bG.out.hst R
    have hb := dZ.out.setCell (p := ⟨w2.heap.size, 3, none⟩) (dU.out) (.string (strOf R))
    clear bM bG dZ
    clear cx fx
    generalize World.setCell w5 _ _ = w6 at hxr hxu hb ⊢
    have bT : Hid (UB w6 (w.heap.size) (U0) (.slice none 0 0)) := hxr
    clear hxr
    have bD : Hid (UB w6 (w2.heap.size) ({ U0 with aj := S, usr := [], dR := [], hh := true, hst := R }) (.slice none 0 0)) := hxu
    clear hxu
    have fA := hid hb
    clear hb
    go_wp2_with fail
    refine (Qo.out _).mono ?_
    rintro e wx ⟨hv, hwx⟩
    obtain rfl : w6 = wx := hwx.symm
    clear hwx
    obtain ⟨z, ok, rfl, U7⟩ := lZ hv
    clear hv
    have cx := bD.out.facts.2.2.2.2.2.1
    have fx := bD.out.thaw.2.2.2.2.2.1
    go_upto_region 17 with (fail)
    have hxr := bT.out.set (k := w2.heap.size) (i := 5) (.int .i64 z) (aU.out)
    have hxu := bD.out.port z
    have hb := fA.out.setCell (p := ⟨w2.heap.size, 5, none⟩) (dU.out) (.int .i64 z)
    clear bT bD fA
    clear cx fx
    generalize World.setCell w6 _ _ = w7 at hxr hxu hb ⊢
    have dI : Hid (UB w7 (w.heap.size) (U0) (.slice none 0 0)) := hxr
    clear hxr
    have dJ : Hid (UB w7 (w2.heap.size) ({ U0 with aj := S, usr := [], dR := [], hh := true, hst := R, port := z }) (.slice none 0 0)) := hxu
    clear hxu
    have gQ := hid hb
    clear hb
    rcases U7 with ⟨hz, rfl⟩ | ⟨hz, rfl⟩
    ·
     have kW : Hid (O = some { U0 with aj := S, usr := [], dR := [], hst := R, hh := true, port := z, aN := rooted S D }) := by show _ = _; rw [GN.out, hz]
     clear hz
     go_wp2_with fail
     refine (Ce.out _).mono ?_
     rintro e w8 ⟨q, rfl, hown, hbx⟩
     obtain ⟨A, c2, rfl, hq⟩ := bY (u := { U0 with aN := rooted S D }) hown
     clear hq
     replace hown := aF hown (Nat.le_refl _)
     have sZ : Hid (w2.heap.size < w7.heap.size) := dJ.out.lt
     have fV : Hid (w.heap.size < w7.heap.size) := dI.out.lt
     have fQ := hid (dI.out.below hbx)
     have iD := hid (dJ.out.below hbx)
     have nM := hid (bel gQ.out hbx)
     have mP := hid hown
     clear hown
     clear dI dJ gQ
     clear hbx
     have xG := sZ.out
     have cx := iD.out.facts.2.2.2.2.2.2.2.2.1
     have fx := iD.out.thaw.2.2.2.2.2.2.2.2.1
     go_upto_region 20 with (fail)
     have hxr := fQ.out.set (k := w2.heap.size) (i := 8) (.slice A (rooted S D).length c2) (aU.out)
     have hxu := iD.out.path (.slice A (rooted S D).length c2)
     have hoq := fH.aC (w' := w8.setCell ⟨w2.heap.size, 8, none⟩ (.slice A (rooted S D).length c2)) (gb := w2.heap.size) mP.out (fun k hk => heap_setCell_other _ _ _ _ hk) (by omega)
     have hb := nM.out.setCell (p := ⟨w2.heap.size, 8, none⟩) (dU.out) (.slice A (rooted S D).length c2)
     clear fQ iD mP nM
     clear cx fx
     generalize World.setCell w8 _ _ = w9 at hxr hxu hoq hb ⊢
     have mW : Hid (UB w9 (w.heap.size) (U0) (.slice none 0 0)) := hxr
     clear hxr
     have mX : Hid (UB w9 (w2.heap.size) ({ U0 with aj := S, usr := [], dR := [], hh := true, hst := R, port := z }) (.slice A (rooted S D).length c2)) := hxu
     clear hxu
     have aaD := hid hoq
     clear hoq
     have nN := hid hb
     clear hb
     clear xG
     obtain ⟨c0, c1, c2', c3, c4, c5, c6, c7, c8, c9, c10, c11, c12⟩ := mX.out.facts
     go_wp2_with (refine au mW.out { U0 with aj := S, usr := [], dR := [], hh := true, hst := R, port := z } A (rooted S D).length c2 (.tmp 4) (.tmp 91) rfl rfl rfl rfl ?_)
     try simp only [Exit.inBlock, Exit.then]
     have hpo : ∀ k, k ≠ w.heap.size → (World.setRow w9 (w.heap.size) (cells { U0 with aj := S, usr := [], dR := [], hh := true, hst := R, port := z } (.slice A (rooted S D).length c2))).heap[k]? = w9.heap[k]? := fun k hk => setRow_other _ _ _ _ hk
     have ho := aF (fH.aC aaD.out hpo fV.out) (by have h1 := bU.out; have h2 := fV.out; omega : w.heap.size ≤ _)
     exact bodyPost_ret (w := World.setRow w9 w.heap.size (cells { U0 with aj := S, usr := [], dR := [], hh := true, hst := R, port := z } (.slice A (rooted S D).length c2))) (res2 (u := { U0 with aj := S, usr := [], dR := [], hh := true, hst := R, port := z }) (p := (.slice A (rooted S D).length c2)) rfl (mW.out.row { U0 with aj := S, usr := [], dR := [], hh := true, hst := R, port := z } _) true _ rfl rfl) rfl (dP (u := { U0 with aj := S, usr := [], dR := [], hst := R, hh := true, port := z, aN := rooted S D }) kW.out (below_setRow nN.out bU.out _) ho)
    ·
     have oD : Hid (O = none) := by show _ = _; rw [GN.out, hz]
     clear hz
     go_wp2_with (refine au dI.out U0 none 0 0 (.tmp 4) (.tmp 86) rfl rfl rfl rfl ?_)
     try simp only [Exit.inBlock, Exit.then]
     exact bodyPost_ret (w := World.setRow w7 w.heap.size (cells U0 (.slice none 0 0))) (res2 (u := U0) (p := .slice none 0 0) rfl (dI.out.row U0 _) false _ rfl rfl) rfl (iw oD.out (below_setRow gQ.out bU.out _))
 ·
  rw [ah] at hk
  obtain ⟨E, hE⟩ : ∃ E, E = X.take k := ⟨_, rfl⟩
  obtain ⟨V, hV⟩ : ∃ V, V = X.drop (k + 1) := ⟨_, rfl⟩
  have hVl : V.length ≤ 900000 := by rw [hV, List.length_drop]; omega
  have hEl : E.length ≤ 900000 := by rw [hE, List.length_take]; omega
  obtain ⟨N, P2, bb, hc⟩ : ∃ N P2 b, dV 58 E = (N, P2, b) := ⟨_, _, _, rfl⟩
  have hNl : N.length ≤ 900000 ∧ P2.length ≤ 900000 := by have h := o8 58 E; rw [hc] at h; simp only at h; omega
  have hC : ∀ w : World, Max w → Calls Tryz.prog 28 #[.string (strOf E), .string ⟨#[58]⟩] w fun e w' => e = .returned (.tuple #[.string (strOf N), .string (strOf P2), .bool bb]) ∧ Below w.heap.size w w' := fun w ⟨m, hm⟩ => (Tryz.strings_Cut (strOf E) ⟨#[58]⟩ m w (by rw [ah]; omega) hm).mono fun e w' ⟨h1, q, h2⟩ => ⟨by rw [h1, show (strOf E).data.toList = E from rfl, show (⟨#[58]⟩ : ByteArray).data.toList = [58] from rfl, uH, hc]; rfl, by rw [h2]; exact Base.below_drewN (Below.refl _ _) _⟩
  have HC := hid hC
  have hx1 : (strOf X).extract 0 k = strOf E := by rw [JB, hE]; rfl
  have hx2 : (strOf X).extract (k + 1) (strOf X).size = strOf V := by rw [kP, hV]; rfl
  have hcr : jh X = (aJ.enc 5 N, aJ.enc 5 P2, V, true) := by unfold jh; rw [hl]; simp only; rw [← hE, ← hV, hc]
  have hO := HO0.out
  rw [hcr] at hO
  simp only at hO
  have hkI : (k : Int) ≤ ((strOf X).size : Int) := by rw [ah]; omega
  have hkJ : (k : Int) + 1 ≤ ((strOf X).size : Int) := by rw [ah]; omega
  have hk0 : ¬ (k : Int) < 0 := by omega
  have hk1 : (0 : Int) ≤ (k : Int) := by omega
  have hkt : ((k : Int) + 1).toNat = k + 1 := by omega
  have Qd : (strOf X).size ≤ 900000 := fC hXl
  have HO := hid hO
  have iG := hid hx2
  clear hC hcr hO hE hV hc hl HO0
  go_wp2_with fail
  refine (HC.out _ (HM.out.below dL.out)).mono ?_
  rintro e w4 ⟨rfl, hbx⟩
  have bP := hid (bQ.out.below hbx)
  have dA := hid (eG.out.below hbx)
  have dH := hid (bel dL.out hbx)
  clear bQ eG dL
  clear hbx
  clear hx1
  have hcv := fun (w : World) s => run_bytes_of_string (P := Tryz.prog) w 9 30 5 s Tryz.underlying9 Tryz.underlying30 Tryz.underlying5
  go_wp2_with fail
  clear hcv
  refine (aJ.fM 5 _ _ _ N _ (iy (strOf N) _ _ _) (fC (by omega))).mono ?_
  rintro e w5 ⟨rfl, hb0⟩
  have hbx : Below w4.heap.size w4 w5 := bel (((Below.refl w4.heap.size w4).alloc (Nat.le_refl _) _).drew) hb0
  clear hb0
  have bM := hid (bP.out.below hbx)
  have bG := hid (dA.out.below hbx)
  have dZ := hid (bel dH.out hbx)
  clear bP dA dH
  clear hbx
  have cx := bG.out.facts.2.1
  have fx := bG.out.thaw.2.1
  go_upto_region 7 with (fail)
  have hxr := bM.out.set (k := w2.heap.size) (i := 1) (.string (strOf (aJ.enc 5 N))) (aU.out)
  have hxu := bG.out.usr (aJ.enc 5 N)
  have hb := dZ.out.setCell (p := ⟨w2.heap.size, 1, none⟩) (dU.out) (.string (strOf (aJ.enc 5 N)))
  clear bM bG dZ
  clear cx fx
  generalize World.setCell w5 _ _ = w6 at hxr hxu hb ⊢
  have bT : Hid (UB w6 (w.heap.size) (U0) (.slice none 0 0)) := hxr
  clear hxr
  have bD : Hid (UB w6 (w2.heap.size) ({ U0 with aj := S, hh := true, usr := aJ.enc 5 N }) (.slice none 0 0)) := hxu
  clear hxu
  have fA := hid hb
  clear hb
  have hcv := fun (w : World) s => run_bytes_of_string (P := Tryz.prog) w 9 30 5 s Tryz.underlying9 Tryz.underlying30 Tryz.underlying5
  go_wp2_with fail
  clear hcv
  refine (aJ.fM 5 _ _ _ P2 _ (iy (strOf P2) _ _ _) (fC (by omega))).mono ?_
  rintro e w7 ⟨rfl, hb0⟩
  have hbx : Below w6.heap.size w6 w7 := bel (((Below.refl w6.heap.size w6).alloc (Nat.le_refl _) _).drew) hb0
  clear hb0
  have dI := hid (bT.out.below hbx)
  have dJ := hid (bD.out.below hbx)
  have gQ := hid (bel fA.out hbx)
  clear bT bD fA
  clear hbx
  have cx := dJ.out.facts.2.2.1
  have fx := dJ.out.thaw.2.2.1
  go_upto_region 8 with (fail)
  have hxr := dI.out.set (k := w2.heap.size) (i := 2) (.string (strOf (aJ.enc 5 P2))) (aU.out)
  have hxu := dJ.out.dR (aJ.enc 5 P2)
  have hb := gQ.out.setCell (p := ⟨w2.heap.size, 2, none⟩) (dU.out) (.string (strOf (aJ.enc 5 P2)))
  clear dI dJ gQ
  clear cx fx
  generalize World.setCell w7 _ _ = w8 at hxr hxu hb ⊢
  have fQ : Hid (UB w8 (w.heap.size) (U0) (.slice none 0 0)) := hxr
  clear hxr
  have iD : Hid (UB w8 (w2.heap.size) ({ U0 with aj := S, hh := true, usr := aJ.enc 5 N, dR := aJ.enc 5 P2 }) (.slice none 0 0)) := hxu
  clear hxu
  have nM := hid hb
  clear hb
  have hx2 := iG.out
  by_cases h0 : V = []
  ·
   have oD : Hid (O = none) := by show _ = _; rw [HO.out, if_pos ⟨by first | rfl | trivial, h0⟩]
   have q0 : ((strOf V).toList == []) = true := by rw [aK, h0]; rfl
   have q1 : (strOf V).toList = [] := by rw [aK, h0]
   clear h0
   go_wp2_with (refine au fQ.out U0 none 0 0 (.tmp 4) (.tmp 52) rfl rfl rfl rfl ?_)
   try simp only [Exit.inBlock, Exit.then]
   exact bodyPost_ret (w := World.setRow w8 w.heap.size (cells U0 (.slice none 0 0))) (res2 (u := U0) (p := .slice none 0 0) rfl (fQ.out.row U0 _) false _ rfl rfl) rfl (iw oD.out (below_setRow nM.out bU.out _))
  ·
   obtain ⟨xe, hxe⟩ : ∃ x, x = aJ.enc 5 N := ⟨_, rfl⟩
   obtain ⟨ye, hye⟩ : ∃ x, x = aJ.enc 5 P2 := ⟨_, rfl⟩
   have HOT : Hid (O = Ar S xe ye V D) := by show _ = _; rw [HO.out, if_neg (fun h => h0 h.2), hxe, hye]
   have q0 : ((strOf V).toList == []) = false := by rw [aK, beq_eq_false_iff_ne]; exact h0
   have q1 : ¬ (strOf V).toList = [] := by rw [aK]; exact h0
   have q2 : (strOf V).toList.isEmpty = false := by rw [aK]; simpa using h0
   rw [← hxe, ← hye] at iD
   clear h0 hxe hye HO
   go_upto_region 11 with (fail)
   clear q0 q1 q2 hx2 hkI hkJ hk0 hk1 hkt Qd hXl hEl hNl iG
   obtain ⟨H1, H2, c, hh⟩ : ∃ H1 H2 c, hap false V = (H1, H2, c) := ⟨_, _, _, rfl⟩
   have hl1 := (zu V false).1
   have hl2 := (zu V false).2
   rw [hh] at hl1 hl2
   simp only at hl1 hl2
   have hhp : ∀ w : World, Calls Tryz.prog 157 #[.string (strOf V)] w fun e w' => e = .returned (.tuple #[.string (strOf H1), .string (strOf H2), .bool c]) ∧ Below w.heap.size w w' := fun w => by
    have h := wX (strOf V) w (fC (by omega))
    rw [show (strOf V).data.toList = V from rfl, hh] at h
    exact h
   have HHP := hid hhp
   have hO2 : O = if c = true ∧ H1 = [] then none else match hst H1 (special S), prt S H2 with | some H, some p => some { U0 with aj := S, usr := xe, dR := ye, hst := H, hh := true, port := p, aN := rooted S D } | _, _ => none := by
    rw [HOT.out]; unfold Ar; rw [hh]; first | done | rfl
   have hH : ∀ w : World, pR w → Tab.Pow w → Max w → Calls Tryz.prog 158 #[.string (strOf H1), .bool (special S)] w fun e w' => e = .returned (HV (hst H1 (special S))) ∧ Below w.heap.size w w' := fun w a b d => AA.parse_any (strOf H1) (special S) w (fC (by omega)) a b d
   have hPo : ∀ w : World, Calls Tryz.prog 159 #[.string (strOf S), .string (strOf H2)] w fun e w' => PrtV (prt S H2) e ∧ w' = w := fun w => uV (strOf S) (strOf H2) w (fC (by omega))
   have HH := hid hH
   have Qo := hid hPo
   have jI := hid hO2
   clear hhp hl1 hl2 hh hH hPo HOT hO2
   go_wp2_with fail
   refine (HHP.out _).mono ?_
   rintro e w9 ⟨rfl, hbx⟩
   have mW := hid (fQ.out.below hbx)
   have mX := hid (iD.out.below hbx)
   have nN := hid (bel nM.out hbx)
   clear fQ iD nM
   clear hbx
   cases c
   focus
    have ig : Hid (O = match hst H1 (special S), prt S H2 with | some H, some p => some { U0 with aj := S, usr := xe, dR := ye, hst := H, hh := true, port := p, aN := rooted S D } | _, _ => none) := by show _ = _; rw [jI.out, if_neg (by simp)]
    clear jI
    go_wp2_with fail
    refine (Fe.out _).mono ?_
    rintro e wx ⟨rfl, hwx⟩
    obtain rfl : w9 = wx := by first | exact hwx | exact hwx.symm
    clear hwx
   rotate_left
   focus
    by_cases h0 : H1 = []
    ·
     have oD : Hid (O = none) := by show _ = _; rw [jI.out, if_pos ⟨rfl, h0⟩]
     have q0 : ((strOf H1).toList == []) = true := by rw [aK, h0]; rfl
     have q1 : (strOf H1).toList = [] := by rw [aK, h0]
     clear jI h0
     go_wp2_with (refine au mW.out U0 none 0 0 (.tmp 4) (.tmp 64) rfl rfl rfl rfl ?_)
     try simp only [Exit.inBlock, Exit.then]
     exact bodyPost_ret (w := World.setRow w9 w.heap.size (cells U0 (.slice none 0 0))) (res2 (u := U0) (p := .slice none 0 0) rfl (mW.out.row U0 _) false _ rfl rfl) rfl (iw oD.out (below_setRow nN.out bU.out _))
    have ig : Hid (O = match hst H1 (special S), prt S H2 with | some H, some p => some { U0 with aj := S, usr := xe, dR := ye, hst := H, hh := true, port := p, aN := rooted S D } | _, _ => none) := by show _ = _; rw [jI.out, if_neg (fun h => h0 h.2)]
    have q0 : ((strOf H1).toList == []) = false := by rw [aK, beq_eq_false_iff_ne]; exact h0
    have q1 : ¬ (strOf H1).toList = [] := by rw [aK]; exact h0
    have q2 : (strOf H1).toList.isEmpty = false := by rw [aK]; simpa using h0
    clear jI h0
    go_wp2_with fail
    refine (Fe.out _).mono ?_
    rintro e wx ⟨rfl, hwx⟩
    obtain rfl : w9 = wx := by first | exact hwx | exact hwx.symm
    clear hwx
   rotate_left
   all_goals
    cases hx : hst H1 (special S) with
    | none =>
     have oD : Hid (O = none) := by show _ = _; rw [ig.out, hx]
     rw [hx] at HH
     clear hx
     go_wp2_with fail
     refine (HH.out _ (HL.out.below nN.out) (cO HT.out nN.out) (HM.out.below nN.out)).mono ?_
     rintro e w10 ⟨rfl, hbx⟩
     have mV := hid (mW.out.below hbx)
     have iY := hid (mX.out.below hbx)
     have uh := hid (bel nN.out hbx)
     clear mW mX nN
     clear hbx
     rw [show HV none = .tuple #[.string (strOf []), .bool false] from rfl]
     have cx := iY.out.facts.2.2.2.1
     have fx := iY.out.thaw.2.2.2.1
     go_upto_region 16 with (fail)
     have hxr := mV.out.set (k := w2.heap.size) (i := 3) (.string (strOf [])) (aU.out)
     have hxu := iY.out.hst []
     have hb := uh.out.setCell (p := ⟨w2.heap.size, 3, none⟩) (dU.out) (.string (strOf []))
     clear mV iY uh
     clear cx fx
     generalize World.setCell w10 _ _ = PI at hxr hxu hb ⊢
     have qK : Hid (UB PI (w.heap.size) (U0) (.slice none 0 0)) := hxr
     clear hxr
     have jv : Hid (UB PI (w2.heap.size) ({ U0 with aj := S, usr := xe, dR := ye, hh := true, hst := [] }) (.slice none 0 0)) := hxu
     clear hxu
     have xP := hid hb
     clear hb
     go_wp2_with fail
     refine (Qo.out _).mono ?_
     rintro e wx ⟨hv, hwx⟩
     obtain rfl : PI = wx := hwx.symm
     clear hwx
     obtain ⟨z, ok, rfl, U7⟩ := lZ hv
     clear hv
     have cx := jv.out.facts.2.2.2.2.2.1
     have fx := jv.out.thaw.2.2.2.2.2.1
     go_upto_region 17 with (fail)
     have hxr := qK.out.set (k := w2.heap.size) (i := 5) (.int .i64 z) (aU.out)
     have hxu := jv.out.port z
     have hb := xP.out.setCell (p := ⟨w2.heap.size, 5, none⟩) (dU.out) (.int .i64 z)
     clear qK jv xP
     clear cx fx
     generalize World.setCell PI _ _ = w12 at hxr hxu hb ⊢
     have jZ : Hid (UB w12 (w.heap.size) (U0) (.slice none 0 0)) := hxr
     clear hxr
     have vJ : Hid (UB w12 (w2.heap.size) ({ U0 with aj := S, usr := xe, dR := ye, hh := true, hst := [], port := z }) (.slice none 0 0)) := hxu
     clear hxu
     have xQ := hid hb
     clear hb
     clear U7
     go_wp2_with (refine au jZ.out U0 none 0 0 (.tmp 4) (.tmp 86) rfl rfl rfl rfl ?_)
     try simp only [Exit.inBlock, Exit.then]
     exact bodyPost_ret (w := World.setRow w12 w.heap.size (cells U0 (.slice none 0 0))) (res2 (u := U0) (p := .slice none 0 0) rfl (jZ.out.row U0 _) false _ rfl rfl) rfl (iw oD.out (below_setRow xQ.out bU.out _))
    | some R =>
     have GN : Hid (O = match prt S H2 with | some p => some { U0 with aj := S, usr := xe, dR := ye, hst := R, hh := true, port := p, aN := rooted S D } | none => none) := by show _ = _; rw [ig.out, hx]; cases prt S H2 <;> rfl
     rw [hx] at HH
     clear hx
     go_wp2_with fail
     refine (HH.out _ (HL.out.below nN.out) (cO HT.out nN.out) (HM.out.below nN.out)).mono ?_
     rintro e w10 ⟨rfl, hbx⟩
     have mV := hid (mW.out.below hbx)
     have iY := hid (mX.out.below hbx)
     have uh := hid (bel nN.out hbx)
     clear mW mX nN
     clear hbx
     rw [show HV (some R) = .tuple #[.string (strOf R), .bool true] from rfl]
     have cx := iY.out.facts.2.2.2.1
     have fx := iY.out.thaw.2.2.2.1
     go_upto_region 16 with (fail)
     have hxr := mV.out.set (k := w2.heap.size) (i := 3) (.string (strOf R)) (aU.out)
     have hxu := iY.out.hst R
     have hb := uh.out.setCell (p := ⟨w2.heap.size, 3, none⟩) (dU.out) (.string (strOf R))
     clear mV iY uh
     clear cx fx
     generalize World.setCell w10 _ _ = PI at hxr hxu hb ⊢
     have qK : Hid (UB PI (w.heap.size) (U0) (.slice none 0 0)) := hxr
     clear hxr
     have jv : Hid (UB PI (w2.heap.size) ({ U0 with aj := S, usr := xe, dR := ye, hh := true, hst := R }) (.slice none 0 0)) := hxu
     clear hxu
     have xP := hid hb
     clear hb
     go_wp2_with fail
     refine (Qo.out _).mono ?_
     rintro e wx ⟨hv, hwx⟩
     obtain rfl : PI = wx := hwx.symm
     clear hwx
     obtain ⟨z, ok, rfl, U7⟩ := lZ hv
     clear hv
     have cx := jv.out.facts.2.2.2.2.2.1
     have fx := jv.out.thaw.2.2.2.2.2.1
     go_upto_region 17 with (fail)
     have hxr := qK.out.set (k := w2.heap.size) (i := 5) (.int .i64 z) (aU.out)
     have hxu := jv.out.port z
     have hb := xP.out.setCell (p := ⟨w2.heap.size, 5, none⟩) (dU.out) (.int .i64 z)
     clear qK jv xP
     clear cx fx
     generalize World.setCell PI _ _ = w12 at hxr hxu hb ⊢
     have jZ : Hid (UB w12 (w.heap.size) (U0) (.slice none 0 0)) := hxr
     clear hxr
     have vJ : Hid (UB w12 (w2.heap.size) ({ U0 with aj := S, usr := xe, dR := ye, hh := true, hst := R, port := z }) (.slice none 0 0)) := hxu
     clear hxu
     have xQ := hid hb
     clear hb
     rcases U7 with ⟨hz, rfl⟩ | ⟨hz, rfl⟩
     ·
      have kW : Hid (O = some { U0 with aj := S, usr := xe, dR := ye, hst := R, hh := true, port := z, aN := rooted S D }) := by show _ = _; rw [GN.out, hz]
      clear hz
      go_wp2_with fail
      refine (Ce.out _).mono ?_
      rintro e w13 ⟨q, rfl, hown, hbx⟩
      obtain ⟨A, c2, rfl, hq⟩ := bY (u := { U0 with aN := rooted S D }) hown
      clear hq
      replace hown := aF hown (Nat.le_refl _)
      have sZ : Hid (w2.heap.size < w12.heap.size) := vJ.out.lt
      have fV : Hid (w.heap.size < w12.heap.size) := jZ.out.lt
      have GX := hid (jZ.out.below hbx)
      have vK := hid (vJ.out.below hbx)
      have Qj := hid (bel xQ.out hbx)
      have GR := hid hown
      clear hown
      clear jZ vJ xQ
      clear hbx
      have xG := sZ.out
      have cx := vK.out.facts.2.2.2.2.2.2.2.2.1
      have fx := vK.out.thaw.2.2.2.2.2.2.2.2.1
      go_upto_region 20 with (fail)
      have hxr := GX.out.set (k := w2.heap.size) (i := 8) (.slice A (rooted S D).length c2) (aU.out)
      have hxu := vK.out.path (.slice A (rooted S D).length c2)
      have hoq := fH.aC (w' := w13.setCell ⟨w2.heap.size, 8, none⟩ (.slice A (rooted S D).length c2)) (gb := w2.heap.size) GR.out (fun k hk => heap_setCell_other _ _ _ _ hk) (by omega)
      have hb := Qj.out.setCell (p := ⟨w2.heap.size, 8, none⟩) (dU.out) (.slice A (rooted S D).length c2)
      clear GX vK GR Qj
      clear cx fx
      generalize World.setCell w13 _ _ = w14 at hxr hxu hoq hb ⊢
      have GY : Hid (UB w14 (w.heap.size) (U0) (.slice none 0 0)) := hxr
      clear hxr
      have Uj : Hid (UB w14 (w2.heap.size) ({ U0 with aj := S, usr := xe, dR := ye, hh := true, hst := R, port := z }) (.slice A (rooted S D).length c2)) := hxu
      clear hxu
      have Ub := hid hoq
      clear hoq
      have aaw := hid hb
      clear hb
      clear xG
      obtain ⟨c0, c1, c2', c3, c4, c5, c6, c7, c8, c9, c10, c11, c12⟩ := Uj.out.facts
      go_wp2_with (refine au GY.out { U0 with aj := S, usr := xe, dR := ye, hh := true, hst := R, port := z } A (rooted S D).length c2 (.tmp 4) (.tmp 91) rfl rfl rfl rfl ?_)
      try simp only [Exit.inBlock, Exit.then]
      have hpo : ∀ k, k ≠ w.heap.size → (World.setRow w14 (w.heap.size) (cells { U0 with aj := S, usr := xe, dR := ye, hh := true, hst := R, port := z } (.slice A (rooted S D).length c2))).heap[k]? = w14.heap[k]? := fun k hk => setRow_other _ _ _ _ hk
      have ho := aF (fH.aC Ub.out hpo fV.out) (by have h1 := bU.out; have h2 := fV.out; omega : w.heap.size ≤ _)
      exact bodyPost_ret (w := World.setRow w14 w.heap.size (cells { U0 with aj := S, usr := xe, dR := ye, hh := true, hst := R, port := z } (.slice A (rooted S D).length c2))) (res2 (u := { U0 with aj := S, usr := xe, dR := ye, hh := true, hst := R, port := z }) (p := (.slice A (rooted S D).length c2)) rfl (GY.out.row { U0 with aj := S, usr := xe, dR := ye, hh := true, hst := R, port := z } _) true _ rfl rfl) rfl (dP (u := { U0 with aj := S, usr := xe, dR := ye, hst := R, hh := true, port := z, aN := rooted S D }) kW.out (below_setRow aaw.out bU.out _) ho)
     ·
      have oD : Hid (O = none) := by show _ = _; rw [GN.out, hz]
      clear hz
      go_wp2_with (refine au jZ.out U0 none 0 0 (.tmp 4) (.tmp 86) rfl rfl rfl rfl ?_)
      try simp only [Exit.inBlock, Exit.then]
      exact bodyPost_ret (w := World.setRow w12 w.heap.size (cells U0 (.slice none 0 0))) (res2 (u := U0) (p := .slice none 0 0) rfl (jZ.out.row U0 _) false _ rfl rfl) rfl (iw oD.out (below_setRow xQ.out bU.out _))
end Go.Proofs.YtcfgioklgmlclaaGreatDoor.Em
