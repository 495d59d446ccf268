/- Texts that belong together: zU, Ce. -/
import Derived.Test.YtmdofbccebkbiaaGreatDoorMG
import Derived.Test.YtmdofbccebkbiaaGreatDoorME
import Derived.Test.YtmdofbccebkbiaaGreatDoorMA
import Derived.Test.YtmdofbccebkbiaaGreatDoorMB
import Derived.Test.YtmdofbccebkbiaaGreatDoorMF
set_option linter.unusedSimpArgs false
set_option linter.unusedVariables false
set_option maxRecDepth 100000
set_option maxHeartbeats 64000000
namespace Go.Proofs.YtmdofbccebkbiaaGreatDoor.zU
open Go.RowKit Base eH aT dM iT pR Ba mY aI AZ sJ Eh zV
def Own (w0 w : World) (u : U) (A : Option Addr) (n c : Nat) : Prop := w.ownsRow w0.heap.size 9 1 (.slice A n c) n (u.aF.map Value.string)
theorem Own.aF {w0 w : World} {u : U} {A : Option Addr} {n c : Nat} (h : Own w0 w u A n c) : iK w u A n c := by
 obtain ⟨A', c', e, h1, h2, h3⟩ := aU h
 cases e
 exact ⟨h3, h1, h2⟩
theorem Own.below {w0 w w' : World} {u : U} {A : Option Addr} {n c : Nat} (h : Own w0 w u A n c) (hb : Below w.heap.size w w') : Own w0 w' u A n c := aK h hb
theorem Own.row {w0 w : World} {u : U} {A : Option Addr} {n c g : Nat} (h : Own w0 w u A n c) (hg : g < w0.heap.size) (cs : Array Value) : Own w0 (w.setRow g cs) u A n c := eF.aB (gb := g) h (fun k hk => setRow_other _ _ _ _ hk) hg
theorem Own.base {w0 w1 w : World} {u : U} {A : Option Addr} {n c : Nat} (h : Own w1 w u A n c) (hb : w0.heap.size ≤ w1.heap.size) : Own w0 w u A n c := ay h hb
theorem vW (w0 w : World) {u : U} (h : u.aF = []) : Own w0 w u none 0 0 := by
 unfold Own
 rw [h]
 exact World.ownsRow_nil _ _ _ _
def mG (w : World) (o : Option U) (e : Ending) (w' : World) : Prop := Below w.heap.size w w' ∧ ∃ u A n c ok, e = .returned (.tuple #[.agg (cells u (.slice A n c)), .bool ok]) ∧ Own w w' u A n c ∧ (o = some u ∧ ok = true ∨ o = none ∧ ok = false ∧ u = U0)
end Go.Proofs.YtmdofbccebkbiaaGreatDoor.zU
namespace Go.Proofs.YtmdofbccebkbiaaGreatDoor.Ce
open Go.RowKit Base eH aT dM iT pR Ba oW mY lI uY Oo LW wR uT aI AZ sJ Eh zV zU
def Qv (S x y V D : List UInt8) : Option U :=
 if (hap false V).2.2 = true ∧ (hap false V).1 = [] then none else
 match hst (hap false V).1 (special S), prt S (hap false V).2.1 with
 | some H, some p => some { U0 with au := S, usr := x, dR := y, hst := H, hh := true, port := p, aF := rooted S D }
 | _, _ => none
theorem V3 (S T : List UInt8) : authority S T = if (je (T.take (upto (special S) T))).2.2.2 = true ∧ (je (T.take (upto (special S) T))).2.2.1 = [] then none else Qv S (je (T.take (upto (special S) T))).1 (je (T.take (upto (special S) T))).2.1 (je (T.take (upto (special S) T))).2.2.1 (T.drop (upto (special S) T)) := rfl
theorem lY {o : Option Int} {e : Ending} (h : PrtV o e) : ∃ z b, e = .returned (.tuple #[.int .i64 z, .bool b]) ∧ (o = some z ∧ b = true ∨ o = none ∧ b = false) := by
 cases o with
 | some z => exact ⟨z, true, h, .inl ⟨rfl, rfl⟩⟩
 | none => obtain ⟨z, hz⟩ := h; exact ⟨z, false, hz, .inr ⟨rfl, rfl⟩⟩
theorem dI {L : List UInt8} {n : Nat} (h : L.length ≤ n) : (strOf L).size ≤ n := by rw [ah]; exact h
theorem aW (L : List UInt8) : (strOf L).toList = L := by rw [Lib.toList_data]; rfl
theorem gU {w w' : World} {o : Option U} (ho : o = none) (hb : Below w.heap.size w w') : mG w o (.returned (.tuple #[.agg (cells U0 (.slice none 0 0)), .bool false])) w' :=
 ⟨hb, U0, none, 0, 0, false, rfl, vW _ _ rfl, .inr ⟨ho, rfl, rfl⟩⟩
theorem dJ {w w' : World} {o : Option U} {u : U} {A : Option Addr} {n c : Nat} (ho : o = some u) (hb : Below w.heap.size w w') (hp : Own w w' u A n c) : mG w o (.returned (.tuple #[.agg (cells u (.slice A n c)), .bool true])) w' :=
 ⟨hb, u, A, n, c, true, rfl, hp, .inl ⟨ho, rfl⟩⟩
theorem oZ (b : UInt8) : ∀ L : List UInt8, (fB b L).1.length ≤ L.length ∧ (fB b L).2.1.length ≤ L.length
 | [] => by simp [fB]
 | c :: L => by
  have h := oZ b L
  unfold fB
  split
  ·simp
  ·simp only [List.length_cons]
   omega
theorem oG (S T : List UInt8) (w : World) (hs : T.length ≤ 900000) (hL : nP w) (hT : Tab.Pow w) (hM : Max w) : Calls Tryz.prog 86 #[.string (strOf S), .string (strOf T)] w (mG w (authority S T)) := by
 obtain ⟨O, hO⟩ : ∃ O, O = authority S T := ⟨_, rfl⟩
 rw [← hO]
 rw [V3] at hO
 obtain ⟨X, hX⟩ : ∃ X, X = T.take (upto (special S) T) := ⟨_, rfl⟩
 obtain ⟨D, hD⟩ : ∃ D, D = T.drop (upto (special S) T) := ⟨_, rfl⟩
 have hXl : X.length ≤ 900000 := by rw [hX, List.length_take]; omega
 have hDl : D.length ≤ 900000 := by rw [hD, List.length_drop]; omega
 have hU : ∀ w : World, Calls Tryz.prog 159 #[.string (strOf S), .string (strOf T)] w fun e w' => e = .returned (.tuple #[.string (strOf X), .string (strOf D)]) ∧ Below w.heap.size w w' := fun w => by rw [hX, hD]; exact LC (strOf S) (strOf T) w (dI (by omega))
 rw [← hX, ← hD] at hO
 have hLa : ∀ w : World, Calls Tryz.prog 160 #[.string (strOf X), .int .u8 64] w fun e w' => e = .returned (.int .i64 (Lib.lastIndexByte (strOf X) 64)) ∧ w' = w := fun w => Tryz.strings_LastIndexByte (strOf X) 64 w (by rw [ah]; omega)
 have hsp : ∀ w : World, Calls Tryz.prog 84 #[.string (strOf S)] w fun e w' => e = .returned (.bool (special S)) ∧ w' = w := fun w => jo (strOf S) w
 have hrt : ∀ w : World, Calls Tryz.prog 158 #[.string (strOf S), .string (strOf D)] w (jL w.heap.size w (rooted S D)) := fun w => vZ (strOf S) (strOf D) w (dI hDl)
 have HU := hid hU
 have zQ := hid hsp
 have VK := hid hrt
 have HL := hid hL
 have HT := hid hT
 have HM := hid hM
 clear hU hsp hrt hL hT hM hX hD hDl hs
 have hls := WR (strOf X)
 rw [show (strOf X).data.toList = X from rfl] at hls
 obtain ⟨zl, hzl⟩ : ∃ z, z = Lib.lastIndexByte (strOf X) 64 := ⟨_, rfl⟩
 rw [← hzl] at hLa hls
 have VE := hid hLa
 have HO0 := hid hO
 clear hLa hzl hO
 go_enter Tryz.func86, Tryz.ntmps86
 go_upto_region 1 with (fail)
 generalize hw : World.alloc w _ = w1
 have h1 : UB w1 (w.heap.size) (U0) (.slice none 0 0) ∧ Below w.heap.size w w1 := by
  subst hw
  exact laid1 w _ _
 clear hw
 have bG : Hid (w.heap.size ≤ w.heap.size) := (Below.refl w.heap.size w).size
 have bU := hid (bel (Below.refl w.heap.size w) h1.2)
 have aY := hid h1.1
 clear h1
 go_wp2_with fail
 refine (HU.out _).mono ?_
 rintro e w2 ⟨rfl, hbx⟩
 have bT := hid (aY.out.below hbx)
 have dY := hid (bel bU.out hbx)
 clear aY bU
 clear hbx
 go_upto_region 3 with (fail)
 generalize hw : World.alloc w2 _ = w3
 have h1 : UB w3 (w2.heap.size) ({ U0 with au := S, hh := true }) (.slice none 0 0) ∧ Below w2.heap.size w2 w3 := by
  subst hw
  exact laid1 w2 _ _
 clear hw
 have hlr := bT.out.lt
 have aO : Hid (w.heap.size ≠ w2.heap.size) := by show _ ≠ _; omega
 have nS : Hid (w2.heap.size ≠ w.heap.size) := by show _ ≠ _; omega
 clear hlr
 have dN : Hid (w.heap.size ≤ w2.heap.size) := dY.out.size
 have bD := hid (bT.out.below h1.2)
 have dD := hid (bel dY.out h1.2)
 have dS := hid h1.1
 clear bT dY
 clear h1
 go_wp2_with fail
 refine (VE.out _).mono ?_
 rintro e wx ⟨rfl, hwx⟩
 obtain rfl : w3 = wx := by first | exact hwx | exact hwx.symm
 clear hwx
 rcases hls with ⟨rfl, hl⟩ | ⟨k, hk, rfl, hl⟩
 ·
  obtain ⟨V, hV⟩ : ∃ V, V = X := ⟨_, rfl⟩
  have HOT : Hid (O = Qv S [] [] V D) := by show _ = _; rw [HO0.out, show je X = ([], [], X, false) by unfold je; rw [hl], hV]; rfl
  have hVl : V.length ≤ 900000 := by rw [hV]; exact hXl
  rw [← hV]
  clear HO0 hl hXl HU VE
  subst hV
  obtain ⟨H1, H2, c, hh⟩ : ∃ H1 H2 c, hap false V = (H1, H2, c) := ⟨_, _, _, rfl⟩
  have hl1 := (zC V false).1
  have hl2 := (zC V false).2
  rw [hh] at hl1 hl2
  simp only at hl1 hl2
  have hhp : ∀ w : World, Calls Tryz.prog 161 #[.string (strOf V)] w fun e w' => e = .returned (.tuple #[.string (strOf H1), .string (strOf H2), .bool c]) ∧ Below w.heap.size w w' := fun w => by
   have h := wL (strOf V) w (dI (by omega))
   rw [show (strOf V).data.toList = V from rfl, hh] at h
   exact h
  have HHP := hid hhp
  have hO2 : O = if c = true ∧ H1 = [] then none else match hst H1 (special S), prt S H2 with | some H, some p => some { U0 with au := S, usr := [], dR := [], hst := H, hh := true, port := p, aF := rooted S D } | _, _ => none := by
   rw [HOT.out]; unfold Qv; rw [hh]; first | done | rfl
  have hH : ∀ w : World, nP w → Tab.Pow w → Max w → Calls Tryz.prog 162 #[.string (strOf H1), .bool (special S)] w fun e w' => e = .returned (HV (hst H1 (special S))) ∧ Below w.heap.size w w' := fun w a b d => wR.parse_any (strOf H1) (special S) w (dI (by omega)) a b d
  have hPo : ∀ w : World, Calls Tryz.prog 163 #[.string (strOf S), .string (strOf H2)] w fun e w' => PrtV (prt S H2) e ∧ w' = w := fun w => IL (strOf S) (strOf H2) w (dI (by omega))
  have HH := hid hH
  have VH := hid hPo
  have jQ := hid hO2
  clear hhp hl1 hl2 hh hH hPo HOT hO2
  go_wp2_with fail
  refine (HHP.out _).mono ?_
  rintro e w4 ⟨rfl, hbx⟩
  have bg := hid (bD.out.below hbx)
  have bV := hid (dS.out.below hbx)
  have bZ := hid (bel dD.out hbx)
  clear bD dS dD
  clear hbx
  cases c with
  | false =>
   have iH : Hid (O = match hst H1 (special S), prt S H2 with | some H, some p => some { U0 with au := S, usr := [], dR := [], hst := H, hh := true, port := p, aF := rooted S D } | _, _ => none) := by show _ = _; rw [jQ.out, if_neg (by simp)]
   clear jQ
   go_wp2_with fail
   refine (zQ.out _).mono ?_
   rintro e wx ⟨rfl, hwx⟩
   obtain rfl : w4 = wx := by first | exact hwx | exact hwx.symm
   clear hwx
   cases hx : hst H1 (special S) with
   | none =>
    have mM : Hid (O = none) := by show _ = _; rw [iH.out, hx]
    rw [hx] at HH
    clear hx
    go_wp2_with fail
    refine (HH.out _ (HL.out.below bZ.out) (bJ HT.out bZ.out) (HM.out.below bZ.out)).mono ?_
    rintro e w5 ⟨rfl, hbx⟩
    have bf := hid (bg.out.below hbx)
    have aX := hid (bV.out.below hbx)
    have dQ := hid (bel bZ.out hbx)
    clear bg bV bZ
    clear hbx
    rw [show HV none = .tuple #[.string (strOf []), .bool false] from rfl]
    have cx := aX.out.facts.2.2.2.1
    have fx := aX.out.thaw.2.2.2.1
    go_upto_region 16 with (fail)
    have hxr := bf.out.set (k := w2.heap.size) (i := 3) (.string (strOf [])) (aO.out)
    have hxu := aX.out.hst []
    have hb := dQ.out.setCell (p := ⟨w2.heap.size, 3, none⟩) (dN.out) (.string (strOf []))
    clear bf aX dQ
    clear cx fx
    generalize World.setCell w5 _ _ = w6 at hxr hxu hb ⊢
    have bF : Hid (UB w6 (w.heap.size) (U0) (.slice none 0 0)) := hxr
    clear hxr
    have aV : Hid (UB w6 (w2.heap.size) ({ U0 with au := S, usr := [], dR := [], hh := true, hst := [] }) (.slice none 0 0)) := hxu
    clear hxu
    have dZ := hid hb
    clear hb
    go_wp2_with fail
    refine (VH.out _).mono ?_
    rintro e wx ⟨hv, hwx⟩
    obtain rfl : w6 = wx := hwx.symm
    clear hwx
    obtain ⟨z, ok, rfl, SB⟩ := lY hv
    clear hv
    have cx := aV.out.facts.2.2.2.2.2.1
    have fx := aV.out.thaw.2.2.2.2.2.1
    go_upto_region 17 with (fail)
    have hxr := bF.out.set (k := w2.heap.size) (i := 5) (.int .i64 z) (aO.out)
    have hxu := aV.out.port z
    have hb := dZ.out.setCell (p := ⟨w2.heap.size, 5, none⟩) (dN.out) (.int .i64 z)
    clear bF aV dZ
    clear cx fx
    generalize World.setCell w6 _ _ = w7 at hxr hxu hb ⊢
    have cu : Hid (UB w7 (w.heap.size) (U0) (.slice none 0 0)) := hxr
    clear hxr
    have cZ : Hid (UB w7 (w2.heap.size) ({ U0 with au := S, usr := [], dR := [], hh := true, hst := [], port := z }) (.slice none 0 0)) := hxu
    clear hxu
    have fZ := hid hb
    clear hb
    clear SB
    go_wp2_with (refine ak cu.out U0 none 0 0 (.tmp 4) (.tmp 86) rfl rfl rfl rfl ?_)
    try simp only [Exit.inBlock, Exit.then]
    exact bodyPost_ret (w := World.setRow w7 w.heap.size (cells U0 (.slice none 0 0))) (res2 (u := U0) (p := .slice none 0 0) rfl (cu.out.row U0 _) false _ rfl rfl) rfl (gU mM.out (below_setRow fZ.out bG.out _))
   | some R =>
    have JW : Hid (O = match prt S H2 with | some p => some { U0 with au := S, usr := [], dR := [], hst := R, hh := true, port := p, aF := rooted S D } | none => none) := by show _ = _; rw [iH.out, hx]; cases prt S H2 <;> rfl
    rw [hx] at HH
    clear hx
    go_wp2_with fail
    refine (HH.out _ (HL.out.below bZ.out) (bJ HT.out bZ.out) (HM.out.below bZ.out)).mono ?_
    rintro e w5 ⟨rfl, hbx⟩
    have bf := hid (bg.out.below hbx)
    have aX := hid (bV.out.below hbx)
    have dQ := hid (bel bZ.out hbx)
    clear bg bV bZ
    clear hbx
    rw [show HV (some R) = .tuple #[.string (strOf R), .bool true] from rfl]
    have cx := aX.out.facts.2.2.2.1
    have fx := aX.out.thaw.2.2.2.1
    go_upto_region 16 with (fail)
    have hxr := bf.out.set (k := w2.heap.size) (i := 3) (.string (strOf R)) (aO.out)
    have hxu := aX.out.hst R
    have hb := dQ.out.setCell (p := ⟨w2.heap.size, 3, none⟩) (dN.out) (.string (strOf R))
    clear bf aX dQ
    clear cx fx
    generalize World.setCell w5 _ _ = w6 at hxr hxu hb ⊢
    have bF : Hid (UB w6 (w.heap.size) (U0) (.slice none 0 0)) := hxr
    clear hxr
    have aV : Hid (UB w6 (w2.heap.size) ({ U0 with au := S, usr := [], dR := [], hh := true, hst := R }) (.slice none 0 0)) := hxu
    clear hxu
    have dZ := hid hb
    clear hb
    go_wp2_with fail
    refine (VH.out _).mono ?_
    rintro e wx ⟨hv, hwx⟩
    obtain rfl : w6 = wx := hwx.symm
    clear hwx
    obtain ⟨z, ok, rfl, SB⟩ := lY hv
    clear hv
    have cx := aV.out.facts.2.2.2.2.2.1
    have fx := aV.out.thaw.2.2.2.2.2.1
    go_upto_region 17 with (fail)
    have hxr := bF.out.set (k := w2.heap.size) (i := 5) (.int .i64 z) (aO.out)
    have hxu := aV.out.port z
    have hb := dZ.out.setCell (p := ⟨w2.heap.size, 5, none⟩) (dN.out) (.int .i64 z)
    clear bF aV dZ
    clear cx fx
    generalize World.setCell w6 _ _ = w7 at hxr hxu hb ⊢
    have cu : Hid (UB w7 (w.heap.size) (U0) (.slice none 0 0)) := hxr
    clear hxr
    have cZ : Hid (UB w7 (w2.heap.size) ({ U0 with au := S, usr := [], dR := [], hh := true, hst := R, port := z }) (.slice none 0 0)) := hxu
    clear hxu
    have fZ := hid hb
    clear hb
    rcases SB with ⟨hz, rfl⟩ | ⟨hz, rfl⟩
    ·
     have l9 : Hid (O = some { U0 with au := S, usr := [], dR := [], hst := R, hh := true, port := z, aF := rooted S D }) := by show _ = _; rw [JW.out, hz]
     clear hz
     go_wp2_with fail
     refine (VK.out _).mono ?_
     rintro e w8 ⟨q, rfl, hown, hbx⟩
     obtain ⟨A, c2, rfl, hq⟩ := bI (u := { U0 with aF := rooted S D }) hown
     clear hq
     replace hown := ay hown (Nat.le_refl _)
     have sH : Hid (w2.heap.size < w7.heap.size) := cZ.out.lt
     have fK : Hid (w.heap.size < w7.heap.size) := cu.out.lt
     have fJ := hid (cu.out.below hbx)
     have gY := hid (cZ.out.below hbx)
     have nK := hid (bel fZ.out hbx)
     have mO := hid hown
     clear hown
     clear cu cZ fZ
     clear hbx
     have wX := sH.out
     have cx := gY.out.facts.2.2.2.2.2.2.2.2.1
     have fx := gY.out.thaw.2.2.2.2.2.2.2.2.1
     go_upto_region 20 with (fail)
     have hxr := fJ.out.set (k := w2.heap.size) (i := 8) (.slice A (rooted S D).length c2) (aO.out)
     have hxu := gY.out.path (.slice A (rooted S D).length c2)
     have hoq := eF.aB (w' := w8.setCell ⟨w2.heap.size, 8, none⟩ (.slice A (rooted S D).length c2)) (gb := w2.heap.size) mO.out (fun k hk => heap_setCell_other _ _ _ _ hk) (by omega)
     have hb := nK.out.setCell (p := ⟨w2.heap.size, 8, none⟩) (dN.out) (.slice A (rooted S D).length c2)
     clear fJ gY mO nK
     clear cx fx
     generalize World.setCell w8 _ _ = w9 at hxr hxu hoq hb ⊢
     have mQ : Hid (UB w9 (w.heap.size) (U0) (.slice none 0 0)) := hxr
     clear hxr
     have mV : Hid (UB w9 (w2.heap.size) ({ U0 with au := S, usr := [], dR := [], hh := true, hst := R, port := z }) (.slice A (rooted S D).length c2)) := hxu
     clear hxu
     have XU := hid hoq
     clear hoq
     have nM := hid hb
     clear hb
     clear wX
     obtain ⟨c0, c1, c2', c3, c4, c5, c6, c7, c8, c9, c10, c11, c12⟩ := mV.out.facts
     go_wp2_with (refine ak mQ.out { U0 with au := S, usr := [], dR := [], hh := true, hst := R, port := z } A (rooted S D).length c2 (.tmp 4) (.tmp 91) rfl rfl rfl rfl ?_)
     try simp only [Exit.inBlock, Exit.then]
     have hpo : ∀ k, k ≠ w.heap.size → (World.setRow w9 (w.heap.size) (cells { U0 with au := S, usr := [], dR := [], hh := true, hst := R, port := z } (.slice A (rooted S D).length c2))).heap[k]? = w9.heap[k]? := fun k hk => setRow_other _ _ _ _ hk
     have ho := ay (eF.aB XU.out hpo fK.out) (by have h1 := bG.out; have h2 := fK.out; omega : w.heap.size ≤ _)
     exact bodyPost_ret (w := World.setRow w9 w.heap.size (cells { U0 with au := S, usr := [], dR := [], hh := true, hst := R, port := z } (.slice A (rooted S D).length c2))) (res2 (u := { U0 with au := S, usr := [], dR := [], hh := true, hst := R, port := z }) (p := (.slice A (rooted S D).length c2)) rfl (mQ.out.row { U0 with au := S, usr := [], dR := [], hh := true, hst := R, port := z } _) true _ rfl rfl) rfl (dJ (u := { U0 with au := S, usr := [], dR := [], hst := R, hh := true, port := z, aF := rooted S D }) l9.out (below_setRow nM.out bG.out _) ho)
    ·
     have mM : Hid (O = none) := by show _ = _; rw [JW.out, hz]
     clear hz
     go_wp2_with (refine ak cu.out U0 none 0 0 (.tmp 4) (.tmp 86) rfl rfl rfl rfl ?_)
     try simp only [Exit.inBlock, Exit.then]
     exact bodyPost_ret (w := World.setRow w7 w.heap.size (cells U0 (.slice none 0 0))) (res2 (u := U0) (p := .slice none 0 0) rfl (cu.out.row U0 _) false _ rfl rfl) rfl (gU mM.out (below_setRow fZ.out bG.out _))
  | true =>
   by_cases h0 : H1 = []
   ·
    have mM : Hid (O = none) := by show _ = _; rw [jQ.out, if_pos ⟨rfl, h0⟩]
    have q0 : ((strOf H1).toList == []) = true := by rw [aW, h0]; rfl
    have q1 : (strOf H1).toList = [] := by rw [aW, h0]
    clear jQ h0
    go_wp2_with (refine ak bg.out U0 none 0 0 (.tmp 4) (.tmp 64) rfl rfl rfl rfl ?_)
    try simp only [Exit.inBlock, Exit.then]
    exact bodyPost_ret (w := World.setRow w4 w.heap.size (cells U0 (.slice none 0 0))) (res2 (u := U0) (p := .slice none 0 0) rfl (bg.out.row U0 _) false _ rfl rfl) rfl (gU mM.out (below_setRow bZ.out bG.out _))
   ·
    have iH : Hid (O = match hst H1 (special S), prt S H2 with | some H, some p => some { U0 with au := S, usr := [], dR := [], hst := H, hh := true, port := p, aF := rooted S D } | _, _ => none) := by show _ = _; rw [jQ.out, if_neg (fun h => h0 h.2)]
    have q0 : ((strOf H1).toList == []) = false := by rw [aW, beq_eq_false_iff_ne]; exact h0
    have q1 : ¬ (strOf H1).toList = [] := by rw [aW]; exact h0
    have q2 : (strOf H1).toList.isEmpty = false := by rw [aW]; simpa using h0
    clear jQ h0
    go_wp2_with fail
    refine (zQ.out _).mono ?_
    rintro e wx ⟨rfl, hwx⟩
    obtain rfl : w4 = wx := by first | exact hwx | exact hwx.symm
    clear hwx
    cases hx : hst H1 (special S) with
    | none =>
     have mM : Hid (O = none) := by show _ = _; rw [iH.out, hx]
     rw [hx] at HH
     clear hx
     go_wp2_with fail
     refine (HH.out _ (HL.out.below bZ.out) (bJ HT.out bZ.out) (HM.out.below bZ.out)).mono ?_
     rintro e w5 ⟨rfl, hbx⟩
     have bf := hid (bg.out.below hbx)
     have aX := hid (bV.out.below hbx)
     have dQ := hid (bel bZ.out hbx)
     clear bg bV bZ
     clear hbx
     rw [show HV none = .tuple #[.string (strOf []), .bool false] from rfl]
     have cx := aX.out.facts.2.2.2.1
     have fx := aX.out.thaw.2.2.2.1
     go_upto_region 16 with (fail)
     have hxr := bf.out.set (k := w2.heap.size) (i := 3) (.string (strOf [])) (aO.out)
     have hxu := aX.out.hst []
     have hb := dQ.out.setCell (p := ⟨w2.heap.size, 3, none⟩) (dN.out) (.string (strOf []))
     clear bf aX dQ
     clear cx fx
     generalize World.setCell w5 _ _ = w6 at hxr hxu hb ⊢
     have bF : Hid (UB w6 (w.heap.size) (U0) (.slice none 0 0)) := hxr
     clear hxr
     have aV : Hid (UB w6 (w2.heap.size) ({ U0 with au := S, usr := [], dR := [], hh := true, hst := [] }) (.slice none 0 0)) := hxu
     clear hxu
     have dZ := hid hb
     clear hb
     go_wp2_with fail
     refine (VH.out _).mono ?_
     rintro e wx ⟨hv, hwx⟩
     obtain rfl : w6 = wx := hwx.symm
     clear hwx
     obtain ⟨z, ok, rfl, SB⟩ := lY hv
     clear hv
     have cx := aV.out.facts.2.2.2.2.2.1
     have fx := aV.out.thaw.2.2.2.2.2.1
     go_upto_region 17 with (fail)
     have hxr := bF.out.set (k := w2.heap.size) (i := 5) (.int .i64 z) (aO.out)
     have hxu := aV.out.port z
     have hb := dZ.out.setCell (p := ⟨w2.heap.size, 5, none⟩) (dN.out) (.int .i64 z)
     clear bF aV dZ
     clear cx fx
     generalize World.setCell w6 _ _ = w7 at hxr hxu hb ⊢
     have cu : Hid (UB w7 (w.heap.size) (U0) (.slice none 0 0)) := hxr
     clear hxr
     have cZ : Hid (UB w7 (w2.heap.size) ({ U0 with au := S, usr := [], dR := [], hh := true, hst := [], port := z }) (.slice none 0 0)) := hxu
     clear hxu
     have fZ := hid hb
     clear hb
     clear SB
     go_wp2_with (refine ak cu.out U0 none 0 0 (.tmp 4) (.tmp 86) rfl rfl rfl rfl ?_)
     try simp only [Exit.inBlock, Exit.then]
     exact bodyPost_ret (w := World.setRow w7 w.heap.size (cells U0 (.slice none 0 0))) (res2 (u := U0) (p := .slice none 0 0) rfl (cu.out.row U0 _) false _ rfl rfl) rfl (gU mM.out (below_setRow fZ.out bG.out _))
    | some R =>
     have JW : Hid (O = match prt S H2 with | some p => some { U0 with au := S, usr := [], dR := [], hst := R, hh := true, port := p, aF := rooted S D } | none => none) := by show _ = _; rw [iH.out, hx]; cases prt S H2 <;> rfl
     rw [hx] at HH
     clear hx
     go_wp2_with fail
     refine (HH.out _ (HL.out.below bZ.out) (bJ HT.out bZ.out) (HM.out.below bZ.out)).mono ?_
     rintro e w5 ⟨rfl, hbx⟩
     have bf := hid (bg.out.below hbx)
     have aX := hid (bV.out.below hbx)
     have dQ := hid (bel bZ.out hbx)
     clear bg bV bZ
     clear hbx
     rw [show HV (some R) = .tuple #[.string (strOf R), .bool true] from rfl]
     have cx := aX.out.facts.2.2.2.1
     have fx := aX.out.thaw.2.2.2.1
     go_upto_region 16 with (fail)
     have hxr := bf.out.set (k := w2.heap.size) (i := 3) (.string (strOf R)) (aO.out)
     have hxu := aX.out.hst R
     have hb := dQ.out.setCell (p := ⟨w2.heap.size, 3, none⟩) (dN.out) (.string (strOf R))
     clear bf aX dQ
     clear cx fx
     generalize World.setCell w5 _ _ = w6 at hxr hxu hb ⊢
     have bF : Hid (UB w6 (w.heap.size) (U0) (.slice none 0 0)) := hxr
     clear hxr
     have aV : Hid (UB w6 (w2.heap.size) ({ U0 with au := S, usr := [], dR := [], hh := true, hst := R }) (.slice none 0 0)) := hxu
     clear hxu
     have dZ := hid hb
     clear hb
     go_wp2_with fail
     refine (VH.out _).mono ?_
     rintro e wx ⟨hv, hwx⟩
     obtain rfl : w6 = wx := hwx.symm
     clear hwx
     obtain ⟨z, ok, rfl, SB⟩ := lY hv
     clear hv
     have cx := aV.out.facts.2.2.2.2.2.1
     have fx := aV.out.thaw.2.2.2.2.2.1
     go_upto_region 17 with (fail)
     have hxr := bF.out.set (k := w2.heap.size) (i := 5) (.int .i64 z) (aO.out)
     have hxu := aV.out.port z
     have hb := dZ.out.setCell (p := ⟨w2.heap.size, 5, none⟩) (dN.out) (.int .i64 z)
     clear bF aV dZ
     clear cx fx
     generalize World.setCell w6 _ _ = w7 at hxr hxu hb ⊢
     have cu : Hid (UB w7 (w.heap.size) (U0) (.slice none 0 0)) := hxr
     clear hxr
     have cZ : Hid (UB w7 (w2.heap.size) ({ U0 with au := S, usr := [], dR := [], hh := true, hst := R, port := z }) (.slice none 0 0)) := hxu
     clear hxu
     have fZ := hid hb
     clear hb
     rcases SB with ⟨hz, rfl⟩ | ⟨hz, rfl⟩
     ·
      have l9 : Hid (O = some { U0 with au := S, usr := [], dR := [], hst := R, hh := true, port := z, aF := rooted S D }) := by show _ = _; rw [JW.out, hz]
      clear hz
      go_wp2_with fail
      refine (VK.out _).mono ?_
      rintro e w8 ⟨q, rfl, hown, hbx⟩
      obtain ⟨A, c2, rfl, hq⟩ := bI (u := { U0 with aF := rooted S D }) hown
      clear hq
      replace hown := ay hown (Nat.le_refl _)
      have sH : Hid (w2.heap.size < w7.heap.size) := cZ.out.lt
      have fK : Hid (w.heap.size < w7.heap.size) := cu.out.lt
      have fJ := hid (cu.out.below hbx)
      have gY := hid (cZ.out.below hbx)
      have nK := hid (bel fZ.out hbx)
      have mO := hid hown
      clear hown
      clear cu cZ fZ
      clear hbx
      have wX := sH.out
      have cx := gY.out.facts.2.2.2.2.2.2.2.2.1
      have fx := gY.out.thaw.2.2.2.2.2.2.2.2.1
      go_upto_region 20 with (fail)
      have hxr := fJ.out.set (k := w2.heap.size) (i := 8) (.slice A (rooted S D).length c2) (aO.out)
      have hxu := gY.out.path (.slice A (rooted S D).length c2)
      have hoq := eF.aB (w' := w8.setCell ⟨w2.heap.size, 8, none⟩ (.slice A (rooted S D).length c2)) (gb := w2.heap.size) mO.out (fun k hk => heap_setCell_other _ _ _ _ hk) (by omega)
      have hb := nK.out.setCell (p := ⟨w2.heap.size, 8, none⟩) (dN.out) (.slice A (rooted S D).length c2)
      clear fJ gY mO nK
      clear cx fx
      generalize World.setCell w8 _ _ = w9 at hxr hxu hoq hb ⊢
      have mQ : Hid (UB w9 (w.heap.size) (U0) (.slice none 0 0)) := hxr
      clear hxr
      have mV : Hid (UB w9 (w2.heap.size) ({ U0 with au := S, usr := [], dR := [], hh := true, hst := R, port := z }) (.slice A (rooted S D).length c2)) := hxu
      clear hxu
      have XU := hid hoq
      clear hoq
      have nM := hid hb
      clear hb
      clear wX
      obtain ⟨c0, c1, c2', c3, c4, c5, c6, c7, c8, c9, c10, c11, c12⟩ := mV.out.facts
      go_wp2_with (refine ak mQ.out { U0 with au := S, usr := [], dR := [], hh := true, hst := R, port := z } A (rooted S D).length c2 (.tmp 4) (.tmp 91) rfl rfl rfl rfl ?_)
      try simp only [Exit.inBlock, Exit.then]
      have hpo : ∀ k, k ≠ w.heap.size → (World.setRow w9 (w.heap.size) (cells { U0 with au := S, usr := [], dR := [], hh := true, hst := R, port := z } (.slice A (rooted S D).length c2))).heap[k]? = w9.heap[k]? := fun k hk => setRow_other _ _ _ _ hk
      have ho := ay (eF.aB XU.out hpo fK.out) (by have h1 := bG.out; have h2 := fK.out; omega : w.heap.size ≤ _)
      exact bodyPost_ret (w := World.setRow w9 w.heap.size (cells { U0 with au := S, usr := [], dR := [], hh := true, hst := R, port := z } (.slice A (rooted S D).length c2))) (res2 (u := { U0 with au := S, usr := [], dR := [], hh := true, hst := R, port := z }) (p := (.slice A (rooted S D).length c2)) rfl (mQ.out.row { U0 with au := S, usr := [], dR := [], hh := true, hst := R, port := z } _) true _ rfl rfl) rfl (dJ (u := { U0 with au := S, usr := [], dR := [], hst := R, hh := true, port := z, aF := rooted S D }) l9.out (below_setRow nM.out bG.out _) ho)
     ·
      have mM : Hid (O = none) := by show _ = _; rw [JW.out, hz]
      clear hz
      go_wp2_with (refine ak cu.out U0 none 0 0 (.tmp 4) (.tmp 86) rfl rfl rfl rfl ?_)
      try simp only [Exit.inBlock, Exit.then]
      exact bodyPost_ret (w := World.setRow w7 w.heap.size (cells U0 (.slice none 0 0))) (res2 (u := U0) (p := .slice none 0 0) rfl (cu.out.row U0 _) false _ rfl rfl) rfl (gU mM.out (below_setRow fZ.out bG.out _))
 ·
  rw [ah] at hk
  obtain ⟨E, hE⟩ : ∃ E, E = X.take k := ⟨_, rfl⟩
  obtain ⟨V, hV⟩ : ∃ V, V = X.drop (k + 1) := ⟨_, rfl⟩
  have hVl : V.length ≤ 900000 := by rw [hV, List.length_drop]; omega
  have hEl : E.length ≤ 900000 := by rw [hE, List.length_take]; omega
  obtain ⟨N, P2, bb, hc⟩ : ∃ N P2 b, fB 58 E = (N, P2, b) := ⟨_, _, _, rfl⟩
  have hNl : N.length ≤ 900000 ∧ P2.length ≤ 900000 := by have h := oZ 58 E; rw [hc] at h; simp only at h; omega
  have hC : ∀ w : World, Max w → Calls Tryz.prog 80 #[.string (strOf E), .string ⟨#[58]⟩] w fun e w' => e = .returned (.tuple #[.string (strOf N), .string (strOf P2), .bool bb]) ∧ Below w.heap.size w w' := fun w ⟨m, hm⟩ => (Tryz.strings_Cut (strOf E) ⟨#[58]⟩ m w (by rw [ah]; omega) hm).mono fun e w' ⟨h1, q, h2⟩ => ⟨by rw [h1, show (strOf E).data.toList = E from rfl, show (⟨#[58]⟩ : ByteArray).data.toList = [58] from rfl, xY, hc]; rfl, by rw [h2]; exact Base.below_drewN (Below.refl _ _) _⟩
  have HC := hid hC
  have hx1 : (strOf X).extract 0 k = strOf E := by rw [Jg, hE]; rfl
  have hx2 : (strOf X).extract (k + 1) (strOf X).size = strOf V := by rw [kH, hV]; rfl
  have hcr : je X = (aH.enc 5 N, aH.enc 5 P2, V, true) := by unfold je; rw [hl]; simp only; rw [← hE, ← hV, hc]
  have hO := HO0.out
  rw [hcr] at hO
  simp only at hO
  have Ze : (k : Int) ≤ ((strOf X).size : Int) := by rw [ah]; omega
  have hkJ : (k : Int) + 1 ≤ ((strOf X).size : Int) := by rw [ah]; omega
  have hk0 : ¬ (k : Int) < 0 := by omega
  have hk1 : (0 : Int) ≤ (k : Int) := by omega
  have hkt : ((k : Int) + 1).toNat = k + 1 := by omega
  have XD : (strOf X).size ≤ 900000 := dI hXl
  have HO := hid hO
  have mD := hid hx2
  clear hC hcr hO hE hV hc hl HO0
  go_wp2_with fail
  refine (HC.out _ (HM.out.below dD.out)).mono ?_
  rintro e w4 ⟨rfl, hbx⟩
  have bg := hid (bD.out.below hbx)
  have bV := hid (dS.out.below hbx)
  have bZ := hid (bel dD.out hbx)
  clear bD dS dD
  clear hbx
  clear hx1
  have hcv := fun (w : World) s => run_bytes_of_string (P := Tryz.prog) w 9 61 5 s Tryz.underlying9 Tryz.underlying61 Tryz.underlying5
  go_wp2_with fail
  clear hcv
  refine (aH.eU 5 _ _ _ N _ (gB (strOf N) _ _ _) (dI (by omega))).mono ?_
  rintro e w5 ⟨rfl, hb0⟩
  have hbx : Below w4.heap.size w4 w5 := bel (((Below.refl w4.heap.size w4).alloc (Nat.le_refl _) _).drew) hb0
  clear hb0
  have bf := hid (bg.out.below hbx)
  have aX := hid (bV.out.below hbx)
  have dQ := hid (bel bZ.out hbx)
  clear bg bV bZ
  clear hbx
  have cx := aX.out.facts.2.1
  have fx := aX.out.thaw.2.1
  go_upto_region 7 with (fail)
  have hxr := bf.out.set (k := w2.heap.size) (i := 1) (.string (strOf (aH.enc 5 N))) (aO.out)
  have hxu := aX.out.usr (aH.enc 5 N)
  have hb := dQ.out.setCell (p := ⟨w2.heap.size, 1, none⟩) (dN.out) (.string (strOf (aH.enc 5 N)))
  clear bf aX dQ
  clear cx fx
  generalize World.setCell w5 _ _ = w6 at hxr hxu hb ⊢
  have bF : Hid (UB w6 (w.heap.size) (U0) (.slice none 0 0)) := hxr
  clear hxr
  have aV : Hid (UB w6 (w2.heap.size) ({ U0 with au := S, hh := true, usr := aH.enc 5 N }) (.slice none 0 0)) := hxu
  clear hxu
  have dZ := hid hb
  clear hb
  have hcv := fun (w : World) s => run_bytes_of_string (P := Tryz.prog) w 9 61 5 s Tryz.underlying9 Tryz.underlying61 Tryz.underlying5
  go_wp2_with fail
  clear hcv
  refine (aH.eU 5 _ _ _ P2 _ (gB (strOf P2) _ _ _) (dI (by omega))).mono ?_
  rintro e w7 ⟨rfl, hb0⟩
  have hbx : Below w6.heap.size w6 w7 := bel (((Below.refl w6.heap.size w6).alloc (Nat.le_refl _) _).drew) hb0
  clear hb0
  have cu := hid (bF.out.below hbx)
  have cZ := hid (aV.out.below hbx)
  have fZ := hid (bel dZ.out hbx)
  clear bF aV dZ
  clear hbx
  have cx := cZ.out.facts.2.2.1
  have fx := cZ.out.thaw.2.2.1
  go_upto_region 8 with (fail)
  have hxr := cu.out.set (k := w2.heap.size) (i := 2) (.string (strOf (aH.enc 5 P2))) (aO.out)
  have hxu := cZ.out.dR (aH.enc 5 P2)
  have hb := fZ.out.setCell (p := ⟨w2.heap.size, 2, none⟩) (dN.out) (.string (strOf (aH.enc 5 P2)))
  clear cu cZ fZ
  clear cx fx
  generalize World.setCell w7 _ _ = w8 at hxr hxu hb ⊢
  have fJ : Hid (UB w8 (w.heap.size) (U0) (.slice none 0 0)) := hxr
  clear hxr
  have gY : Hid (UB w8 (w2.heap.size) ({ U0 with au := S, hh := true, usr := aH.enc 5 N, dR := aH.enc 5 P2 }) (.slice none 0 0)) := hxu
  clear hxu
  have nK := hid hb
  clear hb
  have hx2 := mD.out
  by_cases h0 : V = []
  ·
   have mM : Hid (O = none) := by show _ = _; rw [HO.out, if_pos ⟨by first | rfl | trivial, h0⟩]
   have q0 : ((strOf V).toList == []) = true := by rw [aW, h0]; rfl
   have q1 : (strOf V).toList = [] := by rw [aW, h0]
   clear h0
   go_wp2_with (refine ak fJ.out U0 none 0 0 (.tmp 4) (.tmp 52) rfl rfl rfl rfl ?_)
   try simp only [Exit.inBlock, Exit.then]
   exact bodyPost_ret (w := World.setRow w8 w.heap.size (cells U0 (.slice none 0 0))) (res2 (u := U0) (p := .slice none 0 0) rfl (fJ.out.row U0 _) false _ rfl rfl) rfl (gU mM.out (below_setRow nK.out bG.out _))
  ·
   obtain ⟨xe, hxe⟩ : ∃ x, x = aH.enc 5 N := ⟨_, rfl⟩
   obtain ⟨ye, hye⟩ : ∃ x, x = aH.enc 5 P2 := ⟨_, rfl⟩
   have HOT : Hid (O = Qv S xe ye V D) := by show _ = _; rw [HO.out, if_neg (fun h => h0 h.2), hxe, hye]
   have q0 : ((strOf V).toList == []) = false := by rw [aW, beq_eq_false_iff_ne]; exact h0
   have q1 : ¬ (strOf V).toList = [] := by rw [aW]; exact h0
   have q2 : (strOf V).toList.isEmpty = false := by rw [aW]; simpa using h0
   rw [← hxe, ← hye] at gY
   clear h0 hxe hye HO
   go_upto_region 11 with (fail)
   clear q0 q1 q2 hx2 Ze hkJ hk0 hk1 hkt XD hXl hEl hNl mD
   obtain ⟨H1, H2, c, hh⟩ : ∃ H1 H2 c, hap false V = (H1, H2, c) := ⟨_, _, _, rfl⟩
   have hl1 := (zC V false).1
   have hl2 := (zC V false).2
   rw [hh] at hl1 hl2
   simp only at hl1 hl2
   have hhp : ∀ w : World, Calls Tryz.prog 161 #[.string (strOf V)] w fun e w' => e = .returned (.tuple #[.string (strOf H1), .string (strOf H2), .bool c]) ∧ Below w.heap.size w w' := fun w => by
    have h := wL (strOf V) w (dI (by omega))
    rw [show (strOf V).data.toList = V from rfl, hh] at h
    exact h
   have HHP := hid hhp
   have hO2 : O = if c = true ∧ H1 = [] then none else match hst H1 (special S), prt S H2 with | some H, some p => some { U0 with au := S, usr := xe, dR := ye, hst := H, hh := true, port := p, aF := rooted S D } | _, _ => none := by
    rw [HOT.out]; unfold Qv; rw [hh]; first | done | rfl
   have hH : ∀ w : World, nP w → Tab.Pow w → Max w → Calls Tryz.prog 162 #[.string (strOf H1), .bool (special S)] w fun e w' => e = .returned (HV (hst H1 (special S))) ∧ Below w.heap.size w w' := fun w a b d => wR.parse_any (strOf H1) (special S) w (dI (by omega)) a b d
   have hPo : ∀ w : World, Calls Tryz.prog 163 #[.string (strOf S), .string (strOf H2)] w fun e w' => PrtV (prt S H2) e ∧ w' = w := fun w => IL (strOf S) (strOf H2) w (dI (by omega))
   have HH := hid hH
   have VH := hid hPo
   have jQ := hid hO2
   clear hhp hl1 hl2 hh hH hPo HOT hO2
   go_wp2_with fail
   refine (HHP.out _).mono ?_
   rintro e w9 ⟨rfl, hbx⟩
   have mQ := hid (fJ.out.below hbx)
   have mV := hid (gY.out.below hbx)
   have nM := hid (bel nK.out hbx)
   clear fJ gY nK
   clear hbx
   cases c with
   | false =>
    have iH : Hid (O = match hst H1 (special S), prt S H2 with | some H, some p => some { U0 with au := S, usr := xe, dR := ye, hst := H, hh := true, port := p, aF := rooted S D } | _, _ => none) := by show _ = _; rw [jQ.out, if_neg (by simp)]
    clear jQ
    go_wp2_with fail
    refine (zQ.out _).mono ?_
    rintro e wx ⟨rfl, hwx⟩
    obtain rfl : w9 = wx := by first | exact hwx | exact hwx.symm
    clear hwx
    cases hx : hst H1 (special S) with
    | none =>
     have mM : Hid (O = none) := by show _ = _; rw [iH.out, hx]
     rw [hx] at HH
     clear hx
     go_wp2_with fail
     refine (HH.out _ (HL.out.below nM.out) (bJ HT.out nM.out) (HM.out.below nM.out)).mono ?_
     rintro e w10 ⟨rfl, hbx⟩
     have mP := hid (mQ.out.below hbx)
     have iR := hid (mV.out.below hbx)
     have tq := hid (bel nM.out hbx)
     clear mQ mV nM
     clear hbx
     rw [show HV none = .tuple #[.string (strOf []), .bool false] from rfl]
     have cx := iR.out.facts.2.2.2.1
     have fx := iR.out.thaw.2.2.2.1
     go_upto_region 16 with (fail)
     have hxr := mP.out.set (k := w2.heap.size) (i := 3) (.string (strOf [])) (aO.out)
     have hxu := iR.out.hst []
     have hb := tq.out.setCell (p := ⟨w2.heap.size, 3, none⟩) (dN.out) (.string (strOf []))
     clear mP iR tq
     clear cx fx
     generalize World.setCell w10 _ _ = LH at hxr hxu hb ⊢
     have qI : Hid (UB LH (w.heap.size) (U0) (.slice none 0 0)) := hxr
     clear hxr
     have jq : Hid (UB LH (w2.heap.size) ({ U0 with au := S, usr := xe, dR := ye, hh := true, hst := [] }) (.slice none 0 0)) := hxu
     clear hxu
     have xu := hid hb
     clear hb
     go_wp2_with fail
     refine (VH.out _).mono ?_
     rintro e wx ⟨hv, hwx⟩
     obtain rfl : LH = wx := hwx.symm
     clear hwx
     obtain ⟨z, ok, rfl, SB⟩ := lY hv
     clear hv
     have cx := jq.out.facts.2.2.2.2.2.1
     have fx := jq.out.thaw.2.2.2.2.2.1
     go_upto_region 17 with (fail)
     have hxr := qI.out.set (k := w2.heap.size) (i := 5) (.int .i64 z) (aO.out)
     have hxu := jq.out.port z
     have hb := xu.out.setCell (p := ⟨w2.heap.size, 5, none⟩) (dN.out) (.int .i64 z)
     clear qI jq xu
     clear cx fx
     generalize World.setCell LH _ _ = w12 at hxr hxu hb ⊢
     have jT : Hid (UB w12 (w.heap.size) (U0) (.slice none 0 0)) := hxr
     clear hxr
     have uV : Hid (UB w12 (w2.heap.size) ({ U0 with au := S, usr := xe, dR := ye, hh := true, hst := [], port := z }) (.slice none 0 0)) := hxu
     clear hxu
     have xw := hid hb
     clear hb
     clear SB
     go_wp2_with (refine ak jT.out U0 none 0 0 (.tmp 4) (.tmp 86) rfl rfl rfl rfl ?_)
     try simp only [Exit.inBlock, Exit.then]
     exact bodyPost_ret (w := World.setRow w12 w.heap.size (cells U0 (.slice none 0 0))) (res2 (u := U0) (p := .slice none 0 0) rfl (jT.out.row U0 _) false _ rfl rfl) rfl (gU mM.out (below_setRow xw.out bG.out _))
    | some R =>
     have JW : Hid (O = match prt S H2 with | some p => some { U0 with au := S, usr := xe, dR := ye, hst := R, hh := true, port := p, aF := rooted S D } | none => none) := by show _ = _; rw [iH.out, hx]; cases prt S H2 <;> rfl
     rw [hx] at HH
     clear hx
     go_wp2_with fail
     refine (HH.out _ (HL.out.below nM.out) (bJ HT.out nM.out) (HM.out.below nM.out)).mono ?_
     rintro e w10 ⟨rfl, hbx⟩
     have mP := hid (mQ.out.below hbx)
     have iR := hid (mV.out.below hbx)
     have tq := hid (bel nM.out hbx)
     clear mQ mV nM
     clear hbx
     rw [show HV (some R) = .tuple #[.string (strOf R), .bool true] from rfl]
     have cx := iR.out.facts.2.2.2.1
     have fx := iR.out.thaw.2.2.2.1
     go_upto_region 16 with (fail)
     have hxr := mP.out.set (k := w2.heap.size) (i := 3) (.string (strOf R)) (aO.out)
     have hxu := iR.out.hst R
     have hb := tq.out.setCell (p := ⟨w2.heap.size, 3, none⟩) (dN.out) (.string (strOf R))
     clear mP iR tq
     clear cx fx
     generalize World.setCell w10 _ _ = LH at hxr hxu hb ⊢
     have qI : Hid (UB LH (w.heap.size) (U0) (.slice none 0 0)) := hxr
     clear hxr
     have jq : Hid (UB LH (w2.heap.size) ({ U0 with au := S, usr := xe, dR := ye, hh := true, hst := R }) (.slice none 0 0)) := hxu
     clear hxu
     have xu := hid hb
     clear hb
     go_wp2_with fail
     refine (VH.out _).mono ?_
     rintro e wx ⟨hv, hwx⟩
     obtain rfl : LH = wx := hwx.symm
     clear hwx
     obtain ⟨z, ok, rfl, SB⟩ := lY hv
     clear hv
     have cx := jq.out.facts.2.2.2.2.2.1
     have fx := jq.out.thaw.2.2.2.2.2.1
     go_upto_region 17 with (fail)
     have hxr := qI.out.set (k := w2.heap.size) (i := 5) (.int .i64 z) (aO.out)
     have hxu := jq.out.port z
     have hb := xu.out.setCell (p := ⟨w2.heap.size, 5, none⟩) (dN.out) (.int .i64 z)
     clear qI jq xu
     clear cx fx
     generalize World.setCell LH _ _ = w12 at hxr hxu hb ⊢
     have jT : Hid (UB w12 (w.heap.size) (U0) (.slice none 0 0)) := hxr
     clear hxr
     have uV : Hid (UB w12 (w2.heap.size) ({ U0 with au := S, usr := xe, dR := ye, hh := true, hst := R, port := z }) (.slice none 0 0)) := hxu
     clear hxu
     have xw := hid hb
     clear hb
     rcases SB with ⟨hz, rfl⟩ | ⟨hz, rfl⟩
     ·
      have l9 : Hid (O = some { U0 with au := S, usr := xe, dR := ye, hst := R, hh := true, port := z, aF := rooted S D }) := by show _ = _; rw [JW.out, hz]
      clear hz
      go_wp2_with fail
      refine (VK.out _).mono ?_
      rintro e w13 ⟨q, rfl, hown, hbx⟩
      obtain ⟨A, c2, rfl, hq⟩ := bI (u := { U0 with aF := rooted S D }) hown
      clear hq
      replace hown := ay hown (Nat.le_refl _)
      have sH : Hid (w2.heap.size < w12.heap.size) := uV.out.lt
      have fK : Hid (w.heap.size < w12.heap.size) := jT.out.lt
      have GN := hid (jT.out.below hbx)
      have uX := hid (uV.out.below hbx)
      have Ob := hid (bel xw.out hbx)
      have GH := hid hown
      clear hown
      clear jT uV xw
      clear hbx
      have wX := sH.out
      have cx := uX.out.facts.2.2.2.2.2.2.2.2.1
      have fx := uX.out.thaw.2.2.2.2.2.2.2.2.1
      go_upto_region 20 with (fail)
      have hxr := GN.out.set (k := w2.heap.size) (i := 8) (.slice A (rooted S D).length c2) (aO.out)
      have hxu := uX.out.path (.slice A (rooted S D).length c2)
      have hoq := eF.aB (w' := w13.setCell ⟨w2.heap.size, 8, none⟩ (.slice A (rooted S D).length c2)) (gb := w2.heap.size) GH.out (fun k hk => heap_setCell_other _ _ _ _ hk) (by omega)
      have hb := Ob.out.setCell (p := ⟨w2.heap.size, 8, none⟩) (dN.out) (.slice A (rooted S D).length c2)
      clear GN uX GH Ob
      clear cx fx
      generalize World.setCell w13 _ _ = w14 at hxr hxu hoq hb ⊢
      have GR : Hid (UB w14 (w.heap.size) (U0) (.slice none 0 0)) := hxr
      clear hxr
      have Q5 : Hid (UB w14 (w2.heap.size) ({ U0 with au := S, usr := xe, dR := ye, hh := true, hst := R, port := z }) (.slice A (rooted S D).length c2)) := hxu
      clear hxu
      have QW := hid hoq
      clear hoq
      have XM := hid hb
      clear hb
      clear wX
      obtain ⟨c0, c1, c2', c3, c4, c5, c6, c7, c8, c9, c10, c11, c12⟩ := Q5.out.facts
      go_wp2_with (refine ak GR.out { U0 with au := S, usr := xe, dR := ye, hh := true, hst := R, port := z } A (rooted S D).length c2 (.tmp 4) (.tmp 91) rfl rfl rfl rfl ?_)
      try simp only [Exit.inBlock, Exit.then]
      have hpo : ∀ k, k ≠ w.heap.size → (World.setRow w14 (w.heap.size) (cells { U0 with au := S, usr := xe, dR := ye, hh := true, hst := R, port := z } (.slice A (rooted S D).length c2))).heap[k]? = w14.heap[k]? := fun k hk => setRow_other _ _ _ _ hk
      have ho := ay (eF.aB QW.out hpo fK.out) (by have h1 := bG.out; have h2 := fK.out; omega : w.heap.size ≤ _)
      exact bodyPost_ret (w := World.setRow w14 w.heap.size (cells { U0 with au := S, usr := xe, dR := ye, hh := true, hst := R, port := z } (.slice A (rooted S D).length c2))) (res2 (u := { U0 with au := S, usr := xe, dR := ye, hh := true, hst := R, port := z }) (p := (.slice A (rooted S D).length c2)) rfl (GR.out.row { U0 with au := S, usr := xe, dR := ye, hh := true, hst := R, port := z } _) true _ rfl rfl) rfl (dJ (u := { U0 with au := S, usr := xe, dR := ye, hst := R, hh := true, port := z, aF := rooted S D }) l9.out (below_setRow XM.out bG.out _) ho)
     ·
      have mM : Hid (O = none) := by show _ = _; rw [JW.out, hz]
      clear hz
      go_wp2_with (refine ak jT.out U0 none 0 0 (.tmp 4) (.tmp 86) rfl rfl rfl rfl ?_)
      try simp only [Exit.inBlock, Exit.then]
      exact bodyPost_ret (w := World.setRow w12 w.heap.size (cells U0 (.slice none 0 0))) (res2 (u := U0) (p := .slice none 0 0) rfl (jT.out.row U0 _) false _ rfl rfl) rfl (gU mM.out (below_setRow xw.out bG.out _))
   | true =>
    by_cases h0 : H1 = []
    ·
     have mM : Hid (O = none) := by show _ = _; rw [jQ.out, if_pos ⟨rfl, h0⟩]
     have q0 : ((strOf H1).toList == []) = true := by rw [aW, h0]; rfl
     have q1 : (strOf H1).toList = [] := by rw [aW, h0]
     clear jQ h0
     go_wp2_with (refine ak mQ.out U0 none 0 0 (.tmp 4) (.tmp 64) rfl rfl rfl rfl ?_)
     try simp only [Exit.inBlock, Exit.then]
     exact bodyPost_ret (w := World.setRow w9 w.heap.size (cells U0 (.slice none 0 0))) (res2 (u := U0) (p := .slice none 0 0) rfl (mQ.out.row U0 _) false _ rfl rfl) rfl (gU mM.out (below_setRow nM.out bG.out _))
    ·
     have iH : Hid (O = match hst H1 (special S), prt S H2 with | some H, some p => some { U0 with au := S, usr := xe, dR := ye, hst := H, hh := true, port := p, aF := rooted S D } | _, _ => none) := by show _ = _; rw [jQ.out, if_neg (fun h => h0 h.2)]
     have q0 : ((strOf H1).toList == []) = false := by rw [aW, beq_eq_false_iff_ne]; exact h0
     have q1 : ¬ (strOf H1).toList = [] := by rw [aW]; exact h0
     have q2 : (strOf H1).toList.isEmpty = false := by rw [aW]; simpa using h0
     clear jQ h0
     go_wp2_with fail
     refine (zQ.out _).mono ?_
     rintro e wx ⟨rfl, hwx⟩
     obtain rfl : w9 = wx := by first | exact hwx | exact hwx.symm
     clear hwx
     cases hx : hst H1 (special S) with
     | none =>
      have mM : Hid (O = none) := by show _ = _; rw [iH.out, hx]
      rw [hx] at HH
      clear hx
      go_wp2_with fail
      refine (HH.out _ (HL.out.below nM.out) (bJ HT.out nM.out) (HM.out.below nM.out)).mono ?_
      rintro e w10 ⟨rfl, hbx⟩
      have mP := hid (mQ.out.below hbx)
      have iR := hid (mV.out.below hbx)
      have tq := hid (bel nM.out hbx)
      clear mQ mV nM
      clear hbx
      rw [show HV none = .tuple #[.string (strOf []), .bool false] from rfl]
      have cx := iR.out.facts.2.2.2.1
      have fx := iR.out.thaw.2.2.2.1
      go_upto_region 16 with (fail)
      have hxr := mP.out.set (k := w2.heap.size) (i := 3) (.string (strOf [])) (aO.out)
      have hxu := iR.out.hst []
      have hb := tq.out.setCell (p := ⟨w2.heap.size, 3, none⟩) (dN.out) (.string (strOf []))
      clear mP iR tq
      clear cx fx
      generalize World.setCell w10 _ _ = LH at hxr hxu hb ⊢
      have qI : Hid (UB LH (w.heap.size) (U0) (.slice none 0 0)) := hxr
      clear hxr
      have jq : Hid (UB LH (w2.heap.size) ({ U0 with au := S, usr := xe, dR := ye, hh := true, hst := [] }) (.slice none 0 0)) := hxu
      clear hxu
      have xu := hid hb
      clear hb
      go_wp2_with fail
      refine (VH.out _).mono ?_
      rintro e wx ⟨hv, hwx⟩
      obtain rfl : LH = wx := hwx.symm
      clear hwx
      obtain ⟨z, ok, rfl, SB⟩ := lY hv
      clear hv
      have cx := jq.out.facts.2.2.2.2.2.1
      have fx := jq.out.thaw.2.2.2.2.2.1
      go_upto_region 17 with (fail)
      have hxr := qI.out.set (k := w2.heap.size) (i := 5) (.int .i64 z) (aO.out)
      have hxu := jq.out.port z
      have hb := xu.out.setCell (p := ⟨w2.heap.size, 5, none⟩) (dN.out) (.int .i64 z)
      clear qI jq xu
      clear cx fx
      generalize World.setCell LH _ _ = w12 at hxr hxu hb ⊢
      have jT : Hid (UB w12 (w.heap.size) (U0) (.slice none 0 0)) := hxr
      clear hxr
      have uV : Hid (UB w12 (w2.heap.size) ({ U0 with au := S, usr := xe, dR := ye, hh := true, hst := [], port := z }) (.slice none 0 0)) := hxu
      clear hxu
      have xw := hid hb
      clear hb
      clear SB
      go_wp2_with (refine ak jT.out U0 none 0 0 (.tmp 4) (.tmp 86) rfl rfl rfl rfl ?_)
      try simp only [Exit.inBlock, Exit.then]
      exact bodyPost_ret (w := World.setRow w12 w.heap.size (cells U0 (.slice none 0 0))) (res2 (u := U0) (p := .slice none 0 0) rfl (jT.out.row U0 _) false _ rfl rfl) rfl (gU mM.out (below_setRow xw.out bG.out _))
     | some R =>
      have JW : Hid (O = match prt S H2 with | some p => some { U0 with au := S, usr := xe, dR := ye, hst := R, hh := true, port := p, aF := rooted S D } | none => none) := by show _ = _; rw [iH.out, hx]; cases prt S H2 <;> rfl
      rw [hx] at HH
      clear hx
      go_wp2_with fail
      refine (HH.out _ (HL.out.below nM.out) (bJ HT.out nM.out) (HM.out.below nM.out)).mono ?_
      rintro e w10 ⟨rfl, hbx⟩
      have mP := hid (mQ.out.below hbx)
      have iR := hid (mV.out.below hbx)
      have tq := hid (bel nM.out hbx)
      clear mQ mV nM
      clear hbx
      rw [show HV (some R) = .tuple #[.string (strOf R), .bool true] from rfl]
      have cx := iR.out.facts.2.2.2.1
      have fx := iR.out.thaw.2.2.2.1
      go_upto_region 16 with (fail)
      have hxr := mP.out.set (k := w2.heap.size) (i := 3) (.string (strOf R)) (aO.out)
      have hxu := iR.out.hst R
      have hb := tq.out.setCell (p := ⟨w2.heap.size, 3, none⟩) (dN.out) (.string (strOf R))
      clear mP iR tq
      clear cx fx
      generalize World.setCell w10 _ _ = LH at hxr hxu hb ⊢
      have qI : Hid (UB LH (w.heap.size) (U0) (.slice none 0 0)) := hxr
      clear hxr
      have jq : Hid (UB LH (w2.heap.size) ({ U0 with au := S, usr := xe, dR := ye, hh := true, hst := R }) (.slice none 0 0)) := hxu
      clear hxu
      have xu := hid hb
      clear hb
      go_wp2_with fail
      refine (VH.out _).mono ?_
      rintro e wx ⟨hv, hwx⟩
      obtain rfl : LH = wx := hwx.symm
      clear hwx
      obtain ⟨z, ok, rfl, SB⟩ := lY hv
      clear hv
      have cx := jq.out.facts.2.2.2.2.2.1
      have fx := jq.out.thaw.2.2.2.2.2.1
      go_upto_region 17 with (fail)
      have hxr := qI.out.set (k := w2.heap.size) (i := 5) (.int .i64 z) (aO.out)
      have hxu := jq.out.port z
      have hb := xu.out.setCell (p := ⟨w2.heap.size, 5, none⟩) (dN.out) (.int .i64 z)
      clear qI jq xu
      clear cx fx
      generalize World.setCell LH _ _ = w12 at hxr hxu hb ⊢
      have jT : Hid (UB w12 (w.heap.size) (U0) (.slice none 0 0)) := hxr
      clear hxr
      have uV : Hid (UB w12 (w2.heap.size) ({ U0 with au := S, usr := xe, dR := ye, hh := true, hst := R, port := z }) (.slice none 0 0)) := hxu
      clear hxu
      have xw := hid hb
      clear hb
      rcases SB with ⟨hz, rfl⟩ | ⟨hz, rfl⟩
      ·
       have l9 : Hid (O = some { U0 with au := S, usr := xe, dR := ye, hst := R, hh := true, port := z, aF := rooted S D }) := by show _ = _; rw [JW.out, hz]
       clear hz
       go_wp2_with fail
       refine (VK.out _).mono ?_
       rintro e w13 ⟨q, rfl, hown, hbx⟩
       obtain ⟨A, c2, rfl, hq⟩ := bI (u := { U0 with aF := rooted S D }) hown
       clear hq
       replace hown := ay hown (Nat.le_refl _)
       have sH : Hid (w2.heap.size < w12.heap.size) := uV.out.lt
       have fK : Hid (w.heap.size < w12.heap.size) := jT.out.lt
       have GN := hid (jT.out.below hbx)
       have uX := hid (uV.out.below hbx)
       have Ob := hid (bel xw.out hbx)
       have GH := hid hown
       clear hown
       clear jT uV xw
       clear hbx
       have wX := sH.out
       have cx := uX.out.facts.2.2.2.2.2.2.2.2.1
       have fx := uX.out.thaw.2.2.2.2.2.2.2.2.1
       go_upto_region 20 with (fail)
       have hxr := GN.out.set (k := w2.heap.size) (i := 8) (.slice A (rooted S D).length c2) (aO.out)
       have hxu := uX.out.path (.slice A (rooted S D).length c2)
       have hoq := eF.aB (w' := w13.setCell ⟨w2.heap.size, 8, none⟩ (.slice A (rooted S D).length c2)) (gb := w2.heap.size) GH.out (fun k hk => heap_setCell_other _ _ _ _ hk) (by omega)
       have hb := Ob.out.setCell (p := ⟨w2.heap.size, 8, none⟩) (dN.out) (.slice A (rooted S D).length c2)
       clear GN uX GH Ob
       clear cx fx
       generalize World.setCell w13 _ _ = w14 at hxr hxu hoq hb ⊢
       have GR : Hid (UB w14 (w.heap.size) (U0) (.slice none 0 0)) := hxr
       clear hxr
       have Q5 : Hid (UB w14 (w2.heap.size) ({ U0 with au := S, usr := xe, dR := ye, hh := true, hst := R, port := z }) (.slice A (rooted S D).length c2)) := hxu
       clear hxu
       have QW := hid hoq
       clear hoq
       have XM := hid hb
       clear hb
       clear wX
       obtain ⟨c0, c1, c2', c3, c4, c5, c6, c7, c8, c9, c10, c11, c12⟩ := Q5.out.facts
       go_wp2_with (refine ak GR.out { U0 with au := S, usr := xe, dR := ye, hh := true, hst := R, port := z } A (rooted S D).length c2 (.tmp 4) (.tmp 91) rfl rfl rfl rfl ?_)
       try simp only [Exit.inBlock, Exit.then]
       have hpo : ∀ k, k ≠ w.heap.size → (World.setRow w14 (w.heap.size) (cells { U0 with au := S, usr := xe, dR := ye, hh := true, hst := R, port := z } (.slice A (rooted S D).length c2))).heap[k]? = w14.heap[k]? := fun k hk => setRow_other _ _ _ _ hk
       have ho := ay (eF.aB QW.out hpo fK.out) (by have h1 := bG.out; have h2 := fK.out; omega : w.heap.size ≤ _)
       exact bodyPost_ret (w := World.setRow w14 w.heap.size (cells { U0 with au := S, usr := xe, dR := ye, hh := true, hst := R, port := z } (.slice A (rooted S D).length c2))) (res2 (u := { U0 with au := S, usr := xe, dR := ye, hh := true, hst := R, port := z }) (p := (.slice A (rooted S D).length c2)) rfl (GR.out.row { U0 with au := S, usr := xe, dR := ye, hh := true, hst := R, port := z } _) true _ rfl rfl) rfl (dJ (u := { U0 with au := S, usr := xe, dR := ye, hst := R, hh := true, port := z, aF := rooted S D }) l9.out (below_setRow XM.out bG.out _) ho)
      ·
       have mM : Hid (O = none) := by show _ = _; rw [JW.out, hz]
       clear hz
       go_wp2_with (refine ak jT.out U0 none 0 0 (.tmp 4) (.tmp 86) rfl rfl rfl rfl ?_)
       try simp only [Exit.inBlock, Exit.then]
       exact bodyPost_ret (w := World.setRow w12 w.heap.size (cells U0 (.slice none 0 0))) (res2 (u := U0) (p := .slice none 0 0) rfl (jT.out.row U0 _) false _ rfl rfl) rfl (gU mM.out (below_setRow xw.out bG.out _))
end Go.Proofs.YtmdofbccebkbiaaGreatDoor.Ce
