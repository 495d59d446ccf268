/- Texts that belong together: WinS, VX, WinW. -/
import Derived.Test.YtmdofbccebkbiaaGreatDoorNB
import Derived.Test.YtmdofbccebkbiaaGreatDoorNC
import Derived.Test.YtmdofbccebkbiaaGreatDoorMW
import Derived.Test.YtmdofbccebkbiaaGreatDoorMP
set_option linter.unusedSimpArgs false
set_option linter.unusedVariables false
set_option maxRecDepth 100000
set_option maxHeartbeats 64000000
namespace Go.Proofs.YtmdofbccebkbiaaGreatDoor.WinS
open Go.RowKit Base aT kW eH rJ xJ Rk FT zX
def turn (f t c : UInt8) : UInt8 := if c = f then t else c
theorem one_byte (w : World) (x : Value) (T : TypeId) : bK (w.alloc (.cells #[x] T)) (some ⟨w.heap.size, 0, none⟩) 1 [x] :=
 bK.kG rfl (by simp) (fun j hj => by
  simp at hj
  subst hj
  rw [Nat.zero_add, World.cell?_alloc_mark]
  rfl)
theorem ZM (z : Int) : ∀ u ∈ [Value.int .u8 z], u.oneCell' = true := by
 intro u hu
 simp at hu
 subst hu
 rfl
theorem Ja (X : List UInt8) (c : UInt8) : aJ (X ++ [c]) = aJ X ++ [.int .u8 (c.toNat : Int)] := by rw [dV]; rfl
theorem iP (s : ByteArray) (f t : UInt8) (w : World) (hs : s.size ≤ 900000) :
  Calls Tryz.prog 79 #[.string s, .int .u8 (f.toNat : Int), .int .u8 (t.toNat : Int)] w fun e w' => e = .returned (.string (strOf (s.data.toList.map (turn f t)))) ∧ Below w.heap.size w w' := by
 have hl : s.data.toList.length = s.size := Array.length_toList
 have HL := hid hl
 have HS := hid hs
 obtain ⟨i0, hi, hz0, hz1, hz2⟩ := info_parts rU
 clear hl hs
 go_enter Tryz.func79, Tryz.ntmps79
 go_wp2
 go_loopw [7, 8, 9, 12] (fun vo _ _ vk wr => ∃ k : Nat, k ≤ s.size ∧ vk = .int .i64 (k : Int) ∧ Hid (wr.ownsRow w.heap.size 5 1 vo k (aJ ((s.data.toList.take k).map (turn f t)))) ∧ Hid (Below w.heap.size w wr)) (fun _ _ _ vk _ => s.size - (intOf vk).toNat)
 case atStart => exact ⟨0, Nat.zero_le _, rfl, World.ownsRow_nil _ _ _ _, Below.refl _ _⟩
 case round =>
  obtain ⟨k, hk, rfl, HOW, HB⟩ := hrel
  have hss := HS.out
  by_cases hlt : k < s.size
  ·obtain ⟨c, hc⟩ : ∃ c, s[k] = c := ⟨_, rfl⟩
   have hkl : k < s.data.toList.length := by rw [HL.out]; exact hlt
   have hcl : s.data.toList[k] = c := hc
   obtain ⟨X, hX⟩ : ∃ X, X = (s.data.toList.take k).map (turn f t) := ⟨_, rfl⟩
   rw [← hX] at HOW
   have mD : Hid ((s.data.toList.take (k + 1)).map (turn f t) = X ++ [turn f t c]) := by
    show _ = _
    rw [take_snoc _ k hkl, hcl, List.map_append, ← hX]
    rfl
   clear hX hkl hcl
   have hszr : w.heap.size ≤ wr.heap.size := HB.out.size
   obtain ⟨Ao, co, rfl, _, _, _⟩ := aU HOW.out
   by_cases hcf : c = f
   ·have q0 : ((c.toNat : Int) == (f.toNat : Int)) = true := by rw [hcf]; simp
    have HT : Hid (turn f t c = t) := by show _ = _; unfold turn; rw [if_pos hcf]
    clear hcf
    go_wp2_with (at_builtin; refine eG rfl _ _ 61 rfl w.heap.size 5 i0 (.int .u8 0) 1 Tryz.underlying61 hi hz0 hz1 hz2 rfl _ k (aJ X) rfl (aK HOW.out ((Below.refl _ wr).alloc (Nat.le_refl _) _)) (HB.out.alloc hszr _) (by simp; omega) _ 1 _ [.int .u8 (t.toNat : Int)] rfl (one_byte _ _ _) (ZM _) (by unfold maxLen; omega) (by omega) ?_)
    intro v' w2 hown2 iY
    have HOW2 : Hid (w2.ownsRow w.heap.size 5 1 v' (k + 1) (aJ ((s.data.toList.take (k + 1)).map (turn f t)))) := by show World.ownsRow _ _ _ _ _ _ _; rw [mD.out, HT.out, Ja]; exact hown2
    have HB2 := hid iY
    clear hown2 iY
    go_wp2
    go_roundw
    case rel => exact ⟨k + 1, by omega, by go_num, HOW2, HB2⟩
    case measure => simp [intOf]; omega
   ·have q0 : ((c.toNat : Int) == (f.toNat : Int)) = false := uq hcf
    have HT : Hid (turn f t c = c) := by show _ = _; unfold turn; rw [if_neg hcf]
    clear hcf
    go_wp2_with (at_builtin; refine eG rfl _ _ 61 rfl w.heap.size 5 i0 (.int .u8 0) 1 Tryz.underlying61 hi hz0 hz1 hz2 rfl _ k (aJ X) rfl (aK HOW.out ((Below.refl _ wr).alloc (Nat.le_refl _) _)) (HB.out.alloc hszr _) (by simp; omega) _ 1 _ [.int .u8 (c.toNat : Int)] rfl (one_byte _ _ _) (ZM _) (by unfold maxLen; omega) (by omega) ?_)
    intro v' w2 hown2 iY
    have HOW2 : Hid (w2.ownsRow w.heap.size 5 1 v' (k + 1) (aJ ((s.data.toList.take (k + 1)).map (turn f t)))) := by show World.ownsRow _ _ _ _ _ _ _; rw [mD.out, HT.out, Ja]; exact hown2
    have HB2 := hid iY
    clear hown2 iY
    go_wp2
    go_roundw
    case rel => exact ⟨k + 1, by omega, by go_num, HOW2, HB2⟩
    case measure => simp [intOf]; omega
  ·obtain rfl : k = s.size := by omega
   have HT : Hid (s.data.toList.take s.size = s.data.toList) := by show _ = _; rw [List.take_of_length_le (by rw [HL.out]; exact Nat.le_refl _)]
   have how := HOW.out
   rw [HT.out] at how
   obtain ⟨Ao, co, rfl, _, _, hro⟩ := aU how
   have hst := aP 61 9 5 Tryz.underlying61 Tryz.underlying5 Tryz.underlying9 _ co hro
   clear how hro
   go_wp2
   go_ret
   exact ⟨rfl, HB.out⟩
end Go.Proofs.YtmdofbccebkbiaaGreatDoor.WinS
namespace Go.Proofs.YtmdofbccebkbiaaGreatDoor.VX
open Go.RowKit Base eH aT kW rJ xJ Rk FT PosC PosU zX VW
open Go.Proofs.YtmdofbccebkbiaaGreatDoor.zW (Env Vz PX qy)
open Go.Proofs.YtmdofbccebkbiaaGreatDoor.rF (seg)
open Go.Proofs.YtmdofbccebkbiaaGreatDoor.uT (Max)
def hostW : Option W3 → List UInt8
 | none => []
 | some v => v.2.1
def pre (d : List UInt8) : List (List UInt8) := if d = [] then [] else [d]
def segW : Option W3 → Option (List (List UInt8))
 | none => none
 | some v => some (pre v.1 ++ v.2.2.map seg)
theorem Jq {L d h : List UInt8} {l : List (List UInt8)} (e : iI L = some (d, h, l)) : l.length ≤ L.length + 1 ∧ (∀ x ∈ l, x.length ≤ L.length) ∧ d.length ≤ L.length := by
 have h1 : (gJ L).length ≤ L.length + 1 := by have := jy 92 (L.map bs); rwa [List.length_map] at this
 have h2 : ∀ x ∈ gJ L, x.length ≤ L.length := fun x hx => by have := wu 92 _ x hx; rwa [List.length_map] at this
 have h3 : ∀ k, ((gJ L).getD k []).length ≤ L.length := fun k => by
  rw [List.getD_eq_getElem?_getD]
  cases e : (gJ L)[k]? with
  | none => exact Nat.zero_le _
  | some y => exact h2 y (List.mem_of_getElem? e)
 unfold iI NV at e
 split at e
 ·injection e with e
  unfold three at e
  split at e
  ·injection e with e1 e2
   injection e2 with e2 e3
   subst e1 e2 e3
   exact ⟨by rw [List.length_drop]; omega, fun x hx => h2 x (List.mem_of_mem_drop hx), h3 0⟩
  ·injection e with e1 e2
   injection e2 with e2 e3
   subst e1 e2 e3
   exact ⟨by rw [List.length_drop]; omega, fun x hx => h2 x (List.mem_of_mem_drop hx), Nat.zero_le _⟩
 ·cases e
theorem NS (s : ByteArray) (w : World) (hs : s.size ≤ 900000) (hE : Env w) :
  Calls Tryz.prog 38 #[.string s] w (AnsF (.int .i64 0) (.int .i64 2) (hostW (iI s.data.toList)) w (segW (iI s.data.toList))) := by
 have hl : s.data.toList.length = s.size := Array.length_toList
 obtain ⟨O, hO⟩ : ∃ O, O = iI s.data.toList := ⟨_, rfl⟩
 have HAP : Hid (∀ w : World, Env w → Calls Tryz.prog 76 #[.string s] w (Vz w O)) := fun w E => by rw [hO]; exact qy s w hs E
 rw [← hO]
 have HLN : Hid (∀ d h l, O = some (d, h, l) → l.length ≤ s.size + 1 ∧ (∀ x ∈ l, x.length ≤ s.size) ∧ d.length ≤ s.size) := fun d h l e => by
  have := Jq (hO.symm.trans e)
  rwa [hl] at this
 obtain ⟨i0, hi, hz0, hz1, hz2⟩ := info_parts nC
 have HE := hid hE
 have HS := hid hs
 clear hl hO hE hs
 go_enter Tryz.func38, Tryz.ntmps38
 go_upto_region 1 with (fail)
 generalize hw : World.alloc w _ = w1
 have h1 : Bx w1 w.heap.size (kU) ∧ Below w.heap.size w w1 := by
  subst hw
  exact laid w _ _
 clear hw
 have wZ := hid h1.1
 have HB1 := hid h1.2
 clear h1
 go_wp2_with fail
 refine (HAP.out _ (HE.out.below HB1.out)).mono ?_
 rintro e w2 ⟨hb2, hA⟩
 have mD := hid (wZ.out.below hb2)
 have HB2 := hid (bel HB1.out hb2)
 clear wZ HB1 hb2
 cases O with
 | none =>
  obtain ⟨d, ho, A, n, c, rfl⟩ := hA
  go_upto_region 2 with (fail)
  generalize hw : World.alloc w2 _ = w3
  have hb3 : Below w2.heap.size w2 w3 := by subst hw; exact (Below.refl _ _).alloc (Nat.le_refl _) _
  have xE := hid (mD.out.below hb3)
  have HB3 := hid (bel HB2.out hb3)
  clear hw hb3
  go_wp2_with (refine yR xE.out kU rfl rfl one_z (.tmp 2) (.tmp 16) rfl rfl rfl rfl ?_)
  try simp only [Exit.inBlock, Exit.then]
  exact bodyPost_ret (w := World.setRow w3 w.heap.size kU) (res rfl (xE.out.row kU) rfl (.int .i64 2) _ rfl rfl) rfl (J7 rfl (tN HB3.out (Nat.le_refl _) kU))
 | some v =>
  obtain ⟨d, ho, l⟩ := v
  obtain ⟨A0, c0, rfl, hc0, hm0, hR0⟩ := hA
  obtain ⟨hl1, hl2, hl3⟩ := HLN.out d ho l rfl
  have hs9 := HS.out
  have GL : Hid (∀ x ∈ l, x.length ≤ 900000) := fun x hx => Nat.le_trans (hl2 x hx) hs9
  have HDL : Hid (d.length ≤ 900000) := Nat.le_trans hl3 hs9
  obtain ⟨n, hn⟩ : ∃ n, n = l.length := ⟨_, rfl⟩
  have HN := hid hn
  rw [← hn] at hl1 hR0 ⊢
  have hn9 : n ≤ 900001 := by omega
  have HR0 := hid hR0
  clear hl1 hl2 hl3 hs9 hc0 hm0 hR0 hn HLN HAP
  go_upto_region 2 with (fail)
  generalize hw : World.alloc w2 _ = w3
  have hxa : PX w3 w2.heap.size (strOf d) (strOf ho) (.slice A0 n c0) := by rw [← hw]; exact heap_alloc_new _ _
  have hb3 : Below w2.heap.size w2 w3 := by rw [← hw]; exact (Below.refl _ _).alloc (Nat.le_refl _) _
  have HP3 := hid hxa
  have HB3 := hid hb3
  clear hw hxa hb3
  obtain ⟨p0, p1, p2⟩ := HP3.out.facts
  go_upto_region 5 with (fail)
  clear p0 p1 p2
  generalize hw : World.alloc w3 _ = w4
  have h1 : Bx w4 w3.heap.size (gW ho (.slice none 0 0)) ∧ Below w3.heap.size w3 w4 := by
   subst hw
   exact laid w3 _ _
  clear hw
  have VL := hid h1.1
  have HP4 := hid (HP3.out.below h1.2)
  have HB4 := hid (bel HB3.out h1.2)
  have Og : Hid (w2.heap.size < w3.heap.size) := HP3.out.lt
  have VF : Hid (w3.heap.size < w4.heap.size) := VL.out.lt
  clear h1 HP3 HB3
  obtain ⟨gu, hgu⟩ : ∃ gu, gu = w3.heap.size := ⟨_, rfl⟩
  rw [← hgu] at VL Og VF ⊢
  clear hgu
  obtain ⟨p0, p1, p2⟩ := HP4.out.facts
  by_cases hd : d = []
  ·have q0 : (strOf d).toList = [] := by rw [tl]; exact hd
   have q0' : ((strOf d).toList == []) = true := by rw [q0]; rfl
   have QY : Hid (pre d = []) := by show _ = _; unfold pre; rw [if_pos hd]
   clear hd
   go_upto_region 7 with (fail)
   clear p0 p1 q0 q0'
   have XR : Hid (w4.ownsRow w4.heap.size 9 1 (.slice none 0 0) 0 (((pre d).map strOf).map Value.string)) := by show World.ownsRow _ _ _ _ _ _ _; rw [QY.out]; exact World.ownsRow_nil _ _ _ _
   have wY : Hid ((pre d).length = 0) := by show _ = _; rw [QY.out]; rfl
   clear QY
   have HU0 := VL
   have HB0 := HB4
   have JX : Hid (w4.heap.size ≤ w4.heap.size) := Nat.le_refl _
   clear VL HB4
   go_wp2
   go_loopw [8, 33] (fun _ vk wr => ∃ (k m : Nat) (A : Option Addr) (c : Nat), k ≤ n ∧ m = k ∧ vk = .int .i64 (k : Int) ∧ Hid (wr.ownsRow w4.heap.size 9 1 (.slice A m c) m (((pre d ++ (l.take k).map seg).map strOf).map Value.string)) ∧ Hid (Bx wr gu (gW ho (.slice A m c))) ∧ Hid (Below w2.heap.size w2 wr) ∧ w4.heap.size ≤ wr.heap.size) (fun _ vk _ => n - (intOf vk).toNat)
   case atStart => exact ⟨0, 0, _, _, Nat.zero_le _, rfl, rfl, (by show World.ownsRow _ _ _ _ _ _ _; rw [List.take_zero, List.map_nil, List.append_nil]; exact XR.out), HU0.out, HB0.out, JX.out⟩
   case round =>
    clear XR HU0 HB0 JX
    obtain ⟨k, m, A, c, hk, hmk, rfl, HOW, HU, HB, hsz⟩ := hrel
    have LU := hid hsz
    have HMK := hid hmk
    have hm9 : m ≤ 900002 := by omega
    clear hmk
    have X5 := hid (HR0.out.below HB.out)
    by_cases hlt : k < n
    ·obtain ⟨gr, off, rfl, hg, hc⟩ := vF X5.out k hlt HN.out.symm
     obtain ⟨x, hxd⟩ : ∃ x, x = l[k]'(by rw [← HN.out]; exact hlt) := ⟨_, rfl⟩
     rw [← hxd] at hc
     have hxs : x.length ≤ 900000 := by rw [hxd]; exact GL.out _ (List.getElem_mem (l := l) (n := k) (by rw [← HN.out]; exact hlt))
     obtain ⟨sx, hsx⟩ : ∃ sx, sx = strOf (seg x) := ⟨_, rfl⟩
     have HSG : Hid (∀ w : World, Calls Tryz.prog 71 #[.string (strOf x)] w fun e w' => e = .returned (.string sx) ∧ Below w.heap.size w w') := fun w => by rw [hsx]; exact yN (strOf x) w (by rw [ah]; omega)
     obtain ⟨R, wW⟩ : ∃ R, R = ((pre d ++ (l.take k).map seg).map strOf).map Value.string := ⟨_, rfl⟩
     rw [← wW] at HOW
     have HR2 : Hid (((pre d ++ (l.take (k + 1)).map seg).map strOf).map Value.string = R ++ [Value.string sx]) := by
      show _ = _
      rw [take_snoc l k (by rw [← HN.out]; exact hlt), ← hxd, wW, hsx]
      simp only [List.map_append, List.map_cons, List.map_nil, List.append_assoc]
     clear hxd hxs hsx wW X5
     go_upto_region 10 with (fail)
     clear hc hg
     refine aZ (by kernel_rfl) 5 [is (.pointer (some ⟨gu, 8, none⟩)), is (.slice A m c), is (.string (strOf x)), is (.string sx), row 1 [.string sx]] [[], [0], [], [2], [2, 3], [0, 1, 2, 3, 4]] (by kernel_rfl) ?_ ?_
     ·refine ⟨?_, ?_, ?_, ?_, ?_, trivial⟩
      all_goals (intro t wq hbq hh K hK; simp only [filled, aQ, upd, Have, is, any, row, pick, Act.put, List.setIfInBounds_toArray, List.set_cons_zero, List.set_cons_succ, Nat.reduceAdd, Nat.reduceEqDiff, reduceIte, List.tail_cons, List.headD_cons] at hh hK ⊢; (try simp only [hh] at hK ⊢); try clear hh)
      ·go_simp; exact hK _ _ (Below.refl _ _) rfl
      ·have hc8 := (HU.out.below hbq).E5.1; go_simp; exact hK _ _ (Below.refl _ _) rfl
      ·go_simp; exact hK _ _ (Below.refl _ _) rfl
      ·go_simp; refine (HSG.out _).mono ?_; rintro e w9 ⟨rfl, uh⟩; exact hK _ _ uh rfl
      ·go_simp; exact hK _ _ ((Below.refl _ _).alloc (Nat.le_refl _) _) ⟨_, _, rfl, Nat.le_refl _, by decide, one_cell _ _ _⟩
     ·intro t wq hbq hh
      have f1 := aG hh 1 (by decide)
      simp only [pick] at f1
      replace f1 : t 1 = (.slice A m c) := f1
      have f4 := aG hh 4 (by decide)
      simp only [pick] at f4
      clear hh
      simp only [filled, aQ, upd, Have, is, any, row, pick, Act.put, List.setIfInBounds_toArray, List.set_cons_zero, List.set_cons_succ, Nat.reduceAdd, Nat.reduceEqDiff, reduceIte]
      obtain ⟨A4, c4, f4, hc4, hm4, hr4⟩ := f4
      simp only [f1, f4]
      have Fe := aK HOW.out hbq
      have HUq := hid (HU.out.below hbq)
      have AU := hid (bel HB.out hbq)
      have Ie : w4.heap.size ≤ wq.heap.size := Nat.le_trans hsz hbq.size
      have hrefl : Below w4.heap.size wq wq := Below.refl _ _
      refine eG rfl _ _ 23 rfl w4.heap.size 9 i0 (.string ByteArray.empty) 16 Tryz.underlying23 hi hz0 hz1 hz2 rfl _ m R rfl Fe hrefl Ie A4 1 c4 [.string sx] rfl hr4 (Gl _) (by unfold maxLen; omega) (by omega) ?_
      intro v7 w7 dF dh
      obtain ⟨A7, c7, rfl, Y9, hm7, WI⟩ := aU dF
      have hG2 := Og.out
      have hG3 := VF.out
      have Si := HUq.out.under dh (by omega)
      have Y3 : Below w2.heap.size w2 w7 := AU.out.trans (dh.mono (by omega))
      have hs7 : w4.heap.size ≤ w7.heap.size := Nat.le_trans Ie dh.size
      obtain ⟨EF, KJ⟩ := Si.E5
      have XT : Hid ((w7.setCell ⟨gu, 8, none⟩ (.slice A7 (m + 1) c7)).ownsRow w4.heap.size 9 1 (.slice A7 (m + 1) c7) (m + 1) (((pre d ++ (l.take (k + 1)).map seg).map strOf).map Value.string)) := by show World.ownsRow _ _ _ _ _ _ _; rw [HR2.out]; exact Dy dF (by omega)
      have HU8 := hid (Si.path (.slice A7 (m + 1) c7))
      have HB8 := hid (Y3.setCell (p := ⟨gu, 8, none⟩) (by show _ ≤ gu; omega) (.slice A7 (m + 1) c7))
      have hs8 : w4.heap.size ≤ (w7.setCell ⟨gu, 8, none⟩ (.slice A7 (m + 1) c7)).heap.size := by simpa using hs7
      clear dF dh WI Si Y3 Fe hrefl Ie hG2 hG3 hm7 Y9 hs7
      go_wp2
      go_roundw
      case rel => exact ⟨k + 1, m + 1, A7, c7, by omega, by have := HMK.out; omega, by go_num, XT, HU8, HB8, hs8⟩
      case measure => simp [intOf]; omega
    ·obtain rfl : k = n := by omega
     have VD : Hid ((l.take k).map seg = l.map seg) := by show _ = _; rw [List.take_of_length_le (by rw [HN.out]; exact Nat.le_refl _)]
     have HXr := hid (mD.out.below HB.out)
     obtain ⟨d0, d1, d2, d3, d4, d5, d6, d7, d8, d9, d10, d11, d12⟩ := HU.out.facts
     go_wp2_with (refine yR HXr.out (gW ho (.slice A m c)) rfl rfl (ZL _ _ _ _) (.tmp 2) (.tmp 45) rfl rfl rfl rfl ?_)
     try simp only [Exit.inBlock, Exit.then]
     have how := HOW.out
     rw [VD.out] at how
     have hG : w.heap.size < w4.heap.size := by have h1 := mD.out.lt; have h2 := Og.out; have h3 := VF.out; omega
     exact bodyPost_ret (w := World.setRow wr w.heap.size (gW ho (.slice A m c))) (res rfl (HXr.out.row _) rfl (.int .i64 0) _ rfl rfl) rfl (Ep (hst := ho) rfl (tN (bel HB2.out HB.out) (Nat.le_refl _) _) (ay (IB how hG _) (by omega)))
  ·have q0 : ((strOf d).toList == []) = false := by rw [tl, beq_eq_false_iff_ne]; exact hd
   have q0' : (strOf d).toList.isEmpty = false := by rw [tl]; simpa [strOf] using hd
   have QY : Hid (pre d = [d]) := by show _ = _; unfold pre; rw [if_neg hd]
   clear hd
   go_upto_region 6 with (fail)
   obtain ⟨EF, KJ⟩ := VL.out.E5
   have hD := HDL.out
   go_wp2_with (at_builtin; refine eG rfl _ _ 23 rfl w4.heap.size 9 i0 (.string ByteArray.empty) 16 Tryz.underlying23 hi hz0 hz1 hz2 rfl _ 0 [] rfl (World.ownsRow_nil _ _ _ _) ((Below.refl w4.heap.size w4).alloc (Nat.le_refl _) _) (by simp) _ 1 _ [.string (strOf d)] rfl (one_cell _ _ _) (Gl _) (by unfold maxLen; omega) (by omega) ?_)
   intro v7 w7 dF dh
   obtain ⟨A7, c7, rfl, Y9, hm7, WI⟩ := aU dF
   have hG3 := VF.out
   have hG2 := Og.out
   have Si := VL.out.below dh
   have Y3 := bel HB4.out dh
   have hP7 := HP4.out.below dh
   have HP8 : Hid (PX (w7.setCell ⟨gu, 8, none⟩ (.slice A7 1 c7)) w2.heap.size (strOf d) (strOf ho) (.slice A0 n c0)) := (heap_setCell_other w7 ⟨gu, 8, none⟩ w2.heap.size (.slice A7 1 c7) (show w2.heap.size ≠ gu by omega)).trans hP7
   have hs7 : w4.heap.size ≤ w7.heap.size := dh.size
   clear EF KJ p0 p1 p2
   obtain ⟨EF, KJ⟩ := Si.E5
   have XR : Hid ((w7.setCell ⟨gu, 8, none⟩ (.slice A7 1 c7)).ownsRow w4.heap.size 9 1 (.slice A7 1 c7) 1 (((pre d).map strOf).map Value.string)) := by show World.ownsRow _ _ _ _ _ _ _; rw [QY.out]; exact Dy dF (by omega)
   have HU0 := hid (Si.path (.slice A7 1 c7))
   have HB0 := hid (Y3.setCell (p := ⟨gu, 8, none⟩) (by show _ ≤ gu; omega) (.slice A7 1 c7))
   have JX : Hid (w4.heap.size ≤ (w7.setCell ⟨gu, 8, none⟩ (.slice A7 1 c7)).heap.size) := by show _ ≤ _; simpa using hs7
   have wY : Hid ((pre d).length = 1) := by show _ = _; rw [QY.out]; rfl
   clear dF dh WI Si Y3 hP7 hG2 hG3 hm7 Y9 hs7 QY VL HB4 HP4 q0 q0' hD
   go_upto_region 7 with (fail)
   clear EF KJ
   obtain ⟨p0, p1, p2⟩ := HP8.out.facts
   clear p0 p1
   go_wp2
   go_loopw [8, 33] (fun _ vk wr => ∃ (k m : Nat) (A : Option Addr) (c : Nat), k ≤ n ∧ m = 1 + k ∧ vk = .int .i64 (k : Int) ∧ Hid (wr.ownsRow w4.heap.size 9 1 (.slice A m c) m (((pre d ++ (l.take k).map seg).map strOf).map Value.string)) ∧ Hid (Bx wr gu (gW ho (.slice A m c))) ∧ Hid (Below w2.heap.size w2 wr) ∧ w4.heap.size ≤ wr.heap.size) (fun _ vk _ => n - (intOf vk).toNat)
   case atStart => exact ⟨0, 1, _, _, Nat.zero_le _, rfl, rfl, (by show World.ownsRow _ _ _ _ _ _ _; rw [List.take_zero, List.map_nil, List.append_nil]; exact XR.out), HU0.out, HB0.out, JX.out⟩
   case round =>
    clear XR HU0 HB0 JX
    obtain ⟨k, m, A, c, hk, hmk, rfl, HOW, HU, HB, hsz⟩ := hrel
    have LU := hid hsz
    have HMK := hid hmk
    have hm9 : m ≤ 900002 := by omega
    clear hmk
    have X5 := hid (HR0.out.below HB.out)
    by_cases hlt : k < n
    ·obtain ⟨gr, off, rfl, hg, hc⟩ := vF X5.out k hlt HN.out.symm
     obtain ⟨x, hxd⟩ : ∃ x, x = l[k]'(by rw [← HN.out]; exact hlt) := ⟨_, rfl⟩
     rw [← hxd] at hc
     have hxs : x.length ≤ 900000 := by rw [hxd]; exact GL.out _ (List.getElem_mem (l := l) (n := k) (by rw [← HN.out]; exact hlt))
     obtain ⟨sx, hsx⟩ : ∃ sx, sx = strOf (seg x) := ⟨_, rfl⟩
     have HSG : Hid (∀ w : World, Calls Tryz.prog 71 #[.string (strOf x)] w fun e w' => e = .returned (.string sx) ∧ Below w.heap.size w w') := fun w => by rw [hsx]; exact yN (strOf x) w (by rw [ah]; omega)
     obtain ⟨R, wW⟩ : ∃ R, R = ((pre d ++ (l.take k).map seg).map strOf).map Value.string := ⟨_, rfl⟩
     rw [← wW] at HOW
     have HR2 : Hid (((pre d ++ (l.take (k + 1)).map seg).map strOf).map Value.string = R ++ [Value.string sx]) := by
      show _ = _
      rw [take_snoc l k (by rw [← HN.out]; exact hlt), ← hxd, wW, hsx]
      simp only [List.map_append, List.map_cons, List.map_nil, List.append_assoc]
     clear hxd hxs hsx wW X5
     go_upto_region 10 with (fail)
     clear hc hg
     refine aZ (by kernel_rfl) 5 [is (.pointer (some ⟨gu, 8, none⟩)), is (.slice A m c), is (.string (strOf x)), is (.string sx), row 1 [.string sx]] [[], [0], [], [2], [2, 3], [0, 1, 2, 3, 4]] (by kernel_rfl) ?_ ?_
     ·refine ⟨?_, ?_, ?_, ?_, ?_, trivial⟩
      all_goals (intro t wq hbq hh K hK; simp only [filled, aQ, upd, Have, is, any, row, pick, Act.put, List.setIfInBounds_toArray, List.set_cons_zero, List.set_cons_succ, Nat.reduceAdd, Nat.reduceEqDiff, reduceIte, List.tail_cons, List.headD_cons] at hh hK ⊢; (try simp only [hh] at hK ⊢); try clear hh)
      ·go_simp; exact hK _ _ (Below.refl _ _) rfl
      ·have hc8 := (HU.out.below hbq).E5.1; go_simp; exact hK _ _ (Below.refl _ _) rfl
      ·go_simp; exact hK _ _ (Below.refl _ _) rfl
      ·go_simp; refine (HSG.out _).mono ?_; rintro e w9 ⟨rfl, uh⟩; exact hK _ _ uh rfl
      ·go_simp; exact hK _ _ ((Below.refl _ _).alloc (Nat.le_refl _) _) ⟨_, _, rfl, Nat.le_refl _, by decide, one_cell _ _ _⟩
     ·intro t wq hbq hh
      have f1 := aG hh 1 (by decide)
      simp only [pick] at f1
      replace f1 : t 1 = (.slice A m c) := f1
      have f4 := aG hh 4 (by decide)
      simp only [pick] at f4
      clear hh
      simp only [filled, aQ, upd, Have, is, any, row, pick, Act.put, List.setIfInBounds_toArray, List.set_cons_zero, List.set_cons_succ, Nat.reduceAdd, Nat.reduceEqDiff, reduceIte]
      obtain ⟨A4, c4, f4, hc4, hm4, hr4⟩ := f4
      simp only [f1, f4]
      have Fe := aK HOW.out hbq
      have HUq := hid (HU.out.below hbq)
      have AU := hid (bel HB.out hbq)
      have Ie : w4.heap.size ≤ wq.heap.size := Nat.le_trans hsz hbq.size
      have hrefl : Below w4.heap.size wq wq := Below.refl _ _
      refine eG rfl _ _ 23 rfl w4.heap.size 9 i0 (.string ByteArray.empty) 16 Tryz.underlying23 hi hz0 hz1 hz2 rfl _ m R rfl Fe hrefl Ie A4 1 c4 [.string sx] rfl hr4 (Gl _) (by unfold maxLen; omega) (by omega) ?_
      intro v7 w7 dF dh
      obtain ⟨A7, c7, rfl, Y9, hm7, WI⟩ := aU dF
      have hG2 := Og.out
      have hG3 := VF.out
      have Si := HUq.out.under dh (by omega)
      have Y3 : Below w2.heap.size w2 w7 := AU.out.trans (dh.mono (by omega))
      have hs7 : w4.heap.size ≤ w7.heap.size := Nat.le_trans Ie dh.size
      obtain ⟨EF, KJ⟩ := Si.E5
      have XT : Hid ((w7.setCell ⟨gu, 8, none⟩ (.slice A7 (m + 1) c7)).ownsRow w4.heap.size 9 1 (.slice A7 (m + 1) c7) (m + 1) (((pre d ++ (l.take (k + 1)).map seg).map strOf).map Value.string)) := by show World.ownsRow _ _ _ _ _ _ _; rw [HR2.out]; exact Dy dF (by omega)
      have HU8 := hid (Si.path (.slice A7 (m + 1) c7))
      have HB8 := hid (Y3.setCell (p := ⟨gu, 8, none⟩) (by show _ ≤ gu; omega) (.slice A7 (m + 1) c7))
      have hs8 : w4.heap.size ≤ (w7.setCell ⟨gu, 8, none⟩ (.slice A7 (m + 1) c7)).heap.size := by simpa using hs7
      clear dF dh WI Si Y3 Fe hrefl Ie hG2 hG3 hm7 Y9 hs7
      go_wp2
      go_roundw
      case rel => exact ⟨k + 1, m + 1, A7, c7, by omega, by have := HMK.out; omega, by go_num, XT, HU8, HB8, hs8⟩
      case measure => simp [intOf]; omega
    ·obtain rfl : k = n := by omega
     have VD : Hid ((l.take k).map seg = l.map seg) := by show _ = _; rw [List.take_of_length_le (by rw [HN.out]; exact Nat.le_refl _)]
     have HXr := hid (mD.out.below HB.out)
     obtain ⟨d0, d1, d2, d3, d4, d5, d6, d7, d8, d9, d10, d11, d12⟩ := HU.out.facts
     go_wp2_with (refine yR HXr.out (gW ho (.slice A m c)) rfl rfl (ZL _ _ _ _) (.tmp 2) (.tmp 45) rfl rfl rfl rfl ?_)
     try simp only [Exit.inBlock, Exit.then]
     have how := HOW.out
     rw [VD.out] at how
     have hG : w.heap.size < w4.heap.size := by have h1 := mD.out.lt; have h2 := Og.out; have h3 := VF.out; omega
     exact bodyPost_ret (w := World.setRow wr w.heap.size (gW ho (.slice A m c))) (res rfl (HXr.out.row _) rfl (.int .i64 0) _ rfl rfl) rfl (Ep (hst := ho) rfl (tN (bel HB2.out HB.out) (Nat.le_refl _) _) (ay (IB how hG _) (by omega)))
end Go.Proofs.YtmdofbccebkbiaaGreatDoor.VX
namespace Go.Proofs.YtmdofbccebkbiaaGreatDoor.WinW
open Go.RowKit Base aT rJ xJ FT PosU zX VX WinS
open Go.Proofs.YtmdofbccebkbiaaGreatDoor.zW (Env)
open Go.Proofs.YtmdofbccebkbiaaGreatDoor.rF (seg)
open Go.Proofs.YtmdofbccebkbiaaGreatDoor.uT (Max)
structure Pt (w : World) (l : List (List UInt8)) (A : Option Addr) (n c : Nat) : Prop where
 IW : bK w A n ((l.map strOf).map Value.string)
 nc : n ≤ c
 cm : c ≤ maxLen
theorem Pt.below {w w' : World} {l : List (List UInt8)} {A : Option Addr} {n c : Nat} (h : Pt w l A n c) (hb : Below w.heap.size w w') : Pt w' l A n c := ⟨h.IW.below hb, h.nc, h.cm⟩
theorem Pt.of {w : World} {l : List (List UInt8)} {B n : Nat} {A : Option Addr} {c : Nat} (h : w.ownsRow B 9 1 (.slice A n c) n ((l.map strOf).map Value.string)) : Pt w l A n c := by
 obtain ⟨A', c', e, h1, h2, h3⟩ := aU h
 cases e
 exact ⟨h3, h1, h2⟩
def aac (h : List UInt8) (l : List (List UInt8)) : List UInt8 := bQ.BO ⟨#[102, 105, 108, 101]⟩ ⟨#[]⟩ ⟨#[]⟩ (strOf h) true (-1) false ⟨#[]⟩ (l.map strOf) false false ⟨#[]⟩ ⟨#[]⟩
theorem print_f (h : List UInt8) (hh : h.length ≤ 1000000) (l : List (List UInt8)) (A : Option Addr) (n c : Nat) (w : World) (hP : Pt w l A n c) (hl : (bQ.aF (l.map strOf)).length ≤ 1073741824) (E : Env w) : Calls Tryz.prog 31 #[.agg #[.string ⟨#[102, 105, 108, 101]⟩, .string ⟨#[]⟩, .string ⟨#[]⟩, .string (strOf h), .bool true, .int .i64 (-1), .bool false, .string ⟨#[]⟩, .slice A n c, .bool false, .bool false, .string ⟨#[]⟩, .string ⟨#[]⟩]] w fun e w' => e = .returned (.string (strOf (aac h l))) ∧ Below w.heap.size w w' :=
 VT.print_any ⟨#[102, 105, 108, 101]⟩ ⟨#[]⟩ ⟨#[]⟩ (strOf h) true (-1) false ⟨#[]⟩ A n c (l.map strOf) false false ⟨#[]⟩ ⟨#[]⟩ w hP.IW hP.nc hP.cm (by decide) (by decide) (by decide) (by rw [ah]; omega) (by decide) (by decide) (by decide) (by decide) (by decide) hl E.pow
def segs (v : W3) : List (List UInt8) := pre v.1 ++ v.2.2.map seg
theorem Qz {T : ByteArray} {v : W3} (ho : iI T.data.toList = some v) (hs : T.size ≤ 900000) (w : World) (E : Env w) : Calls Tryz.prog 38 #[.string T] w fun e w' => ∃ A n c, e = .returned (.tuple #[.agg #[.string ⟨#[102, 105, 108, 101]⟩, .string ⟨#[]⟩, .string ⟨#[]⟩, .string (strOf v.2.1), .bool true, .int .i64 (-1), .bool false, .string ⟨#[]⟩, .slice A n c, .bool false, .bool false, .string ⟨#[]⟩, .string ⟨#[]⟩], .int .i64 0]) ∧ Pt w' (segs v) A n c ∧ Below w.heap.size w w' :=
 (NS T w hs E).mono fun e w' h => by
  rw [ho] at h
  obtain ⟨hb, A, n, c, h1, h2⟩ := h
  exact ⟨A, n, c, h1, Pt.of h2, hb⟩
theorem Es (w : World) (E : Env w) : Calls Tryz.prog 33 #[] w fun e w' => e = .returned (.bool true) ∧ Below w.heap.size w w' := by
 have hu : iI [99, 58, 47, 97, 32, 98, 92, 100] = some ([99, 58], [], [[97, 32, 98], [100]]) := by decide +kernel
 have hsg : segs ([99, 58], [], [[97, 32, 98], [100]]) = [[99, 58], [97, 37, 50, 48, 98], [100]] := by decide +kernel
 have HU : Hid (∀ w : World, Env w → Calls Tryz.prog 38 #[.string ⟨#[99, 58, 47, 97, 32, 98, 92, 100]⟩] w fun e w' => ∃ A n c, e = .returned (.tuple #[.agg #[.string ⟨#[102, 105, 108, 101]⟩, .string ⟨#[]⟩, .string ⟨#[]⟩, .string (strOf []), .bool true, .int .i64 (-1), .bool false, .string ⟨#[]⟩, .slice A n c, .bool false, .bool false, .string ⟨#[]⟩, .string ⟨#[]⟩], .int .i64 0]) ∧ Pt w' [[99, 58], [97, 37, 50, 48, 98], [100]] A n c ∧ Below w.heap.size w w') := fun w E => by
  have h := Qz (T := ⟨#[99, 58, 47, 97, 32, 98, 92, 100]⟩) hu (by decide) w E
  rw [hsg] at h
  exact h
 obtain ⟨pr, hpr⟩ : ∃ pr, pr = aac [] [[99, 58], [97, 37, 50, 48, 98], [100]] := ⟨_, rfl⟩
 have QF : Hid (∀ (A : Option Addr) (n c : Nat) (w : World), Pt w [[99, 58], [97, 37, 50, 48, 98], [100]] A n c → Env w → Calls Tryz.prog 31 #[.agg #[.string ⟨#[102, 105, 108, 101]⟩, .string ⟨#[]⟩, .string ⟨#[]⟩, .string (strOf []), .bool true, .int .i64 (-1), .bool false, .string ⟨#[]⟩, .slice A n c, .bool false, .bool false, .string ⟨#[]⟩, .string ⟨#[]⟩]] w fun e w' => e = .returned (.string (strOf pr)) ∧ Below w.heap.size w w') := fun A n c w hP E => by rw [hpr]; exact print_f [] (by decide) _ A n c w hP (by decide +kernel) E
 have hq : ((strOf pr).toList == [102, 105, 108, 101, 58, 47, 47, 47, 99, 58, 47, 97, 37, 50, 48, 98, 47, 100]) = true := by rw [tl, hpr]; decide +kernel
 have HF : Hid (∀ w : World, Env w → Calls Tryz.prog 36 #[.string ⟨#[67, 58, 92]⟩] w fun e w' => e = .returned (.bool true) ∧ Below w.heap.size w w') := fun w E => by
  have hh := zW.ni ⟨#[67, 58, 92]⟩ w (by decide) E
  rw [show jc (⟨#[67, 58, 92]⟩ : ByteArray).data.toList = true by decide +kernel] at hh
  exact hh
 have HE := hid E
 clear hu hsg hpr E
 go_enter Tryz.func33, Tryz.ntmps33
 go_wp2_with fail
 refine (HU.out _ HE.out).mono ?_
 rintro e w1 ⟨A1, n1, c1, rfl, hpt, hb⟩
 have HB1 := hid hb
 have D7 := hid (HE.out.below hb)
 clear hb
 have T1 := hid hpt
 clear hpt
 go_upto_region 2 with (fail)
 generalize lG : World.alloc _ _ = v2
 have hxa : Bx v2 w1.heap.size (gW [] (.slice A1 n1 c1)) := by rw [← lG]; exact heap_alloc_new _ _
 have hb : Below w1.heap.size w1 v2 := by rw [← lG]; exact (Below.refl _ _).alloc (Nat.le_refl _) _
 have X1 := hid hxa
 clear lG hxa
 have HB2 := hid (bel HB1.out hb)
 have FZ := hid (D7.out.below hb)
 have VR := hid (T1.out.below hb)
 clear hb
 obtain ⟨d0, d1, d2, d3, d4, d5, d6, d7, d8, d9, d10, d11, d12⟩ := X1.out.facts
 go_wp2_with fail
 clear d0 d1 d2 d3 d4 d5 d6 d7 d8 d9 d10 d11 d12
 refine (QF.out _ _ _ _ VR.out FZ.out).mono ?_
 rintro e w3 ⟨rfl, hb⟩
 have HB3 := hid (bel HB2.out hb)
 have FK := hid (FZ.out.below hb)
 have T1_3 := hid (VR.out.below hb)
 have X1_3 := hid (X1.out.below hb)
 clear hb
 go_wp2_with fail
 refine (HF.out _ FK.out).mono ?_
 rintro e w4 ⟨rfl, hb⟩
 have HB4 := hid (bel HB3.out hb)
 have TV := hid (FK.out.below hb)
 have Yi := hid (T1_3.out.below hb)
 have X1_4 := hid (X1_3.out.below hb)
 clear hb
 go_wp2
 go_ret
 exact ⟨by first | rfl | trivial, HB4.out⟩
end Go.Proofs.YtmdofbccebkbiaaGreatDoor.WinW
