/- Texts that belong together: WinU, WinS, WinW. -/
import Derived.Test.YtleecmapaihhmaaGreatDoorMX
import Derived.Test.YtleecmapaihhmaaGreatDoorMV
import Derived.Test.YtleecmapaihhmaaGreatDoorMW
import Derived.Test.YtleecmapaihhmaaGreatDoorMP
import Derived.Test.YtleecmapaihhmaaGreatDoorMQ
set_option linter.unusedSimpArgs false
set_option linter.unusedVariables false
namespace Go.Proofs.YtleecmapaihhmaaGreatDoor.WinU
open Go.RowKit Go.Proofs.YtleecmapaihhmaaGreatDoor.Base Go.Proofs.YtleecmapaihhmaaGreatDoor.Regs Go.Proofs.YtleecmapaihhmaaGreatDoor.Base2 Go.Proofs.YtleecmapaihhmaaGreatDoor.Base3 Go.Proofs.YtleecmapaihhmaaGreatDoor.SlsP Go.Proofs.YtleecmapaihhmaaGreatDoor.PosQ Go.Proofs.YtleecmapaihhmaaGreatDoor.Sls Go.Proofs.YtleecmapaihhmaaGreatDoor.PosA Go.Proofs.YtleecmapaihhmaaGreatDoor.PosC Go.Proofs.YtleecmapaihhmaaGreatDoor.PosU Go.Proofs.YtleecmapaihhmaaGreatDoor.WinP Go.Proofs.YtleecmapaihhmaaGreatDoor.WinA
open Go.Proofs.YtleecmapaihhmaaGreatDoor.WinC (Env AnsA PX apart_any)
open Go.Proofs.YtleecmapaihhmaaGreatDoor.PosS (seg)
open Go.Proofs.YtleecmapaihhmaaGreatDoor.Spl (Max)

def hostW : Option W3 → List UInt8
  | none => []
  | some v => v.2.1
def pre (d : List UInt8) : List (List UInt8) := if d = [] then [] else [d]
def segW : Option W3 → Option (List (List UInt8))
  | none => none
  | some v => some (pre v.1 ++ v.2.2.map seg)
theorem wapart_len {L d h : List UInt8} {l : List (List UInt8)} (e : wapart L = some (d, h, l)) : l.length ≤ L.length + 1 ∧ (∀ x ∈ l, x.length ≤ L.length) ∧ d.length ≤ L.length := by
  have h1 : (pcs L).length ≤ L.length + 1 := by have := length_spl 92 (L.map bs); rwa [List.length_map] at this
  have h2 : ∀ x ∈ pcs L, x.length ≤ L.length := fun x hx => by have := spl_len 92 _ x hx; rwa [List.length_map] at this
  have h3 : ∀ k, ((pcs L).getD k []).length ≤ L.length := fun k => by
    rw [List.getD_eq_getElem?_getD]
    cases e : (pcs L)[k]? with
    | none => exact Nat.zero_le _
    | some y => exact h2 y (List.mem_of_getElem? e)
  unfold wapart wap at e
  split at e
  · injection e with e
    unfold three at e
    split at e
    · injection e with e1 e2
      injection e2 with e2 e3
      subst e1 e2 e3
      exact ⟨by rw [List.length_drop]; omega, fun x hx => h2 x (List.mem_of_mem_drop hx), h3 0⟩
    · injection e with e1 e2
      injection e2 with e2 e3
      subst e1 e2 e3
      exact ⟨by rw [List.length_drop]; omega, fun x hx => h2 x (List.mem_of_mem_drop hx), Nat.zero_le _⟩
  · cases e
set_option linter.unusedSimpArgs false in
set_option maxRecDepth 100000 in
set_option maxHeartbeats 8000000 in
theorem url_any (s : ByteArray) (w : World) (hs : s.size ≤ 900000) (hE : Env w) :
    Calls Tryz.prog 6 #[.string s] w (AnsF (.int .i64 0) (.int .i64 2) (hostW (wapart s.data.toList)) w (segW (wapart s.data.toList))) := by
  have hl : s.data.toList.length = s.size := Array.length_toList
  obtain ⟨O, hO⟩ : ∃ O, O = wapart s.data.toList := ⟨_, rfl⟩
  have HAP : Hid (∀ w : World, Env w → Calls Tryz.prog 13 #[.string s] w (AnsA w O)) := fun w E => by rw [hO]; exact apart_any s w hs E
  rw [← hO]
  have HLN : Hid (∀ d h l, O = some (d, h, l) → l.length ≤ s.size + 1 ∧ (∀ x ∈ l, x.length ≤ s.size) ∧ d.length ≤ s.size) := fun d h l e => by
    have := wapart_len (hO.symm.trans e)
    rwa [hl] at this
  obtain ⟨i0, hi, hz0, hz1, hz2⟩ := info_parts info_str
  have HE := hid hE
  have HS := hid hs
  clear hl hO hE hs
  go_enter Tryz.func6, Tryz.ntmps6
  go_upto_region 1 with (fail)
  generalize hw : World.alloc w _ = w1
  have h1 : Bx w1 w.heap.size (zcells) ∧ Below w.heap.size w w1 := by
    subst hw
    exact laid w _ _
  clear hw
  have HX1 := hid h1.1
  have HB1 := hid h1.2
  clear h1
  go_wp2_with fail
  refine (HAP.out _ (HE.out.below HB1.out)).mono ?_
  rintro e w2 ⟨hb2, hA⟩
  have HX2 := hid (HX1.out.below hb2)
  have HB2 := hid (bel HB1.out hb2)
  clear HX1 HB1 hb2
  cases O with
  | none =>
    obtain ⟨d, ho, A, n, c, rfl⟩ := hA
    go_upto_region 2 with (fail)
    generalize hw : World.alloc w2 _ = w3
    have hb3 : Below w2.heap.size w2 w3 := by subst hw; exact (Below.refl _ _).alloc (Nat.le_refl _) _
    have HX3 := hid (HX2.out.below hb3)
    have HB3 := hid (bel HB2.out hb3)
    clear hw hb3
    go_wp2_with (refine store_cs HX3.out zcells rfl rfl one_z (.tmp 2) (.tmp 16) rfl rfl rfl rfl ?_)
    try simp only [Exit.inBlock, Exit.then]
    exact bodyPost_ret (w := World.setRow w3 w.heap.size zcells) (res rfl (HX3.out.row zcells) rfl (.int .i64 2) _ rfl rfl) rfl (ansf_none rfl (below_row HB3.out (Nat.le_refl _) zcells))
  | some v =>
    obtain ⟨d, ho, l⟩ := v
    obtain ⟨A0, c0, rfl, hc0, hm0, hR0⟩ := hA
    obtain ⟨hl1, hl2, hl3⟩ := HLN.out d ho l rfl
    have hs9 := HS.out
    have HXL : Hid (∀ x ∈ l, x.length ≤ 900000) := fun x hx => Nat.le_trans (hl2 x hx) hs9
    have HDL : Hid (d.length ≤ 900000) := Nat.le_trans hl3 hs9
    obtain ⟨n, hn⟩ : ∃ n, n = l.length := ⟨_, rfl⟩
    have HN := hid hn
    rw [← hn] at hl1 hR0 ⊢
    have hn9 : n ≤ 900001 := by omega
    have HR0 := hid hR0
    clear hl1 hl2 hl3 hs9 hc0 hm0 hR0 hn HLN HAP
    go_upto_region 2 with (fail)
    generalize hw : World.alloc w2 _ = w3
    have hxa : PX w3 w2.heap.size (strOf d) (strOf ho) (.slice A0 n c0) := by rw [← hw]; exact heap_alloc_new _ _
    have hb3 : Below w2.heap.size w2 w3 := by rw [← hw]; exact (Below.refl _ _).alloc (Nat.le_refl _) _
    have HP3 := hid hxa
    have HB3 := hid hb3
    clear hw hxa hb3
    obtain ⟨p0, p1, p2⟩ := HP3.out.facts
    go_upto_region 5 with (fail)
    clear p0 p1 p2
    generalize hw : World.alloc w3 _ = w4
    have h1 : Bx w4 w3.heap.size (fcells ho (.slice none 0 0)) ∧ Below w3.heap.size w3 w4 := by
      subst hw
      exact laid w3 _ _
    clear hw
    have HU4 := hid h1.1
    have HP4 := hid (HP3.out.below h1.2)
    have HB4 := hid (bel HB3.out h1.2)
    have HLT : Hid (w2.heap.size < w3.heap.size) := HP3.out.lt
    have HLT4 : Hid (w3.heap.size < w4.heap.size) := HU4.out.lt
    clear h1 HP3 HB3
    obtain ⟨gu, hgu⟩ : ∃ gu, gu = w3.heap.size := ⟨_, rfl⟩
    rw [← hgu] at HU4 HLT HLT4 ⊢
    clear hgu
    obtain ⟨p0, p1, p2⟩ := HP4.out.facts
    by_cases hd : d = []
    · have q0 : (strOf d).toList = [] := by rw [tl]; exact hd
      have q0' : ((strOf d).toList == []) = true := by rw [q0]; rfl
      have HPRE : Hid (pre d = []) := by show _ = _; unfold pre; rw [if_pos hd]
      clear hd
      go_upto_region 7 with (fail)
      clear p0 p1 q0 q0'
      have HOW0 : Hid (w4.ownsRow w4.heap.size 9 1 (.slice none 0 0) 0 (((pre d).map strOf).map Value.string)) := by show World.ownsRow _ _ _ _ _ _ _; rw [HPRE.out]; exact World.ownsRow_nil _ _ _ _
      have HPL : Hid ((pre d).length = 0) := by show _ = _; rw [HPRE.out]; rfl
      clear HPRE
      have HU0 := HU4
      have HB0 := HB4
      have HS0 : Hid (w4.heap.size ≤ w4.heap.size) := Nat.le_refl _
      clear HU4 HB4
      go_wp2
      go_loopw [8, 33] (fun _ vk wr => ∃ (k m : Nat) (A : Option Addr) (c : Nat), k ≤ n ∧ m = k ∧ vk = .int .i64 (k : Int) ∧ Hid (wr.ownsRow w4.heap.size 9 1 (.slice A m c) m (((pre d ++ (l.take k).map seg).map strOf).map Value.string)) ∧ Hid (Bx wr gu (fcells ho (.slice A m c))) ∧ Hid (Below w2.heap.size w2 wr) ∧ w4.heap.size ≤ wr.heap.size) (fun _ vk _ => n - (intOf vk).toNat)
      case atStart => exact ⟨0, 0, _, _, Nat.zero_le _, rfl, rfl, (by show World.ownsRow _ _ _ _ _ _ _; rw [List.take_zero, List.map_nil, List.append_nil]; exact HOW0.out), HU0.out, HB0.out, HS0.out⟩
      case round =>
        clear HOW0 HU0 HB0 HS0
        obtain ⟨k, m, A, c, hk, hmk, rfl, HOW, HU, HB, hsz⟩ := hrel
        have HSZ := hid hsz
        have HMK := hid hmk
        have hm9 : m ≤ 900002 := by omega
        clear hmk
        have HRr := hid (HR0.out.below HB.out)
        by_cases hlt : k < n
        · obtain ⟨gr, off, rfl, hg, hc⟩ := cell_at HRr.out k hlt HN.out.symm
          obtain ⟨x, hxd⟩ : ∃ x, x = l[k]'(by rw [← HN.out]; exact hlt) := ⟨_, rfl⟩
          rw [← hxd] at hc
          have hxs : x.length ≤ 900000 := by rw [hxd]; exact HXL.out _ (List.getElem_mem (l := l) (n := k) (by rw [← HN.out]; exact hlt))
          obtain ⟨sx, hsx⟩ : ∃ sx, sx = strOf (seg x) := ⟨_, rfl⟩
          have HSG : Hid (∀ w : World, Calls Tryz.prog 14 #[.string (strOf x)] w fun e w' => e = .returned (.string sx) ∧ Below w.heap.size w w') := fun w => by rw [hsx]; exact segment_any (strOf x) w (by rw [size_strOf]; omega)
          obtain ⟨R, hRd⟩ : ∃ R, R = ((pre d ++ (l.take k).map seg).map strOf).map Value.string := ⟨_, rfl⟩
          rw [← hRd] at HOW
          have HR2 : Hid (((pre d ++ (l.take (k + 1)).map seg).map strOf).map Value.string = R ++ [Value.string sx]) := by
            show _ = _
            rw [take_snoc l k (by rw [← HN.out]; exact hlt), ← hxd, hRd, hsx]
            simp only [List.map_append, List.map_cons, List.map_nil, List.append_assoc]
          clear hxd hxs hsx hRd HRr
          go_upto_region 10 with (fail)
          clear hc hg
          refine wp_region_rel_tail (by kernel_rfl) 5 [is (.pointer (some ⟨gu, 8, none⟩)), is (.slice A m c), is (.string (strOf x)), is (.string sx), row 1 [.string sx]] [[], [0], [], [2], [2, 3], [0, 1, 2, 3, 4]] (by kernel_rfl) ?_ ?_
          · refine ⟨?_, ?_, ?_, ?_, ?_, trivial⟩
            · intro t wq hbq hh K hK
              clear hh
              simp only [filled, filledN, upd, Have, is, any, row, pick, Act.put, List.setIfInBounds_toArray, List.set_cons_zero, List.set_cons_succ, Nat.reduceAdd, Nat.reduceEqDiff, reduceIte] at hK ⊢
              go_simp
              exact hK _ _ (Below.refl _ _) rfl
            · intro t wq hbq hh K hK
              have e0 := hh.1
              simp only [pick] at e0
              replace e0 : t 0 = (.pointer (some ⟨gu, 8, none⟩)) := e0
              clear hh
              simp only [filled, filledN, upd, Have, is, any, row, pick, Act.put, List.setIfInBounds_toArray, List.set_cons_zero, List.set_cons_succ, Nat.reduceAdd, Nat.reduceEqDiff, reduceIte] at hK ⊢
              simp only [e0] at hK ⊢
              have hc8 := (HU.out.below hbq).cell8.1
              go_simp
              exact hK _ _ (Below.refl _ _) rfl
            · intro t wq hbq hh K hK
              clear hh
              simp only [filled, filledN, upd, Have, is, any, row, pick, Act.put, List.setIfInBounds_toArray, List.set_cons_zero, List.set_cons_succ, Nat.reduceAdd, Nat.reduceEqDiff, reduceIte] at hK ⊢
              go_simp
              exact hK _ _ (Below.refl _ _) rfl
            · intro t wq hbq hh K hK
              have e2 := hh.1
              simp only [pick] at e2
              replace e2 : t 2 = (.string (strOf x)) := e2
              clear hh
              simp only [filled, filledN, upd, Have, is, any, row, pick, Act.put, List.setIfInBounds_toArray, List.set_cons_zero, List.set_cons_succ, Nat.reduceAdd, Nat.reduceEqDiff, reduceIte] at hK ⊢
              simp only [e2] at hK ⊢
              go_simp
              refine (HSG.out _).mono ?_
              rintro e w9 ⟨rfl, hb9⟩
              exact hK _ _ hb9 rfl
            · intro t wq hbq hh K hK
              have e3 := hh.2.1
              simp only [pick] at e3
              replace e3 : t 3 = (.string sx) := e3
              clear hh
              simp only [filled, filledN, upd, Have, is, any, row, pick, Act.put, List.setIfInBounds_toArray, List.set_cons_zero, List.set_cons_succ, Nat.reduceAdd, Nat.reduceEqDiff, reduceIte] at hK ⊢
              simp only [e3] at hK ⊢
              go_simp
              exact hK _ _ ((Below.refl _ _).alloc (Nat.le_refl _) _) ⟨_, _, rfl, Nat.le_refl _, by decide, one_cell _ _ _⟩
          · intro t wq hbq hh
            have f1 := have_get hh 1 (by decide)
            simp only [pick] at f1
            replace f1 : t 1 = (.slice A m c) := f1
            have f4 := have_get hh 4 (by decide)
            simp only [pick] at f4
            clear hh
            simp only [filled, filledN, upd, Have, is, any, row, pick, Act.put, List.setIfInBounds_toArray, List.set_cons_zero, List.set_cons_succ, Nat.reduceAdd, Nat.reduceEqDiff, reduceIte]
            obtain ⟨A4, c4, f4, hc4, hm4, hr4⟩ := f4
            simp only [f1, f4]
            have hownq := owns_below HOW.out hbq
            have HUq := hid (HU.out.below hbq)
            have HBq := hid (bel HB.out hbq)
            have hszq : w4.heap.size ≤ wq.heap.size := Nat.le_trans hsz hbq.size
            have hrefl : Below w4.heap.size wq wq := Below.refl _ _
            refine wpList_app_any rfl _ _ 23 rfl w4.heap.size 9 i0 (.string ByteArray.empty) 16 Tryz.underlying23 hi hz0 hz1 hz2 rfl _ m R rfl hownq hrefl hszq A4 1 c4 [.string sx] rfl hr4 (one_str _) (by unfold maxLen; omega) (by omega) ?_
            intro v7 w7 hown7 hbel7
            obtain ⟨A7, c7, rfl, hc7, hm7, hr7⟩ := owns_form hown7
            have hG2 := HLT.out
            have hG3 := HLT4.out
            have hU7 := HUq.out.under hbel7 (by omega)
            have hB7 : Below w2.heap.size w2 w7 := HBq.out.trans (hbel7.mono (by omega))
            have hs7 : w4.heap.size ≤ w7.heap.size := Nat.le_trans hszq hbel7.size
            obtain ⟨hcell8, hfro8⟩ := hU7.cell8
            have HOW8 : Hid ((w7.setCell ⟨gu, 8, none⟩ (.slice A7 (m + 1) c7)).ownsRow w4.heap.size 9 1 (.slice A7 (m + 1) c7) (m + 1) (((pre d ++ (l.take (k + 1)).map seg).map strOf).map Value.string)) := by show World.ownsRow _ _ _ _ _ _ _; rw [HR2.out]; exact owns_set hown7 (by omega)
            have HU8 := hid (hU7.path (.slice A7 (m + 1) c7))
            have HB8 := hid (hB7.setCell (p := ⟨gu, 8, none⟩) (by show _ ≤ gu; omega) (.slice A7 (m + 1) c7))
            have hs8 : w4.heap.size ≤ (w7.setCell ⟨gu, 8, none⟩ (.slice A7 (m + 1) c7)).heap.size := by simpa using hs7
            clear hown7 hbel7 hr7 hU7 hB7 hownq hrefl hszq hG2 hG3 hm7 hc7 hs7
            go_wp2
            go_roundw
            case rel => exact ⟨k + 1, m + 1, A7, c7, by omega, by have := HMK.out; omega, by go_num, HOW8, HU8, HB8, hs8⟩
            case measure => simp [intOf]; omega
        · obtain rfl : k = n := by omega
          have HEQ : Hid ((l.take k).map seg = l.map seg) := by show _ = _; rw [List.take_of_length_le (by rw [HN.out]; exact Nat.le_refl _)]
          have HXr := hid (HX2.out.below HB.out)
          obtain ⟨d0, d1, d2, d3, d4, d5, d6, d7, d8, d9, d10, d11, d12⟩ := HU.out.facts
          go_wp2_with (refine store_cs HXr.out (fcells ho (.slice A m c)) rfl rfl (one_f _ _ _ _) (.tmp 2) (.tmp 45) rfl rfl rfl rfl ?_)
          try simp only [Exit.inBlock, Exit.then]
          have how := HOW.out
          rw [HEQ.out] at how
          have hG : w.heap.size < w4.heap.size := by have h1 := HX2.out.lt; have h2 := HLT.out; have h3 := HLT4.out; omega
          exact bodyPost_ret (w := World.setRow wr w.heap.size (fcells ho (.slice A m c))) (res rfl (HXr.out.row _) rfl (.int .i64 0) _ rfl rfl) rfl (ansf_some (hst := ho) rfl (below_row (bel HB2.out HB.out) (Nat.le_refl _) _) (owns_base (owns_row how hG _) (by omega)))
    · have q0 : ((strOf d).toList == []) = false := by rw [tl, beq_eq_false_iff_ne]; exact hd
      have q0' : (strOf d).toList.isEmpty = false := by rw [tl]; simpa [strOf] using hd
      have HPRE : Hid (pre d = [d]) := by show _ = _; unfold pre; rw [if_neg hd]
      clear hd
      go_upto_region 6 with (fail)
      obtain ⟨hcell8, hfro8⟩ := HU4.out.cell8
      have hD := HDL.out
      go_wp2_with (at_builtin; refine wpList_app_any rfl _ _ 23 rfl w4.heap.size 9 i0 (.string ByteArray.empty) 16 Tryz.underlying23 hi hz0 hz1 hz2 rfl _ 0 [] rfl (World.ownsRow_nil _ _ _ _) ((Below.refl w4.heap.size w4).alloc (Nat.le_refl _) _) (by simp) _ 1 _ [.string (strOf d)] rfl (one_cell _ _ _) (one_str _) (by unfold maxLen; omega) (by omega) ?_)
      intro v7 w7 hown7 hbel7
      obtain ⟨A7, c7, rfl, hc7, hm7, hr7⟩ := owns_form hown7
      have hG3 := HLT4.out
      have hG2 := HLT.out
      have hU7 := HU4.out.below hbel7
      have hB7 := bel HB4.out hbel7
      have hP7 := HP4.out.below hbel7
      have HP8 : Hid (PX (w7.setCell ⟨gu, 8, none⟩ (.slice A7 1 c7)) w2.heap.size (strOf d) (strOf ho) (.slice A0 n c0)) := (heap_setCell_other w7 ⟨gu, 8, none⟩ w2.heap.size (.slice A7 1 c7) (show w2.heap.size ≠ gu by omega)).trans hP7
      have hs7 : w4.heap.size ≤ w7.heap.size := hbel7.size
      clear hcell8 hfro8 p0 p1 p2
      obtain ⟨hcell8, hfro8⟩ := hU7.cell8
      have HOW0 : Hid ((w7.setCell ⟨gu, 8, none⟩ (.slice A7 1 c7)).ownsRow w4.heap.size 9 1 (.slice A7 1 c7) 1 (((pre d).map strOf).map Value.string)) := by show World.ownsRow _ _ _ _ _ _ _; rw [HPRE.out]; exact owns_set hown7 (by omega)
      have HU0 := hid (hU7.path (.slice A7 1 c7))
      have HB0 := hid (hB7.setCell (p := ⟨gu, 8, none⟩) (by show _ ≤ gu; omega) (.slice A7 1 c7))
      have HS0 : Hid (w4.heap.size ≤ (w7.setCell ⟨gu, 8, none⟩ (.slice A7 1 c7)).heap.size) := by show _ ≤ _; simpa using hs7
      have HPL : Hid ((pre d).length = 1) := by show _ = _; rw [HPRE.out]; rfl
      clear hown7 hbel7 hr7 hU7 hB7 hP7 hG2 hG3 hm7 hc7 hs7 HPRE HU4 HB4 HP4 q0 q0' hD
      go_upto_region 7 with (fail)
      clear hcell8 hfro8
      obtain ⟨p0, p1, p2⟩ := HP8.out.facts
      clear p0 p1
      go_wp2
      go_loopw [8, 33] (fun _ vk wr => ∃ (k m : Nat) (A : Option Addr) (c : Nat), k ≤ n ∧ m = 1 + k ∧ vk = .int .i64 (k : Int) ∧ Hid (wr.ownsRow w4.heap.size 9 1 (.slice A m c) m (((pre d ++ (l.take k).map seg).map strOf).map Value.string)) ∧ Hid (Bx wr gu (fcells ho (.slice A m c))) ∧ Hid (Below w2.heap.size w2 wr) ∧ w4.heap.size ≤ wr.heap.size) (fun _ vk _ => n - (intOf vk).toNat)
      case atStart => exact ⟨0, 1, _, _, Nat.zero_le _, rfl, rfl, (by show World.ownsRow _ _ _ _ _ _ _; rw [List.take_zero, List.map_nil, List.append_nil]; exact HOW0.out), HU0.out, HB0.out, HS0.out⟩
      case round =>
        clear HOW0 HU0 HB0 HS0
        obtain ⟨k, m, A, c, hk, hmk, rfl, HOW, HU, HB, hsz⟩ := hrel
        have HSZ := hid hsz
        have HMK := hid hmk
        have hm9 : m ≤ 900002 := by omega
        clear hmk
        have HRr := hid (HR0.out.below HB.out)
        by_cases hlt : k < n
        · obtain ⟨gr, off, rfl, hg, hc⟩ := cell_at HRr.out k hlt HN.out.symm
          obtain ⟨x, hxd⟩ : ∃ x, x = l[k]'(by rw [← HN.out]; exact hlt) := ⟨_, rfl⟩
          rw [← hxd] at hc
          have hxs : x.length ≤ 900000 := by rw [hxd]; exact HXL.out _ (List.getElem_mem (l := l) (n := k) (by rw [← HN.out]; exact hlt))
          obtain ⟨sx, hsx⟩ : ∃ sx, sx = strOf (seg x) := ⟨_, rfl⟩
          have HSG : Hid (∀ w : World, Calls Tryz.prog 14 #[.string (strOf x)] w fun e w' => e = .returned (.string sx) ∧ Below w.heap.size w w') := fun w => by rw [hsx]; exact segment_any (strOf x) w (by rw [size_strOf]; omega)
          obtain ⟨R, hRd⟩ : ∃ R, R = ((pre d ++ (l.take k).map seg).map strOf).map Value.string := ⟨_, rfl⟩
          rw [← hRd] at HOW
          have HR2 : Hid (((pre d ++ (l.take (k + 1)).map seg).map strOf).map Value.string = R ++ [Value.string sx]) := by
            show _ = _
            rw [take_snoc l k (by rw [← HN.out]; exact hlt), ← hxd, hRd, hsx]
            simp only [List.map_append, List.map_cons, List.map_nil, List.append_assoc]
          clear hxd hxs hsx hRd HRr
          go_upto_region 10 with (fail)
          clear hc hg
          refine wp_region_rel_tail (by kernel_rfl) 5 [is (.pointer (some ⟨gu, 8, none⟩)), is (.slice A m c), is (.string (strOf x)), is (.string sx), row 1 [.string sx]] [[], [0], [], [2], [2, 3], [0, 1, 2, 3, 4]] (by kernel_rfl) ?_ ?_
          · refine ⟨?_, ?_, ?_, ?_, ?_, trivial⟩
            · intro t wq hbq hh K hK
              clear hh
              simp only [filled, filledN, upd, Have, is, any, row, pick, Act.put, List.setIfInBounds_toArray, List.set_cons_zero, List.set_cons_succ, Nat.reduceAdd, Nat.reduceEqDiff, reduceIte] at hK ⊢
              go_simp
              exact hK _ _ (Below.refl _ _) rfl
            · intro t wq hbq hh K hK
              have e0 := hh.1
              simp only [pick] at e0
              replace e0 : t 0 = (.pointer (some ⟨gu, 8, none⟩)) := e0
              clear hh
              simp only [filled, filledN, upd, Have, is, any, row, pick, Act.put, List.setIfInBounds_toArray, List.set_cons_zero, List.set_cons_succ, Nat.reduceAdd, Nat.reduceEqDiff, reduceIte] at hK ⊢
              simp only [e0] at hK ⊢
              have hc8 := (HU.out.below hbq).cell8.1
              go_simp
              exact hK _ _ (Below.refl _ _) rfl
            · intro t wq hbq hh K hK
              clear hh
              simp only [filled, filledN, upd, Have, is, any, row, pick, Act.put, List.setIfInBounds_toArray, List.set_cons_zero, List.set_cons_succ, Nat.reduceAdd, Nat.reduceEqDiff, reduceIte] at hK ⊢
              go_simp
              exact hK _ _ (Below.refl _ _) rfl
            · intro t wq hbq hh K hK
              have e2 := hh.1
              simp only [pick] at e2
              replace e2 : t 2 = (.string (strOf x)) := e2
              clear hh
              simp only [filled, filledN, upd, Have, is, any, row, pick, Act.put, List.setIfInBounds_toArray, List.set_cons_zero, List.set_cons_succ, Nat.reduceAdd, Nat.reduceEqDiff, reduceIte] at hK ⊢
              simp only [e2] at hK ⊢
              go_simp
              refine (HSG.out _).mono ?_
              rintro e w9 ⟨rfl, hb9⟩
              exact hK _ _ hb9 rfl
            · intro t wq hbq hh K hK
              have e3 := hh.2.1
              simp only [pick] at e3
              replace e3 : t 3 = (.string sx) := e3
              clear hh
              simp only [filled, filledN, upd, Have, is, any, row, pick, Act.put, List.setIfInBounds_toArray, List.set_cons_zero, List.set_cons_succ, Nat.reduceAdd, Nat.reduceEqDiff, reduceIte] at hK ⊢
              simp only [e3] at hK ⊢
              go_simp
              exact hK _ _ ((Below.refl _ _).alloc (Nat.le_refl _) _) ⟨_, _, rfl, Nat.le_refl _, by decide, one_cell _ _ _⟩
          · intro t wq hbq hh
            have f1 := have_get hh 1 (by decide)
            simp only [pick] at f1
            replace f1 : t 1 = (.slice A m c) := f1
            have f4 := have_get hh 4 (by decide)
            simp only [pick] at f4
            clear hh
            simp only [filled, filledN, upd, Have, is, any, row, pick, Act.put, List.setIfInBounds_toArray, List.set_cons_zero, List.set_cons_succ, Nat.reduceAdd, Nat.reduceEqDiff, reduceIte]
            obtain ⟨A4, c4, f4, hc4, hm4, hr4⟩ := f4
            simp only [f1, f4]
            have hownq := owns_below HOW.out hbq
            have HUq := hid (HU.out.below hbq)
            have HBq := hid (bel HB.out hbq)
            have hszq : w4.heap.size ≤ wq.heap.size := Nat.le_trans hsz hbq.size
            have hrefl : Below w4.heap.size wq wq := Below.refl _ _
            refine wpList_app_any rfl _ _ 23 rfl w4.heap.size 9 i0 (.string ByteArray.empty) 16 Tryz.underlying23 hi hz0 hz1 hz2 rfl _ m R rfl hownq hrefl hszq A4 1 c4 [.string sx] rfl hr4 (one_str _) (by unfold maxLen; omega) (by omega) ?_
            intro v7 w7 hown7 hbel7
            obtain ⟨A7, c7, rfl, hc7, hm7, hr7⟩ := owns_form hown7
            have hG2 := HLT.out
            have hG3 := HLT4.out
            have hU7 := HUq.out.under hbel7 (by omega)
            have hB7 : Below w2.heap.size w2 w7 := HBq.out.trans (hbel7.mono (by omega))
            have hs7 : w4.heap.size ≤ w7.heap.size := Nat.le_trans hszq hbel7.size
            obtain ⟨hcell8, hfro8⟩ := hU7.cell8
            have HOW8 : Hid ((w7.setCell ⟨gu, 8, none⟩ (.slice A7 (m + 1) c7)).ownsRow w4.heap.size 9 1 (.slice A7 (m + 1) c7) (m + 1) (((pre d ++ (l.take (k + 1)).map seg).map strOf).map Value.string)) := by show World.ownsRow _ _ _ _ _ _ _; rw [HR2.out]; exact owns_set hown7 (by omega)
            have HU8 := hid (hU7.path (.slice A7 (m + 1) c7))
            have HB8 := hid (hB7.setCell (p := ⟨gu, 8, none⟩) (by show _ ≤ gu; omega) (.slice A7 (m + 1) c7))
            have hs8 : w4.heap.size ≤ (w7.setCell ⟨gu, 8, none⟩ (.slice A7 (m + 1) c7)).heap.size := by simpa using hs7
            clear hown7 hbel7 hr7 hU7 hB7 hownq hrefl hszq hG2 hG3 hm7 hc7 hs7
            go_wp2
            go_roundw
            case rel => exact ⟨k + 1, m + 1, A7, c7, by omega, by have := HMK.out; omega, by go_num, HOW8, HU8, HB8, hs8⟩
            case measure => simp [intOf]; omega
        · obtain rfl : k = n := by omega
          have HEQ : Hid ((l.take k).map seg = l.map seg) := by show _ = _; rw [List.take_of_length_le (by rw [HN.out]; exact Nat.le_refl _)]
          have HXr := hid (HX2.out.below HB.out)
          obtain ⟨d0, d1, d2, d3, d4, d5, d6, d7, d8, d9, d10, d11, d12⟩ := HU.out.facts
          go_wp2_with (refine store_cs HXr.out (fcells ho (.slice A m c)) rfl rfl (one_f _ _ _ _) (.tmp 2) (.tmp 45) rfl rfl rfl rfl ?_)
          try simp only [Exit.inBlock, Exit.then]
          have how := HOW.out
          rw [HEQ.out] at how
          have hG : w.heap.size < w4.heap.size := by have h1 := HX2.out.lt; have h2 := HLT.out; have h3 := HLT4.out; omega
          exact bodyPost_ret (w := World.setRow wr w.heap.size (fcells ho (.slice A m c))) (res rfl (HXr.out.row _) rfl (.int .i64 0) _ rfl rfl) rfl (ansf_some (hst := ho) rfl (below_row (bel HB2.out HB.out) (Nat.le_refl _) _) (owns_base (owns_row how hG _) (by omega)))
end Go.Proofs.YtleecmapaihhmaaGreatDoor.WinU
namespace Go.Proofs.YtleecmapaihhmaaGreatDoor.WinS
open Go.RowKit Go.Proofs.YtleecmapaihhmaaGreatDoor.Base Go.Proofs.YtleecmapaihhmaaGreatDoor.Base2 Go.Proofs.YtleecmapaihhmaaGreatDoor.Base3 Go.Proofs.YtleecmapaihhmaaGreatDoor.Regs Go.Proofs.YtleecmapaihhmaaGreatDoor.SlsP Go.Proofs.YtleecmapaihhmaaGreatDoor.PosQ Go.Proofs.YtleecmapaihhmaaGreatDoor.Sls Go.Proofs.YtleecmapaihhmaaGreatDoor.PosA Go.Proofs.YtleecmapaihhmaaGreatDoor.WinP

def turn (f t c : UInt8) : UInt8 := if c = f then t else c
theorem turn_bs (L : List UInt8) : L.map (turn 47 92) = L.map bs := rfl
theorem turn_fs (L : List UInt8) : L.map (turn 92 47) = L.map fs := rfl
theorem one_byte (w : World) (x : Value) (T : TypeId) : Rds (w.alloc (.cells #[x] T)) (some ⟨w.heap.size, 0, none⟩) 1 [x] :=
  Rds.of_spot rfl (by simp) (fun j hj => by
    simp at hj
    subst hj
    rw [Nat.zero_add, World.cell?_alloc_mark]
    rfl)
theorem one_u8 (z : Int) : ∀ u ∈ [Value.int .u8 z], u.oneCell' = true := by
  intro u hu
  simp at hu
  subst hu
  rfl
theorem snoc_cells (X : List UInt8) (c : UInt8) : bcells (X ++ [c]) = bcells X ++ [.int .u8 (c.toNat : Int)] := by rw [bcells_append]; rfl
set_option linter.unusedSimpArgs false in
set_option maxRecDepth 100000 in
set_option maxHeartbeats 8000000 in
theorem slashes_any (s : ByteArray) (f t : UInt8) (w : World) (hs : s.size ≤ 900000) :
    Calls Tryz.prog 11 #[.string s, .int .u8 (f.toNat : Int), .int .u8 (t.toNat : Int)] w fun e w' => e = .returned (.string (strOf (s.data.toList.map (turn f t)))) ∧ Below w.heap.size w w' := by
  have hl : s.data.toList.length = s.size := Array.length_toList
  have HL := hid hl
  have HS := hid hs
  obtain ⟨i0, hi, hz0, hz1, hz2⟩ := info_parts info_u8
  clear hl hs
  go_enter Tryz.func11, Tryz.ntmps11
  go_wp2
  go_loopw [7, 8, 9, 12] (fun vo _ _ vk wr => ∃ k : Nat, k ≤ s.size ∧ vk = .int .i64 (k : Int) ∧ Hid (wr.ownsRow w.heap.size 5 1 vo k (bcells ((s.data.toList.take k).map (turn f t)))) ∧ Hid (Below w.heap.size w wr)) (fun _ _ _ vk _ => s.size - (intOf vk).toNat)
  case atStart => exact ⟨0, Nat.zero_le _, rfl, World.ownsRow_nil _ _ _ _, Below.refl _ _⟩
  case round =>
    obtain ⟨k, hk, rfl, HOW, HB⟩ := hrel
    have hss := HS.out
    by_cases hlt : k < s.size
    · obtain ⟨c, hc⟩ : ∃ c, s[k] = c := ⟨_, rfl⟩
      have hkl : k < s.data.toList.length := by rw [HL.out]; exact hlt
      have hcl : s.data.toList[k] = c := hc
      obtain ⟨X, hX⟩ : ∃ X, X = (s.data.toList.take k).map (turn f t) := ⟨_, rfl⟩
      rw [← hX] at HOW
      have HX2 : Hid ((s.data.toList.take (k + 1)).map (turn f t) = X ++ [turn f t c]) := by
        show _ = _
        rw [take_snoc _ k hkl, hcl, List.map_append, ← hX]
        rfl
      clear hX hkl hcl
      have hszr : w.heap.size ≤ wr.heap.size := HB.out.size
      obtain ⟨Ao, co, rfl, _, _, _⟩ := owns_form HOW.out
      by_cases hcf : c = f
      · have q0 : ((c.toNat : Int) == (f.toNat : Int)) = true := by rw [hcf]; simp
        have HT : Hid (turn f t c = t) := by show _ = _; unfold turn; rw [if_pos hcf]
        clear hcf
        go_wp2_with (at_builtin; refine wpList_app_any rfl _ _ 44 rfl w.heap.size 5 i0 (.int .u8 0) 1 Tryz.underlying44 hi hz0 hz1 hz2 rfl _ k (bcells X) rfl (owns_below HOW.out ((Below.refl _ wr).alloc (Nat.le_refl _) _)) (HB.out.alloc hszr _) (by simp; omega) _ 1 _ [.int .u8 (t.toNat : Int)] rfl (one_byte _ _ _) (one_u8 _) (by unfold maxLen; omega) (by omega) ?_)
        intro v' w2 hown2 hbel2
        have HOW2 : Hid (w2.ownsRow w.heap.size 5 1 v' (k + 1) (bcells ((s.data.toList.take (k + 1)).map (turn f t)))) := by show World.ownsRow _ _ _ _ _ _ _; rw [HX2.out, HT.out, snoc_cells]; exact hown2
        have HB2 := hid hbel2
        clear hown2 hbel2
        go_wp2
        go_roundw
        case rel => exact ⟨k + 1, by omega, by go_num, HOW2, HB2⟩
        case measure => simp [intOf]; omega
      · have q0 : ((c.toNat : Int) == (f.toNat : Int)) = false := ne_u8 hcf
        have HT : Hid (turn f t c = c) := by show _ = _; unfold turn; rw [if_neg hcf]
        clear hcf
        go_wp2_with (at_builtin; refine wpList_app_any rfl _ _ 44 rfl w.heap.size 5 i0 (.int .u8 0) 1 Tryz.underlying44 hi hz0 hz1 hz2 rfl _ k (bcells X) rfl (owns_below HOW.out ((Below.refl _ wr).alloc (Nat.le_refl _) _)) (HB.out.alloc hszr _) (by simp; omega) _ 1 _ [.int .u8 (c.toNat : Int)] rfl (one_byte _ _ _) (one_u8 _) (by unfold maxLen; omega) (by omega) ?_)
        intro v' w2 hown2 hbel2
        have HOW2 : Hid (w2.ownsRow w.heap.size 5 1 v' (k + 1) (bcells ((s.data.toList.take (k + 1)).map (turn f t)))) := by show World.ownsRow _ _ _ _ _ _ _; rw [HX2.out, HT.out, snoc_cells]; exact hown2
        have HB2 := hid hbel2
        clear hown2 hbel2
        go_wp2
        go_roundw
        case rel => exact ⟨k + 1, by omega, by go_num, HOW2, HB2⟩
        case measure => simp [intOf]; omega
    · obtain rfl : k = s.size := by omega
      have HT : Hid (s.data.toList.take s.size = s.data.toList) := by show _ = _; rw [List.take_of_length_le (by rw [HL.out]; exact Nat.le_refl _)]
      have how := HOW.out
      rw [HT.out] at how
      obtain ⟨Ao, co, rfl, _, _, hro⟩ := owns_form how
      have hst := run_string_of 44 9 5 Tryz.underlying44 Tryz.underlying5 Tryz.underlying9 _ co hro
      clear how hro
      go_wp2
      go_ret
      exact ⟨rfl, HB.out⟩
end Go.Proofs.YtleecmapaihhmaaGreatDoor.WinS
namespace Go.Proofs.YtleecmapaihhmaaGreatDoor.WinW
open Go.RowKit Go.Proofs.YtleecmapaihhmaaGreatDoor.Base Go.Proofs.YtleecmapaihhmaaGreatDoor.Base2 Go.Proofs.YtleecmapaihhmaaGreatDoor.SlsP Go.Proofs.YtleecmapaihhmaaGreatDoor.PosQ Go.Proofs.YtleecmapaihhmaaGreatDoor.PosA Go.Proofs.YtleecmapaihhmaaGreatDoor.PosU Go.Proofs.YtleecmapaihhmaaGreatDoor.WinP Go.Proofs.YtleecmapaihhmaaGreatDoor.WinU Go.Proofs.YtleecmapaihhmaaGreatDoor.WinS
open Go.Proofs.YtleecmapaihhmaaGreatDoor.WinC (Env)
open Go.Proofs.YtleecmapaihhmaaGreatDoor.PosS (seg)
open Go.Proofs.YtleecmapaihhmaaGreatDoor.Spl (Max)

/-- A path's segments, by their slice. -/
structure Pt (w : World) (l : List (List UInt8)) (A : Option Addr) (n c : Nat) : Prop where
  rds : Rds w A n ((l.map strOf).map Value.string)
  nc : n ≤ c
  cm : c ≤ maxLen
theorem Pt.below {w w' : World} {l : List (List UInt8)} {A : Option Addr} {n c : Nat} (h : Pt w l A n c) (hb : Below w.heap.size w w') : Pt w' l A n c := ⟨h.rds.below hb, h.nc, h.cm⟩
theorem Pt.of {w : World} {l : List (List UInt8)} {B n : Nat} {A : Option Addr} {c : Nat} (h : w.ownsRow B 9 1 (.slice A n c) n ((l.map strOf).map Value.string)) : Pt w l A n c := by
  obtain ⟨A', c', e, h1, h2, h3⟩ := owns_form h
  cases e
  exact ⟨h3, h1, h2⟩
theorem Pt.nil (w : World) : Pt w [] none 0 0 := ⟨Rds.nil _, Nat.le_refl _, Nat.zero_le _⟩
theorem refSame_f (h : List UInt8) (l : List (List UInt8)) (A A2 : Option Addr) (n c n2 c2 : Nat) (w : World) (hP : Pt w l A n c) (hQ : Pt w l A2 n2 c2) : Calls Tryz.prog 10 #[.agg #[.string ⟨#[102, 105, 108, 101]⟩, .string ⟨#[]⟩, .string ⟨#[]⟩, .string (strOf h), .bool true, .int .i64 (-1), .bool false, .string ⟨#[]⟩, .slice A n c, .bool false, .bool false, .string ⟨#[]⟩, .string ⟨#[]⟩], .agg #[.string ⟨#[102, 105, 108, 101]⟩, .string ⟨#[]⟩, .string ⟨#[]⟩, .string (strOf h), .bool true, .int .i64 (-1), .bool false, .string ⟨#[]⟩, .slice A2 n2 c2, .bool false, .bool false, .string ⟨#[]⟩, .string ⟨#[]⟩]] w fun e w' => e = .returned (.bool true) ∧ Below w.heap.size w w' := by
  have hh := UrlG.refSame_any ⟨#[102, 105, 108, 101]⟩ ⟨#[]⟩ ⟨#[]⟩ (strOf h) true (-1) false ⟨#[]⟩ A n c (l.map strOf) false false ⟨#[]⟩ ⟨#[]⟩ ⟨#[102, 105, 108, 101]⟩ ⟨#[]⟩ ⟨#[]⟩ (strOf h) true (-1) false ⟨#[]⟩ A2 n2 c2 (l.map strOf) false false ⟨#[]⟩ ⟨#[]⟩ w hP.rds hP.nc hP.cm hQ.rds hQ.nc hQ.cm
  rw [decide_eq_true rfl] at hh
  exact hh
theorem refSame_z (w : World) : Calls Tryz.prog 10 #[.agg #[.string ⟨#[]⟩, .string ⟨#[]⟩, .string ⟨#[]⟩, .string ⟨#[]⟩, .bool false, .int .i64 0, .bool false, .string ⟨#[]⟩, .slice none 0 0, .bool false, .bool false, .string ⟨#[]⟩, .string ⟨#[]⟩], .agg #[.string ⟨#[]⟩, .string ⟨#[]⟩, .string ⟨#[]⟩, .string ⟨#[]⟩, .bool false, .int .i64 0, .bool false, .string ⟨#[]⟩, .slice none 0 0, .bool false, .bool false, .string ⟨#[]⟩, .string ⟨#[]⟩]] w fun e w' => e = .returned (.bool true) ∧ Below w.heap.size w w' := by
  have hh := UrlG.refSame_any ⟨#[]⟩ ⟨#[]⟩ ⟨#[]⟩ ⟨#[]⟩ false 0 false ⟨#[]⟩ none 0 0 [] false false ⟨#[]⟩ ⟨#[]⟩ ⟨#[]⟩ ⟨#[]⟩ ⟨#[]⟩ ⟨#[]⟩ false 0 false ⟨#[]⟩ none 0 0 [] false false ⟨#[]⟩ ⟨#[]⟩ w (Rds.nil _) (Nat.le_refl _) (Nat.zero_le _) (Rds.nil _) (Nat.le_refl _) (Nat.zero_le _)
  rw [decide_eq_true rfl] at hh
  exact hh
/-- What is written of a file's URL. -/
def printF (h : List UInt8) (l : List (List UInt8)) : List UInt8 := UrlP.printL ⟨#[102, 105, 108, 101]⟩ ⟨#[]⟩ ⟨#[]⟩ (strOf h) true (-1) false ⟨#[]⟩ (l.map strOf) false false ⟨#[]⟩ ⟨#[]⟩
theorem print_f (h : List UInt8) (hh : h.length ≤ 1000000) (l : List (List UInt8)) (A : Option Addr) (n c : Nat) (w : World) (hP : Pt w l A n c) (hl : (UrlP.pth (l.map strOf)).length ≤ 1073741824) (E : Env w) : Calls Tryz.prog 12 #[.agg #[.string ⟨#[102, 105, 108, 101]⟩, .string ⟨#[]⟩, .string ⟨#[]⟩, .string (strOf h), .bool true, .int .i64 (-1), .bool false, .string ⟨#[]⟩, .slice A n c, .bool false, .bool false, .string ⟨#[]⟩, .string ⟨#[]⟩]] w fun e w' => e = .returned (.string (strOf (printF h l))) ∧ Below w.heap.size w w' :=
  UrlC.print_any ⟨#[102, 105, 108, 101]⟩ ⟨#[]⟩ ⟨#[]⟩ (strOf h) true (-1) false ⟨#[]⟩ A n c (l.map strOf) false false ⟨#[]⟩ ⟨#[]⟩ w hP.rds hP.nc hP.cm (by decide) (by decide) (by decide) (by rw [size_strOf]; omega) (by decide) (by decide) (by decide) (by decide) (by decide) hl E.pow
theorem Bx.zfacts {w : World} {g : Nat} (hB : Bx w g zcells) : w.cell? ⟨g, 0, none⟩ = some (.string ⟨#[]⟩) ∧ w.cell? ⟨g, 1, none⟩ = some (.string ⟨#[]⟩) ∧ w.cell? ⟨g, 2, none⟩ = some (.string ⟨#[]⟩) ∧ w.cell? ⟨g, 3, none⟩ = some (.string ⟨#[]⟩) ∧ w.cell? ⟨g, 4, none⟩ = some (.bool false) ∧ w.cell? ⟨g, 5, none⟩ = some (.int .i64 0) ∧ w.cell? ⟨g, 6, none⟩ = some (.bool false) ∧ w.cell? ⟨g, 7, none⟩ = some (.string ⟨#[]⟩) ∧ w.cell? ⟨g, 8, none⟩ = some (.slice none 0 0) ∧ w.cell? ⟨g, 9, none⟩ = some (.bool false) ∧ w.cell? ⟨g, 10, none⟩ = some (.bool false) ∧ w.cell? ⟨g, 11, none⟩ = some (.string ⟨#[]⟩) ∧ w.cell? ⟨g, 12, none⟩ = some (.string ⟨#[]⟩) :=
  ⟨cell_of_row w g 0 _ _ _ hB, cell_of_row w g 1 _ _ _ hB, cell_of_row w g 2 _ _ _ hB, cell_of_row w g 3 _ _ _ hB, cell_of_row w g 4 _ _ _ hB, cell_of_row w g 5 _ _ _ hB, cell_of_row w g 6 _ _ _ hB, cell_of_row w g 7 _ _ _ hB, cell_of_row w g 8 _ _ _ hB, cell_of_row w g 9 _ _ _ hB, cell_of_row w g 10 _ _ _ hB, cell_of_row w g 11 _ _ _ hB, cell_of_row w g 12 _ _ _ hB⟩
def segs (v : W3) : List (List UInt8) := pre v.1 ++ v.2.2.map seg
theorem url_some {T : ByteArray} {v : W3} (ho : wapart T.data.toList = some v) (hs : T.size ≤ 900000) (w : World) (E : Env w) : Calls Tryz.prog 6 #[.string T] w fun e w' => ∃ A n c, e = .returned (.tuple #[.agg #[.string ⟨#[102, 105, 108, 101]⟩, .string ⟨#[]⟩, .string ⟨#[]⟩, .string (strOf v.2.1), .bool true, .int .i64 (-1), .bool false, .string ⟨#[]⟩, .slice A n c, .bool false, .bool false, .string ⟨#[]⟩, .string ⟨#[]⟩], .int .i64 0]) ∧ Pt w' (segs v) A n c ∧ Below w.heap.size w w' :=
  (url_any T w hs E).mono fun e w' h => by
    rw [ho] at h
    obtain ⟨hb, A, n, c, h1, h2⟩ := h
    exact ⟨A, n, c, h1, Pt.of h2, hb⟩
theorem url_none {T : ByteArray} (ho : wapart T.data.toList = none) (hs : T.size ≤ 900000) (w : World) (E : Env w) : Calls Tryz.prog 6 #[.string T] w fun e w' => e = .returned (.tuple #[.agg #[.string ⟨#[]⟩, .string ⟨#[]⟩, .string ⟨#[]⟩, .string ⟨#[]⟩, .bool false, .int .i64 0, .bool false, .string ⟨#[]⟩, .slice none 0 0, .bool false, .bool false, .string ⟨#[]⟩, .string ⟨#[]⟩], .int .i64 2]) ∧ Below w.heap.size w w' :=
  (url_any T w hs E).mono fun e w' h => by
    rw [ho] at h
    exact ⟨h.2, h.1⟩
set_option linter.unusedSimpArgs false in
set_option maxRecDepth 100000 in
set_option maxHeartbeats 8000000 in
theorem awake_any (w : World) (E : Env w) : Calls Tryz.prog 5 #[] w fun e w' => e = .returned (.bool true) ∧ Below w.heap.size w w' := by
  have hu : wapart [99, 58, 47, 97, 32, 98, 92, 100] = some ([99, 58], [], [[97, 32, 98], [100]]) := by decide +kernel
  have hsg : segs ([99, 58], [], [[97, 32, 98], [100]]) = [[99, 58], [97, 37, 50, 48, 98], [100]] := by decide +kernel
  have HU : Hid (∀ w : World, Env w → Calls Tryz.prog 6 #[.string ⟨#[99, 58, 47, 97, 32, 98, 92, 100]⟩] w fun e w' => ∃ A n c, e = .returned (.tuple #[.agg #[.string ⟨#[102, 105, 108, 101]⟩, .string ⟨#[]⟩, .string ⟨#[]⟩, .string (strOf []), .bool true, .int .i64 (-1), .bool false, .string ⟨#[]⟩, .slice A n c, .bool false, .bool false, .string ⟨#[]⟩, .string ⟨#[]⟩], .int .i64 0]) ∧ Pt w' [[99, 58], [97, 37, 50, 48, 98], [100]] A n c ∧ Below w.heap.size w w') := fun w E => by
    have h := url_some (T := ⟨#[99, 58, 47, 97, 32, 98, 92, 100]⟩) hu (by decide) w E
    rw [hsg] at h
    exact h
  obtain ⟨pr, hpr⟩ : ∃ pr, pr = printF [] [[99, 58], [97, 37, 50, 48, 98], [100]] := ⟨_, rfl⟩
  have HPR : Hid (∀ (A : Option Addr) (n c : Nat) (w : World), Pt w [[99, 58], [97, 37, 50, 48, 98], [100]] A n c → Env w → Calls Tryz.prog 12 #[.agg #[.string ⟨#[102, 105, 108, 101]⟩, .string ⟨#[]⟩, .string ⟨#[]⟩, .string (strOf []), .bool true, .int .i64 (-1), .bool false, .string ⟨#[]⟩, .slice A n c, .bool false, .bool false, .string ⟨#[]⟩, .string ⟨#[]⟩]] w fun e w' => e = .returned (.string (strOf pr)) ∧ Below w.heap.size w w') := fun A n c w hP E => by rw [hpr]; exact print_f [] (by decide) _ A n c w hP (by decide +kernel) E
  have hq : ((strOf pr).toList == [102, 105, 108, 101, 58, 47, 47, 47, 99, 58, 47, 97, 37, 50, 48, 98, 47, 100]) = true := by rw [tl, hpr]; decide +kernel
  have HF : Hid (∀ w : World, Env w → Calls Tryz.prog 8 #[.string ⟨#[67, 58, 92]⟩] w fun e w' => e = .returned (.bool true) ∧ Below w.heap.size w w') := fun w E => by
    have hh := WinC.fine_any ⟨#[67, 58, 92]⟩ w (by decide) E
    rw [show wfine (⟨#[67, 58, 92]⟩ : ByteArray).data.toList = true by decide +kernel] at hh
    exact hh
  have HE := hid E
  clear hu hsg hpr E
  go_enter Tryz.func5, Tryz.ntmps5
  go_wp2_with fail
  refine (HU.out _ HE.out).mono ?_
  rintro e w1 ⟨A1, n1, c1, rfl, hpt, hb⟩
  have HB1 := hid hb
  have E_1 := hid (HE.out.below hb)
  clear hb
  have T1 := hid hpt
  clear hpt
  go_upto_region 2 with (fail)
  generalize hwa : World.alloc _ _ = v2
  have hxa : Bx v2 w1.heap.size (fcells [] (.slice A1 n1 c1)) := by rw [← hwa]; exact heap_alloc_new _ _
  have hb : Below w1.heap.size w1 v2 := by rw [← hwa]; exact (Below.refl _ _).alloc (Nat.le_refl _) _
  have X1 := hid hxa
  clear hwa hxa
  have HB2 := hid (bel HB1.out hb)
  have E_2 := hid (E_1.out.below hb)
  have T1_2 := hid (T1.out.below hb)
  clear hb
  obtain ⟨d0, d1, d2, d3, d4, d5, d6, d7, d8, d9, d10, d11, d12⟩ := X1.out.facts
  go_wp2_with fail
  clear d0 d1 d2 d3 d4 d5 d6 d7 d8 d9 d10 d11 d12
  refine (HPR.out _ _ _ _ T1_2.out E_2.out).mono ?_
  rintro e w3 ⟨rfl, hb⟩
  have HB3 := hid (bel HB2.out hb)
  have E_3 := hid (E_2.out.below hb)
  have T1_3 := hid (T1_2.out.below hb)
  have X1_3 := hid (X1.out.below hb)
  clear hb
  go_wp2_with fail
  refine (HF.out _ E_3.out).mono ?_
  rintro e w4 ⟨rfl, hb⟩
  have HB4 := hid (bel HB3.out hb)
  have E_4 := hid (E_3.out.below hb)
  have T1_4 := hid (T1_3.out.below hb)
  have X1_4 := hid (X1_3.out.below hb)
  clear hb
  go_wp2
  go_ret
  exact ⟨by first | rfl | trivial, HB4.out⟩
end Go.Proofs.YtleecmapaihhmaaGreatDoor.WinW
