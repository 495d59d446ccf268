/- The law StoreOrder, walked. -/
import Derived.Test.YtgamccijegollaaGreatDoorSOAAQ
import Derived.Test.YtgamccijegollaaGreatDoorSOAAN
import Derived.Test.YtgamccijegollaaGreatDoorSOAAP
set_option linter.unusedSimpArgs false
set_option linter.unusedVariables false
namespace Go.Proofs.YtgamccijegollaaGreatDoor.Laws
open Go.RowKit Go.Proofs.YtgamccijegollaaGreatDoor.Base Go.Proofs.YtgamccijegollaaGreatDoor.Dp Go.Proofs.YtgamccijegollaaGreatDoor.L6 Go.Proofs.YtgamccijegollaaGreatDoor.uw Go.Proofs.YtgamccijegollaaGreatDoor.xH Go.Proofs.YtgamccijegollaaGreatDoor.Kq Go.Proofs.YtgamccijegollaaGreatDoor.mW Go.Proofs.YtgamccijegollaaGreatDoor.wS Go.Proofs.YtgamccijegollaaGreatDoor.tK Go.Proofs.YtgamccijegollaaGreatDoor.UG Go.Proofs.YtgamccijegollaaGreatDoor.ES Go.Proofs.YtgamccijegollaaGreatDoor.atQ Go.Proofs.YtgamccijegollaaGreatDoor.StoT
open Go.Proofs.YtgamccijegollaaGreatDoor.jQ (oI)
open Go.Proofs.YtgamccijegollaaGreatDoor.pO (Max)
open Go.Proofs.YtgamccijegollaaGreatDoor.vZ (rD)
open Go.Proofs.YtgamccijegollaaGreatDoor.aj6 (zC)
open Go.Proofs.YtgamccijegollaaGreatDoor.auU (us ajd)
open Go.Proofs.YtgamccijegollaaGreatDoor.atW (rv)
open Go.Proofs.YtgamccijegollaaGreatDoor.as9 (OB.load)
open Go.Proofs.YtgamccijegollaaGreatDoor.StoQ (oV of_u)
set_option linter.unusedSimpArgs false
set_option linter.unusedVariables false
theorem auZ {e : Int} (h0 : 0 ≤ e) (h1 : e ≤ 255) : Value.int .u8 (IntKind.u8.wrap e) = .int .u8 e := by
  rw [IntKind.wrap_u8]
  congr 1
  omega
set_option maxRecDepth 100000 in
set_option maxHeartbeats 8000000 in
theorem atY (A : Option Addr) (n cap : Nat) (l : List auT.O) (w : World) (h : auT.In w A n cap l) (hT : Tab.Pow w) (hL : oI w) (hM : Max w) (hU : rD w) : Calls Tryz.prog 8 #[.slice A n cap] w fun e w' => e = .returned (.bool true) ∧ Below w.heap.size w w' := by
  have HE := hid (⟨hT, hL, hM, hU⟩ : Env w)
  have JM : Hid (∀ w : World, Calls Tryz.prog 36 #[] w fun e w' => e = .returned (.bool true) ∧ Below w.heap.size w w') := fun w => StoW.UN w
  have HOR := hid h.ops
  have Ci : Hid (l.length = n) := h.ops.1
  have HBD := hid h.bnd
  clear hT hL hM hU h
  by_cases hn : n ≤ 20
  · have hni : ¬ (20 : Int) < (n : Int) := by omega
    have auA := hid hn
    obtain ⟨i0, hi, hz0, hz1, hz2⟩ := info_parts auU.aou
    clear hn
    go_enter Tryz.func8, Tryz.ntmps8
    go_wp2_with fail
    refine (JM.out _).mono ?_
    rintro e w1 ⟨rfl, hb⟩
    have HB1 := hid hb
    clear hb
    go_wp2_with fail
    refine (apv.new_any 20 (by decide) (by decide) _).mono ?_
    rintro e w2 ⟨g, rfl, hS, hb⟩
    have HS2 := hid hS
    have HB2 := hid (bel HB1.out hb)
    have HW1 : Hid (w.heap.size ≤ w1.heap.size) := HB1.out.size
    have HW2 : Hid (w.heap.size ≤ w2.heap.size) := HB2.out.size
    clear hb hS HB1
    go_wp2
    go_loopw [5, 6, 7, 8, 9, 10, 11, 12, 27] (fun v5 _ _ _ _ _ _ _ vk wr => ∃ (k : Nat) (ls : List (Bc Int)), k ≤ n ∧ vk = .int .i64 (k : Int) ∧ Hid (ls.length ≤ k) ∧ Hid (IsS 136 139 (Value.int .i64) w1.heap.size g 20 ls wr) ∧ Hid (wr.ownsRow w2.heap.size 9 1 v5 ls.length (us ls)) ∧ Hid (w2.heap.size ≤ wr.heap.size) ∧ Hid (Below w.heap.size w wr)) (fun _ _ _ _ _ _ _ _ vk _ => n - (intOf vk).toNat)
    case atStart => exact ⟨0, [], Nat.zero_le _, rfl, Nat.le_refl _, HS2.out, World.ownsRow_nil _ _ _ _, Nat.le_refl _, HB2.out⟩
    case round =>
      obtain ⟨k, ls, hk, rfl, HLS, HS, HW, MC, HB⟩ := hrel
      by_cases hlt : k < n
      · have hkl : k < l.length := by rw [Ci.out]; exact hlt
        obtain ⟨b, off, rfl, hbb⟩ := HOR.out.spot (by omega)
        have jy := hid (HOR.out.below HB.out)
        obtain ⟨o, ho⟩ : ∃ o, o = l[k] := ⟨_, rfl⟩
        have hc4 := jy.out.four k hkl
        rw [← ho] at hc4
        have HC : Hid (b < wr.heap.size) := Nat.lt_of_lt_of_le hbb HB.out.size
        have HC4 : Hid (∀ wq, Below wr.heap.size wr wq → wq.cell? ⟨b, off + k * 4, none⟩ = some (.string (strOf o.c)) ∧ wq.cell? ⟨b, off + k * 4 + 1, none⟩ = some (.string (strOf o.d)) ∧ wq.cell? ⟨b, off + k * 4 + 2, none⟩ = some (.int .i64 o.p) ∧ wq.cell? ⟨b, off + k * 4 + 3, none⟩ = some (.int .i64 o.n)) := fun wq hq => ⟨(hq.cell (p := ⟨b, off + k * 4, none⟩) HC.out).trans hc4.1, (hq.cell (p := ⟨b, off + k * 4 + 1, none⟩) HC.out).trans hc4.2.1, (hq.cell (p := ⟨b, off + k * 4 + 2, none⟩) HC.out).trans hc4.2.2.1, (hq.cell (p := ⟨b, off + k * 4 + 3, none⟩) HC.out).trans hc4.2.2.2⟩
        have HFX : Hid (∀ wq, Below w.heap.size w wq → wq.cell? ⟨b, off + k * 4, none⟩ = some (.string (strOf o.c)) ∧ wq.cell? ⟨b, off + k * 4 + 1, none⟩ = some (.string (strOf o.d)) ∧ wq.cell? ⟨b, off + k * 4 + 2, none⟩ = some (.int .i64 o.p) ∧ wq.cell? ⟨b, off + k * 4 + 3, none⟩ = some (.int .i64 o.n)) := fun wq hq => by
          have q := (HOR.out.below hq).four k hkl
          rw [← ho] at q
          exact q
        have HBO := hid (HBD.out o (by rw [ho]; exact List.getElem_mem hkl))
        have hki : (k : Int) < (n : Int) := by omega
        have hki0 : (0 : Int) ≤ (k : Int) := by omega
        have HKN := hid hlt
        have zc : (strOf o.c).size = o.c.length := o9 _
        have zd : (strOf o.d).size = o.d.length := o9 _
        obtain ⟨x1, hx1⟩ : ∃ x, x = o.c.length := ⟨_, rfl⟩
        obtain ⟨x2, hx2⟩ : ∃ x, x = o.d.length := ⟨_, rfl⟩
        rw [← hx1] at zc
        rw [← hx2] at zd
        have HX : Hid (x1 = o.c.length ∧ x2 = o.d.length) := ⟨hx1, hx2⟩
        have hb1 : x1 ≤ 140737488351232 := by rw [hx1]; exact HBO.out.c
        have hb2 : x2 ≤ 140737488351232 := by rw [hx2]; exact HBO.out.d
        clear ho hc4 hx1 hx2 hkl hlt hk
        go_upto_region 8 with (fail)
        refine aV (by kernel_rfl) [is (.slice (some ⟨b, off, none⟩) n cap), is (.int .i64 (k : Int)), is (.pointer (some ⟨b, off + k * 4, none⟩)), is (.pointer (some ⟨b, off + k * 4, none⟩)), is (.string (strOf o.c)), is (.int .i64 (x1 : Int)), is (.slice (some ⟨b, off, none⟩) n cap), is (.int .i64 (k : Int)), is (.pointer (some ⟨b, off + k * 4, none⟩)), is (.pointer (some ⟨b, off + k * 4 + 1, none⟩)), is (.string (strOf o.d)), is (.int .i64 (x2 : Int)), is (.int .i64 ((x1 : Int) + (x2 : Int))), is (.bool (decide ((200 : Int) < (x1 : Int) + (x2 : Int))))] [[], [], [0, 1], [2], [3], [4], [], [], [6, 7], [8], [9], [10], [5, 11], [12]] (by kernel_rfl) ?_ ?_
        · refine ⟨?_, ?_, ?_, ?_, ?_, ?_, ?_, ?_, ?_, ?_, ?_, ?_, ?_, ?_, trivial⟩
          all_goals (intro t wq hbq hh K hK; simp only [filled, upd, Have, is, any, row, pick, Act.put, List.setIfInBounds_toArray, List.set_cons_zero, List.set_cons_succ, Nat.reduceAdd, Nat.reduceEqDiff, reduceIte, List.tail_cons, List.headD_cons] at hh hK ⊢)
          iterate 4
            · try simp only [hh] at hK ⊢
              clear hh
              go_simp
              exact hK _ _ blr rfl
          · have e3 := hh.1
            clear hh
            simp only [e3] at hK ⊢
            obtain ⟨q0, q1, q2, q3⟩ := HC4.out wq hbq
            go_simp
            exact hK _ _ blr rfl
          · have e4 := hh.1
            clear hh
            simp only [e4] at hK ⊢
            go_simp
            try rw [zc]
            exact hK _ _ blr rfl
          iterate 4
            · try simp only [hh] at hK ⊢
              clear hh
              go_simp
              exact hK _ _ blr rfl
          · have e9 := hh.1
            clear hh
            simp only [e9] at hK ⊢
            obtain ⟨q0, q1, q2, q3⟩ := HC4.out wq hbq
            go_simp
            exact hK _ _ blr rfl
          · have e10 := hh.1
            clear hh
            simp only [e10] at hK ⊢
            go_simp
            try rw [zd]
            exact hK _ _ blr rfl
          · try simp only [hh] at hK ⊢
            clear hh
            go_simp
            exact hK _ _ blr (iC (by omega) (by omega))
          · have e12 := hh.1
            clear hh
            simp only [e12] at hK ⊢
            go_simp
            first | exact hK _ _ blr rfl | exact hK _ _ blr (iC (by omega) (by omega))
        · intro t wq hbq hh
          have f13 := aB hh 13 (by decide)
          simp only [pick] at f13
          replace f13 : t 13 = (.bool (decide ((200 : Int) < (x1 : Int) + (x2 : Int)))) := f13
          clear hh
          simp only [filled, upd, Have, is, any, row, pick, Act.put, List.setIfInBounds_toArray, List.set_cons_zero, List.set_cons_succ, Nat.reduceAdd, Nat.reduceEqDiff, reduceIte]
          simp only [f13]
          have Et := hid (bel HB.out hbq)
          have HSq := hid (HS.out.below hbq)
          have HWq : Hid (wq.ownsRow w2.heap.size 9 1 _ ls.length (us ls)) := aP HW.out hbq
          have avf : Hid (w2.heap.size ≤ wq.heap.size) := Nat.le_trans MC.out hbq.size
          clear HB HS HW MC HC4 HC hbq zc zd
          generalize wq = w3 at Et HSq HWq avf ⊢
          by_cases hlen : 200 < x1 + x2
          · have hleni : (200 : Int) < (x1 : Int) + (x2 : Int) := by omega
            go_wp2
            go_ret
            exact ⟨rfl, Et.out⟩
          · have hleni : ¬ (200 : Int) < (x1 : Int) + (x2 : Int) := by omega
            have HLEN : Hid (o.c.length + o.d.length ≤ 200) := by show _ ≤ _; have := HX.out; omega
            clear hlen
            obtain ⟨q0, q1, q2, q3⟩ := HFX.out w3 Et.out
            have HLO := hid (auU.aah q0 q1 q2 q3)
            clear q0 q1 q2 q3
            have HRG := reg_o w1.heap.size g ls o k (by have := auA.out; have := HKN.out; omega) w3 HSq.out (by have := auA.out; have := HKN.out; have := HLS.out; omega) HLEN.out HBO.out.p (HE.out.below Et.out)
            rw [rv_fk k (by have := auA.out; have := HKN.out; omega)] at HRG
            have HRG := hid HRG
            have avq : (k : Int) ≤ 255 := by have := auA.out; have := HKN.out; omega
            go_wp2_with (refine fJ HLO.out (.tmp 48) rfl rfl rfl ?_)
            try rw [auZ (e := (k : Int)) hki0 avq]
            refine HRG.out.mono ?_
            rintro e w4 (⟨er, her, rfl, hb⟩ | ⟨T, hN, rfl, hS4, hb4, hk4⟩)
            · have HB4 := hid (bel Et.out hb)
              have HS4 := hid (HSq.out.below hb)
              have HW4 : Hid (w4.ownsRow w2.heap.size 9 1 _ ls.length (us ls)) := aP HWq.out hb
              have avd : Hid (w2.heap.size ≤ w4.heap.size) := Nat.le_trans avf.out hb.size
              clear hb Et HSq HWq avf HRG HLO avq
              go_wp2
              go_roundw
              case rel => exact ⟨k + 1, ls, by have := HKN.out; omega, by go_num, Nat.le_trans HLS.out (Nat.le_succ _), HS4.out, HW4.out, avd.out, HB4.out⟩
              case measure => have := HKN.out; simp [intOf]; omega
            · obtain ⟨u, auu, apx, hopq, hhq, hhf, hof⟩ := name_o hN
              have HTL : Hid (T.length ≤ 400) := avw hN HLEN.out HBO.out.p
              have HS4 := hid hS4
              have HB4 : Hid (Below w.heap.size w w4) := Et.out.trans (hb4.mono HW1.out)
              have HW4 : Hid (w4.ownsRow w2.heap.size 9 1 _ ls.length (us ls)) := hk4.owns HWq.out (by decide) (by decide)
              have avd : Hid (w2.heap.size ≤ w4.heap.size) := Nat.le_trans avf.out hb4.size
              have TB : Hid (∀ w : World, Env w → Calls Tryz.prog 16 #[.string (strOf T), .pointer none] w fun e w' => ∃ A' n' c', e = .returned (.tuple #[.agg #[.string (strOf u.au), .string (strOf u.usr), .string (strOf u.MX), .string (strOf u.hst), .bool u.hh, .int .i64 u.port, .bool u.opq, .string (strOf u.txt), .slice A' n' c', .bool u.hq, .bool u.hf, .string (strOf u.dY), .string (strOf u.fB)], .int .i64 0]) ∧ Pt w' u A' n' c' ∧ Below w.heap.size w w') := fun w E => jB (T := strOf T) auu (by rw [o9]; have := HTL.out; omega) w E
              have hfit := oN.AZ (M := 0) auu (fun _ e => by cases e)
              have HOF : Hid (∀ (A : Option Addr) (n c : Nat) (w : World), Pt w u A n c → Env w → Calls Tryz.prog 23 #[.agg #[.string (strOf u.au), .string (strOf u.usr), .string (strOf u.MX), .string (strOf u.hst), .bool u.hh, .int .i64 u.port, .bool u.opq, .string (strOf u.txt), .slice A n c, .bool u.hq, .bool u.hf, .string (strOf u.dY), .string (strOf u.fB)]] w fun e w' => e = .returned (.tuple #[oV (ofU u), .bool (ofU u).isSome]) ∧ Below w.heap.size w w') := fun A n c w hP E => of_u u hfit (by have := HTL.out; omega) A n c w hP E
              have qb : ((strOf u.au).toList == [98, 108, 111, 98]) = true := by rw [yx.aK, apx]; rfl
              have HFL : Hid (u.opq = true ∧ u.hq = false ∧ u.hf = false) := ⟨hopq, hhq, hhf⟩
              have HUS : Hid (us (ls ++ [⟨strOf T, strOf o.c, strOf o.d, o.p, o.n, (k : Int)⟩]) = us ls ++ [.string (strOf T)] ∧ (ls ++ [(⟨strOf T, strOf o.c, strOf o.d, o.p, o.n, (k : Int)⟩ : Bc Int)]).length = ls.length + 1) := ⟨by unfold us; rw [List.map_append]; rfl, by simp⟩
              have HL2 := hid hof
              have HL3 : Hid (ls.length ≤ 20) := by show _ ≤ _; have := auA.out; have := HKN.out; have := HLS.out; omega
              clear auu apx hopq hhq hhf hfit hof hN hS4 hb4 hk4 Et HSq HWq avf HRG HLO avq
              go_wp2_with (at_builtin; refine aub rfl _ _ 23 rfl w2.heap.size 9 i0 (.string ⟨#[]⟩) 16 Tryz.underlying23 hi hz0 hz1 hz2 rfl _ ls.length _ rfl HW4.out (Below.refl _ _) avd.out [.string (strOf T)] 1 rfl rfl (by intro u hu; simp at hu; subst hu; rfl) (by have := HL3.out; unfold maxLen; omega) (by have := HL3.out; omega) ?_)
              intro v5 w5 hown5 hb5 hk5
              have HW5 := hid hown5
              have iG : Hid (Below w.heap.size w w5) := HB4.out.trans (hb5.mono HW2.out)
              have HS5 : Hid (IsS 136 139 (Value.int .i64) w1.heap.size g 20 _ w5) := HS4.out.kp hk5 (by decide) (by decide) (by decide) (by decide)
              have HSZ5 : Hid (w2.heap.size ≤ w5.heap.size) := Nat.le_trans avd.out hb5.size
              clear hown5 hb5 hk5 HW4 HS4 HB4 avd
              go_wp2_with fail
              refine (TB.out _ (HE.out.below iG.out)).mono ?_
              rintro e w6 ⟨A6, n6, c6, rfl, hpt, hb⟩
              have nN := hid (bel iG.out hb)
              have HS6 := hid (HS5.out.below hb)
              have HW6 : Hid (w6.ownsRow w2.heap.size 9 1 v5 (ls.length + 1) (us ls ++ [.string (strOf T)])) := aP HW5.out hb
              have HSZ6 : Hid (w2.heap.size ≤ w6.heap.size) := Nat.le_trans HSZ5.out hb.size
              have HPT := hid hpt
              clear hb hpt iG HS5 HW5 HSZ5
              go_upto_region 14 with (fail)
              generalize bI : World.alloc _ _ = w7
              have hxa : UB w7 w6.heap.size u (.slice A6 n6 c6) := by rw [← bI]; exact heap_alloc_new _ _
              have hb : Below w6.heap.size w6 w7 := by rw [← bI]; exact (Below.refl _ _).alloc (Nat.le_refl _) _
              clear bI
              have HU7 := hid hxa
              have kZ := hid (bel nN.out hb)
              have HS7 := hid (HS6.out.below hb)
              have HW7 : Hid (w7.ownsRow w2.heap.size 9 1 v5 (ls.length + 1) (us ls ++ [.string (strOf T)])) := aP HW6.out hb
              have HSZ7 : Hid (w2.heap.size ≤ w7.heap.size) := Nat.le_trans HSZ6.out hb.size
              have HPT7 := hid (HPT.out.below hb)
              clear hxa hb nN HS6 HW6 HSZ6 HPT
              obtain ⟨k0, k1, k2, k3, k4, k5, k6, k7, k8, k9, k10, k11, k12⟩ := HU7.out.facts
              rw [HFL.out.1] at k6
              rw [HFL.out.2.1] at k9
              rw [HFL.out.2.2] at k10
              go_upto_region 16 with (fail)
              clear k0 k1 k2 k3 k4 k5 k6 k7 k8 k9 k10 k11 k12
              have SA := hid (HU7.out.load)
              go_wp2_with (refine fJ SA.out (.tmp 9) rfl rfl rfl ?_)
              refine (HOF.out _ _ _ _ HPT7.out (HE.out.below kZ.out)).mono ?_
              rintro e w8 ⟨rfl, hb⟩
              have H7 := hid (bel kZ.out hb)
              have HS8 := hid (HS7.out.below hb)
              have HW8 : Hid (w8.ownsRow w2.heap.size 9 1 v5 (ls.length + 1) (us ls ++ [.string (strOf T)])) := aP HW7.out hb
              have HSZ8 : Hid (w2.heap.size ≤ w8.heap.size) := Nat.le_trans HSZ7.out hb.size
              clear hb kZ HS7 HW7 HSZ7 HPT7 SA HU7 TB HOF
              by_cases asz : o.c = HTTP ∨ o.c = ar0
          
              · have JO : Hid (∀ w : World, Calls Tryz.prog 39 #[.agg #[.string (strOf o.c), .string (strOf o.d), .int .i64 o.p, .int .i64 0], .agg #[.string (strOf o.c), .string (strOf o.d), .int .i64 o.p, .int .i64 o.n]] w fun e w' => e = .returned (.bool true) ∧ Below w.heap.size w w') := fun w => by
                  have q := JA (strOf o.c) (strOf o.d) o.p 0 (strOf o.c) (strOf o.d) o.p o.n w
                  have q2 : pG (strOf o.c).data.toList (strOf o.d).data.toList o.p 0 (strOf o.c).data.toList (strOf o.d).data.toList o.p o.n = true := by
                    unfold pG
                    rw [if_neg (by rintro ⟨e, _⟩; rcases asz with x | x <;> (rw [x] at e; cases e))]
                    simp
                  rw [q2] at q
                  exact q
                have e5 := HL2.out
                rw [if_pos asz] at e5
                simp only [e5, oV, Option.isSome_some]
                clear e5 HL2
                go_upto_region 17 with (fail)
                generalize bI : World.alloc _ _ = w9
                have hxa : OB w9 w8.heap.size (strOf o.c) (strOf o.d) o.p 0 := by rw [← bI]; exact heap_alloc_new _ _
                have hb : Below w8.heap.size w8 w9 := by rw [← bI]; exact (Below.refl _ _).alloc (Nat.le_refl _) _
                clear bI
                have HQ9 := hid hxa
                have Y0 := hid (bel H7.out hb)
                have Zh := hid (HS8.out.below hb)
                have HW9 : Hid (w9.ownsRow w2.heap.size 9 1 v5 (ls.length + 1) (us ls ++ [.string (strOf T)])) := aP HW8.out hb
                have auh : Hid (w2.heap.size ≤ w9.heap.size) := Nat.le_trans HSZ8.out hb.size
                clear hxa hb H7 HS8 HW8 HSZ8
                rcases asz with asz | asz
                · have qh : ((strOf o.c).toList == [104, 116, 116, 112]) = true := by rw [yx.aK, asz]; rfl
                  clear asz
                  refine aV (by kernel_rfl) [is (.bool true), is (.slice (some ⟨b, off, none⟩) n cap), is (.int .i64 (k : Int)), is (.pointer (some ⟨b, off + k * 4, none⟩)), is (.pointer (some ⟨b, off + k * 4, none⟩)), is (.string (strOf o.c)), is (.bool true), is (.bool true), any, any, any, any, any, any, is (.bool true), is (.bool false), is (.bool false), is (.bool true), is (.bool true), is (.agg #[.string (strOf o.c), .string (strOf o.d), .int .i64 o.p, .int .i64 0]), is (.slice (some ⟨b, off, none⟩) n cap), is (.int .i64 (k : Int)), is (.pointer (some ⟨b, off + k * 4, none⟩)), is (.agg #[.string (strOf o.c), .string (strOf o.d), .int .i64 o.p, .int .i64 o.n]), is (.bool true), is (.bool false), is (.bool false), is (.bool false)] [[], [], [], [1, 2], [3], [4], [5], [6], [7], [7], [7, 8, 9], [7, 10], [7, 11], [7, 12], [7, 13], [0, 14], [15], [16], [16, 17], [18], [18], [18], [18, 20, 21], [18, 22], [18, 19, 23], [18, 24], [16, 18, 25], [16, 26]] (by kernel_rfl) ?_ ?_
                  · refine ⟨?_, ?_, ?_, ?_, ?_, ?_, ?_, ?_, ?_, ?_, ?_, ?_, ?_, ?_, ?_, ?_, ?_, ?_, ?_, ?_, ?_, ?_, ?_, ?_, ?_, ?_, ?_, ?_, trivial⟩
                    all_goals (intro t wq hbq hh K hK; simp only [filled, upd, Have, is, any, row, pick, Act.put, List.setIfInBounds_toArray, List.set_cons_zero, List.set_cons_succ, Nat.reduceAdd, Nat.reduceEqDiff, reduceIte, List.tail_cons, List.headD_cons] at hh hK ⊢)
                    iterate 5
                      · try simp only [hh] at hK ⊢
                        clear hh
                        go_simp
                        exact hK _ _ blr rfl
                    · have e4 := hh.1
                      clear hh
                      simp only [e4] at hK ⊢
                      obtain ⟨q0, q1, q2, q3⟩ := HFX.out wq (bel Y0.out hbq)
                      go_simp
                      exact hK _ _ blr rfl
                    · have e5 := hh.1
                      clear hh
                      simp only [e5] at hK ⊢
                      go_simp
                      first | exact hK _ _ blr rfl | (rw [qh]; exact hK _ _ blr rfl)
                    · try simp only [hh] at hK ⊢
                      clear hh
                      go_simp
                      exact hK _ _ blr rfl
                    · have e7 := hh.1
                      clear hh
                      simp only [e7] at hK ⊢
                      go_simp
                      exact hK undef _ blr trivial
                    · have e7 := hh.1
                      clear hh
                      simp only [e7] at hK ⊢
                      go_simp
                      exact hK undef _ blr trivial
                    · have e7 := hh.1
                      clear hh
                      simp only [e7] at hK ⊢
                      go_simp
                      exact hK undef _ blr trivial
                    · have e7 := hh.1
                      clear hh
                      simp only [e7] at hK ⊢
                      go_simp
                      exact hK undef _ blr trivial
                    · have e7 := hh.1
                      clear hh
                      simp only [e7] at hK ⊢
                      go_simp
                      exact hK undef _ blr trivial
                    · have e7 := hh.1
                      clear hh
                      simp only [e7] at hK ⊢
                      go_simp
                      exact hK undef _ blr trivial
                    · try simp only [hh] at hK ⊢
                      clear hh
                      go_simp
                      exact hK _ _ blr rfl
                    · have e0 := hh.1
                      have e14 := hh.2.1
                      clear hh
                      simp only [e0, e14] at hK ⊢
                      go_simp
                      first | exact hK _ _ blr rfl | exact hK _ _ blr (iC (by omega) (by omega))
                    iterate 3
                      · try simp only [hh] at hK ⊢
                        clear hh
                        go_simp
                        exact hK _ _ blr rfl
                    · have e18 := hh.1
                      clear hh
                      simp only [e18] at hK ⊢
                      obtain ⟨q0, q1, q2, q3⟩ := (HQ9.out.below hbq).facts
                      go_simp
                      exact hK _ _ blr rfl
                    iterate 3
                      · try simp only [hh] at hK ⊢
                        clear hh
                        go_simp
                        exact hK _ _ blr rfl
                    · have e18 := hh.1
                      have e22 := hh.2.1
                      clear hh
                      simp only [e18, e22] at hK ⊢
                      obtain ⟨q0, q1, q2, q3⟩ := HFX.out wq (bel Y0.out hbq)
                      go_simp
                      exact hK _ _ blr rfl
                    · have e18 := hh.1
                      have e19 := hh.2.1
                      have e23 := hh.2.2.1
                      clear hh
                      simp only [e18, e19, e23] at hK ⊢
                      go_simp
                      refine (JO.out _).mono ?_
                      rintro e wz ⟨rfl, hbz⟩
                      exact hK _ _ hbz rfl
                    iterate 3
                      · try simp only [hh] at hK ⊢
                        clear hh
                        go_simp
                        exact hK _ _ blr rfl
                  · intro t wq hbq hh
                    have f27 := aB hh 27 (by decide)
                    simp only [pick] at f27
                    replace f27 : t 27 = (.bool false) := f27
                    clear hh
                    simp only [filled, upd, Have, is, any, row, pick, Act.put, List.setIfInBounds_toArray, List.set_cons_zero, List.set_cons_succ, Nat.reduceAdd, Nat.reduceEqDiff, reduceIte]
                    simp only [f27]
                    have HBA := hid (bel Y0.out hbq)
                    have HSA := hid (Zh.out.below hbq)
                    have HWA : Hid (wq.ownsRow w2.heap.size 9 1 v5 (ls.length + 1) (us ls ++ [.string (strOf T)])) := aP HW9.out hbq
                    have ave : Hid (w2.heap.size ≤ wq.heap.size) := Nat.le_trans auh.out hbq.size
                    clear hbq Y0 Zh HW9 auh HQ9
                    go_wp2
                    go_roundw
                    case rel => exact ⟨k + 1, _, by have := HKN.out; omega, by go_num, by have := HUS.out.2; have := HLS.out; show _ ≤ _; omega, HSA.out, by show World.ownsRow _ _ _ _ _ _ _; rw [HUS.out.1, HUS.out.2]; exact HWA.out, ave.out, HBA.out⟩
                    case measure => have := HKN.out; simp [intOf]; omega
                · have qh : ((strOf o.c).toList == [104, 116, 116, 112]) = false := by rw [yx.aK, asz]; rfl
                  have qhs : ((strOf o.c).toList == [104, 116, 116, 112, 115]) = true := by rw [yx.aK, asz]; rfl
                  clear asz
                  refine aV (by kernel_rfl) [is (.bool true), is (.slice (some ⟨b, off, none⟩) n cap), is (.int .i64 (k : Int)), is (.pointer (some ⟨b, off + k * 4, none⟩)), is (.pointer (some ⟨b, off + k * 4, none⟩)), is (.string (strOf o.c)), is (.bool false), is (.bool false), is (.slice (some ⟨b, off, none⟩) n cap), is (.int .i64 (k : Int)), is (.pointer (some ⟨b, off + k * 4, none⟩)), is (.pointer (some ⟨b, off + k * 4, none⟩)), is (.string (strOf o.c)), is (.bool true), is (.bool true), is (.bool false), is (.bool false), is (.bool true), is (.bool true), is (.agg #[.string (strOf o.c), .string (strOf o.d), .int .i64 o.p, .int .i64 0]), is (.slice (some ⟨b, off, none⟩) n cap), is (.int .i64 (k : Int)), is (.pointer (some ⟨b, off + k * 4, none⟩)), is (.agg #[.string (strOf o.c), .string (strOf o.d), .int .i64 o.p, .int .i64 o.n]), is (.bool true), is (.bool false), is (.bool false), is (.bool false)] [[], [], [], [1, 2], [3], [4], [5], [6], [7], [7], [7, 8, 9], [7, 10], [7, 11], [7, 12], [7, 13], [0, 14], [15], [16], [16, 17], [18], [18], [18], [18, 20, 21], [18, 22], [18, 19, 23], [18, 24], [16, 18, 25], [16, 26]] (by kernel_rfl) ?_ ?_
                  · refine ⟨?_, ?_, ?_, ?_, ?_, ?_, ?_, ?_, ?_, ?_, ?_, ?_, ?_, ?_, ?_, ?_, ?_, ?_, ?_, ?_, ?_, ?_, ?_, ?_, ?_, ?_, ?_, ?_, trivial⟩
                    all_goals (intro t wq hbq hh K hK; simp only [filled, upd, Have, is, any, row, pick, Act.put, List.setIfInBounds_toArray, List.set_cons_zero, List.set_cons_succ, Nat.reduceAdd, Nat.reduceEqDiff, reduceIte, List.tail_cons, List.headD_cons] at hh hK ⊢)
                    iterate 5
                      · try simp only [hh] at hK ⊢
                        clear hh
                        go_simp
                        exact hK _ _ blr rfl
                    · have e4 := hh.1
                      clear hh
                      simp only [e4] at hK ⊢
                      obtain ⟨q0, q1, q2, q3⟩ := HFX.out wq (bel Y0.out hbq)
                      go_simp
                      exact hK _ _ blr rfl
                    · have e5 := hh.1
                      clear hh
                      simp only [e5] at hK ⊢
                      go_simp
                      first | exact hK _ _ blr rfl | (rw [qh]; exact hK _ _ blr rfl)
                    iterate 5
                      · try simp only [hh] at hK ⊢
                        clear hh
                        go_simp
                        exact hK _ _ blr rfl
                    · have e7 := hh.1
                      have e11 := hh.2.1
                      clear hh
                      simp only [e7, e11] at hK ⊢
                      obtain ⟨q0, q1, q2, q3⟩ := HFX.out wq (bel Y0.out hbq)
                      go_simp
                      exact hK _ _ blr rfl
                    · have e7 := hh.1
                      have e12 := hh.2.1
                      clear hh
                      simp only [e7, e12] at hK ⊢
                      go_simp
                      first | exact hK _ _ blr rfl | (rw [qhs]; exact hK _ _ blr rfl)
                    · try simp only [hh] at hK ⊢
                      clear hh
                      go_simp
                      exact hK _ _ blr rfl
                    · have e0 := hh.1
                      have e14 := hh.2.1
                      clear hh
                      simp only [e0, e14] at hK ⊢
                      go_simp
                      first | exact hK _ _ blr rfl | exact hK _ _ blr (iC (by omega) (by omega))
                    iterate 3
                      · try simp only [hh] at hK ⊢
                        clear hh
                        go_simp
                        exact hK _ _ blr rfl
                    · have e18 := hh.1
                      clear hh
                      simp only [e18] at hK ⊢
                      obtain ⟨q0, q1, q2, q3⟩ := (HQ9.out.below hbq).facts
                      go_simp
                      exact hK _ _ blr rfl
                    iterate 3
                      · try simp only [hh] at hK ⊢
                        clear hh
                        go_simp
                        exact hK _ _ blr rfl
                    · have e18 := hh.1
                      have e22 := hh.2.1
                      clear hh
                      simp only [e18, e22] at hK ⊢
                      obtain ⟨q0, q1, q2, q3⟩ := HFX.out wq (bel Y0.out hbq)
                      go_simp
                      exact hK _ _ blr rfl
                    · have e18 := hh.1
                      have e19 := hh.2.1
                      have e23 := hh.2.2.1
                      clear hh
                      simp only [e18, e19, e23] at hK ⊢
                      go_simp
                      refine (JO.out _).mono ?_
                      rintro e wz ⟨rfl, hbz⟩
                      exact hK _ _ hbz rfl
                    iterate 3
                      · try simp only [hh] at hK ⊢
                        clear hh
                        go_simp
                        exact hK _ _ blr rfl
                  · intro t wq hbq hh
                    have f27 := aB hh 27 (by decide)
                    simp only [pick] at f27
                    replace f27 : t 27 = (.bool false) := f27
                    clear hh
                    simp only [filled, upd, Have, is, any, row, pick, Act.put, List.setIfInBounds_toArray, List.set_cons_zero, List.set_cons_succ, Nat.reduceAdd, Nat.reduceEqDiff, reduceIte]
                    simp only [f27]
                    have HBA := hid (bel Y0.out hbq)
                    have HSA := hid (Zh.out.below hbq)
                    have HWA : Hid (wq.ownsRow w2.heap.size 9 1 v5 (ls.length + 1) (us ls ++ [.string (strOf T)])) := aP HW9.out hbq
                    have ave : Hid (w2.heap.size ≤ wq.heap.size) := Nat.le_trans auh.out hbq.size
                    clear hbq Y0 Zh HW9 auh HQ9
                    go_wp2
                    go_roundw
                    case rel => exact ⟨k + 1, _, by have := HKN.out; omega, by go_num, by have := HUS.out.2; have := HLS.out; show _ ≤ _; omega, HSA.out, by show World.ownsRow _ _ _ _ _ _ _; rw [HUS.out.1, HUS.out.2]; exact HWA.out, ave.out, HBA.out⟩
                    case measure => have := HKN.out; simp [intOf]; omega
              · have e5 := HL2.out
                rw [if_neg asz] at e5
                simp only [e5, oV, Option.isSome_none]
                clear e5 HL2
                go_upto_region 17 with (fail)
                generalize bI : World.alloc _ _ = w9
                have hxa : OB w9 w8.heap.size ⟨#[]⟩ ⟨#[]⟩ 0 0 := by rw [← bI]; exact heap_alloc_new _ _
                have hb : Below w8.heap.size w8 w9 := by rw [← bI]; exact (Below.refl _ _).alloc (Nat.le_refl _) _
                clear bI
                have HQ9 := hid hxa
                have Y0 := hid (bel H7.out hb)
                have Zh := hid (HS8.out.below hb)
                have HW9 : Hid (w9.ownsRow w2.heap.size 9 1 v5 (ls.length + 1) (us ls ++ [.string (strOf T)])) := aP HW8.out hb
                have auh : Hid (w2.heap.size ≤ w9.heap.size) := Nat.le_trans HSZ8.out hb.size
                clear hxa hb H7 HS8 HW8 HSZ8
                have qh : ((strOf o.c).toList == [104, 116, 116, 112]) = false := by rw [yx.aK]; exact beq_false_of_ne fun e => asz (.inl e)
                have qhs : ((strOf o.c).toList == [104, 116, 116, 112, 115]) = false := by rw [yx.aK]; exact beq_false_of_ne fun e => asz (.inr e)
                clear asz
                refine aV (by kernel_rfl) [is (.bool false), is (.slice (some ⟨b, off, none⟩) n cap), is (.int .i64 (k : Int)), is (.pointer (some ⟨b, off + k * 4, none⟩)), is (.pointer (some ⟨b, off + k * 4, none⟩)), is (.string (strOf o.c)), is (.bool false), is (.bool false), is (.slice (some ⟨b, off, none⟩) n cap), is (.int .i64 (k : Int)), is (.pointer (some ⟨b, off + k * 4, none⟩)), is (.pointer (some ⟨b, off + k * 4, none⟩)), is (.string (strOf o.c)), is (.bool false), is (.bool false), is (.bool false), is (.bool false), is (.bool false), is (.bool false), any, any, any, any, any, any, any, is (.bool false), is (.bool false)] [[], [], [], [1, 2], [3], [4], [5], [6], [7], [7], [7, 8, 9], [7, 10], [7, 11], [7, 12], [7, 13], [0, 14], [15], [16], [16, 17], [18], [18], [18], [18, 20, 21], [18, 22], [18, 19, 23], [18, 24], [16, 18, 25], [16, 26]] (by kernel_rfl) ?_ ?_
                · refine ⟨?_, ?_, ?_, ?_, ?_, ?_, ?_, ?_, ?_, ?_, ?_, ?_, ?_, ?_, ?_, ?_, ?_, ?_, ?_, ?_, ?_, ?_, ?_, ?_, ?_, ?_, ?_, ?_, trivial⟩
                  all_goals (intro t wq hbq hh K hK; simp only [filled, upd, Have, is, any, row, pick, Act.put, List.setIfInBounds_toArray, List.set_cons_zero, List.set_cons_succ, Nat.reduceAdd, Nat.reduceEqDiff, reduceIte, List.tail_cons, List.headD_cons] at hh hK ⊢)
                  iterate 5
                    · try simp only [hh] at hK ⊢
                      clear hh
                      go_simp
                      exact hK _ _ blr rfl
                  · have e4 := hh.1
                    clear hh
                    simp only [e4] at hK ⊢
                    obtain ⟨q0, q1, q2, q3⟩ := HFX.out wq (bel Y0.out hbq)
                    go_simp
                    exact hK _ _ blr rfl
                  · have e5 := hh.1
                    clear hh
                    simp only [e5] at hK ⊢
                    go_simp
                    first | exact hK _ _ blr rfl | (rw [qh]; exact hK _ _ blr rfl)
                  iterate 5
                    · try simp only [hh] at hK ⊢
                      clear hh
                      go_simp
                      exact hK _ _ blr rfl
                  · have e7 := hh.1
                    have e11 := hh.2.1
                    clear hh
                    simp only [e7, e11] at hK ⊢
                    obtain ⟨q0, q1, q2, q3⟩ := HFX.out wq (bel Y0.out hbq)
                    go_simp
                    exact hK _ _ blr rfl
                  · have e7 := hh.1
                    have e12 := hh.2.1
                    clear hh
                    simp only [e7, e12] at hK ⊢
                    go_simp
                    first | exact hK _ _ blr rfl | (rw [qhs]; exact hK _ _ blr rfl)
                  · try simp only [hh] at hK ⊢
                    clear hh
                    go_simp
                    exact hK _ _ blr rfl
                  · have e0 := hh.1
                    have e14 := hh.2.1
                    clear hh
                    simp only [e0, e14] at hK ⊢
                    go_simp
                    first | exact hK _ _ blr rfl | exact hK _ _ blr (iC (by omega) (by omega))
                  iterate 3
                    · try simp only [hh] at hK ⊢
                      clear hh
                      go_simp
                      exact hK _ _ blr rfl
                  · have e18 := hh.1
                    clear hh
                    simp only [e18] at hK ⊢
                    go_simp
                    exact hK undef _ blr trivial
                  · have e18 := hh.1
                    clear hh
                    simp only [e18] at hK ⊢
                    go_simp
                    exact hK undef _ blr trivial
                  · have e18 := hh.1
                    clear hh
                    simp only [e18] at hK ⊢
                    go_simp
                    exact hK undef _ blr trivial
                  · have e18 := hh.1
                    clear hh
                    simp only [e18] at hK ⊢
                    go_simp
                    exact hK undef _ blr trivial
                  · have e18 := hh.1
                    clear hh
                    simp only [e18] at hK ⊢
                    go_simp
                    exact hK undef _ blr trivial
                  · have e18 := hh.1
                    clear hh
                    simp only [e18] at hK ⊢
                    go_simp
                    exact hK undef _ blr trivial
                  · have e18 := hh.1
                    clear hh
                    simp only [e18] at hK ⊢
                    go_simp
                    exact hK undef _ blr trivial
                  iterate 2
                    · try simp only [hh] at hK ⊢
                      clear hh
                      go_simp
                      exact hK _ _ blr rfl
                · intro t wq hbq hh
                  have f27 := aB hh 27 (by decide)
                  simp only [pick] at f27
                  replace f27 : t 27 = (.bool false) := f27
                  clear hh
                  simp only [filled, upd, Have, is, any, row, pick, Act.put, List.setIfInBounds_toArray, List.set_cons_zero, List.set_cons_succ, Nat.reduceAdd, Nat.reduceEqDiff, reduceIte]
                  simp only [f27]
                  have HBA := hid (bel Y0.out hbq)
                  have HSA := hid (Zh.out.below hbq)
                  have HWA : Hid (wq.ownsRow w2.heap.size 9 1 v5 (ls.length + 1) (us ls ++ [.string (strOf T)])) := aP HW9.out hbq
                  have ave : Hid (w2.heap.size ≤ wq.heap.size) := Nat.le_trans auh.out hbq.size
                  clear hbq Y0 Zh HW9 auh HQ9
                  go_wp2
                  go_roundw
                  case rel => exact ⟨k + 1, _, by have := HKN.out; omega, by go_num, by have := HUS.out.2; have := HLS.out; show _ ≤ _; omega, HSA.out, by show World.ownsRow _ _ _ _ _ _ _; rw [HUS.out.1, HUS.out.2]; exact HWA.out, ave.out, HBA.out⟩
                  case measure => have := HKN.out; simp [intOf]; omega
      · obtain rfl : k = n := by omega
        obtain ⟨A2, c2, rfl, hn2, hc2, hr2⟩ := aJ HW.out
        have HR2 := hid hr2
        have HL3 : Hid (ls.length ≤ 64) := by show _ ≤ _; have := auA.out; have := HLS.out; omega
        clear hr2
        go_wp2_with fail
        refine (auU.auQ _ g 20 ls _ HS.out HL3.out).mono ?_
        rintro e w9 ⟨v, rfl, hown, mG⟩
        obtain ⟨A3, c3, rfl, hn3, hc3, hr3⟩ := aJ hown
        have HR3 := hid hr3
        have HR4 := hid (HR2.out.below mG)
        have Y0 := hid (bel HB.out mG)
        have JO : Hid (∀ w : World, aY w A3 ls.length (us ls) → aY w A2 ls.length (us ls) → Calls Tryz.prog 40 #[.slice A3 ls.length c3, .slice A2 ls.length c2] w fun e w' => e = .returned (.bool true) ∧ Below w.heap.size w w') := fun w r1 r2 => by
          have e : us ls = (ls.map fun x => x.url).map Value.string := by unfold us; rw [List.map_map]; rfl
          rw [e] at r1 r2
          have q := UrlE.ait A3 A2 ls.length ls.length c3 c2 (ls.map fun x => x.url) (ls.map fun x => x.url) w r1 r2 hn3 hc3 hn2 hc2
          rw [decide_eq_true rfl] at q
          exact q
        clear mG hown hr3 hn2 hc2 hn3 hc3
        go_wp2_with fail
        refine (JO.out _ HR3.out HR4.out).mono ?_
        rintro e wz ⟨rfl, hb⟩
        have HBZ := hid (bel Y0.out hb)
        clear hb
        go_wp2
        go_ret
        exact ⟨rfl, HBZ.out⟩
  · have hni : (20 : Int) < (n : Int) := by omega
    clear hn
    go_enter Tryz.func8, Tryz.ntmps8
    go_wp2_with fail
    refine (JM.out _).mono ?_
    rintro e w1 ⟨rfl, hb⟩
    have HB1 := hid hb
    clear hb
    go_wp2_with fail
    refine (JM.out _).mono ?_
    rintro e w2 ⟨rfl, hb⟩
    have HB2 := hid (bel HB1.out hb)
    clear hb
    go_wp2
    go_ret
    exact ⟨rfl, HB2.out⟩
end Go.Proofs.YtgamccijegollaaGreatDoor.Laws
