/- The law StoreRoom. -/
import Derived.Test.YthajldjmplfnaaaGreatDoorNAJ
import Derived.Test.YthajldjmplfnaaaGreatDoorNAK
set_option linter.unusedSimpArgs false
set_option linter.unusedVariables false
namespace Go.Proofs.YthajldjmplfnaaaGreatDoor.Laws
open Go.RowKit Go.Proofs.YthajldjmplfnaaaGreatDoor.Base Go.Proofs.YthajldjmplfnaaaGreatDoor.Base2 Go.Proofs.YthajldjmplfnaaaGreatDoor.Regs Go.Proofs.YthajldjmplfnaaaGreatDoor.TbK Go.Proofs.YthajldjmplfnaaaGreatDoor.StoG Go.Proofs.YthajldjmplfnaaaGreatDoor.StoI Go.Proofs.YthajldjmplfnaaaGreatDoor.StoJ Go.Proofs.YthajldjmplfnaaaGreatDoor.StoK Go.Proofs.YthajldjmplfnaaaGreatDoor.StoR Go.Proofs.YthajldjmplfnaaaGreatDoor.OrgA Go.Proofs.YthajldjmplfnaaaGreatDoor.Ubx Go.Proofs.YthajldjmplfnaaaGreatDoor.LdA Go.Proofs.YthajldjmplfnaaaGreatDoor.IdnA Go.Proofs.YthajldjmplfnaaaGreatDoor.PrsP Go.Proofs.YthajldjmplfnaaaGreatDoor.OrgP Go.Proofs.YthajldjmplfnaaaGreatDoor.StoW Go.Proofs.YthajldjmplfnaaaGreatDoor.Ubp Go.Proofs.YthajldjmplfnaaaGreatDoor.OpqD Go.Proofs.YthajldjmplfnaaaGreatDoor.PrsC Go.Proofs.YthajldjmplfnaaaGreatDoor.PrsG Go.Proofs.YthajldjmplfnaaaGreatDoor.HstC Go.Proofs.YthajldjmplfnaaaGreatDoor.Spl
set_option linter.unusedSimpArgs false
set_option linter.unusedVariables false

/-- The bytes that the law draws for the k-th one. -/
def fb (k : Nat) : Nat → UInt8 := fun i => if i = 0 then UInt8.ofNat k else 0
theorem fb_zero (k : Nat) (h : k < 256) : (fb k 0).toNat = k := by
  show (UInt8.ofNat k).toNat = k
  simp
  omega
theorem rv_fb (k : Nat) (h : k < 256) : rv (fb k) = #[.int .u8 (k : Int), .int .u8 0, .int .u8 0, .int .u8 0, .int .u8 0, .int .u8 0, .int .u8 0, .int .u8 0, .int .u8 0, .int .u8 0, .int .u8 0, .int .u8 0, .int .u8 0, .int .u8 0, .int .u8 0, .int .u8 0] := by
  unfold rv
  rw [fb_zero k h]
  rfl
def ent (nc : Int) (k : Nat) : Ent Int := ⟨strOf (nameT (fb k)), ⟨#[]⟩, ⟨#[]⟩, 0, nc, (k : Int)⟩
def ents (nc : Int) (n : Nat) : List (Ent Int) := (List.range n).map (ent nc)
theorem ents_len (nc : Int) (n : Nat) : (ents nc n).length = n := by simp [ents]
theorem us_len (l : List (Ent Int)) : (us l).length = l.length := by simp [us]
theorem ents_at (nc : Int) (n k : Nat) (h : k < (ents nc n).length) : (ents nc n)[k] = ent nc k := by simp [ents]
theorem ents_succ (nc : Int) (n : Nat) : ents nc (n + 1) = ents nc n ++ [ent nc n] := by simp [ents, List.range_succ]
theorem name_ne {j k : Nat} (hj : j < 256) (hk : k < 256) (h : j ≠ k) : strOf (nameT (fb j)) ≠ strOf (nameT (fb k)) := fun e => by
  have := name_inj e
  rw [fb_zero j hj, fb_zero k hk] at this
  exact h this
theorem idx_ents {nc : Int} {n k : Nat} (hk : k < n) (hn : n ≤ 64) : idx (ents nc n) (strOf (nameT (fb k))) = some k := by
  unfold StoG.idx
  rw [List.findIdx?_eq_some_iff_getElem]
  refine ⟨by rw [ents_len]; exact hk, by rw [ents_at]; exact decide_eq_true rfl, fun j hj => ?_⟩
  rw [ents_at]
  exact fun e => name_ne (j := j) (k := k) (by omega) (by omega) (by omega) (of_decide_eq_true e)
theorem idx_next {nc : Int} {n : Nat} (hn : n ≤ 64) : idx (ents nc n) (strOf (nameT (fb n))) = none := by
  unfold StoG.idx
  rw [List.findIdx?_eq_none_iff]
  intro e he
  obtain ⟨j, hj, rfl⟩ := List.mem_iff_getElem.1 he
  rw [ents_len] at hj
  rw [ents_at]
  exact decide_eq_false (name_ne (j := j) (k := n) (by omega) (by omega) (by omega))
theorem idx_200 {nc : Int} {n : Nat} (hn : n ≤ 64) : idx (ents nc n) (strOf (nameT (fb 200))) = none := by
  unfold StoG.idx
  rw [List.findIdx?_eq_none_iff]
  intro e he
  obtain ⟨j, hj, rfl⟩ := List.mem_iff_getElem.1 he
  rw [ents_len] at hj
  rw [ents_at]
  exact decide_eq_false (name_ne (j := j) (k := 200) (by omega) (by decide) (by omega))
theorem idx_far {nc : Int} {n p : Nat} (hn : n ≤ 64) : idx ((ents nc n).eraseIdx p) (strOf (nameT (fb 200))) = none := by
  have h := idx_200 (nc := nc) hn
  unfold StoG.idx at h ⊢
  rw [List.findIdx?_eq_none_iff] at h ⊢
  exact fun e he => h e (List.mem_of_mem_eraseIdx he)
theorem has_ents {nc : Int} {n k : Nat} (hk : k < n) (hn : n ≤ 64) : hasO (ents nc n) (strOf (nameT (fb k))) ⟨#[]⟩ ⟨#[]⟩ 0 nc = true := by
  have hl : k < (ents nc n).length := by rw [ents_len]; exact hk
  unfold hasO
  rw [idx_ents hk hn]
  simp only
  rw [List.getElem?_eq_getElem hl, ents_at]
  exact sameO_refl _ _ _ _
set_option maxRecDepth 100000 in
set_option maxHeartbeats 16000000 in
/-- The walk of the law StoreRoom. -/
theorem StoreRoom_any (rm nc wz : Int) (w : World) (hrm : 0 ≤ rm ∧ rm ≤ 255) (_hnc : -9223372036854775808 ≤ nc ∧ nc ≤ 9223372036854775807) (hwz : 0 ≤ wz ∧ wz ≤ 255) (hT : Tab.Pow w) (hM : Max w) (hU : Utab w) :
    Calls Tryz.prog 3 #[.int .u8 rm, .int .i64 nc, .int .u8 wz] w fun e w' => e = .returned (.bool true) ∧ Below w.heap.size w w' := by
  have HE : Hid (EnvO w) := ⟨hT, hM, hU⟩
  obtain ⟨rn, hrn⟩ : ∃ rn : Nat, rm = (rn : Int) := ⟨rm.toNat, by omega⟩
  subst hrn
  obtain ⟨wh, hwh⟩ : ∃ wh : Nat, wz = (wh : Int) := ⟨wz.toNat, by omega⟩
  subst hwh
  obtain ⟨q, hq⟩ : ∃ q, q = rn % 64 := ⟨_, rfl⟩
  have hqt : (rn : Int).tmod 64 = (q : Int) := by rw [Int.tmod_eq_emod_of_nonneg (by omega), hq]; simp
  obtain ⟨n, hn⟩ : ∃ n, n = 1 + q := ⟨_, rfl⟩
  have hnq : (1 : Int) + (q : Int) = (n : Int) := by omega
  have hn1 : 1 ≤ n := by omega
  have hn64 : n ≤ 64 := by omega
  obtain ⟨p, hp⟩ : ∃ p, p = wh % n := ⟨_, rfl⟩
  have hpn : p < n := by rw [hp]; exact Nat.mod_lt _ (by omega)
  have HPT : Hid ((wh : Int).tmod (n : Int) = (p : Int)) := by show _ = _; rw [Int.tmod_eq_emod_of_nonneg (by omega), hp]; simp
  have HUS : Hid (∀ hk : p < (us (ents nc n)).length, (us (ents nc n))[p] = .string (strOf (nameT (fb p)))) := fun hk => by simp [us, ents, ent]
  have hn0 : ¬ (n : Int) = 0 := by omega
  have hp64 : (p : Int) ≤ 64 := by omega
  have hni64 : (n : Int) ≤ 64 := by omega
  clear hq hn hp hT hM hU
  go_enter Tryz.func3, Tryz.ntmps3
  go_wp2_with fail
  refine (awake_any _).mono ?_
  rintro e w1 ⟨rfl, hb⟩
  have HB1 := hid hb
  have HW1 : Hid (w.heap.size ≤ w1.heap.size) := hb.size
  clear hb
  go_wp2_with fail
  refine (StoI.new_any n hn1 hn64 _).mono ?_
  rintro e w2 ⟨g, rfl, hS, hb⟩
  have HS2 := hid hS
  have HB2 := hid (bel HB1.out hb)
  clear hS hb
  go_upto_region 6 with (fail)
  generalize hwa : World.alloc w2 _ = w3
  have h3 : OB w3 w2.heap.size ⟨#[]⟩ ⟨#[]⟩ 0 nc ∧ Below w2.heap.size w2 w3 := by
    subst hwa
    exact laid1 w2 _ _
  clear hwa
  obtain ⟨gO, hgO⟩ : ∃ x, x = w2.heap.size := ⟨_, rfl⟩
  have HO3 : Hid (OB w3 gO ⟨#[]⟩ ⟨#[]⟩ 0 nc) := by rw [hgO]; exact h3.1
  have HS3 := hid (HS2.out.below h3.2)
  have HB3 := hid (bel HB2.out h3.2)
  rw [← hgO]
  clear h3 HS2 HB2 hgO
  go_wp2
  go_loopw [11, 12, 13, 14, 15, 37] (fun _ _ _ _ _ vk wr => ∃ j : Nat, j ≤ n ∧ vk = .int .i64 (j : Int) ∧ Hid (IsS 114 121 (Value.int .i64) w1.heap.size g n (ents nc j) wr) ∧ Hid (OB wr gO ⟨#[]⟩ ⟨#[]⟩ 0 nc) ∧ Hid (Below w.heap.size w wr)) (fun _ _ _ _ _ vk _ => n - (intOf vk).toNat)
  case atStart => exact ⟨0, Nat.zero_le _, rfl, HS3.out, HO3.out, HB3.out⟩
  case round =>
    obtain ⟨j, hj, rfl, HS, HO, HB⟩ := hrel
    have hj64 : (j : Int) ≤ 64 := by omega
    by_cases hlt : j < n
    · have hreg := reg_null_ok w1.heap.size g n (ents nc j) ⟨#[]⟩ 0 nc (j : Int) (fb j) wr HS.out hn64 (by rw [ents_len]; omega) (by rw [ents_len]; omega) (idx_next (by omega))
      rw [rv_fb j (by omega)] at hreg
      have HRG := hid hreg
      have HLE : Hid ((loadVar 28 ⟨gO, 0, none⟩).run Tryz.prog wr = .ok (.agg #[.string ⟨#[]⟩, .string ⟨#[]⟩, .int .i64 0, .int .i64 nc]) wr) := ob_load HO.out
      clear hreg
      go_wp2_with (refine load_as HLE.out (.tmp 10) rfl rfl rfl ?_)
      refine HRG.out.mono ?_
      rintro e w4 ⟨rfl, hS, hb, hk⟩
      have HS4 : Hid (IsS 114 121 (Value.int .i64) w1.heap.size g n (ents nc (j + 1)) w4) := by show IsS _ _ _ _ _ _ _ _; rw [ents_succ]; exact hS
      have HB4 : Hid (Below w.heap.size w w4) := HB.out.trans (hb.mono HW1.out)
      have HO4 : Hid (OB w4 gO ⟨#[]⟩ ⟨#[]⟩ 0 nc) := hk.cells HO.out (by decide) (by decide)
      clear hS hb hk HRG HLE HS HO HB
      have hreg := reg_null_twice w1.heap.size g n (ents nc (j + 1)) ⟨#[]⟩ 0 nc (j : Int) (fb j) w4 HS4.out hn64 (by rw [ents_len]; omega) (by rw [idx_ents (Nat.lt_succ_self j) (by omega)]; rfl)
      rw [rv_fb j (by omega)] at hreg
      have HRG := hid hreg
      have HLE : Hid ((loadVar 28 ⟨gO, 0, none⟩).run Tryz.prog w4 = .ok (.agg #[.string ⟨#[]⟩, .string ⟨#[]⟩, .int .i64 0, .int .i64 nc]) w4) := ob_load HO4.out
      clear hreg
      go_wp2_with (refine load_as HLE.out (.tmp 10) rfl rfl rfl ?_)
      refine HRG.out.mono ?_
      rintro e w5 ⟨rfl, hb⟩
      have HS5 := hid (HS4.out.below hb)
      have HO5 := hid (HO4.out.below hb)
      have HB5 := hid (bel HB4.out hb)
      clear hb HRG HLE HS4 HO4 HB4
      go_wp2
      go_roundw
      case rel => exact ⟨j + 1, by omega, by go_num, HS5.out, HO5.out, HB5.out⟩
      case measure => simp [intOf]; omega
    · obtain rfl : j = n := by omega
      have hreg := reg_null_full w1.heap.size g j (ents nc j) ⟨#[]⟩ 0 nc 0 (fb 200) wr HS.out hn64 (by rw [ents_len]; omega) (by rw [ents_len]; omega) (idx_200 (by omega))
      rw [rv_fb 200 (by decide)] at hreg
      have HRG := hid hreg
      have HLE : Hid ((loadVar 28 ⟨gO, 0, none⟩).run Tryz.prog wr = .ok (.agg #[.string ⟨#[]⟩, .string ⟨#[]⟩, .int .i64 0, .int .i64 nc]) wr) := ob_load HO.out
      clear hreg
      go_wp2_with (refine load_as HLE.out (.tmp 10) rfl rfl rfl ?_)
      refine HRG.out.mono ?_
      rintro e w4 ⟨rfl, hb⟩
      have HS4 := hid (HS.out.below hb)
      have HO4 := hid (HO.out.below hb)
      have HB4 := hid (bel HB.out hb)
      clear hb HRG HLE HS HO HB
      go_upto_region 17 with (fail)
      refine wp_region_inv (by kernel_rfl) (GP w4 (opU BLOB (nameR (fb p))) j (us (ents nc j)) (.string (strOf (nameT (fb p))))) [is (.pointer (some ⟨g, 0, none⟩)), any, is (.int .u8 (wh : Int)), is (.int .i64 (wh : Int)), is (.int .i64 (j : Int)), is (.int .i64 (p : Int)), any, is (.string (strOf (nameT (fb p)))), any, any, any, is (.int .i64 0), any, any, any] [[], [0], [], [2], [], [3, 4], [1, 5], [6], [7], [8], [9], [9], [], [0, 1, 2, 3, 4, 5, 6, 7, 8, 9, 10, 12], [11]] (by kernel_rfl) (by repeat (first | exact free_nil | refine free_is _ ?_ | refine free_any ?_)) ?_ ?_ ?_
      · exact fun t => beg w4 _ _ _ _ t
      · refine ⟨?_, ?_, ?_, ?_, ?_, ?_, ?_, ?_, ?_, ?_, ?_, ?_, ?_, ?_, ?_, trivial⟩
        · intro L t wq hG hL hC hN hh K hK
          clear hh
          simp only [filled, upd, Have, is, any, row, pick, Act.put, List.setIfInBounds_toArray, List.set_cons_zero, List.set_cons_succ, Nat.reduceAdd, Nat.reduceEqDiff, reduceIte] at hK ⊢
          go_simp
          exact hK _ _ rfl (Ubp.stab 0 (by decide) (Below.refl _ _) hG)
        · intro L t wq hG hL hC hN hh K hK
          have e0 := hh.1
          simp only [pick] at e0
          replace e0 : t 0 = (.pointer (some ⟨g, 0, none⟩)) := e0
          clear hh
          simp only [filled, upd, Have, is, any, row, pick, Act.put, List.setIfInBounds_toArray, List.set_cons_zero, List.set_cons_succ, Nat.reduceAdd, Nat.reduceEqDiff, reduceIte] at hK ⊢
          simp only [e0] at hK ⊢
          go_simp
          have h13 : L 13 = false := by
            cases h : L 13 with
            | false => rfl
            | true => exact absurd (hC 13 h 1 (by decide)) (by rw [hL]; simp)
          refine (urls_any _ g j _ _ (HS4.out.below hG.below) (by rw [ents_len]; exact hn64)).mono ?_
          rw [ents_len]
          rintro e w9 ⟨v, rfl, hown, hb9⟩
          obtain ⟨A, c, rfl, hc, hm, hr⟩ := owns_form hown
          exact hK _ _ trivial (low hG hb9 1 _ (by decide) (fun _ _ => ⟨A, c, rfl, hc, hm, hr⟩) (fun _ h => absurd h (by decide)) (fun h => absurd h (by decide)) (fun h => absurd h (by decide)) (fun h => absurd h (by decide)))
        · intro L t wq hG hL hC hN hh K hK
          clear hh
          simp only [filled, upd, Have, is, any, row, pick, Act.put, List.setIfInBounds_toArray, List.set_cons_zero, List.set_cons_succ, Nat.reduceAdd, Nat.reduceEqDiff, reduceIte] at hK ⊢
          go_simp
          exact hK _ _ rfl (Ubp.stab 2 (by decide) (Below.refl _ _) hG)
        · intro L t wq hG hL hC hN hh K hK
          have e2 := hh.1
          simp only [pick] at e2
          replace e2 : t 2 = (.int .u8 (wh : Int)) := e2
          clear hh
          simp only [filled, upd, Have, is, any, row, pick, Act.put, List.setIfInBounds_toArray, List.set_cons_zero, List.set_cons_succ, Nat.reduceAdd, Nat.reduceEqDiff, reduceIte] at hK ⊢
          simp only [e2] at hK ⊢
          go_simp
          exact hK _ _ (int_wrap (by omega) (by omega)) (Ubp.stab 3 (by decide) (Below.refl _ _) hG)
        · intro L t wq hG hL hC hN hh K hK
          clear hh
          simp only [filled, upd, Have, is, any, row, pick, Act.put, List.setIfInBounds_toArray, List.set_cons_zero, List.set_cons_succ, Nat.reduceAdd, Nat.reduceEqDiff, reduceIte] at hK ⊢
          go_simp
          exact hK _ _ rfl (Ubp.stab 4 (by decide) (Below.refl _ _) hG)
        · intro L t wq hG hL hC hN hh K hK
          have e3 := hh.1
          simp only [pick] at e3
          replace e3 : t 3 = (.int .i64 (wh : Int)) := e3
          have e4 := hh.2.1
          simp only [pick] at e4
          replace e4 : t 4 = (.int .i64 (j : Int)) := e4
          clear hh
          simp only [filled, upd, Have, is, any, row, pick, Act.put, List.setIfInBounds_toArray, List.set_cons_zero, List.set_cons_succ, Nat.reduceAdd, Nat.reduceEqDiff, reduceIte] at hK ⊢
          simp only [e3, e4] at hK ⊢
          have hq := HPT.out
          go_simp
          rw [if_neg (show ¬ j = 0 by omega)]
          exact hK _ _ rfl (Ubp.stab 5 (by decide) (Below.refl _ _) hG)
        · intro L t wq hG hL hC hN hh K hK
          have e5 := hh.2.1
          simp only [pick] at e5
          replace e5 : t 5 = (.int .i64 (p : Int)) := e5
          clear hh
          simp only [filled, upd, Have, is, any, row, pick, Act.put, List.setIfInBounds_toArray, List.set_cons_zero, List.set_cons_succ, Nat.reduceAdd, Nat.reduceEqDiff, reduceIte] at hK ⊢
          simp only [e5] at hK ⊢
          have h13 : L 13 = false := by
            cases h : L 13 with
            | false => rfl
            | true => exact absurd (hC 13 h 6 (by decide)) (by rw [hL]; simp)
          have h1 : L 1 = true := hN 1 (by decide)
          obtain ⟨A, c, e1, hc, hm, hr⟩ := hG.row h13 h1
          obtain ⟨b, off, rfl, hbb, hcell⟩ := hr.spot (by omega)
          have hcp := (hcell p (by rw [us_len, ents_len]; exact hpn)).trans (congrArg some (HUS.out _))
          simp only [e1] at hK ⊢
          go_simp
          exact hK _ _ trivial (low hG (Below.refl _ _) 6 _ (by decide) (fun _ h => absurd h (by decide)) (fun _ _ => ⟨_, rfl, hbb, hcp⟩) (fun h => absurd h (by decide)) (fun h => absurd h (by decide)) (fun h => absurd h (by decide)))
        · intro L t wq hG hL hC hN hh K hK
          clear hh
          simp only [filled, upd, Have, is, any, row, pick, Act.put, List.setIfInBounds_toArray, List.set_cons_zero, List.set_cons_succ, Nat.reduceAdd, Nat.reduceEqDiff, reduceIte] at hK ⊢
          have h13 : L 13 = false := by
            cases h : L 13 with
            | false => rfl
            | true => exact absurd (hC 13 h 7 (by decide)) (by rw [hL]; simp)
          obtain ⟨a, e6, ha, hcp⟩ := hG.ptr h13 (hN 6 (by decide))
          simp only [e6] at hK ⊢
          go_simp
          exact hK _ _ rfl (Ubp.stab 7 (by decide) (Below.refl _ _) hG)
        · intro L t wq hG hL hC hN hh K hK
          have e7 := hh.1
          simp only [pick] at e7
          replace e7 : t 7 = (.string (strOf (nameT (fb p)))) := e7
          clear hh
          simp only [filled, upd, Have, is, any, row, pick, Act.put, List.setIfInBounds_toArray, List.set_cons_zero, List.set_cons_succ, Nat.reduceAdd, Nat.reduceEqDiff, reduceIte] at hK ⊢
          simp only [e7] at hK ⊢
          go_simp
          refine (parse_c (parse_p (fine_name (fb p)) (by have := nameT_len (fb p); unfold nameT at this; omega) _ (HE.out.below (bel HB4.out hG.below)))).mono ?_
          rintro e w9 ⟨A9, n9, c9, rfl, hp9, hb9⟩
          obtain rfl : n9 = 0 := hp9.1.1.symm
          exact hK _ _ trivial (low hG hb9 8 _ (by decide) (fun _ h => absurd h (by decide)) (fun _ h => absurd h (by decide)) (fun _ => ⟨A9, c9, rfl, hp9.2.2⟩) (fun h => absurd h (by decide)) (fun h => absurd h (by decide)))
        · intro L t wq hG hL hC hN hh K hK
          clear hh
          simp only [filled, upd, Have, is, any, row, pick, Act.put, List.setIfInBounds_toArray, List.set_cons_zero, List.set_cons_succ, Nat.reduceAdd, Nat.reduceEqDiff, reduceIte] at hK ⊢
          obtain ⟨A9, c9, e8, hc9⟩ := hG.par (hN 8 (by decide))
          simp only [e8] at hK ⊢
          go_simp
          exact hK _ _ trivial (low hG (Below.refl _ _) 9 _ (by decide) (fun _ h => absurd h (by decide)) (fun _ h => absurd h (by decide)) (fun _ => ⟨A9, c9, rfl, hc9⟩) (fun h => absurd h (by decide)) (fun h => absurd h (by decide)))
        · intro L t wq hG hL hC hN hh K hK
          clear hh
          simp only [filled, upd, Have, is, any, row, pick, Act.put, List.setIfInBounds_toArray, List.set_cons_zero, List.set_cons_succ, Nat.reduceAdd, Nat.reduceEqDiff, reduceIte] at hK ⊢
          obtain ⟨A9, c9, e8, hc9⟩ := hG.mov (hN 9 (by decide))
          simp only [e8] at hK ⊢
          go_simp
          exact hK _ _ trivial (low hG (Below.refl _ _) 10 _ (by decide) (fun _ h => absurd h (by decide)) (fun _ h => absurd h (by decide)) (fun h => absurd h (by decide)) (fun _ => ⟨A9, c9, rfl, hc9⟩) (fun h => absurd h (by decide)))
        · intro L t wq hG hL hC hN hh K hK
          clear hh
          simp only [filled, upd, Have, is, any, row, pick, Act.put, List.setIfInBounds_toArray, List.set_cons_zero, List.set_cons_succ, Nat.reduceAdd, Nat.reduceEqDiff, reduceIte] at hK ⊢
          obtain ⟨A9, c9, e8, hc9⟩ := hG.mov (hN 9 (by decide))
          simp only [e8] at hK ⊢
          go_simp
          exact hK _ _ rfl (Ubp.stab 11 (by decide) (Below.refl _ _) hG)
        · intro L t wq hG hL hC hN hh K hK
          clear hh
          simp only [filled, upd, Have, is, any, row, pick, Act.put, List.setIfInBounds_toArray, List.set_cons_zero, List.set_cons_succ, Nat.reduceAdd, Nat.reduceEqDiff, reduceIte] at hK ⊢
          go_simp
          have h13 : L 13 = false := by
            cases h : L 13 with
            | false => rfl
            | true => exact absurd (hC 13 h 12 (by decide)) (by rw [hL]; simp)
          go_simp
          exact hK _ _ trivial (low hG ((Below.refl _ _).alloc (Nat.le_refl _) _) 12 _ (by decide) (fun _ h => absurd h (by decide)) (fun _ h => absurd h (by decide)) (fun h => absurd h (by decide)) (fun h => absurd h (by decide)) (fun _ => ⟨h13, wq.heap.size, rfl, hG.below.size, by have h := heap_alloc_new wq (Obj.cells (cells U0 (.slice none 0 0)) 34); exact h⟩))
        · intro L t wq hG hL hC hN hh K hK
          have e0 := hh.1
          simp only [pick] at e0
          replace e0 : t 0 = (.pointer (some ⟨g, 0, none⟩)) := e0
          have e2 := hh.2.2.1
          simp only [pick] at e2
          replace e2 : t 2 = (.int .u8 (wh : Int)) := e2
          have e3 := hh.2.2.2.1
          simp only [pick] at e3
          replace e3 : t 3 = (.int .i64 (wh : Int)) := e3
          have e4 := hh.2.2.2.2.1
          simp only [pick] at e4
          replace e4 : t 4 = (.int .i64 (j : Int)) := e4
          have e5 := hh.2.2.2.2.2.1
          simp only [pick] at e5
          replace e5 : t 5 = (.int .i64 (p : Int)) := e5
          have e7 := hh.2.2.2.2.2.2.2.1
          simp only [pick] at e7
          replace e7 : t 7 = (.string (strOf (nameT (fb p)))) := e7
          clear hh
          simp only [filled, upd, Have, is, any, row, pick, Act.put, List.setIfInBounds_toArray, List.set_cons_zero, List.set_cons_succ, Nat.reduceAdd, Nat.reduceEqDiff, reduceIte] at hK ⊢
          simp only [e0, e2, e3, e4, e5, e7] at hK ⊢
          obtain ⟨A9, c9, e10, hc9⟩ := hG.val (hN 10 (by decide))
          obtain ⟨gu, e12, hgu, hub, _⟩ := hG.box (hN 12 (by decide))
          simp only [e10, e12] at hK ⊢
          refine step_box (hub hL) (opU BLOB (nameR (fb p))) A9 0 c9 (.tmp 18) (.tmp 82) rfl rfl rfl rfl ?_
          exact hK undef _ trivial (put hG e12 hgu (hub hL) hc9 undef)
        · intro L t wq hG hL hC hN hh K hK
          have e11 := hh.1
          simp only [pick] at e11
          replace e11 : t 11 = (.int .i64 0) := e11
          clear hh
          simp only [filled, upd, Have, is, any, row, pick, Act.put, List.setIfInBounds_toArray, List.set_cons_zero, List.set_cons_succ, Nat.reduceAdd, Nat.reduceEqDiff, reduceIte] at hK ⊢
          simp only [e11] at hK ⊢
          go_simp
          go_simp
          exact hK _ _ trivial (Ubp.stab 14 (by decide) (Below.refl _ _) hG)
      · intro Lz t wq hG hall hh
        have f11 := have_get hh 11 (by decide)
        simp only [pick] at f11
        replace f11 : t 11 = (.int .i64 0) := f11
        clear hh
        simp only [filled, upd, Have, is, any, row, pick, Act.put, List.setIfInBounds_toArray, List.set_cons_zero, List.set_cons_succ, Nat.reduceAdd, Nat.reduceEqDiff, reduceIte]
        simp only [f11]
        obtain ⟨gu, e12, hgu, _, hub⟩ := hG.box (hall 12 (by decide))
        obtain ⟨A8, c8, hc8, hub⟩ := hub (hall 13 (by decide))
        simp only [e12]
        have HUB := hid hub
        have HB5 := hid (bel HB4.out hG.below)
        have HS6 : Hid (IsS 114 121 (Value.int .i64) w1.heap.size g j (ents nc j) wq) := HS4.out.below hG.below
        have HO6 : Hid (OB wq gO ⟨#[]⟩ ⟨#[]⟩ 0 nc) := HO4.out.below hG.below
        have HP8 : Hid (PthIs wq (opU BLOB (nameR (fb p))) A8 0 c8) := ⟨⟨rfl, fun k hk => absurd hk (Nat.not_lt_zero _)⟩, Nat.zero_le _, hc8⟩
        clear hG hall hub hgu HS4 HO4 HB4
        generalize wq = w5 at HUB HB5 HS6 HO6 HP8 ⊢
        have HLD : Hid ((loadVar 34 ⟨gu, 0, none⟩).run Tryz.prog w5 = .ok (.agg (cells (opU BLOB (nameR (fb p))) (.slice A8 0 c8))) w5) := HUB.out.load
        have HLE : Hid ((loadVar 28 ⟨gO, 0, none⟩).run Tryz.prog w5 = .ok (.agg #[.string ⟨#[]⟩, .string ⟨#[]⟩, .int .i64 0, .int .i64 nc]) w5) := ob_load HO6.out
        go_wp2_with (first | refine load_as HLD.out (.tmp 18) rfl rfl rfl ?_ | refine load_as HLE.out (.tmp 10) rfl rfl rfl ?_)
        refine (rev_yes _ g j (ents nc j) (cells (opU BLOB (nameR (fb p))) (.slice A8 0 c8)) (strOf (nameT (fb p))) ⟨#[]⟩ ⟨#[]⟩ 0 nc _ HS6.out (by rw [ents_len]; exact hn64) rfl p (by rw [ents_len]; exact hpn) (idx_ents hpn hn64) (has_ents hpn hn64) (hid fun w' hb => bare_o (S := BLOB) (R := nameR (fb p)) (b := false) (F := []) (by decide) (by have := nameT_len (fb p); unfold nameT at this; simp only [List.length_append, List.length_cons] at this; omega) (by decide) A8 0 c8 w' (pth_any rfl HP8.out) (HE.out.below (bel HB5.out hb)).pow)).mono ?_
        rintro e w6 ⟨rfl, hS, hb, hk⟩
        have HS7 := hid hS
        have HB7 : Hid (Below w.heap.size w w6) := HB5.out.trans (hb.mono HW1.out)
        have HO7 : Hid (OB w6 gO ⟨#[]⟩ ⟨#[]⟩ 0 nc) := hk.cells HO6.out (by decide) (by decide)
        have HLF : Hid ((loadVar 28 ⟨gO, 0, none⟩).run Tryz.prog w6 = .ok (.agg #[.string ⟨#[]⟩, .string ⟨#[]⟩, .int .i64 0, .int .i64 nc]) w6) := ob_load HO7.out
        have HEL : Hid (((ents nc j).eraseIdx p).length = j - 1) := by show _ = _; rw [List.length_eraseIdx, ents_len, if_pos hpn]
        have hreg := reg_null_ok w1.heap.size g j ((ents nc j).eraseIdx p) ⟨#[]⟩ 0 nc 0 (fb 200) w6 HS7.out hn64 (by rw [HEL.out]; omega) (by rw [HEL.out]; omega) (idx_far hn64)
        rw [rv_fb 200 (by decide)] at hreg
        have HRG := hid hreg
        clear hS hb hk HLD HLE HS6 HO6 HB5 HUB hreg
        go_wp2_with (refine load_as HLF.out (.tmp 10) rfl rfl rfl ?_)
        refine HRG.out.mono ?_
        rintro e w7 ⟨rfl, hS, hb, hk⟩
        have HS8 := hid hS
        have HB8 : Hid (Below w.heap.size w w7) := HB7.out.trans (hb.mono HW1.out)
        clear hS hb hk HRG HLF HO7
        go_wp2_with fail
        refine (urls_any _ g j _ _ HS8.out (by rw [List.length_append, HEL.out]; simp only [List.length_cons, List.length_nil]; omega)).mono ?_
        rw [List.length_append, HEL.out]
        simp only [List.length_cons, List.length_nil]
        rw [show j - 1 + (0 + 1) = j by omega]
        rintro e w9 ⟨v, rfl, hown, hb9⟩
        obtain ⟨A, c, rfl, hc, hm, hr⟩ := owns_form hown
        have HB9 := hid (bel HB8.out hb9)
        clear hb9 hown hr
        go_wp2
        go_ret
        exact ⟨rfl, HB9.out⟩
end Go.Proofs.YthajldjmplfnaaaGreatDoor.Laws
