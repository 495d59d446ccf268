/- The walk of the law PathStill: it returns true, whatever it is called with. -/
import Derived.Test.YtpodicomfmkpcaaPthQ
namespace Go.Proofs.Ytpodicomfmkpcaa.Laws
open Go.RowKit Go.Proofs.Ytpodicomfmkpcaa.Base Go.Proofs.Ytpodicomfmkpcaa.Base2 Go.Proofs.Ytpodicomfmkpcaa.Base3 Go.Proofs.Ytpodicomfmkpcaa.PthP Go.Proofs.Ytpodicomfmkpcaa.PthE Go.Proofs.Ytpodicomfmkpcaa.PthG Go.Proofs.Ytpodicomfmkpcaa.PthH Go.Proofs.Ytpodicomfmkpcaa.PthI Go.Proofs.Ytpodicomfmkpcaa.PthJ Go.Proofs.Ytpodicomfmkpcaa.PthL Go.Proofs.Ytpodicomfmkpcaa.PthM Go.Proofs.Ytpodicomfmkpcaa.PthN Go.Proofs.Ytpodicomfmkpcaa.PthQ

set_option linter.unusedSimpArgs false in
set_option maxRecDepth 100000 in
set_option maxHeartbeats 4000000 in
theorem PathStill_any (file sp : Bool) (s : ByteArray) (w : World) (_hs : s.size ≤ maxLen) :
    Calls Try.prog 5 #[.bool file, .bool sp, .string s] w fun e w' => e = .returned (.bool true) ∧ Below w.heap.size w w' := by
  obtain ⟨l, hl⟩ : ∃ l, l = wb file sp [] [] s.data.toList := ⟨_, rfl⟩
  have hsl : s.data.toList.length = s.size := Array.length_toList
  obtain ⟨hst1, hst2⟩ := still file sp s.data.toList
  rw [← hl] at hst1 hst2
  have hne : l ≠ [] := by rw [hl]; exact wb_some' file sp _ _ _
  have hlen : l.length ≤ s.size + 1 := by have := length_wb file sp s.data.toList [] []; rw [← hl, hsl] at this; simpa using this
  rw [hsl] at hst2
  have HL := hid hl
  have HS1 := hid hst1
  have HS2 := hid hst2
  have HNE := hid hne
  obtain ⟨n, hn⟩ : ∃ n, n = l.length := ⟨_, rfl⟩
  rw [← hn] at hlen
  have hn0 : 0 < n := by rw [hn]; exact List.length_pos_iff.2 hne
  have HN := hid hn
  clear hl hst1 hst2 hne hn hsl
  go_enter Try.func5, Try.ntmps5
  go_wp2_with fail
  refine (PthW.awake_any _).mono ?_
  rintro e w2 ⟨rfl, hb2⟩
  by_cases h400 : s.size ≤ 400
  · go_wp2_with fail
    refine (walk_any file sp none 0 0 [] s _ (Rds.nil _) (Nat.le_refl _) (Nat.zero_le _) (by omega)).mono ?_
    rw [← HL.out]
    rintro e w3 ⟨v3, rfl, hown3, hb3⟩
    rw [← HN.out] at hown3
    obtain ⟨vA, vc, rfl, hvnc, hvcm, hvR⟩ := owns_form hown3
    have HVR := hid hvR
    have HB3 : Hid (Below w.heap.size w w3) := bel hb2 hb3
    clear hvR hown3 hb3
    go_wp2
    go_loopw [8, 9, 24] (fun vt _ vk wr => ∃ k : Nat, k ≤ n ∧ vk = .int .i64 (k : Int) ∧ wr = w3 ∧ vt = .string (strOf (joinL ((l.take k).map (·.data.toList))))) (fun _ _ vk _ => n - (intOf vk).toNat)
    case atStart => exact ⟨0, Nat.zero_le _, rfl, rfl, rfl⟩
    case round =>
      obtain ⟨k, hk, rfl, rfl, rfl⟩ := hrel
      obtain ⟨X, hX⟩ : ∃ X, X = joinL ((l.take k).map (·.data.toList)) := ⟨_, rfl⟩
      have hXl : X.length ≤ k * (3 * s.size + 3) := by
        have := len_join ((l.take k).map (·.data.toList)) (3 * s.size + 2) (fun y hy => by
          obtain ⟨x, hx, rfl⟩ := List.mem_map.1 hy
          rw [Array.length_toList]
          exact HS2.out x (List.mem_of_mem_take hx))
        rw [← hX, List.length_map, List.length_take, Nat.min_eq_left (by rw [← HN.out]; exact hk)] at this
        exact this
      have hXb : X.length ≤ 482403 := Nat.le_trans hXl (Nat.le_trans (Nat.mul_le_mul (show k ≤ 401 by omega) (show 3 * s.size + 3 ≤ 1203 by omega)) (by decide))
      rw [← hX]
      have HX := hid hX
      clear hX hXl
      by_cases hlt : k < n
      · have hkl : k < l.length := by rw [← HN.out]; exact hlt
        obtain ⟨g, off, rfl, hg, hcell⟩ := HVR.out.spot (by omega)
        have hc1 := hcell k (by rw [List.length_map]; exact hkl)
        rw [List.getElem_map] at hc1
        obtain ⟨x, hx⟩ : ∃ x, x = l[k] := ⟨_, rfl⟩
        have hxs : x.size ≤ 1202 := by have := HS2.out x (by rw [hx]; exact List.getElem_mem _); omega
        have HT : Hid ((l.take (k + 1)).map (·.data.toList) = (l.take k).map (·.data.toList) ++ [x.data.toList]) := by show _ = _; rw [hx, take_snoc l k hkl, List.map_append]; rfl
        rw [← hx] at hc1
        clear hx hcell
        by_cases hk0 : k = 0
        · subst hk0
          rw [Nat.add_zero] at hc1
          have HX0 : Hid (X = []) := by show _ = _; rw [HX.out]; rfl
          have a2 : ∀ w : World, (Op.stringOp .add (strOf X) x).run Try.prog w = .ok (.string x) w := fun w => by
            rw [HX0.out]
            have := str_add' (P := Try.prog) (strOf []) x w (by rw [size_strOf]; simp; omega)
            rw [this]
            show Result.ok (Value.string (strOf ([] ++ x.data.toList))) w = _
            rw [List.nil_append, strOf_toList]
          clear hkl
          go_wp2
          go_roundw
          case rel => exact ⟨1, by omega, by go_num, by first | rfl | trivial, by rw [HT.out]; show Value.string x = Value.string (strOf x.data.toList); rw [strOf_toList]⟩
          case measure => simp [intOf]; omega
        · have hkp : (0 : Int) < (k : Int) := by omega
          have a2 : ∀ w : World, (Op.stringOp .add (strOf X) ⟨#[47]⟩).run Try.prog w = .ok (.string (strOf (X ++ [47]))) w := fun w => str_add X [47] w (by simp; omega)
          have a3 : ∀ w : World, (Op.stringOp .add (strOf (X ++ [47])) x).run Try.prog w = .ok (.string (strOf (X ++ [47] ++ x.data.toList))) w := fun w => str_add' (strOf (X ++ [47])) x w (by rw [size_strOf]; simp; omega)
          have HTT : Hid (joinL ((l.take (k + 1)).map (·.data.toList)) = X ++ [47] ++ x.data.toList) := by
            show _ = _
            rw [HT.out, joinL_snoc _ _ (fun h => hk0 (by
              have := congrArg List.length h
              simp only [List.length_map, List.length_take, List.length_nil] at this
              omega)), HX.out]
          obtain ⟨Y, hY⟩ : ∃ Y, Y = strOf (X ++ [47] ++ x.data.toList) := ⟨_, rfl⟩
          obtain ⟨Y1, hY1⟩ : ∃ Y1, Y1 = strOf (X ++ [47]) := ⟨_, rfl⟩
          rw [← hY, ← hY1] at a3
          rw [← hY1] at a2
          have HY := hid hY
          clear hY hY1 hkl hk0
          go_wp2
          go_roundw
          case rel => exact ⟨k + 1, by omega, by go_num, by first | rfl | trivial, by rw [HTT.out, HY.out]⟩
          case measure => simp [intOf]; omega
      · obtain rfl : k = n := by omega
        have HXX : Hid (X = joinL (l.map (·.data.toList))) := by show _ = _; rw [HX.out, List.take_of_length_le (by rw [← HN.out]; exact Nat.le_refl _)]
        obtain ⟨Z, hZ⟩ : ∃ Z, Z = strOf X := ⟨_, rfl⟩
        have hzs : Z.size ≤ 482403 := by rw [hZ, size_strOf]; exact hXb
        have HZ : Hid (Z.data.toList = joinL (l.map (·.data.toList))) := by show _ = _; rw [hZ, ← HXX.out]; rfl
        rw [← hZ]
        have q1 : ((k : Int) == 0) = false := by simp; omega
        clear hZ
        go_wp2_with fail
        refine (walk_any file sp none 0 0 [] Z _ (Rds.nil _) (Nat.le_refl _) (Nat.zero_le _) (by omega)).mono ?_
        rw [HZ.out, HS1.out]
        rintro e w7 ⟨v7, rfl, hown7, hb7⟩
        obtain ⟨uA, uc, rfl, hunc, hucm, huR⟩ := owns_form hown7
        have HUR := hid huR
        have HB7 : Hid (Below w.heap.size w w7) := bel HB3.out hb7
        have HVR7 := hid (HVR.out.below hb7)
        clear huR hown7 hb7
        go_wp2_with fail
        refine (ref10_any _ _ _ _ _ _ _ _ _ HUR.out HVR7.out hunc hucm hvnc hvcm).mono ?_
        rintro e w8 ⟨rfl, hb8⟩
        rw [decide_eq_true rfl]
        go_wp2
        go_ret
        exact ⟨rfl, bel HB7.out hb8⟩
  · go_wp2_with fail
    refine (PthW.awake_any _).mono ?_
    rintro e w3 ⟨rfl, hb3⟩
    go_wp2
    go_ret
    exact ⟨rfl, bel hb2 hb3⟩
end Go.Proofs.Ytpodicomfmkpcaa.Laws
