/- The law StackBack, walked. -/
import Derived.Test.YtmpeaoacaecgpaaGreatDoorYAT
import Derived.Test.YtmpeaoacaecgpaaGreatDoorYAY
import Derived.Test.YtmpeaoacaecgpaaGreatDoorYAW
set_option linter.unusedSimpArgs false
set_option linter.unusedVariables false
namespace Go.Proofs.YtmpeaoacaecgpaaGreatDoor.Laws
open Go.RowKit Go.Proofs.YtmpeaoacaecgpaaGreatDoor.Base Go.Proofs.YtmpeaoacaecgpaaGreatDoor.Base2 Go.Proofs.YtmpeaoacaecgpaaGreatDoor.UG
open Go.Proofs.YtmpeaoacaecgpaaGreatDoor.StkX (abN)
open Go.Proofs.YtmpeaoacaecgpaaGreatDoor.acn (abP)
open Go.Proofs.YtmpeaoacaecgpaaGreatDoor.jQ (oI)
open Go.Proofs.YtmpeaoacaecgpaaGreatDoor.pO (Max)
open Go.Proofs.YtmpeaoacaecgpaaGreatDoor.vZ (rD)
set_option linter.unusedSimpArgs false
set_option linter.unusedVariables false
def ace (l : List UInt8) (k : Nat) : List UInt8 := (l.take k).map oP.bs ++ l.drop k
theorem acd (l : List UInt8) (k : Nat) : (ace l k).length = l.length := by simp [ace]; omega
theorem ach (l : List UInt8) (k : Nat) (h : k < l.length) : (ace l k)[k]'(by rw [acd]; exact h) = l[k] := by
  have : k ≤ l.length := by omega
  simp [ace, List.getElem_append, this, Nat.min_eq_left this]
theorem acf (l : List UInt8) (k : Nat) (h : k < l.length) : ace l (k + 1) = (ace l k).set k (oP.bs l[k]) := by
  unfold ace
  apply List.ext_getElem
  · simp; omega
  · intro i h1 h2
    simp only [List.getElem_append, List.getElem_set, List.length_map, List.length_take, List.getElem_map, List.getElem_take, List.getElem_drop]
    by_cases a : i < k
    · rw [dif_pos (by omega), if_neg (by omega), dif_pos (by omega)]
    · by_cases b : i = k
      · subst b
        rw [dif_pos (by omega), if_pos rfl]
      · rw [dif_neg (by omega), if_neg (by omega), dif_neg (by omega)]
        congr 1
        omega
theorem agO (l : List UInt8) : ace l l.length = l.map oP.bs := by simp [ace]
theorem acY (l : List UInt8) : ace l 0 = l := by simp [ace]
theorem acR {l : List UInt8} {k : Nat} (h : k < l.length) (c : UInt8) (e : l[k] = c) : l.set k c = l := by subst e; simp
set_option maxRecDepth 100000 in
set_option maxHeartbeats 8000000 in
theorem acg (b0 : Bool) (s0 : ByteArray) (w : World) (h0 : s0.size ≤ 140737488351232) (hT : Tab.Pow w) (hL : oI w) (hM : Max w) (hU : rD w) : Calls Tryz.prog 8 #[.bool b0, .string s0] w fun e w' => e = .returned (.bool true) ∧ Below w.heap.size w w' := by
  have HE := hid (⟨hT, hL, hM, hU⟩ : Env w)
  have JM : Hid (∀ w : World, Env w → Calls Tryz.prog 37 #[] w fun e w' => e = .returned (.bool true) ∧ Below w.heap.size w w') := fun w E => StkH.awake27 w ⟨E.pow, E.max⟩
  clear hT hL hM hU
  by_cases hl : s0.size ≤ 500
  · have hli : ¬ (500 : Int) < (s0.size : Int) := by omega
    cases b0 with
    | false =>
      obtain ⟨f, hf⟩ : ∃ f, yu.fine s0.data.toList = f := ⟨_, rfl⟩
      cases f with
      | false =>
        have HU0 : Hid (∀ w : World, Env w → Calls Tryz.prog 38 #[.int .i64 0, .string s0] w fun e w' => e = .returned (.tuple #[.string ⟨#[]⟩, .int .i64 2]) ∧ Below w.heap.size w w') := fun w E => abN hf (by omega) w E
        clear hf hl h0
        go_enter Tryz.func8, Tryz.ntmps8
        go_wp2_with fail
        refine (JM.out _ HE.out).mono ?_
        rintro e w1 ⟨rfl, hb⟩
        have HB1 := hid hb
        have sO := hid (HE.out.below hb)
        clear hb
        go_wp2_with fail
        refine (HU0.out _ sO.out).mono ?_
        rintro e w2 ⟨rfl, hb⟩
        have HB2 := hid (bel HB1.out hb)
        have xY := hid (sO.out.below hb)
        clear hb
        go_wp2
        go_ret
        exact ⟨rfl, HB2.out⟩
      | true =>
        have hF := PosX.fin_of hf
        obtain ⟨u, hu⟩ : ∃ u, u = PosP.DY (sW.spl 47 (s0.data.toList.drop 1)) := ⟨_, rfl⟩
        rw [← hu] at hF
        obtain ⟨P, Qr⟩ : ∃ P, P = strOf (wo.fQ u) := ⟨_, rfl⟩
        have hsz : s0.data.toList.length = s0.size := Array.length_toList
        have hPs : P.size ≤ 65536 := by rw [Qr, size_strOf]; have := hF.print; omega
        have ha : PrsP.url P.data.toList none = some u := by rw [Qr]; exact hF.again
        have HU1 : Hid (∀ w : World, Env w → Calls Tryz.prog 38 #[.int .i64 0, .string s0] w fun e w' => e = .returned (.tuple #[.string P, .int .i64 0]) ∧ Below w.heap.size w w') := fun w E => by rw [Qr]; exact StkX.abO hF (by omega) w E
        have yc : Hid (∀ w : World, Env w → Calls Tryz.prog 39 #[.int .i64 0, .string P] w fun e w' => e = .returned (.tuple #[.string s0, .int .i64 0]) ∧ Below w.heap.size w w') := fun w E => by
          have k := StkX.toPathP ha hPs (by have := hF.len; omega) w E
          rw [hF.back, aG] at k
          exact k
        have HQ : Hid ((s0.toList == s0.toList) = true) := beq_self_eq_true _
        clear hf hl h0 hu hF Qr hPs ha hsz
        go_enter Tryz.func8, Tryz.ntmps8
        go_wp2_with fail
        refine (JM.out _ HE.out).mono ?_
        rintro e w1 ⟨rfl, hb⟩
        have HB1 := hid hb
        have sO := hid (HE.out.below hb)
        clear hb
        go_wp2_with fail
        refine (HU1.out _ sO.out).mono ?_
        rintro e w2 ⟨rfl, hb⟩
        have HB2 := hid (bel HB1.out hb)
        have xY := hid (sO.out.below hb)
        clear hb
        go_wp2_with fail
        refine (yc.out _ xY.out).mono ?_
        rintro e w3 ⟨rfl, hb⟩
        have HB3 := hid (bel HB2.out hb)
        have vV := hid (xY.out.below hb)
        clear hb
        have qs := HQ.out
        go_wp2
        go_ret
        exact ⟨rfl, HB3.out⟩
    | true =>
      obtain ⟨f, hf⟩ : ∃ f, oP.sK s0.data.toList = f := ⟨_, rfl⟩
      cases f with
      | false =>
        have HU0 : Hid (∀ w : World, Env w → Calls Tryz.prog 38 #[.int .i64 1, .string s0] w fun e w' => e = .returned (.tuple #[.string ⟨#[]⟩, .int .i64 2]) ∧ Below w.heap.size w w') := fun w E => abP (Option.not_isSome_iff_eq_none.1 (by rw [oP.sJ, hf]; decide)) (by omega) w E
        clear hf hl h0
        go_enter Tryz.func8, Tryz.ntmps8
        go_wp2_with fail
        refine (JM.out _ HE.out).mono ?_
        rintro e w1 ⟨rfl, hb⟩
        have HB1 := hid hb
        have sO := hid (HE.out.below hb)
        clear hb
        go_wp2_with fail
        refine (HU0.out _ sO.out).mono ?_
        rintro e w2 ⟨rfl, hb⟩
        have HB2 := hid (bel HB1.out hb)
        have xY := hid (sO.out.below hb)
        clear hb
        go_wp2
        go_ret
        exact ⟨rfl, HB2.out⟩
      | true =>
        obtain ⟨v, hv⟩ : ∃ v, oP.iM s0.data.toList = some v := Option.isSome_iff_exists.1 (by rw [oP.sJ]; exact hf)
        obtain ⟨u, hu⟩ : ∃ u, u = Ph.nZ v := ⟨_, rfl⟩
        have hsz : s0.data.toList.length = s0.size := Array.length_toList
        obtain ⟨P, Qr⟩ : ∃ P, P = strOf (wo.fQ u) := ⟨_, rfl⟩
        have hlen := acn.an4 hv
        rw [hsz] at hlen
        have hPs : P.size ≤ 65536 := by rw [Qr, size_strOf, hu]; omega
        have ha : PrsP.url P.data.toList none = some u := by rw [Qr, hu]; exact Ph.aiW hv
        have HU1 : Hid (∀ w : World, Env w → Calls Tryz.prog 38 #[.int .i64 1, .string s0] w fun e w' => e = .returned (.tuple #[.string P, .int .i64 0]) ∧ Below w.heap.size w w') := fun w E => by rw [Qr, hu]; exact acn.abQ hv (by omega) (by omega) w E
        obtain ⟨Q, hQ⟩ : ∃ Q, Q = strOf (s0.data.toList.map oP.bs) := ⟨_, rfl⟩
        have yc : Hid (∀ w : World, Env w → Calls Tryz.prog 39 #[.int .i64 1, .string P] w fun e w' => e = .returned (.tuple #[.string Q, .int .i64 0]) ∧ Below w.heap.size w w') := fun w E => by
          have k := acn.acH ha hPs (by rw [hu]; exact acn.an5 hv (by rw [hsz]; omega)) w E
          rw [hu, WinZ.an6 hv] at k
          rw [hQ]
          exact k
        have HQD := hid hQ
        have HQ : Hid ((Q.toList == Q.toList) = true) := beq_self_eq_true _
        clear hf hu hv Qr hPs ha hsz hlen hQ
        go_enter Tryz.func8, Tryz.ntmps8
        go_wp2_with fail
        refine (JM.out _ HE.out).mono ?_
        rintro e w1 ⟨rfl, hb⟩
        have HB1 := hid hb
        have sO := hid (HE.out.below hb)
        clear hb
        go_wp2_with fail
        refine (HU1.out _ sO.out).mono ?_
        rintro e w2 ⟨rfl, hb⟩
        have HB2 := hid (bel HB1.out hb)
        have xY := hid (sO.out.below hb)
        clear hb
        have hcv := fun (w : World) s => run_bytes_of_string (P := Tryz.prog) w 9 45 5 s Tryz.underlying9 Tryz.underlying45 Tryz.underlying5
        go_wp2_with fail
        refine (yc.out _ xY.out).mono ?_
        rintro e w3 ⟨rfl, hb⟩
        have HB3 := hid (bel HB2.out hb)
        have vV := hid (xY.out.below hb)
        clear hb
        have Gh : Hid (s0.size ≤ grownCap w3 s0.size 0 5) := grownCap_ge w3 s0.size 0 5
        have HGE : Hid (w.heap.size ≤ w3.heap.size) := HB3.out.size
        go_wp2
        clear hcv
        go_loopw [11, 46] (fun _ i wr => ∃ k : Nat, k ≤ s0.size ∧ i = .int .i64 (k : Int) ∧ Hid (oK wr w3.heap.size 5 (ace s0.data.toList k)) ∧ Hid (Below w.heap.size w wr)) (fun _ i _ => s0.size - (intOf i).toNat)
        case atStart => exact ⟨0, Nat.zero_le _, rfl, (by show oK _ _ _ _; rw [acY]; exact oK.made w3 s0 5 _ Gh.out), by show Below _ _ _; exact bel HB3.out ((Below.refl _ _).alloc (Nat.le_refl _) _).drew⟩
        case round =>
          obtain ⟨k, hk, rfl, HR, HBL⟩ := hrel
          by_cases hlt : k < s0.size
          · have hkl : k < s0.data.toList.length := by rw [Array.length_toList]; exact hlt
            obtain ⟨c, hcs⟩ : ∃ c : UInt8, c = s0.data.toList[k] := ⟨_, rfl⟩
            have hc : wr.cell? ⟨w3.heap.size, k, none⟩ = some (.int .u8 (c.toNat : Int)) := by
              rw [hcs, HR.out.cell k (by rw [acd]; exact hkl)]
              simp only [ach s0.data.toList k hkl]
            have hfz := HR.out.frozen k (by rw [acd]; exact hkl)
            have HC := hid hcs
            clear hcs
            by_cases hA : c = 47
            · have hA1 : ((c.toNat : Int) == 47) = true := by rw [hA]; rfl
              have HBS : Hid (oP.bs c = 92) := by show _ = _; rw [hA]; rfl
              clear hA
              go_wp2
              go_roundw
              case rel => exact ⟨k + 1, by omega, by go_num, (by
                show oK _ _ _ _
                have := HR.out.set k 92
                rw [acf s0.data.toList k hkl, ← HC.out, HBS.out]
                exact this), HBL.out.setCell HGE.out _⟩
              case measure => simp [intOf]; omega
            · have hA1 : ((c.toNat : Int) == 47) = false := by
                refine beq_false_of_ne fun x => hA (UInt8.toNat_inj.1 ?_)
                show c.toNat = 47
                omega
              have HBS : Hid (oP.bs c = c) := WinR.agR hA
              clear hA
              go_wp2
              go_roundw
              case rel => exact ⟨k + 1, by omega, by go_num, (by
                show oK _ _ _ _
                rw [acf s0.data.toList k hkl, ← HC.out, HBS.out, acR (by rw [acd]; exact hkl) c (by rw [ach _ _ hkl, HC.out])]
                exact HR.out), HBL.out⟩
              case measure => simp [intOf]; omega
          · obtain rfl : k = s0.size := by omega
            have hrow := HR.out
            have hback := run_convert_bytes_back (P := Tryz.prog) wr 45 9 5 ⟨w3.heap.size, 0, none⟩ (grownCap w3 s0.size 0 5) (ace s0.data.toList s0.size) Tryz.underlying45 Tryz.underlying5 Tryz.underlying9 (fun j hj => by
              have := hrow.cell j hj
              rw [Xd]; exact this)
            rw [acd, show s0.data.toList.length = s0.size from Array.length_toList, show ace s0.data.toList s0.size = s0.data.toList.map oP.bs from agO _, show (⟨(s0.data.toList.map oP.bs).toArray⟩ : ByteArray) = Q from HQD.out.symm] at hback
            clear hrow
            have qs := HQ.out
            go_wp2
            go_ret
            exact ⟨rfl, HBL.out⟩
  · have hli : (500 : Int) < (s0.size : Int) := by omega
    clear hl
    go_enter Tryz.func8, Tryz.ntmps8
    go_wp2_with fail
    refine (JM.out _ HE.out).mono ?_
    rintro e w1 ⟨rfl, hb⟩
    have HB1 := hid hb
    have sO := hid (HE.out.below hb)
    clear hb
    go_wp2_with fail
    refine (JM.out _ sO.out).mono ?_
    rintro e w2 ⟨rfl, hb⟩
    have HB2 := hid (bel HB1.out hb)
    have xY := hid (sO.out.below hb)
    clear hb
    go_wp2
    go_ret
    exact ⟨rfl, HB2.out⟩
end Go.Proofs.YtmpeaoacaecgpaaGreatDoor.Laws
