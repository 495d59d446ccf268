/- Components as segments, by the code and by the document. -/
import Derived.Test.YtleecmapaihhmaaDoorPosA
import Derived.Test.YtleecmapaihhmaaDoorPosS
import Derived.Test.YtleecmapaihhmaaDoorMZ
import Derived.Test.YtleecmapaihhmaaDoorEscK
import Derived.Test.YtleecmapaihhmaaDoorEscR
set_option linter.unusedSimpArgs false
set_option linter.unusedVariables false
namespace Go.Proofs.YtleecmapaihhmaaDoor.PosC
open Go.RowKit Go.Proofs.YtleecmapaihhmaaDoor.Base Go.Proofs.YtleecmapaihhmaaDoor.Base2 Go.Proofs.YtleecmapaihhmaaDoor.Base3 Go.Proofs.YtleecmapaihhmaaDoor.BldA Go.Proofs.YtleecmapaihhmaaDoor.BldK Go.Proofs.YtleecmapaihhmaaDoor.SlsP Go.Proofs.YtleecmapaihhmaaDoor.Sls Go.Proofs.YtleecmapaihhmaaDoor.PosA
open Go.Proofs.YtleecmapaihhmaaDoor.PosS (byteAll seg seg_app seg_len)
open Go.Proofs.YtleecmapaihhmaaDoor.EscR (str_cut)

theorem in4 (c : UInt8) (w : World) : Calls Tryd.prog 30 #[.int .i64 4, .int .u8 (c.toNat : Int)] w fun e w' => e = .returned (.bool (EscI.inS 4 c.toNat)) ∧ w = w' := by
  by_cases h : 32 ≤ (c.toNat : Int) ∧ (c.toNat : Int) ≤ 126
  · exact EscI.ref_4 _ w h.1 h.2
  · exact EscI.ref_far 4 _ w (by omega) (by omega) (by omega)
/-- The bytes that a path has as they are, but that would be read otherwise. -/
def alike (c : UInt8) : Bool := [37, 92, 124].contains c
theorem seg1 (c : UInt8) : (alike c = true → EscE.enc 6 [c] = PosS.one c) ∧ (alike c = false → EscE.enc 4 [c] = PosS.one c) :=
  byteAll (p := fun c => (alike c = true → EscE.enc 6 [c] = PosS.one c) ∧ (alike c = false → EscE.enc 4 [c] = PosS.one c)) (by decide +kernel) c
theorem one_row (c : UInt8) (w : World) : Rds (w.alloc (.cells #[.int .u8 (c.toNat : Int)] 5)) (some ⟨w.heap.size, 0, none⟩) 1 (bcells [c]) := rds_const w [c] 5 (0, 0)
theorem seg_snoc (L : List UInt8) (c : UInt8) : seg (L ++ [c]) = seg L ++ PosS.one c := by rw [seg_app]; congr 1; simp [seg]
theorem one_len (c : UInt8) : (PosS.one c).length ≤ 3 := by unfold PosS.one; split <;> simp
set_option linter.unusedSimpArgs false in
set_option maxRecDepth 100000 in
set_option maxHeartbeats 8000000 in
theorem segment_any (s : ByteArray) (w : World) (hs : s.size ≤ 10000000) :
    Calls Tryd.prog 12 #[.string s] w fun e w' => e = .returned (.string (strOf (seg s.data.toList))) ∧ Below w.heap.size w w' := by
  have hl : s.data.toList.length = s.size := Array.length_toList
  have HL := hid hl
  clear hl
  have HB0 : Hid (IsB w.heap.size w.heap.size [] (w.alloc (.cells #[.pointer none, .slice none 0 0] 49))) := Lib.fresh_isBuilder 49 5 w
  go_enter Tryd.func12, Tryd.ntmps12
  go_wp2
  go_loopw [4, 5] (fun vk _ wr => ∃ k : Nat, k ≤ s.size ∧ vk = .int .i64 (k : Int) ∧ Hid (IsB w.heap.size w.heap.size (seg (s.data.toList.take k)) wr) ∧ Hid (Below w.heap.size w wr)) (fun vk _ _ => s.size - (intOf vk).toNat)
  case atStart => exact ⟨0, Nat.zero_le _, rfl, HB0.out, (Below.refl _ _).alloc (Nat.le_refl _) _⟩
  case round =>
    clear HB0
    obtain ⟨k, hk, rfl, HB, HBL⟩ := hrel
    have hsz : w.heap.size ≤ wr.heap.size := HBL.out.size
    by_cases hlt : k < s.size
    · obtain ⟨c, hc⟩ : ∃ c, s[k] = c := ⟨_, rfl⟩
      have hkl : k < s.data.toList.length := by rw [HL.out]; exact hlt
      have hcl : s.data.toList[k] = c := hc
      have HS : Hid (seg (s.data.toList.take (k + 1)) = seg (s.data.toList.take k) ++ PosS.one c) := by
        show _ = _
        rw [take_snoc _ k hkl, hcl, seg_snoc]
      have hlen : (seg (s.data.toList.take k)).length ≤ 3 * k := by
        have := seg_len (s.data.toList.take k)
        rw [List.length_take, HL.out] at this
        omega
      obtain ⟨X, hX⟩ : ∃ X, X = seg (s.data.toList.take k) := ⟨_, rfl⟩
      rw [← hX] at HS HB hlen
      obtain ⟨a, ha⟩ : ∃ a, a = alike c := ⟨_, rfl⟩
      have HIX : Hid (∀ w : World, Calls Tryd.prog 26 #[.string ⟨#[37, 92, 124]⟩, .int .u8 (c.toNat : Int)] w fun e w' => ∃ z : Int, e = .returned (.int .i64 z) ∧ decide (0 ≤ z) = a ∧ w' = w) := fun w => by
        refine (Tryd.strings_IndexByte ⟨#[37, 92, 124]⟩ _ w).mono ?_
        rintro e w' ⟨rfl, rfl⟩
        refine ⟨_, rfl, ?_, rfl⟩
        rw [show ((c.toNat : Int).toNat.toUInt8) = c by simp, has1, ha]
        rfl
      have hone := one_len c
      cases a with
      | true =>
        have HEN : Hid (∀ (A : Option Addr) (n cap : Nat) (w : World), Rds w A n (bcells [c]) → n ≤ 1073741824 → Calls Tryd.prog 28 #[.int .i64 6, .slice A n cap] w fun e w' => e = .returned (.string (strOf (PosS.one c))) ∧ Below w.heap.size w w') := fun A n cap w h1 h2 => by rw [← (seg1 c).1 ha.symm]; exact EscE.encode_any 6 A n cap [c] w h1 h2
        clear ha hX hkl hcl
        go_wp2_with fail
        refine (HIX.out _).mono ?_
        rintro e w2 ⟨z, rfl, hz, hw2⟩
        subst hw2
        have hz1 : 0 ≤ z := by simpa using hz
        go_wp2_with fail
        refine (HEN.out _ 1 1 _ (one_row c _) (by omega)).mono ?_
        rintro e w3 ⟨rfl, hb3⟩
        have hbw := ((Below.refl w2.heap.size w2).alloc (Nat.le_refl _) (.cells #[.int .u8 (c.toNat : Int)] 5)).trans (hb3.mono (by simp))
        have HB3 := hid (isB_below HB.out hbw)
        have HBL3 : Hid (Below w.heap.size w w3) := HBL.out.trans (hbw.mono hsz)
        have hsz3 : w.heap.size ≤ w3.heap.size := HBL3.out.size
        clear hbw hb3 hz
        go_wp2_with fail
        refine (write_any _ _ _ _ _ HB3.out (by rw [size_strOf]; omega) hsz3).mono ?_
        rintro e w4 ⟨rfl, hb4, hb5⟩
        have HB4 : Hid (IsB w.heap.size w.heap.size (seg (s.data.toList.take (k + 1))) w4) := by show IsB _ _ _ _; rw [HS.out]; exact hb4
        have HBL4 := hid (HBL3.out.trans hb5)
        clear hb4 hb5 hlen hone
        go_wp2
        go_roundw
        case rel => exact ⟨k + 1, by omega, by go_num, HB4, HBL4⟩
        case measure => simp [intOf]; omega
      | false =>
        have HEN : Hid (∀ (A : Option Addr) (n cap : Nat) (w : World), Rds w A n (bcells [c]) → n ≤ 1073741824 → Calls Tryd.prog 28 #[.int .i64 4, .slice A n cap] w fun e w' => e = .returned (.string (strOf (PosS.one c))) ∧ Below w.heap.size w w') := fun A n cap w h1 h2 => by rw [← (seg1 c).2 ha.symm]; exact EscE.encode_any 4 A n cap [c] w h1 h2
        clear ha hX hkl hcl
        go_wp2_with fail
        refine (HIX.out _).mono ?_
        rintro e w2 ⟨z, rfl, hz, hw2⟩
        subst hw2
        have hz1 : ¬ 0 ≤ z := by simpa using hz
        go_wp2_with fail
        refine (HEN.out _ 1 1 _ (one_row c _) (by omega)).mono ?_
        rintro e w3 ⟨rfl, hb3⟩
        have hbw := ((Below.refl w2.heap.size w2).alloc (Nat.le_refl _) (.cells #[.int .u8 (c.toNat : Int)] 5)).trans (hb3.mono (by simp))
        have HB3 := hid (isB_below HB.out hbw)
        have HBL3 : Hid (Below w.heap.size w w3) := HBL.out.trans (hbw.mono hsz)
        have hsz3 : w.heap.size ≤ w3.heap.size := HBL3.out.size
        clear hbw hb3 hz
        go_wp2_with fail
        refine (write_any _ _ _ _ _ HB3.out (by rw [size_strOf]; omega) hsz3).mono ?_
        rintro e w4 ⟨rfl, hb4, hb5⟩
        have HB4 : Hid (IsB w.heap.size w.heap.size (seg (s.data.toList.take (k + 1))) w4) := by show IsB _ _ _ _; rw [HS.out]; exact hb4
        have HBL4 := hid (HBL3.out.trans hb5)
        clear hb4 hb5 hlen hone
        go_wp2
        go_roundw
        case rel => exact ⟨k + 1, by omega, by go_num, HB4, HBL4⟩
        case measure => simp [intOf]; omega
    · obtain rfl : k = s.size := by omega
      have HT : Hid (seg (s.data.toList.take s.size) = seg s.data.toList) := by show _ = _; rw [List.take_of_length_le (by rw [HL.out]; exact Nat.le_refl _)]
      go_wp2_with fail
      refine (string_any _ _ _ _ HB.out hsz).mono ?_
      rintro e w3 ⟨rfl, hb3⟩
      have HB3 := hid (HBL.out.trans hb3)
      clear hb3
      go_wp2
      go_ret
      exact ⟨by rw [← HT.out]; first | done | rfl, HB3.out⟩
set_option linter.unusedSimpArgs false in
set_option maxRecDepth 100000 in
set_option maxHeartbeats 8000000 in
theorem refSegment_any (s : ByteArray) (w : World) (hs : s.size ≤ 10000000) :
    Calls Tryd.prog 13 #[.string s] w fun e w' => e = .returned (.string (strOf (seg s.data.toList))) ∧ Below w.heap.size w w' := by
  have hl : s.data.toList.length = s.size := Array.length_toList
  have HL := hid hl
  clear hl
  go_enter Tryd.func13, Tryd.ntmps13
  go_wp2
  go_loopw [3, 4, 7] (fun vo _ vk wr => ∃ (k : Nat) (X : List UInt8), k ≤ s.size ∧ vo = .string (strOf X) ∧ vk = .int .i64 (k : Int) ∧ Hid (X = seg (s.data.toList.take k)) ∧ Hid (Below w.heap.size w wr)) (fun _ _ vk _ => s.size - (intOf vk).toNat)
  case atStart => exact ⟨0, [], Nat.zero_le _, rfl, rfl, rfl, Below.refl _ _⟩
  case round =>
    obtain ⟨k, X, hk, rfl, rfl, HX, HBL⟩ := hrel
    by_cases hlt : k < s.size
    · obtain ⟨c, hc⟩ : ∃ c, s[k] = c := ⟨_, rfl⟩
      have hkl : k < s.data.toList.length := by rw [HL.out]; exact hlt
      have hcl : s.data.toList[k] = c := hc
      obtain ⟨Y, hY⟩ : ∃ Y, Y = seg (s.data.toList.take (k + 1)) := ⟨_, rfl⟩
      have HY := hid hY
      have HS : Hid (Y = X ++ PosS.one c) := by
        show _ = _
        rw [hY, take_snoc _ k hkl, hcl, seg_snoc, HX.out]
      have hXl : X.length ≤ 3 * k := by
        have := seg_len (s.data.toList.take k)
        rw [List.length_take, HL.out, ← HX.out] at this
        omega
      obtain ⟨q, hq⟩ : ∃ q, q = EscI.inS 4 c.toNat := ⟨_, rfl⟩
      have HIN : Hid (∀ w : World, Calls Tryd.prog 30 #[.int .i64 4, .int .u8 (c.toNat : Int)] w fun e w' => e = .returned (.bool q) ∧ w = w') := fun w => by rw [hq]; exact in4 c w
      have HON := hid (fun w => EscR.one_any c w)
      have HQ := hid hq
      clear hq hkl hcl hY
      cases q with
      | true =>
        have HO : Hid (PosS.one c = [37, EscE.dig (c.toNat / 16), EscE.dig (c.toNat % 16)]) := by show _ = _; unfold PosS.one; rw [if_pos (by unfold PosS.odd; rw [← HQ.out]; simp)]
        have hadd : ∀ W : World, (Op.stringOp .add (strOf X) (strOf [37, EscE.dig (c.toNat / 16), EscE.dig (c.toNat % 16)])).run Tryd.prog W = .ok (.string (strOf Y)) W := fun W => by rw [str_add X _ W (by simp; omega), ← HO.out, ← HS.out]
        clear hXl
        go_wp2_with fail
        refine (HIN.out _).mono ?_
        rintro e w2 ⟨rfl, hw2⟩
        subst hw2
        go_wp2_with fail
        refine (HON.out _).mono ?_
        rintro e w3 ⟨rfl, hb3⟩
        have HB3 := hid (bel HBL.out hb3)
        clear hb3
        go_wp2
        go_roundw
        case rel => exact ⟨k + 1, Y, by omega, rfl, by go_num, HY, HB3⟩
        case measure => simp [intOf]; omega
      | false =>
        by_cases e37 : c = 37
        · have q37 : ((c.toNat : Int) == 37) = true := by rw [e37]; rfl
          have HO : Hid (PosS.one c = [37, EscE.dig (c.toNat / 16), EscE.dig (c.toNat % 16)]) := by show _ = _; unfold PosS.one; rw [if_pos (by unfold PosS.odd; simp [e37])]
          have hadd : ∀ W : World, (Op.stringOp .add (strOf X) (strOf [37, EscE.dig (c.toNat / 16), EscE.dig (c.toNat % 16)])).run Tryd.prog W = .ok (.string (strOf Y)) W := fun W => by rw [str_add X _ W (by simp; omega), ← HO.out, ← HS.out]
          clear hXl e37
          go_wp2_with fail
          refine (HIN.out _).mono ?_
          rintro e w2 ⟨rfl, hw2⟩
          subst hw2
          go_wp2_with fail
          refine (HON.out _).mono ?_
          rintro e w3 ⟨rfl, hb3⟩
          have HB3 := hid (bel HBL.out hb3)
          clear hb3
          go_wp2
          go_roundw
          case rel => exact ⟨k + 1, Y, by omega, rfl, by go_num, HY, HB3⟩
          case measure => simp [intOf]; omega
        · have q37 : ((c.toNat : Int) == 37) = false := ne_u8 (d := 37) e37
          by_cases e92 : c = 92
          · have q92 : ((c.toNat : Int) == 92) = true := by rw [e92]; rfl
            have HO : Hid (PosS.one c = [37, EscE.dig (c.toNat / 16), EscE.dig (c.toNat % 16)]) := by show _ = _; unfold PosS.one; rw [if_pos (by unfold PosS.odd; simp [e92])]
            have hadd : ∀ W : World, (Op.stringOp .add (strOf X) (strOf [37, EscE.dig (c.toNat / 16), EscE.dig (c.toNat % 16)])).run Tryd.prog W = .ok (.string (strOf Y)) W := fun W => by rw [str_add X _ W (by simp; omega), ← HO.out, ← HS.out]
            clear hXl e37 e92
            go_wp2_with fail
            refine (HIN.out _).mono ?_
            rintro e w2 ⟨rfl, hw2⟩
            subst hw2
            go_wp2_with fail
            refine (HON.out _).mono ?_
            rintro e w3 ⟨rfl, hb3⟩
            have HB3 := hid (bel HBL.out hb3)
            clear hb3
            go_wp2
            go_roundw
            case rel => exact ⟨k + 1, Y, by omega, rfl, by go_num, HY, HB3⟩
            case measure => simp [intOf]; omega
          · have q92 : ((c.toNat : Int) == 92) = false := ne_u8 (d := 92) e92
            by_cases e124 : c = 124
            · have q124 : ((c.toNat : Int) == 124) = true := by rw [e124]; rfl
              have HO : Hid (PosS.one c = [37, EscE.dig (c.toNat / 16), EscE.dig (c.toNat % 16)]) := by show _ = _; unfold PosS.one; rw [if_pos (by unfold PosS.odd; simp [e124])]
              have hadd : ∀ W : World, (Op.stringOp .add (strOf X) (strOf [37, EscE.dig (c.toNat / 16), EscE.dig (c.toNat % 16)])).run Tryd.prog W = .ok (.string (strOf Y)) W := fun W => by rw [str_add X _ W (by simp; omega), ← HO.out, ← HS.out]
              clear hXl e37 e92 e124
              go_wp2_with fail
              refine (HIN.out _).mono ?_
              rintro e w2 ⟨rfl, hw2⟩
              subst hw2
              go_wp2_with fail
              refine (HON.out _).mono ?_
              rintro e w3 ⟨rfl, hb3⟩
              have HB3 := hid (bel HBL.out hb3)
              clear hb3
              go_wp2
              go_roundw
              case rel => exact ⟨k + 1, Y, by omega, rfl, by go_num, HY, HB3⟩
              case measure => simp [intOf]; omega
            · have q124 : ((c.toNat : Int) == 124) = false := ne_u8 (d := 124) e124
              have HO : Hid (PosS.one c = [c]) := by show _ = _; unfold PosS.one; rw [if_neg (by unfold PosS.odd; rw [← HQ.out]; simp [e37, e92, e124])]
              have hadd : ∀ W : World, (Op.stringOp .add (strOf X) (strOf [c])).run Tryd.prog W = .ok (.string (strOf Y)) W := fun W => by rw [str_add X _ W (by simp; omega), ← HO.out, ← HS.out]
              have hct := str_cut s k hlt
              rw [hc] at hct
              have hk1 : (k : Int) + 1 ≤ (s.size : Int) := by omega
              clear hXl e37 e92 e124
              go_wp2_with fail
              refine (HIN.out _).mono ?_
              rintro e w2 ⟨rfl, hw2⟩
              subst hw2
              go_wp2
              go_roundw
              case rel => exact ⟨k + 1, Y, by omega, rfl, by go_num, HY, HBL⟩
              case measure => simp [intOf]; omega
    · obtain rfl : k = s.size := by omega
      have HT : Hid (X = seg s.data.toList) := by show _ = _; rw [HX.out, List.take_of_length_le (by rw [HL.out]; exact Nat.le_refl _)]
      go_wp2
      go_ret
      exact ⟨by rw [← HT.out]; first | done | rfl, HBL.out⟩
/-- What a row of components is as segments. -/
def segs (l : List (List UInt8)) : List (List UInt8) := l.map seg
set_option linter.unusedSimpArgs false in
set_option maxRecDepth 100000 in
set_option maxHeartbeats 8000000 in
theorem segments_any (A : Option Addr) (n cap : Nat) (l : List (List UInt8)) (w : World) (hR : Rds w A n ((l.map strOf).map Value.string)) (hm : n ≤ 1000000) (hx : ∀ x ∈ l, x.length ≤ 1000000) :
    Calls Tryd.prog 19 #[.slice A n cap] w (OwnedL w (l.map seg)) := by
  have hl : l.length = n := by rw [← hR.1, List.length_map, List.length_map]
  obtain ⟨i0, hi, hz0, hz1, hz2⟩ := info_parts info_str
  have HN := hid hl
  have HR := hid hR
  have HXX := hid hx
  clear hl hR hx
  go_enter Tryd.func19, Tryd.ntmps19
  go_wp2
  go_loopw [3, 4, 7] (fun vo _ vk wr => ∃ k : Nat, k ≤ n ∧ vk = .int .i64 (k : Int) ∧ Hid (wr.ownsRow w.heap.size 9 1 vo k ((((l.take k).map seg).map strOf).map Value.string)) ∧ Hid (Below w.heap.size w wr)) (fun _ _ vk _ => n - (intOf vk).toNat)
  case atStart => exact ⟨0, Nat.zero_le _, rfl, World.ownsRow_nil _ _ _ _, Below.refl _ _⟩
  case round =>
    obtain ⟨k, hk, rfl, HO, HB⟩ := hrel
    by_cases hlt : k < n
    · obtain ⟨g, off, rfl, hg, hc⟩ := cell_at (HR.out.below HB.out) k hlt HN.out
      obtain ⟨x, hxd⟩ : ∃ x, x = l[k]'(by rw [HN.out]; exact hlt) := ⟨_, rfl⟩
      have hxs : x.length ≤ 1000000 := by rw [hxd]; exact HXX.out _ (List.getElem_mem _)
      have HT : Hid (l.take (k + 1) = l.take k ++ [x]) := by show _ = _; rw [take_snoc l k (by rw [HN.out]; exact hlt), ← hxd]
      rw [← hxd] at hc
      have HXS := hid hxs
      clear hxd hxs
      go_wp2_with fail
      refine (refSegment_any (strOf x) _ (by rw [size_strOf]; have := HXS.out; omega)).mono ?_
      rintro e w3 ⟨rfl, hb3⟩
      rw [show (strOf x).data.toList = x from rfl]
      have hown0 := owns_below HO.out hb3
      obtain ⟨R, hRd⟩ : ∃ R, R = (((l.take k).map seg).map strOf).map Value.string := ⟨_, rfl⟩
      have hown : w3.ownsRow w.heap.size 9 1 u3 k R := by rw [hRd]; exact hown0
      have HRD := hid hRd
      clear hown0 hRd
      have hbel := bel HB.out hb3
      obtain ⟨sx, hsx⟩ : ∃ sx, sx = strOf (seg x) := ⟨_, rfl⟩
      rw [← hsx]
      have HSX := hid hsx
      clear hb3 hsx
      go_wp2_with (at_builtin; refine wpList_app rfl _ _ 23 rfl w.heap.size 9 i0 (.string ByteArray.empty) 16 Tryd.underlying23 hi hz0 hz1 hz2 rfl _ k _ rfl hown hbel hbel.size [.string sx] 1 rfl rfl (by intro u hu; simp at hu; subst hu; rfl) (by unfold maxLen; omega) (by omega) ?_)
      intro v7 w7 hown7 hbel7
      have HX7 : Hid (w7.ownsRow w.heap.size 9 1 v7 (k + 1) ((((l.take (k + 1)).map seg).map strOf).map Value.string)) := by
        show World.ownsRow _ _ _ _ _ _ _
        rw [HT.out, List.map_append, List.map_append, List.map_append, ← HRD.out]
        show World.ownsRow _ _ _ _ _ _ (R ++ [Value.string (strOf (seg x))])
        rw [← HSX.out]
        exact hown7
      have HY := hid hbel7
      clear hown hbel hown7 hbel7
      go_wp2
      go_roundw
      case rel => exact ⟨k + 1, by omega, by go_num, HX7, HY⟩
      case measure => simp [intOf]; omega
    · obtain rfl : k = n := by omega
      have HX : Hid (OwnedL w (l.map seg) (.returned u3) wr) := ⟨u3, rfl, by have h := HO.out; rw [List.take_of_length_le (by rw [HN.out]; exact Nat.le_refl _)] at h; rw [List.length_map, HN.out]; exact h, HB.out⟩
      go_wp2
      go_ret
      exact HX.out
end Go.Proofs.YtleecmapaihhmaaDoor.PosC
