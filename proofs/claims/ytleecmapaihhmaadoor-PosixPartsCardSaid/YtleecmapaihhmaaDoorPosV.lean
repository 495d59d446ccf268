/- A URL's path with slashes, by the code. -/
import Derived.Test.YtleecmapaihhmaaDoorPosB
import Derived.Test.YtleecmapaihhmaaDoorPosC
import Derived.Test.YtleecmapaihhmaaDoorUrlP
import Derived.Test.YtleecmapaihhmaaDoorMZ
set_option linter.unusedSimpArgs false
set_option linter.unusedVariables false
namespace Go.Proofs.YtleecmapaihhmaaDoor.PosV
open Go.RowKit Go.Proofs.YtleecmapaihhmaaDoor.Base Go.Proofs.YtleecmapaihhmaaDoor.Base2 Go.Proofs.YtleecmapaihhmaaDoor.SlsP Go.Proofs.YtleecmapaihhmaaDoor.PosQ Go.Proofs.YtleecmapaihhmaaDoor.Sls Go.Proofs.YtleecmapaihhmaaDoor.BldA Go.Proofs.YtleecmapaihhmaaDoor.BldK Go.Proofs.YtleecmapaihhmaaDoor.BldF
open Go.Proofs.YtleecmapaihhmaaDoor.Spl (Max)
open Go.Proofs.YtleecmapaihhmaaDoor.UrlP (pth length_pth sum_at sum_take)

/-- The components of segments, each behind a slash. -/
def outP (l : List ByteArray) : List UInt8 := l.flatMap fun s => 47 :: EscD.dec s.data.toList
def free47 (l : List ByteArray) : Bool := l.all fun s => !(EscD.dec s.data.toList).contains 47
def posPath (l : List ByteArray) : Option (List UInt8) := if free47 l = true ∧ fine (outP l) = true then some (outP l) else none
def FIL : List UInt8 := [102, 105, 108, 101]
/-- A URL's path, and which error. -/
def pathR (sch hst : List UInt8) (b6 : Bool) (l : List ByteArray) : List UInt8 × Int :=
  if sch ≠ FIL ∨ b6 = true then ([], 2) else if hst ≠ [] then ([], 8) else match posPath l with
  | none => ([], 2)
  | some o => (o, 0)
theorem tl (s : ByteArray) : s.toList = s.data.toList := Lib.toList_data s
theorem outP_snoc (l : List ByteArray) (s : ByteArray) : outP (l ++ [s]) = outP l ++ (47 :: EscD.dec s.data.toList) := by simp [outP]
theorem outP_len (l : List ByteArray) : (outP l).length ≤ (pth l).length := by
  induction l with
  | nil => exact Nat.le_refl _
  | cons a l ih =>
    have h := EscD.dec_len a.data.toList
    have e1 : outP (a :: l) = (47 :: EscD.dec a.data.toList) ++ outP l := rfl
    have e2 : pth (a :: l) = (47 :: a.data.toList) ++ pth l := rfl
    rw [e1, e2, List.length_append, List.length_append, List.length_cons, List.length_cons]
    omega
theorem take_snoc (l : List ByteArray) (k : Nat) (h : k < l.length) : l.take (k + 1) = l.take k ++ [l[k]] := List.take_succ_eq_append_getElem h
theorem free_take (l : List ByteArray) (k : Nat) (h : k < l.length) : free47 (l.take (k + 1)) = (free47 (l.take k) && !(EscD.dec l[k].data.toList).contains 47) := by
  unfold free47
  rw [take_snoc l k h, List.all_append]
  simp
theorem free_no {l : List ByteArray} (k : Nat) (h : k < l.length) (hc : (EscD.dec l[k].data.toList).contains 47 = true) : free47 l = false := by
  cases e : free47 l with
  | false => rfl
  | true =>
    have h1 := List.all_eq_true.1 e _ (List.getElem_mem h)
    rw [hc] at h1
    cases h1
set_option linter.unusedSimpArgs false in
set_option maxRecDepth 100000 in
set_option maxHeartbeats 8000000 in
theorem path_any (s0 s1 s2 s3 : ByteArray) (b4 : Bool) (z5 : Int) (b6 : Bool) (s7 : ByteArray) (A : Option Addr) (n cap : Nat) (l : List ByteArray) (b9 b10 : Bool) (s11 s12 : ByteArray) (w : World) (hR : Rds w A n (l.map Value.string)) (hnc : n ≤ cap) (hcm : cap ≤ maxLen) (hl : (pth l).length ≤ 899999) (hM : Max w) :
    Calls Tryd.prog 14 #[.agg #[.string s0, .string s1, .string s2, .string s3, .bool b4, .int .i64 z5, .bool b6, .string s7, .slice A n cap, .bool b9, .bool b10, .string s11, .string s12]] w fun e w' => e = .returned (.tuple #[.string (strOf (pathR s0.data.toList s3.data.toList b6 l).1), .int .i64 (pathR s0.data.toList s3.data.toList b6 l).2]) ∧ Below w.heap.size w w' := by
  have hn : l.length = n := by rw [← hR.1, List.length_map]
  have hpl := length_pth l
  unfold maxLen at hcm
  obtain ⟨V, hV⟩ : ∃ V, V = pathR s0.data.toList s3.data.toList b6 l := ⟨_, rfl⟩
  rw [← hV]
  by_cases e0 : s0.data.toList = FIL
  · have q0 : (s0.toList == [102, 105, 108, 101]) = true := by rw [tl, e0]; rfl
    cases b6 with
    | true =>
      have HV : Hid (V = ([], 2)) := by show _ = _; rw [hV]; unfold pathR; rw [if_pos (.inr rfl)]
      clear hn hpl hR hl hV e0
      go_enter Tryd.func14, Tryd.ntmps14
      go_wp2
      go_ret2
      exact ⟨by rw [HV.out]; first | done | rfl, (Below.refl _ _).alloc (Nat.le_refl _) _⟩
    | false =>
      by_cases e3 : s3.data.toList = []
      · have q3 : s3.toList = [] := by rw [tl]; exact e3
        have HV0 : Hid (V = match posPath l with
          | none => ([], 2)
          | some o => (o, 0)) := by show _ = _; rw [hV]; unfold pathR; rw [if_neg (by rintro (h | h); exact h e0; cases h), if_neg (fun h => h e3)]
        have HR := hid hR
        have HN := hid hn
        have HPL := hid hpl
        have HLL := hid hl
        have HM := hid hM
        clear hR hn hpl hl hV hM e0 e3
        go_enter Tryd.func14, Tryd.ntmps14
        go_wp2
        generalize hw1 : w.alloc _ = w1
        have hb1 : Below w.heap.size w w1 := by rw [← hw1]; exact (Below.refl _ _).alloc (Nat.le_refl _) _
        have hs1 : w1.heap.size = w.heap.size + 1 := by rw [← hw1]; simp
        clear hw1
        have HB0 : Hid (IsB (w.heap.size + 1) (w.heap.size + 1) [] (w1.alloc (.cells #[.pointer none, .slice none 0 0] 49))) := by
          have h := Lib.fresh_isBuilder 49 5 w1
          rw [hs1] at h
          exact h
        go_loopw [6, 7, 21] (fun _ _ vk wr => ∃ k : Nat, k ≤ n ∧ vk = .int .i64 (k : Int) ∧ Hid (IsB (w.heap.size + 1) (w.heap.size + 1) (outP (l.take k)) wr) ∧ Hid (Below (w.heap.size + 1) w1 wr) ∧ Hid (free47 (l.take k) = true)) (fun _ _ vk _ => n - (intOf vk).toNat)
        case atStart => exact ⟨0, Nat.zero_le _, rfl, HB0.out, (Below.refl _ _).alloc (by rw [hs1]; exact Nat.le_refl _) _, rfl⟩
        case round =>
          clear HB0
          obtain ⟨k, hk, rfl, HB, HBL, HF⟩ := hrel
          have hsz : w.heap.size + 1 ≤ wr.heap.size := by have := HBL.out.size; rw [hs1] at this; exact this
          by_cases hlt : k < n
          · have hkl : k < l.length := by rw [HN.out]; exact hlt
            have hRr := HR.out.below (hb1.trans (HBL.out.mono (by omega)))
            obtain ⟨g, off, rfl, hg, hcell⟩ := hRr.spot (by omega)
            have hc := hcell k (by rw [List.length_map]; exact hkl)
            rw [List.getElem_map] at hc
            obtain ⟨s, hs⟩ : ∃ s, s = l[k] := ⟨_, rfl⟩
            rw [← hs] at hc
            obtain ⟨D, hD⟩ : ∃ D, D = EscD.dec s.data.toList := ⟨_, rfl⟩
            have hDl : D.length ≤ s.size := by rw [hD]; have := EscD.dec_len s.data.toList; rwa [show s.data.toList.length = s.size from Array.length_toList] at this
            have HS : Hid (outP (l.take (k + 1)) = outP (l.take k) ++ (47 :: D)) := by show _ = _; rw [take_snoc l k hkl, outP_snoc, ← hs, hD]
            have hsum := sum_at l k hkl
            have hsum2 := sum_take l (k + 1)
            have hpk := outP_len (l.take k)
            rw [length_pth, List.length_take, Nat.min_eq_left (by omega)] at hpk
            have hpl := HPL.out
            have hll := HLL.out
            rw [← hs] at hsum
            have hss : s.size ≤ 899999 := by omega
            have HDC : Hid (∀ w : World, Calls Tryd.prog 32 #[.string s] w fun e w' => ∃ v, e = .returned v ∧ w'.ownsRow w.heap.size 5 1 v D.length (bcells D) ∧ Below w.heap.size w w') := fun w => by rw [hD]; exact EscD.decode_any s w (by omega)
            obtain ⟨q, hq⟩ : ∃ q, q = D.contains 47 := ⟨_, rfl⟩
            have HCT : Hid (∀ w : World, Calls Tryd.prog 23 #[.string (strOf D), .string ⟨#[47]⟩] w fun e w' => e = .returned (.bool q) ∧ w = w') := fun w => by rw [hq]; exact contains1_any 47 (strOf D) w
            have a1 : ∀ w : World, (Op.stringOp .add ⟨#[47]⟩ (strOf D)).run Tryd.prog w = .ok (.string (strOf (47 :: D))) w := fun w => str_add' ⟨#[47]⟩ (strOf D) w (by rw [size_strOf]; show 1 + D.length ≤ _; omega)
            have HLEN : Hid ((outP (l.take k)).length + (1 + D.length) ≤ 140737488355328) := by show _ ≤ _; omega
            have hqf : q = true → posPath l = none := fun h => by
              have := free_no k hkl (by rw [← hs, ← hD, ← hq]; exact h)
              unfold posPath
              rw [this, if_neg (fun h => by cases h.1)]
            have hqn : q = false → free47 (l.take (k + 1)) = true := fun h => by rw [free_take l k hkl, HF.out, ← hs, ← hD, ← hq, h]; rfl
            have HQF := hid hqf
            have HQN := hid hqn
            clear hs hD hq hsum hsum2 hpk hpl hll hRr hcell hkl hqf hqn hDl
            go_wp2_with fail
            refine (HDC.out _).mono ?_
            rintro e w3 ⟨v3, rfl, hown, hb3⟩
            obtain ⟨A3, c3, rfl, hc3, hm3, hr3⟩ := owns_form hown
            have hst := run_string_of 37 9 5 Tryd.underlying37 Tryd.underlying5 Tryd.underlying9 _ c3 hr3
            have hstd := fun k => run_string_of 37 9 5 Tryd.underlying37 Tryd.underlying5 Tryd.underlying9 _ c3 (Rds_drewN hr3 k)
            have HB3 := hid (isB_below HB.out hb3)
            have HBL3 : Hid (Below (w.heap.size + 1) w1 w3) := HBL.out.trans (hb3.mono hsz)
            clear hown hb3 hr3 hm3 hc3
            go_wp2_with fail
            refine (HCT.out _).mono ?_
            rintro e w4 ⟨rfl, hw4⟩
            subst hw4
            clear hst hstd
            cases q with
            | true =>
              have HV1 : Hid (V = ([], 2)) := by show _ = _; rw [HV0.out, HQF.out rfl]
              go_wp2
              go_ret2
              exact ⟨by rw [HV1.out]; first | done | rfl, hb1.trans (HBL3.out.mono (by omega))⟩
            | false =>
              have HFN := hid (HQN.out rfl)
              have hsz3 : w.heap.size + 1 ≤ w3.heap.size := by have := HBL3.out.size; rw [hs1] at this; exact this
              go_wp2_with fail
              refine (write_any _ _ _ _ _ HB3.out (by rw [size_strOf]; have := HLEN.out; simp at this ⊢; omega) hsz3).mono ?_
              rintro e w5 ⟨rfl, hB5, hb5⟩
              have HB5 : Hid (IsB (w.heap.size + 1) (w.heap.size + 1) (outP (l.take (k + 1))) w5) := by show IsB _ _ _ _; rw [HS.out]; exact hB5
              have HBL5 := hid (HBL3.out.trans hb5)
              clear hB5 hb5
              go_wp2
              go_roundw
              case rel => exact ⟨k + 1, by omega, by go_num, HB5, HBL5, HFN⟩
              case measure => simp [intOf]; omega
          · obtain rfl : k = n := by omega
            have hT : l.take k = l := List.take_of_length_le (by rw [HN.out]; exact Nat.le_refl _)
            rw [hT] at HB HF
            have hol : (outP l).length ≤ 899999 := by have h1 := outP_len l; have h2 := HLL.out; omega
            obtain ⟨O, hO⟩ : ∃ O, O = outP l := ⟨_, rfl⟩
            rw [← hO] at HB hol
            obtain ⟨f, hf⟩ : ∃ f, f = fine O := ⟨_, rfl⟩
            have HFI : Hid (∀ w : World, Max w → Calls Tryd.prog 9 #[.string (strOf O)] w fun e w' => e = .returned (.bool f) ∧ Below w.heap.size w w') := fun w h => by rw [hf]; exact PosB.fine_any (strOf O) w (by rw [size_strOf]; omega) h
            have HVE : Hid (V = if f = true then (O, 0) else ([], 2)) := by
              show _ = _
              rw [HV0.out]
              unfold posPath
              rw [← hO, ← hf]
              cases f with
              | true => rw [if_pos ⟨HF.out, rfl⟩, if_pos rfl]
              | false => rw [if_neg (fun h => by cases h.2), if_neg (by decide)]
            clear hT hO hf hol
            go_wp2_with fail
            refine (stringF_any _ _ _ _ (isF_of HB.out) hsz).mono ?_
            rintro e w3 ⟨rfl, hBS, hb3⟩
            have HBS := hid hBS
            clear hBS
            have HBL3 := hid (HBL.out.trans hb3)
            have HBW : Hid (Below w.heap.size w w3) := hb1.trans (HBL3.out.mono (by omega))
            go_wp2_with fail
            refine (HFI.out _ (HM.out.below HBW.out)).mono ?_
            rintro e w4 ⟨rfl, hb4⟩
            have HBW4 := hid (bel HBW.out hb4)
            cases f with
            | false =>
              have HV1 : Hid (V = ([], 2)) := by show _ = _; rw [HVE.out]; rfl
              clear hb3 hb4 HBS
              go_wp2
              go_ret2
              exact ⟨by rw [HV1.out]; first | done | rfl, HBW4.out⟩
            | true =>
              have HV1 : Hid (V = (O, 0)) := by show _ = _; rw [HVE.out]; rfl
              have HB4 : Hid (IsF (w.heap.size + 1) (w.heap.size + 1) O w4) := isF_below HBS.out hb4
              have hsz4 : w.heap.size + 1 ≤ w4.heap.size := by have h1 := HBL3.out.size; have h2 := hb4.size; rw [hs1] at h1; omega
              clear hb4
              go_wp2_with fail
              refine (stringF_any _ _ _ _ HB4.out hsz4).mono ?_
              rintro e w5 ⟨rfl, _, hb5⟩
              have HBW5 : Hid (Below w.heap.size w w5) := HBW4.out.trans (hb5.mono (by omega))
              clear hb5
              go_wp2
              go_ret2
              exact ⟨by rw [HV1.out]; first | done | rfl, HBW5.out⟩
      · have q3 : (s3.toList == []) = false := by rw [tl, beq_eq_false_iff_ne]; exact e3
        have q3' : s3.toList.isEmpty = false := by rw [tl]; simpa using e3
        have HV : Hid (V = ([], 8)) := by show _ = _; rw [hV]; unfold pathR; rw [if_neg (by rintro (h | h); exact h e0; cases h), if_pos e3]
        clear hn hpl hR hl hV e0 e3
        go_enter Tryd.func14, Tryd.ntmps14
        go_wp2
        go_ret2
        exact ⟨by rw [HV.out]; first | done | rfl, (Below.refl _ _).alloc (Nat.le_refl _) _⟩
  · have q0 : (s0.toList == [102, 105, 108, 101]) = false := by rw [tl, beq_eq_false_iff_ne]; exact e0
    have HV : Hid (V = ([], 2)) := by show _ = _; rw [hV]; unfold pathR; rw [if_pos (.inl e0)]
    clear hn hpl hR hl hV e0
    go_enter Tryd.func14, Tryd.ntmps14
    go_wp2
    go_ret2
    exact ⟨by rw [HV.out]; first | done | rfl, (Below.refl _ _).alloc (Nat.le_refl _) _⟩
end Go.Proofs.YtleecmapaihhmaaDoor.PosV
