/- The walk of the law EscapeParts: it returns true, whatever it is called with. -/
import Derived.Test.YtllkkcolnjbjhaaEscP
import Derived.Test.YtllkkcolnjbjhaaEscW
namespace Go.Proofs.Ytllkkcolnjbjhaa.Laws
open Go.RowKit Go.Proofs.Ytllkkcolnjbjhaa.Base Go.Proofs.Ytllkkcolnjbjhaa.Base2 Go.Proofs.Ytllkkcolnjbjhaa.EscI

theorem end_ok (a : ByteArray) (X : List UInt8) (hX : X = a.data.toList) (h1 : 0 < a.size → ∀ (h : a.size - 1 < a.size), ¬ ((a[a.size - 1]'h).toNat : Int) = 37) (h2 : 1 < a.size → ∀ (h : a.size - 2 < a.size), ¬ ((a[a.size - 2]'h).toNat : Int) = 37) : EscP.EndOk X := by
  intro j hj hj2 e
  subst hX
  have hs : a.data.toList.length = a.size := Array.length_toList
  rw [hs] at hj hj2
  have hg : a[j]'hj = 37 := e
  by_cases hl : j = a.size - 1
  · subst hl
    exact h1 (by omega) hj (by rw [hg]; rfl)
  · obtain rfl : j = a.size - 2 := by omega
    exact h2 (by omega) hj (by rw [hg]; rfl)
set_option maxHeartbeats 4000000 in
set_option maxRecDepth 100000 in
theorem EscapeParts_any (k : Int) (a b : ByteArray) (w : World) (_hk : -9223372036854775808 ≤ k ∧ k ≤ 9223372036854775807) (ha : a.size ≤ 140737488351232) (hb : b.size ≤ 140737488351232) :
    Calls Try.prog 7 #[.int .i64 k, .string a, .string b] w fun e w' => e = .returned (.bool true) ∧ Below w.heap.size w w' := by
  clear _hk
  by_cases h1 : a.size + b.size ≤ 600
  · have h1' : ¬ (600 : Int) < (a.size : Int) + (b.size : Int) := by omega
    have hadd := fun w => str_add' (P := Try.prog) a b w (by omega)
    obtain ⟨X, hX⟩ : ∃ X, X = a.data.toList := ⟨_, rfl⟩
    obtain ⟨Y, hY⟩ : ∃ Y, Y = b.data.toList := ⟨_, rfl⟩
    have haX : a = strOf X := by rw [hX, strOf_toList]
    have hbY : b = strOf Y := by rw [hY, strOf_toList]
    rw [← hX, ← hY] at hadd
    have hcv := fun (w : World) s => run_bytes_of_string (P := Try.prog) w 9 24 5 s Try.underlying9 Try.underlying24 Try.underlying5
    have HCV := hid hcv
    have HAX := hid haX
    have HBY := hid hbY
    have HX := hid hX
    have HY := hid hY
    clear hcv haX hbY hX hY
    go_enter Try.func7, Try.ntmps7
    go_wp2_with fail
    refine (EscW.awake_any _).mono ?_
    rintro e w1 ⟨rfl, hb1⟩
    have hsz0 : (strOf (X ++ Y)).size ≤ 1073741824 := by rw [size_strOf, List.length_append, HX.out, HY.out, Array.length_toList, Array.length_toList]; have h : a.data.size + b.data.size ≤ 600 := h1; omega
    have hsza : a.size ≤ 1073741824 := by omega
    have hszb : b.size ≤ 1073741824 := by omega
    have HZ0 := hid hsz0
    have HZA := hid hsza
    have HZB := hid hszb
    clear hsz0 hsza hszb
    have hl1 := EscE.enc_len k X
    have hl2 := EscE.enc_len k Y
    have HEA := hid (EscP.enc_app k X Y)
    obtain ⟨E1, hE1⟩ : ∃ E1, E1 = EscE.enc k X := ⟨_, rfl⟩
    obtain ⟨E2, hE2⟩ : ∃ E2, E2 = EscE.enc k Y := ⟨_, rfl⟩
    rw [← hE1] at hl1
    rw [← hE2] at hl2
    rw [← hE1, ← hE2] at HEA
    have hlx : X.length = a.size := by rw [HX.out, Array.length_toList]; exact rfl
    have hly : Y.length = b.size := by rw [HY.out, Array.length_toList]; exact rfl
    have hsum := fun w => str_add (P := Try.prog) E1 E2 w (by omega)
    have HE1 := hid hE1
    have HE2 := hid hE2
    clear hl1 hl2 hE1 hE2 hlx hly
    have hcv1 := HCV.out w1 (strOf (X ++ Y))
    obtain ⟨g, hg⟩ : ∃ g, g = grownCap w1 (strOf (X ++ Y)).size 0 5 := ⟨_, rfl⟩
    rw [← hg] at hcv1
    clear hg
    have HRM : Hid (Rds (w1.alloc (.cells (bytesRow (strOf (X ++ Y)) g) 5 ((bytesRow (strOf (X ++ Y)) g).size, (bytesRow (strOf (X ++ Y)) g).size + 1))).drew (some ⟨w1.heap.size, 0, none⟩) (strOf (X ++ Y)).size (bcells (X ++ Y))) := rds_made (strOf (X ++ Y)) g w1 5
    go_wp2_with fail
    refine (EscE.encode_any k _ _ _ (X ++ Y) _ HRM.out HZ0.out).mono ?_
    rintro e w2 ⟨rfl, hb2⟩
    rw [HEA.out]
    have hb12 : Below w1.heap.size w1 w2 := (((Below.refl _ _).alloc (Nat.le_refl _) _).drew).trans (hb2.mono (by simp))
    clear hcv1 HRM hb2
    have hcv2 := HCV.out w2 a
    obtain ⟨g2, hg⟩ : ∃ g, g = grownCap w2 a.size 0 5 := ⟨_, rfl⟩
    rw [← hg] at hcv2
    clear hg
    have HRM : Hid (Rds (w2.alloc (.cells (bytesRow a g2) 5 ((bytesRow a g2).size, (bytesRow a g2).size + 1))).drew (some ⟨w2.heap.size, 0, none⟩) a.size (bcells X)) := by rw [HX.out]; exact rds_made a g2 w2 5
    go_wp2_with fail
    refine (EscE.encode_any k _ _ _ X _ HRM.out HZA.out).mono ?_
    rintro e w3 ⟨rfl, hb3⟩
    rw [← HE1.out]
    have hb23 : Below w2.heap.size w2 w3 := (((Below.refl _ _).alloc (Nat.le_refl _) _).drew).trans (hb3.mono (by simp))
    clear hcv2 HRM hb3
    have hcv3 := HCV.out w3 b
    obtain ⟨g3, hg⟩ : ∃ g, g = grownCap w3 b.size 0 5 := ⟨_, rfl⟩
    rw [← hg] at hcv3
    clear hg
    have HRM : Hid (Rds (w3.alloc (.cells (bytesRow b g3) 5 ((bytesRow b g3).size, (bytesRow b g3).size + 1))).drew (some ⟨w3.heap.size, 0, none⟩) b.size (bcells Y)) := by rw [HY.out]; exact rds_made b g3 w3 5
    go_wp2_with fail
    refine (EscE.encode_any k _ _ _ Y _ HRM.out HZB.out).mono ?_
    rintro e w4 ⟨rfl, hb4⟩
    rw [← HE2.out]
    have hb34 : Below w3.heap.size w3 w4 := (((Below.refl _ _).alloc (Nat.le_refl _) _).drew).trans (hb4.mono (by simp))
    have hb14 : Below w.heap.size w w4 := bel (bel (bel hb1 hb12) hb23) hb34
    clear hcv3 HRM hb4 HEA hb1 hb12 hb23 hb34
    go_wp2_with fail
    · go_ret
      exact ⟨rfl, hb14⟩
    · go_ret
      exact ⟨rfl, hb14⟩
    all_goals
      have he : EscP.EndOk X := by
        refine end_ok a X HX.out (fun h0 h => ?_) (fun h0 h => ?_)
        · first | assumption | (exfalso; omega)
        · first | (exfalso; omega) | (have hh := And.right (‹((a[a.size - 1]'(by omega)).toNat == 37 : Bool) = false ∧ ((a[a.size - 2]'h).toNat == 37 : Bool) = false›); simpa using hh) | (rename_i hh _ _; simpa using hh.2)
      have hda := EscP.dec_app _ X Y (Nat.le_refl _) he
      have hd1 := EscD.dec_len X
      have hd2 := EscD.dec_len Y
      have hlx : X.length = a.size := by rw [HX.out, Array.length_toList]; exact rfl
      have hly : Y.length = b.size := by rw [HY.out, Array.length_toList]; exact rfl
      obtain ⟨D1, hD1⟩ : ∃ D, D = EscD.dec X := ⟨_, rfl⟩
      obtain ⟨D2, hD2⟩ : ∃ D, D = EscD.dec Y := ⟨_, rfl⟩
      rw [← hD1] at hd1
      rw [← hD2] at hd2
      rw [← hD1, ← hD2] at hda
      have hsum2 := fun w => str_add (P := Try.prog) D1 D2 w (by omega)
      have HC0 : Hid (∀ w', Calls Try.prog 17 #[.string (strOf (X ++ Y))] w' fun e w'' => ∃ v, e = .returned v ∧ w''.ownsRow w'.heap.size 5 1 v (D1.length + D2.length) (bcells (D1 ++ D2)) ∧ Below w'.heap.size w' w'') := fun w' => (EscD.decode_any (strOf (X ++ Y)) w' HZ0.out).mono fun e w'' ⟨v, h1, h2, h3⟩ => ⟨v, h1, by
        rw [show (strOf (X ++ Y)).data.toList = X ++ Y from rfl, hda, List.length_append] at h2
        exact h2, h3⟩
      have HCA : Hid (∀ w', Calls Try.prog 17 #[.string a] w' fun e w'' => ∃ v, e = .returned v ∧ w''.ownsRow w'.heap.size 5 1 v D1.length (bcells D1) ∧ Below w'.heap.size w' w'') := fun w' => (EscD.decode_any a w' HZA.out).mono fun e w'' ⟨v, h1, h2, h3⟩ => ⟨v, h1, by
        rw [← HX.out, ← hD1] at h2
        exact h2, h3⟩
      have HCB : Hid (∀ w', Calls Try.prog 17 #[.string b] w' fun e w'' => ∃ v, e = .returned v ∧ w''.ownsRow w'.heap.size 5 1 v D2.length (bcells D2) ∧ Below w'.heap.size w' w'') := fun w' => (EscD.decode_any b w' HZB.out).mono fun e w'' ⟨v, h1, h2, h3⟩ => ⟨v, h1, by
        rw [← HY.out, ← hD2] at h2
        exact h2, h3⟩
      clear he hda hd1 hd2 hlx hly hD1 hD2 HCV HE1 HE2 hsum
      go_region_with (first
        | (go_at_call 17; have hgB := hrd2; clear hgB; refine (HCB.out _).mono ?_; rintro e u3 ⟨v, rfl, hown, hbb3⟩; obtain ⟨A3, c3, rfl, _, _, hrd3⟩ := owns_form hown; have hbel3 : Below w.heap.size w u3 := (by first | exact bel (by assumption) hbb3 | exact bel_drew (by assumption) hbb3); have hd3 := run_string_of 24 9 5 Try.underlying24 Try.underlying5 Try.underlying9 _ c3 hrd3; have hd3' := run_string_of 24 9 5 Try.underlying24 Try.underlying5 Try.underlying9 _ c3 (Rds_drew hrd3); have hk3 : Rds u3 A1 (D1.length + D2.length) (bcells (D1 ++ D2)) := (by first | exact Rds.below (by assumption) hbb3 | exact rds_drew_below (by assumption) hbb3); have hk3s := run_string_of 24 9 5 Try.underlying24 Try.underlying5 Try.underlying9 _ c1 hk3; have hk3t := run_string_of 24 9 5 Try.underlying24 Try.underlying5 Try.underlying9 _ c1 (Rds_drew hk3); have hm3 : Rds u3 A2 D1.length (bcells D1) := (by first | exact Rds.below (by assumption) hbb3 | exact rds_drew_below (by assumption) hbb3); have hm3s := run_string_of 24 9 5 Try.underlying24 Try.underlying5 Try.underlying9 _ c2 hm3; have hm3t := run_string_of 24 9 5 Try.underlying24 Try.underlying5 Try.underlying9 _ c2 (Rds_drew hm3); clear hown)
        | (go_at_call 17; have hgA := hrd1; clear hgA; refine (HCA.out _).mono ?_; rintro e u2 ⟨v, rfl, hown, hbb2⟩; obtain ⟨A2, c2, rfl, _, _, hrd2⟩ := owns_form hown; have hbel2 : Below w.heap.size w u2 := (by first | exact bel (by assumption) hbb2 | exact bel_drew (by assumption) hbb2); have hd2 := run_string_of 24 9 5 Try.underlying24 Try.underlying5 Try.underlying9 _ c2 hrd2; have hd2' := run_string_of 24 9 5 Try.underlying24 Try.underlying5 Try.underlying9 _ c2 (Rds_drew hrd2); have hk2 : Rds u2 A1 (D1.length + D2.length) (bcells (D1 ++ D2)) := (by first | exact Rds.below (by assumption) hbb2 | exact rds_drew_below (by assumption) hbb2); have hk2s := run_string_of 24 9 5 Try.underlying24 Try.underlying5 Try.underlying9 _ c1 hk2; have hk2t := run_string_of 24 9 5 Try.underlying24 Try.underlying5 Try.underlying9 _ c1 (Rds_drew hk2); clear hown)
        | (go_at_call 17; refine (HC0.out _).mono ?_; rintro e u1 ⟨v, rfl, hown, hbb1⟩; obtain ⟨A1, c1, rfl, _, _, hrd1⟩ := owns_form hown; have hbel1 : Below w.heap.size w u1 := (by first | exact bel (by assumption) hbb1 | exact bel_drew (by assumption) hbb1); have hd1 := run_string_of 24 9 5 Try.underlying24 Try.underlying5 Try.underlying9 _ c1 hrd1; have hd1' := run_string_of 24 9 5 Try.underlying24 Try.underlying5 Try.underlying9 _ c1 (Rds_drew hrd1); clear hown))
      all_goals
        go_wp2
        go_ret
        exact ⟨rfl, by first | assumption | exact Below.drew (by assumption)⟩
  · have h1' : (600 : Int) < (a.size : Int) + (b.size : Int) := by omega
    go_enter Try.func7, Try.ntmps7
    go_wp2_with fail
    refine (EscW.awake_any _).mono ?_
    rintro e w1 ⟨rfl, hb1⟩
    go_wp2_with fail
    refine (EscW.awake_any _).mono ?_
    rintro e w2 ⟨rfl, hb2⟩
    go_wp2_with fail
    go_ret
    exact ⟨rfl, bel hb1 hb2⟩
end Go.Proofs.Ytllkkcolnjbjhaa.Laws
