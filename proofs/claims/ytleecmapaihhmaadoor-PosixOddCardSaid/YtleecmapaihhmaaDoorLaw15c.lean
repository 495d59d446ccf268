/- The law PosixOdd, walked. -/
import Derived.Test.YtleecmapaihhmaaDoorPosW
import Derived.Test.YtleecmapaihhmaaDoorUtfP
set_option linter.unusedSimpArgs false
set_option linter.unusedVariables false
namespace Go.Proofs.YtleecmapaihhmaaDoor.Laws
open Go.RowKit Go.Proofs.YtleecmapaihhmaaDoor.Base Go.Proofs.YtleecmapaihhmaaDoor.Base2 Go.Proofs.YtleecmapaihhmaaDoor.SlsP Go.Proofs.YtleecmapaihhmaaDoor.PosQ Go.Proofs.YtleecmapaihhmaaDoor.PosU Go.Proofs.YtleecmapaihhmaaDoor.PosV Go.Proofs.YtleecmapaihhmaaDoor.PosW
open Go.Proofs.YtleecmapaihhmaaDoor.PosS (seg seg_len)
open Go.Proofs.YtleecmapaihhmaaDoor.Spl (Max)

theorem dec_seg_app (L t : List UInt8) : EscD.dec (seg L ++ t) = L ++ EscD.dec t := by
  induction L with
  | nil => rfl
  | cons c L ih =>
    rw [PosS.seg_cons]
    unfold PosS.one
    split
    · rw [List.append_assoc, List.cons_append, List.cons_append, List.cons_append, List.nil_append, EscD.dec_some _ _ _ (PosS.esc_one c _)]
      simp only [List.drop_succ_cons, List.drop_zero, ih, List.cons_append]
    · rename_i hn
      have hne : c ≠ 37 := by
        rintro rfl
        exact hn (by decide +kernel)
      rw [List.append_assoc, List.cons_append, List.nil_append, EscD.dec_none _ _ (PosS.esc_not c _ hne), ih, List.cons_append]
theorem esc_at (b c v : UInt8) (t : List UInt8) (h0 : 0 ≤ UtfA.hex b.toNat) (h1 : 0 ≤ UtfA.hex c.toNat) (hv : UInt8.ofNat (16 * UtfA.hex b.toNat + UtfA.hex c.toNat).toNat = v) : EscD.dec (37 :: b :: c :: t) = v :: EscD.dec t := by
  have h : EscD.esc (37 :: b :: c :: t) = some v := by rw [EscD.esc, if_pos ⟨rfl, h0, h1⟩, hv]
  rw [EscD.dec_some _ _ _ h]
  rfl
theorem val_join (x y : List UInt8) (h : UtfR.val x = true) : UtfR.val (x ++ y) = UtfR.val y := by
  have e : UtfE.enc (UtfR.dec x) = x := by
    have := UtfP.val_iff x
    rw [h] at this
    exact of_decide_eq_true this.symm
  have h2 := (UtfP.dec_enc (UtfR.dec x) y (UtfP.dec_chr x)).2
  rw [e] at h2
  exact h2
theorem val_255 (y : List UInt8) : UtfR.val (255 :: y) = false := by rw [UtfR.val_cons]; rfl
theorem val_237 (y : List UInt8) : UtfR.val (237 :: 160 :: 128 :: y) = false := by rw [UtfR.val_cons]; rfl
def ODDS : Array Value := #[.string ⟨#[37, 50, 102]⟩, .string ⟨#[37, 50, 70]⟩, .string ⟨#[37, 48, 48]⟩, .string ⟨#[37, 102, 102]⟩, .string ⟨#[37, 101, 100, 37, 97, 48, 37, 56, 48]⟩]
theorem none_of {a S b t : List UInt8} (hd : ∀ y, EscD.dec (S ++ y) = t ++ EscD.dec y) (h : (a ++ (t ++ b)).contains 47 = true ∨ fine (47 :: (a ++ (t ++ b))) = false) : pathR FIL [] false [strOf (seg a ++ S ++ seg b)] = ([], 2) := by
  have e : EscD.dec (strOf (seg a ++ S ++ seg b)).data.toList = a ++ (t ++ b) := by
    show EscD.dec (seg a ++ S ++ seg b) = _
    rw [List.append_assoc, dec_seg_app, hd]
    have := dec_seg_app b []
    rw [List.append_nil] at this
    rw [this]
    show a ++ (t ++ (b ++ [])) = _
    rw [List.append_nil]
  have hn : posPath [strOf (seg a ++ S ++ seg b)] = none := by
    unfold posPath
    rw [if_neg]
    rintro ⟨h1, h2⟩
    rcases h with h | h
    · unfold free47 at h1
      simp only [List.all_cons, List.all_nil, Bool.and_true, e, h] at h1
      cases h1
    · unfold outP at h2
      simp only [List.flatMap_cons, List.flatMap_nil, List.append_nil, e, h] at h2
      cases h2
  unfold pathR
  rw [if_neg (by rintro (h | h); exact h rfl; cases h), if_neg (fun h => h rfl), hn]
theorem fine_zero (a b : List UInt8) : fine (47 :: (a ++ ([0] ++ b))) = false := by
  cases e : fine (47 :: (a ++ ([0] ++ b))) with
  | false => rfl
  | true =>
    have := ((fine_iff _).1 e).2.2.1
    simp at this
theorem fine_val {L : List UInt8} (h : UtfR.val L = false) : fine L = false := by unfold fine; rw [h]; rfl
theorem odds (r : Nat) (h : r < 5) : ∃ S : List UInt8, S.length ≤ 9 ∧ (ODDS[r]? = some (.string (strOf S))) ∧ ∀ a b : List UInt8, (r ≤ 2 ∨ UtfR.val a = true ∧ UtfR.val b = true) → pathR FIL [] false [strOf (seg a ++ S ++ seg b)] = ([], 2) := by
  have hcase : r = 0 ∨ r = 1 ∨ r = 2 ∨ r = 3 ∨ r = 4 := by omega
  have v47 : ∀ a : List UInt8, UtfR.val a = true → UtfR.val (47 :: a) = true := fun a h => by
    have := val_join [47] a (by decide +kernel)
    rw [h] at this
    exact this
  rcases hcase with rfl | rfl | rfl | rfl | rfl
  · exact ⟨[37, 50, 102], by decide, rfl, fun a b _ => none_of (t := [47]) (fun y => esc_at 50 102 47 y (by decide) (by decide) (by decide)) (.inl (by simp))⟩
  · exact ⟨[37, 50, 70], by decide, rfl, fun a b _ => none_of (t := [47]) (fun y => esc_at 50 70 47 y (by decide) (by decide) (by decide)) (.inl (by simp))⟩
  · exact ⟨[37, 48, 48], by decide, rfl, fun a b _ => none_of (t := [0]) (fun y => esc_at 48 48 0 y (by decide) (by decide) (by decide)) (.inr (fine_zero a b))⟩
  · refine ⟨[37, 102, 102], by decide, rfl, fun a b hv => none_of (t := [255]) (fun y => esc_at 102 102 255 y (by decide) (by decide) (by decide)) (.inr (fine_val ?_))⟩
    have hva := (hv.resolve_left (by decide)).1
    rw [show (47 : UInt8) :: (a ++ ([255] ++ b)) = (47 :: a) ++ (255 :: b) by simp, val_join _ _ (v47 a hva), val_255]
  · refine ⟨[37, 101, 100, 37, 97, 48, 37, 56, 48], by decide, rfl, fun a b hv => none_of (t := [237, 160, 128]) (fun y => ?_) (.inr (fine_val ?_))⟩
    · show EscD.dec (37 :: 101 :: 100 :: 37 :: 97 :: 48 :: 37 :: 56 :: 48 :: y) = _
      rw [esc_at 101 100 237 _ (by decide) (by decide) (by decide), esc_at 97 48 160 _ (by decide) (by decide) (by decide), esc_at 56 48 128 _ (by decide) (by decide) (by decide)]
      rfl
    · have hva := (hv.resolve_left (by decide)).1
      rw [show (47 : UInt8) :: (a ++ ([237, 160, 128] ++ b)) = (47 :: a) ++ (237 :: 160 :: 128 :: b) by simp, val_join _ _ (v47 a hva), val_237]
set_option linter.unusedSimpArgs false in
set_option maxRecDepth 100000 in
set_option maxHeartbeats 8000000 in
theorem PosixOdd_any (a b : ByteArray) (z : Int) (w : World) (h0 : a.size ≤ 140737488351232) (h1 : b.size ≤ 140737488351232) (hz : 0 ≤ z ∧ z ≤ 255) (hT : Tab.Pow w) (hM : Max w) : Calls Tryd.prog 4 #[.string a, .string b, .int .u8 z] w fun e w' => e = .returned (.bool true) ∧ Below w.heap.size w w' := by
  have HE := hid (⟨hT, hM⟩ : Env w)
  have HAW : Hid (∀ w : World, Env w → Calls Tryd.prog 6 #[] w fun e w' => e = .returned (.bool true) ∧ Below w.heap.size w w') := fun w E => awake_any w E
  clear hT hM
  by_cases hl : a.size + b.size ≤ 200
  · have hli : ¬ (200 : Int) < (a.size : Int) + (b.size : Int) := by omega
    obtain ⟨hz0, hz1⟩ := hz
    obtain ⟨y, rfl⟩ : ∃ y : Nat, z = (y : Int) := ⟨z.toNat, by omega⟩
    obtain ⟨r, hr⟩ : ∃ r, r = y % 5 := ⟨_, rfl⟩
    have hr5 : r < 5 := by omega
    have hr5' : (r : Int) < 5 := by omega
    have hm1 : (y : Int).tmod 5 = (r : Int) := by rw [Int.tmod_eq_emod_of_nonneg (by omega)]; omega
    have hm2 : (y : Int) % 5 = (r : Int) := by omega
    obtain ⟨S, hS9, hS, hV⟩ := odds r hr5
    obtain ⟨X, hX⟩ : ∃ X, X = seg a.data.toList ++ S ++ seg b.data.toList := ⟨_, rfl⟩
    obtain ⟨sa, hsa⟩ : ∃ sa, sa = seg a.data.toList := ⟨_, rfl⟩
    obtain ⟨sb, hsb⟩ : ∃ sb, sb = seg b.data.toList := ⟨_, rfl⟩
    obtain ⟨Y, hY⟩ : ∃ Y, Y = sa ++ S := ⟨_, rfl⟩
    have hal : a.data.toList.length = a.size := Array.length_toList
    have hbl : b.data.toList.length = b.size := Array.length_toList
    have hsal : sa.length ≤ 600 := by rw [hsa]; have := seg_len a.data.toList; omega
    have hsbl : sb.length ≤ 600 := by rw [hsb]; have := seg_len b.data.toList; omega
    have hYl : Y.length ≤ 700 := by rw [hY, List.length_append]; omega
    have ad1 : ∀ w, (Op.stringOp .add (strOf sa) (strOf S)).run Tryd.prog w = .ok (.string (strOf Y)) w := fun w => by rw [str_add sa S w (by omega), hY]
    have ad2 : ∀ w, (Op.stringOp .add (strOf Y) (strOf sb)).run Tryd.prog w = .ok (.string (strOf X)) w := fun w => by rw [str_add Y sb w (by omega), hX, hY, hsa, hsb]
    have hXl : X.length ≤ 2000 := by rw [hX, ← hsa, ← hsb, ← hY, List.length_append]; omega
    have HSA : Hid (∀ w : World, Calls Tryd.prog 12 #[.string a] w fun e w' => e = .returned (.string (strOf sa)) ∧ Below w.heap.size w w') := fun w => by rw [hsa]; exact PosC.segment_any a w (by omega)
    have HSB : Hid (∀ w : World, Calls Tryd.prog 12 #[.string b] w fun e w' => e = .returned (.string (strOf sb)) ∧ Below w.heap.size w w') := fun w => by rw [hsb]; exact PosC.segment_any b w (by omega)
    obtain ⟨V, hVd⟩ : ∃ V, V = pathR FIL [] false [strOf X] := ⟨_, rfl⟩
    have HPA : Hid (∀ (A : Option Addr) (w : World), Rds w A 1 [.string (strOf X)] → Env w → Calls Tryd.prog 14 #[.agg #[.string ⟨#[102, 105, 108, 101]⟩, .string ⟨#[]⟩, .string ⟨#[]⟩, .string ⟨#[]⟩, .bool true, .int .i64 (-1), .bool false, .string ⟨#[]⟩, .slice A 1 1, .bool false, .bool false, .string ⟨#[]⟩, .string ⟨#[]⟩]] w fun e w' => e = .returned (.tuple #[.string (strOf V.1), .int .i64 V.2]) ∧ Below w.heap.size w w') := fun A w hR E => by
      rw [hVd]
      exact path_any ⟨#[102, 105, 108, 101]⟩ ⟨#[]⟩ ⟨#[]⟩ ⟨#[]⟩ true (-1) false ⟨#[]⟩ A 1 1 [strOf X] false false ⟨#[]⟩ ⟨#[]⟩ w hR (Nat.le_refl _) (by decide) (by rw [UrlP.length_pth]; simp [size_strOf]; omega) E.max
    have hV2 : (r ≤ 2 ∨ UtfR.val a.data.toList = true ∧ UtfR.val b.data.toList = true) → V = ([], 2) := fun h => by rw [hVd, hX]; exact hV _ _ h
    obtain ⟨va, hva⟩ : ∃ v, v = UtfR.val a.data.toList := ⟨_, rfl⟩
    obtain ⟨vb, hvb⟩ : ∃ v, v = UtfR.val b.data.toList := ⟨_, rfl⟩
    rw [← hva, ← hvb] at hV2
    have HVA : Hid (∀ (A : Option Addr) (n cap : Nat) (w : World), Rds w A n (bcells a.data.toList) → n ≤ 1073741824 → n ≤ cap → Calls Tryd.prog 15 #[.slice A n cap] w fun e w' => e = .returned (.bool va) ∧ Below w.heap.size w w') := fun A n cap w h1 h2 h3 => by rw [hva]; exact RefV.valid_any A n cap _ w h1 h2 h3
    have HVB : Hid (∀ (A : Option Addr) (n cap : Nat) (w : World), Rds w A n (bcells b.data.toList) → n ≤ 1073741824 → n ≤ cap → Calls Tryd.prog 15 #[.slice A n cap] w fun e w' => e = .returned (.bool vb) ∧ Below w.heap.size w w') := fun A n cap w h1 h2 h3 => by rw [hvb]; exact RefV.valid_any A n cap _ w h1 h2 h3
    have HCA : Hid (∀ w : World, a.size ≤ grownCap w a.size 0 5) := fun w => grownCap_ge w a.size 0 5
    have HCB : Hid (∀ w : World, b.size ≤ grownCap w b.size 0 5) := fun w => grownCap_ge w b.size 0 5
    have HV2 := hid hV2
    have hcell : ∀ W : World, (W.alloc (.cells ODDS 9)).cell? ⟨W.heap.size, r, none⟩ = some (.string (strOf S)) := fun W => by rw [World.cell?_alloc_mark]; exact hS
    unfold ODDS at hcell
    have hrI : (0 : Int) ≤ (r : Int) := by omega
    clear hr hX hsa hsb hY hal hbl hsal hsbl hYl hXl hVd hV hV2 hva hvb hS hS9 h0 h1
    go_enter Tryd.func4, Tryd.ntmps4
    go_wp2_with fail
    refine (HAW.out _ HE.out).mono ?_
    rintro e w1 ⟨rfl, hb⟩
    have HB1 := hid hb
    have E_1 := hid (HE.out.below hb)
    clear hb
    go_wp2_with fail
    clear hcell
    refine (HSA.out _).mono ?_
    rintro e w2 ⟨rfl, hb2⟩
    have hb : Below w1.heap.size w1 w2 := ((Below.refl w1.heap.size w1).alloc (Nat.le_refl _) _).trans (hb2.mono (by simp))
    clear hb2
    have HB2 := hid (bel HB1.out hb)
    have E_2 := hid (E_1.out.below hb)
    clear hb
    go_wp2_with fail
    refine (HSB.out _).mono ?_
    rintro e w3 ⟨rfl, hb⟩
    have HB3 := hid (bel HB2.out hb)
    have E_3 := hid (E_2.out.below hb)
    clear hb
    go_wp2_with fail
    refine (HPA.out (some ⟨w3.heap.size, 0, none⟩) _ ((one_cell w3 _ _).below ((Below.refl _ _).alloc (Nat.le_refl _) _)) (E_3.out.below (((Below.refl _ _).alloc (Nat.le_refl _) _).alloc (by simp) _))).mono ?_
    rintro e w5 ⟨rfl, hb5⟩
    have hb : Below w3.heap.size w3 w5 := (((Below.refl w3.heap.size w3).alloc (Nat.le_refl _) _).alloc (by simp) _).trans (hb5.mono (by simp; omega))
    clear hb5
    have HB4 := hid (bel HB3.out hb)
    have E_4 := hid (E_3.out.below hb)
    clear hb
    have q3 : (strOf ([] : List UInt8)).toList = [] := by rw [tl]; rfl
    by_cases h2 : r ≤ 2
    · have h2i : ¬ (2 : Int) < (r : Int) := by omega
      obtain rfl : V = ([], 2) := HV2.out (.inl h2)
      clear h2
      go_wp2
      go_ret
      exact ⟨by first | rfl | trivial, HB4.out⟩
    · have h2i : (2 : Int) < (r : Int) := by omega
      have hcv := fun (w : World) s => run_bytes_of_string (P := Tryd.prog) w 9 37 5 s Tryd.underlying9 Tryd.underlying37 Tryd.underlying5
      go_wp2_with fail
      clear hcv
      refine (HVA.out _ a.size _ _ (rds_made a _ _ 5) (by omega) (HCA.out _)).mono ?_
      rintro e w7 ⟨rfl, hb0⟩
      have hb : Below w5.heap.size w5 w7 := (((Below.refl w5.heap.size w5).alloc (Nat.le_refl _) _).drew).trans (hb0.mono (by simp))
      clear hb0
      have HB5 := hid (bel HB4.out hb)
      have E_5 := hid (E_4.out.below hb)
      clear hb
      cases va with
      | false =>
        go_wp2
        go_ret
        exact ⟨by first | rfl | trivial, HB5.out⟩
      | true =>
        have hcv := fun (w : World) s => run_bytes_of_string (P := Tryd.prog) w 9 37 5 s Tryd.underlying9 Tryd.underlying37 Tryd.underlying5
        go_wp2_with fail
        clear hcv
        refine (HVB.out _ b.size _ _ (rds_made b _ _ 5) (by omega) (HCB.out _)).mono ?_
        rintro e w8 ⟨rfl, hb0⟩
        have hb : Below w7.heap.size w7 w8 := (((Below.refl w7.heap.size w7).alloc (Nat.le_refl _) _).drew).trans (hb0.mono (by simp))
        clear hb0
        have HB6 := hid (bel HB5.out hb)
        have E_6 := hid (E_5.out.below hb)
        clear hb
        cases vb with
        | false =>
          go_wp2
          go_ret
          exact ⟨by first | rfl | trivial, HB6.out⟩
        | true =>
          obtain rfl : V = ([], 2) := HV2.out (.inr (by constructor <;> first | rfl | trivial))
          go_wp2
          go_ret
          exact ⟨by first | rfl | trivial, HB6.out⟩
  · have hli : (200 : Int) < (a.size : Int) + (b.size : Int) := by omega
    go_enter Tryd.func4, Tryd.ntmps4
    go_wp2_with fail
    refine (HAW.out _ HE.out).mono ?_
    rintro e w1 ⟨rfl, hb⟩
    have HB1 := hid hb
    have E_1 := hid (HE.out.below hb)
    clear hb
    go_wp2_with fail
    refine (HAW.out _ E_1.out).mono ?_
    rintro e w2 ⟨rfl, hb⟩
    have HB2 := hid (bel HB1.out hb)
    have E_2 := hid (E_1.out.below hb)
    clear hb
    go_wp2
    go_ret
    exact ⟨by first | rfl | trivial, HB2.out⟩
end Go.Proofs.YtleecmapaihhmaaDoor.Laws
