/- Texts that belong together: SixD, SixE, SixF, SixL, SixM. -/
import Derived.Test.YtmdofbccebkbiaaGreatDoorMB
import Derived.Test.YtmdofbccebkbiaaGreatDoorMA
import Derived.Deep.DeepCutAuto
import Derived.Deep.CutBlock
set_option linter.unusedSimpArgs false
set_option linter.unusedVariables false
namespace Go.Proofs.YtmdofbccebkbiaaGreatDoor.SixE
open Go.RowKit Base Base2 Base3 UtfA QudP SixP SixQ SixA SixB
theorem cut_str (s : ByteArray) (k : Nat) : (s.extract k s.size).data.toList = s.data.toList.drop k := by
 have hl : s.data.toList.length = s.size := Array.length_toList
 rw [ByteArray.data_extract]
 simp only [Array.toList_extract, List.extract_eq_take_drop]
 rw [List.take_of_length_le (by rw [List.length_drop]; omega)]
end Go.Proofs.YtmdofbccebkbiaaGreatDoor.SixE
namespace Go.Proofs.YtmdofbccebkbiaaGreatDoor.SixF
open Go.RowKit Base Base2 Base3 UtfA QudP SixP SixQ SixA SixB SixC SixE
theorem quad_small {t : List UInt8} {a b : Nat} (h : quad t = some [a, b]) : a < 65536 ∧ b < 65536 := by
 have hall : ∀ (ps : List (List UInt8)) (l : List Nat), smalls ps = some l → ∀ x ∈ l, x ≤ 255 := by
  intro ps
  induction ps with
  | nil => intro l h; injection h with h; subst h; intro x hx; simp at hx
  | cons p r ih =>
   intro l h
   rw [smalls] at h
   split at h
   ·rename_i n y h1 h2
    injection h with h
    subst h
    intro x hx
    rcases List.mem_cons.1 hx with rfl | hx
    ·exact small_le h1
    ·exact ih y h2 x hx
   ·cases h
 unfold quad at h
 cases e : smalls (splt t) with
 | none => rw [e] at h; cases h
 | some l =>
  rw [e] at h
  replace h : two l = some [a, b] := h
  unfold two at h
  split at h
  ·rename_i x1 x2 x3 x4
   injection h with h
   injection h with h1 h
   injection h with h2 _
   have y1 := hall _ _ e x1 (by simp)
   have y2 := hall _ _ e x2 (by simp)
   have y3 := hall _ _ e x3 (by simp)
   have y4 := hall _ _ e x4 (by simp)
   omega
  ·cases h
end Go.Proofs.YtmdofbccebkbiaaGreatDoor.SixF
namespace Go.Proofs.YtmdofbccebkbiaaGreatDoor.SixL
open Go.RowKit Base QudP SixP SixQ SixA SixB SixC SixG SixH SixI
theorem six_fnd0 (s : List UInt8) : six s = match fnd0 (splc s) with
  | none => SixP.eight (pcs true (splc s)) []
  | some p => both (sideP false p.1) (sideP true p.2) [] := by
 rw [cut2_fnd0 s]
 unfold six
 cases cut2 s <;> rfl
theorem piece_is {p : List UInt8} {n : Nat} (h : piece p = some n) : p ≠ [] ∧ digs 16 p = true := by
 unfold piece at h
 split at h
 ·rename_i h2
  refine ⟨?_, h2.2.2⟩
  rintro rfl
  simp at h2
 ·cases h
theorem piece_no {p : List UInt8} {n : Nat} (h : piece p = some n) (x : UInt8) (hx : isD 16 x = false) : ∀ c ∈ p, c ≠ x := by
 rintro c hc rfl
 rw [digs_mem (piece_is h).2 hc] at hx
 cases hx
theorem splc_join : ∀ (ws : List (List UInt8)) (ns : List Nat), ws ≠ [] → ws.map piece = ns.map some → splc (joinC ws) = ws
 | [], _, h, _ => absurd rfl h
 | [w], ns, _, h => by
  match ns, h with
  | [], h => simp at h
  | n :: ns, h =>
   simp at h
   exact splc_plain w (piece_no h.1 58 (isD_colon 16))
 | w :: v :: r, ns, _, h => by
  match ns, h with
  | n :: ns, h =>
   simp only [List.map_cons, List.cons.injEq] at h
   show splc (w ++ 58 :: joinC (v :: r)) = _
   rw [splc_app w _ (piece_no h.1 58 (isD_colon 16)), splc_join (v :: r) ns (by simp) (by simpa using h.2)]
theorem splc_join_app : ∀ (ws : List (List UInt8)) (ns : List Nat) (M : List UInt8), ws ≠ [] → ws.map piece = ns.map some → splc (joinC ws ++ 58 :: M) = ws ++ splc M
 | [], _, _, h, _ => absurd rfl h
 | [w], ns, M, _, h => by
  match ns, h with
  | [], h => simp at h
  | n :: ns, h =>
   simp at h
   exact splc_app w M (piece_no h.1 58 (isD_colon 16))
 | w :: v :: r, ns, M, _, h => by
  match ns, h with
  | n :: ns, h =>
   simp only [List.map_cons, List.cons.injEq] at h
   show splc ((w ++ 58 :: joinC (v :: r)) ++ 58 :: M) = _
   rw [List.append_assoc, List.cons_append, splc_app w _ (piece_no h.1 58 (isD_colon 16)), splc_join_app (v :: r) ns M (by simp) (by simpa using h.2)]
   rfl
theorem pcs_all (e : Bool) : ∀ (ws : List (List UInt8)) (ns : List Nat), ws.map piece = ns.map some → pcs e ws = some ns
 | [], ns, h => by
  match ns, h with
  | [], _ => rfl
 | w :: r, ns, h => by
  match ns, h with
  | n :: ns, h =>
   simp only [List.map_cons, List.cons.injEq] at h
   have hn : ¬ (e = true ∧ r = [] ∧ w.contains 46 = true) := by
    rintro ⟨_, _, h3⟩
    have hm : (46 : UInt8) ∈ w := by simpa using h3
    exact piece_no h.1 46 (isD_dot 16) 46 hm rfl
   rw [pcs, if_neg hn, h.1, pcs_all e r ns h.2]
theorem fnd_full : ∀ (ws : List (List UInt8)), (∀ w ∈ ws, w ≠ []) → fnd ws = none
 | [], _ => rfl
 | [_], _ => rfl
 | p :: q :: r, h => by
  rw [fnd, if_neg (h p (by simp)), fnd_full (q :: r) fun w hw => h w (by simp [hw])]
theorem fnd_gap : ∀ (ws q : List (List UInt8)), (∀ w ∈ ws, w ≠ []) → q ≠ [] → fnd (ws ++ [] :: q) = some (ws, q)
 | [], q, _, hq => fnd_nil q hq
 | p :: r, q, h, hq => by
  have ih := fnd_gap r q (fun w hw => h w (by simp [hw])) hq
  cases hr : r ++ [] :: q with
  | nil => simp at hr
  | cons x y =>
   rw [hr] at ih
   show fnd (p :: (r ++ [] :: q)) = _
   rw [hr, fnd, if_neg (h p (by simp)), ih]
theorem map_ne {ws : List (List UInt8)} {ns : List Nat} (h : ws.map piece = ns.map some) : ∀ w ∈ ws, w ≠ [] := by
 induction ws generalizing ns with
 | nil => intro w hw; simp at hw
 | cons v r ih =>
  match ns, h with
  | n :: ns, h =>
   simp only [List.map_cons, List.cons.injEq] at h
   intro w hw
   rcases List.mem_cons.1 hw with rfl | hw
   ·exact (piece_is h.1).1
   ·exact ih h.2 w hw
theorem map_len {ws : List (List UInt8)} {ns : List Nat} (h : ws.map piece = ns.map some) : ws.length = ns.length := by
 have := congrArg List.length h
 simpa using this
theorem six_all (ws : List (List UInt8)) (ns : List Nat) (h : ws.map piece = ns.map some) (h8 : ns.length = 8) : six (joinC ws) = some ns := by
 have hl := map_len h
 have hne := map_ne h
 match ws, hl, hne, h with
 | [], hl, _, _ => simp at hl; omega
 | p :: r, _, hne, h =>
  rw [six_fnd0, splc_join _ ns (by simp) h]
  have : fnd0 (p :: r) = none := by
   show (match fnd r with | none => none | some x => some (p :: x.1, x.2)) = none
   rw [fnd_full r fun w hw => hne w (by simp [hw])]
  rw [this]
  simp only []
  rw [pcs_all true _ ns h]
  unfold SixP.eight
  simp [h8]
theorem side_all (e : Bool) (ws : List (List UInt8)) (ns : List Nat) (h : ws.map piece = ns.map some) : sideP e (splc (joinC ws)) = some ns := by
 match ws, h with
 | [], h =>
  match ns, h with
  | [], _ => rfl
 | p :: r, h =>
  have hne := map_ne h
  rw [splc_join _ ns (by simp) h, sideP_neg e, pcs_all e _ ns h]
  intro h2
  exact hne [] (by rw [h2]; simp) rfl
theorem six_gap (ws1 ws2 : List (List UInt8)) (ns1 ns2 : List Nat) (h1 : ws1.map piece = ns1.map some) (h2 : ws2.map piece = ns2.map some) (hl : ns1.length + ns2.length < 8) :
  six (joinC ws1 ++ 58 :: 58 :: joinC ws2) = some (fill ns1 ns2) := by
 rw [six_fnd0]
 match ws1, h1 with
 | [], h1 =>
  match ns1, h1, hl with
  | [], _, hl =>
   rw [show joinC [] ++ 58 :: 58 :: joinC ws2 = 58 :: 58 :: joinC ws2 from rfl, splc_colon, splc_colon]
   have : fnd0 ([] :: [] :: splc (joinC ws2)) = some ([[]], splc (joinC ws2)) := by
    show (match fnd ([] :: splc (joinC ws2)) with | none => none | some x => some ([] :: x.1, x.2)) = _
    rw [fnd_nil _ (splc_ne _)]
   rw [this]
   simp only []
   rw [side_all true ws2 ns2 h2, show sideP false [[]] = some [] from rfl]
   unfold both
   simp only [List.length_nil, Nat.zero_add] at hl ⊢
   rw [if_pos hl]
   rfl
 | p :: r, h1 =>
  have hne := map_ne h1
  rw [splc_join_app _ ns1 _ (by simp) h1, splc_colon]
  have : fnd0 ((p :: r) ++ [] :: splc (joinC ws2)) = some (p :: r, splc (joinC ws2)) := by
   show (match fnd (r ++ [] :: splc (joinC ws2)) with | none => none | some x => some (p :: x.1, x.2)) = _
   rw [fnd_gap r _ (fun w hw => hne w (by simp [hw])) (splc_ne _)]
  rw [this]
  simp only []
  rw [side_all true ws2 ns2 h2, sideP_neg false, pcs_all false _ ns1 h1]
  ·unfold both
   simp only [List.length_nil, Nat.zero_add]
   rw [if_pos hl]
   rfl
  ·intro h3
   exact hne [] (by rw [h3]; simp) rfl
theorem digs_hexd (d : Nat) (h : d < 16) : digs 16 [hexd d] = true := by
 unfold digs
 simp [(hexd_ok d h).1]
theorem hx_reads : ∀ (m n : Nat), n ≤ m → n < 65536 → digs 16 (hx n) = true ∧ val 16 (hx n) = n ∧ 1 ≤ (hx n).length
 | m, n, hm, h6 => by
  by_cases h16 : 16 ≤ n
  ·cases m with
   | zero => omega
   | succ m =>
    obtain ⟨i1, i2, i3⟩ := hx_reads m (n / 16) (by omega) (by omega)
    have hd := hexd_ok (n % 16) (by omega)
    rw [hx_big h16 h6]
    refine ⟨?_, ?_, ?_⟩
    ·rw [digs_snoc, i1, hd.1]; rfl
    ·rw [val_snoc, i2, hd.2.1]; omega
    ·simp
  ·have hd := hexd_ok n (by omega)
   rw [hx_small (by omega)]
   refine ⟨digs_hexd n (by omega), ?_, by simp⟩
   show 0 * 16 + dv (hexd n) = n
   rw [hd.2.1]
   omega
theorem piece_hx (n : Nat) (h : n < 65536) : piece (hx n) = some n := by
 obtain ⟨h1, h2, h3⟩ := hx_reads n n (Nat.le_refl _) h
 rw [piece_some h3 (hx_len n) h1, h2]
theorem map_hx : ∀ (L : List Nat), (∀ x ∈ L, x < 65536) → (L.map hx).map piece = L.map some
 | [], _ => rfl
 | n :: L, h => by
  rw [List.map_cons, List.map_cons, List.map_cons, piece_hx n (h n (by simp)), map_hx L fun x hx => h x (by simp [hx])]
theorem fill_gap (L : List Nat) (a b : Nat) (hL : L.length = 8) (hab : a < b) (hb : b ≤ 8) (hz : ∀ i (h : i < L.length), a ≤ i → i < b → L[i] = 0) : fill (L.take a) (L.drop b) = L := by
 unfold fill
 apply List.ext_getElem
 ·simp; omega
 ·intro i h1 h2
  by_cases c1 : i < a
  ·rw [List.getElem_append_left (by rw [List.length_append, List.length_take]; omega), List.getElem_append_left (by rw [List.length_take]; omega), List.getElem_take]
  ·by_cases c2 : i < b
   ·rw [List.getElem_append_left (by rw [List.length_append, List.length_replicate, List.length_take, List.length_drop]; omega), List.getElem_append_right (by rw [List.length_take]; omega), List.getElem_replicate, hz i h2 (by omega) c2]
   ·rw [List.getElem_append_right (by rw [List.length_append, List.length_take, List.length_replicate, List.length_drop]; omega), List.getElem_drop]
    congr 1
    rw [List.length_append, List.length_take, List.length_replicate, List.length_drop]
    omega
theorem zero_gap (f : Nat → Nat) : ∀ i (h : i < (V8 f).length), (lng (zs f)).1 ≤ i → i < (lng (zs f)).2 → (V8 f)[i] = 0 := by
 intro i h h1 h2
 have hf := (lng_facts (f 0 == 0) (f 1 == 0) (f 2 == 0) (f 3 == 0) (f 4 == 0) (f 5 == 0) (f 6 == 0) (f 7 == 0)).2.2.1
 replace hf : (((zs f).take (lng (zs f)).2).drop (lng (zs f)).1).all id = true := hf
 have hi8 : i < 8 := h
 have hz : (zs f)[i]'hi8 = true := by
  have hm : (zs f)[i]'hi8 ∈ ((zs f).take (lng (zs f)).2).drop (lng (zs f)).1 := by
   refine List.mem_iff_getElem.2 ⟨i - (lng (zs f)).1, ?_, ?_⟩
   ·rw [List.length_drop, List.length_take, zs_length]; have := (six_eight f).2; omega
   ·rw [List.getElem_drop, List.getElem_take]
    congr 1
    omega
  exact List.all_eq_true.1 hf _ hm
 rw [V8_get f i hi8]
 have hz2 : (f i == 0) = true := (zs_get f i hi8 hi8).symm.trans hz
 simpa using hz2
theorem six_prt (f : Nat → Nat) (h : ∀ i, f i < 65536) : six (SixI.prt f) = some (V8 f) := by
 have h6 := V8_mem h
 have hab := six_eight f
 unfold SixI.prt
 by_cases h2 : (lng (zs f)).2 - (lng (zs f)).1 < 2
 ·rw [if_pos h2]
  exact six_all _ _ (map_hx _ h6) rfl
 ·rw [if_neg h2]
  unfold jx
  rw [List.append_assoc]
  show six (joinC _ ++ 58 :: 58 :: joinC _) = _
  have hV : (V8 f).length = 8 := rfl
  rw [six_gap _ _ _ _ (map_hx _ fun x hx => h6 x (List.mem_of_mem_take hx)) (map_hx _ fun x hx => h6 x (List.mem_of_mem_drop hx)) (by rw [List.length_take, List.length_drop, hV]; omega)]
  rw [fill_gap (V8 f) _ _ rfl (by omega) hab.2 (zero_gap f)]
theorem six_len {s : List UInt8} {V : List Nat} (h : six s = some V) : V.length = 8 := by
 unfold six at h
 split at h
 ·unfold SixP.eight at h
  split at h
  ·split at h
   ·rename_i hlt
    injection h with h
    subst h
    simpa using hlt
   ·cases h
  ·cases h
 ·unfold both at h
  split at h
  ·split at h
   ·injection h with h
    subst h
    rename_i hlt
    unfold fill
    simp at hlt ⊢
    omega
   ·cases h
  ·cases h
end Go.Proofs.YtmdofbccebkbiaaGreatDoor.SixL
