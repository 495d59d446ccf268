/- Texts that belong together: SixD, SixE, SixF, Yf, SixM. -/
import Derived.Test.YtmdofbccebkbiaaGreatDoorMB
import Derived.Test.YtmdofbccebkbiaaGreatDoorMA
import Derived.Deep.DeepCutAuto
import Derived.Deep.CutBlock
set_option linter.unusedSimpArgs false
set_option linter.unusedVariables false
set_option maxRecDepth 100000
set_option maxHeartbeats 64000000
namespace Go.Proofs.YtmdofbccebkbiaaGreatDoor.SixE
open Go.RowKit Base aT kW dM mX rH GV JF GU
theorem zy (s : ByteArray) (k : Nat) : (s.extract k s.size).data.toList = s.data.toList.drop k := by
 have hl : s.data.toList.length = s.size := Array.length_toList
 rw [ByteArray.data_extract]
 simp only [Array.toList_extract, List.extract_eq_take_drop]
 rw [List.take_of_length_le (by rw [List.length_drop]; omega)]
end Go.Proofs.YtmdofbccebkbiaaGreatDoor.SixE
namespace Go.Proofs.YtmdofbccebkbiaaGreatDoor.SixF
open Go.RowKit Base aT kW dM mX rH GV JF GU eF SixE
theorem IV {t : List UInt8} {a b : Nat} (h : jY t = some [a, b]) : a < 65536 ∧ b < 65536 := by
 have hall : ∀ (ps : List (List UInt8)) (l : List Nat), smalls ps = some l → ∀ x ∈ l, x ≤ 255 := by
  intro ps
  induction ps with
  | nil => intro l h; injection h with h; subst h; intro x hx; simp at hx
  | cons p r ih =>
   intro l h
   rw [smalls] at h
   split at h
   ·rename_i n y h1 h2
    injection h with h
    subst h
    intro x hx
    rcases List.mem_cons.1 hx with rfl | hx
    ·exact Ql h1
    ·exact ih y h2 x hx
   ·cases h
 unfold jY at h
 cases e : smalls (bY t) with
 | none => rw [e] at h; cases h
 | some l =>
  rw [e] at h
  replace h : two l = some [a, b] := h
  unfold two at h
  split at h
  ·rename_i x1 x2 x3 x4
   injection h with h
   injection h with h1 h
   injection h with h2 _
   have y1 := hall _ _ e x1 (by simp)
   have y2 := hall _ _ e x2 (by simp)
   have y3 := hall _ _ e x3 (by simp)
   have y4 := hall _ _ e x4 (by simp)
   omega
  ·cases h
end Go.Proofs.YtmdofbccebkbiaaGreatDoor.SixF
namespace Go.Proofs.YtmdofbccebkbiaaGreatDoor.Yf
open Go.RowKit Base mX rH GV JF GU eF lI Md lJ
theorem Qk (s : List UInt8) : six s = match RU (dw s) with
  | none => rH.eight (gJ true (dw s)) []
  | some p => both (fD false p.1) (fD true p.2) [] := by
 rw [Eu s]
 unfold six
 cases wV s <;> rfl
theorem PN {p : List UInt8} {n : Nat} (h : piece p = some n) : p ≠ [] ∧ dH 16 p = true := by
 unfold piece at h
 split at h
 ·rename_i h2
  refine ⟨?_, h2.2.2⟩
  rintro rfl
  simp at h2
 ·cases h
theorem yH {p : List UInt8} {n : Nat} (h : piece p = some n) (x : UInt8) (hx : jV 16 x = false) : ∀ c ∈ p, c ≠ x := by
 rintro c hc rfl
 rw [CS (PN h).2 hc] at hx
 cases hx
theorem ET : ∀ (ws : List (List UInt8)) (ns : List Nat), ws ≠ [] → ws.map piece = ns.map some → dw (iM ws) = ws
 | [], _, h, _ => absurd rfl h
 | [w], ns, _, h => by
  match ns, h with
  | [], h => simp at h
  | n :: ns, h =>
   simp at h
   exact wB w (yH h.1 58 (kF 16))
 | w :: v :: r, ns, _, h => by
  match ns, h with
  | n :: ns, h =>
   simp only [List.map_cons, List.cons.injEq] at h
   show dw (w ++ 58 :: iM (v :: r)) = _
   rw [uQ w _ (yH h.1 58 (kF 16)), ET (v :: r) ns (by simp) (by simpa using h.2)]
theorem Az : ∀ (ws : List (List UInt8)) (ns : List Nat) (M : List UInt8), ws ≠ [] → ws.map piece = ns.map some → dw (iM ws ++ 58 :: M) = ws ++ dw M
 | [], _, _, h, _ => absurd rfl h
 | [w], ns, M, _, h => by
  match ns, h with
  | [], h => simp at h
  | n :: ns, h =>
   simp at h
   exact uQ w M (yH h.1 58 (kF 16))
 | w :: v :: r, ns, M, _, h => by
  match ns, h with
  | n :: ns, h =>
   simp only [List.map_cons, List.cons.injEq] at h
   show dw ((w ++ 58 :: iM (v :: r)) ++ 58 :: M) = _
   rw [List.append_assoc, List.cons_append, uQ w _ (yH h.1 58 (kF 16)), Az (v :: r) ns M (by simp) (by simpa using h.2)]
   rfl
theorem Gm (e : Bool) : ∀ (ws : List (List UInt8)) (ns : List Nat), ws.map piece = ns.map some → gJ e ws = some ns
 | [], ns, h => by
  match ns, h with
  | [], _ => rfl
 | w :: r, ns, h => by
  match ns, h with
  | n :: ns, h =>
   simp only [List.map_cons, List.cons.injEq] at h
   have hn : ¬ (e = true ∧ r = [] ∧ w.contains 46 = true) := by
    rintro ⟨_, _, h3⟩
    have hm : (46 : UInt8) ∈ w := by simpa using h3
    exact yH h.1 46 (oL 16) 46 hm rfl
   rw [gJ, if_neg hn, h.1, Gm e r ns h.2]
theorem O1 : ∀ (ws : List (List UInt8)), (∀ w ∈ ws, w ≠ []) → Ad ws = none
 | [], _ => rfl
 | [_], _ => rfl
 | p :: q :: r, h => by
  rw [Ad, if_neg (h p (by simp)), O1 (q :: r) fun w hw => h w (by simp [hw])]
theorem UA : ∀ (ws q : List (List UInt8)), (∀ w ∈ ws, w ≠ []) → q ≠ [] → Ad (ws ++ [] :: q) = some (ws, q)
 | [], q, _, hq => Df q hq
 | p :: r, q, h, hq => by
  have ih := UA r q (fun w hw => h w (by simp [hw])) hq
  cases hr : r ++ [] :: q with
  | nil => simp at hr
  | cons x y =>
   rw [hr] at ih
   show Ad (p :: (r ++ [] :: q)) = _
   rw [hr, Ad, if_neg (h p (by simp)), ih]
theorem SK {ws : List (List UInt8)} {ns : List Nat} (h : ws.map piece = ns.map some) : ∀ w ∈ ws, w ≠ [] := by
 induction ws generalizing ns with
 | nil => intro w hw; simp at hw
 | cons v r ih =>
  match ns, h with
  | n :: ns, h =>
   simp only [List.map_cons, List.cons.injEq] at h
   intro w hw
   rcases List.mem_cons.1 hw with rfl | hw
   ·exact (PN h.1).1
   ·exact ih h.2 w hw
theorem map_len {ws : List (List UInt8)} {ns : List Nat} (h : ws.map piece = ns.map some) : ws.length = ns.length := by
 have := congrArg List.length h
 simpa using this
theorem six_all (ws : List (List UInt8)) (ns : List Nat) (h : ws.map piece = ns.map some) (h8 : ns.length = 8) : six (iM ws) = some ns := by
 have hl := map_len h
 have hne := SK h
 match ws, hl, hne, h with
 | [], hl, _, _ => simp at hl; omega
 | p :: r, _, hne, h =>
  rw [Qk, ET _ ns (by simp) h]
  have : RU (p :: r) = none := by
   show (match Ad r with | none => none | some x => some (p :: x.1, x.2)) = none
   rw [O1 r fun w hw => hne w (by simp [hw])]
  rw [this]
  simp only []
  rw [Gm true _ ns h]
  unfold rH.eight
  simp [h8]
theorem Qj (e : Bool) (ws : List (List UInt8)) (ns : List Nat) (h : ws.map piece = ns.map some) : fD e (dw (iM ws)) = some ns := by
 match ws, h with
 | [], h =>
  match ns, h with
  | [], _ => rfl
 | p :: r, h =>
  have hne := SK h
  rw [ET _ ns (by simp) h, l7 e, Gm e _ ns h]
  intro h2
  exact hne [] (by rw [h2]; simp) rfl
theorem six_gap (ws1 ws2 : List (List UInt8)) (ns1 ns2 : List Nat) (h1 : ws1.map piece = ns1.map some) (h2 : ws2.map piece = ns2.map some) (hl : ns1.length + ns2.length < 8) :
  six (iM ws1 ++ 58 :: 58 :: iM ws2) = some (fill ns1 ns2) := by
 rw [Qk]
 match ws1, h1 with
 | [], h1 =>
  match ns1, h1, hl with
  | [], _, hl =>
   rw [show iM [] ++ 58 :: 58 :: iM ws2 = 58 :: 58 :: iM ws2 from rfl, dU, dU]
   have : RU ([] :: [] :: dw (iM ws2)) = some ([[]], dw (iM ws2)) := by
    show (match Ad ([] :: dw (iM ws2)) with | none => none | some x => some ([] :: x.1, x.2)) = _
    rw [Df _ (jB _)]
   rw [this]
   simp only []
   rw [Qj true ws2 ns2 h2, show fD false [[]] = some [] from rfl]
   unfold both
   simp only [List.length_nil, Nat.zero_add] at hl ⊢
   rw [if_pos hl]
   rfl
 | p :: r, h1 =>
  have hne := SK h1
  rw [Az _ ns1 _ (by simp) h1, dU]
  have : RU ((p :: r) ++ [] :: dw (iM ws2)) = some (p :: r, dw (iM ws2)) := by
   show (match Ad (r ++ [] :: dw (iM ws2)) with | none => none | some x => some (p :: x.1, x.2)) = _
   rw [UA r _ (fun w hw => hne w (by simp [hw])) (jB _)]
  rw [this]
  simp only []
  rw [Qj true ws2 ns2 h2, l7 false, Gm false _ ns1 h1]
  ·unfold both
   simp only [List.length_nil, Nat.zero_add]
   rw [if_pos hl]
   rfl
  ·intro h3
   exact hne [] (by rw [h3]; simp) rfl
theorem Wh (d : Nat) (h : d < 16) : dH 16 [kE d] = true := by
 unfold dH
 simp [(Nb d h).1]
theorem Dl : ∀ (m n : Nat), n ≤ m → n < 65536 → dH 16 (hx n) = true ∧ val 16 (hx n) = n ∧ 1 ≤ (hx n).length
 | m, n, hm, h6 => by
  by_cases h16 : 16 ≤ n
  ·cases m with
   | zero => omega
   | succ m =>
    obtain ⟨i1, i2, i3⟩ := Dl m (n / 16) (by omega) (by omega)
    have hd := Nb (n % 16) (by omega)
    rw [Zk h16 h6]
    refine ⟨?_, ?_, ?_⟩
    ·rw [tZ, i1, hd.1]; rfl
    ·rw [iQ, i2, hd.2.1]; omega
    ·simp
  ·have hd := Nb n (by omega)
   rw [Pj (by omega)]
   refine ⟨Wh n (by omega), ?_, by simp⟩
   show 0 * 16 + dv (kE n) = n
   rw [hd.2.1]
   omega
theorem ZV (n : Nat) (h : n < 65536) : piece (hx n) = some n := by
 obtain ⟨h1, h2, h3⟩ := Dl n n (Nat.le_refl _) h
 rw [vX h3 (Sz n) h1, h2]
theorem Nl : ∀ (L : List Nat), (∀ x ∈ L, x < 65536) → (L.map hx).map piece = L.map some
 | [], _ => rfl
 | n :: L, h => by
  rw [List.map_cons, List.map_cons, List.map_cons, ZV n (h n (by simp)), Nl L fun x hx => h x (by simp [hx])]
theorem YU (L : List Nat) (a b : Nat) (hL : L.length = 8) (hab : a < b) (hb : b ≤ 8) (hz : ∀ i (h : i < L.length), a ≤ i → i < b → L[i] = 0) : fill (L.take a) (L.drop b) = L := by
 unfold fill
 apply List.ext_getElem
 ·simp; omega
 ·intro i h1 h2
  by_cases c1 : i < a
  ·rw [List.getElem_append_left (by rw [List.length_append, List.length_take]; omega), List.getElem_append_left (by rw [List.length_take]; omega), List.getElem_take]
  ·by_cases c2 : i < b
   ·rw [List.getElem_append_left (by rw [List.length_append, List.length_replicate, List.length_take, List.length_drop]; omega), List.getElem_append_right (by rw [List.length_take]; omega), List.getElem_replicate, hz i h2 (by omega) c2]
   ·rw [List.getElem_append_right (by rw [List.length_append, List.length_take, List.length_replicate, List.length_drop]; omega), List.getElem_drop]
    congr 1
    rw [List.length_append, List.length_take, List.length_replicate, List.length_drop]
    omega
theorem aaS (f : Nat → Nat) : ∀ i (h : i < (V8 f).length), (wO (zs f)).1 ≤ i → i < (wO (zs f)).2 → (V8 f)[i] = 0 := by
 intro i h h1 h2
 have hf := (KU (f 0 == 0) (f 1 == 0) (f 2 == 0) (f 3 == 0) (f 4 == 0) (f 5 == 0) (f 6 == 0) (f 7 == 0)).2.2.1
 replace hf : (((zs f).take (wO (zs f)).2).drop (wO (zs f)).1).all id = true := hf
 have hi8 : i < 8 := h
 have hz : (zs f)[i]'hi8 = true := by
  have hm : (zs f)[i]'hi8 ∈ ((zs f).take (wO (zs f)).2).drop (wO (zs f)).1 := by
   refine List.mem_iff_getElem.2 ⟨i - (wO (zs f)).1, ?_, ?_⟩
   ·rw [List.length_drop, List.length_take, LK]; have := (EP f).2; omega
   ·rw [List.getElem_drop, List.getElem_take]
    congr 1
    omega
  exact List.all_eq_true.1 hf _ hm
 rw [Yl f i hi8]
 have hz2 : (f i == 0) = true := (aaT f i hi8 hi8).symm.trans hz
 simpa using hz2
theorem six_prt (f : Nat → Nat) (h : ∀ i, f i < 65536) : six (lJ.prt f) = some (V8 f) := by
 have h6 := MC h
 have hab := EP f
 unfold lJ.prt
 by_cases h2 : (wO (zs f)).2 - (wO (zs f)).1 < 2
 ·rw [if_pos h2]
  exact six_all _ _ (Nl _ h6) rfl
 ·rw [if_neg h2]
  unfold jx
  rw [List.append_assoc]
  show six (iM _ ++ 58 :: 58 :: iM _) = _
  have hV : (V8 f).length = 8 := rfl
  rw [six_gap _ _ _ _ (Nl _ fun x hx => h6 x (List.mem_of_mem_take hx)) (Nl _ fun x hx => h6 x (List.mem_of_mem_drop hx)) (by rw [List.length_take, List.length_drop, hV]; omega)]
  rw [YU (V8 f) _ _ rfl (by omega) hab.2 (aaS f)]
theorem six_len {s : List UInt8} {V : List Nat} (h : six s = some V) : V.length = 8 := by
 unfold six at h
 split at h
 ·unfold rH.eight at h
  split at h
  ·split at h
   ·rename_i hlt
    injection h with h
    subst h
    simpa using hlt
   ·cases h
  ·cases h
 ·unfold both at h
  split at h
  ·split at h
   ·injection h with h
    subst h
    rename_i hlt
    unfold fill
    simp at hlt ⊢
    omega
   ·cases h
  ·cases h
end Go.Proofs.YtmdofbccebkbiaaGreatDoor.Yf
