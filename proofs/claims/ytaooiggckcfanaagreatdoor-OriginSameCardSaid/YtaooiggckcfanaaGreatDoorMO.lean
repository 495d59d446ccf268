/- Texts that belong together: PrsL, EscF, EscP, HstQ. -/
import Derived.Test.YtaooiggckcfanaaGreatDoorMH
import Derived.Test.YtaooiggckcfanaaGreatDoorME
import Derived.IntWalk
import Derived.Test.YtaooiggckcfanaaGreatDoorMF
set_option linter.unusedSimpArgs false
set_option linter.unusedVariables false
namespace Go.Proofs.YtaooiggckcfanaaGreatDoor.PrsL
open Go.RowKit Base UtfR UtfE UtfL PthP PthE PthG PthJ UrlA HstP PrsP
theorem some_of_ite {α : Type} {c : Prop} [Decidable c] {x : Option α} {u : α} (h : (if c then none else x) = some u) : ¬ c ∧ x = some u := by
 by_cases hc : c
 ·rw [if_pos hc] at h; cases h
 ·rw [if_neg hc] at h; exact ⟨hc, h⟩
theorem auth_sch {sch s : List UInt8} {u : U} (h : authority sch s = some u) : u.sch = sch := by
 unfold authority at h
 obtain ⟨_, h⟩ := some_of_ite h
 obtain ⟨_, h⟩ := some_of_ite h
 split at h
 ·cases h; rfl
 ·cases h
theorem far_sch {s : List UInt8} {u : U} (h : far s = some u) : u.sch = FILE := by
 unfold far at h
 split at h
 ·cases h; rfl
 split at h
 ·cases h; rfl
 split at h
 ·cases h
 ·cases h; rfl
theorem file_sch {s : List UInt8} {u : U} (h : file s none = some u) : u.sch = FILE := by
 unfold file at h
 split at h
 ·exact far_sch h
 split at h
 ·cases h; rfl
 ·cases h; rfl
theorem sp_file : special FILE = true := by decide
theorem resolve_plain {p : Parts} {base : Option U} (h1 : p.sch ≠ FILE) (h2 : special p.sch = false) (h3 : p.sch ≠ []) : PrsP.resolve p base = PrsP.plain p := by
 unfold PrsP.resolve
 rw [if_neg h1, if_neg (by rw [h2]; simp), if_pos h3]
theorem bases {p : Parts} {v : U} (b : U) (h : PrsP.resolve p none = some v) (hs : special v.sch = false) : PrsP.resolve p (some b) = some v := by
 by_cases h1 : p.sch = FILE
 ·unfold PrsP.resolve at h
  rw [if_pos h1] at h
  have := file_sch h
  rw [this, sp_file] at hs
  cases hs
 by_cases h2 : special p.sch = true
 ·unfold PrsP.resolve at h
  rw [if_neg h1, if_pos h2] at h
  have := auth_sch h
  rw [this, h2] at hs
  cases hs
 have h2' : special p.sch = false := by simpa using h2
 by_cases h3 : p.sch = []
 ·unfold PrsP.resolve at h
  rw [if_neg h1, if_neg h2, if_neg (by simpa using h3)] at h
  cases h
 rw [resolve_plain h1 h2' h3] at h ⊢
 exact h
theorem finish_sch (u : U) (p : Parts) : (finish u p).sch = u.sch := by
 cases h1 : p.hq <;> cases h2 : p.hf <;> simp [finish, h1, h2]
theorem url_bases {s : List UInt8} {u : U} (b : U) (h : url s none = some u) (hs : special u.sch = false) : url s (some b) = some u := by
 unfold url at h ⊢
 cases hr : PrsP.resolve (apart (clean s)) none with
 | none => rw [hr] at h; cases h
 | some v =>
  rw [hr] at h
  have e : finish v (apart (clean s)) = u := by simpa using h
  have hv : special v.sch = false := by rw [← e, finish_sch] at hs; exact hs
  rw [bases b hr hv]
  simpa using e
end Go.Proofs.YtaooiggckcfanaaGreatDoor.PrsL
namespace Go.Proofs.YtaooiggckcfanaaGreatDoor.EscP
open Go.RowKit Base EscI EscE EscD UtfA
theorem dig_out (k : Int) (hk : k ≠ 6) (n : Nat) (h : n < 16) : inS k (EscE.dig n).toNat = false := by
 by_cases ho : k < 0 ∨ 6 < k
 ·exact inS_out k _ ho
 ·have H : ∀ (a : Fin 6) (b : Fin 16), inS (a.val : Int) ((EscE.dig b.val).toNat : Int) = false := by decide
  have := H ⟨k.toNat, by omega⟩ ⟨n, h⟩
  simpa [Int.toNat_of_nonneg (show 0 ≤ k by omega)] using this
theorem pct_out (k : Int) (hk : k ≠ 6) : inS k ((37 : UInt8).toNat : Int) = false := by
 by_cases ho : k < 0 ∨ 6 < k
 ·exact inS_out k _ ho
 ·have H : ∀ (a : Fin 6), inS (a.val : Int) ((37 : UInt8).toNat : Int) = false := by decide
  have := H ⟨k.toNat, by omega⟩
  simpa [Int.toNat_of_nonneg (show 0 ≤ k by omega)] using this
theorem enc_cons (k : Int) (c : UInt8) (L : List UInt8) : enc k (c :: L) = one k c ++ enc k L := by simp [enc]
theorem enc_fix (k : Int) (L : List UInt8) (h : ∀ c ∈ L, inS k c.toNat = false) : enc k L = L := by
 induction L with
 | nil => rfl
 | cons c L ih =>
  rw [enc_cons, ih (fun d hd => h d (by simp [hd]))]
  unfold one
  rw [h c (by simp)]
  rfl
theorem one_out (k : Int) (hk : k ≠ 6) (c : UInt8) : ∀ d ∈ one k c, inS k d.toNat = false := by
 intro d hd
 have hc := c.toNat_lt
 unfold one at hd
 split at hd
 ·simp only [List.mem_cons, List.not_mem_nil, or_false] at hd
  rcases hd with rfl | rfl | rfl
  ·exact pct_out k hk
  ·exact dig_out k hk _ (by omega)
  ·exact dig_out k hk _ (by omega)
 ·rename_i hn
  simp only [List.mem_cons, List.not_mem_nil, or_false] at hd
  subst hd
  simpa using hn
theorem enc_enc (k : Int) (hk : k ≠ 6) (L : List UInt8) : enc k (enc k L) = enc k L := by
 refine enc_fix k _ fun d hd => ?_
 simp only [enc, List.mem_flatMap] at hd
 obtain ⟨c, _, hd⟩ := hd
 exact one_out k hk c d hd
theorem esc_not (x : UInt8) (t : List UInt8) (h : x ≠ 37) : esc (x :: t) = none := by
 match t with
 | [] => rfl
 | [_] => rfl
 | _ :: _ :: _ => rw [esc, if_neg (fun e => h e.1)]
end Go.Proofs.YtaooiggckcfanaaGreatDoor.EscP
namespace Go.Proofs.YtaooiggckcfanaaGreatDoor.HstQ
open Go.RowKit Base UtfA UtfL QudP SixP SixH SixL HstP HstB
theorem byteAll {p : UInt8 → Prop} [∀ c, Decidable (p c)] (h : ∀ n : Fin 256, p (UInt8.ofNat n.val)) (c : UInt8) : p c := by
 have := h ⟨c.toNat, c.toNat_lt⟩
 simpa using this
theorem low_low (c : UInt8) : low (low c) = low c := byteAll (p := fun c => low (low c) = low c) (by decide +kernel) c
theorem lower_lower (L : List UInt8) : lower (lower L) = lower L := by
 unfold lower
 rw [List.map_map]
 exact List.map_congr_left fun c _ => low_low c
theorem isD_print (c : UInt8) (h : isD 16 c = true) : 33 ≤ c.toNat ∧ c.toNat ≤ 126 := by
 have := byteAll (p := fun c => isD 16 c = true → 33 ≤ c.toNat ∧ c.toNat ≤ 126) (by decide +kernel) c
 exact this h
theorem isD10_okb (c : UInt8) (h : isD 10 c = true) : okb true c = true ∧ low c = c ∧ c ≠ 37 := by
 have := byteAll (p := fun c => isD 10 c = true → okb true c = true ∧ low c = c ∧ c ≠ 37) (by decide +kernel) c
 exact this h
theorem okb_true_facts (c : UInt8) (h : okb true c = true) : 33 ≤ c.toNat ∧ c.toNat ≤ 126 ∧ fbd true c = false ∧ c ≠ 91 ∧ c ≠ 37 := by
 have := byteAll (p := fun c => okb true c = true → 33 ≤ c.toNat ∧ c.toNat ≤ 126 ∧ fbd true c = false ∧ c ≠ 91 ∧ c ≠ 37) (by decide +kernel) c
 exact this h
theorem joinC_mem {x : UInt8} : ∀ (ws : List (List UInt8)), x ∈ joinC ws → x = 58 ∨ ∃ v ∈ ws, x ∈ v
 | [], h => by simp [joinC] at h
 | [v], h => .inr ⟨v, by simp, h⟩
 | v :: u :: r, h => by
  have h' : x ∈ v ++ 58 :: joinC (u :: r) := h
  rcases List.mem_append.1 h' with h1 | h1
  ·exact .inr ⟨v, by simp, h1⟩
  ·rcases List.mem_cons.1 h1 with h2 | h2
   ·exact .inl h2
   ·rcases joinC_mem (u :: r) h2 with h3 | ⟨t, ht, hx⟩
    ·exact .inl h3
    ·exact .inr ⟨t, by simp at ht ⊢; exact .inr ht, hx⟩
theorem jx_mem {x : UInt8} {L : List Nat} (hL : ∀ n ∈ L, n < 65536) (h : x ∈ jx L) : 33 ≤ x.toNat ∧ x.toNat ≤ 126 := by
 unfold jx at h
 rcases joinC_mem _ h with rfl | ⟨v, hv, hx⟩
 ·decide
 ·obtain ⟨n, hn, rfl⟩ := List.mem_map.1 hv
  exact isD_print x (List.all_eq_true.1 (hx_reads n n (Nat.le_refl _) (hL n hn)).1 x hx)
theorem prt_mem {x : UInt8} {f : Nat → Nat} (h6 : ∀ i, f i < 65536) (h : x ∈ SixI.prt f) : 33 ≤ x.toNat ∧ x.toNat ≤ 126 := by
 have hV := SixI.V8_mem h6
 unfold SixI.prt at h
 split at h
 ·exact jx_mem hV h
 ·simp only [List.mem_append, List.mem_cons, List.not_mem_nil, or_false] at h
  rcases h with (h | rfl | rfl) | h
  ·exact jx_mem (fun n hn => hV n (List.mem_of_mem_take hn)) h
  ·decide
  ·decide
  ·exact jx_mem (fun n hn => hV n (List.mem_of_mem_drop hn)) h
theorem dec_plain : ∀ (L : List UInt8), (∀ c ∈ L, c ≠ 37) → EscD.dec L = L
 | [], _ => rfl
 | c :: L, h => by
  rw [EscD.dec_none c L (EscP.esc_not c L (h c (by simp))), dec_plain L fun d hd => h d (by simp [hd])]
theorem oks_mem {d : Bool} {L : List UInt8} (h : oks d L = true) {c : UInt8} (hc : c ∈ L) : okb d c = true := List.all_eq_true.1 h c hc
theorem oks_of {d : Bool} {L : List UInt8} (h : ∀ c ∈ L, okb d c = true) : oks d L = true := List.all_eq_true.2 h
theorem oks_head {L : List UInt8} (h : oks true L = true) : L.head? ≠ some 91 := by
 intro e
 cases L with
 | nil => cases e
 | cons c r =>
  simp at e
  exact (okb_true_facts c (oks_mem h (by simp))).2.2.2.1 e
theorem pr_mem {c : UInt8} (n : Nat) (h : c ∈ QudG.pr n) : okb true c = true ∧ low c = c ∧ c ≠ 37 := by
 have hd : ∀ m : Nat, c ∈ Lib.decDigits m → okb true c = true ∧ low c = c ∧ c ≠ 37 := fun m hm =>
  isD10_okb c (List.all_eq_true.1 (QudI.dec_val (m + 1) m (by omega)).2 c hm)
 rw [QudI.pr_eq] at h
 simp only [List.mem_append, List.mem_cons] at h
 rcases h with h | rfl | h | rfl | h | rfl | h
 ·exact hd _ h
 ·decide
 ·exact hd _ h
 ·decide
 ·exact hd _ h
 ·decide
 ·exact hd _ h
theorem pr_ne (n : Nat) : QudG.pr n ≠ [] := by
 obtain ⟨c, r, h, _⟩ := QudI.pr_head n
 rw [h]
 simp
theorem hst_same {M : List UInt8} (ho : oks true M = true) (hl : lower M = M) : hst M true = dm2 M := by
 unfold hst
 rw [if_neg (oks_head ho), if_pos rfl, dec_plain M fun c hc => (okb_true_facts c (oks_mem ho hc)).2.2.2.2]
 unfold dmn
 rw [if_pos ho, hl]
def Good (sp : Bool) (R : List UInt8) : Prop := hst R sp = some R ∧ (∀ c ∈ R, 33 ≤ c.toNat ∧ c.toNat ≤ 126) ∧ (R.head? ≠ some 91 → ∀ c ∈ R, fbd sp c = false)
theorem good_sp {R : List UInt8} (ho : oks true R = true) (hl : lower R = R) (hd : dm2 R = some R) : Good true R :=
 ⟨by rw [hst_same ho hl, hd], fun c hc => ⟨(okb_true_facts c (oks_mem ho hc)).1, (okb_true_facts c (oks_mem ho hc)).2.1⟩, fun _ c hc => (okb_true_facts c (oks_mem ho hc)).2.2.1⟩
theorem enc0_mem {L : List UInt8} (ho : oks false L = true) {c : UInt8} (h : c ∈ EscE.enc 0 L) : frb c = false ∧ 33 ≤ c.toNat ∧ c.toNat ≤ 126 := by
 unfold EscE.enc at h
 obtain ⟨x, hx, hc⟩ := List.mem_flatMap.1 h
 have hb := oks_mem ho hx
 have H := byteAll (p := fun x => okb false x = true → ∀ c ∈ EscE.one 0 x, frb c = false ∧ 33 ≤ c.toNat ∧ c.toNat ≤ 126) (by decide +kernel) x
 exact H hb c hc
theorem hst_back {s : List UInt8} {sp : Bool} {R : List UInt8} (h : hst s sp = some R) : Good sp R := by
 unfold hst at h
 split at h
 ·unfold hbr at h
  split at h
  ·unfold addr at h
   split at h
   ·cases h
   ·rename_i V hv
    injection h with h
    obtain ⟨f, rfl, h6⟩ := six_fun hv
    rw [prtL_V8] at h
    subst h
    refine ⟨?_, ?_, ?_⟩
    ·unfold hst
     rw [if_pos (show (91 :: (SixI.prt f ++ [93])).head? = some 91 from rfl)]
     show hbr (SixI.prt f ++ [93]) = _
     have hs : Lib.hasSuffix (SixI.prt f ++ [93]) [93] = true := by
      unfold Lib.hasSuffix
      rw [List.isSuffixOf_iff_suffix]
      exact ⟨_, rfl⟩
     have ht : Lib.trimSuffix (SixI.prt f ++ [93]) [93] = SixI.prt f := by
      unfold Lib.trimSuffix
      rw [if_pos hs]
      simp
     unfold hbr
     rw [if_pos hs, ht]
     unfold addr
     rw [six_prt f h6]
     show some (91 :: (prtL (V8 f) ++ [93])) = _
     rw [prtL_V8]
    ·intro c hc
     simp only [List.mem_cons, List.mem_append, List.not_mem_nil, or_false] at hc
     rcases hc with rfl | hc | rfl
     ·decide
     ·exact prt_mem h6 hc
     ·decide
    ·intro hn
     exact absurd rfl hn
  ·cases h
 ·split at h
  ·rename_i hsp
   subst hsp
   unfold dmn at h
   split at h
   ·rename_i ho
    have ho2 : oks true (lower (EscD.dec s)) = true := by rw [oks_lower]; exact ho
    unfold dm2 at h
    split at h
    ·cases h
    ·rename_i hne
     split at h
     ·rename_i he
      cases hp : prs (lower (EscD.dec s)) with
      | none => rw [hp] at h; cases h
      | some n =>
       rw [hp] at h
       injection h with h
       subst h
       have hn := prs_lt hp
       refine good_sp (oks_of fun c hc => (pr_mem n hc).1) ?_ ?_
       ·unfold lower
        conv => rhs; rw [← List.map_id (QudG.pr n)]
        exact List.map_congr_left fun c hc => (pr_mem n hc).2.1
       ·unfold dm2
        rw [if_neg (pr_ne n), if_pos (QudI.ends_pr n), QudI.prs_pr n hn]
        rfl
     ·rename_i he
      injection h with h
      subst h
      refine good_sp ho2 (lower_lower _) ?_
      unfold dm2
      rw [if_neg hne, if_neg he]
   ·cases h
  ·rename_i hsp
   have hsp' : sp = false := by simpa using hsp
   subst hsp'
   unfold plc at h
   split at h
   ·rename_i ho
    injection h with h
    subst h
    have hm := fun c hc => enc0_mem ho (c := c) hc
    refine ⟨?_, fun c hc => (hm c hc).2, fun _ c hc => by rw [fbd_false]; exact (hm c hc).1⟩
    unfold hst
    rw [if_neg, if_neg (by simp)]
    ·unfold plc
     rw [if_pos (oks_of fun c hc => by rw [okb_false, (hm c hc).1]; rfl), EscP.enc_enc 0 (by decide)]
    ·intro e
     cases hE : EscE.enc 0 s with
     | nil => rw [hE] at e; cases e
     | cons a r =>
      rw [hE] at e
      simp at e
      subst e
      have := (hm 91 (by rw [hE]; simp)).1
      revert this
      decide
   ·cases h
theorem hst_size {s : List UInt8} {sp : Bool} {R : List UInt8} (h : hst s sp = some R) : R.length ≤ 3 * s.length + 200 := by
 unfold hst at h
 split at h
 ·unfold hbr at h
  split at h
  ·unfold addr at h
   split at h
   ·cases h
   ·injection h with h
    subst h
    simp only [List.length_cons, List.length_append, List.length_nil]
    unfold prtL
    rename_i V _
    have := prt_len (fun i => V.getD i 0)
    omega
  ·cases h
 ·split at h
  ·unfold dmn at h
   split at h
   ·unfold dm2 at h
    split at h
    ·cases h
    ·split at h
     ·cases hp : prs (lower (EscD.dec s)) with
      | none => rw [hp] at h; cases h
      | some n =>
       rw [hp] at h
       injection h with h
       subst h
       have := QudG.pr_len n (prs_lt hp)
       omega
     ·injection h with h
      subst h
      have := EscD.dec_len s
      simp [lower]
      omega
   ·cases h
  ·unfold plc at h
   split at h
   ·injection h with h
    subst h
    have := EscE.enc_len 0 s
    omega
   ·cases h
end Go.Proofs.YtaooiggckcfanaaGreatDoor.HstQ
