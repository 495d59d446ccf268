/- Texts that belong together: PrsT, PrsV, PrsU, PrsX, PrsY. -/
import Derived.Test.YtmdofbccebkbiaaGreatDoorMO
import Derived.Test.YtmdofbccebkbiaaGreatDoorMG
import Derived.Test.YtmdofbccebkbiaaGreatDoorME
set_option linter.unusedSimpArgs false
set_option linter.unusedVariables false
namespace Go.Proofs.YtmdofbccebkbiaaGreatDoor.PrsT
open Go.RowKit Base EscI UtfR UtfE UtfP ClnP UtfL PthP PthE PthG PthJ UrlA HstP PrsP PrsL
theorem rd_ascii (x : UInt8) (t : List UInt8) (h : x.toNat ≤ 127) : rd (x :: t) = ((x.toNat : Int), 1, true) := by
 simp only [rd]
 rw [if_pos (by omega)]
theorem dec_ascii (x : UInt8) (t : List UInt8) (h : x.toNat ≤ 127) : dec (x :: t) = (x.toNat : Int) :: dec t := by
 rw [dec_cons, rd_ascii x t h]
 rfl
theorem tail_stop (x : UInt8) (b : List UInt8) (hx : x.toNat ≤ 127) : ∀ (m k : Nat) (l h r : Int) (t : List UInt8), 128 ≤ l → tail m k l h r (t ++ x :: b) = tail m k l h r t
 | 0, _, _, _, _, _, _ => by simp [tail]
 | m + 1, k, l, h, r, [], hl => by
  simp only [List.nil_append, tail]
  rw [if_pos (by omega)]
 | m + 1, k, l, h, r, c :: t, hl => by
  simp only [List.cons_append, tail]
  split
  ·rfl
  ·exact tail_stop x b hx m (k + 1) 128 191 _ t (by omega)
theorem lo_ge (c : Int) (h1 : 194 ≤ c) (h2 : c ≤ 244) : 128 ≤ lo c := by unfold lo; (repeat' split) <;> omega
theorem rd_stop (y : UInt8) (t : List UInt8) (x : UInt8) (b : List UInt8) (hx : x.toNat ≤ 127) : rd (y :: t ++ x :: b) = rd (y :: t) := by
 simp only [List.cons_append, rd]
 by_cases h1 : (y.toNat : Int) ≤ 127
 ·rw [if_pos h1, if_pos h1]
 rw [if_neg h1, if_neg h1]
 by_cases h2 : (y.toNat : Int) ≤ 193 ∨ 245 ≤ (y.toNat : Int)
 ·rw [if_pos h2, if_pos h2]
 rw [if_neg h2, if_neg h2]
 have hl := lo_ge (y.toNat : Int) (by omega) (by omega)
 split
 ·exact tail_stop x b hx _ _ _ _ _ _ hl
 split
 ·exact tail_stop x b hx _ _ _ _ _ _ hl
 ·exact tail_stop x b hx _ _ _ _ _ _ hl
theorem dec_behind (x : UInt8) (b : List UInt8) (hx : x.toNat ≤ 127) : ∀ (n : Nat) (a : List UInt8), a.length ≤ n → dec (a ++ x :: b) = dec a ++ (x.toNat : Int) :: dec b
 | _, [], _ => by rw [List.nil_append, dec_ascii x b hx]; rfl
 | 0, _ :: _, h => by simp at h
 | n + 1, y :: t, hl => by
  have hs := rd_size y t
  have hd : (y :: t ++ x :: b).drop (rd (y :: t)).2.1.toNat = (y :: t).drop (rd (y :: t)).2.1.toNat ++ x :: b := by
   rw [List.drop_append_of_le_length]
   simp only [List.length_cons]; omega
  have e : dec (y :: t ++ x :: b) = (rd (y :: t)).1 :: dec ((y :: t).drop (rd (y :: t)).2.1.toNat ++ x :: b) := by
   rw [List.cons_append, dec_cons, ← List.cons_append, rd_stop y t x b hx, hd]
  rw [e, dec_behind x b hx n _ (by simp only [List.length_drop, List.length_cons] at hl ⊢; omega), dec_cons y t]
  rfl
theorem enc_ascii (x : UInt8) (h : x.toNat ≤ 127) : Lib.encodeRune (x.toNat : Int) = [x] := by
 rw [enc1 _ (by omega) (by omega), u_of]
def ED (L : List UInt8) : List UInt8 := enc (dec L)
theorem clean_ED (L : List UInt8) : clean L = (trm (ED L)).filter fun c => !brk c := rfl
theorem ED_behind (a : List UInt8) (x : UInt8) (b : List UInt8) (hx : x.toNat ≤ 127) : ED (a ++ x :: b) = ED a ++ x :: ED b := by
 unfold ED
 rw [dec_behind x b hx _ a (Nat.le_refl _), enc_app, enc_cons, enc_ascii x hx]
 rfl
theorem ED_nil : ED [] = [] := rfl
theorem ED_ascii : ∀ L : List UInt8, (∀ c ∈ L, c.toNat ≤ 127) → ED L = L
 | [], _ => rfl
 | x :: t, h => by
  have := ED_behind [] x t (h x (by simp))
  rw [List.nil_append, ED_nil, List.nil_append] at this
  rw [this, ED_ascii t (fun c hc => h c (by simp [hc]))]
theorem brk_low (t : UInt8) (h : brk t = true) : low32 t = true ∧ t.toNat ≤ 127 := by
 unfold brk at h
 simp only [Bool.or_eq_true, decide_eq_true_eq] at h
 rcases h with rfl | rfl | rfl <;> decide
theorem low_brk (c : UInt8) (h : low32 c = false) : brk c = false := by
 cases hb : brk c
 ·rfl
 ·rw [(brk_low c hb).1] at h; cases h
theorem cutB_none (b : UInt8) : ∀ L : List UInt8, (∀ c ∈ L, c ≠ b) → cutB b L = (L, [], false)
 | [], _ => rfl
 | c :: L, h => by rw [cutB, if_neg (h c (by simp)), cutB_none b L (fun d hd => h d (by simp [hd]))]
theorem cutB_at (b : UInt8) : ∀ (L M : List UInt8), (∀ c ∈ L, c ≠ b) → cutB b (L ++ b :: M) = (L, M, true)
 | [], M, _ => by rw [List.nil_append, cutB, if_pos rfl]
 | c :: L, M, h => by rw [List.cons_append, cutB, if_neg (h c (by simp)), cutB_at b L M (fun d hd => h d (by simp [hd]))]
end Go.Proofs.YtmdofbccebkbiaaGreatDoor.PrsT
namespace Go.Proofs.YtmdofbccebkbiaaGreatDoor.PrsV
open Go.RowKit Base UtfL PthP PthE PthF PthG PthJ UrlA HstP PrsP PrsL
def pl (l : List ByteArray) : Nat := (UrlP.pth l).length
structure Fit (u : U) (N : Nat) : Prop where
 all : u.sch.length + u.usr.length + u.pwd.length + u.hst.length + u.txt.length + u.qry.length + u.frg.length + pl u.pth ≤ N
 lo : -1 ≤ u.port
 hi : u.port ≤ 65535
theorem Fit.mono {u : U} {N M : Nat} (h : Fit u N) (hm : N ≤ M) : Fit u M := ⟨Nat.le_trans h.all hm, h.lo, h.hi⟩
theorem pl_nil : pl [] = 0 := rfl
theorem pl_snoc (l : List ByteArray) (s : ByteArray) : pl (l ++ [s]) = pl l + 1 + s.size := by
 unfold pl
 rw [UrlP.pth_snoc, List.length_append, List.length_cons, show s.data.toList.length = s.size from Array.length_toList]
 omega
theorem pl_take (l : List ByteArray) (k : Nat) : pl (l.take k) ≤ pl l := by
 unfold pl
 rw [UrlP.length_pth, UrlP.length_pth, List.length_take]
 have := UrlP.sum_take l k
 omega
theorem pl_sho (f : Bool) (l : List ByteArray) : pl (sho f l) ≤ pl l := by
 unfold sho
 split
 ·exact Nat.le_refl _
 ·exact pl_take _ _
theorem wr_len (f : Bool) (L : List UInt8) : (wr f L).length ≤ 3 * L.length + 1 := by
 unfold wr
 split
 ·simp only [List.length_append, List.length_take, List.length_cons, List.length_nil]; omega
 ·have := EscE.enc_len 4 L; omega
theorem pl_stp (f last : Bool) (l : List ByteArray) (L : List UInt8) : pl (stp f last l L) ≤ pl l + 3 * L.length + 2 := by
 have h0 : (strOf ([] : List UInt8)).size = 0 := rfl
 have h1 := pl_sho f l
 unfold stp
 split
 ·split
  ·rw [pl_snoc, h0]; omega
  ·omega
 split
 ·split
  ·rw [pl_snoc, h0]; omega
  ·omega
 ·have := wr_len (f && l.isEmpty) L
  rw [pl_snoc, size_strOf]
  omega
theorem pl_wb (f sp : Bool) : ∀ (M : List UInt8) (l : List ByteArray) (b : List UInt8), pl (wb f sp l b M) ≤ pl l + 3 * (b.length + M.length) + 2 * (M.length + 1)
 | [], l, b => by
  have := pl_stp f true l b
  unfold wb
  simp only [List.length_nil]
  omega
 | c :: M, l, b => by
  unfold wb
  split
  ·have h1 := pl_wb f sp M (stp f false l b) []
   have h2 := pl_stp f false l b
   simp only [List.length_nil, List.length_cons] at h1 ⊢
   omega
  ·have h1 := pl_wb f sp M l (b ++ [c])
   simp only [List.length_append, List.length_nil, List.length_cons] at h1 ⊢
   omega
theorem pl_walk (sch : List UInt8) (l : List ByteArray) (s : List UInt8) : pl (walk sch l s) ≤ pl l + 5 * s.length + 2 := by
 have := pl_wb (decide (sch = FILE)) (special sch) s l []
 unfold walk
 simp only [List.length_nil] at this
 omega
theorem pl_rooted (sch s : List UInt8) : pl (rooted sch s) ≤ 5 * s.length + 2 := by
 unfold rooted
 split
 ·rw [pl_nil]; omega
 ·have h := pl_walk sch [] (if isSl (special sch) s 0 = true then s.drop 1 else s)
  have h2 : (if isSl (special sch) s 0 = true then s.drop 1 else s).length ≤ s.length := by
   split
   ·rw [List.length_drop]; omega
   ·exact Nat.le_refl _
  rw [pl_nil] at h
  omega
theorem cut_sum (b : UInt8) : ∀ L : List UInt8, (cutB b L).1.length + (cutB b L).2.1.length ≤ L.length
 | [] => by simp [cutB]
 | c :: L => by
  have h := cut_sum b L
  unfold cutB
  split
  ·simp
  ·simp only [List.length_cons]
   omega
theorem lastAt_sum : ∀ (L : List UInt8) (p : List UInt8 × List UInt8), lastAt L = some p → p.1.length + p.2.length + 1 ≤ L.length
 | [], p, h => by cases h
 | c :: L, p, h => by
  unfold lastAt at h
  split at h
  ·rename_i q hq
   have := lastAt_sum L q hq
   cases h
   simp only [List.length_cons]
   omega
  ·split at h
   ·cases h
    simp
   ·cases h
theorem cred_sum (s : List UInt8) : (credU s).1.length + (credU s).2.1.length + 3 * (credU s).2.2.1.length ≤ 3 * s.length := by
 unfold credU
 split
 ·simp
 ·rename_i p hp
  have h1 := lastAt_sum s p hp
  have h2 := cut_sum 58 p.1
  have h3 := EscE.enc_len 5 (cutB 58 p.1).1
  have h4 := EscE.enc_len 5 (cutB 58 p.1).2.1
  simp only
  omega
theorem prt_fit {sch d : List UInt8} {z : Int} (h : prt sch d = some z) : -1 ≤ z ∧ z ≤ 65535 := by
 unfold prt at h
 split at h
 ·cases h; omega
 split at h
 ·split at h
  ·cases h; omega
  split at h
  ·cases h; omega
  ·cases h
 ·cases h
theorem authority_fit {sch s : List UInt8} {u : U} {N : Nat} (h : authority sch s = some u) (hN : sch.length + 5 * s.length + 300 ≤ N) : Fit u N := by
 unfold authority at h
 obtain ⟨_, h⟩ := some_of_ite h
 obtain ⟨_, h⟩ := some_of_ite h
 have hw : (s.take (upto (special sch) s)).length + (s.drop (upto (special sch) s)).length = s.length := by rw [List.length_take, List.length_drop]; omega
 have hc := cred_sum (s.take (upto (special sch) s))
 have hh := PrsQ.hap_len (credU (s.take (upto (special sch) s))).2.2.1 false
 have hr := pl_rooted sch (s.drop (upto (special sch) s))
 split at h
 ·rename_i H p e1 e2
  have h1 := HstQ.hst_size e1
  have h2 := prt_fit e2
  cases h
  refine ⟨?_, h2.1, h2.2⟩
  simp only [U0, List.length_nil]
  omega
 ·cases h
theorem hosted_fit {b : U} {N M : Nat} (hb : Fit b M) (l : List ByteArray) (hl : M + pl l ≤ N) : Fit { hosted b with pth := l } N := by
 have := hb.all
 refine ⟨?_, hb.lo, hb.hi⟩
 simp only [hosted, U0, List.length_nil]
 omega
theorem hosted_fit2 {b : U} {N M : Nat} (hb : Fit b M) (l : List ByteArray) (hl : M + (pl l - pl b.pth) ≤ N) : Fit { hosted b with pth := l } N := by
 have := hb.all
 refine ⟨?_, hb.lo, hb.hi⟩
 simp only [hosted, U0, List.length_nil]
 omega
theorem along_fit {b : U} {M : Nat} (hb : Fit b M) : Fit (along (hosted b) b) M := by
 have := hb.all
 refine ⟨?_, hb.lo, hb.hi⟩
 simp only [along, hosted, U0, List.length_nil]
 omega
theorem relative_fit {r : List UInt8} {b u : U} {N M : Nat} (h : relative r b = some u) (hb : Fit b M) (hN : M + 5 * r.length + 300 ≤ N) : Fit u N := by
 have hd := List.length_drop (i := 2) (l := r)
 have hw := (List.dropWhile_sublist (stp1 true) (l := r.drop 2)).length_le
 unfold relative at h
 split at h
 ·refine authority_fit h ?_
  have := hb.all
  split <;> omega
 ·injection h with h
  subst h
  split
  ·have := pl_rooted b.sch r
   exact hosted_fit hb _ (by omega)
  split
  ·exact (along_fit hb).mono (by omega)
  ·have h1 := pl_walk b.sch (sho false b.pth) r
   have h2 := pl_sho false b.pth
   exact hosted_fit2 hb _ (by omega)
theorem uF_fit (l : List ByteArray) {N : Nat} (H : List UInt8) (hl : 4 + pl l + H.length ≤ N) : Fit { uF with hst := H, pth := l } N := by
 refine ⟨?_, ?_, ?_⟩ <;> simp [uF, U0, FILE]
 omega
theorem far_fit {s : List UInt8} {u : U} {N : Nat} (h : far s = some u) (hN : 5 * s.length + 300 ≤ N) : Fit u N := by
 have h1 := pl_rooted FILE s
 have h2 := pl_rooted FILE (s.drop (upto true s))
 have h3 : (s.take (upto true s)).length + (s.drop (upto true s)).length = s.length := by rw [List.length_take, List.length_drop]; omega
 unfold far at h
 split at h
 ·cases h; exact uF_fit _ [] (by simp only [List.length_nil]; omega)
 split at h
 ·cases h; exact uF_fit _ [] (by simp only [List.length_nil]; omega)
 split at h
 ·cases h
 ·rename_i H e
  have h5 := HstQ.hst_size e
  cases h
  refine uF_fit _ _ ?_
  split
  ·simp only [List.length_nil]; omega
  ·omega
theorem file_fit {r : List UInt8} {base : Option U} {u : U} {N M : Nat} (h : file r base = some u) (hb : ∀ b, base = some b → Fit b M) (hN : M + 5 * r.length + 300 ≤ N) : Fit u N := by
 unfold file at h
 split at h
 ·refine far_fit h ?_
  rw [List.length_drop]; omega
 split at h
 ·injection h with h
  subst h
  have h1 : ∀ (q : Prop) [Decidable q] (x : List ByteArray), pl (if q then x.take 1 else []) ≤ pl x := by
   intro q _ x
   split
   ·exact pl_take _ _
   ·rw [pl_nil]; omega
  have hd := List.length_drop (i := 1) (l := r)
  cases base with
  | none =>
   have h2 := pl_walk FILE (if nrm ((Option.elim none [] U.pth).head?.elim [] fun x => x.data.toList) = true ∧ bgn (r.drop 1) = false then (Option.elim none [] U.pth).take 1 else []) (r.drop 1)
   have h3 := h1 (nrm ((Option.elim none [] U.pth).head?.elim [] fun x => x.data.toList) = true ∧ bgn (r.drop 1) = false) (Option.elim none [] U.pth)
   have h4 : pl (Option.elim none [] U.pth) = 0 := rfl
   exact uF_fit _ [] (by simp only [List.length_nil]; omega)
  | some b =>
   have hb := hb b rfl
   have h2 := pl_walk FILE (if nrm ((Option.elim (some b) [] U.pth).head?.elim [] fun x => x.data.toList) = true ∧ bgn (r.drop 1) = false then (Option.elim (some b) [] U.pth).take 1 else []) (r.drop 1)
   have h3 := h1 (nrm ((Option.elim (some b) [] U.pth).head?.elim [] fun x => x.data.toList) = true ∧ bgn (r.drop 1) = false) (Option.elim (some b) [] U.pth)
   have h4 : pl (Option.elim (some b) [] U.pth) = pl b.pth := rfl
   exact hosted_fit2 hb _ (by omega)
 ·split at h
  ·injection h with h
   subst h
   have h1 : pl (if bgn r = true then [] else sho true []) = 0 := by split <;> rfl
   have h2 := pl_walk FILE (if bgn r = true then [] else sho true []) r
   exact uF_fit _ [] (by simp only [List.length_nil]; omega)
  ·rename_i b
   have hb := hb b rfl
   split at h
   ·injection h with h
    subst h
    exact (along_fit hb).mono (by omega)
   ·injection h with h
    subst h
    have h1 : pl (if bgn r = true then [] else sho true b.pth) ≤ pl b.pth := by
     split
     ·rw [pl_nil]; omega
     ·exact pl_sho _ _
    have h2 := pl_walk FILE (if bgn r = true then [] else sho true b.pth) r
    exact hosted_fit2 hb _ (by omega)
theorem opq_len (m : Bool) (s : List UInt8) : (PrsP.opq m s).length ≤ 3 * s.length + 3 := by
 have h := EscE.enc_len 0 s
 unfold PrsP.opq Lib.trimSuffix
 split
 ·rw [List.length_append]
  split
  ·rw [List.length_take]; simp only [List.length_cons, List.length_nil]; omega
  ·simp only [List.length_cons, List.length_nil]; omega
 ·omega
theorem plain_fit {p : Parts} {u : U} {N : Nat} (h : PrsP.plain p = some u) (hN : p.sch.length + 5 * p.rest.length + 300 ≤ N) : Fit u N := by
 have hd := List.length_drop (i := 2) (l := p.rest)
 unfold PrsP.plain at h
 split at h
 ·exact authority_fit h (by omega)
 split at h
 ·injection h with h
  subst h
  have h1 := pl_rooted p.sch p.rest
  refine ⟨?_, ?_, ?_⟩ <;> simp [U0]
  omega
 ·injection h with h
  subst h
  have h1 := opq_len (p.hq || p.hf) p.rest
  refine ⟨?_, ?_, ?_⟩ <;> simp [U0, pl_nil]
  omega
theorem resolve_fit {p : Parts} {base : Option U} {u : U} {N M : Nat} (h : PrsP.resolve p base = some u) (hb : ∀ b, base = some b → Fit b M) (hN : M + p.sch.length + 5 * p.rest.length + 300 ≤ N) : Fit u N := by
 have hw := (List.dropWhile_sublist (stp1 true) (l := p.rest)).length_le
 unfold PrsP.resolve at h
 split at h
 ·refine file_fit h (fun b e => hb b ?_) (by omega)
  cases base with
  | none => cases e
  | some c =>
   simp only [Option.filter] at e
   split at e
   ·exact e
   ·cases e
 split at h
 ·split at h
  ·split at h
   ·exact relative_fit h (hb _ rfl) (by omega)
   ·exact authority_fit h (by omega)
  ·exact authority_fit h (by omega)
 split at h
 ·exact plain_fit h (by omega)
 split at h
 ·cases h
 ·rename_i b
  have hb1 := hb b rfl
  split at h
  ·unfold ofOpaque at h
   obtain ⟨_, h⟩ := some_of_ite h
   injection h with h
   subst h
   exact hb1.mono (by omega)
  split at h
  ·exact file_fit h (fun c e => by injection e with e; subst e; exact hb1) (by omega)
  ·exact relative_fit h hb1 (by omega)
theorem finish_fit {u : U} {p : Parts} {N M : Nat} (h : Fit u M) (hN : M + 3 * p.qry.length + 3 * p.frg.length ≤ N) : Fit (finish u p) N := by
 have h1 := EscE.enc_len (if special u.sch = true then 3 else 2) p.qry
 have h2 := EscE.enc_len 1 p.frg
 obtain ⟨a, b, c⟩ := h
 unfold finish
 cases p.hq <;> cases p.hf <;> refine ⟨?_, ?_, ?_⟩ <;> simp only [if_true, if_false, Bool.false_eq_true] <;> first | assumption | omega
theorem apart_sum (C : List UInt8) : (PrsP.apart C).sch.length + (PrsP.apart C).rest.length + (PrsP.apart C).qry.length + (PrsP.apart C).frg.length ≤ C.length := by
 have h1 := cut_sum 35 C
 have h2 := cut_sum 63 (cutB 35 C).1
 have h3 := cut_sum 58 (cutB 63 (cutB 35 C).1).1
 unfold PrsP.apart
 simp only
 split
 ·simp only [lower, List.length_map]; omega
 ·simp only [List.length_nil]; omega
theorem url_fit {s : List UInt8} {base : Option U} {u : U} {M : Nat} (h : PrsP.url s base = some u) (hb : ∀ b, base = some b → Fit b M) : Fit u (M + 15 * s.length + 300) := by
 have h1 := ClnP.clean_len s
 have h2 := apart_sum (clean s)
 unfold PrsP.url at h
 obtain ⟨v, hv, rfl⟩ := Option.map_eq_some_iff.1 h
 exact finish_fit (resolve_fit (N := M + (PrsP.apart (clean s)).sch.length + 5 * (PrsP.apart (clean s)).rest.length + 300) hv hb (Nat.le_refl _)) (by omega)
end Go.Proofs.YtmdofbccebkbiaaGreatDoor.PrsV
namespace Go.Proofs.YtmdofbccebkbiaaGreatDoor.PrsU
open Go.RowKit Base UtfR UtfE UtfL PthP PthE PthG PthJ UrlA HstP PrsP PrsL PrsT
theorem cutB_sub (b : UInt8) : ∀ L : List UInt8, (∀ c ∈ (cutB b L).1, c ∈ L) ∧ ∀ c ∈ (cutB b L).2.1, c ∈ L
 | [] => by simp [cutB]
 | x :: L => by
  have ih := cutB_sub b L
  unfold cutB
  split
  ·exact ⟨fun c hc => by simp at hc, fun c hc => by simp only at hc; simp [hc]⟩
  ·refine ⟨fun c hc => ?_, fun c hc => ?_⟩
   ·simp only [List.mem_cons] at hc ⊢
    rcases hc with h | h
    ·exact .inl h
    ·exact .inr (ih.1 c h)
   ·simp only at hc
    simp [ih.2 c hc]
theorem suffix_mem {L : List UInt8} {c : UInt8} (h : Lib.hasSuffix L [c] = true) : c ∈ L := by
 unfold Lib.hasSuffix at h
 have := List.isSuffixOf_iff_suffix.1 h
 exact this.subset (by simp)
end Go.Proofs.YtmdofbccebkbiaaGreatDoor.PrsU
namespace Go.Proofs.YtmdofbccebkbiaaGreatDoor.PrsX
open Go.RowKit Base UtfA UtfL PthP PthE PthF PthG PthJ PthS UrlA HstP HstQ PrsP PrsL PrsT PrsU EscI
def Seg (sch : List UInt8) (i : Nat) (x : List UInt8) : Prop := PthS.At (decide (sch = FILE) && decide (i = 0)) (special sch) x ∧ ∀ c ∈ x, inS 4 c.toNat = false
def PathOk (sch : List UInt8) (l : List ByteArray) : Prop := PthS.All (Seg sch) l
theorem seg_nil (sch : List UInt8) (i : Nat) : Seg sch i [] := ⟨at_nil _ _, fun _ h => by cases h⟩
theorem letter_out (c : UInt8) (h : letter (c.toNat : Int) = true) : inS 4 c.toNat = false :=
 byteAll (p := fun c => letter (c.toNat : Int) = true → inS 4 c.toNat = false) (by decide +kernel) c h
theorem wr_out (f : Bool) (b : List UInt8) (sp : Bool) (hs : ∀ c ∈ b, stp1 sp c = false) : ∀ c ∈ wr f b, inS 4 c.toNat = false := by
 intro c hc
 cases hf : (f && drv b) with
 | true =>
  have e : wr f b = b.take 1 ++ [58] := by unfold wr; rw [hf, if_pos rfl]
  rw [Bool.and_eq_true] at hf
  obtain ⟨_, hv⟩ := hf
  rw [e] at hc
  match b, hv, hc with
  | [x, y], hv, hc =>
   have hx : letter (x.toNat : Int) = true := by
    simp only [drv, Bool.and_eq_true] at hv
    exact hv.1
   simp only [List.take_succ_cons, List.take_zero, List.cons_append, List.nil_append, List.mem_cons, List.not_mem_nil, or_false] at hc
   rcases hc with rfl | rfl
   ·exact letter_out _ hx
   ·decide +kernel
 | false =>
  have e : wr f b = EscE.enc 4 b := by unfold wr; rw [hf, if_neg (by decide)]
  rw [e] at hc
  exact (enc_out sp b hs c hc).1
theorem path_walk {sch : List UInt8} {l : List ByteArray} (h : PathOk sch l) (s : List UInt8) : PathOk sch (walk sch l s) := by
 unfold walk PathOk
 exact wb_all (decide (sch = FILE)) (special sch) s.length (Seg sch) (seg_nil sch) (fun i b h1 h2 h3 h4 => ⟨(at_wr _ _ b h1 h3 h4).1, wr_out _ b _ h1⟩) s l [] h (fun _ h => by cases h) (by simp)
theorem walk_ne (sch : List UInt8) (l : List ByteArray) (s : List UInt8) : walk sch l s ≠ [] := wb_some' _ _ _ _ _
theorem path_nil (sch : List UInt8) : PathOk sch [] := fun i h => absurd h (by simp)
theorem path_take {sch : List UInt8} {l : List ByteArray} (h : PathOk sch l) (n : Nat) : PathOk sch (l.take n) := all_take h n
theorem path_sho {sch : List UInt8} {l : List ByteArray} (h : PathOk sch l) (f : Bool) : PathOk sch (sho f l) := by
 unfold sho
 split
 ·exact h
 ·exact path_take h _
theorem path_rooted (sch s : List UInt8) : PathOk sch (rooted sch s) := by
 unfold rooted
 split
 ·exact path_nil _
 ·exact path_walk (path_nil _) _
theorem rooted_ne {sch s : List UInt8} (h : s ≠ [] ∨ special sch = true) : rooted sch s ≠ [] := by
 unfold rooted
 rw [if_neg]
 ·exact walk_ne _ _ _
 ·rintro ⟨h1, h2⟩
  rcases h with h | h
  ·exact h h1
  ·rw [h] at h2; cases h2
theorem one_ne (k : Int) (c : UInt8) : EscE.one k c ≠ [] := fun e => by
 have := EscE.one_len k c
 rw [e] at this
 simp at this
theorem enc_nil {k : Int} {L : List UInt8} (h : EscE.enc k L = []) : L = [] := by
 cases L with
 | nil => rfl
 | cons c t =>
  have e : EscE.enc k (c :: t) = EscE.one k c ++ EscE.enc k t := by simp [EscE.enc]
  rw [e] at h
  exact absurd (List.append_eq_nil_iff.1 h).1 (one_ne k c)
theorem hst_nil {s : List UInt8} {sp : Bool} (h : hst s sp = some []) : s = [] ∧ sp = false := by
 unfold hst at h
 split at h
 ·unfold hbr at h
  split at h
  ·unfold addr at h
   split at h
   ·cases h
   ·injection h with h; cases h
  ·cases h
 split at h
 ·unfold dmn at h
  split at h
  ·unfold dm2 at h
   split at h
   ·cases h
   split at h
   ·obtain ⟨n, _, e⟩ := Option.map_eq_some_iff.1 h
    exact absurd e (pr_ne n)
   ·rename_i h1 _
    injection h with h
    exact absurd h h1
  ·cases h
 ·rename_i hs
  unfold plc at h
  split at h
  ·injection h with h
   exact ⟨enc_nil h, by simpa using hs⟩
  ·cases h
theorem hap_nil : ∀ (L : List UInt8) (i : Bool), (hap i L).1 = [] → (hap i L).2.2 = false → L = []
 | [], _, _, _ => rfl
 | c :: L, i, h1, h2 => by
  unfold hap at h1 h2
  split at h1
  ·rename_i hc
   rw [if_pos hc] at h2
   cases h2
  ·cases h1
structure Ok (u : U) : Prop where
 sch : isSch u.sch = true
 low : lower u.sch = u.sch
 opq : u.opq = true → special u.sch = false ∧ u.hh = false ∧ u.pth = [] ∧ (∀ c ∈ u.txt, inS 0 c.toNat = false ∧ c ≠ 63 ∧ c ≠ 35) ∧ u.txt.head? ≠ some 47 ∧ Lib.hasSuffix u.txt [32] = false
 path : u.opq = false → PathOk u.sch u.pth ∧ u.txt = [] ∧ (u.hh = false ∨ special u.sch = true → u.pth ≠ [])
 spec : special u.sch = true → u.hh = true
 nohost : u.hh = false → u.usr = [] ∧ u.pwd = [] ∧ u.port = -1 ∧ u.hst = []
 usr : ∀ c ∈ u.usr, inS 5 c.toNat = false
 pwd : ∀ c ∈ u.pwd, inS 5 c.toNat = false
 host : u.hh = true → (u.hst = [] ∧ u.usr = [] ∧ u.pwd = [] ∧ u.port = -1 ∧ (special u.sch = false ∨ u.sch = FILE)) ∨ (u.hst ≠ [] ∧ HstQ.Good (special u.sch) u.hst)
 file : u.sch = FILE → u.usr = [] ∧ u.pwd = [] ∧ u.port = -1 ∧ u.hst ≠ LOCAL
 port : u.port = -1 ∨ (0 ≤ u.port ∧ u.port ≤ 65535 ∧ u.port ≠ portOf u.sch)
 qry : ∀ c ∈ u.qry, inS (if special u.sch = true then 3 else 2) c.toNat = false
 frg : ∀ c ∈ u.frg, inS 1 c.toNat = false
 noq : u.hq = false → u.qry = []
 nof : u.hf = false → u.frg = []
theorem out_enc (k : Int) (hk : k ≠ 6) (L : List UInt8) : ∀ c ∈ EscE.enc k L, inS k c.toNat = false := by
 intro c hc
 unfold EscE.enc at hc
 obtain ⟨x, _, hc⟩ := List.mem_flatMap.1 hc
 exact EscP.one_out k hk x c hc
theorem prt_ok {sch d : List UInt8} {z : Int} (h : prt sch d = some z) : z = -1 ∨ (0 ≤ z ∧ z ≤ 65535 ∧ z ≠ portOf sch) := by
 unfold prt at h
 split at h
 ·cases h; exact .inl rfl
 split at h
 ·split at h
  ·cases h; exact .inl rfl
  split at h
  ·rename_i h1 h2
   cases h
   exact .inr ⟨by omega, by omega, h1⟩
  ·cases h
 ·cases h
theorem cred_ok (s : List UInt8) : (∀ c ∈ (credU s).1, inS 5 c.toNat = false) ∧ (∀ c ∈ (credU s).2.1, inS 5 c.toNat = false) ∧ ((credU s).2.2.2 = false → (credU s).1 = [] ∧ (credU s).2.1 = []) := by
 unfold credU
 split
 ·simp
 ·exact ⟨out_enc 5 (by decide) _, out_enc 5 (by decide) _, fun h => by cases h⟩
theorem authority_ok {sch s : List UInt8} {u : U} (h : authority sch s = some u) (h1 : isSch sch = true) (h2 : lower sch = sch) (h3 : sch ≠ FILE) : Ok u := by
 unfold authority at h
 obtain ⟨g1, h⟩ := some_of_ite h
 obtain ⟨g2, h⟩ := some_of_ite h
 have hc := cred_ok (s.take (upto (special sch) s))
 have hn := hap_nil (credU (s.take (upto (special sch) s))).2.2.1 false
 have hp := path_rooted sch (s.drop (upto (special sch) s))
 have hr := fun e => rooted_ne (sch := sch) (s := s.drop (upto (special sch) s)) (.inr e)
 generalize credU (s.take (upto (special sch) s)) = K at h g1 g2 hc hn
 split at h
 ·rename_i H p e1 e2
  have hpo := prt_ok e2
  cases h
  refine ⟨h1, h2, fun e => (by cases e), fun _ => ⟨hp, rfl, ?_⟩, fun _ => rfl, fun e => (by cases e), hc.1, hc.2.1, fun _ => ?_, fun e => absurd e h3, hpo, fun c hc => (by cases hc), fun c hc => (by cases hc), fun _ => rfl, fun _ => rfl⟩
  ·rintro (e | e)
   ·cases e
   ·exact hr e
  ·by_cases hH : H = []
   ·left
    rw [hH] at e1
    obtain ⟨a1, a2⟩ := hst_nil e1
    have b1 : (hap false K.2.2.1).2.2 = false := by
     cases hb : (hap false K.2.2.1).2.2
     ·rfl
     ·exact absurd ⟨hb, a1⟩ g2
    have b2 := hn a1 b1
    have b3 : K.2.2.2 = false := by
     cases hb : K.2.2.2
     ·rfl
     ·exact absurd ⟨hb, b2⟩ g1
    have b4 := hc.2.2 b3
    rw [b2] at e2
    have e3 : (-1 : Int) = p := by
     have : prt sch [] = some p := e2
     rw [PrsQ.prt_empty] at this
     injection this
    exact ⟨hH, b4.1, b4.2, e3.symm, .inl a2⟩
   ·exact .inr ⟨hH, hst_back e1⟩
 ·cases h
theorem hosted_ok {b : U} (hb : Ok b) (ho : b.opq = false) {l : List ByteArray} (hl : PathOk b.sch l) (hn : b.hh = false ∨ special b.sch = true → l ≠ []) : Ok { hosted b with pth := l } :=
 ⟨hb.sch, hb.low, fun e => (by cases e), fun _ => ⟨hl, rfl, hn⟩, hb.spec, hb.nohost, hb.usr, hb.pwd, hb.host, hb.file, hb.port, fun c hc => (by cases hc), fun c hc => (by cases hc), fun _ => rfl, fun _ => rfl⟩
theorem along_ok {b : U} (hb : Ok b) (ho : b.opq = false) : Ok (along (hosted b) b) :=
 ⟨hb.sch, hb.low, fun e => (by cases e), fun _ => ⟨(hb.path ho).1, rfl, (hb.path ho).2.2⟩, hb.spec, hb.nohost, hb.usr, hb.pwd, hb.host, hb.file, hb.port, hb.qry, fun c hc => (by cases hc), hb.noq, fun _ => rfl⟩
theorem relative_ok {r : List UInt8} {b u : U} (h : relative r b = some u) (hb : Ok b) (ho : b.opq = false) (hf : b.sch ≠ FILE) : Ok u := by
 unfold relative at h
 split at h
 ·exact authority_ok h hb.sch hb.low hf
 ·injection h with h
  subst h
  split
  ·rename_i hsl
   refine hosted_ok hb ho (path_rooted _ _) fun _ => rooted_ne (.inl ?_)
   rintro rfl
   cases hsl
  split
  ·exact along_ok hb ho
  ·exact hosted_ok hb ho (path_walk (path_sho (hb.path ho).1 _) _) fun _ => walk_ne _ _ _
theorem file_sch : isSch FILE = true ∧ lower FILE = FILE ∧ special FILE = true := by decide +kernel
theorem uF_ok {l : List ByteArray} (hl : PathOk FILE l) (hn : l ≠ []) {H : List UInt8} (hH : H = [] ∨ (H ≠ [] ∧ HstQ.Good true H ∧ H ≠ LOCAL)) : Ok { uF with hst := H, pth := l } := by
 refine ⟨file_sch.1, file_sch.2.1, fun e => (by cases e), fun _ => ⟨hl, rfl, fun _ => hn⟩, fun _ => rfl, fun e => (by cases e), fun c hc => (by cases hc), fun c hc => (by cases hc), fun _ => ?_, fun _ => ⟨rfl, rfl, rfl, ?_⟩, .inl rfl, fun c hc => (by cases hc), fun c hc => (by cases hc), fun _ => rfl, fun _ => rfl⟩
 ·rcases hH with hH | hH
  ·exact .inl ⟨hH, rfl, rfl, rfl, .inr rfl⟩
  ·exact .inr ⟨hH.1, by show HstQ.Good (special FILE) H; rw [file_sch.2.2]; exact hH.2.1⟩
 ·show H ≠ LOCAL
  rcases hH with hH | hH
  ·rw [hH]; decide
  ·exact hH.2.2
theorem far_ok {s : List UInt8} {u : U} (h : far s = some u) : Ok u := by
 have hp := path_rooted FILE s
 have hp2 := path_rooted FILE (s.drop (upto true s))
 have hn := rooted_ne (sch := FILE) (s := s) (.inr file_sch.2.2)
 have hn2 := rooted_ne (sch := FILE) (s := s.drop (upto true s)) (.inr file_sch.2.2)
 unfold far at h
 split at h
 ·cases h; exact uF_ok hp hn (.inl rfl)
 split at h
 ·cases h; exact uF_ok hp2 hn2 (.inl rfl)
 split at h
 ·cases h
 ·rename_i H e
  cases h
  refine uF_ok hp2 hn2 ?_
  split
  ·exact .inl rfl
  ·rename_i hl
   refine .inr ⟨?_, hst_back e, hl⟩
   rintro rfl
   have := hst_nil e
   cases this.2
theorem file_ok {r : List UInt8} {base : Option U} {u : U} (h : file r base = some u) (hb : ∀ b, base = some b → Ok b ∧ b.opq = false ∧ b.sch = FILE) : Ok u := by
 unfold file at h
 split at h
 ·exact far_ok h
 split at h
 ·injection h with h
  subst h
  cases base with
  | none => exact uF_ok (path_walk (by split <;> first | exact path_nil _ | exact path_take (path_nil _) _) _) (walk_ne _ _ _) (H := []) (.inl rfl)
  | some b =>
   obtain ⟨h1, h2, h3⟩ := hb b rfl
   have hp := (h1.path h2).1
   rw [h3] at hp
   refine hosted_ok h1 h2 ?_ fun _ => walk_ne _ _ _
   rw [h3]
   refine path_walk ?_ _
   split
   ·exact path_take hp _
   ·exact path_nil _
 ·split at h
  ·injection h with h
   subst h
   refine uF_ok (path_walk ?_ _) (walk_ne _ _ _) (H := []) (.inl rfl)
   split
   ·exact path_nil _
   ·exact path_sho (path_nil _) _
  ·rename_i b
   obtain ⟨h1, h2, h3⟩ := hb b rfl
   have hp := (h1.path h2).1
   rw [h3] at hp
   split at h
   ·injection h with h
    subst h
    exact along_ok h1 h2
   ·injection h with h
    subst h
    refine hosted_ok h1 h2 ?_ fun _ => walk_ne _ _ _
    rw [h3]
    refine path_walk ?_ _
    split
    ·exact path_nil _
    ·exact path_sho hp _
structure POk (p : Parts) : Prop where
 sch : p.sch ≠ [] → isSch p.sch = true ∧ lower p.sch = p.sch
 rest : ∀ c ∈ p.rest, c ≠ 63 ∧ c ≠ 35
 last : p.sch ≠ [] → p.hq = false → p.hf = false → Lib.hasSuffix p.rest [32] = false
theorem suffix_snoc (L : List UInt8) (d c : UInt8) : Lib.hasSuffix (L ++ [d]) [c] = decide (d = c) := by
 rw [Bool.eq_iff_iff]
 unfold Lib.hasSuffix
 rw [List.isSuffixOf_iff_suffix, decide_eq_true_iff]
 constructor
 ·rintro ⟨t, e⟩
  exact (List.append_inj' e rfl).2 |> fun h => (List.cons.inj h).1.symm
 ·rintro rfl
  exact ⟨L, rfl⟩
theorem snoc_cases (L : List UInt8) : L = [] ∨ ∃ M d, L = M ++ [d] := by
 rcases List.eq_nil_or_concat L with h | ⟨M, d, h⟩
 ·exact .inl h
 ·exact .inr ⟨M, d, by simpa using h⟩
theorem enc0_suffix (L : List UInt8) (h : Lib.hasSuffix L [32] = false) : Lib.hasSuffix (EscE.enc 0 L) [32] = false := by
 rcases snoc_cases L with rfl | ⟨M, d, rfl⟩
 ·rfl
 ·rw [suffix_snoc, decide_eq_false_iff_not] at h
  rw [EscE.enc_snoc]
  have H : ∃ X y, EscE.one 0 d = X ++ [y] ∧ y ≠ 32 := by
   unfold EscE.one
   split
   ·refine ⟨[37, EscE.dig (d.toNat / 16)], EscE.dig (d.toNat % 16), rfl, ?_⟩
    have h2 : ∀ n : Fin 16, EscE.dig n.val ≠ 32 := by decide
    exact h2 ⟨_, Nat.mod_lt _ (by decide)⟩
   ·exact ⟨[], _, rfl, h⟩
  obtain ⟨X, y, e, hy⟩ := H
  rw [e, ← List.append_assoc, suffix_snoc, decide_eq_false_iff_not]
  exact hy
theorem dw_head (p : UInt8 → Bool) : ∀ L : List UInt8, L.dropWhile p = [] ∨ ∃ c t, L.dropWhile p = c :: t ∧ p c = false
 | [] => .inl rfl
 | c :: L => by
  rw [List.dropWhile_cons]
  split
  ·exact dw_head p L
  ·rename_i h
   exact .inr ⟨c, L, rfl, by simpa using h⟩
theorem trm_last (X : List UInt8) : trm X = [] ∨ ∃ M d, trm X = M ++ [d] ∧ low32 d = false := by
 unfold trm
 rcases dw_head low32 (X.dropWhile low32).reverse with h | ⟨c, t, h, hc⟩
 ·left; rw [h]; rfl
 ·right; exact ⟨t.reverse, c, by rw [h]; simp, hc⟩
theorem clean_last (s : List UInt8) : Lib.hasSuffix (clean s) [32] = false := by
 rw [clean_ED]
 rcases trm_last (ED s) with h | ⟨M, d, h, hd⟩
 ·rw [h]; rfl
 ·rw [h, List.filter_append, List.filter_cons_of_pos (by rw [low_brk d hd]; rfl), List.filter_nil, suffix_snoc, decide_eq_false_iff_not]
  rintro rfl
  cases hd
theorem cutB_false (b : UInt8) : ∀ L : List UInt8, (cutB b L).2.2 = false → (cutB b L).1 = L ∧ ∀ c ∈ L, c ≠ b
 | [], _ => ⟨rfl, fun _ h => by cases h⟩
 | c :: L, h => by
  unfold cutB at h ⊢
  split at h
  ·cases h
  ·rename_i hc
   have ih := cutB_false b L h
   rw [if_neg hc]
   refine ⟨by simp only; rw [ih.1], fun d hd => ?_⟩
   rcases List.mem_cons.1 hd with rfl | hd
   ·exact hc
   ·exact ih.2 d hd
theorem cutB_true (b : UInt8) : ∀ L : List UInt8, (cutB b L).2.2 = true → L = (cutB b L).1 ++ b :: (cutB b L).2.1
 | [], h => by cases h
 | c :: L, h => by
  unfold cutB at h ⊢
  split at h
  ·rename_i hc
   rw [if_pos hc, hc]
   rfl
  ·rename_i hc
   rw [if_neg hc]
   have ih := cutB_true b L h
   simp only [List.cons_append]
   rw [← ih]
theorem cutB_no (b : UInt8) : ∀ L : List UInt8, ∀ c ∈ (cutB b L).1, c ≠ b
 | [], c, h => by cases h
 | x :: L, c, h => by
  unfold cutB at h
  split at h
  ·cases h
  ·rename_i hx
   rcases List.mem_cons.1 h with rfl | h
   ·exact hx
   ·exact cutB_no b L c h
theorem suffix_app (A B : List UInt8) (c : UInt8) (h : Lib.hasSuffix (A ++ B) [c] = false) : Lib.hasSuffix B [c] = false := by
 rcases snoc_cases B with rfl | ⟨M, d, rfl⟩
 ·rfl
 ·rw [← List.append_assoc, suffix_snoc] at h
  rw [suffix_snoc]
  exact h
theorem sch_lower (L : List UInt8) (h : isSch L = true) : isSch (lower L) = true := by
 cases L with
 | nil => cases h
 | cons c r =>
  unfold isSch at h
  rw [Bool.and_eq_true] at h
  show isSch (low c :: lower r) = true
  unfold isSch
  rw [Bool.and_eq_true]
  constructor
  ·exact byteAll (p := fun c => letter c.toNat = true → letter (low c).toNat = true) (by decide +kernel) c h.1
  ·unfold lower
   rw [List.all_map, List.all_eq_true]
   intro x hx
   exact byteAll (p := fun c => schC c = true → schC (low c) = true) (by decide +kernel) x (List.all_eq_true.1 h.2 x hx)
theorem apart_ok (s : List UInt8) : POk (PrsP.apart (clean s)) := by
 have hl := clean_last s
 generalize clean s = C at hl
 unfold PrsP.apart
 simp only
 have f1 := cutB_no 35 C
 have q1 := cutB_no 63 (cutB 35 C).1
 have q2 := (cutB_sub 63 (cutB 35 C).1).1
 have c2 := (cutB_sub 58 (cutB 63 (cutB 35 C).1).1).2
 have hr : ∀ c ∈ (cutB 63 (cutB 35 C).1).1, c ≠ 63 ∧ c ≠ 35 := fun c hc => ⟨q1 c hc, f1 c (q2 c hc)⟩
 split
 ·rename_i hc
  rw [Bool.and_eq_true] at hc
  refine ⟨fun _ => ⟨sch_lower _ hc.2, lower_lower _⟩, fun c hc => hr c (c2 c hc), fun _ h1 h2 => ?_⟩
  simp only at h1 h2 ⊢
  have e1 := (cutB_false 35 C h2).1
  rw [e1] at h1 hc ⊢
  have e2 := (cutB_false 63 C h1).1
  rw [e2] at hc ⊢
  have e3 := cutB_true 58 C hc.1
  rw [e3, show ∀ (A B : List UInt8), A ++ 58 :: B = (A ++ [58]) ++ B from fun A B => by simp] at hl
  exact suffix_app _ _ _ hl
 ·exact ⟨fun h => absurd rfl h, hr, fun h => absurd rfl h⟩
theorem enc0_ok {L : List UInt8} (h : ∀ c ∈ L, c ≠ 63 ∧ c ≠ 35) : ∀ c ∈ EscE.enc 0 L, inS 0 c.toNat = false ∧ c ≠ 63 ∧ c ≠ 35 := by
 intro c hc
 refine ⟨out_enc 0 (by decide) L c hc, ?_⟩
 unfold EscE.enc at hc
 obtain ⟨x, hx, hm⟩ := List.mem_flatMap.1 hc
 unfold EscE.one at hm
 split at hm
 ·have hd := x.toNat_lt
  have h2 : ∀ n : Fin 16, EscE.dig n.val ≠ 63 ∧ EscE.dig n.val ≠ 35 := by decide
  simp only [List.mem_cons, List.not_mem_nil, or_false] at hm
  rcases hm with rfl | rfl | rfl
  ·decide
  ·exact h2 ⟨x.toNat / 16, by omega⟩
  ·exact h2 ⟨x.toNat % 16, by omega⟩
 ·rw [List.mem_singleton] at hm
  rw [hm]
  exact h x hx
theorem enc0_head {L : List UInt8} (h : L.head? ≠ some 47) : (EscE.enc 0 L).head? ≠ some 47 := by
 cases L with
 | nil => simp [EscE.enc]
 | cons c t =>
  have e : EscE.enc 0 (c :: t) = EscE.one 0 c ++ EscE.enc 0 t := by simp [EscE.enc]
  rw [e]
  unfold EscE.one
  split
  ·simp
  ·simpa using h
theorem prefix_head {L : List UInt8} (h : ¬ Lib.hasPrefix L [47] = true) : L.head? ≠ some 47 := by
 cases L with
 | nil => simp
 | cons c t =>
  intro e
  apply h
  have : c = 47 := by simpa using e
  rw [this]
  rfl
theorem opq_ok {p : Parts} (hp : POk p) (hs : p.sch ≠ []) (h47 : p.rest.head? ≠ some 47) : (∀ c ∈ PrsP.opq (p.hq || p.hf) p.rest, inS 0 c.toNat = false ∧ c ≠ 63 ∧ c ≠ 35) ∧ (PrsP.opq (p.hq || p.hf) p.rest).head? ≠ some 47 ∧ Lib.hasSuffix (PrsP.opq (p.hq || p.hf) p.rest) [32] = false := by
 have h1 := enc0_ok hp.rest
 have h2 := enc0_head h47
 unfold PrsP.opq
 split
 ·rename_i hm
  unfold Lib.trimSuffix
  rw [if_pos hm.1]
  refine ⟨fun c hc => ?_, ?_, ?_⟩
  ·rcases List.mem_append.1 hc with hc | hc
   ·exact h1 c (List.mem_of_mem_take hc)
   ·simp only [List.mem_cons, List.not_mem_nil, or_false] at hc
    rcases hc with rfl | rfl | rfl <;> decide +kernel
  ·cases hk : List.take ((EscE.enc 0 p.rest).length - [(32 : UInt8)].length) (EscE.enc 0 p.rest) with
   | nil => simp
   | cons c t =>
    intro e
    apply h2
    have ec : c = 47 := by simpa using e
    rw [← List.take_append_drop ((EscE.enc 0 p.rest).length - [(32 : UInt8)].length) (EscE.enc 0 p.rest), hk, ec]
    rfl
  ·rw [show ∀ A : List UInt8, A ++ [37, 50, 48] = (A ++ [37, 50]) ++ [48] from fun A => by simp, suffix_snoc]
   decide
 ·rename_i hm
  refine ⟨h1, h2, ?_⟩
  by_cases hb : (p.hq || p.hf) = true
  ·cases hx : Lib.hasSuffix (EscE.enc 0 p.rest) [32]
   ·rfl
   ·exact absurd ⟨hx, hb⟩ hm
  ·have hb' : p.hq = false ∧ p.hf = false := by
    cases h3 : p.hq <;> cases h4 : p.hf <;> simp_all
   exact enc0_suffix _ (hp.last hs hb'.1 hb'.2)
theorem plain_ok {p : Parts} {u : U} (h : PrsP.plain p = some u) (hp : POk p) (hs : p.sch ≠ []) (hn : special p.sch = false) (hf : p.sch ≠ FILE) : Ok u := by
 obtain ⟨h1, h2⟩ := hp.sch hs
 unfold PrsP.plain at h
 split at h
 ·exact authority_ok h h1 h2 hf
 split at h
 ·rename_i h47
  injection h with h
  subst h
  refine ⟨h1, h2, fun e => (by cases e), fun _ => ⟨path_rooted _ _, rfl, fun _ => rooted_ne (.inl ?_)⟩, fun e => ?_, fun _ => ⟨rfl, rfl, rfl, rfl⟩, fun c hc => (by cases hc), fun c hc => (by cases hc), fun e => (by cases e), fun e => absurd e hf, .inl rfl, fun c hc => (by cases hc), fun c hc => (by cases hc), fun _ => rfl, fun _ => rfl⟩
  ·intro e
   rw [e] at h47
   cases h47
  ·exact absurd (show special p.sch = true from e) (by rw [hn]; simp)
 ·rename_i h47
  injection h with h
  subst h
  have ho := opq_ok hp hs (prefix_head h47)
  refine ⟨h1, h2, fun _ => ⟨hn, rfl, rfl, ho.1, ho.2.1, ho.2.2⟩, fun e => (by cases e), fun e => ?_, fun _ => ⟨rfl, rfl, rfl, rfl⟩, fun c hc => (by cases hc), fun c hc => (by cases hc), fun e => (by cases e), fun e => absurd e hf, .inl rfl, fun c hc => (by cases hc), fun c hc => (by cases hc), fun _ => rfl, fun _ => rfl⟩
  exact absurd (show special p.sch = true from e) (by rw [hn]; simp)
theorem not_opq {b : U} (hb : Ok b) (h : special b.sch = true) : b.opq = false := by
 cases e : b.opq
 ·rfl
 ·have := (hb.opq e).1
  rw [h] at this
  cases this
theorem resolve_ok {p : Parts} {base : Option U} {u : U} (h : PrsP.resolve p base = some u) (hp : POk p) (hb : ∀ b, base = some b → Ok b) : Ok u := by
 have hfe : FILE ≠ [] := by decide
 unfold PrsP.resolve at h
 split at h
 ·refine file_ok h fun b e => ?_
  cases base with
  | none => cases e
  | some c =>
   simp only [Option.filter] at e
   split at e
   ·rename_i hc
    injection e with e
    subst e
    have h1 : c.sch = FILE := by simpa using hc
    exact ⟨hb c rfl, not_opq (hb c rfl) (by rw [h1]; exact file_sch.2.2), h1⟩
   ·cases e
 rename_i hf
 split at h
 ·rename_i hsp
  have hs : p.sch ≠ [] := by
   intro e
   rw [e] at hsp
   revert hsp
   decide
  obtain ⟨g1, g2⟩ := hp.sch hs
  split at h
  ·rename_i b
   split at h
   ·rename_i he
    exact relative_ok h (hb b rfl) (not_opq (hb b rfl) (by rw [he.1]; exact hsp)) (by rw [he.1]; exact hf)
   ·exact authority_ok h g1 g2 hf
  ·exact authority_ok h g1 g2 hf
 rename_i hsp
 split at h
 ·rename_i hs
  exact plain_ok h hp hs (by simpa using hsp) hf
 split at h
 ·cases h
 ·rename_i b
  have hb1 := hb b rfl
  split at h
  ·unfold ofOpaque at h
   obtain ⟨_, h⟩ := some_of_ite h
   injection h with h
   subst h
   exact hb1
  rename_i ho
  have ho' : b.opq = false := by simpa using ho
  split at h
  ·rename_i hs
   exact file_ok h fun c e => by injection e with e; subst e; exact ⟨hb1, ho', hs⟩
  ·rename_i hs
   exact relative_ok h hb1 ho' hs
theorem finish_ok {u : U} {p : Parts} (h : Ok u) : Ok (finish u p) := by
 have e1 := out_enc (if special u.sch = true then 3 else 2) (by split <;> decide) p.qry
 have e2 := out_enc 1 (by decide) p.frg
 obtain ⟨a1, a2, a3, a4, a5, a6, a7, a8, a9, a10, a11, a12, a13, a14, a15⟩ := h
 unfold finish
 cases p.hq <;> cases p.hf
 ·exact ⟨a1, a2, a3, a4, a5, a6, a7, a8, a9, a10, a11, a12, a13, a14, a15⟩
 ·exact ⟨a1, a2, a3, a4, a5, a6, a7, a8, a9, a10, a11, a12, e2, a14, fun e => (by cases e)⟩
 ·exact ⟨a1, a2, a3, a4, a5, a6, a7, a8, a9, a10, a11, e1, a13, fun e => (by cases e), a15⟩
 ·exact ⟨a1, a2, a3, a4, a5, a6, a7, a8, a9, a10, a11, e1, e2, fun e => (by cases e), fun e => (by cases e)⟩
theorem url_ok {s : List UInt8} {base : Option U} {u : U} (h : PrsP.url s base = some u) (hb : ∀ b, base = some b → Ok b) : Ok u := by
 unfold PrsP.url at h
 obtain ⟨v, hv, rfl⟩ := Option.map_eq_some_iff.1 h
 exact finish_ok (resolve_ok hv (apart_ok s) hb)
end Go.Proofs.YtmdofbccebkbiaaGreatDoor.PrsX
namespace Go.Proofs.YtmdofbccebkbiaaGreatDoor.PrsY
open Go.RowKit Base UtfA UtfL QudP SixP SixH SixL PthP PthE PthF PthG PthJ PthS UrlA HstP HstB HstQ PrsP PrsL PrsT PrsU PrsX EscI
def credB (u : U) : List UInt8 := UrlP.credL (strOf u.usr) (strOf u.pwd)
def midB (u : U) : List UInt8 := UrlP.midL (strOf u.usr) (strOf u.pwd) (strOf u.hst) u.hh u.port u.opq u.pth
def restB (u : U) : List UInt8 := midB u ++ UrlP.pathL u.opq (strOf u.txt) u.pth
def bareU (u : U) : List UInt8 := UrlP.bareL (strOf u.sch) (strOf u.usr) (strOf u.pwd) (strOf u.hst) u.hh u.port u.opq (strOf u.txt) u.pth u.hq (strOf u.qry)
def printU (u : U) : List UInt8 := UrlP.printL (strOf u.sch) (strOf u.usr) (strOf u.pwd) (strOf u.hst) u.hh u.port u.opq (strOf u.txt) u.pth u.hq u.hf (strOf u.qry) (strOf u.frg)
theorem bareU_eq (u : U) : bareU u = u.sch ++ [58] ++ midB u ++ UrlP.pathL u.opq (strOf u.txt) u.pth ++ (if u.hq then 63 :: u.qry else []) := rfl
theorem printU_eq (u : U) : printU u = bareU u ++ (if u.hf then 35 :: u.frg else []) := rfl
def HC (c : UInt8) : Prop := c ≠ 47 ∧ c ≠ 92 ∧ c ≠ 64 ∧ c ≠ 63 ∧ c ≠ 35 ∧ 33 ≤ c.toNat ∧ c.toNat ≤ 126
instance (c : UInt8) : Decidable (HC c) := by unfold HC; exact inferInstance
theorem isD_hc (c : UInt8) (h : isD 16 c = true) : HC c ∧ c ≠ 91 ∧ c ≠ 93 :=
 byteAll (p := fun c => isD 16 c = true → HC c ∧ c ≠ 91 ∧ c ≠ 93) (by decide +kernel) c h
theorem jx_hc {x : UInt8} {L : List Nat} (hL : ∀ n ∈ L, n < 65536) (h : x ∈ jx L) : HC x ∧ x ≠ 91 ∧ x ≠ 93 := by
 unfold jx at h
 rcases joinC_mem _ h with rfl | ⟨v, hv, hx⟩
 ·decide
 ·obtain ⟨n, hn, rfl⟩ := List.mem_map.1 hv
  exact isD_hc x (List.all_eq_true.1 (hx_reads n n (Nat.le_refl _) (hL n hn)).1 x hx)
theorem prt_hc {x : UInt8} {f : Nat → Nat} (h6 : ∀ i, f i < 65536) (h : x ∈ SixI.prt f) : HC x ∧ x ≠ 91 ∧ x ≠ 93 := by
 have hV := SixI.V8_mem h6
 unfold SixI.prt at h
 split at h
 ·exact jx_hc hV h
 ·simp only [List.mem_append, List.mem_cons, List.not_mem_nil, or_false] at h
  rcases h with (h | rfl | rfl) | h
  ·exact jx_hc (fun n hn => hV n (List.mem_of_mem_take hn)) h
  ·decide
  ·decide
  ·exact jx_hc (fun n hn => hV n (List.mem_of_mem_drop hn)) h
theorem hap_pass (D : List UInt8) (i : Bool) : ∀ L : List UInt8, (∀ c ∈ L, c ≠ 91 ∧ c ≠ 93 ∧ (i = true ∨ c ≠ 58)) → hap i (L ++ D) = (L ++ (hap i D).1, (hap i D).2.1, (hap i D).2.2)
 | [], _ => rfl
 | c :: L, h => by
  obtain ⟨h1, h2, h3⟩ := h c (by simp)
  have hn : ¬ (c = 58 ∧ i = false) := by
   rintro ⟨e1, e2⟩
   rcases h3 with h3 | h3
   ·rw [h3] at e2; cases e2
   ·exact h3 e1
  rw [List.cons_append, hap, if_neg hn, if_neg h1, if_neg h2, hap_pass D i L fun d hd => h d (by simp [hd])]
  rfl
theorem fbd_hc (sp : Bool) (c : UInt8) (h : fbd sp c = false) (h1 : 33 ≤ c.toNat) (h2 : c.toNat ≤ 126) : HC c ∧ c ≠ 91 ∧ c ≠ 93 ∧ c ≠ 58 ∧ c ≠ 124 :=
 byteAll (p := fun c => ∀ sp : Bool, fbd sp c = false → 33 ≤ c.toNat → c.toNat ≤ 126 → HC c ∧ c ≠ 91 ∧ c ≠ 93 ∧ c ≠ 58 ∧ c ≠ 124) (by decide +kernel) c sp h h1 h2
theorem good_chars {sp : Bool} {R : List UInt8} (hg : HstQ.Good sp R) : (∀ c ∈ R, HC c) ∧ (∀ D, hap false (R ++ D) = (R ++ (hap false D).1, (hap false D).2.1, (hap false D).2.2)) ∧ drv R = false := by
 obtain ⟨h, hr, hf⟩ := hg
 by_cases h91 : R.head? = some 91
 ·unfold hst at h
  rw [if_pos h91] at h
  unfold hbr at h
  split at h
  ·unfold addr at h
   split at h
   ·cases h
   ·rename_i V hv
    injection h with h
    obtain ⟨f, rfl, h6⟩ := six_fun hv
    rw [prtL_V8] at h
    rw [← h]
    refine ⟨?_, fun D => ?_, ?_⟩
    ·intro c hc
     simp only [List.mem_cons, List.mem_append, List.not_mem_nil, or_false] at hc
     rcases hc with rfl | hc | rfl
     ·decide
     ·exact (prt_hc h6 hc).1
     ·decide
    ·rw [List.cons_append, hap, if_neg (by decide), if_pos rfl, List.append_assoc, hap_pass _ true _ fun c hc => ⟨(prt_hc h6 hc).2.1, (prt_hc h6 hc).2.2, .inl rfl⟩, List.singleton_append, hap, if_neg (by decide), if_neg (by decide), if_pos rfl]
     simp
    ·cases hp : SixI.prt f with
     | nil => rfl
     | cons a t =>
      cases t with
      | nil => rfl
      | cons b t => rfl
  ·cases h
 ·have hc := fun c hc => fbd_hc sp c (hf h91 c hc) (hr c hc).1 (hr c hc).2
  refine ⟨fun c h => (hc c h).1, fun D => hap_pass D false R fun c h => ⟨(hc c h).2.1, (hc c h).2.2.1, .inr (hc c h).2.2.2.1⟩, ?_⟩
  match R, hc with
  | [], _ => rfl
  | [_], _ => rfl
  | [x, y], hc =>
   have hy := hc y (by simp)
   simp [drv, hy.2.2.2.1, hy.2.2.2.2]
  | _ :: _ :: _ :: _, _ => rfl
theorem upto_at (sp : Bool) (P : List UInt8) (hP : P = [] ∨ ∃ t, P = 47 :: t) : ∀ X : List UInt8, (∀ c ∈ X, stp1 sp c = false) → upto sp (X ++ P) = X.length
 | [], _ => by
  rcases hP with rfl | ⟨t, rfl⟩
  ·rfl
  ·rw [List.nil_append, upto, if_pos (by cases sp <;> rfl)]; rfl
 | c :: X, h => by
  rw [List.cons_append, upto, h c (by simp), if_neg (by decide), upto_at sp P hP X fun d hd => h d (by simp [hd])]
  rfl
theorem hc_stop (sp : Bool) (c : UInt8) (h1 : c ≠ 47) (h2 : c ≠ 92) : stp1 sp c = false := by
 unfold stp1
 simp [h1, h2]
theorem pnum_dec : ∀ (N n : Nat), n ≤ N → n ≤ 65535 → pnum (Lib.decDigits n) = n ∧ (Lib.decDigits n).all dgt = true ∧ Lib.decDigits n ≠ []
 | N, n, hN, h => by
  rw [Lib.decDigits]
  have hd : ∀ k : Fin 10, pnum [UInt8.ofNat (48 + k.val)] = k.val ∧ dgt (UInt8.ofNat (48 + k.val)) = true ∧ (UInt8.ofNat (48 + k.val)).toNat - 48 = k.val := by decide +kernel
  split
  ·rename_i h1
   have := hd ⟨n, h1⟩
   exact ⟨this.1, by simpa using this.2.1, by simp⟩
  ·have h2 : n / 10 < n := by omega
   cases N with
   | zero => omega
   | succ N =>
    obtain ⟨a, b, _⟩ := pnum_dec N (n / 10) (by omega) (by omega)
    have := hd ⟨n % 10, Nat.mod_lt _ (by decide)⟩
    simp only at this
    refine ⟨?_, ?_, by simp⟩
    ·rw [PrsQ.pnum_snoc, a, this.2.2]
     omega
    ·rw [List.all_append, b]
     simpa using this.2.1
theorem dgt_hc (c : UInt8) (h : dgt c = true) : HC c := byteAll (p := fun c => dgt c = true → HC c) (by decide +kernel) c h
theorem prt_again {sch : List UInt8} {z : Int} (h : z = -1 ∨ (0 ≤ z ∧ z ≤ 65535 ∧ z ≠ portOf sch)) : prt sch (hap false (UrlP.portL z)).2.1 = some z ∧ (hap false (UrlP.portL z)).1 = [] ∧ (∀ c ∈ UrlP.portL z, HC c) ∧ ((hap false (UrlP.portL z)).2.2 = true → z ≠ -1) := by
 rcases h with rfl | ⟨h0, h1, h2⟩
 ·refine ⟨rfl, rfl, fun c hc => (by cases hc), fun e => (by cases e)⟩
 ·have hz : z ≠ -1 := by omega
  obtain ⟨n, rfl⟩ : ∃ n : Nat, z = (n : Int) := ⟨z.toNat, by omega⟩
  obtain ⟨a, b, c⟩ := pnum_dec n n (Nat.le_refl _) (by omega)
  have e : UrlP.portL (n : Int) = 58 :: Lib.decDigits n := by
   unfold UrlP.portL Lib.itoa
   rw [if_neg hz, if_neg (by omega)]
   rfl
  rw [e, hap, if_pos ⟨rfl, rfl⟩]
  refine ⟨?_, rfl, fun d hd => ?_, fun _ => hz⟩
  ·simp only
   rw [PrsQ.prt_good sch _ c b, a, if_neg h2, if_pos (by omega)]
  ·rcases List.mem_cons.1 hd with rfl | hd
   ·decide
   ·exact dgt_hc d (List.all_eq_true.1 b d hd)
theorem out5 (c : UInt8) (h : inS 5 c.toNat = false) : HC c ∧ c ≠ 58 := byteAll (p := fun c => inS 5 c.toNat = false → HC c ∧ c ≠ 58) (by decide +kernel) c h
theorem cred_again (u : U) (h1 : ∀ c ∈ u.usr, inS 5 c.toNat = false) (h2 : ∀ c ∈ u.pwd, inS 5 c.toNat = false) (W : List UInt8) (hW : ∀ c ∈ W, c ≠ 64) : ∃ b, credU (credB u ++ W) = (u.usr, u.pwd, W, b) ∧ (b = true → ¬ (u.usr = [] ∧ u.pwd = [])) := by
 have e1 : EscE.enc 5 u.usr = u.usr := EscP.enc_fix 5 _ h1
 have e2 : EscE.enc 5 u.pwd = u.pwd := EscP.enc_fix 5 _ h2
 have hu : (strOf u.usr).data.toList = u.usr := rfl
 have hp : (strOf u.pwd).data.toList = u.pwd := rfl
 unfold credB UrlP.credL
 rw [hu, hp]
 by_cases p0 : u.pwd = []
 ·by_cases u0 : u.usr = []
  ·rw [if_pos p0, if_pos u0, List.nil_append]
   refine ⟨false, ?_, fun e => by cases e⟩
   unfold credU
   rw [(PrsQ.lastAt_none W).2 hW, u0, p0]
  ·rw [if_pos p0, if_neg u0, List.append_assoc, List.singleton_append]
   refine ⟨true, ?_, fun _ e => u0 e.1⟩
   unfold credU
   rw [PrsQ.lastAt_app u.usr W hW]
   simp only
   rw [cutB_none 58 u.usr fun c hc => (out5 c (h1 c hc)).2, p0]
   simp only
   rw [e1]
   rfl
 ·rw [if_neg p0, List.append_assoc, List.singleton_append]
  refine ⟨true, ?_, fun _ e => p0 e.2⟩
  unfold credU
  rw [PrsQ.lastAt_app _ W hW]
  simp only
  rw [List.append_assoc, List.singleton_append, cutB_at 58 u.usr u.pwd fun c hc => (out5 c (h1 c hc)).2]
  simp only
  rw [e1, e2]
theorem cred_hc (u : U) (h1 : ∀ c ∈ u.usr, inS 5 c.toNat = false) (h2 : ∀ c ∈ u.pwd, inS 5 c.toNat = false) : ∀ c ∈ credB u, c ≠ 47 ∧ c ≠ 92 ∧ c ≠ 63 ∧ c ≠ 35 ∧ 33 ≤ c.toNat ∧ c.toNat ≤ 126 := by
 have k1 := fun c hc => (out5 c (h1 c hc)).1
 have k2 := fun c hc => (out5 c (h2 c hc)).1
 have hu : (strOf u.usr).data.toList = u.usr := rfl
 have hp : (strOf u.pwd).data.toList = u.pwd := rfl
 have H : ∀ c, HC c → c ≠ 47 ∧ c ≠ 92 ∧ c ≠ 63 ∧ c ≠ 35 ∧ 33 ≤ c.toNat ∧ c.toNat ≤ 126 := fun c h => ⟨h.1, h.2.1, h.2.2.2.1, h.2.2.2.2.1, h.2.2.2.2.2⟩
 intro c hc
 unfold credB UrlP.credL at hc
 rw [hu, hp] at hc
 split at hc
 ·split at hc
  ·cases hc
  ·simp only [List.mem_append, List.mem_singleton] at hc
   rcases hc with hc | rfl
   ·exact H c (k1 c hc)
   ·decide
 ·simp only [List.mem_append, List.mem_singleton] at hc
  rcases hc with ((hc | rfl) | hc) | rfl
  ·exact H c (k1 c hc)
  ·decide
  ·exact H c (k2 c hc)
  ·decide
theorem pth_join (x : ByteArray) : ∀ r : List ByteArray, UrlP.pth (x :: r) = 47 :: joinL ((x :: r).map (·.data.toList))
 | [] => by simp [UrlP.pth, joinL]
 | y :: r => by
  have ih := pth_join y r
  have e : UrlP.pth (x :: y :: r) = (47 :: x.data.toList) ++ UrlP.pth (y :: r) := rfl
  rw [e, ih]
  rfl
theorem walk_again {sch : List UInt8} {x : ByteArray} {r : List ByteArray} (h : PathOk sch (x :: r)) : walk sch [] (joinL ((x :: r).map (·.data.toList))) = x :: r := by
 have h0 := (h 0 (by simp)).1
 have e : (decide (sch = FILE) && decide ((0 : Nat) = 0)) = (decide (sch = FILE) && ([] : List ByteArray).isEmpty) := by cases decide (sch = FILE) <;> rfl
 rw [e] at h0
 have := rewalk (decide (sch = FILE)) (special sch) (r.map (·.data.toList)) [] x.data.toList h0 (fun z hz => by
  obtain ⟨s, hs, rfl⟩ := List.mem_map.1 hz
  obtain ⟨i, hi, rfl⟩ := List.getElem_of_mem hs
  have := (h (i + 1) (by simpa using hi)).1
  simpa using this)
 unfold walk
 rw [List.map_cons, this, List.nil_append]
 exact map_back (x :: r)
theorem rooted_again {sch : List UInt8} {l : List ByteArray} (h : PathOk sch l) (hn : l ≠ [] ∨ special sch = false) : rooted sch (UrlP.pth l) = l := by
 cases l with
 | nil =>
  rcases hn with hn | hn
  ·exact absurd rfl hn
  ·unfold rooted
   rw [if_pos ⟨rfl, hn⟩]
 | cons x r =>
  rw [pth_join]
  unfold rooted
  rw [if_neg (fun e => by cases e.1)]
  have e : isSl (special sch) (47 :: joinL ((x :: r).map (·.data.toList))) 0 = true := by
   show stp1 (special sch) 47 = true
   cases special sch <;> rfl
  rw [if_pos e, List.drop_one, List.tail_cons]
  exact walk_again h
theorem pth_form (l : List ByteArray) : UrlP.pth l = [] ∨ ∃ t, UrlP.pth l = 47 :: t := by
 cases l with
 | nil => exact .inl rfl
 | cons x r => exact .inr ⟨_, pth_join x r⟩
theorem take_len {A B : List UInt8} : (A ++ B).take A.length = A ∧ (A ++ B).drop A.length = B := by simp
theorem authority_again {u : U} (h : Ok u) (hh : u.hh = true) (ho : u.opq = false) : authority u.sch (credB u ++ u.hst ++ UrlP.portL u.port ++ UrlP.pth u.pth) = (if u.hst = [] ∧ special u.sch = true then none else some { U0 with sch := u.sch, usr := u.usr, pwd := u.pwd, hst := u.hst, hh := true, port := u.port, pth := u.pth }) := by
 obtain ⟨q1, q2, q3, q4⟩ := prt_again (sch := u.sch) h.port
 have hcr := cred_hc u h.usr h.pwd
 have hH : (∀ c ∈ u.hst, HC c) ∧ (∀ D, hap false (u.hst ++ D) = (u.hst ++ (hap false D).1, (hap false D).2.1, (hap false D).2.2)) := by
  rcases h.host hh with ⟨e, _⟩ | ⟨_, hg⟩
  ·rw [e]; exact ⟨fun c hc => (by cases hc), fun D => rfl⟩
  ·exact ⟨(good_chars hg).1, (good_chars hg).2.1⟩
 have hup : upto (special u.sch) (credB u ++ u.hst ++ UrlP.portL u.port ++ UrlP.pth u.pth) = (credB u ++ u.hst ++ UrlP.portL u.port).length := by
  refine upto_at _ _ (pth_form _) _ fun c hc => ?_
  simp only [List.mem_append] at hc
  rcases hc with (hc | hc) | hc
  ·exact hc_stop _ _ (hcr c hc).1 (hcr c hc).2.1
  ·exact hc_stop _ _ (hH.1 c hc).1 (hH.1 c hc).2.1
  ·exact hc_stop _ _ (q3 c hc).1 (q3 c hc).2.1
 obtain ⟨b, hb1, hb2⟩ := cred_again u h.usr h.pwd (u.hst ++ UrlP.portL u.port) fun c hc => by
  rcases List.mem_append.1 hc with hc | hc
  ·exact (hH.1 c hc).2.2.1
  ·exact (q3 c hc).2.2.1
 obtain ⟨hpath, _, hne⟩ := h.path ho
 have hro : rooted u.sch (UrlP.pth u.pth) = u.pth := rooted_again hpath (by
  cases hs : special u.sch
  ·exact .inr rfl
  ·exact .inl (hne (.inr hs)))
 unfold authority
 rw [hup]
 simp only [take_len.1, take_len.2]
 rw [List.append_assoc, hb1]
 simp only
 rw [hH.2, q2, List.append_nil, hro]
 simp only
 rw [q1]
 rcases h.host hh with ⟨e, e1, e2, e3, e4⟩ | ⟨hne2, hg⟩
 ·have b0 : b = false := by
   cases hb : b
   ·rfl
   ·exact absurd ⟨e1, e2⟩ (hb2 hb)
  have p0 : (hap false (UrlP.portL u.port)).2.2 = false := by
   cases hp : (hap false (UrlP.portL u.port)).2.2
   ·rfl
   ·exact absurd e3 (q4 hp)
  rw [b0, p0, if_neg (fun e => by cases e.1), if_neg (fun e => by cases e.1), e]
  cases hs : special u.sch
  ·rw [if_neg (fun e => by cases e.2)]
   rfl
  ·rw [if_pos ⟨rfl, rfl⟩]
   rfl
 ·rw [if_neg (fun e => hne2 (List.append_eq_nil_iff.1 e.2).1), if_neg (fun e => hne2 e.2), if_neg (fun e => hne2 e.1), hg.1]
theorem ext {u v : U} (h0 : u.sch = v.sch) (h1 : u.usr = v.usr) (h2 : u.pwd = v.pwd) (h3 : u.hst = v.hst) (h4 : u.hh = v.hh) (h5 : u.port = v.port) (h6 : u.opq = v.opq) (h7 : u.txt = v.txt) (h8 : u.pth = v.pth) (h9 : u.hq = v.hq) (h10 : u.hf = v.hf) (h11 : u.qry = v.qry) (h12 : u.frg = v.frg) : u = v := by
 cases u; cases v; simp_all
def bareV (u : U) : U := { u with hq := false, hf := false, qry := [], frg := [] }
theorem far_again {u : U} (h : Ok u) (hs : u.sch = FILE) : far (u.hst ++ UrlP.pth u.pth) = some (bareV u) := by
 obtain ⟨f1, f2, f3, f4⟩ := h.file hs
 have hsp : special u.sch = true := by rw [hs]; exact file_sch.2.2
 have hh := h.spec hsp
 have ho := not_opq h hsp
 obtain ⟨hpath, htx, hne⟩ := h.path ho
 have hro : rooted u.sch (UrlP.pth u.pth) = u.pth := rooted_again hpath (.inl (hne (.inr hsp)))
 rw [hs] at hro
 have hg : (∀ c ∈ u.hst, HC c) ∧ drv u.hst = false ∧ (u.hst = [] ∨ (u.hst ≠ [] ∧ hst u.hst true = some u.hst)) := by
  rcases h.host hh with ⟨e, _⟩ | ⟨hn, hg⟩
  ·rw [e]; exact ⟨fun c hc => (by cases hc), rfl, .inl rfl⟩
  ·have := hg.1
   rw [hsp] at this
   exact ⟨(good_chars hg).1, (good_chars hg).2.2, .inr ⟨hn, this⟩⟩
 have hup : upto true (u.hst ++ UrlP.pth u.pth) = u.hst.length := upto_at _ _ (pth_form _) _ fun c hc => hc_stop _ _ (hg.1 c hc).1 (hg.1 c hc).2.1
 unfold far
 rw [hup, take_len.1, take_len.2, hg.2.1, if_neg (by decide), hro]
 rcases hg.2.2 with e | ⟨hn, e⟩
 ·rw [if_pos e]
  congr 1
  exact ext hs.symm f1.symm f2.symm e.symm hh.symm f3.symm ho.symm htx.symm rfl rfl rfl rfl rfl
 ·rw [if_neg hn, e]
  simp only
  rw [if_neg f4]
  congr 1
  exact ext hs.symm f1.symm f2.symm rfl hh.symm f3.symm ho.symm htx.symm rfl rfl rfl rfl rfl
theorem head_hc {c : UInt8} {t : List UInt8} (h : c ≠ 47 ∧ c ≠ 92) : (c :: t).dropWhile (stp1 true) = c :: t := by
 rw [List.dropWhile_cons_of_neg (by rw [hc_stop true c h.1 h.2]; simp)]
theorem sch_ne {u : U} (h : Ok u) : u.sch ≠ [] := by
 intro e
 have := h.sch
 rw [e] at this
 cases this
theorem resolve_again {u : U} (h : Ok u) (q f : List UInt8) (hq hf : Bool) : PrsP.resolve ⟨u.sch, restB u, q, f, hq, hf⟩ none = some (bareV u) := by
 have hsn := sch_ne h
 unfold restB midB UrlP.midL UrlP.pathL
 have hhs : (strOf u.hst).data.toList = u.hst := rfl
 have hts : (strOf u.txt).data.toList = u.txt := rfl
 rw [hhs, hts]
 unfold PrsP.resolve
 simp only
 by_cases hfile : u.sch = FILE
 ·obtain ⟨f1, f2, f3, f4⟩ := h.file hfile
  have hsp : special u.sch = true := by rw [hfile]; exact file_sch.2.2
  have hh := h.spec hsp
  have ho := not_opq h hsp
  have hfa := far_again h hfile
  have hcr : UrlP.credL (strOf u.usr) (strOf u.pwd) = [] := by rw [f1, f2]; rfl
  rw [if_pos hfile, hh, ho, if_pos rfl, if_neg (by decide), hcr, f3, show UrlP.portL (-1) = [] from rfl]
  simp only [List.append_nil, List.cons_append, List.nil_append]
  unfold PrsP.file
  rw [if_pos ⟨rfl, rfl⟩]
  exact hfa
 rw [if_neg hfile]
 by_cases hsp : special u.sch = true
 ·have hh := h.spec hsp
  have ho := not_opq h hsp
  have hau := authority_again h hh ho
  have hst0 : u.hst ≠ [] := by
   rcases h.host hh with ⟨_, _, _, _, e⟩ | ⟨e, _⟩
   ·rcases e with e | e
    ·rw [hsp] at e; cases e
    ·exact absurd e hfile
   ·exact e
  rw [if_neg (fun e => hst0 e.1)] at hau
  rw [if_pos hsp, hh, ho, if_pos rfl, if_neg (by decide)]
  have hd : ([47, 47] ++ UrlP.credL (strOf u.usr) (strOf u.pwd) ++ u.hst ++ UrlP.portL u.port ++ UrlP.pth u.pth).dropWhile (stp1 true) = credB u ++ u.hst ++ UrlP.portL u.port ++ UrlP.pth u.pth := by
   have hcr := cred_hc u h.usr h.pwd
   have hH : ∀ c ∈ u.hst, HC c := by
    rcases h.host hh with ⟨e, _⟩ | ⟨_, hg⟩
    ·exact absurd e hst0
    ·exact (good_chars hg).1
   show ((47 : UInt8) :: 47 :: (credB u ++ u.hst ++ UrlP.portL u.port ++ UrlP.pth u.pth)).dropWhile (stp1 true) = _
   rw [List.dropWhile_cons_of_pos rfl, List.dropWhile_cons_of_pos rfl]
   cases hc : credB u with
   | cons c t => exact head_hc ⟨(hcr c (by rw [hc]; simp)).1, (hcr c (by rw [hc]; simp)).2.1⟩
   | nil =>
    cases hx : u.hst with
    | nil => exact absurd hx hst0
    | cons c t => exact head_hc ⟨(hH c (by rw [hx]; simp)).1, (hH c (by rw [hx]; simp)).2.1⟩
  rw [hd, hau]
  congr 1
  exact ext rfl rfl rfl rfl hh.symm rfl ho.symm (h.path ho).2.1.symm rfl rfl rfl rfl rfl
 have hsp' : special u.sch = false := by simpa using hsp
 rw [if_neg hsp, if_pos hsn]
 unfold PrsP.plain
 simp only
 cases ho : u.opq with
 | true =>
  obtain ⟨_, hh, hp, htx, h47, hsu⟩ := h.opq ho
  obtain ⟨n1, n2, n3, n4⟩ := h.nohost hh
  have e0 : EscE.enc 0 u.txt = u.txt := EscP.enc_fix 0 _ fun c hc => (htx c hc).1
  have hpr : ∀ M : List UInt8, Lib.hasPrefix u.txt (47 :: M) = false := fun M => by
   cases hx : u.txt with
   | nil => rfl
   | cons c t =>
    rw [hx] at h47
    have hc : c ≠ 47 := fun e => h47 (by rw [e]; rfl)
    show ((47 == c) && _) = false
    rw [beq_eq_false_iff_ne.2 (fun e => hc e.symm)]
    rfl
  rw [hh, show UrlP.dotted true u.pth = false from rfl]
  simp only [Bool.false_eq_true, ↓reduceIte, List.nil_append]
  rw [hpr, hpr]
  simp only [Bool.false_eq_true, ↓reduceIte]
  have eo : PrsP.opq (hq || hf) u.txt = u.txt := by
   unfold PrsP.opq
   rw [e0, hsu, if_neg (fun e => by cases e.1)]
  rw [eo]
  congr 1
  exact ext rfl n1.symm n2.symm n4.symm hh.symm n3.symm ho.symm rfl hp.symm rfl rfl rfl rfl
 | false =>
  obtain ⟨hpath, htx, hne⟩ := h.path ho
  cases hh : u.hh with
  | true =>
   have hau := authority_again h hh ho
   rw [if_neg (fun e => hsp e.2)] at hau
   simp only [Bool.false_eq_true, ↓reduceIte]
   have e : ([47, 47] ++ UrlP.credL (strOf u.usr) (strOf u.pwd) ++ u.hst ++ UrlP.portL u.port ++ UrlP.pth u.pth) = 47 :: 47 :: (credB u ++ u.hst ++ UrlP.portL u.port ++ UrlP.pth u.pth) := rfl
   rw [e, if_pos (by simp [Lib.hasPrefix, List.isPrefixOf]), List.drop_succ_cons, List.drop_succ_cons, List.drop_zero, hau]
   congr 1
   exact ext rfl rfl rfl rfl hh.symm rfl ho.symm htx.symm rfl rfl rfl rfl rfl
  | false =>
   obtain ⟨n1, n2, n3, n4⟩ := h.nohost hh
   have hn := hne (.inl hh)
   simp only [Bool.false_eq_true, ↓reduceIte]
   have hcore : ∀ R : List UInt8, Lib.hasPrefix R [47, 47] = false → Lib.hasPrefix R [47] = true → rooted u.sch R = u.pth → (if Lib.hasPrefix R [47, 47] = true then authority u.sch (R.drop 2) else if Lib.hasPrefix R [47] = true then some { U0 with sch := u.sch, port := -1, pth := rooted u.sch R } else some { U0 with sch := u.sch, port := -1, opq := true, txt := PrsP.opq (hq || hf) R }) = some (bareV u) := by
    intro R r1 r2 r3
    rw [r1, if_neg (by decide), r2, if_pos rfl, r3]
    congr 1
    exact ext rfl n1.symm n2.symm n4.symm hh.symm n3.symm ho.symm htx.symm rfl rfl rfl rfl rfl
   apply hcore
   all_goals
    cases hd : UrlP.dotted false u.pth
   ·rw [if_neg (by decide), List.nil_append]
    cases hl : u.pth with
    | nil => exact absurd hl hn
    | cons x r =>
     rw [pth_join]
     have hx := (hpath 0 (by rw [hl]; simp)).1.stops
     simp only [hl, List.getElem_cons_zero] at hx
     cases r with
     | nil =>
      simp only [List.map_cons, List.map_nil, joinL]
      cases hb : x.data.toList with
      | nil => rfl
      | cons c t =>
       have := hx c (by rw [hb]; simp)
       have hc : c ≠ 47 := by
        rintro rfl
        cases hs : special u.sch <;> rw [hs] at this <;> cases this
       simp [Lib.hasPrefix, List.isPrefixOf, Ne.symm hc]
     | cons y r =>
      rw [hl] at hd
      simp only [List.map_cons, joinL]
      cases hb : x.data.toList with
      | nil =>
       unfold UrlP.dotted at hd
       simp [hb] at hd
      | cons c t =>
       have := hx c (by rw [hb]; simp)
       have hc : c ≠ 47 := by
        rintro rfl
        cases hs : special u.sch <;> rw [hs] at this <;> cases this
       simp [Lib.hasPrefix, List.isPrefixOf, Ne.symm hc]
   ·rw [if_pos rfl]
    rfl
   ·rw [if_neg (by decide), List.nil_append]
    cases hl : u.pth with
    | nil => exact absurd hl hn
    | cons x r => rw [pth_join]; rfl
   ·rw [if_pos rfl]
    rfl
   ·rw [if_neg (by decide), List.nil_append]
    exact rooted_again hpath (.inl hn)
   ·rw [if_pos rfl]
    cases hl : u.pth with
    | nil => exact absurd hl hn
    | cons x r =>
     rw [hl] at hpath
     rw [pth_join]
     unfold rooted
     rw [if_neg (fun e => by cases e.1), hsp', if_pos (by rfl)]
     have e1 : (([47, 46] : List UInt8) ++ 47 :: joinL ((x :: r).map fun y : ByteArray => y.data.toList)).drop 1 = [46] ++ 47 :: joinL ((x :: r).map fun y : ByteArray => y.data.toList) := rfl
     have e2 := walk_again hpath
     rw [e1]
     unfold walk at e2 ⊢
     rw [hsp'] at e2 ⊢
     rw [wb_pass _ _ _ [46] [] _ (by decide), List.nil_append, wb, if_pos (show stp1 false 47 = true from rfl)]
     have e3 : stp (decide (u.sch = FILE)) false [] [46] = [] := by
      rw [stp_sgl _ _ _ _ (by decide +kernel) (by decide +kernel)]
      rfl
     rw [e3]
     exact e2
theorem seg_chars (c : UInt8) (h : inS 4 c.toNat = false) : c ≠ 63 ∧ c ≠ 35 ∧ 33 ≤ c.toNat ∧ c.toNat ≤ 126 := byteAll (p := fun c => inS 4 c.toNat = false → c ≠ 63 ∧ c ≠ 35 ∧ 33 ≤ c.toNat ∧ c.toNat ≤ 126) (by decide +kernel) c h
theorem pth_chars {sch : List UInt8} {l : List ByteArray} (h : PathOk sch l) : ∀ c ∈ UrlP.pth l, c ≠ 63 ∧ c ≠ 35 ∧ 33 ≤ c.toNat ∧ c.toNat ≤ 126 := by
 intro c hc
 unfold UrlP.pth at hc
 obtain ⟨s, hs, hm⟩ := List.mem_flatMap.1 hc
 obtain ⟨i, hi, rfl⟩ := List.getElem_of_mem hs
 rcases List.mem_cons.1 hm with rfl | hm
 ·decide
 ·exact seg_chars c ((h i hi).2 c hm)
theorem txt_chars (c : UInt8) (h : inS 0 c.toNat = false) : 32 ≤ c.toNat ∧ c.toNat ≤ 126 := byteAll (p := fun c => inS 0 c.toNat = false → 32 ≤ c.toNat ∧ c.toNat ≤ 126) (by decide +kernel) c h
theorem rest_chars {u : U} (h : Ok u) : (∀ c ∈ restB u, c ≠ 63 ∧ c ≠ 35 ∧ 32 ≤ c.toNat ∧ c.toNat ≤ 126) ∧ Lib.hasSuffix (restB u) [32] = false := by
 have hhs : (strOf u.hst).data.toList = u.hst := rfl
 have hts : (strOf u.txt).data.toList = u.txt := rfl
 cases ho : u.opq with
 | true =>
  obtain ⟨_, hh, hp, htx, h47, hsu⟩ := h.opq ho
  have e : restB u = u.txt := by
   unfold restB midB UrlP.midL UrlP.pathL
   rw [hh, ho]
   rfl
  rw [e]
  exact ⟨fun c hc => ⟨(htx c hc).2.1, (htx c hc).2.2, txt_chars c (htx c hc).1⟩, hsu⟩
 | false =>
  obtain ⟨hpath, htx, hne⟩ := h.path ho
  have hp := pth_chars hpath
  have hall : ∀ c ∈ restB u, c ≠ 63 ∧ c ≠ 35 ∧ 33 ≤ c.toNat ∧ c.toNat ≤ 126 := by
   intro c hc
   unfold restB midB UrlP.midL UrlP.pathL at hc
   rw [ho, hhs, hts] at hc
   simp only [Bool.false_eq_true, ↓reduceIte] at hc
   rcases List.mem_append.1 hc with hc | hc
   ·split at hc
    ·rename_i hh
     simp only [List.mem_append] at hc
     rcases hc with ((hc | hc) | hc) | hc
     ·simp only [List.mem_cons, List.not_mem_nil, or_false, or_self] at hc
      rw [hc]; decide
     ·have := cred_hc u h.usr h.pwd c hc
      exact ⟨this.2.2.1, this.2.2.2.1, this.2.2.2.2⟩
     ·rcases h.host hh with ⟨e, _⟩ | ⟨_, hg⟩
      ·rw [e] at hc; cases hc
      ·have := (good_chars hg).1 c hc
       exact ⟨this.2.2.2.1, this.2.2.2.2.1, this.2.2.2.2.2⟩
     ·have := (prt_again (sch := u.sch) h.port).2.2.1 c hc
      exact ⟨this.2.2.2.1, this.2.2.2.2.1, this.2.2.2.2.2⟩
    ·split at hc
     ·simp only [List.mem_cons, List.not_mem_nil, or_false] at hc
      rcases hc with rfl | rfl <;> decide
     ·cases hc
   ·exact hp c hc
  refine ⟨fun c hc => ⟨(hall c hc).1, (hall c hc).2.1, by have := (hall c hc).2.2.1; omega, (hall c hc).2.2.2⟩, ?_⟩
  cases hx : Lib.hasSuffix (restB u) [32]
  ·rfl
  ·have := (hall 32 (suffix_mem hx)).2.2.1
   revert this
   decide
theorem sch_chars {s : List UInt8} (h : isSch s = true) : (∃ c t, s = c :: t ∧ low32 c = false) ∧ ∀ c ∈ s, c ≠ 58 ∧ c ≠ 63 ∧ c ≠ 35 ∧ 33 ≤ c.toNat ∧ c.toNat ≤ 126 := by
 have H := fun c => byteAll (p := fun c => (letter c.toNat = true → low32 c = false ∧ c ≠ 58 ∧ c ≠ 63 ∧ c ≠ 35 ∧ 33 ≤ c.toNat ∧ c.toNat ≤ 126) ∧ (schC c = true → c ≠ 58 ∧ c ≠ 63 ∧ c ≠ 35 ∧ 33 ≤ c.toNat ∧ c.toNat ≤ 126)) (by decide +kernel) c
 cases s with
 | nil => cases h
 | cons c t =>
  unfold isSch at h
  rw [Bool.and_eq_true] at h
  refine ⟨⟨c, t, rfl, ((H c).1 h.1).1⟩, fun d hd => ?_⟩
  rcases List.mem_cons.1 hd with rfl | hd
  ·exact ((H d).1 h.1).2
  ·exact (H d).2 (List.all_eq_true.1 h.2 d hd)
theorem qf_chars (c : UInt8) : (∀ sp : Bool, inS (if sp = true then 3 else 2) c.toNat = false → c ≠ 35 ∧ 33 ≤ c.toNat ∧ c.toNat ≤ 126) ∧ (inS 1 c.toNat = false → 33 ≤ c.toNat ∧ c.toNat ≤ 126) :=
 byteAll (p := fun c => (∀ sp : Bool, inS (if sp = true then 3 else 2) c.toNat = false → c ≠ 35 ∧ 33 ≤ c.toNat ∧ c.toNat ≤ 126) ∧ (inS 1 c.toNat = false → 33 ≤ c.toNat ∧ c.toNat ≤ 126)) (by decide +kernel) c
theorem clean_plain {T : List UInt8} (h : ∀ c ∈ T, 32 ≤ c.toNat ∧ c.toNat ≤ 126) (h1 : ∃ c t, T = c :: t ∧ low32 c = false) (h2 : Lib.hasSuffix T [32] = false) : clean T = T := by
 have e : ED T = T := ED_ascii T fun c hc => by have := (h c hc).2; omega
 have et : trm T = T := by
  obtain ⟨c, t, rfl, hc⟩ := h1
  unfold trm
  rw [List.dropWhile_cons_of_neg (by rw [hc]; simp)]
  rcases snoc_cases (c :: t) with hx | ⟨M, d, hx⟩
  ·cases hx
  ·rw [hx] at h h2 ⊢
   rw [suffix_snoc, decide_eq_false_iff_not] at h2
   have hd : low32 d = false := by
    have := (h d (by simp)).1
    unfold low32
    rw [decide_eq_false_iff_not]
    intro h3
    exact h2 (UInt8.toNat_inj.1 (by show d.toNat = 32; omega))
   rw [List.reverse_append]
   show ((d :: M.reverse).dropWhile low32).reverse = _
   rw [List.dropWhile_cons_of_neg (by rw [hd]; simp)]
   simp
 rw [clean_ED, e, et, List.filter_eq_self.2 fun c hc => ?_]
 have := (h c hc).1
 unfold brk
 have h9 : c ≠ 9 := by rintro rfl; revert this; decide
 have h10 : c ≠ 10 := by rintro rfl; revert this; decide
 have h13 : c ≠ 13 := by rintro rfl; revert this; decide
 simp [h9, h10, h13]
theorem url_again {u : U} (h : Ok u) : PrsP.url (printU u) none = some u := by
 obtain ⟨hr, hrs⟩ := rest_chars h
 obtain ⟨hs1, hs2⟩ := sch_chars h.sch
 have hq := fun c hc => (qf_chars c).1 (special u.sch) (h.qry c hc)
 have hf := fun c hc => (qf_chars c).2 (h.frg c hc)
 obtain ⟨A, hA⟩ : ∃ A, A = u.sch ++ 58 :: restB u := ⟨_, rfl⟩
 obtain ⟨B, hB⟩ : ∃ B, B = A ++ (if u.hq then 63 :: u.qry else []) := ⟨_, rfl⟩
 have hT : printU u = B ++ (if u.hf then 35 :: u.frg else []) := by
  rw [printU_eq, bareU_eq, hB, hA]
  unfold restB
  simp
 have hAc : ∀ c ∈ A, c ≠ 63 ∧ c ≠ 35 ∧ 32 ≤ c.toNat ∧ c.toNat ≤ 126 := by
  intro c hc
  rw [hA] at hc
  simp only [List.mem_append, List.mem_cons] at hc
  rcases hc with hc | rfl | hc
  ·have := hs2 c hc
   exact ⟨this.2.1, this.2.2.1, by omega, this.2.2.2.2⟩
  ·decide
  ·exact hr c hc
 have hBc : ∀ c ∈ B, c ≠ 35 ∧ 32 ≤ c.toNat ∧ c.toNat ≤ 126 := by
  intro c hc
  rw [hB] at hc
  rcases List.mem_append.1 hc with hc | hc
  ·exact (hAc c hc).2
  ·split at hc
   ·rcases List.mem_cons.1 hc with rfl | hc
    ·decide
    ·have := hq c hc
     exact ⟨this.1, by omega, this.2.2⟩
   ·cases hc
 have hTc : ∀ c ∈ printU u, 32 ≤ c.toNat ∧ c.toNat ≤ 126 := by
  intro c hc
  rw [hT] at hc
  rcases List.mem_append.1 hc with hc | hc
  ·exact (hBc c hc).2
  ·split at hc
   ·rcases List.mem_cons.1 hc with rfl | hc
    ·decide
    ·have := hf c hc
     exact ⟨by omega, this.2⟩
   ·cases hc
 have suf : ∀ (X : List UInt8) (k : UInt8) (Y : List UInt8), k ≠ 32 → (∀ c ∈ Y, c ≠ 32) → Lib.hasSuffix (X ++ k :: Y) [32] = false := by
  intro X k Y hk hY
  rcases snoc_cases (k :: Y) with e | ⟨M, d, e⟩
  ·cases e
  ·rw [e, ← List.append_assoc, suffix_snoc, decide_eq_false_iff_not]
   have : d ∈ k :: Y := by rw [e]; simp
   rcases List.mem_cons.1 this with rfl | hd
   ·exact hk
   ·exact hY d hd
 have hAs : Lib.hasSuffix A [32] = false := by
  rw [hA]
  rcases snoc_cases (restB u) with e | ⟨M, d, e⟩
  ·rw [e]; exact suf _ _ _ (by decide) (fun c hc => by cases hc)
  ·rw [e, suffix_snoc] at hrs
   rw [e, show u.sch ++ 58 :: (M ++ [d]) = (u.sch ++ 58 :: M) ++ [d] from by simp, suffix_snoc]
   exact hrs
 have hBs : Lib.hasSuffix B [32] = false := by
  rw [hB]
  split
  ·exact suf _ _ _ (by decide) fun c hc e => by
    have := (hq c hc).2.1
    rw [e] at this
    revert this
    decide
  ·rw [List.append_nil]; exact hAs
 have hTs : Lib.hasSuffix (printU u) [32] = false := by
  rw [hT]
  split
  ·exact suf _ _ _ (by decide) fun c hc e => by
    have := (hf c hc).1
    rw [e] at this
    revert this
    decide
  ·rw [List.append_nil]; exact hBs
 have hT1 : ∃ c t, printU u = c :: t ∧ low32 c = false := by
  obtain ⟨c, t, e, hc⟩ := hs1
  exact ⟨c, _, by rw [hT, hB, hA, e]; rfl, hc⟩
 have hcl := clean_plain hTc hT1 hTs
 have c35 : cutB 35 (printU u) = (B, u.frg, u.hf) := by
  rw [hT]
  cases hx : u.hf with
  | true => rw [if_pos rfl]; exact cutB_at 35 B u.frg fun c hc => (hBc c hc).1
  | false => rw [if_neg (by decide), List.append_nil, h.nof hx]; exact cutB_none 35 B fun c hc => (hBc c hc).1
 have c63 : cutB 63 B = (A, u.qry, u.hq) := by
  rw [hB]
  cases hx : u.hq with
  | true => rw [if_pos rfl]; exact cutB_at 63 A u.qry fun c hc => (hAc c hc).1
  | false => rw [if_neg (by decide), List.append_nil, h.noq hx]; exact cutB_none 63 A fun c hc => (hAc c hc).1
 have c58 : cutB 58 A = (u.sch, restB u, true) := by
  rw [hA]
  exact cutB_at 58 u.sch _ fun c hc => (hs2 c hc).1
 have hap : PrsP.apart (printU u) = ⟨u.sch, restB u, u.qry, u.frg, u.hq, u.hf⟩ := by
  unfold PrsP.apart
  simp only
  rw [c35]
  simp only
  rw [c63]
  simp only
  rw [c58]
  simp only
  rw [h.sch, if_pos (by rfl), h.low]
 unfold PrsP.url
 rw [hcl, hap, resolve_again h, Option.map_some]
 congr 1
 have e1 : EscE.enc (if special u.sch = true then 3 else 2) u.qry = u.qry := EscP.enc_fix _ _ h.qry
 have e2 : EscE.enc 1 u.frg = u.frg := EscP.enc_fix 1 _ h.frg
 have e3 : EscE.enc (if special (bareV u).sch = true then 3 else 2) u.qry = u.qry := e1
 unfold PrsP.finish
 simp only
 rw [e2, e3]
 have n1 := h.noq
 have n2 := h.nof
 cases hx : u.hq <;> cases hy : u.hf
 ·exact ext rfl rfl rfl rfl rfl rfl rfl rfl rfl hx.symm hy.symm (n1 hx).symm (n2 hy).symm
 ·exact ext rfl rfl rfl rfl rfl rfl rfl rfl rfl hx.symm hy.symm (n1 hx).symm rfl
 ·exact ext rfl rfl rfl rfl rfl rfl rfl rfl rfl hx.symm hy.symm rfl (n2 hy).symm
 ·exact ext rfl rfl rfl rfl rfl rfl rfl rfl rfl hx.symm hy.symm rfl rfl
end Go.Proofs.YtmdofbccebkbiaaGreatDoor.PrsY
