/- Texts that belong together: aaP, xY, PrsU, PrsX, Uo. -/
import Derived.Test.YtcfgioklgmlclaaGreatDoorMO
import Derived.Test.YtcfgioklgmlclaaGreatDoorMG
import Derived.Test.YtcfgioklgmlclaaGreatDoorME
set_option linter.unusedSimpArgs false
set_option linter.unusedVariables false
set_option maxRecDepth 100000
set_option maxHeartbeats 64000000
namespace Go.Proofs.YtcfgioklgmlclaaGreatDoor.aaP
open Go.RowKit Base MX uy xw Uw XZ fE pV xZ pU qM ng zN aH Ym
theorem Sm (x : UInt8) (t : List UInt8) (h : x.toNat ≤ 127) : rd (x :: t) = ((x.toNat : Int), 1, true) := by
 simp only [rd]
 rw [if_pos (by omega)]
theorem YB (x : UInt8) (t : List UInt8) (h : x.toNat ≤ 127) : dec (x :: t) = (x.toNat : Int) :: dec t := by
 rw [gV, Sm x t h]
 rfl
theorem zL (x : UInt8) (b : List UInt8) (hx : x.toNat ≤ 127) : ∀ (m k : Nat) (l h r : Int) (t : List UInt8), 128 ≤ l → tail m k l h r (t ++ x :: b) = tail m k l h r t
 | 0, _, _, _, _, _, _ => by simp [tail]
 | m + 1, k, l, h, r, [], hl => by
  simp only [List.nil_append, tail]
  rw [if_pos (by omega)]
 | m + 1, k, l, h, r, c :: t, hl => by
  simp only [List.cons_append, tail]
  split
  ·rfl
  ·exact zL x b hx m (k + 1) 128 191 _ t (by omega)
theorem lo_ge (c : Int) (h1 : 194 ≤ c) (h2 : c ≤ 244) : 128 ≤ lo c := by unfold lo; (repeat' split) <;> omega
theorem rd_stop (y : UInt8) (t : List UInt8) (x : UInt8) (b : List UInt8) (hx : x.toNat ≤ 127) : rd (y :: t ++ x :: b) = rd (y :: t) := by
 simp only [List.cons_append, rd]
 by_cases h1 : (y.toNat : Int) ≤ 127
 ·rw [if_pos h1, if_pos h1]
 rw [if_neg h1, if_neg h1]
 by_cases h2 : (y.toNat : Int) ≤ 193 ∨ 245 ≤ (y.toNat : Int)
 ·rw [if_pos h2, if_pos h2]
 rw [if_neg h2, if_neg h2]
 have hl := lo_ge (y.toNat : Int) (by omega) (by omega)
 split
 ·exact zL x b hx _ _ _ _ _ _ hl
 split
 ·exact zL x b hx _ _ _ _ _ _ hl
 ·exact zL x b hx _ _ _ _ _ _ hl
theorem H7 (x : UInt8) (b : List UInt8) (hx : x.toNat ≤ 127) : ∀ (n : Nat) (a : List UInt8), a.length ≤ n → dec (a ++ x :: b) = dec a ++ (x.toNat : Int) :: dec b
 | _, [], _ => by rw [List.nil_append, YB x b hx]; rfl
 | 0, _ :: _, h => by simp at h
 | n + 1, y :: t, hl => by
  have hs := lF y t
  have hd : (y :: t ++ x :: b).drop (rd (y :: t)).2.1.toNat = (y :: t).drop (rd (y :: t)).2.1.toNat ++ x :: b := by
   rw [List.drop_append_of_le_length]
   simp only [List.length_cons]; omega
  have e : dec (y :: t ++ x :: b) = (rd (y :: t)).1 :: dec ((y :: t).drop (rd (y :: t)).2.1.toNat ++ x :: b) := by
   rw [List.cons_append, gV, ← List.cons_append, rd_stop y t x b hx, hd]
  rw [e, H7 x b hx n _ (by simp only [List.length_drop, List.length_cons] at hl ⊢; omega), gV y t]
  rfl
theorem YI (x : UInt8) (h : x.toNat ≤ 127) : Lib.encodeRune (x.toNat : Int) = [x] := by
 rw [enc1 _ (by omega) (by omega), u_of]
def ED (L : List UInt8) : List UInt8 := enc (dec L)
theorem oZ (L : List UInt8) : clean L = (nI (ED L)).filter fun c => !brk c := rfl
theorem ug (a : List UInt8) (x : UInt8) (b : List UInt8) (hx : x.toNat ≤ 127) : ED (a ++ x :: b) = ED a ++ x :: ED b := by
 unfold ED
 rw [H7 x b hx _ a (Nat.le_refl _), gY, dW, YI x hx]
 rfl
theorem aap : ED [] = [] := rfl
theorem mM : ∀ L : List UInt8, (∀ c ∈ L, c.toNat ≤ 127) → ED L = L
 | [], _ => rfl
 | x :: t, h => by
  have := ug [] x t (h x (by simp))
  rw [List.nil_append, aap, List.nil_append] at this
  rw [this, mM t (fun c hc => h c (by simp [hc]))]
theorem kJ (b : UInt8) : ∀ L : List UInt8, (∀ c ∈ L, c ≠ b) → dV b L = (L, [], false)
 | [], _ => rfl
 | c :: L, h => by rw [dV, if_neg (h c (by simp)), kJ b L (fun d hd => h d (by simp [hd]))]
theorem oI (b : UInt8) : ∀ (L M : List UInt8), (∀ c ∈ L, c ≠ b) → dV b (L ++ b :: M) = (L, M, true)
 | [], M, _ => by rw [List.nil_append, dV, if_pos rfl]
 | c :: L, M, h => by rw [List.cons_append, dV, if_neg (h c (by simp)), oI b L M (fun d hd => h d (by simp [hd]))]
end Go.Proofs.YtcfgioklgmlclaaGreatDoor.aaP
namespace Go.Proofs.YtcfgioklgmlclaaGreatDoor.xY
open Go.RowKit Base fE pV xZ Us pU qM ng zN aH Ym
def pl (l : List ByteArray) : Nat := (dD.aN l).length
structure Fit (u : U) (N : Nat) : Prop where
 all : u.aj.length + u.usr.length + u.dR.length + u.hst.length + u.txt.length + u.eF.length + u.fG.length + pl u.aN ≤ N
 lo : -1 ≤ u.port
 hi : u.port ≤ 65535
theorem Fit.mono {u : U} {N M : Nat} (h : Fit u N) (hm : N ≤ M) : Fit u M := ⟨Nat.le_trans h.all hm, h.lo, h.hi⟩
theorem I8 : pl [] = 0 := rfl
theorem OI (l : List ByteArray) (s : ByteArray) : pl (l ++ [s]) = pl l + 1 + s.size := by
 unfold pl
 rw [dD.Je, List.length_append, List.length_cons, show s.data.toList.length = s.size from Array.length_toList]
 omega
theorem Xy (l : List ByteArray) (k : Nat) : pl (l.take k) ≤ pl l := by
 unfold pl
 rw [dD.jE, dD.jE, List.length_take]
 have := dD.JD l k
 omega
theorem Vu (f : Bool) (l : List ByteArray) : pl (lG f l) ≤ pl l := by
 unfold lG
 split
 ·exact Nat.le_refl _
 ·exact Xy _ _
theorem wr_len (f : Bool) (L : List UInt8) : (wr f L).length ≤ 3 * L.length + 1 := by
 unfold wr
 split
 ·simp only [List.length_append, List.length_take, List.length_cons, List.length_nil]; omega
 ·have := aJ.iL 4 L; omega
theorem adp (f last : Bool) (l : List ByteArray) (L : List UInt8) : pl (Aj f last l L) ≤ pl l + 3 * L.length + 2 := by
 have h0 : (strOf ([] : List UInt8)).size = 0 := rfl
 have h1 := Vu f l
 unfold Aj
 split
 ·split
  ·rw [OI, h0]; omega
  ·omega
 split
 ·split
  ·rw [OI, h0]; omega
  ·omega
 ·have := wr_len (f && l.isEmpty) L
  rw [OI, ah]
  omega
theorem adq (f sp : Bool) : ∀ (M : List UInt8) (l : List ByteArray) (b : List UInt8), pl (wb f sp l b M) ≤ pl l + 3 * (b.length + M.length) + 2 * (M.length + 1)
 | [], l, b => by
  have := adp f true l b
  unfold wb
  simp only [List.length_nil]
  omega
 | c :: M, l, b => by
  unfold wb
  split
  ·have h1 := adq f sp M (Aj f false l b) []
   have h2 := adp f false l b
   simp only [List.length_nil, List.length_cons] at h1 ⊢
   omega
  ·have h1 := adq f sp M l (b ++ [c])
   simp only [List.length_append, List.length_nil, List.length_cons] at h1 ⊢
   omega
theorem zG (aj : List UInt8) (l : List ByteArray) (s : List UInt8) : pl (walk aj l s) ≤ pl l + 5 * s.length + 2 := by
 have := adq (decide (aj = FILE)) (special aj) s l []
 unfold walk
 simp only [List.length_nil] at this
 omega
theorem uU (aj s : List UInt8) : pl (rooted aj s) ≤ 5 * s.length + 2 := by
 unfold rooted
 split
 ·rw [I8]; omega
 ·have h := zG aj [] (if pq (special aj) s 0 = true then s.drop 1 else s)
  have h2 : (if pq (special aj) s 0 = true then s.drop 1 else s).length ≤ s.length := by
   split
   ·rw [List.length_drop]; omega
   ·exact Nat.le_refl _
  rw [I8] at h
  omega
theorem F8 (b : UInt8) : ∀ L : List UInt8, (dV b L).1.length ≤ L.length ∧ (dV b L).2.1.length ≤ L.length
 | [] => by simp [dV]
 | c :: L => by
  have h := F8 b L
  unfold dV
  split
  ·simp
  ·simp only [List.length_cons]
   omega
theorem C9 (b : UInt8) : ∀ L : List UInt8, (dV b L).1.length + (dV b L).2.1.length ≤ L.length
 | [] => by simp [dV]
 | c :: L => by
  have h := C9 b L
  unfold dV
  split
  ·simp
  ·simp only [List.length_cons]
   omega
theorem IJ : ∀ (L : List UInt8) (p : List UInt8 × List UInt8), lS L = some p → p.1.length + p.2.length + 1 ≤ L.length
 | [], p, h => by cases h
 | c :: L, p, h => by
  unfold lS at h
  split at h
  ·rename_i q hq
   have := IJ L q hq
   cases h
   simp only [List.length_cons]
   omega
  ·split at h
   ·cases h
    simp
   ·cases h
theorem abn (s : List UInt8) : (jh s).1.length + (jh s).2.1.length + 3 * (jh s).2.2.1.length ≤ 3 * s.length := by
 unfold jh
 split
 ·simp
 ·rename_i p hp
  have h1 := IJ s p hp
  have h2 := C9 58 p.1
  have h3 := aJ.iL 5 (dV 58 p.1).1
  have h4 := aJ.iL 5 (dV 58 p.1).2.1
  simp only
  omega
theorem prt_fit {aj d : List UInt8} {z : Int} (h : prt aj d = some z) : -1 ≤ z ∧ z ≤ 65535 := by
 unfold prt at h
 split at h
 ·cases h; omega
 split at h
 ·split at h
  ·cases h; omega
  split at h
  ·cases h; omega
  ·cases h
 ·cases h
theorem oH {aj s : List UInt8} {u : U} {N : Nat} (h : authority aj s = some u) (hN : aj.length + 5 * s.length + 300 ≤ N) : Fit u N := by
 unfold authority at h
 obtain ⟨_, h⟩ := jo h
 obtain ⟨_, h⟩ := jo h
 have hw : (s.take (upto (special aj) s)).length + (s.drop (upto (special aj) s)).length = s.length := by rw [List.length_take, List.length_drop]; omega
 have hc := abn (s.take (upto (special aj) s))
 have hh := tq.zu (jh (s.take (upto (special aj) s))).2.2.1 false
 have hr := uU aj (s.drop (upto (special aj) s))
 split at h
 ·rename_i H p e1 e2
  have h1 := J6.Rn e1
  have h2 := prt_fit e2
  cases h
  refine ⟨?_, h2.1, h2.2⟩
  simp only [U0, List.length_nil]
  omega
 ·cases h
theorem U4 {b : U} {N M : Nat} (hb : Fit b M) (l : List ByteArray) (hl : M + pl l ≤ N) : Fit { aG b with aN := l } N := by
 have := hb.all
 refine ⟨?_, hb.lo, hb.hi⟩
 simp only [aG, U0, List.length_nil]
 omega
theorem yH {b : U} {N M : Nat} (hb : Fit b M) (l : List ByteArray) (hl : M + (pl l - pl b.aN) ≤ N) : Fit { aG b with aN := l } N := by
 have := hb.all
 refine ⟨?_, hb.lo, hb.hi⟩
 simp only [aG, U0, List.length_nil]
 omega
theorem KP {b : U} {M : Nat} (hb : Fit b M) : Fit (along (aG b) b) M := by
 have := hb.all
 refine ⟨?_, hb.lo, hb.hi⟩
 simp only [along, aG, U0, List.length_nil]
 omega
theorem DZ {r : List UInt8} {b u : U} {N M : Nat} (h : relative r b = some u) (hb : Fit b M) (hN : M + 5 * r.length + 300 ≤ N) : Fit u N := by
 have hd := List.length_drop (i := 2) (l := r)
 have hw := (List.dropWhile_sublist (fP true) (l := r.drop 2)).length_le
 unfold relative at h
 split at h
 ·refine oH h ?_
  have := hb.all
  split <;> omega
 ·injection h with h
  subst h
  split
  ·have := uU b.aj r
   exact U4 hb _ (by omega)
  split
  ·exact (KP hb).mono (by omega)
  ·have h1 := zG b.aj (lG false b.aN) r
   have h2 := Vu false b.aN
   exact yH hb _ (by omega)
theorem JJ (l : List ByteArray) {N : Nat} (H : List UInt8) (hl : 4 + pl l + H.length ≤ N) : Fit { uF with hst := H, aN := l } N := by
 refine ⟨?_, ?_, ?_⟩ <;> simp [uF, U0, FILE]
 omega
theorem far_fit {s : List UInt8} {u : U} {N : Nat} (h : far s = some u) (hN : 5 * s.length + 300 ≤ N) : Fit u N := by
 have h1 := uU FILE s
 have h2 := uU FILE (s.drop (upto true s))
 have h3 : (s.take (upto true s)).length + (s.drop (upto true s)).length = s.length := by rw [List.length_take, List.length_drop]; omega
 unfold far at h
 split at h
 ·cases h; exact JJ _ [] (by simp only [List.length_nil]; omega)
 split at h
 ·cases h; exact JJ _ [] (by simp only [List.length_nil]; omega)
 split at h
 ·cases h
 ·rename_i H e
  have h5 := J6.Rn e
  cases h
  refine JJ _ _ ?_
  split
  ·simp only [List.length_nil]; omega
  ·omega
theorem Q5 {r : List UInt8} {base : Option U} {u : U} {N M : Nat} (h : file r base = some u) (hb : ∀ b, base = some b → Fit b M) (hN : M + 5 * r.length + 300 ≤ N) : Fit u N := by
 unfold file at h
 split at h
 ·refine far_fit h ?_
  rw [List.length_drop]; omega
 split at h
 ·injection h with h
  subst h
  have h1 : ∀ (q : Prop) [Decidable q] (x : List ByteArray), pl (if q then x.take 1 else []) ≤ pl x := by
   intro q _ x
   split
   ·exact Xy _ _
   ·rw [I8]; omega
  have hd := List.length_drop (i := 1) (l := r)
  cases base with
  | none =>
   have h2 := zG FILE (if nrm ((Option.elim none [] U.aN).head?.elim [] fun x => x.data.toList) = true ∧ Fp (r.drop 1) = false then (Option.elim none [] U.aN).take 1 else []) (r.drop 1)
   have h3 := h1 (nrm ((Option.elim none [] U.aN).head?.elim [] fun x => x.data.toList) = true ∧ Fp (r.drop 1) = false) (Option.elim none [] U.aN)
   have h4 : pl (Option.elim none [] U.aN) = 0 := rfl
   exact JJ _ [] (by simp only [List.length_nil]; omega)
  | some b =>
   have hb := hb b rfl
   have h2 := zG FILE (if nrm ((Option.elim (some b) [] U.aN).head?.elim [] fun x => x.data.toList) = true ∧ Fp (r.drop 1) = false then (Option.elim (some b) [] U.aN).take 1 else []) (r.drop 1)
   have h3 := h1 (nrm ((Option.elim (some b) [] U.aN).head?.elim [] fun x => x.data.toList) = true ∧ Fp (r.drop 1) = false) (Option.elim (some b) [] U.aN)
   have h4 : pl (Option.elim (some b) [] U.aN) = pl b.aN := rfl
   exact yH hb _ (by omega)
 ·split at h
  ·injection h with h
   subst h
   have h1 : pl (if Fp r = true then [] else lG true []) = 0 := by split <;> rfl
   have h2 := zG FILE (if Fp r = true then [] else lG true []) r
   exact JJ _ [] (by simp only [List.length_nil]; omega)
  ·rename_i b
   have hb := hb b rfl
   split at h
   ·injection h with h
    subst h
    exact (KP hb).mono (by omega)
   ·injection h with h
    subst h
    have h1 : pl (if Fp r = true then [] else lG true b.aN) ≤ pl b.aN := by
     split
     ·rw [I8]; omega
     ·exact Vu _ _
    have h2 := zG FILE (if Fp r = true then [] else lG true b.aN) r
    exact yH hb _ (by omega)
theorem opq_len (m : Bool) (s : List UInt8) : (aH.opq m s).length ≤ 3 * s.length + 3 := by
 have h := aJ.iL 0 s
 unfold aH.opq Lib.trimSuffix
 split
 ·rw [List.length_append]
  split
  ·rw [List.length_take]; simp only [List.length_cons, List.length_nil]; omega
  ·simp only [List.length_cons, List.length_nil]; omega
 ·omega
theorem Zu {p : Parts} {u : U} {N : Nat} (h : aH.plain p = some u) (hN : p.aj.length + 5 * p.rest.length + 300 ≤ N) : Fit u N := by
 have hd := List.length_drop (i := 2) (l := p.rest)
 unfold aH.plain at h
 split at h
 ·exact oH h (by omega)
 split at h
 ·injection h with h
  subst h
  have h1 := uU p.aj p.rest
  refine ⟨?_, ?_, ?_⟩ <;> simp [U0]
  omega
 ·injection h with h
  subst h
  have h1 := opq_len (p.hq || p.hf) p.rest
  refine ⟨?_, ?_, ?_⟩ <;> simp [U0, I8]
  omega
theorem Sz {p : Parts} {base : Option U} {u : U} {N M : Nat} (h : aH.resolve p base = some u) (hb : ∀ b, base = some b → Fit b M) (hN : M + p.aj.length + 5 * p.rest.length + 300 ≤ N) : Fit u N := by
 have hw := (List.dropWhile_sublist (fP true) (l := p.rest)).length_le
 unfold aH.resolve at h
 split at h
 ·refine Q5 h (fun b e => hb b ?_) (by omega)
  cases base with
  | none => cases e
  | some c =>
   simp only [Option.filter] at e
   split at e
   ·exact e
   ·cases e
 split at h
 ·split at h
  ·split at h
   ·exact DZ h (hb _ rfl) (by omega)
   ·exact oH h (by omega)
  ·exact oH h (by omega)
 split at h
 ·exact Zu h (by omega)
 split at h
 ·cases h
 ·rename_i b
  have hb1 := hb b rfl
  split at h
  ·unfold pz at h
   obtain ⟨_, h⟩ := jo h
   injection h with h
   subst h
   exact hb1.mono (by omega)
  split at h
  ·exact Q5 h (fun c e => by injection e with e; subst e; exact hb1) (by omega)
  ·exact DZ h hb1 (by omega)
theorem UQ {u : U} {p : Parts} {N M : Nat} (h : Fit u M) (hN : M + 3 * p.eF.length + 3 * p.fG.length ≤ N) : Fit (finish u p) N := by
 have h1 := aJ.iL (if special u.aj = true then 3 else 2) p.eF
 have h2 := aJ.iL 1 p.fG
 obtain ⟨a, b, c⟩ := h
 unfold finish
 cases p.hq <;> cases p.hf <;> refine ⟨?_, ?_, ?_⟩ <;> simp only [if_true, if_false, Bool.false_eq_true] <;> first | assumption | omega
theorem Yr (C : List UInt8) : (aH.apart C).aj.length + (aH.apart C).rest.length + (aH.apart C).eF.length + (aH.apart C).fG.length ≤ C.length := by
 have h1 := C9 35 C
 have h2 := C9 63 (dV 35 C).1
 have h3 := C9 58 (dV 63 (dV 35 C).1).1
 unfold aH.apart
 simp only
 split
 ·simp only [lower, List.length_map]; omega
 ·simp only [List.length_nil]; omega
theorem XY {s : List UInt8} {base : Option U} {u : U} {M : Nat} (h : aH.url s base = some u) (hb : ∀ b, base = some b → Fit b M) : Fit u (M + 15 * s.length + 300) := by
 have h1 := XZ.zq s
 have h2 := Yr (clean s)
 unfold aH.url at h
 obtain ⟨v, hv, rfl⟩ := Option.map_eq_some_iff.1 h
 exact UQ (Sz (N := M + (aH.apart (clean s)).aj.length + 5 * (aH.apart (clean s)).rest.length + 300) hv hb (Nat.le_refl _)) (by omega)
end Go.Proofs.YtcfgioklgmlclaaGreatDoor.xY
namespace Go.Proofs.YtcfgioklgmlclaaGreatDoor.Uo
open Go.RowKit Base eX fE nO tC QA aaW pV xZ Us pU qM ng zN Qu J6 aH Ym aaP MX
def Kw (u : U) : List UInt8 := dD.kF (strOf u.usr) (strOf u.dR) (strOf u.hst) u.hh u.port u.opq u.aN
def lU (u : U) : List UInt8 := dD.uG (strOf u.aj) (strOf u.usr) (strOf u.dR) (strOf u.hst) u.hh u.port u.opq (strOf u.txt) u.aN u.hq (strOf u.eF)
theorem CS (u : U) : lU u = u.aj ++ [58] ++ Kw u ++ dD.lq u.opq (strOf u.txt) u.aN ++ (if u.hq then 63 :: u.eF else []) := rfl
def HC (c : UInt8) : Prop := c ≠ 47 ∧ c ≠ 92 ∧ c ≠ 64 ∧ c ≠ 63 ∧ c ≠ 35 ∧ 33 ≤ c.toNat ∧ c.toNat ≤ 126
instance (c : UInt8) : Decidable (HC c) := by unfold HC; exact inferInstance
end Go.Proofs.YtcfgioklgmlclaaGreatDoor.Uo
