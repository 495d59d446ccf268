/- Texts that belong together: PrsT, rG, PrsU, PrsX, Ot. -/
import Derived.Test.YtmdofbccebkbiaaGreatDoorMO
import Derived.Test.YtmdofbccebkbiaaGreatDoorMG
import Derived.Test.YtmdofbccebkbiaaGreatDoorME
set_option linter.unusedSimpArgs false
set_option linter.unusedVariables false
set_option maxRecDepth 100000
set_option maxHeartbeats 64000000
namespace Go.Proofs.YtmdofbccebkbiaaGreatDoor.PrsT
open Go.RowKit Base zN qK wU VU VB iT kX xK pR oW mY uY aI VO
theorem P9 (x : UInt8) (t : List UInt8) (h : x.toNat ≤ 127) : rd (x :: t) = ((x.toNat : Int), 1, true) := by
 simp only [rd]
 rw [if_pos (by omega)]
theorem V9 (x : UInt8) (t : List UInt8) (h : x.toNat ≤ 127) : dec (x :: t) = (x.toNat : Int) :: dec t := by
 rw [gq, P9 x t h]
 rfl
theorem zK (x : UInt8) (b : List UInt8) (hx : x.toNat ≤ 127) : ∀ (m k : Nat) (l h r : Int) (t : List UInt8), 128 ≤ l → tail m k l h r (t ++ x :: b) = tail m k l h r t
 | 0, _, _, _, _, _, _ => by simp [tail]
 | m + 1, k, l, h, r, [], hl => by
  simp only [List.nil_append, tail]
  rw [if_pos (by omega)]
 | m + 1, k, l, h, r, c :: t, hl => by
  simp only [List.cons_append, tail]
  split
  ·rfl
  ·exact zK x b hx m (k + 1) 128 191 _ t (by omega)
theorem lo_ge (c : Int) (h1 : 194 ≤ c) (h2 : c ≤ 244) : 128 ≤ lo c := by unfold lo; (repeat' split) <;> omega
theorem rd_stop (y : UInt8) (t : List UInt8) (x : UInt8) (b : List UInt8) (hx : x.toNat ≤ 127) : rd (y :: t ++ x :: b) = rd (y :: t) := by
 simp only [List.cons_append, rd]
 by_cases h1 : (y.toNat : Int) ≤ 127
 ·rw [if_pos h1, if_pos h1]
 rw [if_neg h1, if_neg h1]
 by_cases h2 : (y.toNat : Int) ≤ 193 ∨ 245 ≤ (y.toNat : Int)
 ·rw [if_pos h2, if_pos h2]
 rw [if_neg h2, if_neg h2]
 have hl := lo_ge (y.toNat : Int) (by omega) (by omega)
 split
 ·exact zK x b hx _ _ _ _ _ _ hl
 split
 ·exact zK x b hx _ _ _ _ _ _ hl
 ·exact zK x b hx _ _ _ _ _ _ hl
theorem Hl (x : UInt8) (b : List UInt8) (hx : x.toNat ≤ 127) : ∀ (n : Nat) (a : List UInt8), a.length ≤ n → dec (a ++ x :: b) = dec a ++ (x.toNat : Int) :: dec b
 | _, [], _ => by rw [List.nil_append, V9 x b hx]; rfl
 | 0, _ :: _, h => by simp at h
 | n + 1, y :: t, hl => by
  have hs := nG y t
  have hd : (y :: t ++ x :: b).drop (rd (y :: t)).2.1.toNat = (y :: t).drop (rd (y :: t)).2.1.toNat ++ x :: b := by
   rw [List.drop_append_of_le_length]
   simp only [List.length_cons]; omega
  have e : dec (y :: t ++ x :: b) = (rd (y :: t)).1 :: dec ((y :: t).drop (rd (y :: t)).2.1.toNat ++ x :: b) := by
   rw [List.cons_append, gq, ← List.cons_append, rd_stop y t x b hx, hd]
  rw [e, Hl x b hx n _ (by simp only [List.length_drop, List.length_cons] at hl ⊢; omega), gq y t]
  rfl
theorem Wp (x : UInt8) (h : x.toNat ≤ 127) : Lib.encodeRune (x.toNat : Int) = [x] := by
 rw [enc1 _ (by omega) (by omega), u_of]
def ED (L : List UInt8) : List UInt8 := enc (dec L)
theorem qL (L : List UInt8) : clean L = (AB (ED L)).filter fun c => !brk c := rfl
theorem sZ (a : List UInt8) (x : UInt8) (b : List UInt8) (hx : x.toNat ≤ 127) : ED (a ++ x :: b) = ED a ++ x :: ED b := by
 unfold ED
 rw [Hl x b hx _ a (Nat.le_refl _), gG, dO, Wp x hx]
 rfl
theorem XJ : ED [] = [] := rfl
theorem oO : ∀ L : List UInt8, (∀ c ∈ L, c.toNat ≤ 127) → ED L = L
 | [], _ => rfl
 | x :: t, h => by
  have := sZ [] x t (h x (by simp))
  rw [List.nil_append, XJ, List.nil_append] at this
  rw [this, oO t (fun c hc => h c (by simp [hc]))]
theorem nY (b : UInt8) : ∀ L : List UInt8, (∀ c ∈ L, c ≠ b) → fB b L = (L, [], false)
 | [], _ => rfl
 | c :: L, h => by rw [fB, if_neg (h c (by simp)), nY b L (fun d hd => h d (by simp [hd]))]
theorem vG (b : UInt8) : ∀ (L M : List UInt8), (∀ c ∈ L, c ≠ b) → fB b (L ++ b :: M) = (L, M, true)
 | [], M, _ => by rw [List.nil_append, fB, if_pos rfl]
 | c :: L, M, h => by rw [List.cons_append, fB, if_neg (h c (by simp)), vG b L M (fun d hd => h d (by simp [hd]))]
end Go.Proofs.YtmdofbccebkbiaaGreatDoor.PrsT
namespace Go.Proofs.YtmdofbccebkbiaaGreatDoor.rG
open Go.RowKit Base iT kX xK Mc pR oW mY uY aI VO
def pl (l : List ByteArray) : Nat := (bQ.aF l).length
structure Fit (u : U) (N : Nat) : Prop where
 all : u.au.length + u.usr.length + u.dR.length + u.hst.length + u.txt.length + u.eu.length + u.fH.length + pl u.aF ≤ N
 lo : -1 ≤ u.port
 hi : u.port ≤ 65535
theorem Fit.mono {u : U} {N M : Nat} (h : Fit u N) (hm : N ≤ M) : Fit u M := ⟨Nat.le_trans h.all hm, h.lo, h.hi⟩
theorem IJ : pl [] = 0 := rfl
theorem Nr (l : List ByteArray) (s : ByteArray) : pl (l ++ [s]) = pl l + 1 + s.size := by
 unfold pl
 rw [bQ.IU, List.length_append, List.length_cons, show s.data.toList.length = s.size from Array.length_toList]
 omega
theorem Va (l : List ByteArray) (k : Nat) : pl (l.take k) ≤ pl l := by
 unfold pl
 rw [bQ.bP, bQ.bP, List.length_take]
 have := bQ.jD l k
 omega
theorem Ti (f : Bool) (l : List ByteArray) : pl (kK f l) ≤ pl l := by
 unfold kK
 split
 ·exact Nat.le_refl _
 ·exact Va _ _
theorem wr_len (f : Bool) (L : List UInt8) : (wr f L).length ≤ 3 * L.length + 1 := by
 unfold wr
 split
 ·simp only [List.length_append, List.length_take, List.length_cons, List.length_nil]; omega
 ·have := aH.iG 4 L; omega
theorem ZX (f last : Bool) (l : List ByteArray) (L : List UInt8) : pl (AA f last l L) ≤ pl l + 3 * L.length + 2 := by
 have h0 : (strOf ([] : List UInt8)).size = 0 := rfl
 have h1 := Ti f l
 unfold AA
 split
 ·split
  ·rw [Nr, h0]; omega
  ·omega
 split
 ·split
  ·rw [Nr, h0]; omega
  ·omega
 ·have := wr_len (f && l.isEmpty) L
  rw [Nr, ah]
  omega
theorem ZY (f sp : Bool) : ∀ (M : List UInt8) (l : List ByteArray) (b : List UInt8), pl (wb f sp l b M) ≤ pl l + 3 * (b.length + M.length) + 2 * (M.length + 1)
 | [], l, b => by
  have := ZX f true l b
  unfold wb
  simp only [List.length_nil]
  omega
 | c :: M, l, b => by
  unfold wb
  split
  ·have h1 := ZY f sp M (AA f false l b) []
   have h2 := ZX f false l b
   simp only [List.length_nil, List.length_cons] at h1 ⊢
   omega
  ·have h1 := ZY f sp M l (b ++ [c])
   simp only [List.length_append, List.length_nil, List.length_cons] at h1 ⊢
   omega
theorem zI (au : List UInt8) (l : List ByteArray) (s : List UInt8) : pl (walk au l s) ≤ pl l + 5 * s.length + 2 := by
 have := ZY (decide (au = FILE)) (special au) s l []
 unfold walk
 simp only [List.length_nil] at this
 omega
theorem uI (au s : List UInt8) : pl (rooted au s) ≤ 5 * s.length + 2 := by
 unfold rooted
 split
 ·rw [IJ]; omega
 ·have h := zI au [] (if pq (special au) s 0 = true then s.drop 1 else s)
  have h2 : (if pq (special au) s 0 = true then s.drop 1 else s).length ≤ s.length := by
   split
   ·rw [List.length_drop]; omega
   ·exact Nat.le_refl _
  rw [IJ] at h
  omega
theorem CO (b : UInt8) : ∀ L : List UInt8, (fB b L).1.length + (fB b L).2.1.length ≤ L.length
 | [] => by simp [fB]
 | c :: L => by
  have h := CO b L
  unfold fB
  split
  ·simp
  ·simp only [List.length_cons]
   omega
theorem Il : ∀ (L : List UInt8) (p : List UInt8 × List UInt8), lM L = some p → p.1.length + p.2.length + 1 ≤ L.length
 | [], p, h => by cases h
 | c :: L, p, h => by
  unfold lM at h
  split at h
  ·rename_i q hq
   have := Il L q hq
   cases h
   simp only [List.length_cons]
   omega
  ·split at h
   ·cases h
    simp
   ·cases h
theorem YC (s : List UInt8) : (je s).1.length + (je s).2.1.length + 3 * (je s).2.2.1.length ≤ 3 * s.length := by
 unfold je
 split
 ·simp
 ·rename_i p hp
  have h1 := Il s p hp
  have h2 := CO 58 p.1
  have h3 := aH.iG 5 (fB 58 p.1).1
  have h4 := aH.iG 5 (fB 58 p.1).2.1
  simp only
  omega
theorem prt_fit {au d : List UInt8} {z : Int} (h : prt au d = some z) : -1 ≤ z ∧ z ≤ 65535 := by
 unfold prt at h
 split at h
 ·cases h; omega
 split at h
 ·split at h
  ·cases h; omega
  split at h
  ·cases h; omega
  ·cases h
 ·cases h
theorem oH {au s : List UInt8} {u : U} {N : Nat} (h : authority au s = some u) (hN : au.length + 5 * s.length + 300 ≤ N) : Fit u N := by
 unfold authority at h
 obtain ⟨_, h⟩ := jm h
 obtain ⟨_, h⟩ := jm h
 have hw : (s.take (upto (special au) s)).length + (s.drop (upto (special au) s)).length = s.length := by rw [List.length_take, List.length_drop]; omega
 have hc := YC (s.take (upto (special au) s))
 have hh := sJ.zC (je (s.take (upto (special au) s))).2.2.1 false
 have hr := uI au (s.drop (upto (special au) s))
 split at h
 ·rename_i H p e1 e2
  have h1 := FQ.Ph e1
  have h2 := prt_fit e2
  cases h
  refine ⟨?_, h2.1, h2.2⟩
  simp only [U0, List.length_nil]
  omega
 ·cases h
theorem Sm {b : U} {N M : Nat} (hb : Fit b M) (l : List ByteArray) (hl : M + pl l ≤ N) : Fit { aC b with aF := l } N := by
 have := hb.all
 refine ⟨?_, hb.lo, hb.hi⟩
 simp only [aC, U0, List.length_nil]
 omega
theorem yw {b : U} {N M : Nat} (hb : Fit b M) (l : List ByteArray) (hl : M + (pl l - pl b.aF) ≤ N) : Fit { aC b with aF := l } N := by
 have := hb.all
 refine ⟨?_, hb.lo, hb.hi⟩
 simp only [aC, U0, List.length_nil]
 omega
theorem J6 {b : U} {M : Nat} (hb : Fit b M) : Fit (along (aC b) b) M := by
 have := hb.all
 refine ⟨?_, hb.lo, hb.hi⟩
 simp only [along, aC, U0, List.length_nil]
 omega
theorem DN {r : List UInt8} {b u : U} {N M : Nat} (h : relative r b = some u) (hb : Fit b M) (hN : M + 5 * r.length + 300 ≤ N) : Fit u N := by
 have hd := List.length_drop (i := 2) (l := r)
 have hw := (List.dropWhile_sublist (eY true) (l := r.drop 2)).length_le
 unfold relative at h
 split at h
 ·refine oH h ?_
  have := hb.all
  split <;> omega
 ·injection h with h
  subst h
  split
  ·have := uI b.au r
   exact Sm hb _ (by omega)
  split
  ·exact (J6 hb).mono (by omega)
  ·have h1 := zI b.au (kK false b.aF) r
   have h2 := Ti false b.aF
   exact yw hb _ (by omega)
theorem Jm (l : List ByteArray) {N : Nat} (H : List UInt8) (hl : 4 + pl l + H.length ≤ N) : Fit { uF with hst := H, aF := l } N := by
 refine ⟨?_, ?_, ?_⟩ <;> simp [uF, U0, FILE]
 omega
theorem far_fit {s : List UInt8} {u : U} {N : Nat} (h : far s = some u) (hN : 5 * s.length + 300 ≤ N) : Fit u N := by
 have h1 := uI FILE s
 have h2 := uI FILE (s.drop (upto true s))
 have h3 : (s.take (upto true s)).length + (s.drop (upto true s)).length = s.length := by rw [List.length_take, List.length_drop]; omega
 unfold far at h
 split at h
 ·cases h; exact Jm _ [] (by simp only [List.length_nil]; omega)
 split at h
 ·cases h; exact Jm _ [] (by simp only [List.length_nil]; omega)
 split at h
 ·cases h
 ·rename_i H e
  have h5 := FQ.Ph e
  cases h
  refine Jm _ _ ?_
  split
  ·simp only [List.length_nil]; omega
  ·omega
theorem OZ {r : List UInt8} {base : Option U} {u : U} {N M : Nat} (h : file r base = some u) (hb : ∀ b, base = some b → Fit b M) (hN : M + 5 * r.length + 300 ≤ N) : Fit u N := by
 unfold file at h
 split at h
 ·refine far_fit h ?_
  rw [List.length_drop]; omega
 split at h
 ·injection h with h
  subst h
  have h1 : ∀ (q : Prop) [Decidable q] (x : List ByteArray), pl (if q then x.take 1 else []) ≤ pl x := by
   intro q _ x
   split
   ·exact Va _ _
   ·rw [IJ]; omega
  have hd := List.length_drop (i := 1) (l := r)
  cases base with
  | none =>
   have h2 := zI FILE (if nrm ((Option.elim none [] U.aF).head?.elim [] fun x => x.data.toList) = true ∧ D8 (r.drop 1) = false then (Option.elim none [] U.aF).take 1 else []) (r.drop 1)
   have h3 := h1 (nrm ((Option.elim none [] U.aF).head?.elim [] fun x => x.data.toList) = true ∧ D8 (r.drop 1) = false) (Option.elim none [] U.aF)
   have h4 : pl (Option.elim none [] U.aF) = 0 := rfl
   exact Jm _ [] (by simp only [List.length_nil]; omega)
  | some b =>
   have hb := hb b rfl
   have h2 := zI FILE (if nrm ((Option.elim (some b) [] U.aF).head?.elim [] fun x => x.data.toList) = true ∧ D8 (r.drop 1) = false then (Option.elim (some b) [] U.aF).take 1 else []) (r.drop 1)
   have h3 := h1 (nrm ((Option.elim (some b) [] U.aF).head?.elim [] fun x => x.data.toList) = true ∧ D8 (r.drop 1) = false) (Option.elim (some b) [] U.aF)
   have h4 : pl (Option.elim (some b) [] U.aF) = pl b.aF := rfl
   exact yw hb _ (by omega)
 ·split at h
  ·injection h with h
   subst h
   have h1 : pl (if D8 r = true then [] else kK true []) = 0 := by split <;> rfl
   have h2 := zI FILE (if D8 r = true then [] else kK true []) r
   exact Jm _ [] (by simp only [List.length_nil]; omega)
  ·rename_i b
   have hb := hb b rfl
   split at h
   ·injection h with h
    subst h
    exact (J6 hb).mono (by omega)
   ·injection h with h
    subst h
    have h1 : pl (if D8 r = true then [] else kK true b.aF) ≤ pl b.aF := by
     split
     ·rw [IJ]; omega
     ·exact Ti _ _
    have h2 := zI FILE (if D8 r = true then [] else kK true b.aF) r
    exact yw hb _ (by omega)
theorem opq_len (m : Bool) (s : List UInt8) : (aI.opq m s).length ≤ 3 * s.length + 3 := by
 have h := aH.iG 0 s
 unfold aI.opq Lib.trimSuffix
 split
 ·rw [List.length_append]
  split
  ·rw [List.length_take]; simp only [List.length_cons, List.length_nil]; omega
  ·simp only [List.length_cons, List.length_nil]; omega
 ·omega
theorem WZ {p : Parts} {u : U} {N : Nat} (h : aI.plain p = some u) (hN : p.au.length + 5 * p.rest.length + 300 ≤ N) : Fit u N := by
 have hd := List.length_drop (i := 2) (l := p.rest)
 unfold aI.plain at h
 split at h
 ·exact oH h (by omega)
 split at h
 ·injection h with h
  subst h
  have h1 := uI p.au p.rest
  refine ⟨?_, ?_, ?_⟩ <;> simp [U0]
  omega
 ·injection h with h
  subst h
  have h1 := opq_len (p.hq || p.hf) p.rest
  refine ⟨?_, ?_, ?_⟩ <;> simp [U0, IJ]
  omega
theorem Qc {p : Parts} {base : Option U} {u : U} {N M : Nat} (h : aI.resolve p base = some u) (hb : ∀ b, base = some b → Fit b M) (hN : M + p.au.length + 5 * p.rest.length + 300 ≤ N) : Fit u N := by
 have hw := (List.dropWhile_sublist (eY true) (l := p.rest)).length_le
 unfold aI.resolve at h
 split at h
 ·refine OZ h (fun b e => hb b ?_) (by omega)
  cases base with
  | none => cases e
  | some c =>
   simp only [Option.filter] at e
   split at e
   ·exact e
   ·cases e
 split at h
 ·split at h
  ·split at h
   ·exact DN h (hb _ rfl) (by omega)
   ·exact oH h (by omega)
  ·exact oH h (by omega)
 split at h
 ·exact WZ h (by omega)
 split at h
 ·cases h
 ·rename_i b
  have hb1 := hb b rfl
  split at h
  ·unfold pG at h
   obtain ⟨_, h⟩ := jm h
   injection h with h
   subst h
   exact hb1.mono (by omega)
  split at h
  ·exact OZ h (fun c e => by injection e with e; subst e; exact hb1) (by omega)
  ·exact DN h hb1 (by omega)
theorem RP {u : U} {p : Parts} {N M : Nat} (h : Fit u M) (hN : M + 3 * p.eu.length + 3 * p.fH.length ≤ N) : Fit (finish u p) N := by
 have h1 := aH.iG (if special u.au = true then 3 else 2) p.eu
 have h2 := aH.iG 1 p.fH
 obtain ⟨a, b, c⟩ := h
 unfold finish
 cases p.hq <;> cases p.hf <;> refine ⟨?_, ?_, ?_⟩ <;> simp only [if_true, if_false, Bool.false_eq_true] <;> first | assumption | omega
theorem VZ (C : List UInt8) : (aI.apart C).au.length + (aI.apart C).rest.length + (aI.apart C).eu.length + (aI.apart C).fH.length ≤ C.length := by
 have h1 := CO 35 C
 have h2 := CO 63 (fB 35 C).1
 have h3 := CO 58 (fB 63 (fB 35 C).1).1
 unfold aI.apart
 simp only
 split
 ·simp only [lower, List.length_map]; omega
 ·simp only [List.length_nil]; omega
theorem NT {s : List UInt8} {base : Option U} {u : U} {M : Nat} (h : aI.url s base = some u) (hb : ∀ b, base = some b → Fit b M) : Fit u (M + 15 * s.length + 300) := by
 have h1 := VB.zx s
 have h2 := VZ (clean s)
 unfold aI.url at h
 obtain ⟨v, hv, rfl⟩ := Option.map_eq_some_iff.1 h
 exact RP (Qc (N := M + (aI.apart (clean s)).au.length + 5 * (aI.apart (clean s)).rest.length + 300) hv hb (Nat.le_refl _)) (by omega)
end Go.Proofs.YtmdofbccebkbiaaGreatDoor.rG
namespace Go.Proofs.YtmdofbccebkbiaaGreatDoor.PrsU
open Go.RowKit Base qK wU iT kX xK pR oW mY uY aI VO PrsT
theorem Jh {L : List UInt8} {c : UInt8} (h : Lib.hasSuffix L [c] = true) : c ∈ L := by
 unfold Lib.hasSuffix at h
 have := List.isSuffixOf_iff_suffix.1 h
 exact this.subset (by simp)
end Go.Proofs.YtmdofbccebkbiaaGreatDoor.PrsU
namespace Go.Proofs.YtmdofbccebkbiaaGreatDoor.PrsX
open Go.RowKit Base dM iT kX xK Mc pR oW Rf mY uY FQ aI VO PrsT PrsU zN
def Seg (au : List UInt8) (i : Nat) (x : List UInt8) : Prop := Rf.At (decide (au = FILE) && decide (i = 0)) (special au) x ∧ ∀ c ∈ x, iU 4 c.toNat = false
def jI (au : List UInt8) (l : List ByteArray) : Prop := Rf.All (Seg au) l
structure Ok (u : U) : Prop where
 au : lW u.au = true
 low : lower u.au = u.au
 opq : u.opq = true → special u.au = false ∧ u.hh = false ∧ u.aF = [] ∧ (∀ c ∈ u.txt, iU 0 c.toNat = false ∧ c ≠ 63 ∧ c ≠ 35) ∧ u.txt.head? ≠ some 47 ∧ Lib.hasSuffix u.txt [32] = false
 path : u.opq = false → jI u.au u.aF ∧ u.txt = [] ∧ (u.hh = false ∨ special u.au = true → u.aF ≠ [])
 spec : special u.au = true → u.hh = true
 Np : u.hh = false → u.usr = [] ∧ u.dR = [] ∧ u.port = -1 ∧ u.hst = []
 usr : ∀ c ∈ u.usr, iU 5 c.toNat = false
 dR : ∀ c ∈ u.dR, iU 5 c.toNat = false
 host : u.hh = true → (u.hst = [] ∧ u.usr = [] ∧ u.dR = [] ∧ u.port = -1 ∧ (special u.au = false ∨ u.au = FILE)) ∨ (u.hst ≠ [] ∧ FQ.Good (special u.au) u.hst)
 file : u.au = FILE → u.usr = [] ∧ u.dR = [] ∧ u.port = -1 ∧ u.hst ≠ LOCAL
 port : u.port = -1 ∨ (0 ≤ u.port ∧ u.port ≤ 65535 ∧ u.port ≠ portOf u.au)
 eu : ∀ c ∈ u.eu, iU (if special u.au = true then 3 else 2) c.toNat = false
 fH : ∀ c ∈ u.fH, iU 1 c.toNat = false
 noq : u.hq = false → u.eu = []
 nof : u.hf = false → u.fH = []
theorem lC : lW FILE = true ∧ lower FILE = FILE ∧ special FILE = true := by decide +kernel
theorem FH {l : List ByteArray} (hl : jI FILE l) (hn : l ≠ []) {H : List UInt8} (hH : H = [] ∨ (H ≠ [] ∧ FQ.Good true H ∧ H ≠ LOCAL)) : Ok { uF with hst := H, aF := l } := by
 refine ⟨lC.1, lC.2.1, fun e => (by cases e), fun _ => ⟨hl, rfl, fun _ => hn⟩, fun _ => rfl, fun e => (by cases e), fun c hc => (by cases hc), fun c hc => (by cases hc), fun _ => ?_, fun _ => ⟨rfl, rfl, rfl, ?_⟩, .inl rfl, fun c hc => (by cases hc), fun c hc => (by cases hc), fun _ => rfl, fun _ => rfl⟩
 ·rcases hH with hH | hH
  ·exact .inl ⟨hH, rfl, rfl, rfl, .inr rfl⟩
  ·exact .inr ⟨hH.1, by show FQ.Good (special FILE) H; rw [lC.2.2]; exact hH.2.1⟩
 ·show H ≠ LOCAL
  rcases hH with hH | hH
  ·rw [hH]; decide
  ·exact hH.2.2
theorem ig (L : List UInt8) (d c : UInt8) : Lib.hasSuffix (L ++ [d]) [c] = decide (d = c) := by
 rw [Bool.eq_iff_iff]
 unfold Lib.hasSuffix
 rw [List.isSuffixOf_iff_suffix, decide_eq_true_iff]
 constructor
 ·rintro ⟨t, e⟩
  exact (List.append_inj' e rfl).2 |> fun h => (List.cons.inj h).1.symm
 ·rintro rfl
  exact ⟨L, rfl⟩
theorem ru (L : List UInt8) : L = [] ∨ ∃ M d, L = M ++ [d] := by
 rcases List.eq_nil_or_concat L with h | ⟨M, d, h⟩
 ·exact .inl h
 ·exact .inr ⟨M, d, by simpa using h⟩
theorem Dq {b : U} (hb : Ok b) (h : special b.au = true) : b.opq = false := by
 cases e : b.opq
 ·rfl
 ·have := (hb.opq e).1
  rw [h] at this
  cases this
end Go.Proofs.YtmdofbccebkbiaaGreatDoor.PrsX
namespace Go.Proofs.YtmdofbccebkbiaaGreatDoor.Ot
open Go.RowKit Base dM iT mX rH Md Yf kX xK Mc pR oW Rf mY uY LW FQ aI VO PrsT PrsU PrsX zN
def xX (u : U) : List UInt8 := bQ.lq (strOf u.usr) (strOf u.dR)
def SL (u : U) : List UInt8 := bQ.qV (strOf u.usr) (strOf u.dR) (strOf u.hst) u.hh u.port u.opq u.aF
def su (u : U) : List UInt8 := SL u ++ bQ.qg u.opq (strOf u.txt) u.aF
def Yv (u : U) : List UInt8 := bQ.xQ (strOf u.au) (strOf u.usr) (strOf u.dR) (strOf u.hst) u.hh u.port u.opq (strOf u.txt) u.aF u.hq (strOf u.eu)
def kT (u : U) : List UInt8 := bQ.BO (strOf u.au) (strOf u.usr) (strOf u.dR) (strOf u.hst) u.hh u.port u.opq (strOf u.txt) u.aF u.hq u.hf (strOf u.eu) (strOf u.fH)
theorem OD (u : U) : Yv u = u.au ++ [58] ++ SL u ++ bQ.qg u.opq (strOf u.txt) u.aF ++ (if u.hq then 63 :: u.eu else []) := rfl
theorem Le (u : U) : kT u = Yv u ++ (if u.hf then 35 :: u.fH else []) := rfl
def HC (c : UInt8) : Prop := c ≠ 47 ∧ c ≠ 92 ∧ c ≠ 64 ∧ c ≠ 63 ∧ c ≠ 35 ∧ 33 ≤ c.toNat ∧ c.toNat ≤ 126
instance (c : UInt8) : Decidable (HC c) := by unfold HC; exact inferInstance
theorem isD_hc (c : UInt8) (h : jV 16 c = true) : HC c ∧ c ≠ 91 ∧ c ≠ 93 :=
 dW (p := fun c => jV 16 c = true → HC c ∧ c ≠ 91 ∧ c ≠ 93) (by decide +kernel) c h
theorem Zq {x : UInt8} {L : List Nat} (hL : ∀ n ∈ L, n < 65536) (h : x ∈ jx L) : HC x ∧ x ≠ 91 ∧ x ≠ 93 := by
 unfold jx at h
 rcases EI _ h with rfl | ⟨v, hv, hx⟩
 ·decide
 ·obtain ⟨n, hn, rfl⟩ := List.mem_map.1 hv
  exact isD_hc x (List.all_eq_true.1 (Dl n n (Nat.le_refl _) (hL n hn)).1 x hx)
theorem Tn {x : UInt8} {f : Nat → Nat} (h6 : ∀ i, f i < 65536) (h : x ∈ lJ.prt f) : HC x ∧ x ≠ 91 ∧ x ≠ 93 := by
 have hV := lJ.MC h6
 unfold lJ.prt at h
 split at h
 ·exact Zq hV h
 ·simp only [List.mem_append, List.mem_cons, List.not_mem_nil, or_false] at h
  rcases h with (h | rfl | rfl) | h
  ·exact Zq (fun n hn => hV n (List.mem_of_mem_take hn)) h
  ·decide
  ·decide
  ·exact Zq (fun n hn => hV n (List.mem_of_mem_drop hn)) h
theorem Hz (D : List UInt8) (i : Bool) : ∀ L : List UInt8, (∀ c ∈ L, c ≠ 91 ∧ c ≠ 93 ∧ (i = true ∨ c ≠ 58)) → hap i (L ++ D) = (L ++ (hap i D).1, (hap i D).2.1, (hap i D).2.2)
 | [], _ => rfl
 | c :: L, h => by
  obtain ⟨h1, h2, h3⟩ := h c (by simp)
  have hn : ¬ (c = 58 ∧ i = false) := by
   rintro ⟨e1, e2⟩
   rcases h3 with h3 | h3
   ·rw [h3] at e2; cases e2
   ·exact h3 e1
  rw [List.cons_append, hap, if_neg hn, if_neg h1, if_neg h2, Hz D i L fun d hd => h d (by simp [hd])]
  rfl
theorem fbd_hc (sp : Bool) (c : UInt8) (h : D9 sp c = false) (h1 : 33 ≤ c.toNat) (h2 : c.toNat ≤ 126) : HC c ∧ c ≠ 91 ∧ c ≠ 93 ∧ c ≠ 58 ∧ c ≠ 124 :=
 dW (p := fun c => ∀ sp : Bool, D9 sp c = false → 33 ≤ c.toNat → c.toNat ≤ 126 → HC c ∧ c ≠ 91 ∧ c ≠ 93 ∧ c ≠ 58 ∧ c ≠ 124) (by decide +kernel) c sp h h1 h2
theorem oh {sp : Bool} {R : List UInt8} (hg : FQ.Good sp R) : (∀ c ∈ R, HC c) ∧ (∀ D, hap false (R ++ D) = (R ++ (hap false D).1, (hap false D).2.1, (hap false D).2.2)) ∧ drv R = false := by
 obtain ⟨h, hr, hf⟩ := hg
 by_cases RY : R.head? = some 91
 ·unfold hst at h
  rw [if_pos RY] at h
  unfold hbr at h
  split at h
  ·unfold addr at h
   split at h
   ·cases h
   ·rename_i V hv
    injection h with h
    obtain ⟨f, rfl, h6⟩ := NI hv
    rw [Gp] at h
    rw [← h]
    refine ⟨?_, fun D => ?_, ?_⟩
    ·intro c hc
     simp only [List.mem_cons, List.mem_append, List.not_mem_nil, or_false] at hc
     rcases hc with rfl | hc | rfl
     ·decide
     ·exact (Tn h6 hc).1
     ·decide
    ·rw [List.cons_append, hap, if_neg (by decide), if_pos rfl, List.append_assoc, Hz _ true _ fun c hc => ⟨(Tn h6 hc).2.1, (Tn h6 hc).2.2, .inl rfl⟩, List.singleton_append, hap, if_neg (by decide), if_neg (by decide), if_pos rfl]
     simp
    ·cases hp : lJ.prt f with
     | nil => rfl
     | cons a t =>
      cases t with
      | nil => rfl
      | cons b t => rfl
  ·cases h
 ·have hc := fun c hc => fbd_hc sp c (hf RY c hc) (hr c hc).1 (hr c hc).2
  refine ⟨fun c h => (hc c h).1, fun D => Hz D false R fun c h => ⟨(hc c h).2.1, (hc c h).2.2.1, .inr (hc c h).2.2.2.1⟩, ?_⟩
  match R, hc with
  | [], _ => rfl
  | [_], _ => rfl
  | [x, y], hc =>
   have hy := hc y (by simp)
   simp [drv, hy.2.2.2.1, hy.2.2.2.2]
  | _ :: _ :: _ :: _, _ => rfl
theorem upto_at (sp : Bool) (P : List UInt8) (hP : P = [] ∨ ∃ t, P = 47 :: t) : ∀ X : List UInt8, (∀ c ∈ X, eY sp c = false) → upto sp (X ++ P) = X.length
 | [], _ => by
  rcases hP with rfl | ⟨t, rfl⟩
  ·rfl
  ·rw [List.nil_append, upto, if_pos (by cases sp <;> rfl)]; rfl
 | c :: X, h => by
  rw [List.cons_append, upto, h c (by simp), if_neg (by decide), upto_at sp P hP X fun d hd => h d (by simp [hd])]
  rfl
theorem zF (sp : Bool) (c : UInt8) (h1 : c ≠ 47) (h2 : c ≠ 92) : eY sp c = false := by
 unfold eY
 simp [h1, h2]
theorem PO : ∀ (N n : Nat), n ≤ N → n ≤ 65535 → Ae (Lib.decDigits n) = n ∧ (Lib.decDigits n).all Ut = true ∧ Lib.decDigits n ≠ []
 | N, n, hN, h => by
  rw [Lib.decDigits]
  have hd : ∀ k : Fin 10, Ae [UInt8.ofNat (48 + k.val)] = k.val ∧ Ut (UInt8.ofNat (48 + k.val)) = true ∧ (UInt8.ofNat (48 + k.val)).toNat - 48 = k.val := by decide +kernel
  split
  ·rename_i h1
   have := hd ⟨n, h1⟩
   exact ⟨this.1, by simpa using this.2.1, by simp⟩
  ·have h2 : n / 10 < n := by omega
   cases N with
   | zero => omega
   | succ N =>
    obtain ⟨a, b, _⟩ := PO N (n / 10) (by omega) (by omega)
    have := hd ⟨n % 10, Nat.mod_lt _ (by decide)⟩
    simp only at this
    refine ⟨?_, ?_, by simp⟩
    ·rw [sJ.EN, a, this.2.2]
     omega
    ·rw [List.all_append, b]
     simpa using this.2.1
theorem dgt_hc (c : UInt8) (h : Ut c = true) : HC c := dW (p := fun c => Ut c = true → HC c) (by decide +kernel) c h
theorem Lh {au : List UInt8} {z : Int} (h : z = -1 ∨ (0 ≤ z ∧ z ≤ 65535 ∧ z ≠ portOf au)) : prt au (hap false (bQ.jP z)).2.1 = some z ∧ (hap false (bQ.jP z)).1 = [] ∧ (∀ c ∈ bQ.jP z, HC c) ∧ ((hap false (bQ.jP z)).2.2 = true → z ≠ -1) := by
 rcases h with rfl | ⟨h0, h1, h2⟩
 ·refine ⟨rfl, rfl, fun c hc => (by cases hc), fun e => (by cases e)⟩
 ·have hz : z ≠ -1 := by omega
  obtain ⟨n, rfl⟩ : ∃ n : Nat, z = (n : Int) := ⟨z.toNat, by omega⟩
  obtain ⟨a, b, c⟩ := PO n n (Nat.le_refl _) (by omega)
  have e : bQ.jP (n : Int) = 58 :: Lib.decDigits n := by
   unfold bQ.jP Lib.itoa
   rw [if_neg hz, if_neg (by omega)]
   rfl
  rw [e, hap, if_pos ⟨rfl, rfl⟩]
  refine ⟨?_, rfl, fun d hd => ?_, fun _ => hz⟩
  ·simp only
   rw [sJ.PW au _ c b, a, if_neg h2, if_pos (by omega)]
  ·rcases List.mem_cons.1 hd with rfl | hd
   ·decide
   ·exact dgt_hc d (List.all_eq_true.1 b d hd)
theorem out5 (c : UInt8) (h : iU 5 c.toNat = false) : HC c ∧ c ≠ 58 := dW (p := fun c => iU 5 c.toNat = false → HC c ∧ c ≠ 58) (by decide +kernel) c h
theorem RF (u : U) (h1 : ∀ c ∈ u.usr, iU 5 c.toNat = false) (h2 : ∀ c ∈ u.dR, iU 5 c.toNat = false) (W : List UInt8) (hW : ∀ c ∈ W, c ≠ 64) : ∃ b, je (xX u ++ W) = (u.usr, u.dR, W, b) ∧ (b = true → ¬ (u.usr = [] ∧ u.dR = [])) := by
 have e1 : aH.enc 5 u.usr = u.usr := Gv.oJ 5 _ h1
 have e2 : aH.enc 5 u.dR = u.dR := Gv.oJ 5 _ h2
 have hu : (strOf u.usr).data.toList = u.usr := rfl
 have hp : (strOf u.dR).data.toList = u.dR := rfl
 unfold xX bQ.lq
 rw [hu, hp]
 by_cases p0 : u.dR = []
 ·by_cases u0 : u.usr = []
  ·rw [if_pos p0, if_pos u0, List.nil_append]
   refine ⟨false, ?_, fun e => by cases e⟩
   unfold je
   rw [(sJ.rV W).2 hW, u0, p0]
  ·rw [if_pos p0, if_neg u0, List.append_assoc, List.singleton_append]
   refine ⟨true, ?_, fun _ e => u0 e.1⟩
   unfold je
   rw [sJ.Bv u.usr W hW]
   simp only
   rw [nY 58 u.usr fun c hc => (out5 c (h1 c hc)).2, p0]
   simp only
   rw [e1]
   rfl
 ·rw [if_neg p0, List.append_assoc, List.singleton_append]
  refine ⟨true, ?_, fun _ e => p0 e.2⟩
  unfold je
  rw [sJ.Bv _ W hW]
  simp only
  rw [List.append_assoc, List.singleton_append, vG 58 u.usr u.dR fun c hc => (out5 c (h1 c hc)).2]
  simp only
  rw [e1, e2]
theorem MO (u : U) (h1 : ∀ c ∈ u.usr, iU 5 c.toNat = false) (h2 : ∀ c ∈ u.dR, iU 5 c.toNat = false) : ∀ c ∈ xX u, c ≠ 47 ∧ c ≠ 92 ∧ c ≠ 63 ∧ c ≠ 35 ∧ 33 ≤ c.toNat ∧ c.toNat ≤ 126 := by
 have k1 := fun c hc => (out5 c (h1 c hc)).1
 have k2 := fun c hc => (out5 c (h2 c hc)).1
 have hu : (strOf u.usr).data.toList = u.usr := rfl
 have hp : (strOf u.dR).data.toList = u.dR := rfl
 have H : ∀ c, HC c → c ≠ 47 ∧ c ≠ 92 ∧ c ≠ 63 ∧ c ≠ 35 ∧ 33 ≤ c.toNat ∧ c.toNat ≤ 126 := fun c h => ⟨h.1, h.2.1, h.2.2.2.1, h.2.2.2.2.1, h.2.2.2.2.2⟩
 intro c hc
 unfold xX bQ.lq at hc
 rw [hu, hp] at hc
 split at hc
 ·split at hc
  ·cases hc
  ·simp only [List.mem_append, List.mem_singleton] at hc
   rcases hc with hc | rfl
   ·exact H c (k1 c hc)
   ·decide
 ·simp only [List.mem_append, List.mem_singleton] at hc
  rcases hc with ((hc | rfl) | hc) | rfl
  ·exact H c (k1 c hc)
  ·decide
  ·exact H c (k2 c hc)
  ·decide
theorem uK (x : ByteArray) : ∀ r : List ByteArray, bQ.aF (x :: r) = 47 :: joinL ((x :: r).map (·.data.toList))
 | [] => by simp [bQ.aF, joinL]
 | y :: r => by
  have ih := uK y r
  have e : bQ.aF (x :: y :: r) = (47 :: x.data.toList) ++ bQ.aF (y :: r) := rfl
  rw [e, ih]
  rfl
theorem Jp {au : List UInt8} {x : ByteArray} {r : List ByteArray} (h : jI au (x :: r)) : walk au [] (joinL ((x :: r).map (·.data.toList))) = x :: r := by
 have h0 := (h 0 (by simp)).1
 have e : (decide (au = FILE) && decide ((0 : Nat) = 0)) = (decide (au = FILE) && ([] : List ByteArray).isEmpty) := by cases decide (au = FILE) <;> rfl
 rw [e] at h0
 have := TF (decide (au = FILE)) (special au) (r.map (·.data.toList)) [] x.data.toList h0 (fun z hz => by
  obtain ⟨s, hs, rfl⟩ := List.mem_map.1 hz
  obtain ⟨i, hi, rfl⟩ := List.getElem_of_mem hs
  have := (h (i + 1) (by simpa using hi)).1
  simpa using this)
 unfold walk
 rw [List.map_cons, this, List.nil_append]
 exact PE (x :: r)
theorem vY {au : List UInt8} {l : List ByteArray} (h : jI au l) (hn : l ≠ [] ∨ special au = false) : rooted au (bQ.aF l) = l := by
 cases l with
 | nil =>
  rcases hn with hn | hn
  ·exact absurd rfl hn
  ·unfold rooted
   rw [if_pos ⟨rfl, hn⟩]
 | cons x r =>
  rw [uK]
  unfold rooted
  rw [if_neg (fun e => by cases e.1)]
  have e : pq (special au) (47 :: joinL ((x :: r).map (·.data.toList))) 0 = true := by
   show eY (special au) 47 = true
   cases special au <;> rfl
  rw [if_pos e, List.drop_one, List.tail_cons]
  exact Jp h
theorem PZ (l : List ByteArray) : bQ.aF l = [] ∨ ∃ t, bQ.aF l = 47 :: t := by
 cases l with
 | nil => exact .inl rfl
 | cons x r => exact .inr ⟨_, uK x r⟩
theorem take_len {A B : List UInt8} : (A ++ B).take A.length = A ∧ (A ++ B).drop A.length = B := by simp
theorem wI {u : U} (h : Ok u) (hh : u.hh = true) (ho : u.opq = false) : authority u.au (xX u ++ u.hst ++ bQ.jP u.port ++ bQ.aF u.aF) = (if u.hst = [] ∧ special u.au = true then none else some { U0 with au := u.au, usr := u.usr, dR := u.dR, hst := u.hst, hh := true, port := u.port, aF := u.aF }) := by
 obtain ⟨q1, q2, q3, q4⟩ := Lh (au := u.au) h.port
 have hcr := MO u h.usr h.dR
 have hH : (∀ c ∈ u.hst, HC c) ∧ (∀ D, hap false (u.hst ++ D) = (u.hst ++ (hap false D).1, (hap false D).2.1, (hap false D).2.2)) := by
  rcases h.host hh with ⟨e, _⟩ | ⟨_, hg⟩
  ·rw [e]; exact ⟨fun c hc => (by cases hc), fun D => rfl⟩
  ·exact ⟨(oh hg).1, (oh hg).2.1⟩
 have hup : upto (special u.au) (xX u ++ u.hst ++ bQ.jP u.port ++ bQ.aF u.aF) = (xX u ++ u.hst ++ bQ.jP u.port).length := by
  refine upto_at _ _ (PZ _) _ fun c hc => ?_
  simp only [List.mem_append] at hc
  rcases hc with (hc | hc) | hc
  ·exact zF _ _ (hcr c hc).1 (hcr c hc).2.1
  ·exact zF _ _ (hH.1 c hc).1 (hH.1 c hc).2.1
  ·exact zF _ _ (q3 c hc).1 (q3 c hc).2.1
 obtain ⟨b, hb1, hb2⟩ := RF u h.usr h.dR (u.hst ++ bQ.jP u.port) fun c hc => by
  rcases List.mem_append.1 hc with hc | hc
  ·exact (hH.1 c hc).2.2.1
  ·exact (q3 c hc).2.2.1
 obtain ⟨Au, _, hne⟩ := h.path ho
 have hro : rooted u.au (bQ.aF u.aF) = u.aF := vY Au (by
  cases hs : special u.au
  ·exact .inr rfl
  ·exact .inl (hne (.inr hs)))
 unfold authority
 rw [hup]
 simp only [take_len.1, take_len.2]
 rw [List.append_assoc, hb1]
 simp only
 rw [hH.2, q2, List.append_nil, hro]
 simp only
 rw [q1]
 rcases h.host hh with ⟨e, e1, e2, e3, e4⟩ | ⟨hne2, hg⟩
 ·have b0 : b = false := by
   cases hb : b
   ·rfl
   ·exact absurd ⟨e1, e2⟩ (hb2 hb)
  have p0 : (hap false (bQ.jP u.port)).2.2 = false := by
   cases hp : (hap false (bQ.jP u.port)).2.2
   ·rfl
   ·exact absurd e3 (q4 hp)
  rw [b0, p0, if_neg (fun e => by cases e.1), if_neg (fun e => by cases e.1), e]
  cases hs : special u.au
  ·rw [if_neg (fun e => by cases e.2)]
   rfl
  ·rw [if_pos ⟨rfl, rfl⟩]
   rfl
 ·rw [if_neg (fun e => hne2 (List.append_eq_nil_iff.1 e.2).1), if_neg (fun e => hne2 e.2), if_neg (fun e => hne2 e.1), hg.1]
theorem ext {u v : U} (h0 : u.au = v.au) (h1 : u.usr = v.usr) (h2 : u.dR = v.dR) (h3 : u.hst = v.hst) (h4 : u.hh = v.hh) (h5 : u.port = v.port) (h6 : u.opq = v.opq) (h7 : u.txt = v.txt) (h8 : u.aF = v.aF) (h9 : u.hq = v.hq) (h10 : u.hf = v.hf) (h11 : u.eu = v.eu) (h12 : u.fH = v.fH) : u = v := by
 cases u; cases v; simp_all
def Ui (u : U) : U := { u with hq := false, hf := false, eu := [], fH := [] }
theorem Ws {u : U} (h : Ok u) (hs : u.au = FILE) : far (u.hst ++ bQ.aF u.aF) = some (Ui u) := by
 obtain ⟨f1, f2, f3, f4⟩ := h.file hs
 have hsp : special u.au = true := by rw [hs]; exact lC.2.2
 have hh := h.spec hsp
 have ho := Dq h hsp
 obtain ⟨Au, htx, hne⟩ := h.path ho
 have hro : rooted u.au (bQ.aF u.aF) = u.aF := vY Au (.inl (hne (.inr hsp)))
 rw [hs] at hro
 have hg : (∀ c ∈ u.hst, HC c) ∧ drv u.hst = false ∧ (u.hst = [] ∨ (u.hst ≠ [] ∧ hst u.hst true = some u.hst)) := by
  rcases h.host hh with ⟨e, _⟩ | ⟨hn, hg⟩
  ·rw [e]; exact ⟨fun c hc => (by cases hc), rfl, .inl rfl⟩
  ·have := hg.1
   rw [hsp] at this
   exact ⟨(oh hg).1, (oh hg).2.2, .inr ⟨hn, this⟩⟩
 have hup : upto true (u.hst ++ bQ.aF u.aF) = u.hst.length := upto_at _ _ (PZ _) _ fun c hc => zF _ _ (hg.1 c hc).1 (hg.1 c hc).2.1
 unfold far
 rw [hup, take_len.1, take_len.2, hg.2.1, if_neg (by decide), hro]
 rcases hg.2.2 with e | ⟨hn, e⟩
 ·rw [if_pos e]
  congr 1
  exact ext hs.symm f1.symm f2.symm e.symm hh.symm f3.symm ho.symm htx.symm rfl rfl rfl rfl rfl
 ·rw [if_neg hn, e]
  simp only
  rw [if_neg f4]
  congr 1
  exact ext hs.symm f1.symm f2.symm rfl hh.symm f3.symm ho.symm htx.symm rfl rfl rfl rfl rfl
theorem UE {c : UInt8} {t : List UInt8} (h : c ≠ 47 ∧ c ≠ 92) : (c :: t).dropWhile (eY true) = c :: t := by
 rw [List.dropWhile_cons_of_neg (by rw [zF true c h.1 h.2]; simp)]
theorem sch_ne {u : U} (h : Ok u) : u.au ≠ [] := by
 intro e
 have := h.au
 rw [e] at this
 cases this
theorem JL {u : U} (h : Ok u) (q f : List UInt8) (hq hf : Bool) : aI.resolve ⟨u.au, su u, q, f, hq, hf⟩ none = some (Ui u) := by
 have hsn := sch_ne h
 unfold su SL bQ.qV bQ.qg
 have hhs : (strOf u.hst).data.toList = u.hst := rfl
 have hts : (strOf u.txt).data.toList = u.txt := rfl
 rw [hhs, hts]
 unfold aI.resolve
 simp only
 by_cases KI : u.au = FILE
 ·obtain ⟨f1, f2, f3, f4⟩ := h.file KI
  have hsp : special u.au = true := by rw [KI]; exact lC.2.2
  have hh := h.spec hsp
  have ho := Dq h hsp
  have hfa := Ws h KI
  have hcr : bQ.lq (strOf u.usr) (strOf u.dR) = [] := by rw [f1, f2]; rfl
  rw [if_pos KI, hh, ho, if_pos rfl, if_neg (by decide), hcr, f3, show bQ.jP (-1) = [] from rfl]
  simp only [List.append_nil, List.cons_append, List.nil_append]
  unfold aI.file
  rw [if_pos ⟨rfl, rfl⟩]
  exact hfa
 rw [if_neg KI]
 by_cases hsp : special u.au = true
 ·have hh := h.spec hsp
  have ho := Dq h hsp
  have hau := wI h hh ho
  have hst0 : u.hst ≠ [] := by
   rcases h.host hh with ⟨_, _, _, _, e⟩ | ⟨e, _⟩
   ·rcases e with e | e
    ·rw [hsp] at e; cases e
    ·exact absurd e KI
   ·exact e
  rw [if_neg (fun e => hst0 e.1)] at hau
  rw [if_pos hsp, hh, ho, if_pos rfl, if_neg (by decide)]
  have hd : ([47, 47] ++ bQ.lq (strOf u.usr) (strOf u.dR) ++ u.hst ++ bQ.jP u.port ++ bQ.aF u.aF).dropWhile (eY true) = xX u ++ u.hst ++ bQ.jP u.port ++ bQ.aF u.aF := by
   have hcr := MO u h.usr h.dR
   have hH : ∀ c ∈ u.hst, HC c := by
    rcases h.host hh with ⟨e, _⟩ | ⟨_, hg⟩
    ·exact absurd e hst0
    ·exact (oh hg).1
   show ((47 : UInt8) :: 47 :: (xX u ++ u.hst ++ bQ.jP u.port ++ bQ.aF u.aF)).dropWhile (eY true) = _
   rw [List.dropWhile_cons_of_pos rfl, List.dropWhile_cons_of_pos rfl]
   cases hc : xX u with
   | cons c t => exact UE ⟨(hcr c (by rw [hc]; simp)).1, (hcr c (by rw [hc]; simp)).2.1⟩
   | nil =>
    cases hx : u.hst with
    | nil => exact absurd hx hst0
    | cons c t => exact UE ⟨(hH c (by rw [hx]; simp)).1, (hH c (by rw [hx]; simp)).2.1⟩
  rw [hd, hau]
  congr 1
  exact ext rfl rfl rfl rfl hh.symm rfl ho.symm (h.path ho).2.1.symm rfl rfl rfl rfl rfl
 have hsp' : special u.au = false := by simpa using hsp
 rw [if_neg hsp, if_pos hsn]
 unfold aI.plain
 simp only
 cases ho : u.opq with
 | true =>
  obtain ⟨_, hh, hp, htx, h47, hsu⟩ := h.opq ho
  obtain ⟨n1, n2, n3, n4⟩ := h.Np hh
  have e0 : aH.enc 0 u.txt = u.txt := Gv.oJ 0 _ fun c hc => (htx c hc).1
  have hpr : ∀ M : List UInt8, Lib.hasPrefix u.txt (47 :: M) = false := fun M => by
   cases hx : u.txt with
   | nil => rfl
   | cons c t =>
    rw [hx] at h47
    have hc : c ≠ 47 := fun e => h47 (by rw [e]; rfl)
    show ((47 == c) && _) = false
    rw [beq_eq_false_iff_ne.2 (fun e => hc e.symm)]
    rfl
  rw [hh, show bQ.dotted true u.aF = false from rfl]
  simp only [Bool.false_eq_true, ↓reduceIte, List.nil_append]
  rw [hpr, hpr]
  simp only [Bool.false_eq_true, ↓reduceIte]
  have eo : aI.opq (hq || hf) u.txt = u.txt := by
   unfold aI.opq
   rw [e0, hsu, if_neg (fun e => by cases e.1)]
  rw [eo]
  congr 1
  exact ext rfl n1.symm n2.symm n4.symm hh.symm n3.symm ho.symm rfl hp.symm rfl rfl rfl rfl
 | false =>
  obtain ⟨Au, htx, hne⟩ := h.path ho
  cases hh : u.hh with
  | true =>
   have hau := wI h hh ho
   rw [if_neg (fun e => hsp e.2)] at hau
   simp only [Bool.false_eq_true, ↓reduceIte]
   have e : ([47, 47] ++ bQ.lq (strOf u.usr) (strOf u.dR) ++ u.hst ++ bQ.jP u.port ++ bQ.aF u.aF) = 47 :: 47 :: (xX u ++ u.hst ++ bQ.jP u.port ++ bQ.aF u.aF) := rfl
   rw [e, if_pos (by simp [Lib.hasPrefix, List.isPrefixOf]), List.drop_succ_cons, List.drop_succ_cons, List.drop_zero, hau]
   congr 1
   exact ext rfl rfl rfl rfl hh.symm rfl ho.symm htx.symm rfl rfl rfl rfl rfl
  | false =>
   obtain ⟨n1, n2, n3, n4⟩ := h.Np hh
   have hn := hne (.inl hh)
   simp only [Bool.false_eq_true, ↓reduceIte]
   have hcore : ∀ R : List UInt8, Lib.hasPrefix R [47, 47] = false → Lib.hasPrefix R [47] = true → rooted u.au R = u.aF → (if Lib.hasPrefix R [47, 47] = true then authority u.au (R.drop 2) else if Lib.hasPrefix R [47] = true then some { U0 with au := u.au, port := -1, aF := rooted u.au R } else some { U0 with au := u.au, port := -1, opq := true, txt := aI.opq (hq || hf) R }) = some (Ui u) := by
    intro R r1 r2 r3
    rw [r1, if_neg (by decide), r2, if_pos rfl, r3]
    congr 1
    exact ext rfl n1.symm n2.symm n4.symm hh.symm n3.symm ho.symm htx.symm rfl rfl rfl rfl rfl
   apply hcore
   all_goals
    cases hd : bQ.dotted false u.aF
   ·rw [if_neg (by decide), List.nil_append]
    cases hl : u.aF with
    | nil => exact absurd hl hn
    | cons x r =>
     rw [uK]
     have hx := (Au 0 (by rw [hl]; simp)).1.stops
     simp only [hl, List.getElem_cons_zero] at hx
     cases r with
     | nil =>
      simp only [List.map_cons, List.map_nil, joinL]
      cases hb : x.data.toList with
      | nil => rfl
      | cons c t =>
       have := hx c (by rw [hb]; simp)
       have hc : c ≠ 47 := by
        rintro rfl
        cases hs : special u.au <;> rw [hs] at this <;> cases this
       simp [Lib.hasPrefix, List.isPrefixOf, Ne.symm hc]
     | cons y r =>
      rw [hl] at hd
      simp only [List.map_cons, joinL]
      cases hb : x.data.toList with
      | nil =>
       unfold bQ.dotted at hd
       simp [hb] at hd
      | cons c t =>
       have := hx c (by rw [hb]; simp)
       have hc : c ≠ 47 := by
        rintro rfl
        cases hs : special u.au <;> rw [hs] at this <;> cases this
       simp [Lib.hasPrefix, List.isPrefixOf, Ne.symm hc]
   ·rw [if_pos rfl]
    rfl
   ·rw [if_neg (by decide), List.nil_append]
    cases hl : u.aF with
    | nil => exact absurd hl hn
    | cons x r => rw [uK]; rfl
   ·rw [if_pos rfl]
    rfl
   ·rw [if_neg (by decide), List.nil_append]
    exact vY Au (.inl hn)
   ·rw [if_pos rfl]
    cases hl : u.aF with
    | nil => exact absurd hl hn
    | cons x r =>
     rw [hl] at Au
     rw [uK]
     unfold rooted
     rw [if_neg (fun e => by cases e.1), hsp', if_pos (by rfl)]
     have e1 : (([47, 46] : List UInt8) ++ 47 :: joinL ((x :: r).map fun y : ByteArray => y.data.toList)).drop 1 = [46] ++ 47 :: joinL ((x :: r).map fun y : ByteArray => y.data.toList) := rfl
     have e2 := Jp Au
     rw [e1]
     unfold walk at e2 ⊢
     rw [hsp'] at e2 ⊢
     rw [Gu _ _ _ [46] [] _ (by decide), List.nil_append, wb, if_pos (show eY false 47 = true from rfl)]
     have e3 : AA (decide (u.au = FILE)) false [] [46] = [] := by
      rw [Vr _ _ _ _ (by decide +kernel) (by decide +kernel)]
      rfl
     rw [e3]
     exact e2
theorem Xj (c : UInt8) (h : iU 4 c.toNat = false) : c ≠ 63 ∧ c ≠ 35 ∧ 33 ≤ c.toNat ∧ c.toNat ≤ 126 := dW (p := fun c => iU 4 c.toNat = false → c ≠ 63 ∧ c ≠ 35 ∧ 33 ≤ c.toNat ∧ c.toNat ≤ 126) (by decide +kernel) c h
theorem Xb {au : List UInt8} {l : List ByteArray} (h : jI au l) : ∀ c ∈ bQ.aF l, c ≠ 63 ∧ c ≠ 35 ∧ 33 ≤ c.toNat ∧ c.toNat ≤ 126 := by
 intro c hc
 unfold bQ.aF at hc
 obtain ⟨s, hs, hm⟩ := List.mem_flatMap.1 hc
 obtain ⟨i, hi, rfl⟩ := List.getElem_of_mem hs
 rcases List.mem_cons.1 hm with rfl | hm
 ·decide
 ·exact Xj c ((h i hi).2 c hm)
theorem Xu (c : UInt8) (h : iU 0 c.toNat = false) : 32 ≤ c.toNat ∧ c.toNat ≤ 126 := dW (p := fun c => iU 0 c.toNat = false → 32 ≤ c.toNat ∧ c.toNat ≤ 126) (by decide +kernel) c h
theorem TD {u : U} (h : Ok u) : (∀ c ∈ su u, c ≠ 63 ∧ c ≠ 35 ∧ 32 ≤ c.toNat ∧ c.toNat ≤ 126) ∧ Lib.hasSuffix (su u) [32] = false := by
 have hhs : (strOf u.hst).data.toList = u.hst := rfl
 have hts : (strOf u.txt).data.toList = u.txt := rfl
 cases ho : u.opq with
 | true =>
  obtain ⟨_, hh, hp, htx, h47, hsu⟩ := h.opq ho
  have e : su u = u.txt := by
   unfold su SL bQ.qV bQ.qg
   rw [hh, ho]
   rfl
  rw [e]
  exact ⟨fun c hc => ⟨(htx c hc).2.1, (htx c hc).2.2, Xu c (htx c hc).1⟩, hsu⟩
 | false =>
  obtain ⟨Au, htx, hne⟩ := h.path ho
  have hp := Xb Au
  have hall : ∀ c ∈ su u, c ≠ 63 ∧ c ≠ 35 ∧ 33 ≤ c.toNat ∧ c.toNat ≤ 126 := by
   intro c hc
   unfold su SL bQ.qV bQ.qg at hc
   rw [ho, hhs, hts] at hc
   simp only [Bool.false_eq_true, ↓reduceIte] at hc
   rcases List.mem_append.1 hc with hc | hc
   ·split at hc
    ·rename_i hh
     simp only [List.mem_append] at hc
     rcases hc with ((hc | hc) | hc) | hc
     ·simp only [List.mem_cons, List.not_mem_nil, or_false, or_self] at hc
      rw [hc]; decide
     ·have := MO u h.usr h.dR c hc
      exact ⟨this.2.2.1, this.2.2.2.1, this.2.2.2.2⟩
     ·rcases h.host hh with ⟨e, _⟩ | ⟨_, hg⟩
      ·rw [e] at hc; cases hc
      ·have := (oh hg).1 c hc
       exact ⟨this.2.2.2.1, this.2.2.2.2.1, this.2.2.2.2.2⟩
     ·have := (Lh (au := u.au) h.port).2.2.1 c hc
      exact ⟨this.2.2.2.1, this.2.2.2.2.1, this.2.2.2.2.2⟩
    ·split at hc
     ·simp only [List.mem_cons, List.not_mem_nil, or_false] at hc
      rcases hc with rfl | rfl <;> decide
     ·cases hc
   ·exact hp c hc
  refine ⟨fun c hc => ⟨(hall c hc).1, (hall c hc).2.1, by have := (hall c hc).2.2.1; omega, (hall c hc).2.2.2⟩, ?_⟩
  cases hx : Lib.hasSuffix (su u) [32]
  ·rfl
  ·have := (hall 32 (Jh hx)).2.2.1
   revert this
   decide
theorem Xh {s : List UInt8} (h : lW s = true) : (∃ c t, s = c :: t ∧ fC c = false) ∧ ∀ c ∈ s, c ≠ 58 ∧ c ≠ 63 ∧ c ≠ 35 ∧ 33 ≤ c.toNat ∧ c.toNat ≤ 126 := by
 have H := fun c => dW (p := fun c => (letter c.toNat = true → fC c = false ∧ c ≠ 58 ∧ c ≠ 63 ∧ c ≠ 35 ∧ 33 ≤ c.toNat ∧ c.toNat ≤ 126) ∧ (IZ c = true → c ≠ 58 ∧ c ≠ 63 ∧ c ≠ 35 ∧ 33 ≤ c.toNat ∧ c.toNat ≤ 126)) (by decide +kernel) c
 cases s with
 | nil => cases h
 | cons c t =>
  unfold lW at h
  rw [Bool.and_eq_true] at h
  refine ⟨⟨c, t, rfl, ((H c).1 h.1).1⟩, fun d hd => ?_⟩
  rcases List.mem_cons.1 hd with rfl | hd
  ·exact ((H d).1 h.1).2
  ·exact (H d).2 (List.all_eq_true.1 h.2 d hd)
theorem P7 (c : UInt8) : (∀ sp : Bool, iU (if sp = true then 3 else 2) c.toNat = false → c ≠ 35 ∧ 33 ≤ c.toNat ∧ c.toNat ≤ 126) ∧ (iU 1 c.toNat = false → 33 ≤ c.toNat ∧ c.toNat ≤ 126) :=
 dW (p := fun c => (∀ sp : Bool, iU (if sp = true then 3 else 2) c.toNat = false → c ≠ 35 ∧ 33 ≤ c.toNat ∧ c.toNat ≤ 126) ∧ (iU 1 c.toNat = false → 33 ≤ c.toNat ∧ c.toNat ≤ 126)) (by decide +kernel) c
theorem OG {T : List UInt8} (h : ∀ c ∈ T, 32 ≤ c.toNat ∧ c.toNat ≤ 126) (h1 : ∃ c t, T = c :: t ∧ fC c = false) (h2 : Lib.hasSuffix T [32] = false) : clean T = T := by
 have e : ED T = T := oO T fun c hc => by have := (h c hc).2; omega
 have et : AB T = T := by
  obtain ⟨c, t, rfl, hc⟩ := h1
  unfold AB
  rw [List.dropWhile_cons_of_neg (by rw [hc]; simp)]
  rcases ru (c :: t) with hx | ⟨M, d, hx⟩
  ·cases hx
  ·rw [hx] at h h2 ⊢
   rw [ig, decide_eq_false_iff_not] at h2
   have hd : fC d = false := by
    have := (h d (by simp)).1
    unfold fC
    rw [decide_eq_false_iff_not]
    intro h3
    exact h2 (UInt8.toNat_inj.1 (by show d.toNat = 32; omega))
   rw [List.reverse_append]
   show ((d :: M.reverse).dropWhile fC).reverse = _
   rw [List.dropWhile_cons_of_neg (by rw [hd]; simp)]
   simp
 rw [qL, e, et, List.filter_eq_self.2 fun c hc => ?_]
 have := (h c hc).1
 unfold brk
 have h9 : c ≠ 9 := by rintro rfl; revert this; decide
 have h10 : c ≠ 10 := by rintro rfl; revert this; decide
 have h13 : c ≠ 13 := by rintro rfl; revert this; decide
 simp [h9, h10, h13]
theorem LD {u : U} (h : Ok u) : aI.url (kT u) none = some u := by
 obtain ⟨hr, hrs⟩ := TD h
 obtain ⟨hs1, hs2⟩ := Xh h.au
 have hq := fun c hc => (P7 c).1 (special u.au) (h.eu c hc)
 have hf := fun c hc => (P7 c).2 (h.fH c hc)
 obtain ⟨A, hA⟩ : ∃ A, A = u.au ++ 58 :: su u := ⟨_, rfl⟩
 obtain ⟨B, hB⟩ : ∃ B, B = A ++ (if u.hq then 63 :: u.eu else []) := ⟨_, rfl⟩
 have hT : kT u = B ++ (if u.hf then 35 :: u.fH else []) := by
  rw [Le, OD, hB, hA]
  unfold su
  simp
 have hAc : ∀ c ∈ A, c ≠ 63 ∧ c ≠ 35 ∧ 32 ≤ c.toNat ∧ c.toNat ≤ 126 := by
  intro c hc
  rw [hA] at hc
  simp only [List.mem_append, List.mem_cons] at hc
  rcases hc with hc | rfl | hc
  ·have := hs2 c hc
   exact ⟨this.2.1, this.2.2.1, by omega, this.2.2.2.2⟩
  ·decide
  ·exact hr c hc
 have hBc : ∀ c ∈ B, c ≠ 35 ∧ 32 ≤ c.toNat ∧ c.toNat ≤ 126 := by
  intro c hc
  rw [hB] at hc
  rcases List.mem_append.1 hc with hc | hc
  ·exact (hAc c hc).2
  ·split at hc
   ·rcases List.mem_cons.1 hc with rfl | hc
    ·decide
    ·have := hq c hc
     exact ⟨this.1, by omega, this.2.2⟩
   ·cases hc
 have hTc : ∀ c ∈ kT u, 32 ≤ c.toNat ∧ c.toNat ≤ 126 := by
  intro c hc
  rw [hT] at hc
  rcases List.mem_append.1 hc with hc | hc
  ·exact (hBc c hc).2
  ·split at hc
   ·rcases List.mem_cons.1 hc with rfl | hc
    ·decide
    ·have := hf c hc
     exact ⟨by omega, this.2⟩
   ·cases hc
 have suf : ∀ (X : List UInt8) (k : UInt8) (Y : List UInt8), k ≠ 32 → (∀ c ∈ Y, c ≠ 32) → Lib.hasSuffix (X ++ k :: Y) [32] = false := by
  intro X k Y hk hY
  rcases ru (k :: Y) with e | ⟨M, d, e⟩
  ·cases e
  ·rw [e, ← List.append_assoc, ig, decide_eq_false_iff_not]
   have : d ∈ k :: Y := by rw [e]; simp
   rcases List.mem_cons.1 this with rfl | hd
   ·exact hk
   ·exact hY d hd
 have hAs : Lib.hasSuffix A [32] = false := by
  rw [hA]
  rcases ru (su u) with e | ⟨M, d, e⟩
  ·rw [e]; exact suf _ _ _ (by decide) (fun c hc => by cases hc)
  ·rw [e, ig] at hrs
   rw [e, show u.au ++ 58 :: (M ++ [d]) = (u.au ++ 58 :: M) ++ [d] from by simp, ig]
   exact hrs
 have hBs : Lib.hasSuffix B [32] = false := by
  rw [hB]
  split
  ·exact suf _ _ _ (by decide) fun c hc e => by
    have := (hq c hc).2.1
    rw [e] at this
    revert this
    decide
  ·rw [List.append_nil]; exact hAs
 have hTs : Lib.hasSuffix (kT u) [32] = false := by
  rw [hT]
  split
  ·exact suf _ _ _ (by decide) fun c hc e => by
    have := (hf c hc).1
    rw [e] at this
    revert this
    decide
  ·rw [List.append_nil]; exact hBs
 have hT1 : ∃ c t, kT u = c :: t ∧ fC c = false := by
  obtain ⟨c, t, e, hc⟩ := hs1
  exact ⟨c, _, by rw [hT, hB, hA, e]; rfl, hc⟩
 have hcl := OG hTc hT1 hTs
 have c35 : fB 35 (kT u) = (B, u.fH, u.hf) := by
  rw [hT]
  cases hx : u.hf with
  | true => rw [if_pos rfl]; exact vG 35 B u.fH fun c hc => (hBc c hc).1
  | false => rw [if_neg (by decide), List.append_nil, h.nof hx]; exact nY 35 B fun c hc => (hBc c hc).1
 have c63 : fB 63 B = (A, u.eu, u.hq) := by
  rw [hB]
  cases hx : u.hq with
  | true => rw [if_pos rfl]; exact vG 63 A u.eu fun c hc => (hAc c hc).1
  | false => rw [if_neg (by decide), List.append_nil, h.noq hx]; exact nY 63 A fun c hc => (hAc c hc).1
 have c58 : fB 58 A = (u.au, su u, true) := by
  rw [hA]
  exact vG 58 u.au _ fun c hc => (hs2 c hc).1
 have hap : aI.apart (kT u) = ⟨u.au, su u, u.eu, u.fH, u.hq, u.hf⟩ := by
  unfold aI.apart
  simp only
  rw [c35]
  simp only
  rw [c63]
  simp only
  rw [c58]
  simp only
  rw [h.au, if_pos (by rfl), h.low]
 unfold aI.url
 rw [hcl, hap, JL h, Option.map_some]
 congr 1
 have e1 : aH.enc (if special u.au = true then 3 else 2) u.eu = u.eu := Gv.oJ _ _ h.eu
 have e2 : aH.enc 1 u.fH = u.fH := Gv.oJ 1 _ h.fH
 have e3 : aH.enc (if special (Ui u).au = true then 3 else 2) u.eu = u.eu := e1
 unfold aI.finish
 simp only
 rw [e2, e3]
 have n1 := h.noq
 have n2 := h.nof
 cases hx : u.hq <;> cases hy : u.hf
 ·exact ext rfl rfl rfl rfl rfl rfl rfl rfl rfl hx.symm hy.symm (n1 hx).symm (n2 hy).symm
 ·exact ext rfl rfl rfl rfl rfl rfl rfl rfl rfl hx.symm hy.symm (n1 hx).symm rfl
 ·exact ext rfl rfl rfl rfl rfl rfl rfl rfl rfl hx.symm hy.symm rfl (n2 hy).symm
 ·exact ext rfl rfl rfl rfl rfl rfl rfl rfl rfl hx.symm hy.symm rfl rfl
end Go.Proofs.YtmdofbccebkbiaaGreatDoor.Ot
