/- Texts that belong together: GV, JF, SplG, uT, GU, eF, lI, Md, lJ. -/
import Derived.Test.YtmdofbccebkbiaaGreatDoorM0
import Derived.Test.YtmdofbccebkbiaaGreatDoorMA
import Derived.Laws.BitsAllLaws
import Derived.Test.YtmdofbccebkbiaaGreatDoorShelf3
import Derived.Lib.SplitLaws
import Derived.Lib.IndexLaws
import Derived.Test.YtmdofbccebkbiaaGreatDoorShelf
import Derived.Laws.Rows
import Derived.BigQuiet
import Derived.Laws.CopyOwn
import Derived.Lib.LaidTab
import Derived.Lib.LaidU8
import Derived.Lib.SmallJoins
import Derived.Laws.Bits64b
set_option linter.unusedSimpArgs false
set_option linter.unusedVariables false
set_option maxRecDepth 100000
set_option maxHeartbeats 64000000
namespace Go.Proofs.YtmdofbccebkbiaaGreatDoor.GV
open Go.RowKit Base dM mX rH
theorem kF (b : Nat) : jV b 58 = false := by unfold jV; rfl
theorem oL (b : Nat) : jV b 46 = false := by unfold jV; rfl
theorem WM (c : UInt8) (h : jV 16 c = false) : jV 10 c = false := by
 cases h2 : jV 10 c with
 | false => rfl
 | true =>
  unfold jV at h h2
  simp at h h2
  omega
theorem CS {b : Nat} {L : List UInt8} (h : dH b L = true) {c : UInt8} (hc : c ∈ L) : jV b c = true := List.all_eq_true.1 h c hc
theorem Uw {b : Nat} {L : List UInt8} {c : UInt8} (hc : c ∈ L) (h : jV b c = false) : dH b L = false := by
 cases e : dH b L with
 | false => rfl
 | true => rw [CS e hc] at h; cases h
structure Pre (b : Nat) (t : List UInt8) (m : Nat) : Prop where
 four : m ≤ 4
 len : m ≤ t.length
 all : dH b (t.take m) = true
 stop : m = 4 ∨ ∀ c, t[m]? = some c → jV b c = false
theorem Pre.no {b : Nat} {t : List UInt8} {m : Nat} (h : Pre b t m) (x : UInt8) (hx : jV b x = false) : ∀ c ∈ t.take m, c ≠ x := by
 rintro c hc rfl
 rw [CS h.all hc] at hx
 cases hx
theorem Jd (t : List UInt8) (m : Nat) (c : UInt8) (h : t[m]? = some c) : t = t.take m ++ c :: t.drop (m + 1) := by
 obtain ⟨hm, hc⟩ := List.getElem?_eq_some_iff.1 h
 conv => lhs; rw [← List.take_append_drop m t, List.drop_eq_getElem_cons hm, hc]
theorem sK (p : List UInt8) (r : List (List UInt8)) (l : List Nat) (g : Option Nat) : R (p :: r) l g = if p = [] ∧ r = [] then some (l, g) else if l.length = 8 then none else if p = [] then (match g with
  | some _ => none
  | none => R r l (some l.length))
  else if r = [] then (if p.contains 46 = true then (match jY p with
    | some x => if l.length ≤ 6 then some (l ++ x, g) else none
    | none => none)
   else match piece p with
    | some n => some (l ++ [n], g)
    | none => none)
  else match piece p with
   | some n => if r = [[]] then none else R r (l ++ [n]) g
   | none => none := by
 cases g <;> (rw [R]; rfl)
theorem R_full {t : List UInt8} (ht : t ≠ []) {l : List Nat} (hl : l.length = 8) (g : Option Nat) : R (dw t) l g = none := by
 cases t with
 | nil => exact absurd rfl ht
 | cons a r =>
  by_cases ha : a = 58
  ·subst ha
   rw [dU, sK, if_neg (by simp [jB]), if_pos hl]
  ·obtain ⟨x, s, _, e⟩ := iJ ha r
   rw [e, sK, if_neg (by simp), if_pos hl]
theorem R_colon (t : List UInt8) {l : List Nat} (hl : l.length ≠ 8) : R (dw (58 :: t)) l none = R (dw t) l (some l.length) := by
 rw [dU, sK, if_neg (by simp [jB]), if_neg hl, if_pos rfl]
theorem Yd (t : List UInt8) {l : List Nat} (hl : l.length ≠ 8) (g : Nat) : R (dw (58 :: t)) l (some g) = none := by
 rw [dU, sK, if_neg (by simp [jB]), if_neg hl, if_pos rfl]
theorem R_end (l : List Nat) (g : Option Nat) : R (dw []) l g = some (l, g) := by
 show R [[]] l g = _
 rw [sK, if_pos ⟨rfl, rfl⟩]
theorem Jc {t : List UInt8} : dw t = [[]] ↔ t = [] := by
 constructor
 ·intro h
  cases t with
  | nil => rfl
  | cons a r =>
   by_cases ha : a = 58
   ·subst ha; rw [dU] at h; injection h with _ h; exact absurd h (jB r)
   ·obtain ⟨x, s, _, e⟩ := iJ ha r
    rw [e] at h
    cases h
 ·rintro rfl; rfl
theorem vX {p : List UInt8} (h1 : 1 ≤ p.length) (h4 : p.length ≤ 4) (hd : dH 16 p = true) : piece p = some (val 16 p) := if_pos ⟨h1, h4, hd⟩
theorem Tj {t : List UInt8} {m : Nat} {c x : UInt8} (h : t[m]? = some c) (h0 : t[0]? ≠ some x) (hc : c = x) : 1 ≤ m := by
 cases m with
 | zero => subst hc; exact absurd h h0
 | succ m => omega
theorem R_piece {t : List UInt8} {m : Nat} (P : Pre 16 t m) (h0 : t[0]? ≠ some 58) (hm : t[m]? = some 58) {l : List Nat} (hl : l.length ≠ 8) (g : Option Nat) :
  R (dw t) l g = if t.drop (m + 1) = [] then none else R (dw (t.drop (m + 1))) (l ++ [val 16 (t.take m)]) g := by
 have h1 : 1 ≤ m := Tj hm h0 rfl
 have hlen : (t.take m).length = m := by rw [List.length_take]; have := P.len; omega
 have e : dw t = t.take m :: dw (t.drop (m + 1)) := by
  conv => lhs; rw [Jd t m 58 hm]
  exact uQ _ _ (P.no 58 (kF 16))
 rw [e, sK, if_neg (by simp [jB]), if_neg hl, if_neg (by intro h; rw [h] at hlen; simp at hlen; omega), if_neg (jB _), vX (by omega) (by rw [hlen]; exact P.four) P.all]
 simp only []
 by_cases hz : t.drop (m + 1) = []
 ·rw [if_pos (Jc.2 hz), if_pos hz]
 ·rw [if_neg (fun h => hz (Jc.1 h)), if_neg hz]
theorem R_last {t : List UInt8} {m : Nat} (P : Pre 16 t m) (ht : t ≠ []) (hm : t[m]? = none) {l : List Nat} (hl : l.length ≠ 8) (g : Option Nat) :
  R (dw t) l g = some (l ++ [val 16 (t.take m)], g) := by
 have hml : t.length ≤ m := List.getElem?_eq_none_iff.1 hm
 have htk : t.take m = t := List.take_of_length_le hml
 have hall := P.all
 have hno := P.no 58 (kF 16)
 have hno2 := P.no 46 (oL 16)
 rw [htk] at hall hno hno2 ⊢
 have hp : 1 ≤ t.length := by cases t with
  | nil => exact absurd rfl ht
  | cons a r => simp
 rw [wB t hno, sK, if_neg (by simp [ht]), if_neg hl, if_neg ht, if_pos rfl, if_neg (by simp; exact fun h => hno2 46 h rfl), vX hp (by have := P.four; omega) hall]
theorem wC : ∀ (p : List UInt8), (∀ c ∈ p, c ≠ 46) → bY p = [p]
 | [], _ => rfl
 | c :: p, h => by rw [bY, if_neg (h c (by simp)), wC p fun d hd => h d (by simp [hd])]
theorem yQ : ∀ (p L : List UInt8), (∀ c ∈ p, c ≠ 46) → bY (p ++ 46 :: L) = p :: bY L
 | [], L, _ => by rw [List.nil_append, bY, if_pos rfl]
 | c :: p, L, h => by rw [List.cons_append, bY, if_neg (h c (by simp)), yQ p L fun d hd => h d (by simp [hd])]
theorem Lp : ∀ (L : List UInt8), ∃ p, (∀ c ∈ p, c ≠ 46) ∧ ((L = p ∧ bY L = [p]) ∨ ∃ M, L = p ++ 46 :: M ∧ bY L = p :: bY M)
 | [] => ⟨[], by simp, .inl ⟨rfl, rfl⟩⟩
 | c :: L => by
  by_cases h : c = 46
  ·subst h
   exact ⟨[], by simp, .inr ⟨L, rfl, yQ [] L (by simp)⟩⟩
  ·obtain ⟨p, hp, hL⟩ := Lp L
   have hp' : ∀ d ∈ c :: p, d ≠ 46 := by
    intro d hd
    rcases List.mem_cons.1 hd with rfl | hd
    ·exact h
    ·exact hp d hd
   refine ⟨c :: p, hp', ?_⟩
   rcases hL with ⟨rfl, _⟩ | ⟨M, rfl, _⟩
   ·exact .inl ⟨rfl, wC _ hp'⟩
   ·exact .inr ⟨M, rfl, yQ (c :: p) M hp'⟩
theorem BU (t : List UInt8) (m : Nat) (c : UInt8) (hc : t[m]? = some c) (hc46 : c ≠ 46) (hno : ∀ d ∈ t.take m, d ≠ 46) : ∃ q r, bY t = q :: r ∧ m < q.length ∧ c ∈ q := by
 obtain ⟨hm, hcm⟩ := List.getElem?_eq_some_iff.1 hc
 obtain ⟨q, hq, h⟩ := Lp t
 rcases h with ⟨rfl, e⟩ | ⟨M, e1, e⟩
 ·exact ⟨t, [], e, hm, by rw [← hcm]; exact List.getElem_mem _⟩
 ·by_cases hl : m < q.length
  ·refine ⟨q, _, e, hl, ?_⟩
   have : t[m] = q[m] := by subst e1; rw [List.getElem_append_left hl]
   rw [← hcm, this]
   exact List.getElem_mem _
  ·exfalso
   have hq46 : t[q.length]? = some 46 := by rw [e1]; simp
   by_cases he : m = q.length
   ·rw [← he, hc] at hq46
    injection hq46 with hq46
    exact hc46 hq46
   ·have hmem : (46 : UInt8) ∈ t.take m := by
     rw [e1, List.take_append, List.mem_append]
     right
     rw [show m - q.length = (m - q.length - 1) + 1 by omega]
     simp
    exact hno 46 hmem rfl
theorem jl {q : List UInt8} {r : List (List UInt8)} (h : small q = none) : smalls (q :: r) = none := by rw [smalls, h]
theorem BQ {q : List UInt8} (h : 3 < q.length) : small q = none := if_neg (fun e => by omega)
theorem uP {q : List UInt8} {c : UInt8} (hc : c ∈ q) (h : jV 10 c = false) : small q = none := if_neg (fun e => by have := Uw hc h; rw [this] at e; cases e.2.2.2.1)
theorem rY {t : List UInt8} (h : smalls (bY t) = none) : jY t = none := by unfold jY; rw [h]; rfl
theorem I9 : ∀ {ps : List (List UInt8)} {q : List UInt8}, q ∈ ps → small q = none → smalls ps = none
 | p :: r, q, hq, h => by
  rcases List.mem_cons.1 hq with rfl | hq
  ·exact jl h
  ·rw [smalls, I9 hq h]
   cases small p <;> rfl
theorem Je : ∀ (t : List UInt8) (c : UInt8), c ∈ t → c ≠ 46 → ∃ q ∈ bY t, c ∈ q
 | a :: t, c, hc, h46 => by
  rw [bY]
  by_cases ha : a = 46
  ·rw [if_pos ha]
   rcases List.mem_cons.1 hc with rfl | hc
   ·exact absurd ha h46
   ·obtain ⟨q, h1, h2⟩ := Je t c hc h46
    exact ⟨q, List.mem_cons_of_mem _ h1, h2⟩
  ·rw [if_neg ha]
   cases e : bY t with
   | nil => exact absurd e (oN t)
   | cons x r =>
    rcases List.mem_cons.1 hc with rfl | hc
    ·exact ⟨c :: x, by simp, by simp⟩
    ·obtain ⟨q, h1, h2⟩ := Je t c hc h46
     rw [e] at h1
     rcases List.mem_cons.1 h1 with rfl | h1
     ·exact ⟨a :: q, by simp, by simp [h2]⟩
     ·exact ⟨q, by simp [h1], h2⟩
theorem TA {t : List UInt8} (h : (58 : UInt8) ∈ t) : jY t = none := by
 obtain ⟨q, h1, h2⟩ := Je t 58 h (by decide)
 exact rY (I9 h1 (uP h2 (kF 10)))
theorem EM {q : List UInt8} {c : UInt8} (hc : c ∈ q) (h : jV 16 c = false) : piece q = none := if_neg (fun e => by have := Uw hc h; rw [this] at e; cases e.2.2)
theorem Tf {q : List UInt8} (h : 4 < q.length) : piece q = none := if_neg (fun e => by omega)
theorem R_odd {t : List UInt8} {m : Nat} (P : Pre 16 t m) {c : UInt8} (hm : t[m]? = some c) (Di : c ≠ 58) (h46 : c ≠ 46) {l : List Nat} (hl : l.length ≠ 8) (g : Option Nat) : R (dw t) l g = none := by
 have hno := P.no 58 (kF 16)
 obtain ⟨hml, hcm⟩ := List.getElem?_eq_some_iff.1 hm
 obtain ⟨p, hp, h⟩ := ES t
 have hpm : m < p.length ∧ p[m]? = some c := by
  rcases h with ⟨rfl, _⟩ | ⟨M, e1, _⟩
  ·exact ⟨hml, hm⟩
  ·by_cases hl : m < p.length
   ·refine ⟨hl, ?_⟩
    rw [e1, List.getElem?_append_left hl] at hm
    exact hm
   ·exfalso
    by_cases he : m = p.length
    ·rw [e1, he] at hm
     simp at hm
     exact Di hm.symm
    ·refine hno 58 ?_ rfl
     rw [e1, List.take_append, List.mem_append]
     right
     rw [show m - p.length = (m - p.length - 1) + 1 by omega]
     simp
 have hcp : c ∈ p := by obtain ⟨h1, h2⟩ := List.getElem?_eq_some_iff.1 hpm.2; rw [← h2]; exact List.getElem_mem _
 have hpc : piece p = none := by
  rcases P.stop with h4 | hs
  ·exact Tf (by omega)
  ·exact EM hcp (hs c hm)
 have hpn : p ≠ [] := by rintro rfl; simp at hcp
 have hpt : p.take m = t.take m := by
  rcases h with ⟨rfl, _⟩ | ⟨M, e1, _⟩
  ·rfl
  ·rw [e1, List.take_append_of_le_length (by omega)]
 have hq : jY p = none := by
  obtain ⟨q, r, e, hlq, hcq⟩ := BU p m c hpm.2 h46 (by rw [hpt]; exact P.no 46 (oL 16))
  apply rY
  rw [e]
  apply jl
  rcases P.stop with h4 | hs
  ·exact BQ (by omega)
  ·exact uP hcq (WM c (hs c hm))
 have key : ∀ r, R (p :: r) l g = none := by
  intro r
  rw [sK, if_neg (by simp [hpn]), if_neg hl, if_neg hpn]
  by_cases hr : r = []
  ·rw [if_pos hr, hq, hpc]
   split <;> rfl
  ·rw [if_neg hr, hpc]
 rcases h with ⟨_, e⟩ | ⟨M, _, e⟩ <;> rw [e, key]
theorem R_quad {t : List UInt8} {m : Nat} (P : Pre 16 t m) (hm : t[m]? = some 46) {l : List Nat} (hl : l.length ≠ 8) (g : Option Nat) :
  R (dw t) l g = match jY t with
   | some x => if l.length ≤ 6 then some (l ++ x, g) else none
   | none => none := by
 have hno := P.no 58 (kF 16)
 obtain ⟨hml, hcm⟩ := List.getElem?_eq_some_iff.1 hm
 have h46 : (46 : UInt8) ∈ t := by rw [← hcm]; exact List.getElem_mem _
 obtain ⟨p, hp, h⟩ := ES t
 rcases h with ⟨rfl, e⟩ | ⟨M, e1, e⟩
 ·have htn : t ≠ [] := by rintro rfl; simp at h46
  rw [e, sK, if_neg (by simp [htn]), if_neg hl, if_neg htn, if_pos rfl, if_pos (by simpa using h46)]
 ·rw [TA (by rw [e1]; simp), e]
  have h46p : (46 : UInt8) ∈ p := by
   by_cases hlp : m < p.length
   ·rw [e1, List.getElem?_append_left hlp] at hm
    obtain ⟨h1, h2⟩ := List.getElem?_eq_some_iff.1 hm
    rw [← h2]; exact List.getElem_mem _
   ·exfalso
    by_cases he : m = p.length
    ·rw [e1, he] at hm
     simp at hm
    ·refine hno 58 ?_ rfl
     rw [e1, List.take_append, List.mem_append]
     right
     rw [show m - p.length = (m - p.length - 1) + 1 by omega]
     simp
  have hpn : p ≠ [] := by rintro rfl; simp at h46p
  rw [sK, if_neg (by simp [hpn]), if_neg hl, if_neg hpn, if_neg (jB M), EM h46p (oL 16)]
theorem aah {t : List UInt8} (hm : t[0]? = some 46) : jY t = none := by
 cases t with
 | nil => cases hm
 | cons a r =>
  injection hm with hm
  subst hm
  apply rY
  rw [bY, if_pos rfl]
  exact jl (if_neg (by simp))
def cont (b : List Nat) (t : List UInt8) : Option (List Nat) := match smalls (bY t) with
 | some l => if b.length + l.length = 4 then some (b ++ l) else none
 | none => none
theorem Qx {l : List Nat} (h : l.length ≠ 4) : two l = none := by
 unfold two
 split
 ·exact absurd rfl h
 ·rfl
theorem Xc (t : List UInt8) : jY t = (cont [] t).bind two := by
 unfold jY cont
 cases smalls (bY t) with
 | none => rfl
 | some l =>
  show two l = _
  by_cases h : l.length = 4
  ·simp [h]
  ·simp [h, Qx h]
theorem Hf {t : List UInt8} {m : Nat} (P : Pre 10 t m) (h : m = 0 ∨ 255 < val 10 (t.take m) ∨ (1 < m ∧ t[0]? = some 48)) (b : List Nat) : cont b t = none := by
 have hs : smalls (bY t) = none := by
  have hno := P.no 46 (oL 10)
  have hlen : (t.take m).length = m := by rw [List.length_take]; have := P.len; omega
  have hsm : small (t.take m) = none := by
   apply if_neg
   rintro ⟨a1, a2, a3, a4, a5⟩
   rcases h with h | h | ⟨h, h2⟩
   ·omega
   ·omega
   ·refine a3 ⟨by omega, ?_⟩
    cases t with
    | nil => cases h2
    | cons x r =>
     cases m with
     | zero => omega
     | succ m => simpa using h2
  cases hm : t[m]? with
  | none =>
   have : t.length ≤ m := List.getElem?_eq_none_iff.1 hm
   rw [List.take_of_length_le this] at hno hsm
   rw [wC t hno]
   exact jl hsm
  | some c =>
   by_cases h46 : c = 46
   ·subst h46
    conv => lhs; rw [Jd t m 46 hm]
    rw [yQ _ _ hno]
    exact jl hsm
   ·obtain ⟨q, r, e, hl, hc⟩ := BU t m c hm h46 hno
    rw [e]
    apply jl
    rcases P.stop with h4 | hs
    ·exact BQ (by omega)
    ·exact uP hc (hs c hm)
 unfold cont
 rw [hs]
theorem dv_hi {c : UInt8} (h : jV 10 c = true) (h48 : c ≠ 48) : 1 ≤ dv c := by
 have H : ∀ n : Fin 256, (decide (0 ≤ hex (n.val : Int)) && decide (hex (n.val : Int) < (10 : Nat))) = true → n.val ≠ 48 → 1 ≤ (hex (n.val : Int)).toNat := by decide +kernel
 exact H ⟨c.toNat, c.toNat_lt⟩ h (fun e => h48 (UInt8.toNat_inj.1 e))
theorem I7 {t : List UInt8} {m : Nat} (P : Pre 10 t m) (h0 : m ≠ 0) (hv : val 10 (t.take m) ≤ 255) (hz : ¬ (1 < m ∧ t[0]? = some 48)) : m ≤ 3 ∧ small (t.take m) = some (val 10 (t.take m)) := by
 have hlen : (t.take m).length = m := by rw [List.length_take]; have := P.len; omega
 have h4 : m ≤ 3 := by
  have h4 := P.four
  have hall := P.all
  by_cases e : m = 4
  ·exfalso
   subst e
   obtain ⟨a, u, rfl⟩ : ∃ a u, t = a :: u := by
    cases t with
    | nil => simp at hlen
    | cons a u => exact ⟨a, u, rfl⟩
   have ha : jV 10 a = true := CS hall (by simp)
   have ha48 : a ≠ 48 := fun h => hz ⟨by omega, by rw [h]; rfl⟩
   have h1 := dv_hi ha ha48
   obtain ⟨L, hL⟩ : ∃ L, L = u.take 3 := ⟨_, rfl⟩
   rw [List.take_succ_cons] at hv hlen
   rw [← hL] at hv hlen
   match L, hlen, hv with
   | [b, c, d], _, hv =>
    simp only [val, List.foldl_cons, List.foldl_nil] at hv
    omega
  ·omega
 refine ⟨h4, if_pos ⟨by omega, by omega, ?_, P.all, hv⟩⟩
 rintro ⟨h1, h2⟩
 refine hz ⟨by omega, ?_⟩
 cases t with
 | nil => simp at h2
 | cons x r =>
  cases m with
  | zero => omega
  | succ m => simpa using h2
theorem Kr {t : List UInt8} {m : Nat} (P : Pre 10 t m) (h0 : m ≠ 0) (hv : val 10 (t.take m) ≤ 255) (hz : ¬ (1 < m ∧ t[0]? = some 48)) (hm : t.drop m = []) (b : List Nat) :
  cont b t = if b.length + 1 = 4 then some (b ++ [val 10 (t.take m)]) else none := by
 have hs := (I7 P h0 hv hz).2
 have hle : t.length ≤ m := List.drop_eq_nil_iff.1 hm
 have hno := P.no 46 (oL 10)
 have htk : t.take m = t := List.take_of_length_le hle
 rw [htk] at hno hs ⊢
 unfold cont
 rw [wC t hno, smalls, hs]
 rfl
theorem Kt {t : List UInt8} {m : Nat} (P : Pre 10 t m) (h0 : m ≠ 0) (hv : val 10 (t.take m) ≤ 255) (hz : ¬ (1 < m ∧ t[0]? = some 48)) (hm : t[m]? = some 46) (b : List Nat) :
  cont b t = if b.length + 1 = 4 then none else cont (b ++ [val 10 (t.take m)]) (t.drop (m + 1)) := by
 have hs := (I7 P h0 hv hz).2
 have hno := P.no 46 (oL 10)
 unfold cont
 have e : bY t = t.take m :: bY (t.drop (m + 1)) := by
  conv => lhs; rw [Jd t m 46 hm]
  exact yQ _ _ hno
 rw [e, smalls, hs]
 cases hr : smalls (bY (t.drop (m + 1))) with
 | none => simp
 | some l =>
  have h1 : 1 ≤ l.length := by
   cases e2 : bY (t.drop (m + 1)) with
   | nil => exact absurd e2 (oN _)
   | cons x r =>
    rw [e2, smalls] at hr
    split at hr
    ·injection hr with hr; subst hr; simp
    ·cases hr
  simp only [List.length_cons, List.length_append, List.length_nil, List.append_assoc, List.cons_append, List.nil_append]
  by_cases h4 : b.length + 1 = 4
  ·rw [if_neg (by omega), if_pos h4]
  ·rw [if_neg h4]
   by_cases h5 : b.length + (l.length + 1) = 4
   ·rw [if_pos h5, if_pos (by omega)]
   ·rw [if_neg h5, if_neg (by omega)]
theorem OH {t : List UInt8} {m : Nat} (P : Pre 10 t m) {c : UInt8} (hm : t[m]? = some c) (h46 : c ≠ 46) (b : List Nat) : cont b t = none := by
 have hno := P.no 46 (oL 10)
 obtain ⟨q, r, e, hl, hc⟩ := BU t m c hm h46 hno
 unfold cont
 rw [e, jl]
 rcases P.stop with h4 | hs
 ·exact BQ (by omega)
 ·exact uP hc (hs c hm)
end Go.Proofs.YtmdofbccebkbiaaGreatDoor.GV
namespace Go.Proofs.YtmdofbccebkbiaaGreatDoor.JF
open Go.RowKit Base aT dM mX rH GV
theorem take_snoc {α : Type} (l : List α) (k : Nat) (h : k < l.length) : l.take (k + 1) = l.take k ++ [l[k]] := List.take_succ_eq_append_getElem h
theorem pX (b : Nat) (c : UInt8) (h : jV b c = true) : hex c.toNat = (dv c : Int) := by
 unfold jV at h
 rw [Bool.and_eq_true] at h
 have := of_decide_eq_true h.1
 unfold dv
 omega
theorem UG (c : UInt8) (h : hex c.toNat < 0) : jV 16 c = false := by
 unfold jV
 rw [decide_eq_false (by omega)]
 rfl
theorem UH (c : UInt8) (h : 0 ≤ hex c.toNat) : jV 16 c = true := by
 have := qQ c
 unfold jV
 rw [decide_eq_true h, decide_eq_true (by omega)]
 rfl
theorem YI (b : Nat) (c : UInt8) (h : jV b c = true) : dv c < b := by
 unfold jV at h
 rw [Bool.and_eq_true] at h
 have h1 := of_decide_eq_true h.1
 have h2 := of_decide_eq_true h.2
 unfold dv
 omega
theorem wF (b : Nat) (hb : 1 ≤ b) (L : List UInt8) (h : dH b L = true) : val b L < b ^ L.length := by
 have H : ∀ M : List UInt8, dH b M.reverse = true → val b M.reverse < b ^ M.length := by
  intro M
  induction M with
  | nil => intro _; simp [val]
  | cons c M ih =>
   intro h
   rw [List.reverse_cons] at h ⊢
   unfold dH at h
   rw [List.all_append, Bool.and_eq_true] at h
   have h1 := ih h.1
   have h2 : jV b c = true := by simpa using h.2
   have h3 := YI b c h2
   rw [iQ, List.length_cons, Nat.pow_succ]
   have : (val b M.reverse + 1) * b ≤ b ^ M.length * b := Nat.mul_le_mul_right _ h1
   rw [Nat.add_mul] at this
   omega
 have := H L.reverse (by rwa [List.reverse_reverse])
 rwa [List.reverse_reverse, List.length_reverse] at this
theorem tZ (b : Nat) (L : List UInt8) (c : UInt8) : dH b (L ++ [c]) = (dH b L && jV b c) := by
 unfold dH
 rw [List.all_append]
 simp
theorem KY (a : Nat) (ha : a < 9223372036854775808) : (BitVec.ofInt 64 (a : Int)).toNat = a := by
 rw [BitVec.ofInt_natCast, BitVec.toNat_ofNat]; exact Nat.mod_eq_of_lt (by omega)
theorem SC (a b : Nat) (ha : a < 9223372036854775808) (hb : b < 9223372036854775808) : bits .or .i64 (a : Int) (b : Int) = ((a ||| b : Nat) : Int) := by
 have hx : a ||| b < 2 ^ 63 := Nat.or_lt_two_pow (by omega) (by omega)
 show IntKind.i64.wrap ((BitVec.ofInt 64 (a : Int) ||| BitVec.ofInt 64 (b : Int)).toNat : Int) = _
 rw [BitVec.toNat_or, KY a ha, KY b hb, IntKind.wrap_i64]
 omega
theorem or_hex (n d : Nat) (hn : n < 65536) (hd : d < 16) : bits .or .i64 ((n : Int) * 16) (d : Int) = ((n * 16 + d : Nat) : Int) := by
 rw [show ((n : Int) * 16) = ((n * 16 : Nat) : Int) by omega, SC _ _ (by omega) (by omega)]
 have := Nat.shiftLeft_add_eq_or_of_lt (i := 4) (b := d) (by omega) n
 rw [Nat.shiftLeft_eq] at this
 rw [← this]
def PV (o : Option Nat) : Value := match o with
 | some v => .tuple #[.int .u16 (v : Int), .bool true]
 | none => .tuple #[.int .u16 0, .bool false]
theorem Ns {o : Option Nat} (h : o = none) : PV o = .tuple #[.int .u16 0, .bool false] := by rw [h]; rfl
theorem pv_some {o : Option Nat} {v : Nat} (h : o = some v) : PV o = .tuple #[.int .u16 (v : Int), .bool true] := by rw [h]; rfl
theorem Lc {p : List UInt8} (h : ¬ (1 ≤ p.length ∧ p.length ≤ 4)) : piece p = none := if_neg (fun e => h ⟨e.1, e.2.1⟩)
theorem qE (s : ByteArray) (w : World) : Calls Tryz.prog 263 #[.string s] w fun e w' => e = .returned (PV (piece s.data.toList)) ∧ w = w' := by
 have hl : s.data.toList.length = s.size := Array.length_toList
 have HL := hid hl
 by_cases h1 : s.size < 1
 ·have HE := hid (Ns (Lc (p := s.data.toList) (by omega)))
  have hi : (s.size : Int) < 1 := by omega
  clear hl h1
  go_enter Tryz.func263, Tryz.ntmps263
  go_wp2
  go_ret2
  exact ⟨by rw [HE.out]; rfl, rfl⟩
 by_cases h4 : 4 < s.size
 ·have HE := hid (Ns (Lc (p := s.data.toList) (by omega)))
  have hi : (4 : Int) < (s.size : Int) := by omega
  have hi1 : ¬ (s.size : Int) < 1 := by omega
  clear hl h1 h4
  go_enter Tryz.func263, Tryz.ntmps263
  go_wp2
  go_ret2
  exact ⟨by rw [HE.out]; rfl, rfl⟩
 have hi : ¬ (4 : Int) < (s.size : Int) := by omega
 have hi1 : ¬ (s.size : Int) < 1 := by omega
 have LU : Hid (1 ≤ s.size ∧ s.size ≤ 4) := ⟨by omega, by omega⟩
 clear hl h1 h4
 go_enter Tryz.func263, Tryz.ntmps263
 go_wp2
 clear hi hi1
 generalize decide ((s.size : Int) < 1) = d1
 generalize decide ((4 : Int) < (s.size : Int)) = d2
 go_loopw [4, 5, 6] (fun vn vk _ wr => ∃ (k n : Nat), k ≤ s.size ∧ vk = .int .i64 (k : Int) ∧ vn = .int .i64 (n : Int) ∧ wr = w ∧ Hid (n = val 16 (s.data.toList.take k)) ∧ Hid (dH 16 (s.data.toList.take k) = true)) (fun _ vk _ _ => s.size - (intOf vk).toNat)
 case atStart => exact ⟨0, 0, Nat.zero_le _, rfl, rfl, rfl, rfl, rfl⟩
 case round =>
  obtain ⟨k, n, hk, rfl, rfl, rfl, HV, HT⟩ := hrel
  have hs4 : s.size ≤ 4 := LU.out.2
  by_cases hlt : k < s.size
  ·obtain ⟨c, hc⟩ : ∃ c, s[k] = c := ⟨_, rfl⟩
   have hkl : k < s.data.toList.length := by rw [HL.out]; exact hlt
   have hcl : s.data.toList[k] = c := hc
   have HS : Hid (s.data.toList.take (k + 1) = s.data.toList.take k ++ [c]) := by rw [← hcl]; exact take_snoc _ k hkl
   have HM : Hid (c ∈ s.data.toList) := by show _ ∈ _; rw [← hcl]; exact List.getElem_mem _
   have h0 : 0 ≤ (c.toNat : Int) := by omega
   have h1 : (c.toNat : Int) ≤ 255 := by have := c.toNat_lt; omega
   have hn : n < 4096 := by
    have h := wF 16 (by omega) _ HT.out
    rw [← HV.out, List.length_take, HL.out] at h
    have h2 : k ≤ 3 := by have := LU.out.2; omega
    have h3 : 16 ^ min k s.size ≤ 16 ^ 3 := Nat.pow_le_pow_right (by omega) (by omega)
    omega
   clear hcl hkl
   by_cases hx : hex c.toNat < 0
   ·have HE := hid (Ns (EM HM.out (UG c hx)))
    obtain ⟨x, hxx⟩ : ∃ x, x = hex c.toNat := ⟨_, rfl⟩
    rw [← hxx] at hx
    have HX := hid hxx
    clear hxx
    go_wp2_with fail
    refine (dM.dG _ _ h0 h1).mono ?_
    rintro e w2 ⟨rfl, hw2⟩
    subst hw2
    rw [← HX.out]
    go_wp2
    go_ret2
    exact ⟨by rw [HE.out]; rfl, rfl⟩
   ·have hD : jV 16 c = true := UH c (by omega)
    obtain ⟨d, hd⟩ : ∃ d, d = dv c := ⟨_, rfl⟩
    have hd16 : d < 16 := by rw [hd]; exact YI 16 c hD
    have HX : Hid (hex c.toNat = (d : Int)) := by show _ = _; rw [hd]; exact pX 16 c hD
    have wQ : Hid (n * 16 + d = val 16 (s.data.toList.take (k + 1))) := by show _ = _; rw [HS.out, iQ, ← HV.out, hd]
    have HT2 : Hid (dH 16 (s.data.toList.take (k + 1)) = true) := by show _ = _; rw [HS.out, tZ, HT.out, hD]; rfl
    have hor := or_hex n d (by omega) hd16
    have hd0 : ¬ (d : Int) < 0 := by omega
    have hnb : (n : Int) < 4096 := by omega
    clear hx hD hd
    go_wp2_with fail
    refine (dM.dG _ _ h0 h1).mono ?_
    rintro e w2 ⟨rfl, hw2⟩
    subst hw2
    rw [HX.out]
    go_wp2
    go_roundw
    case rel => exact ⟨k + 1, n * 16 + d, by omega, by go_num, by first | rfl | go_num, by first | rfl | trivial, wQ.out, HT2.out⟩
    case measure => simp [intOf]; omega
  ·obtain rfl : k = s.size := by omega
   have hfull : s.data.toList.take s.size = s.data.toList := List.take_of_length_le (by rw [HL.out]; exact Nat.le_refl _)
   have hn : n < 65536 := by
    have h := wF 16 (by omega) _ HT.out
    rw [← HV.out, hfull, HL.out] at h
    have h3 : 16 ^ s.size ≤ 16 ^ 4 := Nat.pow_le_pow_right (by omega) LU.out.2
    omega
   have HE : Hid (PV (piece s.data.toList) = .tuple #[.int .u16 (n : Int), .bool true]) := by
    show _ = _
    have h1 := HT.out
    have h2 := HV.out
    rw [hfull] at h1 h2
    rw [h2]
    exact pv_some (vX (by rw [HL.out]; exact LU.out.1) (by rw [HL.out]; exact LU.out.2) h1)
   have hni : (n : Int) < 65536 := by omega
   clear hfull
   go_wp2
   go_ret2
   exact ⟨by rw [HE.out]; rfl, rfl⟩
def SV (o : Option Nat) (e : Ending) : Prop := match o with
 | some v => e = .returned (.tuple #[.int .u16 (v : Int), .bool true])
 | none => ∃ x : Int, e = .returned (.tuple #[.int .u16 x, .bool false])
theorem DY {o : Option Nat} (h : o = none) (x : Int) : SV o (.returned (.tuple #[.int .u16 x, .bool false])) := by rw [h]; exact ⟨x, rfl⟩
theorem sv_some {o : Option Nat} {v : Nat} (h : o = some v) : SV o (.returned (.tuple #[.int .u16 (v : Int), .bool true])) := by rw [h]; rfl
theorem Ky (c : UInt8) (h : jV 10 c = true) : 48 ≤ c.toNat ∧ c.toNat ≤ 57 ∧ dv c = c.toNat - 48 := by
 have H : ∀ n : Fin 256, (decide (0 ≤ hex (n.val : Int)) && decide (hex (n.val : Int) < (10 : Nat))) = true → 48 ≤ n.val ∧ n.val ≤ 57 ∧ (hex (n.val : Int)).toNat = n.val - 48 := by decide +kernel
 exact H ⟨c.toNat, c.toNat_lt⟩ h
theorem Ll {p : List UInt8} (h : ¬ (1 ≤ p.length ∧ p.length ≤ 3)) : small p = none := if_neg (fun e => h ⟨e.1, e.2.1⟩)
theorem TJ {p : List UInt8} (h1 : 1 < p.length) (h2 : p.head? = some 48) : small p = none := if_neg (fun e => e.2.2.1 ⟨h1, h2⟩)
theorem Lj (s : ByteArray) (w : World) : Calls Tryz.prog 268 #[.string s] w fun e w' => SV (small s.data.toList) e ∧ w = w' := by
 have hl : s.data.toList.length = s.size := Array.length_toList
 have HL := hid hl
 by_cases h1 : s.size < 1
 ·have HE : Hid (small s.data.toList = none) := Ll (by omega)
  have hi : (s.size : Int) < 1 := by omega
  clear hl h1
  go_enter Tryz.func268, Tryz.ntmps268
  go_wp2
  go_ret2
  exact ⟨DY HE.out _, rfl⟩
 by_cases h4 : 3 < s.size
 ·have HE : Hid (small s.data.toList = none) := Ll (by omega)
  have hi : (3 : Int) < (s.size : Int) := by omega
  have hi1 : ¬ (s.size : Int) < 1 := by omega
  clear hl h1 h4
  go_enter Tryz.func268, Tryz.ntmps268
  go_wp2
  go_ret2
  exact ⟨DY HE.out _, rfl⟩
 have hi : ¬ (3 : Int) < (s.size : Int) := by omega
 have hi1 : ¬ (s.size : Int) < 1 := by omega
 have LU : Hid (1 ≤ s.size ∧ s.size ≤ 3) := ⟨by omega, by omega⟩
 have h0s : 0 < s.size := by omega
 obtain ⟨a, ha⟩ : ∃ a, s[0] = a := ⟨_, rfl⟩
 have HA : Hid (s.data.toList.head? = some a) := by
  show _ = _
  have hcl : s.data.toList[0]'(by omega) = a := ha
  rw [List.head?_eq_getElem?, List.getElem?_eq_getElem (by omega), hcl]
 have hbr : (1 < s.size ∧ a = 48) ∨ ¬ (1 < s.size ∧ a = 48) := Classical.em _
 clear hl h1 h4
 rcases hbr with ⟨hb1, hb2⟩ | hb
 ·have HE : Hid (small s.data.toList = none) := TJ (by rw [HL.out]; exact hb1) (by rw [HA.out, hb2])
  have hb1i : (1 : Int) < (s.size : Int) := by omega
  have hb2i : ((a.toNat : Int) == 48) = true := by rw [hb2]; rfl
  clear hb2
  go_enter Tryz.func268, Tryz.ntmps268
  go_wp2
  go_ret2
  exact ⟨DY HE.out _, rfl⟩
 have HBR : Hid (¬ (1 < s.size ∧ s.data.toList.head? = some 48)) := by
  rintro ⟨x1, x2⟩
  rw [HA.out] at x2
  injection x2 with x2
  exact hb ⟨x1, x2⟩
 have hbr2 : ¬ (1 : Int) < (s.size : Int) ∨ ((1 : Int) < (s.size : Int) ∧ ((a.toNat : Int) == 48) = false) := by
  by_cases h : 1 < s.size
  ·refine .inr ⟨by omega, ?_⟩
   have : a ≠ 48 := fun e => hb ⟨h, e⟩
   rw [beq_eq_false_iff_ne]
   intro e
   exact this (UInt8.toNat_inj.1 (by show _ = 48; omega))
  ·exact .inl (by omega)
 clear hb
 rcases hbr2 with hq | ⟨hq, hq2⟩
 all_goals
  go_enter Tryz.func268, Tryz.ntmps268
  go_wp2
  try generalize decide ((s.size : Int) < 1) = d1
  try generalize decide ((3 : Int) < (s.size : Int)) = d2
  try generalize decide ((1 : Int) < (s.size : Int)) = d3
  clear hi hi1 hq
  go_loopw [4, 5] (fun vn vk wr => ∃ (k n : Nat), k ≤ s.size ∧ vk = .int .i64 (k : Int) ∧ vn = .int .u16 (n : Int) ∧ wr = w ∧ Hid (n = val 10 (s.data.toList.take k)) ∧ Hid (dH 10 (s.data.toList.take k) = true)) (fun _ vk _ => s.size - (intOf vk).toNat)
  case atStart => exact ⟨0, 0, Nat.zero_le _, rfl, rfl, rfl, rfl, rfl⟩
  case round =>
   obtain ⟨k, n, hk, rfl, rfl, rfl, HV, HT⟩ := hrel
   have hs3 : s.size ≤ 3 := LU.out.2
   by_cases hlt : k < s.size
   ·obtain ⟨c, hc⟩ : ∃ c, s[k] = c := ⟨_, rfl⟩
    have hkl : k < s.data.toList.length := by rw [HL.out]; exact hlt
    have hcl : s.data.toList[k] = c := hc
    have HS : Hid (s.data.toList.take (k + 1) = s.data.toList.take k ++ [c]) := by rw [← hcl]; exact take_snoc _ k hkl
    have HM : Hid (c ∈ s.data.toList) := by show _ ∈ _; rw [← hcl]; exact List.getElem_mem _
    have hn : n < 100 := by
     have h := wF 10 (by omega) _ HT.out
     rw [← HV.out, List.length_take, HL.out] at h
     have h2 : k ≤ 2 := by have := LU.out.2; omega
     have h3 : 10 ^ min k s.size ≤ 10 ^ 2 := Nat.pow_le_pow_right (by omega) (by omega)
     omega
    clear hcl hkl
    cases hD : jV 10 c with
    | false =>
     have HE : Hid (small s.data.toList = none) := uP HM.out hD
     have hdg : dM.digit (c.toNat : Int) = false := by rw [tY, hD]
     have N7 := hid hdg
     clear hD hdg
     go_wp2_with fail
     refine (dM.jE _ _).mono ?_
     rintro e w2 ⟨rfl, hw2⟩
     subst hw2
     rw [N7.out]
     go_wp2
     go_ret2
     exact ⟨DY HE.out _, rfl⟩
    | true =>
     obtain ⟨hc1, hc2, hc3⟩ := Ky c hD
     have N7 : Hid (dM.digit (c.toNat : Int) = true) := by show _ = _; rw [tY, hD]
     have wQ : Hid (n * 10 + (c.toNat - 48) = val 10 (s.data.toList.take (k + 1))) := by show _ = _; rw [HS.out, iQ, ← HV.out, hc3]
     have HT2 : Hid (dH 10 (s.data.toList.take (k + 1)) = true) := by show _ = _; rw [HS.out, tZ, HT.out, hD]; rfl
     have hnb : (n : Int) < 100 := by omega
     have hci : 48 ≤ (c.toNat : Int) := by omega
     have hci2 : (c.toNat : Int) ≤ 57 := by omega
     have dL : Hid ((n : Int) * 10 + ((c.toNat : Int) - 48) = ((n * 10 + (c.toNat - 48) : Nat) : Int)) := by show _ = _; omega
     clear hD hc3 hc1 hc2
     go_wp2_with fail
     refine (dM.jE _ _).mono ?_
     rintro e w2 ⟨rfl, hw2⟩
     subst hw2
     rw [N7.out]
     go_wp2
     go_roundw
     case rel => exact ⟨k + 1, n * 10 + (c.toNat - 48), by omega, by go_num, by first | exact int_eq dL.out | go_num, by first | rfl | trivial, wQ.out, HT2.out⟩
     case measure => simp [intOf]; omega
   ·obtain rfl : k = s.size := by omega
    have hfull : s.data.toList.take s.size = s.data.toList := List.take_of_length_le (by rw [HL.out]; exact Nat.le_refl _)
    have hn : n < 1000 := by
     have h := wF 10 (by omega) _ HT.out
     rw [← HV.out, hfull, HL.out] at h
     have h3 : 10 ^ s.size ≤ 10 ^ 3 := Nat.pow_le_pow_right (by omega) LU.out.2
     omega
    have h1 := HT.out
    have h2 := HV.out
    rw [hfull] at h1 h2
    have hni : (n : Int) < 1000 := by omega
    clear hfull
    by_cases RX : n ≤ 255
    ·have HE : Hid (small s.data.toList = some n) := by
      show _ = _
      rw [h2] at RX ⊢
      exact if_pos ⟨by rw [HL.out]; exact LU.out.1, by rw [HL.out]; exact LU.out.2, by rw [HL.out]; exact HBR.out, h1, RX⟩
     have hle : (n : Int) ≤ 255 := by omega
     clear h1 h2 RX
     go_wp2
     go_ret2
     exact ⟨sv_some HE.out, rfl⟩
    ·have HE : Hid (small s.data.toList = none) := if_neg (fun e => RX (by rw [h2]; exact e.2.2.2.2))
     have hle : ¬ (n : Int) ≤ 255 := by omega
     clear h1 h2 RX
     go_wp2
     go_ret2
     exact ⟨DY HE.out _, rfl⟩
end Go.Proofs.YtmdofbccebkbiaaGreatDoor.JF
namespace Go.Proofs.YtmdofbccebkbiaaGreatDoor.uT
open Go.RowKit Base aT kW
def Max (w : World) : Prop := ∃ m, w.cell? ⟨2, 0, none⟩ = some (.int .i64 m)
theorem Max.below {w w' : World} (h : Max w) (hb : Below w.heap.size w w') : Max w' := by
 obtain ⟨m, hm⟩ := h
 exact ⟨m, (hb.cell (World.block_lt_of_cell? _ _ hm)).trans hm⟩
theorem ou (b : UInt8) (f : List UInt8 → List (List UInt8)) (f0 : f [] = [[]]) (f1 : ∀ L, f (b :: L) = [] :: f L) (f2 : ∀ c L, c ≠ b → f (c :: L) = match f L with
  | [] => [[c]]
  | x :: r => (c :: x) :: r) : ∀ (L : List UInt8) (k : Nat), L.count b ≤ k → Lib.splitK [b] 0 k L = f L
 | [], 0, _ => f0.symm
 | [], k + 1, _ => f0.symm
 | a :: l, 0, h => by
  have hb : a ≠ b := by rintro rfl; simp at h
  have ih := ou b f f0 f1 f2 l 0 (by rw [List.count_cons_of_ne (by simpa using hb)] at h; exact h)
  show [a :: l] = _
  rw [f2 a l hb, ← ih]
  rfl
 | a :: l, k + 1, h => by
  by_cases hb : a = b
  ·subst hb
   have ih := ou a f f0 f1 f2 l k (by simp at h; omega)
   have e : Lib.index (a :: l) [a] = 0 := by rw [Lib.index, if_pos (by simp [List.isPrefixOf])]
   rw [f1, Lib.splitK, e, if_neg (by decide)]
   show [] :: _ = _
   rw [← ih]
   rfl
  ·have hc : l.count b ≤ k + 1 := by rw [List.count_cons_of_ne (by simpa using hb)] at h; exact h
   have ih := ou b f f0 f1 f2 l (k + 1) hc
   have e : Lib.index (a :: l) [b] = if Lib.index l [b] == -1 then -1 else Lib.index l [b] + 1 := by rw [Lib.index, if_neg (by simp [List.isPrefixOf, Ne.symm hb])]
   rw [Lib.splitK] at ih ⊢
   rw [f2 a l hb, ← ih, e]
   by_cases hm : Lib.index l [b] = -1
   ·rw [hm]
    rfl
   ·have hge := Lib.index_ge l [b]
    obtain ⟨j, hj⟩ : ∃ j : Nat, Lib.index l [b] = j := ⟨(Lib.index l [b]).toNat, by omega⟩
    have h1 : ((j : Int) == -1) = false := beq_eq_false_iff_ne.2 (by omega)
    have h2 : ((j : Int) + 1 == -1) = false := beq_eq_false_iff_ne.2 (by omega)
    have h3 : ((j : Int) + 1).toNat = j + 1 := by omega
    simp only [hj, h1, Bool.false_eq_true, if_false, h2, h3]
    simp
def Read (w : World) (l : List (List UInt8)) (e : Ending) (w' : World) : Prop := ∃ A n c, e = .returned (.slice A n c) ∧ n = l.length ∧ n ≤ c ∧ c ≤ maxLen ∧ bK w' A n ((l.map strOf).map Value.string) ∧ Below w.heap.size w w'
theorem uS (b : UInt8) (f : List UInt8 → List (List UInt8)) (f0 : f [] = [[]]) (f1 : ∀ L, f (b :: L) = [] :: f L) (f2 : ∀ c L, c ≠ b → f (c :: L) = match f L with
  | [] => [[c]]
  | x :: r => (c :: x) :: r) (s : ByteArray) (w : World) (hs : s.size ≤ 1073741824) (hM : Max w) : Calls Tryz.prog 67 #[.string s, .string ⟨#[b]⟩] w (Read w (f s.data.toList)) := by
 obtain ⟨m, hm⟩ := hM
 refine (Tryz.strings_Split s ⟨#[b]⟩ m w (by omega) hm (Nat.le_refl _)).mono ?_
 rintro e w' ⟨rfl, rfl⟩
 have hd := Lib.splitB_data ⟨#[b]⟩ 0 (Lib.countB s ⟨#[b]⟩) s
 rw [show (⟨#[b]⟩ : ByteArray).data.toList = [b] from rfl, ou b f f0 f1 f2 _ _ (by rw [← Lib.count_one]; exact Nat.le_refl _)] at hd
 have hl := Lib.splitB_all ⟨#[b]⟩ (Nat.le_refl _) 0 _ s rfl
 have hc := Lib.countB_le ⟨#[b]⟩ (Nat.le_refl _) s.size s (Nat.le_refl _)
 generalize Lib.splitB ⟨#[b]⟩ 0 (Lib.countB s ⟨#[b]⟩) s = B at hd hl ⊢
 have hB : B = (f s.data.toList).map strOf := by
  rw [← hd, List.map_map]
  conv => lhs; rw [← List.map_id B]
  exact List.map_congr_left fun x _ => (aS x).symm
 unfold Read
 rw [← hB]
 refine ⟨_, _, _, rfl, by rw [← hl, hB, List.length_map], Nat.le_refl _, by unfold maxLen; omega, ?_, (Below.refl _ _).alloc (Nat.le_refl _) _⟩
 exact bK.kG (by rw [List.length_map, hl]) (by simp) (fun j hj => by
  rw [Nat.zero_add, World.cell?_alloc_mark]
  simp)
end Go.Proofs.YtmdofbccebkbiaaGreatDoor.uT
namespace Go.Proofs.YtmdofbccebkbiaaGreatDoor.uT
open Go.RowKit Base aT kW mX rH GV
theorem Qp (s : ByteArray) (w : World) (hs : s.size ≤ 1073741824) (hM : Max w) : Calls Tryz.prog 67 #[.string s, .string ⟨#[46]⟩] w (Read w (bY s.data.toList)) :=
 uS 46 bY rfl (fun L => by rw [bY, if_pos rfl]) (fun c L h => by rw [bY, if_neg h]; cases bY L <;> rfl) s w hs hM
theorem Qr (s : ByteArray) (w : World) (hs : s.size ≤ 1073741824) (hM : Max w) : Calls Tryz.prog 67 #[.string s, .string ⟨#[58]⟩] w (Read w (dw s.data.toList)) :=
 uS 58 dw rfl dU (fun c L h => by rw [dw, if_neg h]; cases dw L <;> rfl) s w hs hM
theorem has46 (L : List UInt8) : decide (0 ≤ Lib.indexByte L 46) = L.contains 46 := by
 have hge := Lib.indexByte_ge L 46
 by_cases h : Lib.indexByte L 46 = -1
 ·have hn := Lib.indexByte_none h
  rw [decide_eq_false (by omega)]
  cases e : L.contains 46 with
  | false => rfl
  | true =>
   have hm : (46 : UInt8) ∈ L := by simpa using e
   obtain ⟨j, hj, he⟩ := List.getElem_of_mem hm
   exact absurd (List.getElem?_eq_some_iff.2 ⟨hj, he⟩) (hn j)
 ·obtain ⟨o, ho⟩ : ∃ o : Nat, Lib.indexByte L 46 = o := ⟨(Lib.indexByte L 46).toNat, by omega⟩
  have hs := (Lib.indexByte_some ho).1
  rw [decide_eq_true (by omega)]
  obtain ⟨hj, he⟩ := List.getElem?_eq_some_iff.1 hs
  symm
  simpa using (show (46 : UInt8) ∈ L by rw [← he]; exact List.getElem_mem _)
theorem CG (s : ByteArray) (w : World) : Calls Tryz.prog 60 #[.string s, .string ⟨#[46]⟩] w fun e w' => e = .returned (.bool (s.data.toList.contains 46)) ∧ w = w' := by
 refine (Tryz.strings_Contains_one s 46 w).mono ?_
 rintro e w' ⟨rfl, rfl⟩
 exact ⟨aj (has46 _), rfl⟩
theorem KP : ∀ (s : List UInt8), Lib.cut s [58, 58] = match wV s with
  | some p => (p.1, p.2, true)
  | none => (s, [], false)
 | [] => rfl
 | [a] => by
  by_cases h : a = 58
  ·subst h; rfl
  ·have : Lib.index [a] [58, 58] = -1 := by
    rw [Lib.index, if_neg (by simp [List.isPrefixOf])]
    rfl
   unfold Lib.cut
   rw [this]
   rfl
 | a :: b :: r => by
  have ih := KP (b :: r)
  rw [wV]
  by_cases h : a = 58 ∧ b = 58
  ·obtain ⟨rfl, rfl⟩ := h
   rw [if_pos ⟨rfl, rfl⟩]
   have : Lib.index (58 :: 58 :: r) [58, 58] = 0 := by rw [Lib.index, if_pos (by simp [List.isPrefixOf])]
   unfold Lib.cut
   rw [this]
   rfl
  ·rw [if_neg h]
   have e : Lib.index (a :: b :: r) [58, 58] = if Lib.index (b :: r) [58, 58] == -1 then -1 else Lib.index (b :: r) [58, 58] + 1 := by
    rw [Lib.index, if_neg]
    simp only [List.isPrefixOf, Bool.and_eq_true, beq_iff_eq]
    rintro ⟨h1, h2, _⟩
    exact h ⟨h1.symm, h2.symm⟩
   have hge := Lib.index_ge (b :: r) [58, 58]
   unfold Lib.cut at ih ⊢
   rw [e]
   by_cases hm : Lib.index (b :: r) [58, 58] = -1
   ·rw [hm] at ih ⊢
    cases hc : wV (b :: r) with
    | none => rfl
    | some p => rw [hc] at ih; simp at ih
   ·obtain ⟨j, hj⟩ : ∃ j : Nat, Lib.index (b :: r) [58, 58] = j := ⟨(Lib.index (b :: r) [58, 58]).toNat, by omega⟩
    rw [hj] at ih ⊢
    have h1 : ((j : Int) == -1) = false := beq_eq_false_iff_ne.2 (by omega)
    rw [if_pos (by omega)] at ih
    simp only [h1, Bool.false_eq_true, if_false]
    rw [if_pos (by omega)]
    cases hc : wV (b :: r) with
    | none => rw [hc] at ih; simp at ih
    | some p =>
     rw [hc] at ih
     simp only [Prod.mk.injEq] at ih ⊢
     have h3 : ((j : Int) + 1).toNat = j + 1 := by omega
     rw [h3, ← ih.1, ← ih.2.1]
     refine ⟨?_, ?_, ?_⟩
     ·simp
     ·show List.drop (j + 2 + 1) (a :: b :: r) = List.drop (j + 2) (b :: r)
      rw [List.drop_succ_cons]
     ·trivial
def cutV (s : ByteArray) : Value := match wV s.data.toList with
 | some p => .tuple #[.string (strOf p.1), .string (strOf p.2), .bool true]
 | none => .tuple #[.string s, .string (strOf []), .bool false]
theorem cut_any (s : ByteArray) (w : World) (hs : s.size ≤ 1073741824) (hM : Max w) : Calls Tryz.prog 80 #[.string s, .string ⟨#[58, 58]⟩] w fun e w' => e = .returned (cutV s) ∧ ∃ n, w' = w.drewN n := by
 obtain ⟨m, hm⟩ := hM
 refine (Tryz.strings_Cut s ⟨#[58, 58]⟩ m w (by omega) hm).mono ?_
 rintro e w' ⟨rfl, hn⟩
 refine ⟨?_, hn⟩
 rw [show (⟨#[58, 58]⟩ : ByteArray).data.toList = [58, 58] from rfl, KP]
 unfold cutV
 cases wV s.data.toList with
 | none => exact ret3 (by show Value.string (strOf s.data.toList) = _; rw [aS]) rfl rfl
 | some p => rfl
end Go.Proofs.YtmdofbccebkbiaaGreatDoor.uT
namespace Go.Proofs.YtmdofbccebkbiaaGreatDoor.GU
open Go.RowKit Base aT kW dM mX rH GV JF uT
theorem drop_at {α : Type} (R : List α) (k : Nat) (p : α) (hk : k < R.length) (h : R[k] = p) : R.drop k = p :: R.drop (k + 1) := by rw [← h]; exact List.drop_eq_getElem_cons hk
def aN (L : List Nat) : List Value := L.map fun (n : Nat) => Value.int .u16 (n : Int)
theorem jG (L : List Nat) : (aN L).length = L.length := by simp [aN]
theorem vO (a b : List Nat) : aN (a ++ b) = aN a ++ aN b := by simp [aN]
theorem SQ (L : List Nat) : ∀ u ∈ aN L, u.oneCell' = true := by
 intro u hu
 simp only [aN, List.mem_map] at hu
 obtain ⟨c, _, rfl⟩ := hu
 rfl
def Box (w : World) (g : Nat) (t : TypeId) (L : List Nat) : Prop := w.heap[g]? = some (.cells (aN L).toArray t (0, 0))
theorem Box.cell {w : World} {g : Nat} {t : TypeId} {L : List Nat} (h : Box w g t L) (j : Nat) (hj : j < L.length) : w.cell? ⟨g, j, none⟩ = some (.int .u16 (L[j] : Int)) := by
 refine (cell_of_row w g j _ _ _ h).trans ?_
 simp [aN, hj]
theorem Box.frozen {w : World} {g : Nat} {t : TypeId} {L : List Nat} (h : Box w g t L) (j : Nat) : w.frozen? ⟨g, j, none⟩ = false := by
 unfold World.frozen?
 rw [h]
 simp
theorem Box.set {w : World} {g : Nat} {t : TypeId} {L : List Nat} (h : Box w g t L) (j n : Nat) : Box (w.setCell ⟨g, j, none⟩ (.int .u16 (n : Int))) g t (L.set j n) := by
 have := heap_setCell_same w g j _ _ (.int .u16 (n : Int)) h
 unfold Box
 rw [this]
 simp [aN, List.map_set]
theorem Box.below {w w' : World} {g : Nat} {t : TypeId} {L : List Nat} (h : Box w g t L) (hb : Below w.heap.size w w') : Box w' g t L := (hb.block _ (Array.getElem?_eq_some_iff.1 h).1).trans h
theorem Box.lt {w : World} {g : Nat} {t : TypeId} {L : List Nat} (h : Box w g t L) : g < w.heap.size := (Array.getElem?_eq_some_iff.1 h).1
theorem Qm (p : List UInt8) (r : List (List UInt8)) (v : Nat) (h : small p = some v) : smalls (p :: r) = (smalls r).map (v :: ·) := by
 rw [smalls, h]
 cases smalls r <;> rfl
theorem Ql {p : List UInt8} {v : Nat} (h : small p = some v) : v ≤ 255 := by
 unfold small at h
 split at h
 ·rename_i h2; injection h with h; omega
 ·cases h
theorem rX (xs : List Nat) (v : Nat) (o : Option (List Nat)) : (o.map (v :: ·)).map (xs ++ ·) = o.map ((xs ++ [v]) ++ ·) := by
 cases o <;> simp
theorem JQ (L : List Nat) (k v : Nat) (h : k < L.length) : (L.set k v).take (k + 1) = L.take k ++ [v] := by
 rw [List.take_succ_eq_append_getElem (by simpa using h)]
 simp [List.take_set_of_le]
theorem U6 (a b : Nat) (ha : a ≤ 255) (hb : b ≤ 255) : bits .or .u16 ((a : Int) * 256) (b : Int) = ((a * 256 + b : Nat) : Int) := by
 rw [show ((a : Int) * 256) = ((a * 256 : Nat) : Int) by omega, u16_or_nat _ _ (by omega) (by omega)]
 have := Nat.shiftLeft_add_eq_or_of_lt (i := 8) (b := b) (by omega) a
 rw [Nat.shiftLeft_eq] at this
 rw [← this]
def QV (o : Option (List Nat)) : Value := match o with
 | some [a, b] => .tuple #[.int .u16 (a : Int), .int .u16 (b : Int), .bool true]
 | _ => .tuple #[.int .u16 0, .int .u16 0, .bool false]
theorem Vf {o : Option (List Nat)} (h : o = none) : QV o = .tuple #[.int .u16 0, .int .u16 0, .bool false] := by rw [h]; rfl
theorem qv_some {o : Option (List Nat)} {a b : Nat} (h : o = some [a, b]) : QV o = .tuple #[.int .u16 (a : Int), .int .u16 (b : Int), .bool true] := by rw [h]; rfl
theorem I8 : ∀ {ps : List (List UInt8)} {l : List Nat}, smalls ps = some l → l.length = ps.length
 | [], l, h => by injection h with h; subst h; rfl
 | p :: r, l, h => by
  rw [smalls] at h
  split at h
  ·rename_i n x h1 h2
   injection h with h
   subst h
   simp [I8 h2]
  ·cases h
theorem Xd {t : List UInt8} (h : (bY t).length ≠ 4) : jY t = none := by
 unfold jY
 cases e : smalls (bY t) with
 | none => rfl
 | some l => exact Qx (by rw [I8 e]; exact h)
theorem P8 (s : ByteArray) (w : World) (hs : s.size ≤ 1073741824) (hM : Max w) : Calls Tryz.prog 262 #[.string s] w fun e w' => e = .returned (QV (jY s.data.toList)) ∧ Below w.heap.size w w' := by
 have hsl : s.data.toList.length = s.size := Array.length_toList
 obtain ⟨S, hS⟩ : ∃ S, S = jY s.data.toList := ⟨_, rfl⟩
 obtain ⟨R, hR⟩ : ∃ R, R = bY s.data.toList := ⟨_, rfl⟩
 have wG : Hid (∀ p ∈ R, p.length ≤ 1073741824) := by
  intro p hp
  rw [hR] at hp
  have := oz _ p hp
  omega
 have HR := hid hR
 have HS := hid hS
 have Uc := hid hM
 rw [← hS]
 clear hS hR hM hsl
 go_enter Tryz.func262, Tryz.ntmps262
 go_wp2_with fail
 refine (Qp s _ hs Uc.out).mono ?_
 rintro e w3 ⟨A, n, c, rfl, hn, hnc, hcm, hrd, hb⟩
 rw [← HR.out] at hn hrd
 have HN := hid hn
 have sV := hid hrd
 have HB := hid hb
 unfold maxLen at hcm
 clear hn hrd hb
 by_cases h4 : n = 4
 ·subst h4
  obtain ⟨g, off, rfl, hg, _⟩ := sV.out.spot (by omega)
  go_wp2
  generalize hw4 : w3.alloc _ = w4
  have wK : Below w3.heap.size w3 w4 := by rw [← hw4]; exact (Below.refl _ _).alloc (Nat.le_refl _) _
  have xq : Hid (Box w4 w3.heap.size 224 [0, 0, 0, 0]) := by show Box _ _ _ _; rw [← hw4]; exact heap_alloc_new _ _
  have HW0 : Hid (smalls R = (smalls (R.drop 0)).map (([] : List Nat) ++ ·)) := by show _ = _; rw [List.drop_zero]; cases smalls R <;> simp
  clear hw4
  go_loopw [7, 8, 9, 10, 18] (fun _ _ _ _ vk wr => ∃ (k : Nat) (L : List Nat), k ≤ 4 ∧ vk = .int .i64 (k : Int) ∧ L.length = 4 ∧ Hid (Box wr w3.heap.size 224 L) ∧ Hid (Below w3.heap.size w3 wr) ∧ Hid (smalls R = (smalls (R.drop k)).map (L.take k ++ ·)) ∧ Hid (∀ x ∈ L, x ≤ 255)) (fun _ _ _ _ vk _ => 4 - (intOf vk).toNat)
  case atStart => exact ⟨0, [0, 0, 0, 0], by omega, rfl, rfl, xq, wK, HW0, by intro x hx; simp at hx; omega⟩
  case round =>
   clear HW0 xq wK
   obtain ⟨k, L, hk, rfl, hL, xq, eP, HW, zO⟩ := hrel
   by_cases hlt : k < 4
   ·obtain ⟨p, hp⟩ : ∃ p, R[k]'(by rw [← HN.out]; exact hlt) = p := ⟨_, rfl⟩
    obtain ⟨Y, hY⟩ : ∃ Y, Y = strOf p := ⟨_, rfl⟩
    have jK : Hid (Y.data.toList = p) := by show _ = _; rw [hY]; rfl
    have hcl : wr.cell? ⟨g, off + k, none⟩ = some (.string Y) := by
     obtain ⟨b', o', e1, _, hc'⟩ := (sV.out.below eP.out).2 k (by rw [List.length_map, List.length_map, ← HN.out]; exact hlt)
     cases e1
     rw [hc', List.getElem_map, List.getElem_map, hp, hY]
    have HDR : Hid (R.drop k = p :: R.drop (k + 1)) := drop_at R k p (by rw [← HN.out]; exact hlt) hp
    clear hp hY
    cases hsm : small p with
    | none =>
     have HE : Hid (QV S = .tuple #[.int .u16 0, .int .u16 0, .bool false]) := by
      refine Vf ?_
      rw [HS.out]
      refine rY ?_
      rw [← HR.out, HW.out, HDR.out, jl hsm]
      rfl
     have HSM := hid hsm
     clear hsm
     go_wp2_with fail
     refine (Lj Y _).mono ?_
     rw [jK.out, HSM.out]
     rintro e w5 ⟨⟨x, rfl⟩, rfl⟩
     go_wp2
     go_ret3
     exact ⟨by rw [HE.out]; rfl, bel HB.out eP.out⟩
    | some v =>
     have hv := Ql hsm
     have HSM := hid hsm
     have HW2 : Hid (smalls R = (smalls (R.drop (k + 1))).map ((L.set k v).take (k + 1) ++ ·)) := by
      show _ = _
      rw [HW.out, HDR.out, Qm p _ v hsm, JQ L k v (by omega), rX]
     have hc0 := xq.out.cell k (by omega)
     have hf0 := xq.out.frozen k
     have HB2 := hid (xq.out.set k v)
     have HBL2 : Hid (Below w3.heap.size w3 (wr.setCell ⟨w3.heap.size, k, none⟩ (.int .u16 (v : Int)))) := eP.out.setCell (Nat.le_refl _) _
     have qG : Hid (∀ x ∈ L.set k v, x ≤ 255) := by
      intro x hx
      rcases List.mem_or_eq_of_mem_set hx with h | h
      ·exact zO.out x h
      ·omega
     clear hsm hv
     go_wp2_with fail
     refine (Lj Y _).mono ?_
     rw [jK.out, HSM.out]
     rintro e w5 ⟨rfl, rfl⟩
     go_wp2
     go_roundw
     case rel => exact ⟨k + 1, L.set k v, by omega, by go_num, by rw [List.length_set]; exact hL, HB2.out, HBL2.out, HW2.out, qG.out⟩
     case measure => simp [intOf]; omega
   ·obtain rfl : k = 4 := by omega
    have hall : smalls R = some L := by
     rw [HW.out, List.drop_eq_nil_of_le (by rw [← HN.out]; exact Nat.le_refl _), List.take_of_length_le (by omega)]
     simp [smalls]
    match L, hL, xq, zO, hall with
    | [a, b, c, d], _, xq, zO, hall =>
     have ha := zO.out a (by simp)
     have hb := zO.out b (by simp)
     have hc := zO.out c (by simp)
     have hd := zO.out d (by simp)
     have HE : Hid (QV S = .tuple #[.int .u16 ((a * 256 + b : Nat) : Int), .int .u16 ((c * 256 + d : Nat) : Int), .bool true]) := by
      refine qv_some ?_
      rw [HS.out]
      unfold jY
      rw [← HR.out, hall]
      rfl
     have c0 := xq.out.cell 0 (by simp)
     have c1 := xq.out.cell 1 (by simp)
     have c2 := xq.out.cell 2 (by simp)
     have c3 := xq.out.cell 3 (by simp)
     simp only [List.getElem_cons_zero, List.getElem_cons_succ] at c0 c1 c2 c3
     have o1 := U6 a b ha hb
     have o2 := U6 c d hc hd
     have hai : (a : Int) ≤ 255 := by omega
     have hci : (c : Int) ≤ 255 := by omega
     have HBZ := hid (bel HB.out eP.out)
     clear hall hL xq zO eP HW ha hb hc hd
     go_wp2_with fail
     go_quiet (fail)
     go_wp2
     go_ret3
     exact ⟨by rw [HE.out]; rfl, Base.below_drewN HBZ.out _⟩
 ·have HE : Hid (QV S = .tuple #[.int .u16 0, .int .u16 0, .bool false]) := by
   refine Vf ?_
   rw [HS.out]
   exact Xd (by rw [← HR.out, ← HN.out]; exact h4)
  have h4i : ¬ (n : Int) = 4 := by omega
  go_wp2
  go_ret3
  exact ⟨by rw [HE.out]; rfl, HB.out⟩
def PcV (w : World) (o : Option (List Nat)) (e : Ending) (w' : World) : Prop := match o with
 | some l => ∃ v, e = .returned (.tuple #[v, .bool true]) ∧ w'.ownsRow w.heap.size 182 1 v l.length (aN l)
 | none => ∃ v, e = .returned (.tuple #[v, .bool false])
theorem yG {w w' : World} {o : Option (List Nat)} (h : o = none) (v : Value) : PcV w o (.returned (.tuple #[v, .bool false])) w' := by rw [h]; exact ⟨v, rfl⟩
theorem Dz {w w' : World} {o : Option (List Nat)} {l : List Nat} (h : o = some l) (v : Value) (ho : w'.ownsRow w.heap.size 182 1 v l.length (aN l)) : PcV w o (.returned (.tuple #[v, .bool true])) w' := by rw [h]; exact ⟨v, rfl, ho⟩
theorem Zn : (Tryz.prog.info? 182).map (fun i => (i.zero, i.size, i.bytes)) = some (some (.int .u16 0), 1, 2) := by kernel_rfl
def NB (e : Bool) (r : List (List UInt8)) (p : List UInt8) : Prop := ¬ (e = true ∧ r = [] ∧ p.contains 46 = true)
theorem ZR {e : Bool} {p : List UInt8} {r : List (List UInt8)} (h : NB e r p) {v : Nat} (hp : piece p = some v) : gJ e (p :: r) = (gJ e r).map (v :: ·) := by
 rw [gJ, if_neg h, hp]
 cases gJ e r <;> rfl
theorem Tc {e : Bool} {p : List UInt8} {r : List (List UInt8)} (h : NB e r p) (hp : piece p = none) : gJ e (p :: r) = none := by
 rw [gJ, if_neg h, hp]
theorem ZW {p : List UInt8} {v : Nat} (h : piece p = some v) : v < 65536 := by
 unfold piece at h
 split at h
 ·rename_i h2
  injection h with h
  have h3 := wF 16 (by omega) p h2.2.2
  have h4 : 16 ^ p.length ≤ 16 ^ 4 := Nat.pow_le_pow_right (by omega) h2.2.1
  omega
 ·cases h
theorem two_ex {l x : List Nat} (h : two l = some x) : ∃ a b, x = [a, b] := by
 unfold two at h
 split at h
 ·injection h with h; exact ⟨_, _, h.symm⟩
 ·cases h
theorem Nu {p : List UInt8} {x : List Nat} (h : jY p = some x) : ∃ a b, x = [a, b] := by
 unfold jY at h
 cases e : smalls (bY p) with
 | none => rw [e] at h; cases h
 | some l => rw [e] at h; exact two_ex h
theorem II (s : ByteArray) (e : Bool) (w : World) (hs : s.size ≤ 1048576) (hM : Max w) : Calls Tryz.prog 250 #[.string s, .bool e] w fun en w' => PcV w (gJ e (dw s.data.toList)) en w' ∧ Below w.heap.size w w' := by
 have hsl : s.data.toList.length = s.size := Array.length_toList
 obtain ⟨i0, hi, hz0, hz1, hz2⟩ := info_parts Zn
 obtain ⟨R, hR⟩ : ∃ R, R = dw s.data.toList := ⟨_, rfl⟩
 have wG : Hid (∀ p ∈ R, p.length ≤ 1073741824) := by
  intro p hp
  rw [hR] at hp
  have := zJ _ p hp
  omega
 have hRl : R.length ≤ 1048577 := by have := yB s.data.toList; rw [hR]; omega
 rw [← hR]
 obtain ⟨S, hS⟩ : ∃ S, S = gJ e R := ⟨_, rfl⟩
 rw [← hS]
 have HR := hid hR
 have HS := hid hS
 have Uc := hid hM
 clear hR hM hsl hS
 go_enter Tryz.func250, Tryz.ntmps250
 go_wp2_with fail
 refine (Qr s _ (by omega) Uc.out).mono ?_
 rintro en w3 ⟨A, n, c, rfl, hn, hnc, hcm, hrd, hb⟩
 rw [← HR.out] at hn hrd
 rw [← hn] at hRl
 have HN := hid hn
 have sV := hid hrd
 have HB := hid hb
 unfold maxLen at hcm
 have hnp : 0 < n := by rw [hn, HR.out]; exact List.length_pos_iff.2 (jB _)
 clear hn hrd hb
 have HW0 : Hid (S = (gJ e (R.drop 0)).map (([] : List Nat) ++ ·)) := by show _ = _; rw [List.drop_zero, HS.out]; cases gJ e R <;> simp
 have xE : Hid (Max w3) := Uc.out.below HB.out
 obtain ⟨g, off, rfl, hg, _⟩ := sV.out.spot hnp
 go_wp2
 go_loopw [6, 8, 9, 13, 14, 19] (fun vl _ _ _ _ vk wr => ∃ (k : Nat) (xs : List Nat), k ≤ n ∧ xs.length ≤ k ∧ vk = .int .i64 (k : Int) ∧ Hid (wr.ownsRow w3.heap.size 182 1 vl xs.length (aN xs)) ∧ Hid (Below w3.heap.size w3 wr) ∧ Hid (S = (gJ e (R.drop k)).map (xs ++ ·))) (fun _ _ _ _ _ vk _ => n - (intOf vk).toNat)
 case atStart => exact ⟨0, [], by omega, Nat.le_refl _, rfl, World.ownsRow_nil _ _ _ _, Below.refl _ _, HW0⟩
 case round =>
  clear HW0
  obtain ⟨k, xs, hk, hxk, rfl, HO, eP, HW⟩ := hrel
  by_cases hlt : k < n
  ·obtain ⟨p, hp⟩ : ∃ p, R[k]'(by rw [← HN.out]; exact hlt) = p := ⟨_, rfl⟩
   obtain ⟨Y, hY⟩ : ∃ Y, Y = strOf p := ⟨_, rfl⟩
   obtain ⟨m, hm⟩ : ∃ m, m = xs.length := ⟨_, rfl⟩
   have jK : Hid (Y.data.toList = p) := by show _ = _; rw [hY]; rfl
   have hcl : wr.cell? ⟨g, off + k, none⟩ = some (.string Y) := by
    obtain ⟨b', o', e1, _, hc'⟩ := (sV.out.below eP.out).2 k (by rw [List.length_map, List.length_map, ← HN.out]; exact hlt)
    cases e1
    rw [hc', List.getElem_map, List.getElem_map, hp, hY]
   have HYS : Hid (Y.size ≤ 1073741824) := by
    show _ ≤ _
    rw [hY, ah]
    exact wG.out p (by rw [← hp]; exact List.getElem_mem _)
   have HDR : Hid (R.drop k = p :: R.drop (k + 1)) := drop_at R k p (by rw [← HN.out]; exact hlt) hp
   have XQ : Hid (R.drop (k + 1) = [] ↔ k + 1 = n) := by
    show _ ↔ _
    rw [List.drop_eq_nil_iff, ← HN.out]
    omega
   rw [← hm] at HO hxk
   have HM := hid hm
   have hbw : wr.heap.size ≥ w3.heap.size := eP.out.size
   clear hp hY hm
   cases e with
   | false =>
    have VG : Hid (NB false (R.drop (k + 1)) p) := fun h => by cases h.1
    cases hpc : piece p with
    | none =>
     have HE : Hid (S = none) := by show _ = _; rw [HW.out, HDR.out, Tc VG.out hpc]; rfl
     have XW := hid hpc
     clear hpc
     go_wp2_with fail
     refine (qE Y _).mono ?_
     rw [jK.out, XW.out]
     rintro e5 w5 ⟨rfl, hw5⟩
     subst hw5
     rw [PV]
     go_wp2
     go_ret2
     exact ⟨yG HE.out _, bel HB.out eP.out⟩
    | some v =>
     have XW := hid hpc
     have HW2 : Hid (S = (gJ false (R.drop (k + 1))).map ((xs ++ [v]) ++ ·)) := by show _ = _; rw [HW.out, HDR.out, ZR VG.out hpc, rX]
     have hown := HO.out
     have hbel := eP.out
     clear hpc HO eP HW
     go_wp2_with fail
     refine (qE Y _).mono ?_
     rw [jK.out, XW.out]
     rintro e5 w5 ⟨rfl, hw5⟩
     subst hw5
     rw [PV]
     go_wp2_with (at_builtin; refine bC rfl _ _ 206 rfl w3.heap.size 182 i0 (.int .u16 0) 2 Tryz.underlying206 hi hz0 hz1 hz2 rfl _ m _ rfl hown hbel hbel.size [.int .u16 (v : Int)] 1 rfl rfl (by intro u hu; simp at hu; subst hu; rfl) (by unfold maxLen; omega) (by omega) ?_)
     intro v7 w7 dF dh
     have FN : Hid (w7.ownsRow w3.heap.size 182 1 v7 (xs ++ [v]).length (aN (xs ++ [v]))) := by
      show World.ownsRow _ _ _ _ _ _ _
      rw [List.length_append, ← HM.out, vO]
      exact dF
     have uU := hid dh
     clear hown hbel dF dh
     go_wp2
     go_roundw
     case rel => exact ⟨k + 1, xs ++ [v], by omega, by rw [List.length_append, ← HM.out]; show m + 1 ≤ _; omega, by go_num, FN.out, uU.out, HW2.out⟩
     case measure => simp [intOf]; omega
   | true =>
    by_cases hkn : k + 1 = n
    ·have HKN := hid hkn
     have hq : ((k : Int) == (n : Int) - 1) = true := by simp; omega
     cases hct : p.contains 46 with
     | true =>
      have LQ := hid hct
      clear hct hkn
      go_wp2_with fail
      refine (CG Y _).mono ?_
      rw [jK.out, LQ.out]
      rintro e4 w4 ⟨rfl, hw4⟩
      subst hw4
      have HCOND : Hid (gJ true (p :: R.drop (k + 1)) = jY p) := by show _ = _; rw [gJ, if_pos ⟨rfl, XQ.out.2 HKN.out, LQ.out⟩]
      cases hqd : jY p with
      | none =>
       have HE : Hid (S = none) := by show _ = _; rw [HW.out, HDR.out, HCOND.out, hqd]; rfl
       have HQD : Hid (QV (jY p) = .tuple #[.int .u16 0, .int .u16 0, .bool false]) := by show _ = _; rw [hqd]; rfl
       have hown := HO.out
       clear hqd HO
       go_wp2_with fail
       refine (P8 Y _ HYS.out (xE.out.below eP.out)).mono ?_
       rw [jK.out, HQD.out]
       rintro e5 w5 ⟨rfl, hb5⟩
       have hown5 := aK hown hb5
       have rQ : Below w3.heap.size w3 w5 := eP.out.trans (hb5.mono hbw)
       clear hown hb5
       go_wp2_with (at_builtin; refine bC rfl _ _ 206 rfl w3.heap.size 182 i0 (.int .u16 0) 2 Tryz.underlying206 hi hz0 hz1 hz2 rfl _ m _ rfl hown5 rQ rQ.size [.int .u16 0, .int .u16 0] 2 rfl rfl (by intro u hu; simp at hu; subst hu; rfl) (by unfold maxLen; omega) (by omega) ?_)
       intro v7 w7 dF dh
       have uU := hid dh
       clear hown5 rQ dF dh
       go_wp2
       go_ret2
       exact ⟨yG HE.out _, bel HB.out uU.out⟩
      | some x =>
       obtain ⟨a, b, rfl⟩ := Nu hqd
       have HE : Hid (S = some (xs ++ [a, b])) := by show _ = _; rw [HW.out, HDR.out, HCOND.out, hqd]; rfl
       have HQD : Hid (QV (jY p) = .tuple #[.int .u16 (a : Int), .int .u16 (b : Int), .bool true]) := by show _ = _; rw [hqd]; rfl
       have hown := HO.out
       clear hqd HO
       go_wp2_with fail
       refine (P8 Y _ HYS.out (xE.out.below eP.out)).mono ?_
       rw [jK.out, HQD.out]
       rintro e5 w5 ⟨rfl, hb5⟩
       have hown5 := aK hown hb5
       have rQ : Below w3.heap.size w3 w5 := eP.out.trans (hb5.mono hbw)
       clear hown hb5
       go_wp2_with (at_builtin; refine bC rfl _ _ 206 rfl w3.heap.size 182 i0 (.int .u16 0) 2 Tryz.underlying206 hi hz0 hz1 hz2 rfl _ m _ rfl hown5 rQ rQ.size [.int .u16 (a : Int), .int .u16 (b : Int)] 2 rfl rfl (by intro u hu; simp at hu; rcases hu with rfl | rfl <;> rfl) (by unfold maxLen; omega) (by omega) ?_)
       intro v7 w7 dF dh
       have FN : Hid (w7.ownsRow w3.heap.size 182 1 v7 (xs ++ [a, b]).length (aN (xs ++ [a, b]))) := by
        show World.ownsRow _ _ _ _ _ _ _
        rw [List.length_append, ← HM.out, vO]
        exact dF
       have uU := hid dh
       clear hown5 rQ dF dh
       go_wp2
       go_ret2
       exact ⟨Dz HE.out _ (ay FN.out HB.out.size), bel HB.out uU.out⟩
     | false =>
      have LQ := hid hct
      have VG : Hid (NB true (R.drop (k + 1)) p) := fun h => by rw [LQ.out] at h; cases h.2.2
      clear hct hkn
      go_wp2_with fail
      refine (CG Y _).mono ?_
      rw [jK.out, LQ.out]
      rintro e4 w4 ⟨rfl, hw4⟩
      subst hw4
      cases hpc : piece p with
      | none =>
       have HE : Hid (S = none) := by show _ = _; rw [HW.out, HDR.out, Tc VG.out hpc]; rfl
       have XW := hid hpc
       clear hpc
       go_wp2_with fail
       refine (qE Y _).mono ?_
       rw [jK.out, XW.out]
       rintro e5 w5 ⟨rfl, hw5⟩
       subst hw5
       rw [PV]
       go_wp2
       go_ret2
       exact ⟨yG HE.out _, bel HB.out eP.out⟩
      | some v =>
       have XW := hid hpc
       have HW2 : Hid (S = (gJ true (R.drop (k + 1))).map ((xs ++ [v]) ++ ·)) := by show _ = _; rw [HW.out, HDR.out, ZR VG.out hpc, rX]
       have hown := HO.out
       have hbel := eP.out
       clear hpc HO eP HW
       go_wp2_with fail
       refine (qE Y _).mono ?_
       rw [jK.out, XW.out]
       rintro e5 w5 ⟨rfl, hw5⟩
       subst hw5
       rw [PV]
       go_wp2_with (at_builtin; refine bC rfl _ _ 206 rfl w3.heap.size 182 i0 (.int .u16 0) 2 Tryz.underlying206 hi hz0 hz1 hz2 rfl _ m _ rfl hown hbel hbel.size [.int .u16 (v : Int)] 1 rfl rfl (by intro u hu; simp at hu; subst hu; rfl) (by unfold maxLen; omega) (by omega) ?_)
       intro v7 w7 dF dh
       have FN : Hid (w7.ownsRow w3.heap.size 182 1 v7 (xs ++ [v]).length (aN (xs ++ [v]))) := by
        show World.ownsRow _ _ _ _ _ _ _
        rw [List.length_append, ← HM.out, vO]
        exact dF
       have uU := hid dh
       clear hown hbel dF dh
       go_wp2
       go_roundw
       case rel => exact ⟨k + 1, xs ++ [v], by omega, by rw [List.length_append, ← HM.out]; show m + 1 ≤ _; omega, by go_num, FN.out, uU.out, HW2.out⟩
       case measure => simp [intOf]; omega
    ·have hq : ((k : Int) == (n : Int) - 1) = false := by simp; omega
     have VG : Hid (NB true (R.drop (k + 1)) p) := fun h => hkn (XQ.out.1 h.2.1)
     clear hkn
     cases hpc : piece p with
     | none =>
      have HE : Hid (S = none) := by show _ = _; rw [HW.out, HDR.out, Tc VG.out hpc]; rfl
      have XW := hid hpc
      clear hpc
      go_wp2_with fail
      refine (qE Y _).mono ?_
      rw [jK.out, XW.out]
      rintro e5 w5 ⟨rfl, hw5⟩
      subst hw5
      rw [PV]
      go_wp2
      go_ret2
      exact ⟨yG HE.out _, bel HB.out eP.out⟩
     | some v =>
      have XW := hid hpc
      have HW2 : Hid (S = (gJ true (R.drop (k + 1))).map ((xs ++ [v]) ++ ·)) := by show _ = _; rw [HW.out, HDR.out, ZR VG.out hpc, rX]
      have hown := HO.out
      have hbel := eP.out
      clear hpc HO eP HW
      go_wp2_with fail
      refine (qE Y _).mono ?_
      rw [jK.out, XW.out]
      rintro e5 w5 ⟨rfl, hw5⟩
      subst hw5
      rw [PV]
      go_wp2_with (at_builtin; refine bC rfl _ _ 206 rfl w3.heap.size 182 i0 (.int .u16 0) 2 Tryz.underlying206 hi hz0 hz1 hz2 rfl _ m _ rfl hown hbel hbel.size [.int .u16 (v : Int)] 1 rfl rfl (by intro u hu; simp at hu; subst hu; rfl) (by unfold maxLen; omega) (by omega) ?_)
      intro v7 w7 dF dh
      have FN : Hid (w7.ownsRow w3.heap.size 182 1 v7 (xs ++ [v]).length (aN (xs ++ [v]))) := by
       show World.ownsRow _ _ _ _ _ _ _
       rw [List.length_append, ← HM.out, vO]
       exact dF
      have uU := hid dh
      clear hown hbel dF dh
      go_wp2
      go_roundw
      case rel => exact ⟨k + 1, xs ++ [v], by omega, by rw [List.length_append, ← HM.out]; show m + 1 ≤ _; omega, by go_num, FN.out, uU.out, HW2.out⟩
      case measure => simp [intOf]; omega
  ·obtain rfl : k = n := by omega
   have HE : Hid (S = some xs) := by
    show _ = _
    rw [HW.out, List.drop_eq_nil_of_le (by rw [← HN.out]; exact Nat.le_refl _)]
    simp [gJ]
   go_wp2
   go_ret2
   exact ⟨Dz HE.out _ (ay HO.out HB.out.size), bel HB.out eP.out⟩
theorem I5 (s : ByteArray) (e : Bool) (w : World) (hs : s.size ≤ 1048576) (hM : Max w) : Calls Tryz.prog 251 #[.string s, .bool e] w fun en w' => PcV w (fD e (dw s.data.toList)) en w' ∧ Below w.heap.size w w' := by
 by_cases h : s.data.toList = []
 ·have HE : Hid (fD e (dw s.data.toList) = some []) := by show _ = _; rw [h]; rfl
  have h1 : s.toList = [] := by rw [Lib.toList_data]; exact h
  clear h
  go_enter Tryz.func251, Tryz.ntmps251
  go_wp2
  go_ret2
  exact ⟨Dz HE.out _ (World.ownsRow_nil _ _ _ _), Below.refl _ _⟩
 ·have HE : Hid (fD e (dw s.data.toList) = gJ e (dw s.data.toList)) := l7 e (fun h2 => h (Jc.1 h2))
  have h1 : (s.toList == []) = false := by rw [Lib.toList_data]; simpa using h
  have h2 : s.toList.isEmpty = false := by rw [Lib.toList_data]; simpa using h
  have Uc := hid hM
  obtain ⟨S, hS⟩ : ∃ S, S = gJ e (dw s.data.toList) := ⟨_, rfl⟩
  have HS := hid hS
  rw [HE.out, ← hS]
  clear hM hS
  go_enter Tryz.func251, Tryz.ntmps251
  go_wp2_with fail
  refine (II s e _ hs Uc.out).mono ?_
  rw [← HS.out]
  rintro en w2 ⟨hp, hb⟩
  cases S with
  | none =>
   obtain ⟨v, rfl⟩ := hp
   go_wp2
   go_ret2
   exact ⟨yG rfl _, hb⟩
  | some l =>
   obtain ⟨v, rfl, ho⟩ := hp
   go_wp2
   go_ret2
   exact ⟨Dz rfl _ ho, hb⟩
end Go.Proofs.YtmdofbccebkbiaaGreatDoor.GU
namespace Go.Proofs.YtmdofbccebkbiaaGreatDoor.eF
open Go.RowKit Base aT kW dM mX rH GV JF GU uT
def mF : List Nat := [0, 0, 0, 0, 0, 0, 0, 0]
def Rj (o : Option (List Nat)) : Value := match o with
 | some V => .tuple #[.agg (aN V).toArray, .bool true]
 | none => .tuple #[.agg (aN mF).toArray, .bool false]
theorem fE {o : Option (List Nat)} (h : o = none) : Rj o = .tuple #[.agg (aN mF).toArray, .bool false] := by rw [h]; rfl
theorem uO {o : Option (List Nat)} {V : List Nat} (h : o = some V) : Rj o = .tuple #[.agg (aN V).toArray, .bool true] := by rw [h]; rfl
theorem dA {w : World} {g : Nat} {t : TypeId} {L : List Nat} (h : Box w g t L) (f : Nat → Nat) (hL : L = [f 0, f 1, f 2, f 3, f 4, f 5, f 6, f 7]) :
  w.cell? ⟨g, 0, none⟩ = some (.int .u16 (f 0 : Int)) ∧ w.cell? ⟨g, 1, none⟩ = some (.int .u16 (f 1 : Int)) ∧ w.cell? ⟨g, 2, none⟩ = some (.int .u16 (f 2 : Int)) ∧ w.cell? ⟨g, 3, none⟩ = some (.int .u16 (f 3 : Int)) ∧ w.cell? ⟨g, 4, none⟩ = some (.int .u16 (f 4 : Int)) ∧ w.cell? ⟨g, 5, none⟩ = some (.int .u16 (f 5 : Int)) ∧ w.cell? ⟨g, 6, none⟩ = some (.int .u16 (f 6 : Int)) ∧ w.cell? ⟨g, 7, none⟩ = some (.int .u16 (f 7 : Int)) := by
 subst hL
 refine ⟨h.cell 0 (by simp), h.cell 1 (by simp), h.cell 2 (by simp), h.cell 3 (by simp), h.cell 4 (by simp), h.cell 5 (by simp), h.cell 6 (by simp), h.cell 7 (by simp)⟩
theorem fO {w : World} {g : Nat} {t : TypeId} {L : List Nat} (h : Box w g t L) : w.frozen? ⟨g, 0, none⟩ = false ∧ w.frozen? ⟨g, 1, none⟩ = false ∧ w.frozen? ⟨g, 2, none⟩ = false ∧ w.frozen? ⟨g, 3, none⟩ = false ∧ w.frozen? ⟨g, 4, none⟩ = false ∧ w.frozen? ⟨g, 5, none⟩ = false ∧ w.frozen? ⟨g, 6, none⟩ = false ∧ w.frozen? ⟨g, 7, none⟩ = false :=
 ⟨h.frozen 0, h.frozen 1, h.frozen 2, h.frozen 3, h.frozen 4, h.frozen 5, h.frozen 6, h.frozen 7⟩
def qo (w : World) (g : Nat) (f : Nat → Nat) : World := (((((((w.setCell ⟨g, 0, none⟩ (.int .u16 (f 0 : Int))).setCell ⟨g, 1, none⟩ (.int .u16 (f 1 : Int))).setCell ⟨g, 2, none⟩ (.int .u16 (f 2 : Int))).setCell ⟨g, 3, none⟩ (.int .u16 (f 3 : Int))).setCell ⟨g, 4, none⟩ (.int .u16 (f 4 : Int))).setCell ⟨g, 5, none⟩ (.int .u16 (f 5 : Int))).setCell ⟨g, 6, none⟩ (.int .u16 (f 6 : Int))).setCell ⟨g, 7, none⟩ (.int .u16 (f 7 : Int))
theorem fM {w : World} {g : Nat} {t : TypeId} (h : Box w g t mF) (f : Nat → Nat) : Box (qo w g f) g t [f 0, f 1, f 2, f 3, f 4, f 5, f 6, f 7] :=
 (((((((h.set 0 (f 0)).set 1 (f 1)).set 2 (f 2)).set 3 (f 3)).set 4 (f 4)).set 5 (f 5)).set 6 (f 6)).set 7 (f 7)
theorem dB {w0 w : World} {B g : Nat} (h : Below B w0 w) (hg : B ≤ g) (f : Nat → Nat) : Below B w0 (qo w g f) := (((((((h.setCell hg _).setCell hg _).setCell hg _).setCell hg _).setCell hg _).setCell hg _).setCell hg _).setCell hg _
theorem load8 {w : World} {g : Nat} {L : List Nat} (h : Box w g 183 L) (hl : L.length = 8) : (loadVar 183 ⟨g, 0, none⟩).run Tryz.prog w = .ok (.agg (aN L).toArray) w :=
 run_loadVar_row w g _ _ (aN L).toArray (0, 0) _ h Tryz.underlying183 rfl (by
  rw [show (Tryz.prog.info? 183).map (·.size) = some 8 by kernel_rfl]
  simp [aN, hl])
theorem qp {w : World} {g : Nat} {L : List Nat} (h : Box w g 183 L) (hl : L.length = 8) (ok : Bool) (tmps : Array Value) (h2 : tmps.getD 2 undef = .pointer (some ⟨g, 0, none⟩)) (h3 : tmps.getD 3 undef = .bool ok) :
  (results Tryz.f230 tmps).run Tryz.prog w = .ok (.tuple #[.agg (aN L).toArray, .bool ok]) w := by
 have hp' : tmps[2]?.getD undef = .pointer (some ⟨g, 0, none⟩) := by simpa using h2
 have hq' : tmps[3]?.getD undef = .bool ok := by simpa using h3
 simp [results, Tryz.results230, hp', hq', asAddr, load8 h hl]
theorem aB {w w' : World} {base gb : Nat} {e : TypeId} {size n : Nat} {v : Value} {xs : List Value} (h : w.ownsRow base e size v n xs) (ho : ∀ k, k ≠ gb → w'.heap[k]? = w.heap[k]?) (hg : gb < base) : w'.ownsRow base e size v n xs := by
 refine ⟨h.1, ?_⟩
 rcases h.2 with hn | ⟨g, cap, cur, rfl, hb, hh, rest⟩
 ·exact .inl hn
 ·exact .inr ⟨g, cap, cur, rfl, hb, (ho g (by omega)).trans hh, rest⟩
theorem JI (L : List Nat) (off : Nat) (cs : List Nat) : splice (aN L) off (aN cs) = aN (splice L off cs) := by simp [splice, aN]
theorem xW {P : Program} {w : World} {ops : Array Oper} {rest : List Oper} {o : Oper} {a : Act} {Q : Exit → Act → World → Prop} (hgd : o.guard = none) (d s : Operand) (dT sT : TypeId)
  (ho : o.op = .call { callee := .builtin .copy, args := #[d, s], argTypes := #[dT, sT] }) (elem : TypeId) (hu : P.underlying dT = some (.slice elem)) (hsz : (P.info? elem).map (·.size) = some 1)
  (dp : Option Addr) (dLen dCap : Nat) (A : Option Addr) (n c : Nat) (hd : a.eval d = .slice dp dLen dCap) (hs : a.eval s = .slice A n c)
  (g off : Nat) (L : List Nat) (t : TypeId) (hg : Box w g t L) (cs : List Nat) (hr : bK w A n (aN cs)) (hn : n ≤ dLen) (hpos : 0 < n → dp = some ⟨g, off, none⟩) (hfit : off + cs.length ≤ L.length)
  (h : ∀ w', Hid (Box w' g t (splice L off cs)) → (∀ k, k ≠ g → w'.heap[k]? = w.heap[k]?) → Below g w w' → wpList P ops Q rest (a.put o.dst (goInt (aN cs).length)) w') :
  wpList P ops Q (o :: rest) a w := by
 have hl : cs.length = n := by rw [← jG]; exact hr.1
 by_cases h0 : n = 0
 ·subst h0
  obtain rfl : cs = [] := List.eq_nil_of_length_eq_zero hl
  refine wpList_copy_nothing hgd d s dT sT ho elem hu hsz dp A dLen dCap 0 c hd hs (by simp) ?_
  exact h w (show Box _ _ _ _ by simpa [splice] using hg) (fun _ _ => rfl) (Below.refl _ _)
 ·obtain rfl := hpos (by omega)
  obtain ⟨b, bo, rfl, _, hc⟩ := hr.spot (by omega)
  refine wpList_copy_own hgd d s dT sT ho elem hu hsz g off dLen dCap ⟨b, bo, none⟩ n c hd hs (aN L).toArray t hg (aN cs) (by rw [jG, hl]; exact (Nat.min_eq_left hn).symm) (fun j v hj => ?_) (by simpa [aN] using hfit) (SQ cs) ?_
  ·obtain ⟨hj', e⟩ := List.getElem?_eq_some_iff.1 hj
   have ha : (⟨b, bo, none⟩ : Addr).add j = ⟨b, bo + j, none⟩ := by
    unfold Addr.add
    split <;> simp_all
   rw [ha, hc j hj', e]
  ·refine h _ ?_ (fun k hk => setRow_other w g k _ hk) (below_setRow (Below.refl _ _) (Nat.le_refl _) _)
   have := setRow_heap w g (aN L).toArray ((aN L).take off ++ (aN cs ++ (aN L).drop (off + (aN cs).length))).toArray t (0, 0) hg
   show Box _ _ _ _
   unfold Box
   rw [← JI]
   exact this
theorem OL : ∀ {s : List UInt8} {p : List UInt8 × List UInt8}, wV s = some p → p.1.length ≤ s.length ∧ p.2.length ≤ s.length
 | [], _, h => by cases h
 | [_], _, h => by cases h
 | a :: b :: r, p, h => by
  rw [wV] at h
  split at h
  ·injection h with h; subst h; simp; omega
  ·cases e : wV (b :: r) with
   | none => rw [e] at h; cases h
   | some q =>
    rw [e] at h
    injection h with h
    subst h
    have := OL e
    simp at this ⊢
    omega
theorem ZU (e : Bool) : ∀ {ps : List (List UInt8)} {l : List Nat}, gJ e ps = some l → l.length ≤ ps.length + 1
 | [], l, h => by injection h with h; subst h; simp
 | p :: r, l, h => by
  rw [gJ] at h
  split at h
  ·have := DI h; simp; omega
  ·split at h
   ·cases h
   ·split at h
    ·cases h
    ·rename_i x e2
     injection h with h
     subst h
     have := ZU e e2
     simp
     omega
theorem Qh {e : Bool} {ps : List (List UInt8)} {l : List Nat} (h : fD e ps = some l) : l.length ≤ ps.length + 1 := by
 unfold fD at h
 split at h
 ·injection h with h; subst h; simp
 ·exact ZU e h
theorem wM {V : List Nat} (h : V.length = 8) : V = [V.getD 0 0, V.getD 1 0, V.getD 2 0, V.getD 3 0, V.getD 4 0, V.getD 5 0, V.getD 6 0, V.getD 7 0] := by
 match V, h with
 | [a, b, c, d, e, f, g, i], _ => rfl
theorem TK {l : List Nat} (h : l.length = 8) : splice mF 0 l = l := by
 unfold splice
 rw [h]
 simp [mF]
theorem FD (a b : List Nat) (h : a.length + b.length < 8) : splice (splice mF 0 a) (8 - b.length) b = fill a b := by
 have h1 : splice mF 0 a = a ++ List.replicate (8 - a.length) 0 := by
  unfold splice
  rw [show mF = List.replicate 8 0 from rfl, List.take_zero, List.nil_append, List.drop_replicate, Nat.zero_add]
 rw [h1]
 unfold splice fill
 rw [List.take_append, List.take_of_length_le (show a.length ≤ 8 - b.length by omega), List.take_replicate, List.drop_eq_nil_of_le (by simp; omega), List.append_nil]
 rw [show min (8 - b.length - a.length) (8 - a.length) = 8 - (a.length + b.length) by omega]
theorem parse_any (s : ByteArray) (w : World) (hs : s.size ≤ 1048576) (hM : Max w) : Calls Tryz.prog 230 #[.string s] w fun e w' => e = .returned (Rj (six s.data.toList)) ∧ Below w.heap.size w w' := by
 have Uc := hid hM
 clear hM
 go_enter Tryz.func230, Tryz.ntmps230
 go_wp2_with fail
 generalize hw1 : ((w.alloc _).alloc _).alloc _ = w1
 have HB1 : Hid (Below w.heap.size w w1) := by
  show Below _ _ _
  rw [← hw1]
  exact (((Below.refl _ _).alloc (Nat.le_refl _) _).alloc (by simp) _).alloc (by simp; omega) _
 have HA : Hid (Box w1 w.heap.size 183 mF) := by
  show Box _ _ _ _
  rw [← hw1]
  unfold Box
  rw [heap_alloc_old _ _ (by simp; omega), heap_alloc_old _ _ (by simp)]
  exact heap_alloc_new _ _
 have HN : Hid (Box w1 (w.heap.size + 1) 183 mF) := by
  show Box _ _ _ _
  rw [← hw1]
  unfold Box
  rw [heap_alloc_old _ _ (by simp)]
  have := heap_alloc_new (w.alloc (.cells (aN mF).toArray 183)) (.cells (aN mF).toArray 183)
  rw [show (w.alloc (.cells (aN mF).toArray 183)).heap.size = w.heap.size + 1 by simp] at this
  exact this
 have HV : Hid (Box w1 (w.heap.size + 1 + 1) 183 mF) := by
  show Box _ _ _ _
  rw [← hw1]
  unfold Box
  have := heap_alloc_new ((w.alloc (.cells (aN mF).toArray 183)).alloc (.cells (aN mF).toArray 183)) (.cells (aN mF).toArray 183)
  rw [show ((w.alloc (.cells (aN mF).toArray 183)).alloc (.cells (aN mF).toArray 183)).heap.size = w.heap.size + 1 + 1 by simp] at this
  exact this
 clear hw1
 refine (cut_any s _ (by omega) (Uc.out.below HB1.out)).mono ?_
 rintro e wc ⟨rfl, m, rfl⟩
 have HB2 : Hid (Below w.heap.size w (w1.drewN m)) := Base.below_drewN HB1.out m
 have HA2 : Hid (Box (w1.drewN m) w.heap.size 183 mF) := HA
 have AV : Hid (Box (w1.drewN m) (w.heap.size + 1) 183 mF) := HN
 have wQ : Hid (Box (w1.drewN m) (w.heap.size + 1 + 1) 183 mF) := HV
 generalize w1.drewN m = w2 at HB2 HA2 AV wQ
 clear HB1 HA HN HV
 cases hc : wV s.data.toList with
 | none =>
  have HC : Hid (six s.data.toList = eight (gJ true (dw s.data.toList)) []) := by show _ = _; unfold six; rw [hc]
  have HCV : Hid (cutV s = .tuple #[.string s, .string (strOf []), .bool false]) := by show _ = _; unfold cutV; rw [hc]
  rw [HCV.out]
  clear hc
  go_wp2_with fail
  refine (II s true _ hs (Uc.out.below HB2.out)).mono ?_
  rintro e w3 ⟨hp, hb3⟩
  have HB3 := hid (bel HB2.out hb3)
  have HA3 := hid (HA2.out.below hb3)
  have HN3 := hid (AV.out.below hb3)
  have HV3 := hid (wQ.out.below hb3)
  have HG3 := hid wQ.out.lt
  obtain ⟨S, hS⟩ : ∃ S, S = gJ true (dw s.data.toList) := ⟨_, rfl⟩
  rw [← hS] at hp HC
  clear hS hb3
  cases S with
  | none =>
   obtain ⟨v, rfl⟩ := hp
   have HE := hid (fE HC.out)
   obtain ⟨c0, c1, c2, c3, c4, c5, c6, c7⟩ := dA HN3.out (fun _ => 0) rfl
   obtain ⟨a0, a1, a2, a3, a4, a5, a6, a7⟩ := dA HA3.out (fun _ => 0) rfl
   obtain ⟨f0, f1, f2, f3, f4, f5, f6, f7⟩ := fO HA3.out
   go_wp2
   exact bodyPost_ret (w := qo _ w.heap.size (fun _ => 0)) (qp (L := mF) (fM HA3.out (fun _ => 0)) rfl false _ rfl rfl) rfl ⟨by rw [HE.out], dB HB3.out (Nat.le_refl _) _⟩
  | some l =>
   obtain ⟨v, rfl, ho⟩ := hp
   obtain ⟨A, c, rfl, hlc, hcm, hr⟩ := aU ho
   have HR := hid hr
   clear ho hr
   by_cases h8 : l.length = 8
   ·have Jw := hid h8
    have h8i : ((l.length : Int) == 8) = true := by simp; omega
    have h8n : (l.length : Int) = 8 := by omega
    rw [h8] at HR
    obtain ⟨n8, hn8⟩ : ∃ n8, n8 = l.length := ⟨_, rfl⟩
    rw [← hn8] at h8i h8n h8 hlc ⊢
    subst h8
    clear hn8
    go_wp2_with (refine xW rfl _ _ 206 206 rfl 182 Tryz.underlying206 (by kernel_rfl) _ _ _ A _ _ (by rfl) (by rfl) (w.heap.size + 1 + 1) 0 mF 183 HV3.out l HR.out (Nat.le_refl _) (fun _ => rfl) (by rw [Jw.out]; exact Nat.le_refl _) ?_)
    intro w4 hv4 XF hb4
    have HV4 : Hid (Box w4 (w.heap.size + 1 + 1) 183 l) := by have := hv4.out; rw [TK Jw.out] at this; exact this
    have jR : Hid (Box w4 w.heap.size 183 mF) := (XF _ (by omega)).trans HA3.out
    have HB4 : Hid (Below w.heap.size w w4) := HB3.out.trans (hb4.mono (by omega))
    clear hv4 XF hb4
    have HE := hid (uO (show six s.data.toList = some l by rw [HC.out]; unfold eight; simp only []; rw [if_pos (by rw [Jw.out]; rfl)]; rfl))
    obtain ⟨c0, c1, c2, c3, c4, c5, c6, c7⟩ := dA HV4.out (fun i => (l).getD i 0) (wM Jw.out)
    obtain ⟨a0, a1, a2, a3, a4, a5, a6, a7⟩ := dA jR.out (fun _ => 0) rfl
    obtain ⟨f0, f1, f2, f3, f4, f5, f6, f7⟩ := fO jR.out
    go_wp2
    exact bodyPost_ret (w := qo _ w.heap.size (fun i => (l).getD i 0)) (qp (fM jR.out (fun i => (l).getD i 0)) rfl true _ rfl rfl) rfl ⟨(congrArg (fun z => Ending.returned (.tuple #[.agg (aN z).toArray, .bool true])) (wM Jw.out).symm).trans (by rw [HE.out]), dB HB4.out (Nat.le_refl _) _⟩
   ·have h8i : ((l.length : Int) == 8) = false := by simp; omega
    have Jw := hid h8
    have HE := hid (fE (show six s.data.toList = none by rw [HC.out]; unfold eight; simp only []; rw [if_neg (by simpa using Jw.out)]))
    obtain ⟨c0, c1, c2, c3, c4, c5, c6, c7⟩ := dA HN3.out (fun _ => 0) rfl
    obtain ⟨a0, a1, a2, a3, a4, a5, a6, a7⟩ := dA HA3.out (fun _ => 0) rfl
    obtain ⟨f0, f1, f2, f3, f4, f5, f6, f7⟩ := fO HA3.out
    go_wp2
    exact bodyPost_ret (w := qo _ w.heap.size (fun _ => 0)) (qp (L := mF) (fM HA3.out (fun _ => 0)) rfl false _ rfl rfl) rfl ⟨by rw [HE.out], dB HB3.out (Nat.le_refl _) _⟩
 | some p =>
  have HC : Hid (six s.data.toList = both (fD false (dw p.1)) (fD true (dw p.2)) []) := by show _ = _; unfold six; rw [hc]
  have HCV : Hid (cutV s = .tuple #[.string (strOf p.1), .string (strOf p.2), .bool true]) := by show _ = _; unfold cutV; rw [hc]
  have hlen := OL hc
  have hsl : s.data.toList.length = s.size := Array.length_toList
  rw [HCV.out]
  clear hc
  obtain ⟨X, hXe⟩ : ∃ X, X = strOf p.1 := ⟨_, rfl⟩
  obtain ⟨Y, hYe⟩ : ∃ Y, Y = strOf p.2 := ⟨_, rfl⟩
  have hX : X.size ≤ 1048576 := by rw [hXe, ah]; omega
  have hY : Y.size ≤ 1048576 := by rw [hYe, ah]; omega
  obtain ⟨S1, hS1⟩ : ∃ S1, S1 = fD false (dw p.1) := ⟨_, rfl⟩
  obtain ⟨S2, hS2⟩ : ∃ S2, S2 = fD true (dw p.2) := ⟨_, rfl⟩
  have HS1 : Hid (S1 = fD false (dw X.data.toList)) := by show _ = _; rw [hXe, hS1]; rfl
  have HS2 : Hid (S2 = fD true (dw Y.data.toList)) := by show _ = _; rw [hYe, hS2]; rfl
  have HLS1 : Hid (∀ l, S1 = some l → l.length ≤ 1048578) := by
   intro l hl
   have h1 := Qh (hS1.symm.trans hl)
   have h2 := yB p.1
   omega
  have HLS2 : Hid (∀ l, S2 = some l → l.length ≤ 1048578) := by
   intro l hl
   have h1 := Qh (hS2.symm.trans hl)
   have h2 := yB p.2
   omega
  rw [← hXe, ← hYe]
  rw [← hS1, ← hS2] at HC
  clear hXe hYe hS1 hS2 hlen hsl HCV
  go_wp2_with fail
  refine (I5 X false _ hX (Uc.out.below HB2.out)).mono ?_
  rw [← HS1.out]
  rintro e w3 ⟨hp1, hb3⟩
  have HB3 := hid (bel HB2.out hb3)
  have HA3 := hid (HA2.out.below hb3)
  have HN3 := hid (AV.out.below hb3)
  have HV3 := hid (wQ.out.below hb3)
  have hG2 := wQ.out.lt
  cases S1 with
  | none =>
   obtain ⟨v1, rfl⟩ := hp1
   clear hb3 hG2
   go_wp2_with fail
   refine (I5 Y true _ hY (Uc.out.below HB3.out)).mono ?_
   rw [← HS2.out]
   rintro e w4 ⟨hp2, hb4⟩
   have HB4 := hid (bel HB3.out hb4)
   have jR := hid (HA3.out.below hb4)
   have AX := hid (HN3.out.below hb4)
   have HV4 := hid (HV3.out.below hb4)
   clear hb4
   cases S2 with
   | none =>
    obtain ⟨v2, rfl⟩ := hp2
    have HE := hid (fE (show six s.data.toList = none by rw [HC.out]; rfl))
    obtain ⟨c0, c1, c2, c3, c4, c5, c6, c7⟩ := dA AX.out (fun _ => 0) rfl
    obtain ⟨a0, a1, a2, a3, a4, a5, a6, a7⟩ := dA jR.out (fun _ => 0) rfl
    obtain ⟨f0, f1, f2, f3, f4, f5, f6, f7⟩ := fO jR.out
    go_wp2
    exact bodyPost_ret (w := qo _ w.heap.size (fun _ => 0)) (qp (L := mF) (fM jR.out (fun _ => 0)) rfl false _ rfl rfl) rfl ⟨by rw [HE.out], dB HB4.out (Nat.le_refl _) _⟩
   | some b =>
    obtain ⟨v2, rfl, _⟩ := hp2
    have HE := hid (fE (show six s.data.toList = none by rw [HC.out]; rfl))
    obtain ⟨c0, c1, c2, c3, c4, c5, c6, c7⟩ := dA AX.out (fun _ => 0) rfl
    obtain ⟨a0, a1, a2, a3, a4, a5, a6, a7⟩ := dA jR.out (fun _ => 0) rfl
    obtain ⟨f0, f1, f2, f3, f4, f5, f6, f7⟩ := fO jR.out
    go_wp2
    exact bodyPost_ret (w := qo _ w.heap.size (fun _ => 0)) (qp (L := mF) (fM jR.out (fun _ => 0)) rfl false _ rfl rfl) rfl ⟨by rw [HE.out], dB HB4.out (Nat.le_refl _) _⟩
  | some a =>
   obtain ⟨v1, rfl, ho1⟩ := hp1
   have hG3 := HV3.out.lt
   go_wp2_with fail
   refine (I5 Y true _ hY (Uc.out.below HB3.out)).mono ?_
   rw [← HS2.out]
   rintro e w4 ⟨hp2, hb4⟩
   have HB4 := hid (bel HB3.out hb4)
   have jR := hid (HA3.out.below hb4)
   have AX := hid (HN3.out.below hb4)
   have HV4 := hid (HV3.out.below hb4)
   cases S2 with
   | none =>
    obtain ⟨v2, rfl⟩ := hp2
    clear hb4 hb3 ho1 hG2 hG3
    have HE := hid (fE (show six s.data.toList = none by rw [HC.out]; rfl))
    obtain ⟨c0, c1, c2, c3, c4, c5, c6, c7⟩ := dA AX.out (fun _ => 0) rfl
    obtain ⟨a0, a1, a2, a3, a4, a5, a6, a7⟩ := dA jR.out (fun _ => 0) rfl
    obtain ⟨f0, f1, f2, f3, f4, f5, f6, f7⟩ := fO jR.out
    go_wp2
    exact bodyPost_ret (w := qo _ w.heap.size (fun _ => 0)) (qp (L := mF) (fM jR.out (fun _ => 0)) rfl false _ rfl rfl) rfl ⟨by rw [HE.out], dB HB4.out (Nat.le_refl _) _⟩
   | some b =>
    obtain ⟨v2, rfl, ho2⟩ := hp2
    obtain ⟨A1, c1, rfl, hlc1, hcm1, hr1⟩ := aU (aK ho1 hb4)
    obtain ⟨A2, c2, rfl, hlc2, hcm2, hr2⟩ := aU ho2
    have jQ := hid ho2
    have hla1 := HLS1.out a rfl
    have hlb1 := HLS2.out b rfl
    obtain ⟨la, hla⟩ : ∃ la, la = a.length := ⟨_, rfl⟩
    obtain ⟨lb, hlb⟩ : ∃ lb, lb = b.length := ⟨_, rfl⟩
    have VE := hid hla
    have Ub := hid hlb
    rw [← hla] at hr1 hla1 hlc1 ⊢
    rw [← hlb] at hr2 hlb1 hlc2 ⊢
    have HR1 := hid hr1
    have HR2 := hid hr2
    have HGB : Hid (w.heap.size + 1 + 1 < w3.heap.size) := hG3
    clear hla hlb hr1 hr2 ho1 ho2 hb3 hb4 hG2 hG3
    by_cases hsum : la + lb < 8
    ·have dL : Hid (a.length + b.length < 8) := by show _ < _; rw [← VE.out, ← Ub.out]; exact hsum
     have HCS : Hid (six s.data.toList = some (fill a b)) := by
      show _ = _
      rw [HC.out]
      unfold both
      simp only [List.length_nil, Nat.zero_add]
      rw [if_pos dL.out]
      rfl
     have hsi : ¬ (8 : Int) ≤ (la : Int) + (lb : Int) := by omega
     have hla8 : la ≤ 8 := by omega
     have hlb8 : lb ≤ 8 := by omega
     clear hcm1 hcm2 hla1 hlb1
     by_cases hz : lb = 0
     ·obtain rfl : lb = 0 := by omega
      go_wp2_with (refine xW rfl _ _ 206 206 rfl 182 Tryz.underlying206 (by kernel_rfl) _ _ _ A1 _ _ (by rfl) (by rfl) (w.heap.size + 1 + 1) 0 mF 183 HV4.out a HR1.out (by omega) (fun _ => rfl) (by rw [← VE.out]; show 0 + la ≤ 8; omega) ?_)
      intro w5 hv5 Ia hb5
      have HV5 : Hid (Box w5 (w.heap.size + 1 + 1) 183 (splice mF 0 a)) := hv5
      have HA5 : Hid (Box w5 w.heap.size 183 mF) := (Ia _ (by omega)).trans jR.out
      have rE : Hid (Below w.heap.size w w5) := HB4.out.trans (hb5.mono (by omega))
      have HR5 : Hid (bK w5 A2 0 (aN b)) := by
       obtain ⟨A', c', e1, _, _, h⟩ := aU (aB jQ.out Ia HGB.out)
       injection e1 with e2 e3 e4
       subst e2
       subst e4
       rw [← Ub.out] at h
       exact h
      clear hv5 Ia hb5
      have HFIT : Hid (8 - b.length + b.length ≤ (splice mF 0 a).length) := by
       show _ ≤ _
       have := dL.out
       rw [length_splice _ _ _ (by show 0 + a.length ≤ 8; omega)]
       show _ ≤ 8
       omega
      go_wp2_with (refine xW rfl _ _ 206 206 rfl 182 Tryz.underlying206 (by kernel_rfl) _ _ _ A2 _ _ (by rfl) (by rfl) (w.heap.size + 1 + 1) (8 - b.length) (splice mF 0 a) 183 HV5.out b HR5.out (by omega) (fun h0 => absurd h0 (by omega)) HFIT.out ?_)
      intro w6 hv6 N9 hb6
      have HV6 : Hid (Box w6 (w.heap.size + 1 + 1) 183 (fill a b)) := by have := hv6.out; rw [FD a b dL.out] at this; exact this
      have HA6 : Hid (Box w6 w.heap.size 183 mF) := (N9 _ (by omega)).trans HA5.out
      have NZ : Hid (Below w.heap.size w w6) := rE.out.trans (hb6.mono (by omega))
      have Jw : Hid ((fill a b).length = 8) := by show _ = _; have := dL.out; unfold fill; rw [List.length_append, List.length_append, List.length_replicate]; omega
      clear hv6 N9 hb6
      obtain ⟨V, hV⟩ : ∃ V, V = fill a b := ⟨_, rfl⟩
      rw [← hV] at HV6 Jw HCS
      clear hV
      have HE := hid (uO HCS.out)
      obtain ⟨c0, c1, c2, c3, c4, c5, c6, c7⟩ := dA HV6.out (fun i => V.getD i 0) (wM Jw.out)
      obtain ⟨a0, a1, a2, a3, a4, a5, a6, a7⟩ := dA HA6.out (fun _ => 0) rfl
      obtain ⟨f0, f1, f2, f3, f4, f5, f6, f7⟩ := fO HA6.out
      go_wp2
      exact bodyPost_ret (w := qo _ w.heap.size (fun i => V.getD i 0)) (qp (fM HA6.out (fun i => V.getD i 0)) rfl true _ rfl rfl) rfl ⟨(congrArg (fun z => Ending.returned (.tuple #[.agg (aN z).toArray, .bool true])) (wM Jw.out).symm).trans (by rw [HE.out]), dB NZ.out (Nat.le_refl _) _⟩
     ·have hj0 : (0 : Int) < (lb : Int) := by omega
      have hj1 : (8 : Int) - (lb : Int) = ((8 - lb : Nat) : Int) := by omega
      obtain ⟨j, hj⟩ : ∃ j, j = 8 - lb := ⟨_, rfl⟩
      rw [← hj] at hj1
      have hj2 : j < 8 := by omega
      have hj3 : lb + j = 8 := by omega
      have hj4 : (j : Int) < 8 := by omega
      have hj5 : (j : Int) ≤ 8 := by omega
      have hj6 : (0 : Int) ≤ (j : Int) := by omega
      have hj7 : ¬ 8 - j = 0 := by omega
      have hj8 : j ≤ 8 := by omega
      have HJ := hid hj
      clear hj
      go_wp2_with (refine xW rfl _ _ 206 206 rfl 182 Tryz.underlying206 (by kernel_rfl) _ _ _ A1 _ _ (by rfl) (by rfl) (w.heap.size + 1 + 1) 0 mF 183 HV4.out a HR1.out (by omega) (fun _ => rfl) (by rw [← VE.out]; show 0 + la ≤ 8; omega) ?_)
      intro w5 hv5 Ia hb5
      have HV5 : Hid (Box w5 (w.heap.size + 1 + 1) 183 (splice mF 0 a)) := hv5
      have HA5 : Hid (Box w5 w.heap.size 183 mF) := (Ia _ (by omega)).trans jR.out
      have rE : Hid (Below w.heap.size w w5) := HB4.out.trans (hb5.mono (by omega))
      have HR5 : Hid (bK w5 A2 lb (aN b)) := by
       obtain ⟨A', c', e1, _, _, h⟩ := aU (aB jQ.out Ia HGB.out)
       injection e1 with e2 e3 e4
       subst e2
       subst e4
       rw [← Ub.out] at h
       exact h
      clear hv5 Ia hb5
      have HFIT : Hid (8 - b.length + b.length ≤ (splice mF 0 a).length) := by
       show _ ≤ _
       have := dL.out
       rw [length_splice _ _ _ (by show 0 + a.length ≤ 8; omega)]
       show _ ≤ 8
       omega
      have HOFF : Hid (8 - b.length = j) := by show _ = _; rw [← Ub.out, ← HJ.out]
      go_wp2_with (refine xW rfl _ _ 206 206 rfl 182 Tryz.underlying206 (by kernel_rfl) _ _ _ A2 _ _ (by rfl) (by rfl) (w.heap.size + 1 + 1) (8 - b.length) (splice mF 0 a) 183 HV5.out b HR5.out (by omega) (fun h0 => by rw [HOFF.out]) HFIT.out ?_)
      intro w6 hv6 N9 hb6
      have HV6 : Hid (Box w6 (w.heap.size + 1 + 1) 183 (fill a b)) := by have := hv6.out; rw [FD a b dL.out] at this; exact this
      have HA6 : Hid (Box w6 w.heap.size 183 mF) := (N9 _ (by omega)).trans HA5.out
      have NZ : Hid (Below w.heap.size w w6) := rE.out.trans (hb6.mono (by omega))
      have Jw : Hid ((fill a b).length = 8) := by show _ = _; have := dL.out; unfold fill; rw [List.length_append, List.length_append, List.length_replicate]; omega
      clear hv6 N9 hb6
      obtain ⟨V, hV⟩ : ∃ V, V = fill a b := ⟨_, rfl⟩
      rw [← hV] at HV6 Jw HCS
      clear hV
      have HE := hid (uO HCS.out)
      obtain ⟨c0, c1, c2, c3, c4, c5, c6, c7⟩ := dA HV6.out (fun i => V.getD i 0) (wM Jw.out)
      obtain ⟨a0, a1, a2, a3, a4, a5, a6, a7⟩ := dA HA6.out (fun _ => 0) rfl
      obtain ⟨f0, f1, f2, f3, f4, f5, f6, f7⟩ := fO HA6.out
      go_wp2
      exact bodyPost_ret (w := qo _ w.heap.size (fun i => V.getD i 0)) (qp (fM HA6.out (fun i => V.getD i 0)) rfl true _ rfl rfl) rfl ⟨(congrArg (fun z => Ending.returned (.tuple #[.agg (aN z).toArray, .bool true])) (wM Jw.out).symm).trans (by rw [HE.out]), dB NZ.out (Nat.le_refl _) _⟩
    ·have hsi : (8 : Int) ≤ (la : Int) + (lb : Int) := by omega
     have HNS : Hid (¬ ([] : List Nat).length + a.length + b.length < 8) := by show ¬ _; rw [← VE.out, ← Ub.out]; simp; omega
     have HE := hid (fE (show six s.data.toList = none by rw [HC.out]; unfold both; simp only []; exact if_neg HNS.out))
     obtain ⟨c0, c1, c2, c3, c4, c5, c6, c7⟩ := dA AX.out (fun _ => 0) rfl
     obtain ⟨a0, a1, a2, a3, a4, a5, a6, a7⟩ := dA jR.out (fun _ => 0) rfl
     obtain ⟨f0, f1, f2, f3, f4, f5, f6, f7⟩ := fO jR.out
     go_wp2
     exact bodyPost_ret (w := qo _ w.heap.size (fun _ => 0)) (qp (L := mF) (fM jR.out (fun _ => 0)) rfl false _ rfl rfl) rfl ⟨by rw [HE.out], dB HB4.out (Nat.le_refl _) _⟩
end Go.Proofs.YtmdofbccebkbiaaGreatDoor.eF
namespace Go.Proofs.YtmdofbccebkbiaaGreatDoor.lI
open Go.RowKit Base aT
def nP (w : World) : Prop := w.cell? ⟨5, 15, none⟩ = some (.int .u8 4)
theorem nP.below {w w' : World} (h : nP w) (hb : Below w.heap.size w w') : nP w' := (hb.cell (World.block_lt_of_cell? _ _ h)).trans h
def RG : List Int := [0, 1, 56, 2, 57, 49, 28, 3, 61, 58, 42, 50, 38, 29, 17, 4, 62, 47, 59, 36, 45, 43, 51, 22, 53, 39, 33, 30, 24, 18, 12, 5, 63, 55, 48, 27, 60, 41, 37, 16, 46, 35, 44, 21, 52, 32, 23, 11, 54, 26, 40, 15, 34, 20, 31, 10, 25, 14, 19, 9, 13, 8, 7, 6]
theorem Hg : Tryz.prog.globalNamed "math/bits.deBruijn64tab" = some 5 := by kernel_rfl
theorem Zt {W : World} {l : List (String × DataW Unit)} (h : laidMet Tryz.prog l W) (hm : ("math/bits.deBruijn64tab", Lib.tabData .u8 RG) ∈ l) : nP W := by
 obtain ⟨g', t', cs, fuel, p, hg', ht', hvar, hd⟩ := Lib.laidMet.reads h hm
 obtain rfl := Option.some.inj (Hg.symm.trans hg')
 obtain rfl := Option.some.inj ((show (Tryz.prog.globals[5]?).map (·.type) = some 226 by kernel_rfl).symm.trans ht')
 have hc := Lib.cells_of_tab (k := .u8) (zs := RG) Tryz.underlying226 Tryz.underlying5 (by kernel_rfl) (by kernel_rfl) hd
 unfold World.var? at hvar
 rw [Hg] at hvar
 simp only [Option.bind_some] at hvar
 unfold nP World.cell?
 split at hvar
 ·rename_i x y z hh
  injection hvar with hvar
  rw [hh]
  simp only []
  have e : x.toList = RG.map fun z => Value.int .u8 z := by rw [hvar]; exact hc
  rw [← Array.getElem?_toList, e]
  rfl
 ·cases hvar
def kE (n : Nat) : UInt8 := if n < 10 then UInt8.ofNat (48 + n) else UInt8.ofNat (87 + n)
def hxs : Nat → Nat → List UInt8 → List UInt8
 | 0, u, acc => kE u :: acc
 | f + 1, u, acc => if 16 ≤ u then hxs f (u / 16) (kE (u % 16) :: acc) else kE u :: acc
def hx (n : Nat) : List UInt8 := hxs 3 n []
theorem Gf : ∀ (f u : Nat) (acc : List UInt8), hxs f u acc = hxs f u [] ++ acc
 | 0, _, _ => rfl
 | f + 1, u, acc => by
  unfold hxs
  split
  ·rw [Gf f _ (_ :: acc), Gf f _ [_], List.append_assoc]
   rfl
  ·rfl
theorem Pm : ∀ (f u : Nat) (acc : List UInt8), u < 16 ^ (f + 1) → hxs (f + 1) u acc = hxs f u acc
 | 0, u, acc, h => by
  unfold hxs
  rw [if_neg (by simp at h; omega)]
 | f + 1, u, acc, h => by
  show (if 16 ≤ u then hxs (f + 1) (u / 16) (kE (u % 16) :: acc) else kE u :: acc) = (if 16 ≤ u then hxs f (u / 16) (kE (u % 16) :: acc) else kE u :: acc)
  by_cases hu : 16 ≤ u
  ·rw [if_pos hu, if_pos hu]
   exact Pm f (u / 16) _ (by rw [Nat.pow_succ] at h; omega)
  ·rw [if_neg hu, if_neg hu]
theorem Pj {n : Nat} (h : n < 16) : hx n = [kE n] := by
 unfold hx hxs
 rw [if_neg (by omega)]
theorem Zk {n : Nat} (h : 16 ≤ n) (h6 : n < 65536) : hx n = hx (n / 16) ++ [kE (n % 16)] := by
 unfold hx
 rw [Pm 2 (n / 16) [] (by show n / 16 < 4096; omega)]
 conv => lhs; unfold hxs
 rw [if_pos h, Gf]
theorem Kz (k : Nat) (hk : k < 16) (h : k < (⟨#[48, 49, 50, 51, 52, 53, 54, 55, 56, 57, 97, 98, 99, 100, 101, 102, 103, 104, 105, 106, 107, 108, 109, 110, 111, 112, 113, 114, 115, 116, 117, 118, 119, 120, 121, 122]⟩ : ByteArray).size) : (⟨#[48, 49, 50, 51, 52, 53, 54, 55, 56, 57, 97, 98, 99, 100, 101, 102, 103, 104, 105, 106, 107, 108, 109, 110, 111, 112, 113, 114, 115, 116, 117, 118, 119, 120, 121, 122]⟩ : ByteArray)[k]'h = kE k := by
 have hcase : k = 0 ∨ k = 1 ∨ k = 2 ∨ k = 3 ∨ k = 4 ∨ k = 5 ∨ k = 6 ∨ k = 7 ∨ k = 8 ∨ k = 9 ∨ k = 10 ∨ k = 11 ∨ k = 12 ∨ k = 13 ∨ k = 14 ∨ k = 15 := by omega
 rcases hcase with rfl | rfl | rfl | rfl | rfl | rfl | rfl | rfl | rfl | rfl | rfl | rfl | rfl | rfl | rfl | rfl <;> rfl
theorem Yq (u : Nat) (h : u < 65536) : bits .and .u64 (u : Int) 15 = (u : Int) % 16 := by
 have := bits_and_u64_nat u 15 (by omega) (by omega)
 rw [show ((15 : Nat) : Int) = 15 from rfl] at this
 rw [this, show (15 : Nat) = 2 ^ 4 - 1 from rfl, Nat.and_two_pow_sub_one_eq_mod]
 omega
def Eb (w : World) (g : Nat) (t : TypeId) (L : List UInt8) : Prop := w.heap[g]? = some (.cells (aJ L).toArray t (0, 0))
theorem Eb.cell {w : World} {g : Nat} {t : TypeId} {L : List UInt8} (h : Eb w g t L) (j : Nat) (hj : j < L.length) : w.cell? ⟨g, j, none⟩ = some (.int .u8 (L[j].toNat : Int)) := by
 refine (cell_of_row w g j _ _ _ h).trans ?_
 simp [aJ, hj]
theorem Eb.frozen {w : World} {g : Nat} {t : TypeId} {L : List UInt8} (h : Eb w g t L) (j : Nat) : w.frozen? ⟨g, j, none⟩ = false := by
 unfold World.frozen?
 rw [h]
 simp
theorem Eb.set {w : World} {g : Nat} {t : TypeId} {L : List UInt8} (h : Eb w g t L) (j : Nat) (c : UInt8) : Eb (w.setCell ⟨g, j, none⟩ (.int .u8 (c.toNat : Int))) g t (L.set j c) := by
 have := heap_setCell_same w g j _ _ (.int .u8 (c.toNat : Int)) h
 unfold Eb
 rw [this]
 simp [aJ, List.map_set]
theorem Eb.IW {w : World} {g : Nat} {t : TypeId} {L : List UInt8} (h : Eb w g t L) (i : Nat) (hi : i ≤ L.length) : bK w (some ⟨g, i, none⟩) (L.length - i) (aJ (L.drop i)) :=
 bK.kG (by rw [bM, List.length_drop]) (Array.getElem?_eq_some_iff.1 h).1 (fun j hj => by
  rw [bM, List.length_drop] at hj
  rw [h.cell (i + j) (by omega)]
  simp [aJ])
theorem aaF (w : World) (hL : nP w) : Calls Tryz.prog 267 #[.int .u64 16] w fun e w' => e = .returned (.int .i64 4) ∧ w = w' := by
 have h1 : IntKind.u64.wrap (-16) = 18446744073709551600 := by kernel_rfl
 have h2 : bits .and .u64 16 18446744073709551600 = 16 := by kernel_rfl
 unfold nP at hL
 go_enter Tryz.func267, Tryz.ntmps267
 go_wp2
 go_ret
 exact ⟨rfl, rfl⟩
theorem tz_any (w : World) (hL : nP w) : Calls Tryz.prog 261 #[.int .u64 16] w fun e w' => e = .returned (.int .i64 4) ∧ w = w' := by
 go_enter Tryz.func261, Tryz.ntmps261
 go_wp2_with fail
 refine (aaF _ hL).mono ?_
 rintro e w2 ⟨rfl, hw2⟩
 subst hw2
 go_wp2
 go_ret
 exact ⟨rfl, rfl⟩
theorem Z7 (w : World) : Calls Tryz.prog 260 #[.int .i64 16] w fun e w' => e = .returned (.bool true) ∧ w = w' := by
 have h1 : bits .and .i64 16 15 = 0 := by kernel_rfl
 go_enter Tryz.func260, Tryz.ntmps260
 go_wp2
 go_ret
 exact ⟨rfl, rfl⟩
theorem Yy (n : Nat) (hn : n < 65536) (w : World) (hL : nP w) : Calls Tryz.prog 240 #[.slice none 0 0, .int .u64 (n : Int), .int .i64 16, .bool false, .bool false] w fun e w' => e = .returned (.tuple #[.slice none 0 0, .string (strOf (hx n))]) ∧ Below w.heap.size w w' := by
 obtain ⟨H, hH⟩ : ∃ H, H = hx n := ⟨_, rfl⟩
 rw [← hH]
 have HH := hid hH
 have Oc := hid hL
 clear hH hL
 go_enter Tryz.func240, Tryz.ntmps240
 go_upto_region 4 with (fail)
 generalize hw1 : w.alloc _ = w1
 have HB1 : Hid (Below w.heap.size w w1) := by
  show Below _ _ _
  rw [← hw1]
  exact (Below.refl _ _).alloc (Nat.le_refl _) _
 have wZ : Hid (Eb w1 w.heap.size 216 (List.replicate 65 0)) := by
  show Eb _ _ _ _
  rw [← hw1]
  exact heap_alloc_new _ _
 clear hw1
 go_wp2_with fail
 refine (Z7 _).mono ?_
 rintro e w2 ⟨rfl, hw2⟩
 subst hw2
 go_wp2_with fail
 refine (tz_any _ (Oc.out.below HB1.out)).mono ?_
 rintro e w2 ⟨rfl, hw2⟩
 subst hw2
 go_wp2_with fail
 go_loopw [1, 13] (fun vu vi wr => ∃ (f u i : Nat) (L : List UInt8), f ≤ 3 ∧ u < 16 ^ (f + 1) ∧ u < 65536 ∧ i = 62 + f ∧ vu = .int .u64 (u : Int) ∧ vi = .int .i64 (i : Int) ∧ Hid (L.length = 65) ∧ Hid (Eb wr w.heap.size 216 L) ∧ Hid (H = hxs f u (L.drop i)) ∧ Hid (Below w.heap.size w wr)) (fun vu _ _ => (intOf vu).toNat)
 case atStart => exact ⟨3, n, 65, List.replicate 65 0, by omega, hn, hn, rfl, rfl, rfl, rfl, wZ.out, HH.out, HB1.out⟩
 case round =>
  obtain ⟨f, u, i, L, hf, hu, hu6, hi, rfl, rfl, wP, HX, HW, HB⟩ := hrel
  obtain ⟨j, hj⟩ : ∃ j, i = j + 1 := ⟨i - 1, by omega⟩
  have hij : (i : Int) - 1 = (j : Int) := by omega
  have hj64 : j ≤ 64 := by omega
  have hi65 : i ≤ 65 := by omega
  have hi1 : (1 : Int) ≤ (i : Int) := by omega
  have hj65 : (j : Int) < 65 := by omega
  obtain ⟨x0, hc0⟩ : ∃ x0, wr.cell? ⟨w.heap.size, j, none⟩ = some x0 := ⟨_, HX.out.cell j (by rw [wP.out]; omega)⟩
  have hf0 := HX.out.frozen j
  have HJ := hid hj
  by_cases h16 : 16 ≤ u
  ·have h16i : (16 : Int) ≤ (u : Int) := by omega
   obtain ⟨f', rfl⟩ : ∃ f', f = f' + 1 := by
    cases f with
    | zero => simp at hu; omega
    | succ f' => exact ⟨f', rfl⟩
   have HIF := hid hi
   have ha := Yq u hu6
   have q0 : (0 : Int) ≤ (u : Int) % 16 := by omega
   have q1 : (u : Int) % 16 < 16 := by omega
   have q2 : (u : Int) % 16 < 36 := by omega
   have q3 : ∀ h, (⟨#[48, 49, 50, 51, 52, 53, 54, 55, 56, 57, 97, 98, 99, 100, 101, 102, 103, 104, 105, 106, 107, 108, 109, 110, 111, 112, 113, 114, 115, 116, 117, 118, 119, 120, 121, 122]⟩ : ByteArray)[((u : Int) % 16).toNat]'h = kE (u % 16) := fun h => by
    have e : ((u : Int) % 16).toNat = u % 16 := by omega
    simp only [e]
    exact Kz _ (by omega) _
   obtain ⟨v, hv⟩ : ∃ v, v = u / 16 := ⟨_, rfl⟩
   have hvi : (u : Int) / 16 = (v : Int) := by omega
   have mD := hid (HX.out.set j (kE (u % 16)))
   have HB2 : Hid (Below w.heap.size w (wr.setCell ⟨w.heap.size, j, none⟩ (.int .u8 ((kE (u % 16)).toNat : Int)))) := HB.out.setCell (Nat.le_refl _) _
   have HW2 : Hid (H = hxs f' v ((L.set j (kE (u % 16))).drop j)) := by
    show _ = _
    have hd : (L.set j (kE (u % 16))).drop j = kE (u % 16) :: L.drop i := by
     rw [List.drop_eq_getElem_cons (by rw [List.length_set, wP.out]; omega), List.getElem_set_self, List.drop_set_of_lt (by omega), ← HJ.out]
    rw [hd, HW.out, hv]
    conv => lhs; unfold hxs
    rw [if_pos h16]
   have HV : Hid (v < 16 ^ (f' + 1) ∧ v < 65536 ∧ v < u) := ⟨by rw [hv]; rw [Nat.pow_succ] at hu; omega, by omega, by omega⟩
   have wQ := hid hv
   clear hu hv hj hi h16
   go_wp2
   go_roundw
   case rel => exact ⟨f', v, j, _, by omega, HV.out.1, HV.out.2.1, by have := HIF.out; have := HJ.out; omega, by go_num, by go_num, by rw [List.length_set]; exact wP.out, mD.out, HW2.out, HB2.out⟩
   case measure => (have := HV.out.2.2; simp [intOf]; omega)
  ·have h16i : ¬ (16 : Int) ≤ (u : Int) := by omega
   have q0 : (u : Int) < 36 := by omega
   have q3 : ∀ h, (⟨#[48, 49, 50, 51, 52, 53, 54, 55, 56, 57, 97, 98, 99, 100, 101, 102, 103, 104, 105, 106, 107, 108, 109, 110, 111, 112, 113, 114, 115, 116, 117, 118, 119, 120, 121, 122]⟩ : ByteArray)[u]'h = kE u := fun h => Kz _ (by omega) _
   have mD := hid (HX.out.set j (kE u))
   have HB2 : Hid (Below w.heap.size w (wr.setCell ⟨w.heap.size, j, none⟩ (.int .u8 ((kE u).toNat : Int)))) := HB.out.setCell (Nat.le_refl _) _
   have hd : (L.set j (kE u)).drop j = H := by
    rw [List.drop_eq_getElem_cons (by rw [List.length_set, wP.out]; omega), List.getElem_set_self, List.drop_set_of_lt (by omega), ← HJ.out, HW.out]
    cases f with
    | zero => rfl
    | succ f' => unfold hxs; rw [if_neg h16]
   have hrd := mD.out.IW j (by rw [List.length_set, wP.out]; omega)
   rw [List.length_set, wP.out, hd] at hrd
   have hs := aP (P := Tryz.prog) 61 9 5 Tryz.underlying61 Tryz.underlying5 Tryz.underlying9 H (65 - j) hrd
   have hz : ¬ 65 - j = 0 := by omega
   have hj65b : (j : Int) ≤ 65 := by omega
   clear hd hrd hu hi hj h16
   go_wp2
   go_ret2
   exact ⟨rfl, HB2.out⟩
theorem O4 (n : Nat) (hn : n < 65536) (w : World) (hL : nP w) : Calls Tryz.prog 269 #[.int .u64 (n : Int), .int .i64 16] w fun e w' => e = .returned (.string (strOf (hx n))) ∧ Below w.heap.size w w' := by
 go_enter Tryz.func269, Tryz.ntmps269
 go_wp2_with fail
 refine (Yy n hn _ hL).mono ?_
 rintro e w2 ⟨rfl, hb⟩
 go_wp2
 go_ret
 exact ⟨rfl, hb⟩
theorem Hw (n : Nat) (hn : n < 65536) (w : World) (hL : nP w) : Calls Tryz.prog 264 #[.int .u64 (n : Int), .int .i64 16] w fun e w' => e = .returned (.string (strOf (hx n))) ∧ Below w.heap.size w w' := by
 go_enter Tryz.func264, Tryz.ntmps264
 go_wp2_with fail
 refine (O4 n hn _ hL).mono ?_
 rintro e w2 ⟨rfl, hb⟩
 go_wp2
 go_ret
 exact ⟨rfl, hb⟩
end Go.Proofs.YtmdofbccebkbiaaGreatDoor.lI
namespace Go.Proofs.YtmdofbccebkbiaaGreatDoor.Md
open Go.RowKit Base aT mX rH GV JF GU eF lI
theorem UK : ∀ (f u : Nat) (acc : List UInt8), (hxs f u acc).length ≤ f + 1 + acc.length
 | 0, u, acc => by simp [hxs]; omega
 | f + 1, u, acc => by
  unfold hxs
  split
  ·have := UK f (u / 16) (kE (u % 16) :: acc)
   simp at this ⊢
   omega
  ·simp; omega
theorem Sz (n : Nat) : (hx n).length ≤ 4 := UK 3 n []
theorem hx_last (n : Nat) (h : n < 65536) : ∃ pre, hx n = pre ++ [kE (n % 16)] := by
 by_cases h16 : 16 ≤ n
 ·exact ⟨_, Zk h16 h⟩
 ·refine ⟨[], ?_⟩
  rw [Pj (by omega), show n % 16 = n by omega]
  rfl
theorem Nb (d : Nat) (h : d < 16) : jV 16 (kE d) = true ∧ dv (kE d) = d ∧ kE d ≠ 58 ∧ kE d ≠ 46 := by
 have H : ∀ d : Fin 16, jV 16 (kE d.val) = true ∧ dv (kE d.val) = d.val ∧ kE d.val ≠ 58 ∧ kE d.val ≠ 46 := by decide +kernel
 exact H ⟨d, h⟩
def iM : List (List UInt8) → List UInt8
 | [] => []
 | [x] => x
 | x :: y :: r => x ++ 58 :: iM (y :: r)
theorem Ij : ∀ (xs : List (List UInt8)) (y : List UInt8), xs ≠ [] → iM (xs ++ [y]) = iM xs ++ 58 :: y
 | [], _, h => absurd rfl h
 | [x], y, _ => rfl
 | x :: z :: r, y, _ => by
  show x ++ 58 :: iM ((z :: r) ++ [y]) = x ++ 58 :: iM (z :: r) ++ 58 :: y
  rw [Ij (z :: r) y (by simp)]
  simp
def jx (L : List Nat) : List UInt8 := iM (L.map hx)
theorem jx_nil : jx [] = [] := rfl
theorem Zr (n : Nat) : jx [n] = hx n := rfl
theorem UQ (L : List Nat) (n : Nat) (h : L ≠ []) : jx (L ++ [n]) = jx L ++ 58 :: hx n := by
 unfold jx
 rw [List.map_append]
 exact Ij _ _ (by simpa using h)
theorem EJ (L : List Nat) : (jx L).length ≤ 5 * L.length := by
 have H : ∀ M : List Nat, (jx M.reverse).length ≤ 5 * M.length := by
  intro M
  induction M with
  | nil => simp [jx, iM]
  | cons n M ih =>
   rw [List.reverse_cons]
   have := Sz n
   by_cases h : M.reverse = []
   ·rw [h, List.nil_append, Zr, List.length_cons]
    omega
   ·rw [UQ _ _ h, List.length_append, List.length_cons, List.length_cons]
    omega
 have := H L.reverse
 rwa [List.reverse_reverse, List.length_reverse] at this
theorem TN (L : List Nat) (k : Nat) (h : k < L.length) : L.take (k + 1) = L.take k ++ [L[k]] := List.take_succ_eq_append_getElem h
theorem Ik (A : Option Addr) (n c : Nat) (L : List Nat) (w : World) (hr : bK w A n (aN L)) (h8 : n ≤ 8) (h6 : ∀ x ∈ L, x < 65536) (hL : nP w) :
  Calls Tryz.prog 253 #[.slice A n c] w fun e w' => e = .returned (.string (strOf (jx L))) ∧ Below w.heap.size w w' := by
 have hl : L.length = n := by rw [← jG]; exact hr.1
 have HM := hid hl
 have HR := hid hr
 have Oc := hid hL
 have H6 := hid h6
 clear hr hL h6 hl
 go_enter Tryz.func253, Tryz.ntmps253
 go_wp2
 go_loopw [3, 4, 5, 8] (fun vo _ _ vk wr => ∃ (k : Nat) (X : ByteArray), k ≤ n ∧ vk = .int .i64 (k : Int) ∧ vo = .string X ∧ Hid (X = strOf (jx (L.take k))) ∧ Hid (Below w.heap.size w wr)) (fun _ _ _ vk _ => n - (intOf vk).toNat)
 case atStart => exact ⟨0, ⟨#[]⟩, by omega, rfl, rfl, rfl, Below.refl _ _⟩
 case round =>
  obtain ⟨k, X, hk, rfl, rfl, HX, HB⟩ := hrel
  by_cases hlt : k < n
  ·obtain ⟨b, off, rfl, _, _⟩ := HR.out.spot (by omega)
   obtain ⟨x, hx⟩ : ∃ x, L[k]'(by rw [HM.out]; exact hlt) = x := ⟨_, rfl⟩
   have hcl : wr.cell? ⟨b, off + k, none⟩ = some (.int .u16 (x : Int)) := by
    obtain ⟨b', o', e1, _, hc'⟩ := (HR.out.below HB.out).2 k (by rw [jG, HM.out]; exact hlt)
    cases e1
    rw [hc']
    simp [aN, hx]
   have hx6 : x < 65536 := by rw [← hx]; exact H6.out _ (List.getElem_mem _)
   have HT : Hid (L.take (k + 1) = L.take k ++ [x]) := by show _ = _; rw [TN L k (by rw [HM.out]; exact hlt), hx]
   have hwx : IntKind.u64.wrap (x : Int) = (x : Int) := by simp [IntKind.wrap, IntKind.signed, IntKind.bits]; omega
   have HX6 := hid hx6
   clear hx6
   have GL : Hid (X.size ≤ 40) := by
    show _ ≤ _
    rw [HX.out, ah]
    have := EJ (L.take k)
    rw [List.length_take] at this
    omega
   have hhl := Sz x
   clear hx
   obtain ⟨Z, hZ⟩ : ∃ Z, Z = strOf (jx (L.take (k + 1))) := ⟨_, rfl⟩
   have HZ := hid hZ
   by_cases hk0 : k = 0
   ·have HK0 := hid hk0
    have hk1 : ¬ (0 : Int) < (k : Int) := by omega
    clear hk0
    have a2 : ∀ w : World, (Op.stringOp .add X (strOf (hx x))).run Tryz.prog w = .ok (.string Z) w := fun w => by
     rw [hZ, HT.out, HX.out, HK0.out, List.take_zero, List.nil_append, Zr, jx_nil]
     exact dX [] (hx x) w (by simp; omega)
    clear hZ hhl
    go_wp2_with fail
    refine (Hw x HX6.out _ (Oc.out.below HB.out)).mono ?_
    rintro e w2 ⟨rfl, hb2⟩
    have HB2 : Hid (Below w.heap.size w w2) := bel HB.out hb2
    clear hb2
    go_wp2
    go_roundw
    case rel => exact ⟨k + 1, Z, by omega, by go_num, rfl, HZ.out, HB2.out⟩
    case measure => simp [intOf]; omega
   ·have hk1 : (0 : Int) < (k : Int) := by omega
    obtain ⟨Y, hY⟩ : ∃ Y, Y = strOf (jx (L.take k) ++ [58]) := ⟨_, rfl⟩
    have a1 : ∀ w : World, (Op.stringOp .add X ⟨#[58]⟩).run Tryz.prog w = .ok (.string Y) w := fun w => by
     rw [hY, HX.out]
     refine dX _ [58] w ?_
     have := GL.out
     rw [HX.out, ah] at this
     simp
     omega
    have a2 : ∀ w : World, (Op.stringOp .add Y (strOf (hx x))).run Tryz.prog w = .ok (.string Z) w := fun w => by
     have hne : L.take k ≠ [] := by
      intro h
      have := congrArg List.length h
      rw [List.length_take, HM.out] at this
      simp at this
      omega
     rw [hZ, HT.out, UQ _ _ hne, hY, show jx (L.take k) ++ 58 :: hx x = (jx (L.take k) ++ [58]) ++ hx x by simp]
     refine dX _ _ w ?_
     have := GL.out
     rw [HX.out, ah] at this
     rw [List.length_append]
     simp
     omega
    clear hZ hY hhl hk0
    go_wp2_with fail
    refine (Hw x HX6.out _ (Oc.out.below HB.out)).mono ?_
    rintro e w2 ⟨rfl, hb2⟩
    have HB2 : Hid (Below w.heap.size w w2) := bel HB.out hb2
    clear hb2
    go_wp2
    go_roundw
    case rel => exact ⟨k + 1, Z, by omega, by go_num, rfl, HZ.out, HB2.out⟩
    case measure => simp [intOf]; omega
  ·obtain rfl : k = n := by omega
   have HE : Hid (X = strOf (jx L)) := by show _ = _; rw [HX.out, List.take_of_length_le (by rw [HM.out]; exact Nat.le_refl _)]
   go_wp2
   go_ret
   exact ⟨by rw [HE.out]; rfl, HB.out⟩
def run (Z : List Bool) (k : Nat) : Nat := ((Z.drop k).takeWhile id).length
theorem aam {Z : List Bool} {k : Nat} (h : k < Z.length) (hz : Z[k] = true) : run Z k = 1 + run Z (k + 1) := by
 unfold run
 rw [List.drop_eq_getElem_cons h, List.takeWhile_cons, hz]
 simp
 omega
theorem run_nz {Z : List Bool} {k : Nat} (h : k < Z.length) (hz : Z[k] = false) : run Z k = 0 := by
 unfold run
 rw [List.drop_eq_getElem_cons h, List.takeWhile_cons, hz]
 rfl
theorem run_end {Z : List Bool} {k : Nat} (h : Z.length ≤ k) : run Z k = 0 := by
 unfold run
 rw [List.drop_eq_nil_of_le h]
 rfl
def goC (Z : List Bool) : Nat → Nat → Nat → Nat → Nat × Nat
 | 0, _, f, t => (f, t)
 | fu + 1, k, f, t => if k < Z.length then (if t - f < run Z k then goC Z fu (k + run Z k + 1) k (k + run Z k) else goC Z fu (k + run Z k + 1) f t) else (f, t)
def wO (Z : List Bool) : Nat × Nat := goC Z 9 0 0 0
def goR (Z : List Bool) : Nat → Nat → Option Nat → Nat → Option Nat × Nat
 | 0, _, f, l => (f, l)
 | fu + 1, k, f, l => if k < Z.length then (if l < run Z k then goR Z fu (k + 1) (some k) (run Z k) else goR Z fu (k + 1) f l) else (f, l)
def lngR (Z : List Bool) : Option Nat × Nat := goR Z 8 0 none 1
theorem KU : ∀ b0 b1 b2 b3 b4 b5 b6 b7 : Bool, (wO [b0, b1, b2, b3, b4, b5, b6, b7]).1 ≤ (wO [b0, b1, b2, b3, b4, b5, b6, b7]).2 ∧ (wO [b0, b1, b2, b3, b4, b5, b6, b7]).2 ≤ 8 ∧ (([b0, b1, b2, b3, b4, b5, b6, b7].take (wO [b0, b1, b2, b3, b4, b5, b6, b7]).2).drop (wO [b0, b1, b2, b3, b4, b5, b6, b7]).1).all id = true ∧
  lngR [b0, b1, b2, b3, b4, b5, b6, b7] = if (wO [b0, b1, b2, b3, b4, b5, b6, b7]).2 - (wO [b0, b1, b2, b3, b4, b5, b6, b7]).1 < 2 then (none, 1) else (some (wO [b0, b1, b2, b3, b4, b5, b6, b7]).1, (wO [b0, b1, b2, b3, b4, b5, b6, b7]).2 - (wO [b0, b1, b2, b3, b4, b5, b6, b7]).1) := by decide +kernel
def V8 (f : Nat → Nat) : List Nat := [f 0, f 1, f 2, f 3, f 4, f 5, f 6, f 7]
def zs (f : Nat → Nat) : List Bool := (V8 f).map (· == 0)
theorem LK (f : Nat → Nat) : (zs f).length = 8 := rfl
theorem eight (i : Nat) (h : i < 8) : i = 0 ∨ i = 1 ∨ i = 2 ∨ i = 3 ∨ i = 4 ∨ i = 5 ∨ i = 6 ∨ i = 7 := by omega
theorem Yl (f : Nat → Nat) (k : Nat) (h : k < 8) (h2 : k < (V8 f).length) : (V8 f)[k] = f k := by
 rcases eight k h with rfl | rfl | rfl | rfl | rfl | rfl | rfl | rfl <;> rfl
theorem aaT (f : Nat → Nat) (k : Nat) (h : k < 8) (h2 : k < (zs f).length) : (zs f)[k] = (f k == 0) := by
 rcases eight k h with rfl | rfl | rfl | rfl | rfl | rfl | rfl | rfl <;> rfl
def A8 (f : Nat → Nat) : Value := .agg #[.int .u16 (f 0 : Int), .int .u16 (f 1 : Int), .int .u16 (f 2 : Int), .int .u16 (f 3 : Int), .int .u16 (f 4 : Int), .int .u16 (f 5 : Int), .int .u16 (f 6 : Int), .int .u16 (f 7 : Int)]
theorem goC_end {Z : List Bool} {fu k f t : Nat} (h : Z.length ≤ k) : goC Z fu k f t = (f, t) := by
 cases fu with
 | zero => rfl
 | succ fu => unfold goC; rw [if_neg (by omega)]
end Go.Proofs.YtmdofbccebkbiaaGreatDoor.Md
namespace Go.Proofs.YtmdofbccebkbiaaGreatDoor.lJ
open Go.RowKit Base aT mX rH GV JF GU eF lI Md eH
theorem Yz (x : Nat) : ((x : Int) == 0) = (x == 0) := by
 cases h : (x == 0) with
 | true => have : x = 0 := by simpa using h
           subst this; rfl
 | false => have : x ≠ 0 := by simpa using h
            rw [beq_eq_false_iff_ne]; omega
theorem MJ {w : World} (f : Nat → Nat) : Box (w.alloc (.cells #[.int .u16 (f 0 : Int), .int .u16 (f 1 : Int), .int .u16 (f 2 : Int), .int .u16 (f 3 : Int), .int .u16 (f 4 : Int), .int .u16 (f 5 : Int), .int .u16 (f 6 : Int), .int .u16 (f 7 : Int)] 183)) w.heap.size 183 (V8 f) := heap_alloc_new _ _
theorem PD (f : Nat → Nat) (w : World) : Calls Tryz.prog 252 #[A8 f] w fun e w' => e = .returned (.tuple #[.int .i64 ((wO (zs f)).1 : Int), .int .i64 ((wO (zs f)).2 : Int)]) ∧ Below w.heap.size w w' := by
 obtain ⟨Z, hZ⟩ : ∃ Z, Z = zs f := ⟨_, rfl⟩
 have HZ := hid hZ
 rw [← hZ]
 have JE : Hid (Z.length = 8) := by show _ = _; rw [hZ]; rfl
 clear hZ
 unfold A8
 go_enter Tryz.func252, Tryz.ntmps252
 go_upto_region 1 with (fail)
 generalize hw1 : w.alloc _ = w1
 have HB1 : Hid (Below w.heap.size w w1) := by
  show Below _ _ _
  rw [← hw1]
  exact (Below.refl _ _).alloc (Nat.le_refl _) _
 have wZ : Hid (Box w1 w.heap.size 183 (V8 f)) := by
  show Box _ _ _ _
  rw [← hw1]
  exact MJ f
 clear hw1
 go_wp2
 go_loopw [2, 3, 4, 5] (fun vf vt vk _ wr => ∃ (fu k a b : Nat), vk = .int .i64 (k : Int) ∧ vf = .int .i64 (a : Int) ∧ vt = .int .i64 (b : Int) ∧ k ≤ 9 ∧ a ≤ b ∧ b ≤ 8 ∧ 9 ≤ fu + k ∧ wr = w1 ∧ Hid (wO Z = goC Z fu k a b)) (fun _ _ vk _ _ => 9 - (intOf vk).toNat)
 case atStart => exact ⟨9, 0, 0, 0, rfl, rfl, rfl, by omega, by omega, by omega, by omega, rfl, rfl⟩
 case round =>
  obtain ⟨fu, k0, a, b, rfl, rfl, rfl, hk9, hab, hb8, hfu, rfl, HW⟩ := hrel
  by_cases hlt : k0 < 8
  ·obtain ⟨YX, rfl⟩ : ∃ YX, fu = YX + 1 := ⟨fu - 1, by omega⟩
   have hfu2 : 9 ≤ YX + (k0 + 1) := by omega
   clear hfu
   go_wp2
   go_loopw [4] (fun vk wx => ∃ k : Nat, k0 ≤ k ∧ k ≤ 8 ∧ vk = .int .i64 (k : Int) ∧ wx = wr ∧ Hid (run Z k0 = (k - k0) + run Z k)) (fun vk _ => 8 - (intOf vk).toNat)
   case atStart => exact ⟨k0, by omega, by omega, rfl, rfl, by show _ = _; omega⟩
   case round =>
    obtain ⟨k, hk0, hk8, rfl, rfl, HR⟩ := hrel
    by_cases hk : k < 8
    ·have hc0 := wZ.out.cell k (by show k < 8; exact hk)
     rw [Yl f k hk] at hc0
     have hzk : Z[k]'(by rw [JE.out]; exact hk) = (f k == 0) := by
      have := aaT f k hk (by rw [LK]; exact hk)
      simp only [HZ.out]
      exact this
     have HZK := hid hzk
     obtain ⟨x, hx⟩ : ∃ x, f k = x := ⟨_, rfl⟩
     rw [hx] at hc0 HZK
     have hk8i : (k : Int) < 8 := by omega
     clear hx hzk
     by_cases hx0 : x = 0
     ·subst hx0
      have HR2 : Hid (run Z k0 = (k + 1 - k0) + run Z (k + 1)) := by
       show _ = _
       rw [HR.out, aam (by rw [JE.out]; exact hk) (by rw [HZK.out]; rfl)]
       omega
      rw [show ((0 : Nat) : Int) = 0 from rfl] at hc0
      go_wp2
      go_roundw
      case rel => exact ⟨k + 1, by omega, by omega, by go_num, by first | rfl | trivial, HR2.out⟩
      case measure => simp [intOf]; omega
     ·have hxb : ((x : Int) == 0) = false := by rw [Yz]; simpa using hx0
      have hxn : ¬ (x : Int) = 0 := by omega
      have HRE : Hid (run Z k0 = k - k0) := by
       show _ = _
       rw [HR.out, run_nz (by rw [JE.out]; exact hk) (by rw [HZK.out]; simpa using hx0)]
       rfl
      clear hx0
      by_cases hgt : b - a < k - k0
      ·have HW2 : Hid (wO Z = goC Z YX (k + 1) k0 k) := by
        show _ = _
        rw [HW.out]
        conv => lhs; unfold goC
        rw [if_pos (by rw [JE.out]; exact hlt), HRE.out, if_pos hgt, show k0 + (k - k0) = k by omega]
       have hgi : (b : Int) - (a : Int) < (k : Int) - (k0 : Int) := by omega
       have hki : (k0 : Int) ≤ (k : Int) := by omega
       have hai : (a : Int) ≤ (b : Int) := by omega
       clear hgt
       go_wp2
       go_roundw
       case rel => exact ⟨YX, k + 1, k0, k, by go_num, rfl, rfl, by omega, by omega, by omega, by omega, by first | rfl | trivial, HW2.out⟩
       case measure => simp [intOf]; omega
      ·have HW2 : Hid (wO Z = goC Z YX (k + 1) a b) := by
        show _ = _
        rw [HW.out]
        conv => lhs; unfold goC
        rw [if_pos (by rw [JE.out]; exact hlt), HRE.out, if_neg hgt, show k0 + (k - k0) = k by omega]
       have hgi : ¬ (b : Int) - (a : Int) < (k : Int) - (k0 : Int) := by omega
       clear hgt
       go_wp2
       go_roundw
       case rel => exact ⟨YX, k + 1, a, b, by go_num, rfl, rfl, by omega, by omega, by omega, by omega, by first | rfl | trivial, HW2.out⟩
       case measure => simp [intOf]; omega
    ·obtain rfl : k = 8 := by omega
     have HRE : Hid (run Z k0 = 8 - k0) := by show _ = _; rw [HR.out, run_end (by rw [JE.out]; exact Nat.le_refl _)]; rfl
     by_cases hgt : b - a < 8 - k0
     ·have HW2 : Hid (wO Z = goC Z YX (8 + 1) k0 8) := by
       show _ = _
       rw [HW.out]
       conv => lhs; unfold goC
       rw [if_pos (by rw [JE.out]; exact hlt), HRE.out, if_pos hgt, show k0 + (8 - k0) = 8 by omega]
      have hgi : (b : Int) - (a : Int) < 8 - (k0 : Int) := by omega
      have hki : (k0 : Int) ≤ 8 := by omega
      have hai : (a : Int) ≤ (b : Int) := by omega
      clear hgt
      go_wp2
      go_roundw
      case rel => exact ⟨YX, 8 + 1, k0, 8, by go_num, rfl, rfl, by omega, by omega, by omega, by omega, by first | rfl | trivial, HW2.out⟩
      case measure => simp [intOf]; omega
     ·have HW2 : Hid (wO Z = goC Z YX (8 + 1) a b) := by
       show _ = _
       rw [HW.out]
       conv => lhs; unfold goC
       rw [if_pos (by rw [JE.out]; exact hlt), HRE.out, if_neg hgt, show k0 + (8 - k0) = 8 by omega]
      have hgi : ¬ (b : Int) - (a : Int) < 8 - (k0 : Int) := by omega
      clear hgt
      go_wp2
      go_roundw
      case rel => exact ⟨YX, 8 + 1, a, b, by go_num, rfl, rfl, by omega, by omega, by omega, by omega, by first | rfl | trivial, HW2.out⟩
      case measure => simp [intOf]; omega
  ·have HE : Hid (wO Z = (a, b)) := by show _ = _; rw [HW.out]; exact goC_end (by rw [JE.out]; omega)
   have hk8i : ¬ (k0 : Int) < 8 := by omega
   go_wp2
   go_ret2
   exact ⟨by rw [HE.out]; rfl, HB1.out⟩
theorem EP (f : Nat → Nat) : (wO (zs f)).1 ≤ (wO (zs f)).2 ∧ (wO (zs f)).2 ≤ 8 := by
 have := KU (f 0 == 0) (f 1 == 0) (f 2 == 0) (f 3 == 0) (f 4 == 0) (f 5 == 0) (f 6 == 0) (f 7 == 0)
 exact ⟨this.1, this.2.1⟩
def prt (f : Nat → Nat) : List UInt8 := if (wO (zs f)).2 - (wO (zs f)).1 < 2 then jx (V8 f) else jx ((V8 f).take (wO (zs f)).1) ++ [58, 58] ++ jx ((V8 f).drop (wO (zs f)).2)
theorem Et {w : World} {g : Nat} {t : TypeId} {L : List Nat} (h : Box w g t L) : bK w (some ⟨g, 0, none⟩) L.length (aN L) :=
 bK.kG (jG L) (Array.getElem?_eq_some_iff.1 h).1 (fun j hj => by
  rw [Nat.zero_add, h.cell j (by rw [jG] at hj; exact hj)]
  simp [aN])
theorem MC {f : Nat → Nat} (h : ∀ i, f i < 65536) : ∀ x ∈ V8 f, x < 65536 := by
 intro x hx
 simp only [V8, List.mem_cons, List.not_mem_nil, or_false] at hx
 rcases hx with rfl | rfl | rfl | rfl | rfl | rfl | rfl | rfl <;> exact h _
theorem print_any (f : Nat → Nat) (h6 : ∀ i, f i < 65536) (w : World) (hL : nP w) : Calls Tryz.prog 231 #[A8 f] w fun e w' => e = .returned (.string (strOf (prt f))) ∧ Below w.heap.size w w' := by
 obtain ⟨P, hP⟩ : ∃ P, P = prt f := ⟨_, rfl⟩
 rw [← hP]
 have Oc := hid hL
 have H6 := hid (MC h6)
 have hab := EP f
 have hlq := fun w => PD f w
 unfold prt at hP
 unfold A8 at hlq ⊢
 obtain ⟨a, ha⟩ : ∃ a, a = (wO (zs f)).1 := ⟨_, rfl⟩
 obtain ⟨b, hb⟩ : ∃ b, b = (wO (zs f)).2 := ⟨_, rfl⟩
 rw [← ha, ← hb] at hP hab
 have hlq2 : ∀ w, Calls Tryz.prog 252 #[.agg #[.int .u16 (f 0 : Int), .int .u16 (f 1 : Int), .int .u16 (f 2 : Int), .int .u16 (f 3 : Int), .int .u16 (f 4 : Int), .int .u16 (f 5 : Int), .int .u16 (f 6 : Int), .int .u16 (f 7 : Int)]] w fun e w' => e = .returned (.tuple #[.int .i64 (a : Int), .int .i64 (b : Int)]) ∧ Below w.heap.size w w' := by
  intro w
  rw [ha, hb]
  exact hlq w
 have HLQ := hid hlq2
 obtain ⟨hab1, hab2⟩ := hab
 have HP := hid hP
 clear hlq hlq2 ha hb hL h6 hP
 go_enter Tryz.func231, Tryz.ntmps231
 go_upto_region 1 with (fail)
 generalize hw1 : w.alloc _ = w1
 have HB1 : Hid (Below w.heap.size w w1) := by
  show Below _ _ _
  rw [← hw1]
  exact (Below.refl _ _).alloc (Nat.le_refl _) _
 have wZ : Hid (Box w1 w.heap.size 183 (V8 f)) := by
  show Box _ _ _ _
  rw [← hw1]
  exact MJ f
 clear hw1
 obtain ⟨c0, c1, c2, c3, c4, c5, c6, c7⟩ := dA wZ.out f rfl
 go_wp2_with fail
 refine (HLQ.out _).mono ?_
 rintro e w2 ⟨rfl, hb2⟩
 have HB2 : Hid (Below w.heap.size w w2) := bel HB1.out hb2
 have mD := hid (wZ.out.below hb2)
 have hab3 : (a : Int) ≤ (b : Int) := by omega
 have hb8i : (b : Int) ≤ 8 := by omega
 clear hb2 c0 c1 c2 c3 c4 c5 c6 c7
 by_cases hlt : b - a < 2
 ·have hlti : (b : Int) - (a : Int) < 2 := by omega
  have HE : Hid (P = jx (V8 f)) := by show _ = _; rw [HP.out, if_pos hlt]
  clear hlt
  go_wp2_with fail
  refine (Ik _ 8 8 (V8 f) _ (Et mD.out) (Nat.le_refl _) H6.out (Oc.out.below HB2.out)).mono ?_
  rintro e w3 ⟨rfl, hb3⟩
  go_wp2
  go_ret
  exact ⟨by rw [HE.out]; rfl, bel HB2.out hb3⟩
 ·have hlti : ¬ (b : Int) - (a : Int) < 2 := by omega
  have ha8 : a ≤ 8 := by omega
  obtain ⟨P1, hP1⟩ : ∃ P1, P1 = strOf (jx ((V8 f).take a)) := ⟨_, rfl⟩
  obtain ⟨P2, hP2⟩ : ∃ P2, P2 = strOf (jx ((V8 f).take a) ++ [58, 58]) := ⟨_, rfl⟩
  obtain ⟨P3, hP3⟩ : ∃ P3, P3 = strOf (jx ((V8 f).drop b)) := ⟨_, rfl⟩
  obtain ⟨P4, hP4⟩ : ∃ P4, P4 = strOf P := ⟨_, rfl⟩
  have hl1 := EJ ((V8 f).take a)
  have hl2 := EJ ((V8 f).drop b)
  rw [List.length_take] at hl1
  rw [List.length_drop] at hl2
  have h8l : (V8 f).length = 8 := rfl
  rw [h8l] at hl1 hl2
  have a1 : ∀ w : World, (Op.stringOp .add P1 ⟨#[58, 58]⟩).run Tryz.prog w = .ok (.string P2) w := fun w => by
   rw [hP1, hP2]
   exact dX _ [58, 58] w (by simp; omega)
  have a2 : ∀ w : World, (Op.stringOp .add P2 P3).run Tryz.prog w = .ok (.string P4) w := fun w => by
   rw [hP2, hP3, hP4, HP.out, if_neg hlt]
   exact dX _ _ w (by rw [List.length_append]; simp; omega)
  have QX := hid hP1
  have HP3 := hid hP3
  have HE : Hid (P4 = strOf P) := hP4
  have HT : Hid (bK w2 (some ⟨w.heap.size, 0, none⟩) a (aN ((V8 f).take a))) := by
   have := (Et mD.out).upto a (by show a ≤ 8; omega)
   have e : aN ((V8 f).take a) = (aN (V8 f)).take a := by simp [aN]
   show bK _ _ _ _
   rw [e]
   exact this
  have HD : Hid (bK w2 (some ⟨w.heap.size, b, none⟩) (8 - b) (aN ((V8 f).drop b))) := by
   have := (Et mD.out).cut b (by show b ≤ 8; omega)
   have e : aN ((V8 f).drop b) = (aN (V8 f)).drop b := by simp [aN]
   show bK _ _ _ _
   rw [e]
   rw [show (V8 f).length = 8 from rfl, Nat.zero_add] at this
   exact this
  have HM1 : Hid (∀ x ∈ (V8 f).take a, x < 65536) := fun x hx => H6.out x (List.mem_of_mem_take hx)
  have HM2 : Hid (∀ x ∈ (V8 f).drop b, x < 65536) := fun x hx => H6.out x (List.mem_of_mem_drop hx)
  clear hlt hP1 hP2 hP3 hP4 hl1 hl2 h8l
  go_wp2_with fail
  refine bW (by kernel_rfl) [is (.int .i64 (a : Int)), is (.slice (some ⟨w.heap.size, 0, none⟩) a 8), is (.string P1), is (.string P2), is (.int .i64 (b : Int)), row (8 - b) (aN ((V8 f).drop b)), is (.string P3), is (.string P4), is (.string P4)] [[], [0], [1], [2], [], [4], [5], [3, 6], [7]] (by kernel_rfl) ?_ ?_
  ·refine ⟨?_, ?_, ?_, ?_, ?_, ?_, ?_, ?_, ?_, trivial⟩
   all_goals (intro t wq hbq hh K hK; simp only [filled, upd, Have, is, any, row, pick, Act.put, List.setIfInBounds_toArray, List.set_cons_zero, List.set_cons_succ, Nat.reduceAdd, Nat.reduceEqDiff, reduceIte, List.tail_cons, List.headD_cons] at hh hK ⊢)
   ·(try clear hh); go_simp; exact hK _ _ (Below.refl _ _) rfl
   ·simp only [hh] at hK ⊢
    clear hh
    have ha1 : (a : Int) ≤ 8 := by omega
    have ha0 : (0 : Int) ≤ (a : Int) := by omega
    go_simp
    exact hK _ _ (Below.refl _ _) rfl
   ·simp only [hh] at hK ⊢; clear hh; go_simp; refine (Ik _ a 8 ((V8 f).take a) _ (HT.out.below hbq) (by omega) HM1.out (Oc.out.below (HB2.out.trans (hbq.mono HB2.out.size)))).mono ?_; rintro e w5 ⟨rfl, hb5⟩; rw [← QX.out]; exact hK _ _ hb5 rfl
   ·simp only [hh] at hK ⊢; clear hh; go_simp; exact hK _ _ (Below.refl _ _) rfl
   ·(try clear hh); go_simp; exact hK _ _ (Below.refl _ _) rfl
   ·simp only [hh] at hK ⊢
    clear hh
    have hb1 : (b : Int) ≤ 8 := by omega
    have hb0 : (0 : Int) ≤ (b : Int) := by omega
    by_cases hb8 : b = 8
    ·have hz : 8 - b = 0 := by omega
     simp only [hb8] at hK
     go_simp
     exact hK _ _ (Below.refl _ _) ⟨_, _, rfl, by omega, by unfold maxLen; omega, by rw [List.drop_eq_nil_of_le (by show 8 ≤ 8; omega)]; exact bK.nil _⟩
    ·have hz : ¬ 8 - b = 0 := by omega
     have hz2 : ¬ 8 = b := by omega
     go_simp
     exact hK _ _ (Below.refl _ _) ⟨_, _, rfl, Nat.le_refl _, by unfold maxLen; omega, HD.out.below hbq⟩
   ·have e5 := hh.1; (try clear hh); obtain ⟨A5, c5, e5, hc5, hm5, hr5⟩ := e5; simp only [e5] at hK ⊢; go_simp; refine (Ik A5 (8 - b) c5 ((V8 f).drop b) _ hr5 (by omega) HM2.out (Oc.out.below (HB2.out.trans (hbq.mono HB2.out.size)))).mono ?_; rintro e w5 ⟨rfl, hb5⟩; rw [← HP3.out]; exact hK _ _ hb5 rfl
   ·simp only [hh] at hK ⊢; clear hh; go_simp; first | exact hK _ _ (Below.refl _ _) rfl | exact hK _ _ (Below.refl _ _) trivial
   ·simp only [hh] at hK ⊢; clear hh; go_simp; exact hK _ _ (Below.refl _ _) rfl
  ·intro t wq hbq hh
   have f8 := aG hh 8 (by decide)
   simp only [pick] at f8
   replace f8 : t 8 = (.string P4) := f8
   clear hh
   simp only [filled, upd, Have, is, any, row, pick, Act.put, List.setIfInBounds_toArray, List.set_cons_zero, List.set_cons_succ, Nat.reduceAdd, Nat.reduceEqDiff, reduceIte]
   simp only [f8]
   go_wp2
   go_ret
   exact ⟨by rw [← HE.out]; rfl, HB2.out.trans (hbq.mono HB2.out.size)⟩
end Go.Proofs.YtmdofbccebkbiaaGreatDoor.lJ
