/- IPv6 addresses, plain: the document's steps on the bytes. -/
import Derived.Test.YtnmkkejodkjjiaaDoorSixP
namespace Go.Proofs.YtnmkkejodkjjiaaDoor.SixQ
open Go.RowKit Go.Proofs.YtnmkkejodkjjiaaDoor.Base Go.Proofs.YtnmkkejodkjjiaaDoor.UtfA Go.Proofs.YtnmkkejodkjjiaaDoor.QudP Go.Proofs.YtnmkkejodkjjiaaDoor.SixP

theorem isD_colon (b : Nat) : isD b 58 = false := by unfold isD; rfl
theorem isD_dot (b : Nat) : isD b 46 = false := by unfold isD; rfl
theorem isD_10_16 (c : UInt8) (h : isD 16 c = false) : isD 10 c = false := by
  cases h2 : isD 10 c with
  | false => rfl
  | true =>
    unfold isD at h h2
    simp at h h2
    omega
theorem digs_mem {b : Nat} {L : List UInt8} (h : digs b L = true) {c : UInt8} (hc : c ∈ L) : isD b c = true := List.all_eq_true.1 h c hc
theorem digs_no {b : Nat} {L : List UInt8} {c : UInt8} (hc : c ∈ L) (h : isD b c = false) : digs b L = false := by
  cases e : digs b L with
  | false => rfl
  | true => rw [digs_mem e hc] at h; cases h
/-- m digits at the beginning, four at most, and no more than that. -/
structure Pre (b : Nat) (t : List UInt8) (m : Nat) : Prop where
  four : m ≤ 4
  len : m ≤ t.length
  all : digs b (t.take m) = true
  stop : m = 4 ∨ ∀ c, t[m]? = some c → isD b c = false
theorem Pre.no {b : Nat} {t : List UInt8} {m : Nat} (h : Pre b t m) (x : UInt8) (hx : isD b x = false) : ∀ c ∈ t.take m, c ≠ x := by
  rintro c hc rfl
  rw [digs_mem h.all hc] at hx
  cases hx
theorem split_at (t : List UInt8) (m : Nat) (c : UInt8) (h : t[m]? = some c) : t = t.take m ++ c :: t.drop (m + 1) := by
  obtain ⟨hm, hc⟩ := List.getElem?_eq_some_iff.1 h
  conv => lhs; rw [← List.take_append_drop m t, List.drop_eq_getElem_cons hm, hc]
theorem R_cons (p : List UInt8) (r : List (List UInt8)) (l : List Nat) (g : Option Nat) : R (p :: r) l g = if p = [] ∧ r = [] then some (l, g) else if l.length = 8 then none else if p = [] then (match g with
      | some _ => none
      | none => R r l (some l.length))
    else if r = [] then (if p.contains 46 = true then (match quad p with
        | some x => if l.length ≤ 6 then some (l ++ x, g) else none
        | none => none)
      else match piece p with
        | some n => some (l ++ [n], g)
        | none => none)
    else match piece p with
      | some n => if r = [[]] then none else R r (l ++ [n]) g
      | none => none := by
  cases g <;> (rw [R]; rfl)
theorem R_full {t : List UInt8} (ht : t ≠ []) {l : List Nat} (hl : l.length = 8) (g : Option Nat) : R (splc t) l g = none := by
  cases t with
  | nil => exact absurd rfl ht
  | cons a r =>
    by_cases ha : a = 58
    · subst ha
      rw [splc_colon, R_cons, if_neg (by simp [splc_ne]), if_pos hl]
    · obtain ⟨x, s, _, e⟩ := splc_cons ha r
      rw [e, R_cons, if_neg (by simp), if_pos hl]
theorem R_colon (t : List UInt8) {l : List Nat} (hl : l.length ≠ 8) : R (splc (58 :: t)) l none = R (splc t) l (some l.length) := by
  rw [splc_colon, R_cons, if_neg (by simp [splc_ne]), if_neg hl, if_pos rfl]
theorem R_colons (t : List UInt8) {l : List Nat} (hl : l.length ≠ 8) (g : Nat) : R (splc (58 :: t)) l (some g) = none := by
  rw [splc_colon, R_cons, if_neg (by simp [splc_ne]), if_neg hl, if_pos rfl]
theorem R_end (l : List Nat) (g : Option Nat) : R (splc []) l g = some (l, g) := by
  show R [[]] l g = _
  rw [R_cons, if_pos ⟨rfl, rfl⟩]
theorem splc_one {t : List UInt8} : splc t = [[]] ↔ t = [] := by
  constructor
  · intro h
    cases t with
    | nil => rfl
    | cons a r =>
      by_cases ha : a = 58
      · subst ha; rw [splc_colon] at h; injection h with _ h; exact absurd h (splc_ne r)
      · obtain ⟨x, s, _, e⟩ := splc_cons ha r
        rw [e] at h
        cases h
  · rintro rfl; rfl
theorem piece_some {p : List UInt8} (h1 : 1 ≤ p.length) (h4 : p.length ≤ 4) (hd : digs 16 p = true) : piece p = some (val 16 p) := if_pos ⟨h1, h4, hd⟩
theorem pos_of_not {t : List UInt8} {m : Nat} {c x : UInt8} (h : t[m]? = some c) (h0 : t[0]? ≠ some x) (hc : c = x) : 1 ≤ m := by
  cases m with
  | zero => subst hc; exact absurd h h0
  | succ m => omega
theorem R_piece {t : List UInt8} {m : Nat} (P : Pre 16 t m) (h0 : t[0]? ≠ some 58) (hm : t[m]? = some 58) {l : List Nat} (hl : l.length ≠ 8) (g : Option Nat) :
    R (splc t) l g = if t.drop (m + 1) = [] then none else R (splc (t.drop (m + 1))) (l ++ [val 16 (t.take m)]) g := by
  have h1 : 1 ≤ m := pos_of_not hm h0 rfl
  have hlen : (t.take m).length = m := by rw [List.length_take]; have := P.len; omega
  have e : splc t = t.take m :: splc (t.drop (m + 1)) := by
    conv => lhs; rw [split_at t m 58 hm]
    exact splc_app _ _ (P.no 58 (isD_colon 16))
  rw [e, R_cons, if_neg (by simp [splc_ne]), if_neg hl, if_neg (by intro h; rw [h] at hlen; simp at hlen; omega), if_neg (splc_ne _), piece_some (by omega) (by rw [hlen]; exact P.four) P.all]
  simp only []
  by_cases hz : t.drop (m + 1) = []
  · rw [if_pos (splc_one.2 hz), if_pos hz]
  · rw [if_neg (fun h => hz (splc_one.1 h)), if_neg hz]
theorem R_last {t : List UInt8} {m : Nat} (P : Pre 16 t m) (ht : t ≠ []) (hm : t[m]? = none) {l : List Nat} (hl : l.length ≠ 8) (g : Option Nat) :
    R (splc t) l g = some (l ++ [val 16 (t.take m)], g) := by
  have hml : t.length ≤ m := List.getElem?_eq_none_iff.1 hm
  have htk : t.take m = t := List.take_of_length_le hml
  have hall := P.all
  have hno := P.no 58 (isD_colon 16)
  have hno2 := P.no 46 (isD_dot 16)
  rw [htk] at hall hno hno2 ⊢
  have hp : 1 ≤ t.length := by cases t with
    | nil => exact absurd rfl ht
    | cons a r => simp
  rw [splc_plain t hno, R_cons, if_neg (by simp [ht]), if_neg hl, if_neg ht, if_pos rfl, if_neg (by simp; exact fun h => hno2 46 h rfl), piece_some hp (by have := P.four; omega) hall]
theorem splt_plain : ∀ (p : List UInt8), (∀ c ∈ p, c ≠ 46) → splt p = [p]
  | [], _ => rfl
  | c :: p, h => by rw [splt, if_neg (h c (by simp)), splt_plain p fun d hd => h d (by simp [hd])]
theorem splt_app : ∀ (p L : List UInt8), (∀ c ∈ p, c ≠ 46) → splt (p ++ 46 :: L) = p :: splt L
  | [], L, _ => by rw [List.nil_append, splt, if_pos rfl]
  | c :: p, L, h => by rw [List.cons_append, splt, if_neg (h c (by simp)), splt_app p L fun d hd => h d (by simp [hd])]
theorem splt_head : ∀ (L : List UInt8), ∃ p, (∀ c ∈ p, c ≠ 46) ∧ ((L = p ∧ splt L = [p]) ∨ ∃ M, L = p ++ 46 :: M ∧ splt L = p :: splt M)
  | [] => ⟨[], by simp, .inl ⟨rfl, rfl⟩⟩
  | c :: L => by
    by_cases h : c = 46
    · subst h
      exact ⟨[], by simp, .inr ⟨L, rfl, splt_app [] L (by simp)⟩⟩
    · obtain ⟨p, hp, hL⟩ := splt_head L
      have hp' : ∀ d ∈ c :: p, d ≠ 46 := by
        intro d hd
        rcases List.mem_cons.1 hd with rfl | hd
        · exact h
        · exact hp d hd
      refine ⟨c :: p, hp', ?_⟩
      rcases hL with ⟨rfl, _⟩ | ⟨M, rfl, _⟩
      · exact .inl ⟨rfl, splt_plain _ hp'⟩
      · exact .inr ⟨M, rfl, splt_app (c :: p) M hp'⟩
/-- The first part of what begins so goes on beyond m. -/
theorem splt_first (t : List UInt8) (m : Nat) (c : UInt8) (hc : t[m]? = some c) (hc46 : c ≠ 46) (hno : ∀ d ∈ t.take m, d ≠ 46) : ∃ q r, splt t = q :: r ∧ m < q.length ∧ c ∈ q := by
  obtain ⟨hm, hcm⟩ := List.getElem?_eq_some_iff.1 hc
  obtain ⟨q, hq, h⟩ := splt_head t
  rcases h with ⟨rfl, e⟩ | ⟨M, e1, e⟩
  · exact ⟨t, [], e, hm, by rw [← hcm]; exact List.getElem_mem _⟩
  · by_cases hl : m < q.length
    · refine ⟨q, _, e, hl, ?_⟩
      have : t[m] = q[m] := by subst e1; rw [List.getElem_append_left hl]
      rw [← hcm, this]
      exact List.getElem_mem _
    · exfalso
      have hq46 : t[q.length]? = some 46 := by rw [e1]; simp
      by_cases he : m = q.length
      · rw [← he, hc] at hq46
        injection hq46 with hq46
        exact hc46 hq46
      · have hmem : (46 : UInt8) ∈ t.take m := by
          rw [e1, List.take_append, List.mem_append]
          right
          rw [show m - q.length = (m - q.length - 1) + 1 by omega]
          simp
        exact hno 46 hmem rfl
theorem smalls_none {q : List UInt8} {r : List (List UInt8)} (h : small q = none) : smalls (q :: r) = none := by rw [smalls, h]
theorem small_long {q : List UInt8} (h : 3 < q.length) : small q = none := if_neg (fun e => by omega)
theorem small_odd {q : List UInt8} {c : UInt8} (hc : c ∈ q) (h : isD 10 c = false) : small q = none := if_neg (fun e => by have := digs_no hc h; rw [this] at e; cases e.2.2.2.1)
theorem quad_smalls {t : List UInt8} (h : smalls (splt t) = none) : quad t = none := by unfold quad; rw [h]; rfl
theorem smalls_mem : ∀ {ps : List (List UInt8)} {q : List UInt8}, q ∈ ps → small q = none → smalls ps = none
  | p :: r, q, hq, h => by
    rcases List.mem_cons.1 hq with rfl | hq
    · exact smalls_none h
    · rw [smalls, smalls_mem hq h]
      cases small p <;> rfl
theorem splt_mem : ∀ (t : List UInt8) (c : UInt8), c ∈ t → c ≠ 46 → ∃ q ∈ splt t, c ∈ q
  | a :: t, c, hc, h46 => by
    rw [splt]
    by_cases ha : a = 46
    · rw [if_pos ha]
      rcases List.mem_cons.1 hc with rfl | hc
      · exact absurd ha h46
      · obtain ⟨q, h1, h2⟩ := splt_mem t c hc h46
        exact ⟨q, List.mem_cons_of_mem _ h1, h2⟩
    · rw [if_neg ha]
      cases e : splt t with
      | nil => exact absurd e (splt_ne t)
      | cons x r =>
        rcases List.mem_cons.1 hc with rfl | hc
        · exact ⟨c :: x, by simp, by simp⟩
        · obtain ⟨q, h1, h2⟩ := splt_mem t c hc h46
          rw [e] at h1
          rcases List.mem_cons.1 h1 with rfl | h1
          · exact ⟨a :: q, by simp, by simp [h2]⟩
          · exact ⟨q, by simp [h1], h2⟩
theorem quad_colon {t : List UInt8} (h : (58 : UInt8) ∈ t) : quad t = none := by
  obtain ⟨q, h1, h2⟩ := splt_mem t 58 h (by decide)
  exact quad_smalls (smalls_mem h1 (small_odd h2 (isD_colon 10)))
theorem piece_odd {q : List UInt8} {c : UInt8} (hc : c ∈ q) (h : isD 16 c = false) : piece q = none := if_neg (fun e => by have := digs_no hc h; rw [this] at e; cases e.2.2)
theorem piece_long {q : List UInt8} (h : 4 < q.length) : piece q = none := if_neg (fun e => by omega)
/-- A part that goes on beyond its digits is none. -/
theorem R_odd {t : List UInt8} {m : Nat} (P : Pre 16 t m) {c : UInt8} (hm : t[m]? = some c) (h58 : c ≠ 58) (h46 : c ≠ 46) {l : List Nat} (hl : l.length ≠ 8) (g : Option Nat) : R (splc t) l g = none := by
  have hno := P.no 58 (isD_colon 16)
  obtain ⟨hml, hcm⟩ := List.getElem?_eq_some_iff.1 hm
  obtain ⟨p, hp, h⟩ := splc_head t
  have hpm : m < p.length ∧ p[m]? = some c := by
    rcases h with ⟨rfl, _⟩ | ⟨M, e1, _⟩
    · exact ⟨hml, hm⟩
    · by_cases hl : m < p.length
      · refine ⟨hl, ?_⟩
        rw [e1, List.getElem?_append_left hl] at hm
        exact hm
      · exfalso
        by_cases he : m = p.length
        · rw [e1, he] at hm
          simp at hm
          exact h58 hm.symm
        · refine hno 58 ?_ rfl
          rw [e1, List.take_append, List.mem_append]
          right
          rw [show m - p.length = (m - p.length - 1) + 1 by omega]
          simp
  have hcp : c ∈ p := by obtain ⟨h1, h2⟩ := List.getElem?_eq_some_iff.1 hpm.2; rw [← h2]; exact List.getElem_mem _
  have hpc : piece p = none := by
    rcases P.stop with h4 | hs
    · exact piece_long (by omega)
    · exact piece_odd hcp (hs c hm)
  have hpn : p ≠ [] := by rintro rfl; simp at hcp
  have hpt : p.take m = t.take m := by
    rcases h with ⟨rfl, _⟩ | ⟨M, e1, _⟩
    · rfl
    · rw [e1, List.take_append_of_le_length (by omega)]
  have hq : quad p = none := by
    obtain ⟨q, r, e, hlq, hcq⟩ := splt_first p m c hpm.2 h46 (by rw [hpt]; exact P.no 46 (isD_dot 16))
    apply quad_smalls
    rw [e]
    apply smalls_none
    rcases P.stop with h4 | hs
    · exact small_long (by omega)
    · exact small_odd hcq (isD_10_16 c (hs c hm))
  have key : ∀ r, R (p :: r) l g = none := by
    intro r
    rw [R_cons, if_neg (by simp [hpn]), if_neg hl, if_neg hpn]
    by_cases hr : r = []
    · rw [if_pos hr, hq, hpc]
      split <;> rfl
    · rw [if_neg hr, hpc]
  rcases h with ⟨_, e⟩ | ⟨M, _, e⟩ <;> rw [e, key]
/-- Four numbers. -/
theorem R_quad {t : List UInt8} {m : Nat} (P : Pre 16 t m) (hm : t[m]? = some 46) {l : List Nat} (hl : l.length ≠ 8) (g : Option Nat) :
    R (splc t) l g = match quad t with
      | some x => if l.length ≤ 6 then some (l ++ x, g) else none
      | none => none := by
  have hno := P.no 58 (isD_colon 16)
  obtain ⟨hml, hcm⟩ := List.getElem?_eq_some_iff.1 hm
  have h46 : (46 : UInt8) ∈ t := by rw [← hcm]; exact List.getElem_mem _
  obtain ⟨p, hp, h⟩ := splc_head t
  rcases h with ⟨rfl, e⟩ | ⟨M, e1, e⟩
  · have htn : t ≠ [] := by rintro rfl; simp at h46
    rw [e, R_cons, if_neg (by simp [htn]), if_neg hl, if_neg htn, if_pos rfl, if_pos (by simpa using h46)]
  · rw [quad_colon (by rw [e1]; simp), e]
    have h46p : (46 : UInt8) ∈ p := by
      by_cases hlp : m < p.length
      · rw [e1, List.getElem?_append_left hlp] at hm
        obtain ⟨h1, h2⟩ := List.getElem?_eq_some_iff.1 hm
        rw [← h2]; exact List.getElem_mem _
      · exfalso
        by_cases he : m = p.length
        · rw [e1, he] at hm
          simp at hm
        · refine hno 58 ?_ rfl
          rw [e1, List.take_append, List.mem_append]
          right
          rw [show m - p.length = (m - p.length - 1) + 1 by omega]
          simp
    have hpn : p ≠ [] := by rintro rfl; simp at h46p
    rw [R_cons, if_neg (by simp [hpn]), if_neg hl, if_neg hpn, if_neg (splc_ne M), piece_odd h46p (isD_dot 16)]
theorem quad_dot {t : List UInt8} (hm : t[0]? = some 46) : quad t = none := by
  cases t with
  | nil => cases hm
  | cons a r =>
    injection hm with hm
    subst hm
    apply quad_smalls
    rw [splt, if_pos rfl]
    exact smalls_none (if_neg (by simp))
/-- The document's four numbers, one by one. -/
def cont (b : List Nat) (t : List UInt8) : Option (List Nat) := match smalls (splt t) with
  | some l => if b.length + l.length = 4 then some (b ++ l) else none
  | none => none
theorem two_none {l : List Nat} (h : l.length ≠ 4) : two l = none := by
  unfold two
  split
  · exact absurd rfl h
  · rfl
theorem quad_cont (t : List UInt8) : quad t = (cont [] t).bind two := by
  unfold quad cont
  cases smalls (splt t) with
  | none => rfl
  | some l =>
    show two l = _
    by_cases h : l.length = 4
    · simp [h]
    · simp [h, two_none h]
theorem cont_bad {t : List UInt8} {m : Nat} (P : Pre 10 t m) (h : m = 0 ∨ 255 < val 10 (t.take m) ∨ (1 < m ∧ t[0]? = some 48)) (b : List Nat) : cont b t = none := by
  have hs : smalls (splt t) = none := by
    have hno := P.no 46 (isD_dot 10)
    have hlen : (t.take m).length = m := by rw [List.length_take]; have := P.len; omega
    have hsm : small (t.take m) = none := by
      apply if_neg
      rintro ⟨a1, a2, a3, a4, a5⟩
      rcases h with h | h | ⟨h, h2⟩
      · omega
      · omega
      · refine a3 ⟨by omega, ?_⟩
        cases t with
        | nil => cases h2
        | cons x r =>
          cases m with
          | zero => omega
          | succ m => simpa using h2
    cases hm : t[m]? with
    | none =>
      have : t.length ≤ m := List.getElem?_eq_none_iff.1 hm
      rw [List.take_of_length_le this] at hno hsm
      rw [splt_plain t hno]
      exact smalls_none hsm
    | some c =>
      by_cases h46 : c = 46
      · subst h46
        conv => lhs; rw [split_at t m 46 hm]
        rw [splt_app _ _ hno]
        exact smalls_none hsm
      · obtain ⟨q, r, e, hl, hc⟩ := splt_first t m c hm h46 hno
        rw [e]
        apply smalls_none
        rcases P.stop with h4 | hs
        · exact small_long (by omega)
        · exact small_odd hc (hs c hm)
  unfold cont
  rw [hs]
theorem dv_hi {c : UInt8} (h : isD 10 c = true) (h48 : c ≠ 48) : 1 ≤ dv c := by
  have H : ∀ n : Fin 256, (decide (0 ≤ hex (n.val : Int)) && decide (hex (n.val : Int) < (10 : Nat))) = true → n.val ≠ 48 → 1 ≤ (hex (n.val : Int)).toNat := by decide +kernel
  exact H ⟨c.toNat, c.toNat_lt⟩ h (fun e => h48 (UInt8.toNat_inj.1 e))
theorem small_good {t : List UInt8} {m : Nat} (P : Pre 10 t m) (h0 : m ≠ 0) (hv : val 10 (t.take m) ≤ 255) (hz : ¬ (1 < m ∧ t[0]? = some 48)) : m ≤ 3 ∧ small (t.take m) = some (val 10 (t.take m)) := by
  have hlen : (t.take m).length = m := by rw [List.length_take]; have := P.len; omega
  have h4 : m ≤ 3 := by
    have h4 := P.four
    have hall := P.all
    by_cases e : m = 4
    · exfalso
      subst e
      obtain ⟨a, u, rfl⟩ : ∃ a u, t = a :: u := by
        cases t with
        | nil => simp at hlen
        | cons a u => exact ⟨a, u, rfl⟩
      have ha : isD 10 a = true := digs_mem hall (by simp)
      have ha48 : a ≠ 48 := fun h => hz ⟨by omega, by rw [h]; rfl⟩
      have h1 := dv_hi ha ha48
      obtain ⟨L, hL⟩ : ∃ L, L = u.take 3 := ⟨_, rfl⟩
      rw [List.take_succ_cons] at hv hlen
      rw [← hL] at hv hlen
      match L, hlen, hv with
      | [b, c, d], _, hv =>
        simp only [val, List.foldl_cons, List.foldl_nil] at hv
        omega
    · omega
  refine ⟨h4, if_pos ⟨by omega, by omega, ?_, P.all, hv⟩⟩
  rintro ⟨h1, h2⟩
  refine hz ⟨by omega, ?_⟩
  cases t with
  | nil => simp at h2
  | cons x r =>
    cases m with
    | zero => omega
    | succ m => simpa using h2
theorem cont_last {t : List UInt8} {m : Nat} (P : Pre 10 t m) (h0 : m ≠ 0) (hv : val 10 (t.take m) ≤ 255) (hz : ¬ (1 < m ∧ t[0]? = some 48)) (hm : t.drop m = []) (b : List Nat) :
    cont b t = if b.length + 1 = 4 then some (b ++ [val 10 (t.take m)]) else none := by
  have hs := (small_good P h0 hv hz).2
  have hle : t.length ≤ m := List.drop_eq_nil_iff.1 hm
  have hno := P.no 46 (isD_dot 10)
  have htk : t.take m = t := List.take_of_length_le hle
  rw [htk] at hno hs ⊢
  unfold cont
  rw [splt_plain t hno, smalls, hs]
  rfl
theorem cont_next {t : List UInt8} {m : Nat} (P : Pre 10 t m) (h0 : m ≠ 0) (hv : val 10 (t.take m) ≤ 255) (hz : ¬ (1 < m ∧ t[0]? = some 48)) (hm : t[m]? = some 46) (b : List Nat) :
    cont b t = if b.length + 1 = 4 then none else cont (b ++ [val 10 (t.take m)]) (t.drop (m + 1)) := by
  have hs := (small_good P h0 hv hz).2
  have hno := P.no 46 (isD_dot 10)
  unfold cont
  have e : splt t = t.take m :: splt (t.drop (m + 1)) := by
    conv => lhs; rw [split_at t m 46 hm]
    exact splt_app _ _ hno
  rw [e, smalls, hs]
  cases hr : smalls (splt (t.drop (m + 1))) with
  | none => simp
  | some l =>
    have h1 : 1 ≤ l.length := by
      cases e2 : splt (t.drop (m + 1)) with
      | nil => exact absurd e2 (splt_ne _)
      | cons x r =>
        rw [e2, smalls] at hr
        split at hr
        · injection hr with hr; subst hr; simp
        · cases hr
    simp only [List.length_cons, List.length_append, List.length_nil, List.append_assoc, List.cons_append, List.nil_append]
    by_cases h4 : b.length + 1 = 4
    · rw [if_neg (by omega), if_pos h4]
    · rw [if_neg h4]
      by_cases h5 : b.length + (l.length + 1) = 4
      · rw [if_pos h5, if_pos (by omega)]
      · rw [if_neg h5, if_neg (by omega)]
theorem cont_odd {t : List UInt8} {m : Nat} (P : Pre 10 t m) {c : UInt8} (hm : t[m]? = some c) (h46 : c ≠ 46) (b : List Nat) : cont b t = none := by
  have hno := P.no 46 (isD_dot 10)
  obtain ⟨q, r, e, hl, hc⟩ := splt_first t m c hm h46 hno
  unfold cont
  rw [e, smalls_none]
  rcases P.stop with h4 | hs
  · exact small_long (by omega)
  · exact small_odd hc (hs c hm)
end Go.Proofs.YtnmkkejodkjjiaaDoor.SixQ
