/- Texts that belong together: SplG, SixQ, SixA, Spl, SixB, SixC, SixG, SixH, SixI. -/
import Derived.Test.YtleecmapaihhmaaGreatDoorMA
import Derived.Test.YtleecmapaihhmaaGreatDoorShelf3
import Derived.Lib.SplitLaws
import Derived.Lib.IndexLaws
import Derived.Test.YtleecmapaihhmaaGreatDoorM0
import Derived.Laws.BitsAllLaws
import Derived.Test.YtleecmapaihhmaaGreatDoorShelf
import Derived.Laws.Rows
import Derived.BigQuiet
import Derived.Laws.CopyOwn
import Derived.Lib.LaidTab
import Derived.Lib.LaidU8
import Derived.Lib.SmallJoins
import Derived.Laws.Bits64b
set_option linter.unusedSimpArgs false
set_option linter.unusedVariables false
namespace Go.Proofs.YtleecmapaihhmaaGreatDoor.Spl
open Go.RowKit Go.Proofs.YtleecmapaihhmaaGreatDoor.Base Go.Proofs.YtleecmapaihhmaaGreatDoor.Base2 Go.Proofs.YtleecmapaihhmaaGreatDoor.Base3

/-- The library's own variable holds some number. -/
def Max (w : World) : Prop := ∃ m, w.cell? ⟨0, 0, none⟩ = some (.int .i64 m)
theorem Max.below {w w' : World} (h : Max w) (hb : Below w.heap.size w w') : Max w' := by
  obtain ⟨m, hm⟩ := h
  exact ⟨m, (hb.cell (World.block_lt_of_cell? _ _ hm)).trans hm⟩
theorem splitK_gen (b : UInt8) (f : List UInt8 → List (List UInt8)) (f0 : f [] = [[]]) (f1 : ∀ L, f (b :: L) = [] :: f L) (f2 : ∀ c L, c ≠ b → f (c :: L) = match f L with
    | [] => [[c]]
    | x :: r => (c :: x) :: r) : ∀ (L : List UInt8) (k : Nat), L.count b ≤ k → Lib.splitK [b] 0 k L = f L
  | [], 0, _ => f0.symm
  | [], k + 1, _ => f0.symm
  | a :: l, 0, h => by
    have hb : a ≠ b := by rintro rfl; simp at h
    have ih := splitK_gen b f f0 f1 f2 l 0 (by rw [List.count_cons_of_ne (by simpa using hb)] at h; exact h)
    show [a :: l] = _
    rw [f2 a l hb, ← ih]
    rfl
  | a :: l, k + 1, h => by
    by_cases hb : a = b
    · subst hb
      have ih := splitK_gen a f f0 f1 f2 l k (by simp at h; omega)
      have e : Lib.index (a :: l) [a] = 0 := by rw [Lib.index, if_pos (by simp [List.isPrefixOf])]
      rw [f1, Lib.splitK, e, if_neg (by decide)]
      show [] :: _ = _
      rw [← ih]
      rfl
    · have hc : l.count b ≤ k + 1 := by rw [List.count_cons_of_ne (by simpa using hb)] at h; exact h
      have ih := splitK_gen b f f0 f1 f2 l (k + 1) hc
      have e : Lib.index (a :: l) [b] = if Lib.index l [b] == -1 then -1 else Lib.index l [b] + 1 := by rw [Lib.index, if_neg (by simp [List.isPrefixOf, Ne.symm hb])]
      rw [Lib.splitK] at ih ⊢
      rw [f2 a l hb, ← ih, e]
      by_cases hm : Lib.index l [b] = -1
      · rw [hm]
        rfl
      · have hge := Lib.index_ge l [b]
        obtain ⟨j, hj⟩ : ∃ j : Nat, Lib.index l [b] = j := ⟨(Lib.index l [b]).toNat, by omega⟩
        have h1 : ((j : Int) == -1) = false := beq_eq_false_iff_ne.2 (by omega)
        have h2 : ((j : Int) + 1 == -1) = false := beq_eq_false_iff_ne.2 (by omega)
        have h3 : ((j : Int) + 1).toNat = j + 1 := by omega
        simp only [hj, h1, Bool.false_eq_true, if_false, h2, h3]
        simp
/-- A slice that reads as these texts. -/
def Read (w : World) (l : List (List UInt8)) (e : Ending) (w' : World) : Prop := ∃ A n c, e = .returned (.slice A n c) ∧ n = l.length ∧ n ≤ c ∧ c ≤ maxLen ∧ Rds w' A n ((l.map strOf).map Value.string) ∧ Below w.heap.size w w'
theorem split_gen (b : UInt8) (f : List UInt8 → List (List UInt8)) (f0 : f [] = [[]]) (f1 : ∀ L, f (b :: L) = [] :: f L) (f2 : ∀ c L, c ≠ b → f (c :: L) = match f L with
    | [] => [[c]]
    | x :: r => (c :: x) :: r) (s : ByteArray) (w : World) (hs : s.size ≤ 1073741824) (hM : Max w) : Calls Tryz.prog 20 #[.string s, .string ⟨#[b]⟩] w (Read w (f s.data.toList)) := by
  obtain ⟨m, hm⟩ := hM
  refine (Tryz.strings_Split s ⟨#[b]⟩ m w (by omega) hm (Nat.le_refl _)).mono ?_
  rintro e w' ⟨rfl, rfl⟩
  have hd := Lib.splitB_data ⟨#[b]⟩ 0 (Lib.countB s ⟨#[b]⟩) s
  rw [show (⟨#[b]⟩ : ByteArray).data.toList = [b] from rfl, splitK_gen b f f0 f1 f2 _ _ (by rw [← Lib.count_one]; exact Nat.le_refl _)] at hd
  have hl := Lib.splitB_all ⟨#[b]⟩ (Nat.le_refl _) 0 _ s rfl
  have hc := Lib.countB_le ⟨#[b]⟩ (Nat.le_refl _) s.size s (Nat.le_refl _)
  generalize Lib.splitB ⟨#[b]⟩ 0 (Lib.countB s ⟨#[b]⟩) s = B at hd hl ⊢
  have hB : B = (f s.data.toList).map strOf := by
    rw [← hd, List.map_map]
    conv => lhs; rw [← List.map_id B]
    exact List.map_congr_left fun x _ => (strOf_toList x).symm
  unfold Read
  rw [← hB]
  refine ⟨_, _, _, rfl, by rw [← hl, hB, List.length_map], Nat.le_refl _, by unfold maxLen; omega, ?_, (Below.refl _ _).alloc (Nat.le_refl _) _⟩
  exact Rds.of_spot (by rw [List.length_map, hl]) (by simp) (fun j hj => by
    rw [Nat.zero_add, World.cell?_alloc_mark]
    simp)
end Go.Proofs.YtleecmapaihhmaaGreatDoor.Spl
namespace Go.Proofs.YtleecmapaihhmaaGreatDoor.SixQ
open Go.RowKit Go.Proofs.YtleecmapaihhmaaGreatDoor.Base Go.Proofs.YtleecmapaihhmaaGreatDoor.UtfA Go.Proofs.YtleecmapaihhmaaGreatDoor.QudP Go.Proofs.YtleecmapaihhmaaGreatDoor.SixP

theorem isD_colon (b : Nat) : isD b 58 = false := by unfold isD; rfl
theorem isD_dot (b : Nat) : isD b 46 = false := by unfold isD; rfl
theorem isD_10_16 (c : UInt8) (h : isD 16 c = false) : isD 10 c = false := by
  cases h2 : isD 10 c with
  | false => rfl
  | true =>
    unfold isD at h h2
    simp at h h2
    omega
theorem digs_mem {b : Nat} {L : List UInt8} (h : digs b L = true) {c : UInt8} (hc : c ∈ L) : isD b c = true := List.all_eq_true.1 h c hc
theorem digs_no {b : Nat} {L : List UInt8} {c : UInt8} (hc : c ∈ L) (h : isD b c = false) : digs b L = false := by
  cases e : digs b L with
  | false => rfl
  | true => rw [digs_mem e hc] at h; cases h
/-- m digits at the beginning, four at most, and no more than that. -/
structure Pre (b : Nat) (t : List UInt8) (m : Nat) : Prop where
  four : m ≤ 4
  len : m ≤ t.length
  all : digs b (t.take m) = true
  stop : m = 4 ∨ ∀ c, t[m]? = some c → isD b c = false
theorem Pre.no {b : Nat} {t : List UInt8} {m : Nat} (h : Pre b t m) (x : UInt8) (hx : isD b x = false) : ∀ c ∈ t.take m, c ≠ x := by
  rintro c hc rfl
  rw [digs_mem h.all hc] at hx
  cases hx
theorem split_at (t : List UInt8) (m : Nat) (c : UInt8) (h : t[m]? = some c) : t = t.take m ++ c :: t.drop (m + 1) := by
  obtain ⟨hm, hc⟩ := List.getElem?_eq_some_iff.1 h
  conv => lhs; rw [← List.take_append_drop m t, List.drop_eq_getElem_cons hm, hc]
theorem R_cons (p : List UInt8) (r : List (List UInt8)) (l : List Nat) (g : Option Nat) : R (p :: r) l g = if p = [] ∧ r = [] then some (l, g) else if l.length = 8 then none else if p = [] then (match g with
      | some _ => none
      | none => R r l (some l.length))
    else if r = [] then (if p.contains 46 = true then (match quad p with
        | some x => if l.length ≤ 6 then some (l ++ x, g) else none
        | none => none)
      else match piece p with
        | some n => some (l ++ [n], g)
        | none => none)
    else match piece p with
      | some n => if r = [[]] then none else R r (l ++ [n]) g
      | none => none := by
  cases g <;> (rw [R]; rfl)
theorem R_full {t : List UInt8} (ht : t ≠ []) {l : List Nat} (hl : l.length = 8) (g : Option Nat) : R (splc t) l g = none := by
  cases t with
  | nil => exact absurd rfl ht
  | cons a r =>
    by_cases ha : a = 58
    · subst ha
      rw [splc_colon, R_cons, if_neg (by simp [splc_ne]), if_pos hl]
    · obtain ⟨x, s, _, e⟩ := splc_cons ha r
      rw [e, R_cons, if_neg (by simp), if_pos hl]
theorem R_colon (t : List UInt8) {l : List Nat} (hl : l.length ≠ 8) : R (splc (58 :: t)) l none = R (splc t) l (some l.length) := by
  rw [splc_colon, R_cons, if_neg (by simp [splc_ne]), if_neg hl, if_pos rfl]
theorem R_colons (t : List UInt8) {l : List Nat} (hl : l.length ≠ 8) (g : Nat) : R (splc (58 :: t)) l (some g) = none := by
  rw [splc_colon, R_cons, if_neg (by simp [splc_ne]), if_neg hl, if_pos rfl]
theorem R_end (l : List Nat) (g : Option Nat) : R (splc []) l g = some (l, g) := by
  show R [[]] l g = _
  rw [R_cons, if_pos ⟨rfl, rfl⟩]
theorem splc_one {t : List UInt8} : splc t = [[]] ↔ t = [] := by
  constructor
  · intro h
    cases t with
    | nil => rfl
    | cons a r =>
      by_cases ha : a = 58
      · subst ha; rw [splc_colon] at h; injection h with _ h; exact absurd h (splc_ne r)
      · obtain ⟨x, s, _, e⟩ := splc_cons ha r
        rw [e] at h
        cases h
  · rintro rfl; rfl
theorem piece_some {p : List UInt8} (h1 : 1 ≤ p.length) (h4 : p.length ≤ 4) (hd : digs 16 p = true) : piece p = some (val 16 p) := if_pos ⟨h1, h4, hd⟩
theorem pos_of_not {t : List UInt8} {m : Nat} {c x : UInt8} (h : t[m]? = some c) (h0 : t[0]? ≠ some x) (hc : c = x) : 1 ≤ m := by
  cases m with
  | zero => subst hc; exact absurd h h0
  | succ m => omega
theorem R_piece {t : List UInt8} {m : Nat} (P : Pre 16 t m) (h0 : t[0]? ≠ some 58) (hm : t[m]? = some 58) {l : List Nat} (hl : l.length ≠ 8) (g : Option Nat) :
    R (splc t) l g = if t.drop (m + 1) = [] then none else R (splc (t.drop (m + 1))) (l ++ [val 16 (t.take m)]) g := by
  have h1 : 1 ≤ m := pos_of_not hm h0 rfl
  have hlen : (t.take m).length = m := by rw [List.length_take]; have := P.len; omega
  have e : splc t = t.take m :: splc (t.drop (m + 1)) := by
    conv => lhs; rw [split_at t m 58 hm]
    exact splc_app _ _ (P.no 58 (isD_colon 16))
  rw [e, R_cons, if_neg (by simp [splc_ne]), if_neg hl, if_neg (by intro h; rw [h] at hlen; simp at hlen; omega), if_neg (splc_ne _), piece_some (by omega) (by rw [hlen]; exact P.four) P.all]
  simp only []
  by_cases hz : t.drop (m + 1) = []
  · rw [if_pos (splc_one.2 hz), if_pos hz]
  · rw [if_neg (fun h => hz (splc_one.1 h)), if_neg hz]
theorem R_last {t : List UInt8} {m : Nat} (P : Pre 16 t m) (ht : t ≠ []) (hm : t[m]? = none) {l : List Nat} (hl : l.length ≠ 8) (g : Option Nat) :
    R (splc t) l g = some (l ++ [val 16 (t.take m)], g) := by
  have hml : t.length ≤ m := List.getElem?_eq_none_iff.1 hm
  have htk : t.take m = t := List.take_of_length_le hml
  have hall := P.all
  have hno := P.no 58 (isD_colon 16)
  have hno2 := P.no 46 (isD_dot 16)
  rw [htk] at hall hno hno2 ⊢
  have hp : 1 ≤ t.length := by cases t with
    | nil => exact absurd rfl ht
    | cons a r => simp
  rw [splc_plain t hno, R_cons, if_neg (by simp [ht]), if_neg hl, if_neg ht, if_pos rfl, if_neg (by simp; exact fun h => hno2 46 h rfl), piece_some hp (by have := P.four; omega) hall]
theorem splt_plain : ∀ (p : List UInt8), (∀ c ∈ p, c ≠ 46) → splt p = [p]
  | [], _ => rfl
  | c :: p, h => by rw [splt, if_neg (h c (by simp)), splt_plain p fun d hd => h d (by simp [hd])]
theorem splt_app : ∀ (p L : List UInt8), (∀ c ∈ p, c ≠ 46) → splt (p ++ 46 :: L) = p :: splt L
  | [], L, _ => by rw [List.nil_append, splt, if_pos rfl]
  | c :: p, L, h => by rw [List.cons_append, splt, if_neg (h c (by simp)), splt_app p L fun d hd => h d (by simp [hd])]
theorem splt_head : ∀ (L : List UInt8), ∃ p, (∀ c ∈ p, c ≠ 46) ∧ ((L = p ∧ splt L = [p]) ∨ ∃ M, L = p ++ 46 :: M ∧ splt L = p :: splt M)
  | [] => ⟨[], by simp, .inl ⟨rfl, rfl⟩⟩
  | c :: L => by
    by_cases h : c = 46
    · subst h
      exact ⟨[], by simp, .inr ⟨L, rfl, splt_app [] L (by simp)⟩⟩
    · obtain ⟨p, hp, hL⟩ := splt_head L
      have hp' : ∀ d ∈ c :: p, d ≠ 46 := by
        intro d hd
        rcases List.mem_cons.1 hd with rfl | hd
        · exact h
        · exact hp d hd
      refine ⟨c :: p, hp', ?_⟩
      rcases hL with ⟨rfl, _⟩ | ⟨M, rfl, _⟩
      · exact .inl ⟨rfl, splt_plain _ hp'⟩
      · exact .inr ⟨M, rfl, splt_app (c :: p) M hp'⟩
/-- The first part of what begins so goes on beyond m. -/
theorem splt_first (t : List UInt8) (m : Nat) (c : UInt8) (hc : t[m]? = some c) (hc46 : c ≠ 46) (hno : ∀ d ∈ t.take m, d ≠ 46) : ∃ q r, splt t = q :: r ∧ m < q.length ∧ c ∈ q := by
  obtain ⟨hm, hcm⟩ := List.getElem?_eq_some_iff.1 hc
  obtain ⟨q, hq, h⟩ := splt_head t
  rcases h with ⟨rfl, e⟩ | ⟨M, e1, e⟩
  · exact ⟨t, [], e, hm, by rw [← hcm]; exact List.getElem_mem _⟩
  · by_cases hl : m < q.length
    · refine ⟨q, _, e, hl, ?_⟩
      have : t[m] = q[m] := by subst e1; rw [List.getElem_append_left hl]
      rw [← hcm, this]
      exact List.getElem_mem _
    · exfalso
      have hq46 : t[q.length]? = some 46 := by rw [e1]; simp
      by_cases he : m = q.length
      · rw [← he, hc] at hq46
        injection hq46 with hq46
        exact hc46 hq46
      · have hmem : (46 : UInt8) ∈ t.take m := by
          rw [e1, List.take_append, List.mem_append]
          right
          rw [show m - q.length = (m - q.length - 1) + 1 by omega]
          simp
        exact hno 46 hmem rfl
theorem smalls_none {q : List UInt8} {r : List (List UInt8)} (h : small q = none) : smalls (q :: r) = none := by rw [smalls, h]
theorem small_long {q : List UInt8} (h : 3 < q.length) : small q = none := if_neg (fun e => by omega)
theorem small_odd {q : List UInt8} {c : UInt8} (hc : c ∈ q) (h : isD 10 c = false) : small q = none := if_neg (fun e => by have := digs_no hc h; rw [this] at e; cases e.2.2.2.1)
theorem quad_smalls {t : List UInt8} (h : smalls (splt t) = none) : quad t = none := by unfold quad; rw [h]; rfl
theorem smalls_mem : ∀ {ps : List (List UInt8)} {q : List UInt8}, q ∈ ps → small q = none → smalls ps = none
  | p :: r, q, hq, h => by
    rcases List.mem_cons.1 hq with rfl | hq
    · exact smalls_none h
    · rw [smalls, smalls_mem hq h]
      cases small p <;> rfl
theorem splt_mem : ∀ (t : List UInt8) (c : UInt8), c ∈ t → c ≠ 46 → ∃ q ∈ splt t, c ∈ q
  | a :: t, c, hc, h46 => by
    rw [splt]
    by_cases ha : a = 46
    · rw [if_pos ha]
      rcases List.mem_cons.1 hc with rfl | hc
      · exact absurd ha h46
      · obtain ⟨q, h1, h2⟩ := splt_mem t c hc h46
        exact ⟨q, List.mem_cons_of_mem _ h1, h2⟩
    · rw [if_neg ha]
      cases e : splt t with
      | nil => exact absurd e (splt_ne t)
      | cons x r =>
        rcases List.mem_cons.1 hc with rfl | hc
        · exact ⟨c :: x, by simp, by simp⟩
        · obtain ⟨q, h1, h2⟩ := splt_mem t c hc h46
          rw [e] at h1
          rcases List.mem_cons.1 h1 with rfl | h1
          · exact ⟨a :: q, by simp, by simp [h2]⟩
          · exact ⟨q, by simp [h1], h2⟩
theorem quad_colon {t : List UInt8} (h : (58 : UInt8) ∈ t) : quad t = none := by
  obtain ⟨q, h1, h2⟩ := splt_mem t 58 h (by decide)
  exact quad_smalls (smalls_mem h1 (small_odd h2 (isD_colon 10)))
theorem piece_odd {q : List UInt8} {c : UInt8} (hc : c ∈ q) (h : isD 16 c = false) : piece q = none := if_neg (fun e => by have := digs_no hc h; rw [this] at e; cases e.2.2)
theorem piece_long {q : List UInt8} (h : 4 < q.length) : piece q = none := if_neg (fun e => by omega)
/-- A part that goes on beyond its digits is none. -/
theorem R_odd {t : List UInt8} {m : Nat} (P : Pre 16 t m) {c : UInt8} (hm : t[m]? = some c) (h58 : c ≠ 58) (h46 : c ≠ 46) {l : List Nat} (hl : l.length ≠ 8) (g : Option Nat) : R (splc t) l g = none := by
  have hno := P.no 58 (isD_colon 16)
  obtain ⟨hml, hcm⟩ := List.getElem?_eq_some_iff.1 hm
  obtain ⟨p, hp, h⟩ := splc_head t
  have hpm : m < p.length ∧ p[m]? = some c := by
    rcases h with ⟨rfl, _⟩ | ⟨M, e1, _⟩
    · exact ⟨hml, hm⟩
    · by_cases hl : m < p.length
      · refine ⟨hl, ?_⟩
        rw [e1, List.getElem?_append_left hl] at hm
        exact hm
      · exfalso
        by_cases he : m = p.length
        · rw [e1, he] at hm
          simp at hm
          exact h58 hm.symm
        · refine hno 58 ?_ rfl
          rw [e1, List.take_append, List.mem_append]
          right
          rw [show m - p.length = (m - p.length - 1) + 1 by omega]
          simp
  have hcp : c ∈ p := by obtain ⟨h1, h2⟩ := List.getElem?_eq_some_iff.1 hpm.2; rw [← h2]; exact List.getElem_mem _
  have hpc : piece p = none := by
    rcases P.stop with h4 | hs
    · exact piece_long (by omega)
    · exact piece_odd hcp (hs c hm)
  have hpn : p ≠ [] := by rintro rfl; simp at hcp
  have hpt : p.take m = t.take m := by
    rcases h with ⟨rfl, _⟩ | ⟨M, e1, _⟩
    · rfl
    · rw [e1, List.take_append_of_le_length (by omega)]
  have hq : quad p = none := by
    obtain ⟨q, r, e, hlq, hcq⟩ := splt_first p m c hpm.2 h46 (by rw [hpt]; exact P.no 46 (isD_dot 16))
    apply quad_smalls
    rw [e]
    apply smalls_none
    rcases P.stop with h4 | hs
    · exact small_long (by omega)
    · exact small_odd hcq (isD_10_16 c (hs c hm))
  have key : ∀ r, R (p :: r) l g = none := by
    intro r
    rw [R_cons, if_neg (by simp [hpn]), if_neg hl, if_neg hpn]
    by_cases hr : r = []
    · rw [if_pos hr, hq, hpc]
      split <;> rfl
    · rw [if_neg hr, hpc]
  rcases h with ⟨_, e⟩ | ⟨M, _, e⟩ <;> rw [e, key]
/-- Four numbers. -/
theorem R_quad {t : List UInt8} {m : Nat} (P : Pre 16 t m) (hm : t[m]? = some 46) {l : List Nat} (hl : l.length ≠ 8) (g : Option Nat) :
    R (splc t) l g = match quad t with
      | some x => if l.length ≤ 6 then some (l ++ x, g) else none
      | none => none := by
  have hno := P.no 58 (isD_colon 16)
  obtain ⟨hml, hcm⟩ := List.getElem?_eq_some_iff.1 hm
  have h46 : (46 : UInt8) ∈ t := by rw [← hcm]; exact List.getElem_mem _
  obtain ⟨p, hp, h⟩ := splc_head t
  rcases h with ⟨rfl, e⟩ | ⟨M, e1, e⟩
  · have htn : t ≠ [] := by rintro rfl; simp at h46
    rw [e, R_cons, if_neg (by simp [htn]), if_neg hl, if_neg htn, if_pos rfl, if_pos (by simpa using h46)]
  · rw [quad_colon (by rw [e1]; simp), e]
    have h46p : (46 : UInt8) ∈ p := by
      by_cases hlp : m < p.length
      · rw [e1, List.getElem?_append_left hlp] at hm
        obtain ⟨h1, h2⟩ := List.getElem?_eq_some_iff.1 hm
        rw [← h2]; exact List.getElem_mem _
      · exfalso
        by_cases he : m = p.length
        · rw [e1, he] at hm
          simp at hm
        · refine hno 58 ?_ rfl
          rw [e1, List.take_append, List.mem_append]
          right
          rw [show m - p.length = (m - p.length - 1) + 1 by omega]
          simp
    have hpn : p ≠ [] := by rintro rfl; simp at h46p
    rw [R_cons, if_neg (by simp [hpn]), if_neg hl, if_neg hpn, if_neg (splc_ne M), piece_odd h46p (isD_dot 16)]
theorem quad_dot {t : List UInt8} (hm : t[0]? = some 46) : quad t = none := by
  cases t with
  | nil => cases hm
  | cons a r =>
    injection hm with hm
    subst hm
    apply quad_smalls
    rw [splt, if_pos rfl]
    exact smalls_none (if_neg (by simp))
/-- The document's four numbers, one by one. -/
def cont (b : List Nat) (t : List UInt8) : Option (List Nat) := match smalls (splt t) with
  | some l => if b.length + l.length = 4 then some (b ++ l) else none
  | none => none
theorem two_none {l : List Nat} (h : l.length ≠ 4) : two l = none := by
  unfold two
  split
  · exact absurd rfl h
  · rfl
theorem quad_cont (t : List UInt8) : quad t = (cont [] t).bind two := by
  unfold quad cont
  cases smalls (splt t) with
  | none => rfl
  | some l =>
    show two l = _
    by_cases h : l.length = 4
    · simp [h]
    · simp [h, two_none h]
theorem cont_bad {t : List UInt8} {m : Nat} (P : Pre 10 t m) (h : m = 0 ∨ 255 < val 10 (t.take m) ∨ (1 < m ∧ t[0]? = some 48)) (b : List Nat) : cont b t = none := by
  have hs : smalls (splt t) = none := by
    have hno := P.no 46 (isD_dot 10)
    have hlen : (t.take m).length = m := by rw [List.length_take]; have := P.len; omega
    have hsm : small (t.take m) = none := by
      apply if_neg
      rintro ⟨a1, a2, a3, a4, a5⟩
      rcases h with h | h | ⟨h, h2⟩
      · omega
      · omega
      · refine a3 ⟨by omega, ?_⟩
        cases t with
        | nil => cases h2
        | cons x r =>
          cases m with
          | zero => omega
          | succ m => simpa using h2
    cases hm : t[m]? with
    | none =>
      have : t.length ≤ m := List.getElem?_eq_none_iff.1 hm
      rw [List.take_of_length_le this] at hno hsm
      rw [splt_plain t hno]
      exact smalls_none hsm
    | some c =>
      by_cases h46 : c = 46
      · subst h46
        conv => lhs; rw [split_at t m 46 hm]
        rw [splt_app _ _ hno]
        exact smalls_none hsm
      · obtain ⟨q, r, e, hl, hc⟩ := splt_first t m c hm h46 hno
        rw [e]
        apply smalls_none
        rcases P.stop with h4 | hs
        · exact small_long (by omega)
        · exact small_odd hc (hs c hm)
  unfold cont
  rw [hs]
theorem dv_hi {c : UInt8} (h : isD 10 c = true) (h48 : c ≠ 48) : 1 ≤ dv c := by
  have H : ∀ n : Fin 256, (decide (0 ≤ hex (n.val : Int)) && decide (hex (n.val : Int) < (10 : Nat))) = true → n.val ≠ 48 → 1 ≤ (hex (n.val : Int)).toNat := by decide +kernel
  exact H ⟨c.toNat, c.toNat_lt⟩ h (fun e => h48 (UInt8.toNat_inj.1 e))
theorem small_good {t : List UInt8} {m : Nat} (P : Pre 10 t m) (h0 : m ≠ 0) (hv : val 10 (t.take m) ≤ 255) (hz : ¬ (1 < m ∧ t[0]? = some 48)) : m ≤ 3 ∧ small (t.take m) = some (val 10 (t.take m)) := by
  have hlen : (t.take m).length = m := by rw [List.length_take]; have := P.len; omega
  have h4 : m ≤ 3 := by
    have h4 := P.four
    have hall := P.all
    by_cases e : m = 4
    · exfalso
      subst e
      obtain ⟨a, u, rfl⟩ : ∃ a u, t = a :: u := by
        cases t with
        | nil => simp at hlen
        | cons a u => exact ⟨a, u, rfl⟩
      have ha : isD 10 a = true := digs_mem hall (by simp)
      have ha48 : a ≠ 48 := fun h => hz ⟨by omega, by rw [h]; rfl⟩
      have h1 := dv_hi ha ha48
      obtain ⟨L, hL⟩ : ∃ L, L = u.take 3 := ⟨_, rfl⟩
      rw [List.take_succ_cons] at hv hlen
      rw [← hL] at hv hlen
      match L, hlen, hv with
      | [b, c, d], _, hv =>
        simp only [val, List.foldl_cons, List.foldl_nil] at hv
        omega
    · omega
  refine ⟨h4, if_pos ⟨by omega, by omega, ?_, P.all, hv⟩⟩
  rintro ⟨h1, h2⟩
  refine hz ⟨by omega, ?_⟩
  cases t with
  | nil => simp at h2
  | cons x r =>
    cases m with
    | zero => omega
    | succ m => simpa using h2
theorem cont_last {t : List UInt8} {m : Nat} (P : Pre 10 t m) (h0 : m ≠ 0) (hv : val 10 (t.take m) ≤ 255) (hz : ¬ (1 < m ∧ t[0]? = some 48)) (hm : t.drop m = []) (b : List Nat) :
    cont b t = if b.length + 1 = 4 then some (b ++ [val 10 (t.take m)]) else none := by
  have hs := (small_good P h0 hv hz).2
  have hle : t.length ≤ m := List.drop_eq_nil_iff.1 hm
  have hno := P.no 46 (isD_dot 10)
  have htk : t.take m = t := List.take_of_length_le hle
  rw [htk] at hno hs ⊢
  unfold cont
  rw [splt_plain t hno, smalls, hs]
  rfl
theorem cont_next {t : List UInt8} {m : Nat} (P : Pre 10 t m) (h0 : m ≠ 0) (hv : val 10 (t.take m) ≤ 255) (hz : ¬ (1 < m ∧ t[0]? = some 48)) (hm : t[m]? = some 46) (b : List Nat) :
    cont b t = if b.length + 1 = 4 then none else cont (b ++ [val 10 (t.take m)]) (t.drop (m + 1)) := by
  have hs := (small_good P h0 hv hz).2
  have hno := P.no 46 (isD_dot 10)
  unfold cont
  have e : splt t = t.take m :: splt (t.drop (m + 1)) := by
    conv => lhs; rw [split_at t m 46 hm]
    exact splt_app _ _ hno
  rw [e, smalls, hs]
  cases hr : smalls (splt (t.drop (m + 1))) with
  | none => simp
  | some l =>
    have h1 : 1 ≤ l.length := by
      cases e2 : splt (t.drop (m + 1)) with
      | nil => exact absurd e2 (splt_ne _)
      | cons x r =>
        rw [e2, smalls] at hr
        split at hr
        · injection hr with hr; subst hr; simp
        · cases hr
    simp only [List.length_cons, List.length_append, List.length_nil, List.append_assoc, List.cons_append, List.nil_append]
    by_cases h4 : b.length + 1 = 4
    · rw [if_neg (by omega), if_pos h4]
    · rw [if_neg h4]
      by_cases h5 : b.length + (l.length + 1) = 4
      · rw [if_pos h5, if_pos (by omega)]
      · rw [if_neg h5, if_neg (by omega)]
theorem cont_odd {t : List UInt8} {m : Nat} (P : Pre 10 t m) {c : UInt8} (hm : t[m]? = some c) (h46 : c ≠ 46) (b : List Nat) : cont b t = none := by
  have hno := P.no 46 (isD_dot 10)
  obtain ⟨q, r, e, hl, hc⟩ := splt_first t m c hm h46 hno
  unfold cont
  rw [e, smalls_none]
  rcases P.stop with h4 | hs
  · exact small_long (by omega)
  · exact small_odd hc (hs c hm)
end Go.Proofs.YtleecmapaihhmaaGreatDoor.SixQ
namespace Go.Proofs.YtleecmapaihhmaaGreatDoor.SixA
open Go.RowKit Go.Proofs.YtleecmapaihhmaaGreatDoor.Base Go.Proofs.YtleecmapaihhmaaGreatDoor.Base2 Go.Proofs.YtleecmapaihhmaaGreatDoor.UtfA Go.Proofs.YtleecmapaihhmaaGreatDoor.QudP Go.Proofs.YtleecmapaihhmaaGreatDoor.SixP Go.Proofs.YtleecmapaihhmaaGreatDoor.SixQ

theorem take_snoc {α : Type} (l : List α) (k : Nat) (h : k < l.length) : l.take (k + 1) = l.take k ++ [l[k]] := List.take_succ_eq_append_getElem h
theorem hex_dv (b : Nat) (c : UInt8) (h : isD b c = true) : hex c.toNat = (dv c : Int) := by
  unfold isD at h
  rw [Bool.and_eq_true] at h
  have := of_decide_eq_true h.1
  unfold dv
  omega
theorem hex_neg (c : UInt8) (h : hex c.toNat < 0) : isD 16 c = false := by
  unfold isD
  rw [decide_eq_false (by omega)]
  rfl
theorem hex_pos (c : UInt8) (h : 0 ≤ hex c.toNat) : isD 16 c = true := by
  have := hex_le c
  unfold isD
  rw [decide_eq_true h, decide_eq_true (by omega)]
  rfl
theorem dv_lt (b : Nat) (c : UInt8) (h : isD b c = true) : dv c < b := by
  unfold isD at h
  rw [Bool.and_eq_true] at h
  have h1 := of_decide_eq_true h.1
  have h2 := of_decide_eq_true h.2
  unfold dv
  omega
theorem val_lt (b : Nat) (hb : 1 ≤ b) (L : List UInt8) (h : digs b L = true) : val b L < b ^ L.length := by
  have H : ∀ M : List UInt8, digs b M.reverse = true → val b M.reverse < b ^ M.length := by
    intro M
    induction M with
    | nil => intro _; simp [val]
    | cons c M ih =>
      intro h
      rw [List.reverse_cons] at h ⊢
      unfold digs at h
      rw [List.all_append, Bool.and_eq_true] at h
      have h1 := ih h.1
      have h2 : isD b c = true := by simpa using h.2
      have h3 := dv_lt b c h2
      rw [val_snoc, List.length_cons, Nat.pow_succ]
      have : (val b M.reverse + 1) * b ≤ b ^ M.length * b := Nat.mul_le_mul_right _ h1
      rw [Nat.add_mul] at this
      omega
  have := H L.reverse (by rwa [List.reverse_reverse])
  rwa [List.reverse_reverse, List.length_reverse] at this
theorem digs_snoc (b : Nat) (L : List UInt8) (c : UInt8) : digs b (L ++ [c]) = (digs b L && isD b c) := by
  unfold digs
  rw [List.all_append]
  simp
theorem ofInt_i64 (a : Nat) (ha : a < 9223372036854775808) : (BitVec.ofInt 64 (a : Int)).toNat = a := by
  rw [BitVec.ofInt_natCast, BitVec.toNat_ofNat]; exact Nat.mod_eq_of_lt (by omega)
theorem i64_or_nat (a b : Nat) (ha : a < 9223372036854775808) (hb : b < 9223372036854775808) : bits .or .i64 (a : Int) (b : Int) = ((a ||| b : Nat) : Int) := by
  have hx : a ||| b < 2 ^ 63 := Nat.or_lt_two_pow (by omega) (by omega)
  show IntKind.i64.wrap ((BitVec.ofInt 64 (a : Int) ||| BitVec.ofInt 64 (b : Int)).toNat : Int) = _
  rw [BitVec.toNat_or, ofInt_i64 a ha, ofInt_i64 b hb, IntKind.wrap_i64]
  omega
theorem or_hex (n d : Nat) (hn : n < 65536) (hd : d < 16) : bits .or .i64 ((n : Int) * 16) (d : Int) = ((n * 16 + d : Nat) : Int) := by
  rw [show ((n : Int) * 16) = ((n * 16 : Nat) : Int) by omega, i64_or_nat _ _ (by omega) (by omega)]
  have := Nat.shiftLeft_add_eq_or_of_lt (i := 4) (b := d) (by omega) n
  rw [Nat.shiftLeft_eq] at this
  rw [← this]
def PV (o : Option Nat) : Value := match o with
  | some v => .tuple #[.int .u16 (v : Int), .bool true]
  | none => .tuple #[.int .u16 0, .bool false]
theorem pv_none {o : Option Nat} (h : o = none) : PV o = .tuple #[.int .u16 0, .bool false] := by rw [h]; rfl
theorem pv_some {o : Option Nat} {v : Nat} (h : o = some v) : PV o = .tuple #[.int .u16 (v : Int), .bool true] := by rw [h]; rfl
theorem piece_bad {p : List UInt8} (h : ¬ (1 ≤ p.length ∧ p.length ≤ 4)) : piece p = none := if_neg (fun e => h ⟨e.1, e.2.1⟩)
set_option maxRecDepth 100000 in
theorem piece_any (s : ByteArray) (w : World) : Calls Tryz.prog 139 #[.string s] w fun e w' => e = .returned (PV (piece s.data.toList)) ∧ w = w' := by
  have hl : s.data.toList.length = s.size := Array.length_toList
  have HL := hid hl
  by_cases h1 : s.size < 1
  · have HE := hid (pv_none (piece_bad (p := s.data.toList) (by omega)))
    have hi : (s.size : Int) < 1 := by omega
    clear hl h1
    go_enter Tryz.func139, Tryz.ntmps139
    go_wp2
    go_ret2
    exact ⟨by rw [HE.out]; rfl, rfl⟩
  by_cases h4 : 4 < s.size
  · have HE := hid (pv_none (piece_bad (p := s.data.toList) (by omega)))
    have hi : (4 : Int) < (s.size : Int) := by omega
    have hi1 : ¬ (s.size : Int) < 1 := by omega
    clear hl h1 h4
    go_enter Tryz.func139, Tryz.ntmps139
    go_wp2
    go_ret2
    exact ⟨by rw [HE.out]; rfl, rfl⟩
  have hi : ¬ (4 : Int) < (s.size : Int) := by omega
  have hi1 : ¬ (s.size : Int) < 1 := by omega
  have HSZ : Hid (1 ≤ s.size ∧ s.size ≤ 4) := ⟨by omega, by omega⟩
  clear hl h1 h4
  go_enter Tryz.func139, Tryz.ntmps139
  go_wp2
  clear hi hi1
  generalize decide ((s.size : Int) < 1) = d1
  generalize decide ((4 : Int) < (s.size : Int)) = d2
  go_loopw [4, 5, 6] (fun vn vk _ wr => ∃ (k n : Nat), k ≤ s.size ∧ vk = .int .i64 (k : Int) ∧ vn = .int .i64 (n : Int) ∧ wr = w ∧ Hid (n = val 16 (s.data.toList.take k)) ∧ Hid (digs 16 (s.data.toList.take k) = true)) (fun _ vk _ _ => s.size - (intOf vk).toNat)
  case atStart => exact ⟨0, 0, Nat.zero_le _, rfl, rfl, rfl, rfl, rfl⟩
  case round =>
    obtain ⟨k, n, hk, rfl, rfl, rfl, HV, HT⟩ := hrel
    have hs4 : s.size ≤ 4 := HSZ.out.2
    by_cases hlt : k < s.size
    · obtain ⟨c, hc⟩ : ∃ c, s[k] = c := ⟨_, rfl⟩
      have hkl : k < s.data.toList.length := by rw [HL.out]; exact hlt
      have hcl : s.data.toList[k] = c := hc
      have HS : Hid (s.data.toList.take (k + 1) = s.data.toList.take k ++ [c]) := by rw [← hcl]; exact take_snoc _ k hkl
      have HM : Hid (c ∈ s.data.toList) := by show _ ∈ _; rw [← hcl]; exact List.getElem_mem _
      have h0 : 0 ≤ (c.toNat : Int) := by omega
      have h1 : (c.toNat : Int) ≤ 255 := by have := c.toNat_lt; omega
      have hn : n < 4096 := by
        have h := val_lt 16 (by omega) _ HT.out
        rw [← HV.out, List.length_take, HL.out] at h
        have h2 : k ≤ 3 := by have := HSZ.out.2; omega
        have h3 : 16 ^ min k s.size ≤ 16 ^ 3 := Nat.pow_le_pow_right (by omega) (by omega)
        omega
      clear hcl hkl
      by_cases hx : hex c.toNat < 0
      · have HE := hid (pv_none (piece_odd HM.out (hex_neg c hx)))
        obtain ⟨x, hxx⟩ : ∃ x, x = hex c.toNat := ⟨_, rfl⟩
        rw [← hxx] at hx
        have HX := hid hxx
        clear hxx
        go_wp2_with fail
        refine (UtfA.hex_any _ _ h0 h1).mono ?_
        rintro e w2 ⟨rfl, hw2⟩
        subst hw2
        rw [← HX.out]
        go_wp2
        go_ret2
        exact ⟨by rw [HE.out]; rfl, rfl⟩
      · have hD : isD 16 c = true := hex_pos c (by omega)
        obtain ⟨d, hd⟩ : ∃ d, d = dv c := ⟨_, rfl⟩
        have hd16 : d < 16 := by rw [hd]; exact dv_lt 16 c hD
        have HX : Hid (hex c.toNat = (d : Int)) := by show _ = _; rw [hd]; exact hex_dv 16 c hD
        have HV2 : Hid (n * 16 + d = val 16 (s.data.toList.take (k + 1))) := by show _ = _; rw [HS.out, val_snoc, ← HV.out, hd]
        have HT2 : Hid (digs 16 (s.data.toList.take (k + 1)) = true) := by show _ = _; rw [HS.out, digs_snoc, HT.out, hD]; rfl
        have hor := or_hex n d (by omega) hd16
        have hd0 : ¬ (d : Int) < 0 := by omega
        have hnb : (n : Int) < 4096 := by omega
        clear hx hD hd
        go_wp2_with fail
        refine (UtfA.hex_any _ _ h0 h1).mono ?_
        rintro e w2 ⟨rfl, hw2⟩
        subst hw2
        rw [HX.out]
        go_wp2
        go_roundw
        case rel => exact ⟨k + 1, n * 16 + d, by omega, by go_num, by first | rfl | go_num, by first | rfl | trivial, HV2.out, HT2.out⟩
        case measure => simp [intOf]; omega
    · obtain rfl : k = s.size := by omega
      have hfull : s.data.toList.take s.size = s.data.toList := List.take_of_length_le (by rw [HL.out]; exact Nat.le_refl _)
      have hn : n < 65536 := by
        have h := val_lt 16 (by omega) _ HT.out
        rw [← HV.out, hfull, HL.out] at h
        have h3 : 16 ^ s.size ≤ 16 ^ 4 := Nat.pow_le_pow_right (by omega) HSZ.out.2
        omega
      have HE : Hid (PV (piece s.data.toList) = .tuple #[.int .u16 (n : Int), .bool true]) := by
        show _ = _
        have h1 := HT.out
        have h2 := HV.out
        rw [hfull] at h1 h2
        rw [h2]
        exact pv_some (piece_some (by rw [HL.out]; exact HSZ.out.1) (by rw [HL.out]; exact HSZ.out.2) h1)
      have hni : (n : Int) < 65536 := by omega
      clear hfull
      go_wp2
      go_ret2
      exact ⟨by rw [HE.out]; rfl, rfl⟩
/-- small answers its number just if it is one: what it answers beside 'false' is no matter. -/
def SV (o : Option Nat) (e : Ending) : Prop := match o with
  | some v => e = .returned (.tuple #[.int .u16 (v : Int), .bool true])
  | none => ∃ x : Int, e = .returned (.tuple #[.int .u16 x, .bool false])
theorem sv_none {o : Option Nat} (h : o = none) (x : Int) : SV o (.returned (.tuple #[.int .u16 x, .bool false])) := by rw [h]; exact ⟨x, rfl⟩
theorem sv_some {o : Option Nat} {v : Nat} (h : o = some v) : SV o (.returned (.tuple #[.int .u16 (v : Int), .bool true])) := by rw [h]; rfl
theorem digit_val (c : UInt8) (h : isD 10 c = true) : 48 ≤ c.toNat ∧ c.toNat ≤ 57 ∧ dv c = c.toNat - 48 := by
  have H : ∀ n : Fin 256, (decide (0 ≤ hex (n.val : Int)) && decide (hex (n.val : Int) < (10 : Nat))) = true → 48 ≤ n.val ∧ n.val ≤ 57 ∧ (hex (n.val : Int)).toNat = n.val - 48 := by decide +kernel
  exact H ⟨c.toNat, c.toNat_lt⟩ h
theorem small_bad {p : List UInt8} (h : ¬ (1 ≤ p.length ∧ p.length ≤ 3)) : small p = none := if_neg (fun e => h ⟨e.1, e.2.1⟩)
theorem small_zero {p : List UInt8} (h1 : 1 < p.length) (h2 : p.head? = some 48) : small p = none := if_neg (fun e => e.2.2.1 ⟨h1, h2⟩)
set_option maxHeartbeats 2000000 in
theorem small_any (s : ByteArray) (w : World) : Calls Tryz.prog 145 #[.string s] w fun e w' => SV (small s.data.toList) e ∧ w = w' := by
  have hl : s.data.toList.length = s.size := Array.length_toList
  have HL := hid hl
  by_cases h1 : s.size < 1
  · have HE : Hid (small s.data.toList = none) := small_bad (by omega)
    have hi : (s.size : Int) < 1 := by omega
    clear hl h1
    go_enter Tryz.func145, Tryz.ntmps145
    go_wp2
    go_ret2
    exact ⟨sv_none HE.out _, rfl⟩
  by_cases h4 : 3 < s.size
  · have HE : Hid (small s.data.toList = none) := small_bad (by omega)
    have hi : (3 : Int) < (s.size : Int) := by omega
    have hi1 : ¬ (s.size : Int) < 1 := by omega
    clear hl h1 h4
    go_enter Tryz.func145, Tryz.ntmps145
    go_wp2
    go_ret2
    exact ⟨sv_none HE.out _, rfl⟩
  have hi : ¬ (3 : Int) < (s.size : Int) := by omega
  have hi1 : ¬ (s.size : Int) < 1 := by omega
  have HSZ : Hid (1 ≤ s.size ∧ s.size ≤ 3) := ⟨by omega, by omega⟩
  have h0s : 0 < s.size := by omega
  obtain ⟨a, ha⟩ : ∃ a, s[0] = a := ⟨_, rfl⟩
  have HA : Hid (s.data.toList.head? = some a) := by
    show _ = _
    have hcl : s.data.toList[0]'(by omega) = a := ha
    rw [List.head?_eq_getElem?, List.getElem?_eq_getElem (by omega), hcl]
  have hbr : (1 < s.size ∧ a = 48) ∨ ¬ (1 < s.size ∧ a = 48) := Classical.em _
  clear hl h1 h4
  rcases hbr with ⟨hb1, hb2⟩ | hb
  · have HE : Hid (small s.data.toList = none) := small_zero (by rw [HL.out]; exact hb1) (by rw [HA.out, hb2])
    have hb1i : (1 : Int) < (s.size : Int) := by omega
    have hb2i : ((a.toNat : Int) == 48) = true := by rw [hb2]; rfl
    clear hb2
    go_enter Tryz.func145, Tryz.ntmps145
    go_wp2
    go_ret2
    exact ⟨sv_none HE.out _, rfl⟩
  have HBR : Hid (¬ (1 < s.size ∧ s.data.toList.head? = some 48)) := by
    rintro ⟨x1, x2⟩
    rw [HA.out] at x2
    injection x2 with x2
    exact hb ⟨x1, x2⟩
  have hbr2 : ¬ (1 : Int) < (s.size : Int) ∨ ((1 : Int) < (s.size : Int) ∧ ((a.toNat : Int) == 48) = false) := by
    by_cases h : 1 < s.size
    · refine .inr ⟨by omega, ?_⟩
      have : a ≠ 48 := fun e => hb ⟨h, e⟩
      rw [beq_eq_false_iff_ne]
      intro e
      exact this (UInt8.toNat_inj.1 (by show _ = 48; omega))
    · exact .inl (by omega)
  clear hb
  rcases hbr2 with hq | ⟨hq, hq2⟩
  all_goals
    go_enter Tryz.func145, Tryz.ntmps145
    go_wp2
    try generalize decide ((s.size : Int) < 1) = d1
    try generalize decide ((3 : Int) < (s.size : Int)) = d2
    try generalize decide ((1 : Int) < (s.size : Int)) = d3
    clear hi hi1 hq
    go_loopw [4, 5] (fun vn vk wr => ∃ (k n : Nat), k ≤ s.size ∧ vk = .int .i64 (k : Int) ∧ vn = .int .u16 (n : Int) ∧ wr = w ∧ Hid (n = val 10 (s.data.toList.take k)) ∧ Hid (digs 10 (s.data.toList.take k) = true)) (fun _ vk _ => s.size - (intOf vk).toNat)
    case atStart => exact ⟨0, 0, Nat.zero_le _, rfl, rfl, rfl, rfl, rfl⟩
    case round =>
      obtain ⟨k, n, hk, rfl, rfl, rfl, HV, HT⟩ := hrel
      have hs3 : s.size ≤ 3 := HSZ.out.2
      by_cases hlt : k < s.size
      · obtain ⟨c, hc⟩ : ∃ c, s[k] = c := ⟨_, rfl⟩
        have hkl : k < s.data.toList.length := by rw [HL.out]; exact hlt
        have hcl : s.data.toList[k] = c := hc
        have HS : Hid (s.data.toList.take (k + 1) = s.data.toList.take k ++ [c]) := by rw [← hcl]; exact take_snoc _ k hkl
        have HM : Hid (c ∈ s.data.toList) := by show _ ∈ _; rw [← hcl]; exact List.getElem_mem _
        have hn : n < 100 := by
          have h := val_lt 10 (by omega) _ HT.out
          rw [← HV.out, List.length_take, HL.out] at h
          have h2 : k ≤ 2 := by have := HSZ.out.2; omega
          have h3 : 10 ^ min k s.size ≤ 10 ^ 2 := Nat.pow_le_pow_right (by omega) (by omega)
          omega
        clear hcl hkl
        cases hD : isD 10 c with
        | false =>
          have HE : Hid (small s.data.toList = none) := small_odd HM.out hD
          have hdg : UtfA.digit (c.toNat : Int) = false := by rw [digit_isD, hD]
          have HDG := hid hdg
          clear hD hdg
          go_wp2_with fail
          refine (UtfA.digit_any _ _).mono ?_
          rintro e w2 ⟨rfl, hw2⟩
          subst hw2
          rw [HDG.out]
          go_wp2
          go_ret2
          exact ⟨sv_none HE.out _, rfl⟩
        | true =>
          obtain ⟨hc1, hc2, hc3⟩ := digit_val c hD
          have HDG : Hid (UtfA.digit (c.toNat : Int) = true) := by show _ = _; rw [digit_isD, hD]
          have HV2 : Hid (n * 10 + (c.toNat - 48) = val 10 (s.data.toList.take (k + 1))) := by show _ = _; rw [HS.out, val_snoc, ← HV.out, hc3]
          have HT2 : Hid (digs 10 (s.data.toList.take (k + 1)) = true) := by show _ = _; rw [HS.out, digs_snoc, HT.out, hD]; rfl
          have hnb : (n : Int) < 100 := by omega
          have hci : 48 ≤ (c.toNat : Int) := by omega
          have hci2 : (c.toNat : Int) ≤ 57 := by omega
          have HSUM : Hid ((n : Int) * 10 + ((c.toNat : Int) - 48) = ((n * 10 + (c.toNat - 48) : Nat) : Int)) := by show _ = _; omega
          clear hD hc3 hc1 hc2
          go_wp2_with fail
          refine (UtfA.digit_any _ _).mono ?_
          rintro e w2 ⟨rfl, hw2⟩
          subst hw2
          rw [HDG.out]
          go_wp2
          go_roundw
          case rel => exact ⟨k + 1, n * 10 + (c.toNat - 48), by omega, by go_num, by first | exact int_eq HSUM.out | go_num, by first | rfl | trivial, HV2.out, HT2.out⟩
          case measure => simp [intOf]; omega
      · obtain rfl : k = s.size := by omega
        have hfull : s.data.toList.take s.size = s.data.toList := List.take_of_length_le (by rw [HL.out]; exact Nat.le_refl _)
        have hn : n < 1000 := by
          have h := val_lt 10 (by omega) _ HT.out
          rw [← HV.out, hfull, HL.out] at h
          have h3 : 10 ^ s.size ≤ 10 ^ 3 := Nat.pow_le_pow_right (by omega) HSZ.out.2
          omega
        have h1 := HT.out
        have h2 := HV.out
        rw [hfull] at h1 h2
        have hni : (n : Int) < 1000 := by omega
        clear hfull
        by_cases h255 : n ≤ 255
        · have HE : Hid (small s.data.toList = some n) := by
            show _ = _
            rw [h2] at h255 ⊢
            exact if_pos ⟨by rw [HL.out]; exact HSZ.out.1, by rw [HL.out]; exact HSZ.out.2, by rw [HL.out]; exact HBR.out, h1, h255⟩
          have hle : (n : Int) ≤ 255 := by omega
          clear h1 h2 h255
          go_wp2
          go_ret2
          exact ⟨sv_some HE.out, rfl⟩
        · have HE : Hid (small s.data.toList = none) := if_neg (fun e => h255 (by rw [h2]; exact e.2.2.2.2))
          have hle : ¬ (n : Int) ≤ 255 := by omega
          clear h1 h2 h255
          go_wp2
          go_ret2
          exact ⟨sv_none HE.out _, rfl⟩
end Go.Proofs.YtleecmapaihhmaaGreatDoor.SixA
namespace Go.Proofs.YtleecmapaihhmaaGreatDoor.Spl
open Go.RowKit Go.Proofs.YtleecmapaihhmaaGreatDoor.Base Go.Proofs.YtleecmapaihhmaaGreatDoor.Base2 Go.Proofs.YtleecmapaihhmaaGreatDoor.Base3 Go.Proofs.YtleecmapaihhmaaGreatDoor.QudP Go.Proofs.YtleecmapaihhmaaGreatDoor.SixP Go.Proofs.YtleecmapaihhmaaGreatDoor.SixQ

theorem split46_any (s : ByteArray) (w : World) (hs : s.size ≤ 1073741824) (hM : Max w) : Calls Tryz.prog 20 #[.string s, .string ⟨#[46]⟩] w (Read w (splt s.data.toList)) :=
  split_gen 46 splt rfl (fun L => by rw [splt, if_pos rfl]) (fun c L h => by rw [splt, if_neg h]; cases splt L <;> rfl) s w hs hM
theorem split58_any (s : ByteArray) (w : World) (hs : s.size ≤ 1073741824) (hM : Max w) : Calls Tryz.prog 20 #[.string s, .string ⟨#[58]⟩] w (Read w (splc s.data.toList)) :=
  split_gen 58 splc rfl splc_colon (fun c L h => by rw [splc, if_neg h]; cases splc L <;> rfl) s w hs hM
theorem has46 (L : List UInt8) : decide (0 ≤ Lib.indexByte L 46) = L.contains 46 := by
  have hge := Lib.indexByte_ge L 46
  by_cases h : Lib.indexByte L 46 = -1
  · have hn := Lib.indexByte_none h
    rw [decide_eq_false (by omega)]
    cases e : L.contains 46 with
    | false => rfl
    | true =>
      have hm : (46 : UInt8) ∈ L := by simpa using e
      obtain ⟨j, hj, he⟩ := List.getElem_of_mem hm
      exact absurd (List.getElem?_eq_some_iff.2 ⟨hj, he⟩) (hn j)
  · obtain ⟨o, ho⟩ : ∃ o : Nat, Lib.indexByte L 46 = o := ⟨(Lib.indexByte L 46).toNat, by omega⟩
    have hs := (Lib.indexByte_some ho).1
    rw [decide_eq_true (by omega)]
    obtain ⟨hj, he⟩ := List.getElem?_eq_some_iff.1 hs
    symm
    simpa using (show (46 : UInt8) ∈ L by rw [← he]; exact List.getElem_mem _)
theorem contains_any (s : ByteArray) (w : World) : Calls Tryz.prog 137 #[.string s, .string ⟨#[46]⟩] w fun e w' => e = .returned (.bool (s.data.toList.contains 46)) ∧ w = w' := by
  refine (Tryz.strings_Contains_one s 46 w).mono ?_
  rintro e w' ⟨rfl, rfl⟩
  exact ⟨ret_bool (has46 _), rfl⟩
theorem index_two : ∀ (s : List UInt8), Lib.cut s [58, 58] = match cut2 s with
    | some p => (p.1, p.2, true)
    | none => (s, [], false)
  | [] => rfl
  | [a] => by
    by_cases h : a = 58
    · subst h; rfl
    · have : Lib.index [a] [58, 58] = -1 := by
        rw [Lib.index, if_neg (by simp [List.isPrefixOf])]
        rfl
      unfold Lib.cut
      rw [this]
      rfl
  | a :: b :: r => by
    have ih := index_two (b :: r)
    rw [cut2]
    by_cases h : a = 58 ∧ b = 58
    · obtain ⟨rfl, rfl⟩ := h
      rw [if_pos ⟨rfl, rfl⟩]
      have : Lib.index (58 :: 58 :: r) [58, 58] = 0 := by rw [Lib.index, if_pos (by simp [List.isPrefixOf])]
      unfold Lib.cut
      rw [this]
      rfl
    · rw [if_neg h]
      have e : Lib.index (a :: b :: r) [58, 58] = if Lib.index (b :: r) [58, 58] == -1 then -1 else Lib.index (b :: r) [58, 58] + 1 := by
        rw [Lib.index, if_neg]
        simp only [List.isPrefixOf, Bool.and_eq_true, beq_iff_eq]
        rintro ⟨h1, h2, _⟩
        exact h ⟨h1.symm, h2.symm⟩
      have hge := Lib.index_ge (b :: r) [58, 58]
      unfold Lib.cut at ih ⊢
      rw [e]
      by_cases hm : Lib.index (b :: r) [58, 58] = -1
      · rw [hm] at ih ⊢
        cases hc : cut2 (b :: r) with
        | none => rfl
        | some p => rw [hc] at ih; simp at ih
      · obtain ⟨j, hj⟩ : ∃ j : Nat, Lib.index (b :: r) [58, 58] = j := ⟨(Lib.index (b :: r) [58, 58]).toNat, by omega⟩
        rw [hj] at ih ⊢
        have h1 : ((j : Int) == -1) = false := beq_eq_false_iff_ne.2 (by omega)
        rw [if_pos (by omega)] at ih
        simp only [h1, Bool.false_eq_true, if_false]
        rw [if_pos (by omega)]
        cases hc : cut2 (b :: r) with
        | none => rw [hc] at ih; simp at ih
        | some p =>
          rw [hc] at ih
          simp only [Prod.mk.injEq] at ih ⊢
          have h3 : ((j : Int) + 1).toNat = j + 1 := by omega
          rw [h3, ← ih.1, ← ih.2.1]
          refine ⟨?_, ?_, ?_⟩
          · simp
          · show List.drop (j + 2 + 1) (a :: b :: r) = List.drop (j + 2) (b :: r)
            rw [List.drop_succ_cons]
          · trivial
def cutV (s : ByteArray) : Value := match cut2 s.data.toList with
  | some p => .tuple #[.string (strOf p.1), .string (strOf p.2), .bool true]
  | none => .tuple #[.string s, .string (strOf []), .bool false]
theorem cut_any (s : ByteArray) (w : World) (hs : s.size ≤ 1073741824) (hM : Max w) : Calls Tryz.prog 118 #[.string s, .string ⟨#[58, 58]⟩] w fun e w' => e = .returned (cutV s) ∧ ∃ n, w' = w.drewN n := by
  obtain ⟨m, hm⟩ := hM
  refine (Tryz.strings_Cut s ⟨#[58, 58]⟩ m w (by omega) hm).mono ?_
  rintro e w' ⟨rfl, hn⟩
  refine ⟨?_, hn⟩
  rw [show (⟨#[58, 58]⟩ : ByteArray).data.toList = [58, 58] from rfl, index_two]
  unfold cutV
  cases cut2 s.data.toList with
  | none => exact ret3 (by show Value.string (strOf s.data.toList) = _; rw [strOf_toList]) rfl rfl
  | some p => rfl
end Go.Proofs.YtleecmapaihhmaaGreatDoor.Spl
namespace Go.Proofs.YtleecmapaihhmaaGreatDoor.SixB
open Go.RowKit Go.Proofs.YtleecmapaihhmaaGreatDoor.Base Go.Proofs.YtleecmapaihhmaaGreatDoor.Base2 Go.Proofs.YtleecmapaihhmaaGreatDoor.Base3 Go.Proofs.YtleecmapaihhmaaGreatDoor.UtfA Go.Proofs.YtleecmapaihhmaaGreatDoor.QudP Go.Proofs.YtleecmapaihhmaaGreatDoor.SixP Go.Proofs.YtleecmapaihhmaaGreatDoor.SixQ Go.Proofs.YtleecmapaihhmaaGreatDoor.SixA Go.Proofs.YtleecmapaihhmaaGreatDoor.Spl

theorem drop_at {α : Type} (R : List α) (k : Nat) (p : α) (hk : k < R.length) (h : R[k] = p) : R.drop k = p :: R.drop (k + 1) := by rw [← h]; exact List.drop_eq_getElem_cons hk
/-- Numbers as cells. -/
def ncells (L : List Nat) : List Value := L.map fun (n : Nat) => Value.int .u16 (n : Int)
theorem length_ncells (L : List Nat) : (ncells L).length = L.length := by simp [ncells]
theorem ncells_app (a b : List Nat) : ncells (a ++ b) = ncells a ++ ncells b := by simp [ncells]
theorem ncells_one (L : List Nat) : ∀ u ∈ ncells L, u.oneCell' = true := by
  intro u hu
  simp only [ncells, List.mem_map] at hu
  obtain ⟨c, _, rfl⟩ := hu
  rfl
/-- A box of numbers. -/
def Box (w : World) (g : Nat) (t : TypeId) (L : List Nat) : Prop := w.heap[g]? = some (.cells (ncells L).toArray t (0, 0))
theorem Box.cell {w : World} {g : Nat} {t : TypeId} {L : List Nat} (h : Box w g t L) (j : Nat) (hj : j < L.length) : w.cell? ⟨g, j, none⟩ = some (.int .u16 (L[j] : Int)) := by
  refine (cell_of_row w g j _ _ _ h).trans ?_
  simp [ncells, hj]
theorem Box.frozen {w : World} {g : Nat} {t : TypeId} {L : List Nat} (h : Box w g t L) (j : Nat) : w.frozen? ⟨g, j, none⟩ = false := by
  unfold World.frozen?
  rw [h]
  simp
theorem Box.set {w : World} {g : Nat} {t : TypeId} {L : List Nat} (h : Box w g t L) (j n : Nat) : Box (w.setCell ⟨g, j, none⟩ (.int .u16 (n : Int))) g t (L.set j n) := by
  have := heap_setCell_same w g j _ _ (.int .u16 (n : Int)) h
  unfold Box
  rw [this]
  simp [ncells, List.map_set]
theorem Box.below {w w' : World} {g : Nat} {t : TypeId} {L : List Nat} (h : Box w g t L) (hb : Below w.heap.size w w') : Box w' g t L := (hb.block _ (Array.getElem?_eq_some_iff.1 h).1).trans h
theorem Box.lt {w : World} {g : Nat} {t : TypeId} {L : List Nat} (h : Box w g t L) : g < w.heap.size := (Array.getElem?_eq_some_iff.1 h).1
theorem smalls_cons (p : List UInt8) (r : List (List UInt8)) (v : Nat) (h : small p = some v) : smalls (p :: r) = (smalls r).map (v :: ·) := by
  rw [smalls, h]
  cases smalls r <;> rfl
theorem small_le {p : List UInt8} {v : Nat} (h : small p = some v) : v ≤ 255 := by
  unfold small at h
  split at h
  · rename_i h2; injection h with h; omega
  · cases h
theorem map_map_app (xs : List Nat) (v : Nat) (o : Option (List Nat)) : (o.map (v :: ·)).map (xs ++ ·) = o.map ((xs ++ [v]) ++ ·) := by
  cases o <;> simp
theorem take_set_snoc (L : List Nat) (k v : Nat) (h : k < L.length) : (L.set k v).take (k + 1) = L.take k ++ [v] := by
  rw [List.take_succ_eq_append_getElem (by simpa using h)]
  simp [List.take_set_of_le]
theorem or_byte (a b : Nat) (ha : a ≤ 255) (hb : b ≤ 255) : bits .or .u16 ((a : Int) * 256) (b : Int) = ((a * 256 + b : Nat) : Int) := by
  rw [show ((a : Int) * 256) = ((a * 256 : Nat) : Int) by omega, u16_or_nat _ _ (by omega) (by omega)]
  have := Nat.shiftLeft_add_eq_or_of_lt (i := 8) (b := b) (by omega) a
  rw [Nat.shiftLeft_eq] at this
  rw [← this]
def QV (o : Option (List Nat)) : Value := match o with
  | some [a, b] => .tuple #[.int .u16 (a : Int), .int .u16 (b : Int), .bool true]
  | _ => .tuple #[.int .u16 0, .int .u16 0, .bool false]
theorem qv_none {o : Option (List Nat)} (h : o = none) : QV o = .tuple #[.int .u16 0, .int .u16 0, .bool false] := by rw [h]; rfl
theorem qv_some {o : Option (List Nat)} {a b : Nat} (h : o = some [a, b]) : QV o = .tuple #[.int .u16 (a : Int), .int .u16 (b : Int), .bool true] := by rw [h]; rfl
theorem smalls_len : ∀ {ps : List (List UInt8)} {l : List Nat}, smalls ps = some l → l.length = ps.length
  | [], l, h => by injection h with h; subst h; rfl
  | p :: r, l, h => by
    rw [smalls] at h
    split at h
    · rename_i n x h1 h2
      injection h with h
      subst h
      simp [smalls_len h2]
    · cases h
theorem quad_not4 {t : List UInt8} (h : (splt t).length ≠ 4) : quad t = none := by
  unfold quad
  cases e : smalls (splt t) with
  | none => rfl
  | some l => exact two_none (by rw [smalls_len e]; exact h)
set_option maxRecDepth 100000 in
set_option maxHeartbeats 4000000 in
theorem quad_any (s : ByteArray) (w : World) (hs : s.size ≤ 1073741824) (hM : Max w) : Calls Tryz.prog 138 #[.string s] w fun e w' => e = .returned (QV (quad s.data.toList)) ∧ Below w.heap.size w w' := by
  have hsl : s.data.toList.length = s.size := Array.length_toList
  obtain ⟨S, hS⟩ : ∃ S, S = quad s.data.toList := ⟨_, rfl⟩
  obtain ⟨R, hR⟩ : ∃ R, R = splt s.data.toList := ⟨_, rfl⟩
  have HPART : Hid (∀ p ∈ R, p.length ≤ 1073741824) := by
    intro p hp
    rw [hR] at hp
    have := splt_part _ p hp
    omega
  have HR := hid hR
  have HS := hid hS
  have HMX := hid hM
  rw [← hS]
  clear hS hR hM hsl
  go_enter Tryz.func138, Tryz.ntmps138
  go_wp2_with fail
  refine (split46_any s _ hs HMX.out).mono ?_
  rintro e w3 ⟨A, n, c, rfl, hn, hnc, hcm, hrd, hb⟩
  rw [← HR.out] at hn hrd
  have HN := hid hn
  have HRD := hid hrd
  have HB := hid hb
  unfold maxLen at hcm
  clear hn hrd hb
  by_cases h4 : n = 4
  · subst h4
    obtain ⟨g, off, rfl, hg, _⟩ := HRD.out.spot (by omega)
    go_wp2
    generalize hw4 : w3.alloc _ = w4
    have hbel4 : Below w3.heap.size w3 w4 := by rw [← hw4]; exact (Below.refl _ _).alloc (Nat.le_refl _) _
    have HBX : Hid (Box w4 w3.heap.size 155 [0, 0, 0, 0]) := by show Box _ _ _ _; rw [← hw4]; exact heap_alloc_new _ _
    have HW0 : Hid (smalls R = (smalls (R.drop 0)).map (([] : List Nat) ++ ·)) := by show _ = _; rw [List.drop_zero]; cases smalls R <;> simp
    clear hw4
    go_loopw [7, 8, 9, 10, 18] (fun _ _ _ _ vk wr => ∃ (k : Nat) (L : List Nat), k ≤ 4 ∧ vk = .int .i64 (k : Int) ∧ L.length = 4 ∧ Hid (Box wr w3.heap.size 155 L) ∧ Hid (Below w3.heap.size w3 wr) ∧ Hid (smalls R = (smalls (R.drop k)).map (L.take k ++ ·)) ∧ Hid (∀ x ∈ L, x ≤ 255)) (fun _ _ _ _ vk _ => 4 - (intOf vk).toNat)
    case atStart => exact ⟨0, [0, 0, 0, 0], by omega, rfl, rfl, HBX, hbel4, HW0, by intro x hx; simp at hx; omega⟩
    case round =>
      clear HW0 HBX hbel4
      obtain ⟨k, L, hk, rfl, hL, HBX, HBL, HW, HLE⟩ := hrel
      by_cases hlt : k < 4
      · obtain ⟨p, hp⟩ : ∃ p, R[k]'(by rw [← HN.out]; exact hlt) = p := ⟨_, rfl⟩
        obtain ⟨Y, hY⟩ : ∃ Y, Y = strOf p := ⟨_, rfl⟩
        have HYD : Hid (Y.data.toList = p) := by show _ = _; rw [hY]; rfl
        have hcl : wr.cell? ⟨g, off + k, none⟩ = some (.string Y) := by
          obtain ⟨b', o', e1, _, hc'⟩ := (HRD.out.below HBL.out).2 k (by rw [List.length_map, List.length_map, ← HN.out]; exact hlt)
          cases e1
          rw [hc', List.getElem_map, List.getElem_map, hp, hY]
        have HDR : Hid (R.drop k = p :: R.drop (k + 1)) := drop_at R k p (by rw [← HN.out]; exact hlt) hp
        clear hp hY
        cases hsm : small p with
        | none =>
          have HE : Hid (QV S = .tuple #[.int .u16 0, .int .u16 0, .bool false]) := by
            refine qv_none ?_
            rw [HS.out]
            refine quad_smalls ?_
            rw [← HR.out, HW.out, HDR.out, smalls_none hsm]
            rfl
          have HSM := hid hsm
          clear hsm
          go_wp2_with fail
          refine (small_any Y _).mono ?_
          rw [HYD.out, HSM.out]
          rintro e w5 ⟨⟨x, rfl⟩, rfl⟩
          go_wp2
          go_ret3
          exact ⟨by rw [HE.out]; rfl, bel HB.out HBL.out⟩
        | some v =>
          have hv := small_le hsm
          have HSM := hid hsm
          have HW2 : Hid (smalls R = (smalls (R.drop (k + 1))).map ((L.set k v).take (k + 1) ++ ·)) := by
            show _ = _
            rw [HW.out, HDR.out, smalls_cons p _ v hsm, take_set_snoc L k v (by omega), map_map_app]
          have hc0 := HBX.out.cell k (by omega)
          have hf0 := HBX.out.frozen k
          have HB2 := hid (HBX.out.set k v)
          have HBL2 : Hid (Below w3.heap.size w3 (wr.setCell ⟨w3.heap.size, k, none⟩ (.int .u16 (v : Int)))) := HBL.out.setCell (Nat.le_refl _) _
          have HLE2 : Hid (∀ x ∈ L.set k v, x ≤ 255) := by
            intro x hx
            rcases List.mem_or_eq_of_mem_set hx with h | h
            · exact HLE.out x h
            · omega
          clear hsm hv
          go_wp2_with fail
          refine (small_any Y _).mono ?_
          rw [HYD.out, HSM.out]
          rintro e w5 ⟨rfl, rfl⟩
          go_wp2
          go_roundw
          case rel => exact ⟨k + 1, L.set k v, by omega, by go_num, by rw [List.length_set]; exact hL, HB2.out, HBL2.out, HW2.out, HLE2.out⟩
          case measure => simp [intOf]; omega
      · obtain rfl : k = 4 := by omega
        have hall : smalls R = some L := by
          rw [HW.out, List.drop_eq_nil_of_le (by rw [← HN.out]; exact Nat.le_refl _), List.take_of_length_le (by omega)]
          simp [smalls]
        match L, hL, HBX, HLE, hall with
        | [a, b, c, d], _, HBX, HLE, hall =>
          have ha := HLE.out a (by simp)
          have hb := HLE.out b (by simp)
          have hc := HLE.out c (by simp)
          have hd := HLE.out d (by simp)
          have HE : Hid (QV S = .tuple #[.int .u16 ((a * 256 + b : Nat) : Int), .int .u16 ((c * 256 + d : Nat) : Int), .bool true]) := by
            refine qv_some ?_
            rw [HS.out]
            unfold quad
            rw [← HR.out, hall]
            rfl
          have c0 := HBX.out.cell 0 (by simp)
          have c1 := HBX.out.cell 1 (by simp)
          have c2 := HBX.out.cell 2 (by simp)
          have c3 := HBX.out.cell 3 (by simp)
          simp only [List.getElem_cons_zero, List.getElem_cons_succ] at c0 c1 c2 c3
          have o1 := or_byte a b ha hb
          have o2 := or_byte c d hc hd
          have hai : (a : Int) ≤ 255 := by omega
          have hci : (c : Int) ≤ 255 := by omega
          have HBZ := hid (bel HB.out HBL.out)
          clear hall hL HBX HLE HBL HW ha hb hc hd
          go_wp2_with fail
          go_quiet (fail)
          go_wp2
          go_ret3
          exact ⟨by rw [HE.out]; rfl, Base.below_drewN HBZ.out _⟩
  · have HE : Hid (QV S = .tuple #[.int .u16 0, .int .u16 0, .bool false]) := by
      refine qv_none ?_
      rw [HS.out]
      exact quad_not4 (by rw [← HR.out, ← HN.out]; exact h4)
    have h4i : ¬ (n : Int) = 4 := by omega
    go_wp2
    go_ret3
    exact ⟨by rw [HE.out]; rfl, HB.out⟩
/-- The pieces' result. -/
def PcV (w : World) (o : Option (List Nat)) (e : Ending) (w' : World) : Prop := match o with
  | some l => ∃ v, e = .returned (.tuple #[v, .bool true]) ∧ w'.ownsRow w.heap.size 82 1 v l.length (ncells l)
  | none => ∃ v, e = .returned (.tuple #[v, .bool false])
theorem pcv_none {w w' : World} {o : Option (List Nat)} (h : o = none) (v : Value) : PcV w o (.returned (.tuple #[v, .bool false])) w' := by rw [h]; exact ⟨v, rfl⟩
theorem pcv_some {w w' : World} {o : Option (List Nat)} {l : List Nat} (h : o = some l) (v : Value) (ho : w'.ownsRow w.heap.size 82 1 v l.length (ncells l)) : PcV w o (.returned (.tuple #[v, .bool true])) w' := by rw [h]; exact ⟨v, rfl, ho⟩
theorem info_u16 : (Tryz.prog.info? 82).map (fun i => (i.zero, i.size, i.bytes)) = some (some (.int .u16 0), 1, 2) := by kernel_rfl
def NB (e : Bool) (r : List (List UInt8)) (p : List UInt8) : Prop := ¬ (e = true ∧ r = [] ∧ p.contains 46 = true)
theorem pcs_B {e : Bool} {p : List UInt8} {r : List (List UInt8)} (h : NB e r p) {v : Nat} (hp : piece p = some v) : pcs e (p :: r) = (pcs e r).map (v :: ·) := by
  rw [pcs, if_neg h, hp]
  cases pcs e r <;> rfl
theorem pcs_Bn {e : Bool} {p : List UInt8} {r : List (List UInt8)} (h : NB e r p) (hp : piece p = none) : pcs e (p :: r) = none := by
  rw [pcs, if_neg h, hp]
theorem piece_le {p : List UInt8} {v : Nat} (h : piece p = some v) : v < 65536 := by
  unfold piece at h
  split at h
  · rename_i h2
    injection h with h
    have h3 := val_lt 16 (by omega) p h2.2.2
    have h4 : 16 ^ p.length ≤ 16 ^ 4 := Nat.pow_le_pow_right (by omega) h2.2.1
    omega
  · cases h
theorem two_ex {l x : List Nat} (h : two l = some x) : ∃ a b, x = [a, b] := by
  unfold two at h
  split at h
  · injection h with h; exact ⟨_, _, h.symm⟩
  · cases h
theorem quad_ex {p : List UInt8} {x : List Nat} (h : quad p = some x) : ∃ a b, x = [a, b] := by
  unfold quad at h
  cases e : smalls (splt p) with
  | none => rw [e] at h; cases h
  | some l => rw [e] at h; exact two_ex h
set_option linter.unusedSimpArgs false in
set_option maxRecDepth 100000 in
set_option maxHeartbeats 8000000 in
theorem pieces_any (s : ByteArray) (e : Bool) (w : World) (hs : s.size ≤ 1048576) (hM : Max w) : Calls Tryz.prog 119 #[.string s, .bool e] w fun en w' => PcV w (pcs e (splc s.data.toList)) en w' ∧ Below w.heap.size w w' := by
  have hsl : s.data.toList.length = s.size := Array.length_toList
  obtain ⟨i0, hi, hz0, hz1, hz2⟩ := info_parts info_u16
  obtain ⟨R, hR⟩ : ∃ R, R = splc s.data.toList := ⟨_, rfl⟩
  have HPART : Hid (∀ p ∈ R, p.length ≤ 1073741824) := by
    intro p hp
    rw [hR] at hp
    have := splc_part _ p hp
    omega
  have hRl : R.length ≤ 1048577 := by have := length_splc s.data.toList; rw [hR]; omega
  rw [← hR]
  obtain ⟨S, hS⟩ : ∃ S, S = pcs e R := ⟨_, rfl⟩
  rw [← hS]
  have HR := hid hR
  have HS := hid hS
  have HMX := hid hM
  clear hR hM hsl hS
  go_enter Tryz.func119, Tryz.ntmps119
  go_wp2_with fail
  refine (split58_any s _ (by omega) HMX.out).mono ?_
  rintro en w3 ⟨A, n, c, rfl, hn, hnc, hcm, hrd, hb⟩
  rw [← HR.out] at hn hrd
  rw [← hn] at hRl
  have HN := hid hn
  have HRD := hid hrd
  have HB := hid hb
  unfold maxLen at hcm
  have hnp : 0 < n := by rw [hn, HR.out]; exact List.length_pos_iff.2 (splc_ne _)
  clear hn hrd hb
  have HW0 : Hid (S = (pcs e (R.drop 0)).map (([] : List Nat) ++ ·)) := by show _ = _; rw [List.drop_zero, HS.out]; cases pcs e R <;> simp
  have HX3 : Hid (Max w3) := HMX.out.below HB.out
  obtain ⟨g, off, rfl, hg, _⟩ := HRD.out.spot hnp
  go_wp2
  go_loopw [6, 8, 9, 13, 14, 19] (fun vl _ _ _ _ vk wr => ∃ (k : Nat) (xs : List Nat), k ≤ n ∧ xs.length ≤ k ∧ vk = .int .i64 (k : Int) ∧ Hid (wr.ownsRow w3.heap.size 82 1 vl xs.length (ncells xs)) ∧ Hid (Below w3.heap.size w3 wr) ∧ Hid (S = (pcs e (R.drop k)).map (xs ++ ·))) (fun _ _ _ _ _ vk _ => n - (intOf vk).toNat)
  case atStart => exact ⟨0, [], by omega, Nat.le_refl _, rfl, World.ownsRow_nil _ _ _ _, Below.refl _ _, HW0⟩
  case round =>
    clear HW0
    obtain ⟨k, xs, hk, hxk, rfl, HO, HBL, HW⟩ := hrel
    by_cases hlt : k < n
    · obtain ⟨p, hp⟩ : ∃ p, R[k]'(by rw [← HN.out]; exact hlt) = p := ⟨_, rfl⟩
      obtain ⟨Y, hY⟩ : ∃ Y, Y = strOf p := ⟨_, rfl⟩
      obtain ⟨m, hm⟩ : ∃ m, m = xs.length := ⟨_, rfl⟩
      have HYD : Hid (Y.data.toList = p) := by show _ = _; rw [hY]; rfl
      have hcl : wr.cell? ⟨g, off + k, none⟩ = some (.string Y) := by
        obtain ⟨b', o', e1, _, hc'⟩ := (HRD.out.below HBL.out).2 k (by rw [List.length_map, List.length_map, ← HN.out]; exact hlt)
        cases e1
        rw [hc', List.getElem_map, List.getElem_map, hp, hY]
      have HYS : Hid (Y.size ≤ 1073741824) := by
        show _ ≤ _
        rw [hY, size_strOf]
        exact HPART.out p (by rw [← hp]; exact List.getElem_mem _)
      have HDR : Hid (R.drop k = p :: R.drop (k + 1)) := drop_at R k p (by rw [← HN.out]; exact hlt) hp
      have HLASTI : Hid (R.drop (k + 1) = [] ↔ k + 1 = n) := by
        show _ ↔ _
        rw [List.drop_eq_nil_iff, ← HN.out]
        omega
      rw [← hm] at HO hxk
      have HM := hid hm
      have hbw : wr.heap.size ≥ w3.heap.size := HBL.out.size
      clear hp hY hm
      cases e with
      | false =>
        have HNB : Hid (NB false (R.drop (k + 1)) p) := fun h => by cases h.1
        cases hpc : piece p with
        | none =>
          have HE : Hid (S = none) := by show _ = _; rw [HW.out, HDR.out, pcs_Bn HNB.out hpc]; rfl
          have HPC := hid hpc
          clear hpc
          go_wp2_with fail
          refine (piece_any Y _).mono ?_
          rw [HYD.out, HPC.out]
          rintro e5 w5 ⟨rfl, hw5⟩
          subst hw5
          rw [PV]
          go_wp2
          go_ret2
          exact ⟨pcv_none HE.out _, bel HB.out HBL.out⟩
        | some v =>
          have HPC := hid hpc
          have HW2 : Hid (S = (pcs false (R.drop (k + 1))).map ((xs ++ [v]) ++ ·)) := by show _ = _; rw [HW.out, HDR.out, pcs_B HNB.out hpc, map_map_app]
          have hown := HO.out
          have hbel := HBL.out
          clear hpc HO HBL HW
          go_wp2_with fail
          refine (piece_any Y _).mono ?_
          rw [HYD.out, HPC.out]
          rintro e5 w5 ⟨rfl, hw5⟩
          subst hw5
          rw [PV]
          go_wp2_with (at_builtin; refine wpList_app rfl _ _ 132 rfl w3.heap.size 82 i0 (.int .u16 0) 2 Tryz.underlying132 hi hz0 hz1 hz2 rfl _ m _ rfl hown hbel hbel.size [.int .u16 (v : Int)] 1 rfl rfl (by intro u hu; simp at hu; subst hu; rfl) (by unfold maxLen; omega) (by omega) ?_)
          intro v7 w7 hown7 hbel7
          have HO7 : Hid (w7.ownsRow w3.heap.size 82 1 v7 (xs ++ [v]).length (ncells (xs ++ [v]))) := by
            show World.ownsRow _ _ _ _ _ _ _
            rw [List.length_append, ← HM.out, ncells_app]
            exact hown7
          have HB7 := hid hbel7
          clear hown hbel hown7 hbel7
          go_wp2
          go_roundw
          case rel => exact ⟨k + 1, xs ++ [v], by omega, by rw [List.length_append, ← HM.out]; show m + 1 ≤ _; omega, by go_num, HO7.out, HB7.out, HW2.out⟩
          case measure => simp [intOf]; omega
      | true =>
        by_cases hkn : k + 1 = n
        · have HKN := hid hkn
          have hq : ((k : Int) == (n : Int) - 1) = true := by simp; omega
          cases hct : p.contains 46 with
          | true =>
            have HCT := hid hct
            clear hct hkn
            go_wp2_with fail
            refine (contains_any Y _).mono ?_
            rw [HYD.out, HCT.out]
            rintro e4 w4 ⟨rfl, hw4⟩
            subst hw4
            have HCOND : Hid (pcs true (p :: R.drop (k + 1)) = quad p) := by show _ = _; rw [pcs, if_pos ⟨rfl, HLASTI.out.2 HKN.out, HCT.out⟩]
            cases hqd : quad p with
            | none =>
              have HE : Hid (S = none) := by show _ = _; rw [HW.out, HDR.out, HCOND.out, hqd]; rfl
              have HQD : Hid (QV (quad p) = .tuple #[.int .u16 0, .int .u16 0, .bool false]) := by show _ = _; rw [hqd]; rfl
              have hown := HO.out
              clear hqd HO
              go_wp2_with fail
              refine (quad_any Y _ HYS.out (HX3.out.below HBL.out)).mono ?_
              rw [HYD.out, HQD.out]
              rintro e5 w5 ⟨rfl, hb5⟩
              have hown5 := owns_below hown hb5
              have hbel5 : Below w3.heap.size w3 w5 := HBL.out.trans (hb5.mono hbw)
              clear hown hb5
              go_wp2_with (at_builtin; refine wpList_app rfl _ _ 132 rfl w3.heap.size 82 i0 (.int .u16 0) 2 Tryz.underlying132 hi hz0 hz1 hz2 rfl _ m _ rfl hown5 hbel5 hbel5.size [.int .u16 0, .int .u16 0] 2 rfl rfl (by intro u hu; simp at hu; subst hu; rfl) (by unfold maxLen; omega) (by omega) ?_)
              intro v7 w7 hown7 hbel7
              have HB7 := hid hbel7
              clear hown5 hbel5 hown7 hbel7
              go_wp2
              go_ret2
              exact ⟨pcv_none HE.out _, bel HB.out HB7.out⟩
            | some x =>
              obtain ⟨a, b, rfl⟩ := quad_ex hqd
              have HE : Hid (S = some (xs ++ [a, b])) := by show _ = _; rw [HW.out, HDR.out, HCOND.out, hqd]; rfl
              have HQD : Hid (QV (quad p) = .tuple #[.int .u16 (a : Int), .int .u16 (b : Int), .bool true]) := by show _ = _; rw [hqd]; rfl
              have hown := HO.out
              clear hqd HO
              go_wp2_with fail
              refine (quad_any Y _ HYS.out (HX3.out.below HBL.out)).mono ?_
              rw [HYD.out, HQD.out]
              rintro e5 w5 ⟨rfl, hb5⟩
              have hown5 := owns_below hown hb5
              have hbel5 : Below w3.heap.size w3 w5 := HBL.out.trans (hb5.mono hbw)
              clear hown hb5
              go_wp2_with (at_builtin; refine wpList_app rfl _ _ 132 rfl w3.heap.size 82 i0 (.int .u16 0) 2 Tryz.underlying132 hi hz0 hz1 hz2 rfl _ m _ rfl hown5 hbel5 hbel5.size [.int .u16 (a : Int), .int .u16 (b : Int)] 2 rfl rfl (by intro u hu; simp at hu; rcases hu with rfl | rfl <;> rfl) (by unfold maxLen; omega) (by omega) ?_)
              intro v7 w7 hown7 hbel7
              have HO7 : Hid (w7.ownsRow w3.heap.size 82 1 v7 (xs ++ [a, b]).length (ncells (xs ++ [a, b]))) := by
                show World.ownsRow _ _ _ _ _ _ _
                rw [List.length_append, ← HM.out, ncells_app]
                exact hown7
              have HB7 := hid hbel7
              clear hown5 hbel5 hown7 hbel7
              go_wp2
              go_ret2
              exact ⟨pcv_some HE.out _ (owns_base HO7.out HB.out.size), bel HB.out HB7.out⟩
          | false =>
            have HCT := hid hct
            have HNB : Hid (NB true (R.drop (k + 1)) p) := fun h => by rw [HCT.out] at h; cases h.2.2
            clear hct hkn
            go_wp2_with fail
            refine (contains_any Y _).mono ?_
            rw [HYD.out, HCT.out]
            rintro e4 w4 ⟨rfl, hw4⟩
            subst hw4
            cases hpc : piece p with
            | none =>
              have HE : Hid (S = none) := by show _ = _; rw [HW.out, HDR.out, pcs_Bn HNB.out hpc]; rfl
              have HPC := hid hpc
              clear hpc
              go_wp2_with fail
              refine (piece_any Y _).mono ?_
              rw [HYD.out, HPC.out]
              rintro e5 w5 ⟨rfl, hw5⟩
              subst hw5
              rw [PV]
              go_wp2
              go_ret2
              exact ⟨pcv_none HE.out _, bel HB.out HBL.out⟩
            | some v =>
              have HPC := hid hpc
              have HW2 : Hid (S = (pcs true (R.drop (k + 1))).map ((xs ++ [v]) ++ ·)) := by show _ = _; rw [HW.out, HDR.out, pcs_B HNB.out hpc, map_map_app]
              have hown := HO.out
              have hbel := HBL.out
              clear hpc HO HBL HW
              go_wp2_with fail
              refine (piece_any Y _).mono ?_
              rw [HYD.out, HPC.out]
              rintro e5 w5 ⟨rfl, hw5⟩
              subst hw5
              rw [PV]
              go_wp2_with (at_builtin; refine wpList_app rfl _ _ 132 rfl w3.heap.size 82 i0 (.int .u16 0) 2 Tryz.underlying132 hi hz0 hz1 hz2 rfl _ m _ rfl hown hbel hbel.size [.int .u16 (v : Int)] 1 rfl rfl (by intro u hu; simp at hu; subst hu; rfl) (by unfold maxLen; omega) (by omega) ?_)
              intro v7 w7 hown7 hbel7
              have HO7 : Hid (w7.ownsRow w3.heap.size 82 1 v7 (xs ++ [v]).length (ncells (xs ++ [v]))) := by
                show World.ownsRow _ _ _ _ _ _ _
                rw [List.length_append, ← HM.out, ncells_app]
                exact hown7
              have HB7 := hid hbel7
              clear hown hbel hown7 hbel7
              go_wp2
              go_roundw
              case rel => exact ⟨k + 1, xs ++ [v], by omega, by rw [List.length_append, ← HM.out]; show m + 1 ≤ _; omega, by go_num, HO7.out, HB7.out, HW2.out⟩
              case measure => simp [intOf]; omega
        · have hq : ((k : Int) == (n : Int) - 1) = false := by simp; omega
          have HNB : Hid (NB true (R.drop (k + 1)) p) := fun h => hkn (HLASTI.out.1 h.2.1)
          clear hkn
          cases hpc : piece p with
          | none =>
            have HE : Hid (S = none) := by show _ = _; rw [HW.out, HDR.out, pcs_Bn HNB.out hpc]; rfl
            have HPC := hid hpc
            clear hpc
            go_wp2_with fail
            refine (piece_any Y _).mono ?_
            rw [HYD.out, HPC.out]
            rintro e5 w5 ⟨rfl, hw5⟩
            subst hw5
            rw [PV]
            go_wp2
            go_ret2
            exact ⟨pcv_none HE.out _, bel HB.out HBL.out⟩
          | some v =>
            have HPC := hid hpc
            have HW2 : Hid (S = (pcs true (R.drop (k + 1))).map ((xs ++ [v]) ++ ·)) := by show _ = _; rw [HW.out, HDR.out, pcs_B HNB.out hpc, map_map_app]
            have hown := HO.out
            have hbel := HBL.out
            clear hpc HO HBL HW
            go_wp2_with fail
            refine (piece_any Y _).mono ?_
            rw [HYD.out, HPC.out]
            rintro e5 w5 ⟨rfl, hw5⟩
            subst hw5
            rw [PV]
            go_wp2_with (at_builtin; refine wpList_app rfl _ _ 132 rfl w3.heap.size 82 i0 (.int .u16 0) 2 Tryz.underlying132 hi hz0 hz1 hz2 rfl _ m _ rfl hown hbel hbel.size [.int .u16 (v : Int)] 1 rfl rfl (by intro u hu; simp at hu; subst hu; rfl) (by unfold maxLen; omega) (by omega) ?_)
            intro v7 w7 hown7 hbel7
            have HO7 : Hid (w7.ownsRow w3.heap.size 82 1 v7 (xs ++ [v]).length (ncells (xs ++ [v]))) := by
              show World.ownsRow _ _ _ _ _ _ _
              rw [List.length_append, ← HM.out, ncells_app]
              exact hown7
            have HB7 := hid hbel7
            clear hown hbel hown7 hbel7
            go_wp2
            go_roundw
            case rel => exact ⟨k + 1, xs ++ [v], by omega, by rw [List.length_append, ← HM.out]; show m + 1 ≤ _; omega, by go_num, HO7.out, HB7.out, HW2.out⟩
            case measure => simp [intOf]; omega
    · obtain rfl : k = n := by omega
      have HE : Hid (S = some xs) := by
        show _ = _
        rw [HW.out, List.drop_eq_nil_of_le (by rw [← HN.out]; exact Nat.le_refl _)]
        simp [pcs]
      go_wp2
      go_ret2
      exact ⟨pcv_some HE.out _ (owns_base HO.out HB.out.size), bel HB.out HBL.out⟩
set_option maxRecDepth 100000 in
theorem side_any (s : ByteArray) (e : Bool) (w : World) (hs : s.size ≤ 1048576) (hM : Max w) : Calls Tryz.prog 120 #[.string s, .bool e] w fun en w' => PcV w (sideP e (splc s.data.toList)) en w' ∧ Below w.heap.size w w' := by
  by_cases h : s.data.toList = []
  · have HE : Hid (sideP e (splc s.data.toList) = some []) := by show _ = _; rw [h]; rfl
    have h1 : s.toList = [] := by rw [Lib.toList_data]; exact h
    clear h
    go_enter Tryz.func120, Tryz.ntmps120
    go_wp2
    go_ret2
    exact ⟨pcv_some HE.out _ (World.ownsRow_nil _ _ _ _), Below.refl _ _⟩
  · have HE : Hid (sideP e (splc s.data.toList) = pcs e (splc s.data.toList)) := sideP_neg e (fun h2 => h (splc_one.1 h2))
    have h1 : (s.toList == []) = false := by rw [Lib.toList_data]; simpa using h
    have h2 : s.toList.isEmpty = false := by rw [Lib.toList_data]; simpa using h
    have HMX := hid hM
    obtain ⟨S, hS⟩ : ∃ S, S = pcs e (splc s.data.toList) := ⟨_, rfl⟩
    have HS := hid hS
    rw [HE.out, ← hS]
    clear hM hS
    go_enter Tryz.func120, Tryz.ntmps120
    go_wp2_with fail
    refine (pieces_any s e _ hs HMX.out).mono ?_
    rw [← HS.out]
    rintro en w2 ⟨hp, hb⟩
    cases S with
    | none =>
      obtain ⟨v, rfl⟩ := hp
      go_wp2
      go_ret2
      exact ⟨pcv_none rfl _, hb⟩
    | some l =>
      obtain ⟨v, rfl, ho⟩ := hp
      go_wp2
      go_ret2
      exact ⟨pcv_some rfl _ ho, hb⟩
end Go.Proofs.YtleecmapaihhmaaGreatDoor.SixB
namespace Go.Proofs.YtleecmapaihhmaaGreatDoor.SixC
open Go.RowKit Go.Proofs.YtleecmapaihhmaaGreatDoor.Base Go.Proofs.YtleecmapaihhmaaGreatDoor.Base2 Go.Proofs.YtleecmapaihhmaaGreatDoor.Base3 Go.Proofs.YtleecmapaihhmaaGreatDoor.UtfA Go.Proofs.YtleecmapaihhmaaGreatDoor.QudP Go.Proofs.YtleecmapaihhmaaGreatDoor.SixP Go.Proofs.YtleecmapaihhmaaGreatDoor.SixQ Go.Proofs.YtleecmapaihhmaaGreatDoor.SixA Go.Proofs.YtleecmapaihhmaaGreatDoor.SixB Go.Proofs.YtleecmapaihhmaaGreatDoor.Spl

def zer : List Nat := [0, 0, 0, 0, 0, 0, 0, 0]
def SixV (o : Option (List Nat)) : Value := match o with
  | some V => .tuple #[.agg (ncells V).toArray, .bool true]
  | none => .tuple #[.agg (ncells zer).toArray, .bool false]
theorem sixv_none {o : Option (List Nat)} (h : o = none) : SixV o = .tuple #[.agg (ncells zer).toArray, .bool false] := by rw [h]; rfl
theorem sixv_some {o : Option (List Nat)} {V : List Nat} (h : o = some V) : SixV o = .tuple #[.agg (ncells V).toArray, .bool true] := by rw [h]; rfl
theorem cells8 {w : World} {g : Nat} {t : TypeId} {L : List Nat} (h : Box w g t L) (f : Nat → Nat) (hL : L = [f 0, f 1, f 2, f 3, f 4, f 5, f 6, f 7]) :
    w.cell? ⟨g, 0, none⟩ = some (.int .u16 (f 0 : Int)) ∧ w.cell? ⟨g, 1, none⟩ = some (.int .u16 (f 1 : Int)) ∧ w.cell? ⟨g, 2, none⟩ = some (.int .u16 (f 2 : Int)) ∧ w.cell? ⟨g, 3, none⟩ = some (.int .u16 (f 3 : Int)) ∧ w.cell? ⟨g, 4, none⟩ = some (.int .u16 (f 4 : Int)) ∧ w.cell? ⟨g, 5, none⟩ = some (.int .u16 (f 5 : Int)) ∧ w.cell? ⟨g, 6, none⟩ = some (.int .u16 (f 6 : Int)) ∧ w.cell? ⟨g, 7, none⟩ = some (.int .u16 (f 7 : Int)) := by
  subst hL
  refine ⟨h.cell 0 (by simp), h.cell 1 (by simp), h.cell 2 (by simp), h.cell 3 (by simp), h.cell 4 (by simp), h.cell 5 (by simp), h.cell 6 (by simp), h.cell 7 (by simp)⟩
theorem frozen8 {w : World} {g : Nat} {t : TypeId} {L : List Nat} (h : Box w g t L) : w.frozen? ⟨g, 0, none⟩ = false ∧ w.frozen? ⟨g, 1, none⟩ = false ∧ w.frozen? ⟨g, 2, none⟩ = false ∧ w.frozen? ⟨g, 3, none⟩ = false ∧ w.frozen? ⟨g, 4, none⟩ = false ∧ w.frozen? ⟨g, 5, none⟩ = false ∧ w.frozen? ⟨g, 6, none⟩ = false ∧ w.frozen? ⟨g, 7, none⟩ = false :=
  ⟨h.frozen 0, h.frozen 1, h.frozen 2, h.frozen 3, h.frozen 4, h.frozen 5, h.frozen 6, h.frozen 7⟩
def put8 (w : World) (g : Nat) (f : Nat → Nat) : World := (((((((w.setCell ⟨g, 0, none⟩ (.int .u16 (f 0 : Int))).setCell ⟨g, 1, none⟩ (.int .u16 (f 1 : Int))).setCell ⟨g, 2, none⟩ (.int .u16 (f 2 : Int))).setCell ⟨g, 3, none⟩ (.int .u16 (f 3 : Int))).setCell ⟨g, 4, none⟩ (.int .u16 (f 4 : Int))).setCell ⟨g, 5, none⟩ (.int .u16 (f 5 : Int))).setCell ⟨g, 6, none⟩ (.int .u16 (f 6 : Int))).setCell ⟨g, 7, none⟩ (.int .u16 (f 7 : Int))
theorem box_put {w : World} {g : Nat} {t : TypeId} (h : Box w g t zer) (f : Nat → Nat) : Box (put8 w g f) g t [f 0, f 1, f 2, f 3, f 4, f 5, f 6, f 7] :=
  (((((((h.set 0 (f 0)).set 1 (f 1)).set 2 (f 2)).set 3 (f 3)).set 4 (f 4)).set 5 (f 5)).set 6 (f 6)).set 7 (f 7)
theorem below_put8 {w0 w : World} {B g : Nat} (h : Below B w0 w) (hg : B ≤ g) (f : Nat → Nat) : Below B w0 (put8 w g f) := (((((((h.setCell hg _).setCell hg _).setCell hg _).setCell hg _).setCell hg _).setCell hg _).setCell hg _).setCell hg _
theorem load8 {w : World} {g : Nat} {L : List Nat} (h : Box w g 83 L) (hl : L.length = 8) : (loadVar 83 ⟨g, 0, none⟩).run Tryz.prog w = .ok (.agg (ncells L).toArray) w :=
  run_loadVar_row w g _ _ (ncells L).toArray (0, 0) _ h Tryz.underlying83 rfl (by
    rw [show (Tryz.prog.info? 83).map (·.size) = some 8 by kernel_rfl]
    simp [ncells, hl])
theorem res_end {w : World} {g : Nat} {L : List Nat} (h : Box w g 83 L) (hl : L.length = 8) (ok : Bool) (tmps : Array Value) (h2 : tmps.getD 2 undef = .pointer (some ⟨g, 0, none⟩)) (h3 : tmps.getD 3 undef = .bool ok) :
    (results Tryz.f91 tmps).run Tryz.prog w = .ok (.tuple #[.agg (ncells L).toArray, .bool ok]) w := by
  have hp' : tmps[2]?.getD undef = .pointer (some ⟨g, 0, none⟩) := by simpa using h2
  have hq' : tmps[3]?.getD undef = .bool ok := by simpa using h3
  simp [results, Tryz.results91, hp', hq', asAddr, load8 h hl]
theorem owns_other {w w' : World} {base gb : Nat} {e : TypeId} {size n : Nat} {v : Value} {xs : List Value} (h : w.ownsRow base e size v n xs) (ho : ∀ k, k ≠ gb → w'.heap[k]? = w.heap[k]?) (hg : gb < base) : w'.ownsRow base e size v n xs := by
  refine ⟨h.1, ?_⟩
  rcases h.2 with hn | ⟨g, cap, cur, rfl, hb, hh, rest⟩
  · exact .inl hn
  · exact .inr ⟨g, cap, cur, rfl, hb, (ho g (by omega)).trans hh, rest⟩
theorem ncells_splice (L : List Nat) (off : Nat) (cs : List Nat) : splice (ncells L) off (ncells cs) = ncells (splice L off cs) := by simp [splice, ncells]
/-- 'copy(box[off:], v)': the box holds it, and all else is as it was. -/
theorem copy_box {P : Program} {w : World} {ops : Array Oper} {rest : List Oper} {o : Oper} {a : Act} {Q : Exit → Act → World → Prop} (hgd : o.guard = none) (d s : Operand) (dT sT : TypeId)
    (ho : o.op = .call { callee := .builtin .copy, args := #[d, s], argTypes := #[dT, sT] }) (elem : TypeId) (hu : P.underlying dT = some (.slice elem)) (hsz : (P.info? elem).map (·.size) = some 1)
    (dp : Option Addr) (dLen dCap : Nat) (A : Option Addr) (n c : Nat) (hd : a.eval d = .slice dp dLen dCap) (hs : a.eval s = .slice A n c)
    (g off : Nat) (L : List Nat) (t : TypeId) (hg : Box w g t L) (cs : List Nat) (hr : Rds w A n (ncells cs)) (hn : n ≤ dLen) (hpos : 0 < n → dp = some ⟨g, off, none⟩) (hfit : off + cs.length ≤ L.length)
    (h : ∀ w', Hid (Box w' g t (splice L off cs)) → (∀ k, k ≠ g → w'.heap[k]? = w.heap[k]?) → Below g w w' → wpList P ops Q rest (a.put o.dst (goInt (ncells cs).length)) w') :
    wpList P ops Q (o :: rest) a w := by
  have hl : cs.length = n := by rw [← length_ncells]; exact hr.1
  by_cases h0 : n = 0
  · subst h0
    obtain rfl : cs = [] := List.eq_nil_of_length_eq_zero hl
    refine wpList_copy_nothing hgd d s dT sT ho elem hu hsz dp A dLen dCap 0 c hd hs (by simp) ?_
    exact h w (show Box _ _ _ _ by simpa [splice] using hg) (fun _ _ => rfl) (Below.refl _ _)
  · obtain rfl := hpos (by omega)
    obtain ⟨b, bo, rfl, _, hc⟩ := hr.spot (by omega)
    refine wpList_copy_own hgd d s dT sT ho elem hu hsz g off dLen dCap ⟨b, bo, none⟩ n c hd hs (ncells L).toArray t hg (ncells cs) (by rw [length_ncells, hl]; exact (Nat.min_eq_left hn).symm) (fun j v hj => ?_) (by simpa [ncells] using hfit) (ncells_one cs) ?_
    · obtain ⟨hj', e⟩ := List.getElem?_eq_some_iff.1 hj
      have ha : (⟨b, bo, none⟩ : Addr).add j = ⟨b, bo + j, none⟩ := by
        unfold Addr.add
        split <;> simp_all
      rw [ha, hc j hj', e]
    · refine h _ ?_ (fun k hk => setRow_other w g k _ hk) (below_setRow (Below.refl _ _) (Nat.le_refl _) _)
      have := setRow_heap w g (ncells L).toArray ((ncells L).take off ++ (ncells cs ++ (ncells L).drop (off + (ncells cs).length))).toArray t (0, 0) hg
      show Box _ _ _ _
      unfold Box
      rw [← ncells_splice]
      exact this
theorem cut2_len : ∀ {s : List UInt8} {p : List UInt8 × List UInt8}, cut2 s = some p → p.1.length ≤ s.length ∧ p.2.length ≤ s.length
  | [], _, h => by cases h
  | [_], _, h => by cases h
  | a :: b :: r, p, h => by
    rw [cut2] at h
    split at h
    · injection h with h; subst h; simp; omega
    · cases e : cut2 (b :: r) with
      | none => rw [e] at h; cases h
      | some q =>
        rw [e] at h
        injection h with h
        subst h
        have := cut2_len e
        simp at this ⊢
        omega
theorem pcs_le (e : Bool) : ∀ {ps : List (List UInt8)} {l : List Nat}, pcs e ps = some l → l.length ≤ ps.length + 1
  | [], l, h => by injection h with h; subst h; simp
  | p :: r, l, h => by
    rw [pcs] at h
    split at h
    · have := quad_len h; simp; omega
    · split at h
      · cases h
      · split at h
        · cases h
        · rename_i x e2
          injection h with h
          subst h
          have := pcs_le e e2
          simp
          omega
theorem sideP_le {e : Bool} {ps : List (List UInt8)} {l : List Nat} (h : sideP e ps = some l) : l.length ≤ ps.length + 1 := by
  unfold sideP at h
  split at h
  · injection h with h; subst h; simp
  · exact pcs_le e h
theorem list8 {V : List Nat} (h : V.length = 8) : V = [V.getD 0 0, V.getD 1 0, V.getD 2 0, V.getD 3 0, V.getD 4 0, V.getD 5 0, V.getD 6 0, V.getD 7 0] := by
  match V, h with
  | [a, b, c, d, e, f, g, i], _ => rfl
theorem splice_all {l : List Nat} (h : l.length = 8) : splice zer 0 l = l := by
  unfold splice
  rw [h]
  simp [zer]
theorem splice_fill (a b : List Nat) (h : a.length + b.length < 8) : splice (splice zer 0 a) (8 - b.length) b = fill a b := by
  have h1 : splice zer 0 a = a ++ List.replicate (8 - a.length) 0 := by
    unfold splice
    rw [show zer = List.replicate 8 0 from rfl, List.take_zero, List.nil_append, List.drop_replicate, Nat.zero_add]
  rw [h1]
  unfold splice fill
  rw [List.take_append, List.take_of_length_le (show a.length ≤ 8 - b.length by omega), List.take_replicate, List.drop_eq_nil_of_le (by simp; omega), List.append_nil]
  rw [show min (8 - b.length - a.length) (8 - a.length) = 8 - (a.length + b.length) by omega]
set_option maxRecDepth 100000 in
set_option maxHeartbeats 4000000 in
theorem parse_any (s : ByteArray) (w : World) (hs : s.size ≤ 1048576) (hM : Max w) : Calls Tryz.prog 91 #[.string s] w fun e w' => e = .returned (SixV (six s.data.toList)) ∧ Below w.heap.size w w' := by
  have HMX := hid hM
  clear hM
  go_enter Tryz.func91, Tryz.ntmps91
  go_wp2_with fail
  generalize hw1 : ((w.alloc _).alloc _).alloc _ = w1
  have HB1 : Hid (Below w.heap.size w w1) := by
    show Below _ _ _
    rw [← hw1]
    exact (((Below.refl _ _).alloc (Nat.le_refl _) _).alloc (by simp) _).alloc (by simp; omega) _
  have HA : Hid (Box w1 w.heap.size 83 zer) := by
    show Box _ _ _ _
    rw [← hw1]
    unfold Box
    rw [heap_alloc_old _ _ (by simp; omega), heap_alloc_old _ _ (by simp)]
    exact heap_alloc_new _ _
  have HN : Hid (Box w1 (w.heap.size + 1) 83 zer) := by
    show Box _ _ _ _
    rw [← hw1]
    unfold Box
    rw [heap_alloc_old _ _ (by simp)]
    have := heap_alloc_new (w.alloc (.cells (ncells zer).toArray 83)) (.cells (ncells zer).toArray 83)
    rw [show (w.alloc (.cells (ncells zer).toArray 83)).heap.size = w.heap.size + 1 by simp] at this
    exact this
  have HV : Hid (Box w1 (w.heap.size + 1 + 1) 83 zer) := by
    show Box _ _ _ _
    rw [← hw1]
    unfold Box
    have := heap_alloc_new ((w.alloc (.cells (ncells zer).toArray 83)).alloc (.cells (ncells zer).toArray 83)) (.cells (ncells zer).toArray 83)
    rw [show ((w.alloc (.cells (ncells zer).toArray 83)).alloc (.cells (ncells zer).toArray 83)).heap.size = w.heap.size + 1 + 1 by simp] at this
    exact this
  clear hw1
  refine (cut_any s _ (by omega) (HMX.out.below HB1.out)).mono ?_
  rintro e wc ⟨rfl, m, rfl⟩
  have HB2 : Hid (Below w.heap.size w (w1.drewN m)) := Base.below_drewN HB1.out m
  have HA2 : Hid (Box (w1.drewN m) w.heap.size 83 zer) := HA
  have HN2 : Hid (Box (w1.drewN m) (w.heap.size + 1) 83 zer) := HN
  have HV2 : Hid (Box (w1.drewN m) (w.heap.size + 1 + 1) 83 zer) := HV
  generalize w1.drewN m = w2 at HB2 HA2 HN2 HV2
  clear HB1 HA HN HV
  cases hc : cut2 s.data.toList with
  | none =>
    have HC : Hid (six s.data.toList = eight (pcs true (splc s.data.toList)) []) := by show _ = _; unfold six; rw [hc]
    have HCV : Hid (cutV s = .tuple #[.string s, .string (strOf []), .bool false]) := by show _ = _; unfold cutV; rw [hc]
    rw [HCV.out]
    clear hc
    go_wp2_with fail
    refine (pieces_any s true _ hs (HMX.out.below HB2.out)).mono ?_
    rintro e w3 ⟨hp, hb3⟩
    have HB3 := hid (bel HB2.out hb3)
    have HA3 := hid (HA2.out.below hb3)
    have HN3 := hid (HN2.out.below hb3)
    have HV3 := hid (HV2.out.below hb3)
    have HG3 := hid HV2.out.lt
    obtain ⟨S, hS⟩ : ∃ S, S = pcs true (splc s.data.toList) := ⟨_, rfl⟩
    rw [← hS] at hp HC
    clear hS hb3
    cases S with
    | none =>
      obtain ⟨v, rfl⟩ := hp
      have HE := hid (sixv_none HC.out)
      obtain ⟨c0, c1, c2, c3, c4, c5, c6, c7⟩ := cells8 HN3.out (fun _ => 0) rfl
      obtain ⟨a0, a1, a2, a3, a4, a5, a6, a7⟩ := cells8 HA3.out (fun _ => 0) rfl
      obtain ⟨f0, f1, f2, f3, f4, f5, f6, f7⟩ := frozen8 HA3.out
      go_wp2
      exact bodyPost_ret (w := put8 _ w.heap.size (fun _ => 0)) (res_end (L := zer) (box_put HA3.out (fun _ => 0)) rfl false _ rfl rfl) rfl ⟨by rw [HE.out], below_put8 HB3.out (Nat.le_refl _) _⟩
    | some l =>
      obtain ⟨v, rfl, ho⟩ := hp
      obtain ⟨A, c, rfl, hlc, hcm, hr⟩ := owns_form ho
      have HR := hid hr
      clear ho hr
      by_cases h8 : l.length = 8
      · have HL8 := hid h8
        have h8i : ((l.length : Int) == 8) = true := by simp; omega
        have h8n : (l.length : Int) = 8 := by omega
        rw [h8] at HR
        obtain ⟨n8, hn8⟩ : ∃ n8, n8 = l.length := ⟨_, rfl⟩
        rw [← hn8] at h8i h8n h8 hlc ⊢
        subst h8
        clear hn8
        go_wp2_with (refine copy_box rfl _ _ 132 132 rfl 82 Tryz.underlying132 (by kernel_rfl) _ _ _ A _ _ (by rfl) (by rfl) (w.heap.size + 1 + 1) 0 zer 83 HV3.out l HR.out (Nat.le_refl _) (fun _ => rfl) (by rw [HL8.out]; exact Nat.le_refl _) ?_)
        intro w4 hv4 ho4 hb4
        have HV4 : Hid (Box w4 (w.heap.size + 1 + 1) 83 l) := by have := hv4.out; rw [splice_all HL8.out] at this; exact this
        have HA4 : Hid (Box w4 w.heap.size 83 zer) := (ho4 _ (by omega)).trans HA3.out
        have HB4 : Hid (Below w.heap.size w w4) := HB3.out.trans (hb4.mono (by omega))
        clear hv4 ho4 hb4
        have HE := hid (sixv_some (show six s.data.toList = some l by rw [HC.out]; unfold eight; simp only []; rw [if_pos (by rw [HL8.out]; rfl)]; rfl))
        obtain ⟨c0, c1, c2, c3, c4, c5, c6, c7⟩ := cells8 HV4.out (fun i => (l).getD i 0) (list8 HL8.out)
        obtain ⟨a0, a1, a2, a3, a4, a5, a6, a7⟩ := cells8 HA4.out (fun _ => 0) rfl
        obtain ⟨f0, f1, f2, f3, f4, f5, f6, f7⟩ := frozen8 HA4.out
        go_wp2
        exact bodyPost_ret (w := put8 _ w.heap.size (fun i => (l).getD i 0)) (res_end (box_put HA4.out (fun i => (l).getD i 0)) rfl true _ rfl rfl) rfl ⟨(congrArg (fun z => Ending.returned (.tuple #[.agg (ncells z).toArray, .bool true])) (list8 HL8.out).symm).trans (by rw [HE.out]), below_put8 HB4.out (Nat.le_refl _) _⟩
      · have h8i : ((l.length : Int) == 8) = false := by simp; omega
        have HL8 := hid h8
        have HE := hid (sixv_none (show six s.data.toList = none by rw [HC.out]; unfold eight; simp only []; rw [if_neg (by simpa using HL8.out)]))
        obtain ⟨c0, c1, c2, c3, c4, c5, c6, c7⟩ := cells8 HN3.out (fun _ => 0) rfl
        obtain ⟨a0, a1, a2, a3, a4, a5, a6, a7⟩ := cells8 HA3.out (fun _ => 0) rfl
        obtain ⟨f0, f1, f2, f3, f4, f5, f6, f7⟩ := frozen8 HA3.out
        go_wp2
        exact bodyPost_ret (w := put8 _ w.heap.size (fun _ => 0)) (res_end (L := zer) (box_put HA3.out (fun _ => 0)) rfl false _ rfl rfl) rfl ⟨by rw [HE.out], below_put8 HB3.out (Nat.le_refl _) _⟩
  | some p =>
    have HC : Hid (six s.data.toList = both (sideP false (splc p.1)) (sideP true (splc p.2)) []) := by show _ = _; unfold six; rw [hc]
    have HCV : Hid (cutV s = .tuple #[.string (strOf p.1), .string (strOf p.2), .bool true]) := by show _ = _; unfold cutV; rw [hc]
    have hlen := cut2_len hc
    have hsl : s.data.toList.length = s.size := Array.length_toList
    rw [HCV.out]
    clear hc
    obtain ⟨X, hXe⟩ : ∃ X, X = strOf p.1 := ⟨_, rfl⟩
    obtain ⟨Y, hYe⟩ : ∃ Y, Y = strOf p.2 := ⟨_, rfl⟩
    have hX : X.size ≤ 1048576 := by rw [hXe, size_strOf]; omega
    have hY : Y.size ≤ 1048576 := by rw [hYe, size_strOf]; omega
    obtain ⟨S1, hS1⟩ : ∃ S1, S1 = sideP false (splc p.1) := ⟨_, rfl⟩
    obtain ⟨S2, hS2⟩ : ∃ S2, S2 = sideP true (splc p.2) := ⟨_, rfl⟩
    have HS1 : Hid (S1 = sideP false (splc X.data.toList)) := by show _ = _; rw [hXe, hS1]; rfl
    have HS2 : Hid (S2 = sideP true (splc Y.data.toList)) := by show _ = _; rw [hYe, hS2]; rfl
    have HLS1 : Hid (∀ l, S1 = some l → l.length ≤ 1048578) := by
      intro l hl
      have h1 := sideP_le (hS1.symm.trans hl)
      have h2 := length_splc p.1
      omega
    have HLS2 : Hid (∀ l, S2 = some l → l.length ≤ 1048578) := by
      intro l hl
      have h1 := sideP_le (hS2.symm.trans hl)
      have h2 := length_splc p.2
      omega
    rw [← hXe, ← hYe]
    rw [← hS1, ← hS2] at HC
    clear hXe hYe hS1 hS2 hlen hsl HCV
    go_wp2_with fail
    refine (side_any X false _ hX (HMX.out.below HB2.out)).mono ?_
    rw [← HS1.out]
    rintro e w3 ⟨hp1, hb3⟩
    have HB3 := hid (bel HB2.out hb3)
    have HA3 := hid (HA2.out.below hb3)
    have HN3 := hid (HN2.out.below hb3)
    have HV3 := hid (HV2.out.below hb3)
    have hG2 := HV2.out.lt
    cases S1 with
    | none =>
      obtain ⟨v1, rfl⟩ := hp1
      clear hb3 hG2
      go_wp2_with fail
      refine (side_any Y true _ hY (HMX.out.below HB3.out)).mono ?_
      rw [← HS2.out]
      rintro e w4 ⟨hp2, hb4⟩
      have HB4 := hid (bel HB3.out hb4)
      have HA4 := hid (HA3.out.below hb4)
      have HN4 := hid (HN3.out.below hb4)
      have HV4 := hid (HV3.out.below hb4)
      clear hb4
      cases S2 with
      | none =>
        obtain ⟨v2, rfl⟩ := hp2
        have HE := hid (sixv_none (show six s.data.toList = none by rw [HC.out]; rfl))
        obtain ⟨c0, c1, c2, c3, c4, c5, c6, c7⟩ := cells8 HN4.out (fun _ => 0) rfl
        obtain ⟨a0, a1, a2, a3, a4, a5, a6, a7⟩ := cells8 HA4.out (fun _ => 0) rfl
        obtain ⟨f0, f1, f2, f3, f4, f5, f6, f7⟩ := frozen8 HA4.out
        go_wp2
        exact bodyPost_ret (w := put8 _ w.heap.size (fun _ => 0)) (res_end (L := zer) (box_put HA4.out (fun _ => 0)) rfl false _ rfl rfl) rfl ⟨by rw [HE.out], below_put8 HB4.out (Nat.le_refl _) _⟩
      | some b =>
        obtain ⟨v2, rfl, _⟩ := hp2
        have HE := hid (sixv_none (show six s.data.toList = none by rw [HC.out]; rfl))
        obtain ⟨c0, c1, c2, c3, c4, c5, c6, c7⟩ := cells8 HN4.out (fun _ => 0) rfl
        obtain ⟨a0, a1, a2, a3, a4, a5, a6, a7⟩ := cells8 HA4.out (fun _ => 0) rfl
        obtain ⟨f0, f1, f2, f3, f4, f5, f6, f7⟩ := frozen8 HA4.out
        go_wp2
        exact bodyPost_ret (w := put8 _ w.heap.size (fun _ => 0)) (res_end (L := zer) (box_put HA4.out (fun _ => 0)) rfl false _ rfl rfl) rfl ⟨by rw [HE.out], below_put8 HB4.out (Nat.le_refl _) _⟩
    | some a =>
      obtain ⟨v1, rfl, ho1⟩ := hp1
      have hG3 := HV3.out.lt
      go_wp2_with fail
      refine (side_any Y true _ hY (HMX.out.below HB3.out)).mono ?_
      rw [← HS2.out]
      rintro e w4 ⟨hp2, hb4⟩
      have HB4 := hid (bel HB3.out hb4)
      have HA4 := hid (HA3.out.below hb4)
      have HN4 := hid (HN3.out.below hb4)
      have HV4 := hid (HV3.out.below hb4)
      cases S2 with
      | none =>
        obtain ⟨v2, rfl⟩ := hp2
        clear hb4 hb3 ho1 hG2 hG3
        have HE := hid (sixv_none (show six s.data.toList = none by rw [HC.out]; rfl))
        obtain ⟨c0, c1, c2, c3, c4, c5, c6, c7⟩ := cells8 HN4.out (fun _ => 0) rfl
        obtain ⟨a0, a1, a2, a3, a4, a5, a6, a7⟩ := cells8 HA4.out (fun _ => 0) rfl
        obtain ⟨f0, f1, f2, f3, f4, f5, f6, f7⟩ := frozen8 HA4.out
        go_wp2
        exact bodyPost_ret (w := put8 _ w.heap.size (fun _ => 0)) (res_end (L := zer) (box_put HA4.out (fun _ => 0)) rfl false _ rfl rfl) rfl ⟨by rw [HE.out], below_put8 HB4.out (Nat.le_refl _) _⟩
      | some b =>
        obtain ⟨v2, rfl, ho2⟩ := hp2
        obtain ⟨A1, c1, rfl, hlc1, hcm1, hr1⟩ := owns_form (owns_below ho1 hb4)
        obtain ⟨A2, c2, rfl, hlc2, hcm2, hr2⟩ := owns_form ho2
        have HO2 := hid ho2
        have hla1 := HLS1.out a rfl
        have hlb1 := HLS2.out b rfl
        obtain ⟨la, hla⟩ : ∃ la, la = a.length := ⟨_, rfl⟩
        obtain ⟨lb, hlb⟩ : ∃ lb, lb = b.length := ⟨_, rfl⟩
        have HLA := hid hla
        have HLB := hid hlb
        rw [← hla] at hr1 hla1 hlc1 ⊢
        rw [← hlb] at hr2 hlb1 hlc2 ⊢
        have HR1 := hid hr1
        have HR2 := hid hr2
        have HGB : Hid (w.heap.size + 1 + 1 < w3.heap.size) := hG3
        clear hla hlb hr1 hr2 ho1 ho2 hb3 hb4 hG2 hG3
        by_cases hsum : la + lb < 8
        · have HSUM : Hid (a.length + b.length < 8) := by show _ < _; rw [← HLA.out, ← HLB.out]; exact hsum
          have HCS : Hid (six s.data.toList = some (fill a b)) := by
            show _ = _
            rw [HC.out]
            unfold both
            simp only [List.length_nil, Nat.zero_add]
            rw [if_pos HSUM.out]
            rfl
          have hsi : ¬ (8 : Int) ≤ (la : Int) + (lb : Int) := by omega
          have hla8 : la ≤ 8 := by omega
          have hlb8 : lb ≤ 8 := by omega
          clear hcm1 hcm2 hla1 hlb1
          by_cases hz : lb = 0
          · obtain rfl : lb = 0 := by omega
            go_wp2_with (refine copy_box rfl _ _ 132 132 rfl 82 Tryz.underlying132 (by kernel_rfl) _ _ _ A1 _ _ (by rfl) (by rfl) (w.heap.size + 1 + 1) 0 zer 83 HV4.out a HR1.out (by omega) (fun _ => rfl) (by rw [← HLA.out]; show 0 + la ≤ 8; omega) ?_)
            intro w5 hv5 ho5 hb5
            have HV5 : Hid (Box w5 (w.heap.size + 1 + 1) 83 (splice zer 0 a)) := hv5
            have HA5 : Hid (Box w5 w.heap.size 83 zer) := (ho5 _ (by omega)).trans HA4.out
            have HB5 : Hid (Below w.heap.size w w5) := HB4.out.trans (hb5.mono (by omega))
            have HR5 : Hid (Rds w5 A2 0 (ncells b)) := by
              obtain ⟨A', c', e1, _, _, h⟩ := owns_form (owns_other HO2.out ho5 HGB.out)
              injection e1 with e2 e3 e4
              subst e2
              subst e4
              rw [← HLB.out] at h
              exact h
            clear hv5 ho5 hb5
            have HFIT : Hid (8 - b.length + b.length ≤ (splice zer 0 a).length) := by
              show _ ≤ _
              have := HSUM.out
              rw [length_splice _ _ _ (by show 0 + a.length ≤ 8; omega)]
              show _ ≤ 8
              omega
            go_wp2_with (refine copy_box rfl _ _ 132 132 rfl 82 Tryz.underlying132 (by kernel_rfl) _ _ _ A2 _ _ (by rfl) (by rfl) (w.heap.size + 1 + 1) (8 - b.length) (splice zer 0 a) 83 HV5.out b HR5.out (by omega) (fun h0 => absurd h0 (by omega)) HFIT.out ?_)
            intro w6 hv6 ho6 hb6
            have HV6 : Hid (Box w6 (w.heap.size + 1 + 1) 83 (fill a b)) := by have := hv6.out; rw [splice_fill a b HSUM.out] at this; exact this
            have HA6 : Hid (Box w6 w.heap.size 83 zer) := (ho6 _ (by omega)).trans HA5.out
            have HB6 : Hid (Below w.heap.size w w6) := HB5.out.trans (hb6.mono (by omega))
            have HL8 : Hid ((fill a b).length = 8) := by show _ = _; have := HSUM.out; unfold fill; rw [List.length_append, List.length_append, List.length_replicate]; omega
            clear hv6 ho6 hb6
            obtain ⟨V, hV⟩ : ∃ V, V = fill a b := ⟨_, rfl⟩
            rw [← hV] at HV6 HL8 HCS
            clear hV
            have HE := hid (sixv_some HCS.out)
            obtain ⟨c0, c1, c2, c3, c4, c5, c6, c7⟩ := cells8 HV6.out (fun i => V.getD i 0) (list8 HL8.out)
            obtain ⟨a0, a1, a2, a3, a4, a5, a6, a7⟩ := cells8 HA6.out (fun _ => 0) rfl
            obtain ⟨f0, f1, f2, f3, f4, f5, f6, f7⟩ := frozen8 HA6.out
            go_wp2
            exact bodyPost_ret (w := put8 _ w.heap.size (fun i => V.getD i 0)) (res_end (box_put HA6.out (fun i => V.getD i 0)) rfl true _ rfl rfl) rfl ⟨(congrArg (fun z => Ending.returned (.tuple #[.agg (ncells z).toArray, .bool true])) (list8 HL8.out).symm).trans (by rw [HE.out]), below_put8 HB6.out (Nat.le_refl _) _⟩
          · have hj0 : (0 : Int) < (lb : Int) := by omega
            have hj1 : (8 : Int) - (lb : Int) = ((8 - lb : Nat) : Int) := by omega
            obtain ⟨j, hj⟩ : ∃ j, j = 8 - lb := ⟨_, rfl⟩
            rw [← hj] at hj1
            have hj2 : j < 8 := by omega
            have hj3 : lb + j = 8 := by omega
            have hj4 : (j : Int) < 8 := by omega
            have hj5 : (j : Int) ≤ 8 := by omega
            have hj6 : (0 : Int) ≤ (j : Int) := by omega
            have hj7 : ¬ 8 - j = 0 := by omega
            have hj8 : j ≤ 8 := by omega
            have HJ := hid hj
            clear hj
            go_wp2_with (refine copy_box rfl _ _ 132 132 rfl 82 Tryz.underlying132 (by kernel_rfl) _ _ _ A1 _ _ (by rfl) (by rfl) (w.heap.size + 1 + 1) 0 zer 83 HV4.out a HR1.out (by omega) (fun _ => rfl) (by rw [← HLA.out]; show 0 + la ≤ 8; omega) ?_)
            intro w5 hv5 ho5 hb5
            have HV5 : Hid (Box w5 (w.heap.size + 1 + 1) 83 (splice zer 0 a)) := hv5
            have HA5 : Hid (Box w5 w.heap.size 83 zer) := (ho5 _ (by omega)).trans HA4.out
            have HB5 : Hid (Below w.heap.size w w5) := HB4.out.trans (hb5.mono (by omega))
            have HR5 : Hid (Rds w5 A2 lb (ncells b)) := by
              obtain ⟨A', c', e1, _, _, h⟩ := owns_form (owns_other HO2.out ho5 HGB.out)
              injection e1 with e2 e3 e4
              subst e2
              subst e4
              rw [← HLB.out] at h
              exact h
            clear hv5 ho5 hb5
            have HFIT : Hid (8 - b.length + b.length ≤ (splice zer 0 a).length) := by
              show _ ≤ _
              have := HSUM.out
              rw [length_splice _ _ _ (by show 0 + a.length ≤ 8; omega)]
              show _ ≤ 8
              omega
            have HOFF : Hid (8 - b.length = j) := by show _ = _; rw [← HLB.out, ← HJ.out]
            go_wp2_with (refine copy_box rfl _ _ 132 132 rfl 82 Tryz.underlying132 (by kernel_rfl) _ _ _ A2 _ _ (by rfl) (by rfl) (w.heap.size + 1 + 1) (8 - b.length) (splice zer 0 a) 83 HV5.out b HR5.out (by omega) (fun h0 => by rw [HOFF.out]) HFIT.out ?_)
            intro w6 hv6 ho6 hb6
            have HV6 : Hid (Box w6 (w.heap.size + 1 + 1) 83 (fill a b)) := by have := hv6.out; rw [splice_fill a b HSUM.out] at this; exact this
            have HA6 : Hid (Box w6 w.heap.size 83 zer) := (ho6 _ (by omega)).trans HA5.out
            have HB6 : Hid (Below w.heap.size w w6) := HB5.out.trans (hb6.mono (by omega))
            have HL8 : Hid ((fill a b).length = 8) := by show _ = _; have := HSUM.out; unfold fill; rw [List.length_append, List.length_append, List.length_replicate]; omega
            clear hv6 ho6 hb6
            obtain ⟨V, hV⟩ : ∃ V, V = fill a b := ⟨_, rfl⟩
            rw [← hV] at HV6 HL8 HCS
            clear hV
            have HE := hid (sixv_some HCS.out)
            obtain ⟨c0, c1, c2, c3, c4, c5, c6, c7⟩ := cells8 HV6.out (fun i => V.getD i 0) (list8 HL8.out)
            obtain ⟨a0, a1, a2, a3, a4, a5, a6, a7⟩ := cells8 HA6.out (fun _ => 0) rfl
            obtain ⟨f0, f1, f2, f3, f4, f5, f6, f7⟩ := frozen8 HA6.out
            go_wp2
            exact bodyPost_ret (w := put8 _ w.heap.size (fun i => V.getD i 0)) (res_end (box_put HA6.out (fun i => V.getD i 0)) rfl true _ rfl rfl) rfl ⟨(congrArg (fun z => Ending.returned (.tuple #[.agg (ncells z).toArray, .bool true])) (list8 HL8.out).symm).trans (by rw [HE.out]), below_put8 HB6.out (Nat.le_refl _) _⟩
        · have hsi : (8 : Int) ≤ (la : Int) + (lb : Int) := by omega
          have HNS : Hid (¬ ([] : List Nat).length + a.length + b.length < 8) := by show ¬ _; rw [← HLA.out, ← HLB.out]; simp; omega
          have HE := hid (sixv_none (show six s.data.toList = none by rw [HC.out]; unfold both; simp only []; exact if_neg HNS.out))
          obtain ⟨c0, c1, c2, c3, c4, c5, c6, c7⟩ := cells8 HN4.out (fun _ => 0) rfl
          obtain ⟨a0, a1, a2, a3, a4, a5, a6, a7⟩ := cells8 HA4.out (fun _ => 0) rfl
          obtain ⟨f0, f1, f2, f3, f4, f5, f6, f7⟩ := frozen8 HA4.out
          go_wp2
          exact bodyPost_ret (w := put8 _ w.heap.size (fun _ => 0)) (res_end (L := zer) (box_put HA4.out (fun _ => 0)) rfl false _ rfl rfl) rfl ⟨by rw [HE.out], below_put8 HB4.out (Nat.le_refl _) _⟩
end Go.Proofs.YtleecmapaihhmaaGreatDoor.SixC
namespace Go.Proofs.YtleecmapaihhmaaGreatDoor.SixG
open Go.RowKit Go.Proofs.YtleecmapaihhmaaGreatDoor.Base Go.Proofs.YtleecmapaihhmaaGreatDoor.Base2

/-- The library's table, as far as it is read here. -/
def Lad (w : World) : Prop := w.cell? ⟨5, 15, none⟩ = some (.int .u8 4)
theorem Lad.below {w w' : World} (h : Lad w) (hb : Below w.heap.size w w') : Lad w' := (hb.cell (World.block_lt_of_cell? _ _ h)).trans h
theorem Lad.drew {w : World} (h : Lad w) (n : Nat) : Lad (w.drewN n) := h
def debr : List Int := [0, 1, 56, 2, 57, 49, 28, 3, 61, 58, 42, 50, 38, 29, 17, 4, 62, 47, 59, 36, 45, 43, 51, 22, 53, 39, 33, 30, 24, 18, 12, 5, 63, 55, 48, 27, 60, 41, 37, 16, 46, 35, 44, 21, 52, 32, 23, 11, 54, 26, 40, 15, 34, 20, 31, 10, 25, 14, 19, 9, 13, 8, 7, 6]
theorem deb_global : Tryz.prog.globalNamed "math/bits.deBruijn64tab" = some 5 := by kernel_rfl
theorem lad_of {W : World} {l : List (String × DataW Unit)} (h : laidMet Tryz.prog l W) (hm : ("math/bits.deBruijn64tab", Lib.tabData .u8 debr) ∈ l) : Lad W := by
  obtain ⟨g', t', cs, fuel, p, hg', ht', hvar, hd⟩ := Lib.laidMet.reads h hm
  obtain rfl := Option.some.inj (deb_global.symm.trans hg')
  obtain rfl := Option.some.inj ((show (Tryz.prog.globals[5]?).map (·.type) = some 157 by kernel_rfl).symm.trans ht')
  have hc := Lib.cells_of_tab (k := .u8) (zs := debr) Tryz.underlying157 Tryz.underlying5 (by kernel_rfl) (by kernel_rfl) hd
  unfold World.var? at hvar
  rw [deb_global] at hvar
  simp only [Option.bind_some] at hvar
  unfold Lad World.cell?
  split at hvar
  · rename_i x y z hh
    injection hvar with hvar
    rw [hh]
    simp only []
    have e : x.toList = debr.map fun z => Value.int .u8 z := by rw [hvar]; exact hc
    rw [← Array.getElem?_toList, e]
    rfl
  · cases hvar
/-- A digit. -/
def hexd (n : Nat) : UInt8 := if n < 10 then UInt8.ofNat (48 + n) else UInt8.ofNat (87 + n)
def hxs : Nat → Nat → List UInt8 → List UInt8
  | 0, u, acc => hexd u :: acc
  | f + 1, u, acc => if 16 ≤ u then hxs f (u / 16) (hexd (u % 16) :: acc) else hexd u :: acc
/-- A piece's digits. -/
def hx (n : Nat) : List UInt8 := hxs 3 n []
theorem hxs_acc : ∀ (f u : Nat) (acc : List UInt8), hxs f u acc = hxs f u [] ++ acc
  | 0, _, _ => rfl
  | f + 1, u, acc => by
    unfold hxs
    split
    · rw [hxs_acc f _ (_ :: acc), hxs_acc f _ [_], List.append_assoc]
      rfl
    · rfl
theorem hxs_more : ∀ (f u : Nat) (acc : List UInt8), u < 16 ^ (f + 1) → hxs (f + 1) u acc = hxs f u acc
  | 0, u, acc, h => by
    unfold hxs
    rw [if_neg (by simp at h; omega)]
  | f + 1, u, acc, h => by
    show (if 16 ≤ u then hxs (f + 1) (u / 16) (hexd (u % 16) :: acc) else hexd u :: acc) = (if 16 ≤ u then hxs f (u / 16) (hexd (u % 16) :: acc) else hexd u :: acc)
    by_cases hu : 16 ≤ u
    · rw [if_pos hu, if_pos hu]
      exact hxs_more f (u / 16) _ (by rw [Nat.pow_succ] at h; omega)
    · rw [if_neg hu, if_neg hu]
theorem hx_small {n : Nat} (h : n < 16) : hx n = [hexd n] := by
  unfold hx hxs
  rw [if_neg (by omega)]
theorem hx_big {n : Nat} (h : 16 ≤ n) (h6 : n < 65536) : hx n = hx (n / 16) ++ [hexd (n % 16)] := by
  unfold hx
  rw [hxs_more 2 (n / 16) [] (by show n / 16 < 4096; omega)]
  conv => lhs; unfold hxs
  rw [if_pos h, hxs_acc]
theorem digs36_at (k : Nat) (hk : k < 16) (h : k < (⟨#[48, 49, 50, 51, 52, 53, 54, 55, 56, 57, 97, 98, 99, 100, 101, 102, 103, 104, 105, 106, 107, 108, 109, 110, 111, 112, 113, 114, 115, 116, 117, 118, 119, 120, 121, 122]⟩ : ByteArray).size) : (⟨#[48, 49, 50, 51, 52, 53, 54, 55, 56, 57, 97, 98, 99, 100, 101, 102, 103, 104, 105, 106, 107, 108, 109, 110, 111, 112, 113, 114, 115, 116, 117, 118, 119, 120, 121, 122]⟩ : ByteArray)[k]'h = hexd k := by
  have hcase : k = 0 ∨ k = 1 ∨ k = 2 ∨ k = 3 ∨ k = 4 ∨ k = 5 ∨ k = 6 ∨ k = 7 ∨ k = 8 ∨ k = 9 ∨ k = 10 ∨ k = 11 ∨ k = 12 ∨ k = 13 ∨ k = 14 ∨ k = 15 := by omega
  rcases hcase with rfl | rfl | rfl | rfl | rfl | rfl | rfl | rfl | rfl | rfl | rfl | rfl | rfl | rfl | rfl | rfl <;> rfl
theorem and15 (u : Nat) (h : u < 65536) : bits .and .u64 (u : Int) 15 = (u : Int) % 16 := by
  have := bits_and_u64_nat u 15 (by omega) (by omega)
  rw [show ((15 : Nat) : Int) = 15 from rfl] at this
  rw [this, show (15 : Nat) = 2 ^ 4 - 1 from rfl, Nat.and_two_pow_sub_one_eq_mod]
  omega
/-- A box of bytes. -/
def BoxB (w : World) (g : Nat) (t : TypeId) (L : List UInt8) : Prop := w.heap[g]? = some (.cells (bcells L).toArray t (0, 0))
theorem BoxB.cell {w : World} {g : Nat} {t : TypeId} {L : List UInt8} (h : BoxB w g t L) (j : Nat) (hj : j < L.length) : w.cell? ⟨g, j, none⟩ = some (.int .u8 (L[j].toNat : Int)) := by
  refine (cell_of_row w g j _ _ _ h).trans ?_
  simp [bcells, hj]
theorem BoxB.frozen {w : World} {g : Nat} {t : TypeId} {L : List UInt8} (h : BoxB w g t L) (j : Nat) : w.frozen? ⟨g, j, none⟩ = false := by
  unfold World.frozen?
  rw [h]
  simp
theorem BoxB.set {w : World} {g : Nat} {t : TypeId} {L : List UInt8} (h : BoxB w g t L) (j : Nat) (c : UInt8) : BoxB (w.setCell ⟨g, j, none⟩ (.int .u8 (c.toNat : Int))) g t (L.set j c) := by
  have := heap_setCell_same w g j _ _ (.int .u8 (c.toNat : Int)) h
  unfold BoxB
  rw [this]
  simp [bcells, List.map_set]
theorem BoxB.rds {w : World} {g : Nat} {t : TypeId} {L : List UInt8} (h : BoxB w g t L) (i : Nat) (hi : i ≤ L.length) : Rds w (some ⟨g, i, none⟩) (L.length - i) (bcells (L.drop i)) :=
  Rds.of_spot (by rw [length_bcells, List.length_drop]) (Array.getElem?_eq_some_iff.1 h).1 (fun j hj => by
    rw [length_bcells, List.length_drop] at hj
    rw [h.cell (i + j) (by omega)]
    simp [bcells])
theorem tz64_any (w : World) (hL : Lad w) : Calls Tryz.prog 144 #[.int .u64 16] w fun e w' => e = .returned (.int .i64 4) ∧ w = w' := by
  have h1 : IntKind.u64.wrap (-16) = 18446744073709551600 := by kernel_rfl
  have h2 : bits .and .u64 16 18446744073709551600 = 16 := by kernel_rfl
  unfold Lad at hL
  go_enter Tryz.func144, Tryz.ntmps144
  go_wp2
  go_ret
  exact ⟨rfl, rfl⟩
theorem tz_any (w : World) (hL : Lad w) : Calls Tryz.prog 133 #[.int .u64 16] w fun e w' => e = .returned (.int .i64 4) ∧ w = w' := by
  go_enter Tryz.func133, Tryz.ntmps133
  go_wp2_with fail
  refine (tz64_any _ hL).mono ?_
  rintro e w2 ⟨rfl, hw2⟩
  subst hw2
  go_wp2
  go_ret
  exact ⟨rfl, rfl⟩
theorem pow2_any (w : World) : Calls Tryz.prog 132 #[.int .i64 16] w fun e w' => e = .returned (.bool true) ∧ w = w' := by
  have h1 : bits .and .i64 16 15 = 0 := by kernel_rfl
  go_enter Tryz.func132, Tryz.ntmps132
  go_wp2
  go_ret
  exact ⟨rfl, rfl⟩
set_option maxRecDepth 100000 in
set_option maxHeartbeats 2000000 in
theorem bits_any (n : Nat) (hn : n < 65536) (w : World) (hL : Lad w) : Calls Tryz.prog 111 #[.slice none 0 0, .int .u64 (n : Int), .int .i64 16, .bool false, .bool false] w fun e w' => e = .returned (.tuple #[.slice none 0 0, .string (strOf (hx n))]) ∧ Below w.heap.size w w' := by
  obtain ⟨H, hH⟩ : ∃ H, H = hx n := ⟨_, rfl⟩
  rw [← hH]
  have HH := hid hH
  have HLAD := hid hL
  clear hH hL
  go_enter Tryz.func111, Tryz.ntmps111
  go_upto_region 4 with (fail)
  generalize hw1 : w.alloc _ = w1
  have HB1 : Hid (Below w.heap.size w w1) := by
    show Below _ _ _
    rw [← hw1]
    exact (Below.refl _ _).alloc (Nat.le_refl _) _
  have HX1 : Hid (BoxB w1 w.heap.size 143 (List.replicate 65 0)) := by
    show BoxB _ _ _ _
    rw [← hw1]
    exact heap_alloc_new _ _
  clear hw1
  go_wp2_with fail
  refine (pow2_any _).mono ?_
  rintro e w2 ⟨rfl, hw2⟩
  subst hw2
  go_wp2_with fail
  refine (tz_any _ (HLAD.out.below HB1.out)).mono ?_
  rintro e w2 ⟨rfl, hw2⟩
  subst hw2
  go_wp2_with fail
  go_loopw [1, 13] (fun vu vi wr => ∃ (f u i : Nat) (L : List UInt8), f ≤ 3 ∧ u < 16 ^ (f + 1) ∧ u < 65536 ∧ i = 62 + f ∧ vu = .int .u64 (u : Int) ∧ vi = .int .i64 (i : Int) ∧ Hid (L.length = 65) ∧ Hid (BoxB wr w.heap.size 143 L) ∧ Hid (H = hxs f u (L.drop i)) ∧ Hid (Below w.heap.size w wr)) (fun vu _ _ => (intOf vu).toNat)
  case atStart => exact ⟨3, n, 65, List.replicate 65 0, by omega, hn, hn, rfl, rfl, rfl, rfl, HX1.out, HH.out, HB1.out⟩
  case round =>
    obtain ⟨f, u, i, L, hf, hu, hu6, hi, rfl, rfl, HLL, HX, HW, HB⟩ := hrel
    obtain ⟨j, hj⟩ : ∃ j, i = j + 1 := ⟨i - 1, by omega⟩
    have hij : (i : Int) - 1 = (j : Int) := by omega
    have hj64 : j ≤ 64 := by omega
    have hi65 : i ≤ 65 := by omega
    have hi1 : (1 : Int) ≤ (i : Int) := by omega
    have hj65 : (j : Int) < 65 := by omega
    obtain ⟨x0, hc0⟩ : ∃ x0, wr.cell? ⟨w.heap.size, j, none⟩ = some x0 := ⟨_, HX.out.cell j (by rw [HLL.out]; omega)⟩
    have hf0 := HX.out.frozen j
    have HJ := hid hj
    by_cases h16 : 16 ≤ u
    · have h16i : (16 : Int) ≤ (u : Int) := by omega
      obtain ⟨f', rfl⟩ : ∃ f', f = f' + 1 := by
        cases f with
        | zero => simp at hu; omega
        | succ f' => exact ⟨f', rfl⟩
      have HIF := hid hi
      have ha := and15 u hu6
      have q0 : (0 : Int) ≤ (u : Int) % 16 := by omega
      have q1 : (u : Int) % 16 < 16 := by omega
      have q2 : (u : Int) % 16 < 36 := by omega
      have q3 : ∀ h, (⟨#[48, 49, 50, 51, 52, 53, 54, 55, 56, 57, 97, 98, 99, 100, 101, 102, 103, 104, 105, 106, 107, 108, 109, 110, 111, 112, 113, 114, 115, 116, 117, 118, 119, 120, 121, 122]⟩ : ByteArray)[((u : Int) % 16).toNat]'h = hexd (u % 16) := fun h => by
        have e : ((u : Int) % 16).toNat = u % 16 := by omega
        simp only [e]
        exact digs36_at _ (by omega) _
      obtain ⟨v, hv⟩ : ∃ v, v = u / 16 := ⟨_, rfl⟩
      have hvi : (u : Int) / 16 = (v : Int) := by omega
      have HX2 := hid (HX.out.set j (hexd (u % 16)))
      have HB2 : Hid (Below w.heap.size w (wr.setCell ⟨w.heap.size, j, none⟩ (.int .u8 ((hexd (u % 16)).toNat : Int)))) := HB.out.setCell (Nat.le_refl _) _
      have HW2 : Hid (H = hxs f' v ((L.set j (hexd (u % 16))).drop j)) := by
        show _ = _
        have hd : (L.set j (hexd (u % 16))).drop j = hexd (u % 16) :: L.drop i := by
          rw [List.drop_eq_getElem_cons (by rw [List.length_set, HLL.out]; omega), List.getElem_set_self, List.drop_set_of_lt (by omega), ← HJ.out]
        rw [hd, HW.out, hv]
        conv => lhs; unfold hxs
        rw [if_pos h16]
      have HV : Hid (v < 16 ^ (f' + 1) ∧ v < 65536 ∧ v < u) := ⟨by rw [hv]; rw [Nat.pow_succ] at hu; omega, by omega, by omega⟩
      have HV2 := hid hv
      clear hu hv hj hi h16
      go_wp2
      go_roundw
      case rel => exact ⟨f', v, j, _, by omega, HV.out.1, HV.out.2.1, by have := HIF.out; have := HJ.out; omega, by go_num, by go_num, by rw [List.length_set]; exact HLL.out, HX2.out, HW2.out, HB2.out⟩
      case measure => (have := HV.out.2.2; simp [intOf]; omega)
    · have h16i : ¬ (16 : Int) ≤ (u : Int) := by omega
      have q0 : (u : Int) < 36 := by omega
      have q3 : ∀ h, (⟨#[48, 49, 50, 51, 52, 53, 54, 55, 56, 57, 97, 98, 99, 100, 101, 102, 103, 104, 105, 106, 107, 108, 109, 110, 111, 112, 113, 114, 115, 116, 117, 118, 119, 120, 121, 122]⟩ : ByteArray)[u]'h = hexd u := fun h => digs36_at _ (by omega) _
      have HX2 := hid (HX.out.set j (hexd u))
      have HB2 : Hid (Below w.heap.size w (wr.setCell ⟨w.heap.size, j, none⟩ (.int .u8 ((hexd u).toNat : Int)))) := HB.out.setCell (Nat.le_refl _) _
      have hd : (L.set j (hexd u)).drop j = H := by
        rw [List.drop_eq_getElem_cons (by rw [List.length_set, HLL.out]; omega), List.getElem_set_self, List.drop_set_of_lt (by omega), ← HJ.out, HW.out]
        cases f with
        | zero => rfl
        | succ f' => unfold hxs; rw [if_neg h16]
      have hrd := HX2.out.rds j (by rw [List.length_set, HLL.out]; omega)
      rw [List.length_set, HLL.out, hd] at hrd
      have hs := run_string_of (P := Tryz.prog) 44 9 5 Tryz.underlying44 Tryz.underlying5 Tryz.underlying9 H (65 - j) hrd
      have hz : ¬ 65 - j = 0 := by omega
      have hj65b : (j : Int) ≤ 65 := by omega
      clear hd hrd hu hi hj h16
      go_wp2
      go_ret2
      exact ⟨rfl, HB2.out⟩
theorem format0_any (n : Nat) (hn : n < 65536) (w : World) (hL : Lad w) : Calls Tryz.prog 146 #[.int .u64 (n : Int), .int .i64 16] w fun e w' => e = .returned (.string (strOf (hx n))) ∧ Below w.heap.size w w' := by
  go_enter Tryz.func146, Tryz.ntmps146
  go_wp2_with fail
  refine (bits_any n hn _ hL).mono ?_
  rintro e w2 ⟨rfl, hb⟩
  go_wp2
  go_ret
  exact ⟨rfl, hb⟩
theorem format_any (n : Nat) (hn : n < 65536) (w : World) (hL : Lad w) : Calls Tryz.prog 140 #[.int .u64 (n : Int), .int .i64 16] w fun e w' => e = .returned (.string (strOf (hx n))) ∧ Below w.heap.size w w' := by
  go_enter Tryz.func140, Tryz.ntmps140
  go_wp2_with fail
  refine (format0_any n hn _ hL).mono ?_
  rintro e w2 ⟨rfl, hb⟩
  go_wp2
  go_ret
  exact ⟨rfl, hb⟩
end Go.Proofs.YtleecmapaihhmaaGreatDoor.SixG
namespace Go.Proofs.YtleecmapaihhmaaGreatDoor.SixH
open Go.RowKit Go.Proofs.YtleecmapaihhmaaGreatDoor.Base Go.Proofs.YtleecmapaihhmaaGreatDoor.Base2 Go.Proofs.YtleecmapaihhmaaGreatDoor.QudP Go.Proofs.YtleecmapaihhmaaGreatDoor.SixP Go.Proofs.YtleecmapaihhmaaGreatDoor.SixQ Go.Proofs.YtleecmapaihhmaaGreatDoor.SixA Go.Proofs.YtleecmapaihhmaaGreatDoor.SixB Go.Proofs.YtleecmapaihhmaaGreatDoor.SixC Go.Proofs.YtleecmapaihhmaaGreatDoor.SixG

theorem hxs_len : ∀ (f u : Nat) (acc : List UInt8), (hxs f u acc).length ≤ f + 1 + acc.length
  | 0, u, acc => by simp [hxs]; omega
  | f + 1, u, acc => by
    unfold hxs
    split
    · have := hxs_len f (u / 16) (hexd (u % 16) :: acc)
      simp at this ⊢
      omega
    · simp; omega
theorem hx_len (n : Nat) : (hx n).length ≤ 4 := hxs_len 3 n []
theorem hxs_last : ∀ (f u : Nat) (acc : List UInt8), ∃ pre, hxs f u acc = pre ++ hexd (u % 16) :: acc ∨ (u < 16 ∨ f = 0) ∧ hxs f u acc = hexd u :: acc
  | 0, u, acc => ⟨[], .inr ⟨.inr rfl, rfl⟩⟩
  | f + 1, u, acc => by
    unfold hxs
    split
    · rw [hxs_acc]
      exact ⟨_, .inl rfl⟩
    · exact ⟨[], .inr ⟨.inl (by omega), rfl⟩⟩
/-- The last digit of a piece. -/
theorem hx_last (n : Nat) (h : n < 65536) : ∃ pre, hx n = pre ++ [hexd (n % 16)] := by
  by_cases h16 : 16 ≤ n
  · exact ⟨_, hx_big h16 h⟩
  · refine ⟨[], ?_⟩
    rw [hx_small (by omega), show n % 16 = n by omega]
    rfl
theorem hexd_ok (d : Nat) (h : d < 16) : isD 16 (hexd d) = true ∧ dv (hexd d) = d ∧ hexd d ≠ 58 ∧ hexd d ≠ 46 := by
  have H : ∀ d : Fin 16, isD 16 (hexd d.val) = true ∧ dv (hexd d.val) = d.val ∧ hexd d.val ≠ 58 ∧ hexd d.val ≠ 46 := by decide +kernel
  exact H ⟨d, h⟩
/-- Texts with colons between. -/
def joinC : List (List UInt8) → List UInt8
  | [] => []
  | [x] => x
  | x :: y :: r => x ++ 58 :: joinC (y :: r)
theorem joinC_snoc : ∀ (xs : List (List UInt8)) (y : List UInt8), xs ≠ [] → joinC (xs ++ [y]) = joinC xs ++ 58 :: y
  | [], _, h => absurd rfl h
  | [x], y, _ => rfl
  | x :: z :: r, y, _ => by
    show x ++ 58 :: joinC ((z :: r) ++ [y]) = x ++ 58 :: joinC (z :: r) ++ 58 :: y
    rw [joinC_snoc (z :: r) y (by simp)]
    simp
def jx (L : List Nat) : List UInt8 := joinC (L.map hx)
theorem jx_nil : jx [] = [] := rfl
theorem jx_one (n : Nat) : jx [n] = hx n := rfl
theorem jx_snoc (L : List Nat) (n : Nat) (h : L ≠ []) : jx (L ++ [n]) = jx L ++ 58 :: hx n := by
  unfold jx
  rw [List.map_append]
  exact joinC_snoc _ _ (by simpa using h)
theorem jx_len (L : List Nat) : (jx L).length ≤ 5 * L.length := by
  have H : ∀ M : List Nat, (jx M.reverse).length ≤ 5 * M.length := by
    intro M
    induction M with
    | nil => simp [jx, joinC]
    | cons n M ih =>
      rw [List.reverse_cons]
      have := hx_len n
      by_cases h : M.reverse = []
      · rw [h, List.nil_append, jx_one, List.length_cons]
        omega
      · rw [jx_snoc _ _ h, List.length_append, List.length_cons, List.length_cons]
        omega
  have := H L.reverse
  rwa [List.reverse_reverse, List.length_reverse] at this
theorem take_snocN (L : List Nat) (k : Nat) (h : k < L.length) : L.take (k + 1) = L.take k ++ [L[k]] := List.take_succ_eq_append_getElem h
set_option maxRecDepth 100000 in
set_option maxHeartbeats 2000000 in
theorem join_any (A : Option Addr) (n c : Nat) (L : List Nat) (w : World) (hr : Rds w A n (ncells L)) (h8 : n ≤ 8) (h6 : ∀ x ∈ L, x < 65536) (hL : Lad w) :
    Calls Tryz.prog 122 #[.slice A n c] w fun e w' => e = .returned (.string (strOf (jx L))) ∧ Below w.heap.size w w' := by
  have hl : L.length = n := by rw [← length_ncells]; exact hr.1
  have HM := hid hl
  have HR := hid hr
  have HLAD := hid hL
  have H6 := hid h6
  clear hr hL h6 hl
  go_enter Tryz.func122, Tryz.ntmps122
  go_wp2
  go_loopw [3, 4, 5, 8] (fun vo _ _ vk wr => ∃ (k : Nat) (X : ByteArray), k ≤ n ∧ vk = .int .i64 (k : Int) ∧ vo = .string X ∧ Hid (X = strOf (jx (L.take k))) ∧ Hid (Below w.heap.size w wr)) (fun _ _ _ vk _ => n - (intOf vk).toNat)
  case atStart => exact ⟨0, ⟨#[]⟩, by omega, rfl, rfl, rfl, Below.refl _ _⟩
  case round =>
    obtain ⟨k, X, hk, rfl, rfl, HX, HB⟩ := hrel
    by_cases hlt : k < n
    · obtain ⟨b, off, rfl, _, _⟩ := HR.out.spot (by omega)
      obtain ⟨x, hx⟩ : ∃ x, L[k]'(by rw [HM.out]; exact hlt) = x := ⟨_, rfl⟩
      have hcl : wr.cell? ⟨b, off + k, none⟩ = some (.int .u16 (x : Int)) := by
        obtain ⟨b', o', e1, _, hc'⟩ := (HR.out.below HB.out).2 k (by rw [length_ncells, HM.out]; exact hlt)
        cases e1
        rw [hc']
        simp [ncells, hx]
      have hx6 : x < 65536 := by rw [← hx]; exact H6.out _ (List.getElem_mem _)
      have HT : Hid (L.take (k + 1) = L.take k ++ [x]) := by show _ = _; rw [take_snocN L k (by rw [HM.out]; exact hlt), hx]
      have hwx : IntKind.u64.wrap (x : Int) = (x : Int) := by simp [IntKind.wrap, IntKind.signed, IntKind.bits]; omega
      have HX6 := hid hx6
      clear hx6
      have HXL : Hid (X.size ≤ 40) := by
        show _ ≤ _
        rw [HX.out, size_strOf]
        have := jx_len (L.take k)
        rw [List.length_take] at this
        omega
      have hhl := hx_len x
      clear hx
      obtain ⟨Z, hZ⟩ : ∃ Z, Z = strOf (jx (L.take (k + 1))) := ⟨_, rfl⟩
      have HZ := hid hZ
      by_cases hk0 : k = 0
      · have HK0 := hid hk0
        have hk1 : ¬ (0 : Int) < (k : Int) := by omega
        clear hk0
        have a2 : ∀ w : World, (Op.stringOp .add X (strOf (hx x))).run Tryz.prog w = .ok (.string Z) w := fun w => by
          rw [hZ, HT.out, HX.out, HK0.out, List.take_zero, List.nil_append, jx_one, jx_nil]
          exact str_add [] (hx x) w (by simp; omega)
        clear hZ hhl
        go_wp2_with fail
        refine (format_any x HX6.out _ (HLAD.out.below HB.out)).mono ?_
        rintro e w2 ⟨rfl, hb2⟩
        have HB2 : Hid (Below w.heap.size w w2) := bel HB.out hb2
        clear hb2
        go_wp2
        go_roundw
        case rel => exact ⟨k + 1, Z, by omega, by go_num, rfl, HZ.out, HB2.out⟩
        case measure => simp [intOf]; omega
      · have hk1 : (0 : Int) < (k : Int) := by omega
        obtain ⟨Y, hY⟩ : ∃ Y, Y = strOf (jx (L.take k) ++ [58]) := ⟨_, rfl⟩
        have a1 : ∀ w : World, (Op.stringOp .add X ⟨#[58]⟩).run Tryz.prog w = .ok (.string Y) w := fun w => by
          rw [hY, HX.out]
          refine str_add _ [58] w ?_
          have := HXL.out
          rw [HX.out, size_strOf] at this
          simp
          omega
        have a2 : ∀ w : World, (Op.stringOp .add Y (strOf (hx x))).run Tryz.prog w = .ok (.string Z) w := fun w => by
          have hne : L.take k ≠ [] := by
            intro h
            have := congrArg List.length h
            rw [List.length_take, HM.out] at this
            simp at this
            omega
          rw [hZ, HT.out, jx_snoc _ _ hne, hY, show jx (L.take k) ++ 58 :: hx x = (jx (L.take k) ++ [58]) ++ hx x by simp]
          refine str_add _ _ w ?_
          have := HXL.out
          rw [HX.out, size_strOf] at this
          rw [List.length_append]
          simp
          omega
        clear hZ hY hhl hk0
        go_wp2_with fail
        refine (format_any x HX6.out _ (HLAD.out.below HB.out)).mono ?_
        rintro e w2 ⟨rfl, hb2⟩
        have HB2 : Hid (Below w.heap.size w w2) := bel HB.out hb2
        clear hb2
        go_wp2
        go_roundw
        case rel => exact ⟨k + 1, Z, by omega, by go_num, rfl, HZ.out, HB2.out⟩
        case measure => simp [intOf]; omega
    · obtain rfl : k = n := by omega
      have HE : Hid (X = strOf (jx L)) := by show _ = _; rw [HX.out, List.take_of_length_le (by rw [HM.out]; exact Nat.le_refl _)]
      go_wp2
      go_ret
      exact ⟨by rw [HE.out]; rfl, HB.out⟩
/-- How many noughts stand at a place. -/
def run (Z : List Bool) (k : Nat) : Nat := ((Z.drop k).takeWhile id).length
theorem run_zero {Z : List Bool} {k : Nat} (h : k < Z.length) (hz : Z[k] = true) : run Z k = 1 + run Z (k + 1) := by
  unfold run
  rw [List.drop_eq_getElem_cons h, List.takeWhile_cons, hz]
  simp
  omega
theorem run_nz {Z : List Bool} {k : Nat} (h : k < Z.length) (hz : Z[k] = false) : run Z k = 0 := by
  unfold run
  rw [List.drop_eq_getElem_cons h, List.takeWhile_cons, hz]
  rfl
theorem run_end {Z : List Bool} {k : Nat} (h : Z.length ≤ k) : run Z k = 0 := by
  unfold run
  rw [List.drop_eq_nil_of_le h]
  rfl
/-- The first longest run, as the code finds it. -/
def goC (Z : List Bool) : Nat → Nat → Nat → Nat → Nat × Nat
  | 0, _, f, t => (f, t)
  | fu + 1, k, f, t => if k < Z.length then (if t - f < run Z k then goC Z fu (k + run Z k + 1) k (k + run Z k) else goC Z fu (k + run Z k + 1) f t) else (f, t)
def lng (Z : List Bool) : Nat × Nat := goC Z 9 0 0 0
/-- As the document finds it. -/
def goR (Z : List Bool) : Nat → Nat → Option Nat → Nat → Option Nat × Nat
  | 0, _, f, l => (f, l)
  | fu + 1, k, f, l => if k < Z.length then (if l < run Z k then goR Z fu (k + 1) (some k) (run Z k) else goR Z fu (k + 1) f l) else (f, l)
def lngR (Z : List Bool) : Option Nat × Nat := goR Z 8 0 none 1
theorem lng_facts : ∀ b0 b1 b2 b3 b4 b5 b6 b7 : Bool, (lng [b0, b1, b2, b3, b4, b5, b6, b7]).1 ≤ (lng [b0, b1, b2, b3, b4, b5, b6, b7]).2 ∧ (lng [b0, b1, b2, b3, b4, b5, b6, b7]).2 ≤ 8 ∧ (([b0, b1, b2, b3, b4, b5, b6, b7].take (lng [b0, b1, b2, b3, b4, b5, b6, b7]).2).drop (lng [b0, b1, b2, b3, b4, b5, b6, b7]).1).all id = true ∧
    lngR [b0, b1, b2, b3, b4, b5, b6, b7] = if (lng [b0, b1, b2, b3, b4, b5, b6, b7]).2 - (lng [b0, b1, b2, b3, b4, b5, b6, b7]).1 < 2 then (none, 1) else (some (lng [b0, b1, b2, b3, b4, b5, b6, b7]).1, (lng [b0, b1, b2, b3, b4, b5, b6, b7]).2 - (lng [b0, b1, b2, b3, b4, b5, b6, b7]).1) := by decide +kernel
def V8 (f : Nat → Nat) : List Nat := [f 0, f 1, f 2, f 3, f 4, f 5, f 6, f 7]
def zs (f : Nat → Nat) : List Bool := (V8 f).map (· == 0)
theorem zs_length (f : Nat → Nat) : (zs f).length = 8 := rfl
theorem eight (i : Nat) (h : i < 8) : i = 0 ∨ i = 1 ∨ i = 2 ∨ i = 3 ∨ i = 4 ∨ i = 5 ∨ i = 6 ∨ i = 7 := by omega
theorem V8_get (f : Nat → Nat) (k : Nat) (h : k < 8) (h2 : k < (V8 f).length) : (V8 f)[k] = f k := by
  rcases eight k h with rfl | rfl | rfl | rfl | rfl | rfl | rfl | rfl <;> rfl
theorem zs_get (f : Nat → Nat) (k : Nat) (h : k < 8) (h2 : k < (zs f).length) : (zs f)[k] = (f k == 0) := by
  rcases eight k h with rfl | rfl | rfl | rfl | rfl | rfl | rfl | rfl <;> rfl
def A8 (f : Nat → Nat) : Value := .agg #[.int .u16 (f 0 : Int), .int .u16 (f 1 : Int), .int .u16 (f 2 : Int), .int .u16 (f 3 : Int), .int .u16 (f 4 : Int), .int .u16 (f 5 : Int), .int .u16 (f 6 : Int), .int .u16 (f 7 : Int)]
theorem goC_end {Z : List Bool} {fu k f t : Nat} (h : Z.length ≤ k) : goC Z fu k f t = (f, t) := by
  cases fu with
  | zero => rfl
  | succ fu => unfold goC; rw [if_neg (by omega)]
end Go.Proofs.YtleecmapaihhmaaGreatDoor.SixH
namespace Go.Proofs.YtleecmapaihhmaaGreatDoor.SixI
open Go.RowKit Go.Proofs.YtleecmapaihhmaaGreatDoor.Base Go.Proofs.YtleecmapaihhmaaGreatDoor.Base2 Go.Proofs.YtleecmapaihhmaaGreatDoor.QudP Go.Proofs.YtleecmapaihhmaaGreatDoor.SixP Go.Proofs.YtleecmapaihhmaaGreatDoor.SixQ Go.Proofs.YtleecmapaihhmaaGreatDoor.SixA Go.Proofs.YtleecmapaihhmaaGreatDoor.SixB Go.Proofs.YtleecmapaihhmaaGreatDoor.SixC Go.Proofs.YtleecmapaihhmaaGreatDoor.SixG Go.Proofs.YtleecmapaihhmaaGreatDoor.SixH Go.Proofs.YtleecmapaihhmaaGreatDoor.Regs

theorem bool_nat (x : Nat) : ((x : Int) == 0) = (x == 0) := by
  cases h : (x == 0) with
  | true => have : x = 0 := by simpa using h
            subst this; rfl
  | false => have : x ≠ 0 := by simpa using h
             rw [beq_eq_false_iff_ne]; omega
/-- A new box of eight. -/
theorem box_new {w : World} (f : Nat → Nat) : Box (w.alloc (.cells #[.int .u16 (f 0 : Int), .int .u16 (f 1 : Int), .int .u16 (f 2 : Int), .int .u16 (f 3 : Int), .int .u16 (f 4 : Int), .int .u16 (f 5 : Int), .int .u16 (f 6 : Int), .int .u16 (f 7 : Int)] 83)) w.heap.size 83 (V8 f) := heap_alloc_new _ _
set_option linter.unusedSimpArgs false in
set_option maxRecDepth 100000 in
set_option maxHeartbeats 4000000 in
theorem longest_any (f : Nat → Nat) (w : World) : Calls Tryz.prog 121 #[A8 f] w fun e w' => e = .returned (.tuple #[.int .i64 ((lng (zs f)).1 : Int), .int .i64 ((lng (zs f)).2 : Int)]) ∧ Below w.heap.size w w' := by
  obtain ⟨Z, hZ⟩ : ∃ Z, Z = zs f := ⟨_, rfl⟩
  have HZ := hid hZ
  rw [← hZ]
  have HZL : Hid (Z.length = 8) := by show _ = _; rw [hZ]; rfl
  clear hZ
  unfold A8
  go_enter Tryz.func121, Tryz.ntmps121
  go_upto_region 1 with (fail)
  generalize hw1 : w.alloc _ = w1
  have HB1 : Hid (Below w.heap.size w w1) := by
    show Below _ _ _
    rw [← hw1]
    exact (Below.refl _ _).alloc (Nat.le_refl _) _
  have HX1 : Hid (Box w1 w.heap.size 83 (V8 f)) := by
    show Box _ _ _ _
    rw [← hw1]
    exact box_new f
  clear hw1
  go_wp2
  go_loopw [2, 3, 4, 5] (fun vf vt vk _ wr => ∃ (fu k a b : Nat), vk = .int .i64 (k : Int) ∧ vf = .int .i64 (a : Int) ∧ vt = .int .i64 (b : Int) ∧ k ≤ 9 ∧ a ≤ b ∧ b ≤ 8 ∧ 9 ≤ fu + k ∧ wr = w1 ∧ Hid (lng Z = goC Z fu k a b)) (fun _ _ vk _ _ => 9 - (intOf vk).toNat)
  case atStart => exact ⟨9, 0, 0, 0, rfl, rfl, rfl, by omega, by omega, by omega, by omega, rfl, rfl⟩
  case round =>
    obtain ⟨fu, k0, a, b, rfl, rfl, rfl, hk9, hab, hb8, hfu, rfl, HW⟩ := hrel
    by_cases hlt : k0 < 8
    · obtain ⟨fu', rfl⟩ : ∃ fu', fu = fu' + 1 := ⟨fu - 1, by omega⟩
      have hfu2 : 9 ≤ fu' + (k0 + 1) := by omega
      clear hfu
      go_wp2
      go_loopw [4] (fun vk wx => ∃ k : Nat, k0 ≤ k ∧ k ≤ 8 ∧ vk = .int .i64 (k : Int) ∧ wx = wr ∧ Hid (run Z k0 = (k - k0) + run Z k)) (fun vk _ => 8 - (intOf vk).toNat)
      case atStart => exact ⟨k0, by omega, by omega, rfl, rfl, by show _ = _; omega⟩
      case round =>
        obtain ⟨k, hk0, hk8, rfl, rfl, HR⟩ := hrel
        by_cases hk : k < 8
        · have hc0 := HX1.out.cell k (by show k < 8; exact hk)
          rw [V8_get f k hk] at hc0
          have hzk : Z[k]'(by rw [HZL.out]; exact hk) = (f k == 0) := by
            have := zs_get f k hk (by rw [zs_length]; exact hk)
            simp only [HZ.out]
            exact this
          have HZK := hid hzk
          obtain ⟨x, hx⟩ : ∃ x, f k = x := ⟨_, rfl⟩
          rw [hx] at hc0 HZK
          have hk8i : (k : Int) < 8 := by omega
          clear hx hzk
          by_cases hx0 : x = 0
          · subst hx0
            have HR2 : Hid (run Z k0 = (k + 1 - k0) + run Z (k + 1)) := by
              show _ = _
              rw [HR.out, run_zero (by rw [HZL.out]; exact hk) (by rw [HZK.out]; rfl)]
              omega
            rw [show ((0 : Nat) : Int) = 0 from rfl] at hc0
            go_wp2
            go_roundw
            case rel => exact ⟨k + 1, by omega, by omega, by go_num, by first | rfl | trivial, HR2.out⟩
            case measure => simp [intOf]; omega
          · have hxb : ((x : Int) == 0) = false := by rw [bool_nat]; simpa using hx0
            have hxn : ¬ (x : Int) = 0 := by omega
            have HRE : Hid (run Z k0 = k - k0) := by
              show _ = _
              rw [HR.out, run_nz (by rw [HZL.out]; exact hk) (by rw [HZK.out]; simpa using hx0)]
              rfl
            clear hx0
            by_cases hgt : b - a < k - k0
            · have HW2 : Hid (lng Z = goC Z fu' (k + 1) k0 k) := by
                show _ = _
                rw [HW.out]
                conv => lhs; unfold goC
                rw [if_pos (by rw [HZL.out]; exact hlt), HRE.out, if_pos hgt, show k0 + (k - k0) = k by omega]
              have hgi : (b : Int) - (a : Int) < (k : Int) - (k0 : Int) := by omega
              have hki : (k0 : Int) ≤ (k : Int) := by omega
              have hai : (a : Int) ≤ (b : Int) := by omega
              clear hgt
              go_wp2
              go_roundw
              case rel => exact ⟨fu', k + 1, k0, k, by go_num, rfl, rfl, by omega, by omega, by omega, by omega, by first | rfl | trivial, HW2.out⟩
              case measure => simp [intOf]; omega
            · have HW2 : Hid (lng Z = goC Z fu' (k + 1) a b) := by
                show _ = _
                rw [HW.out]
                conv => lhs; unfold goC
                rw [if_pos (by rw [HZL.out]; exact hlt), HRE.out, if_neg hgt, show k0 + (k - k0) = k by omega]
              have hgi : ¬ (b : Int) - (a : Int) < (k : Int) - (k0 : Int) := by omega
              clear hgt
              go_wp2
              go_roundw
              case rel => exact ⟨fu', k + 1, a, b, by go_num, rfl, rfl, by omega, by omega, by omega, by omega, by first | rfl | trivial, HW2.out⟩
              case measure => simp [intOf]; omega
        · obtain rfl : k = 8 := by omega
          have HRE : Hid (run Z k0 = 8 - k0) := by show _ = _; rw [HR.out, run_end (by rw [HZL.out]; exact Nat.le_refl _)]; rfl
          by_cases hgt : b - a < 8 - k0
          · have HW2 : Hid (lng Z = goC Z fu' (8 + 1) k0 8) := by
              show _ = _
              rw [HW.out]
              conv => lhs; unfold goC
              rw [if_pos (by rw [HZL.out]; exact hlt), HRE.out, if_pos hgt, show k0 + (8 - k0) = 8 by omega]
            have hgi : (b : Int) - (a : Int) < 8 - (k0 : Int) := by omega
            have hki : (k0 : Int) ≤ 8 := by omega
            have hai : (a : Int) ≤ (b : Int) := by omega
            clear hgt
            go_wp2
            go_roundw
            case rel => exact ⟨fu', 8 + 1, k0, 8, by go_num, rfl, rfl, by omega, by omega, by omega, by omega, by first | rfl | trivial, HW2.out⟩
            case measure => simp [intOf]; omega
          · have HW2 : Hid (lng Z = goC Z fu' (8 + 1) a b) := by
              show _ = _
              rw [HW.out]
              conv => lhs; unfold goC
              rw [if_pos (by rw [HZL.out]; exact hlt), HRE.out, if_neg hgt, show k0 + (8 - k0) = 8 by omega]
            have hgi : ¬ (b : Int) - (a : Int) < 8 - (k0 : Int) := by omega
            clear hgt
            go_wp2
            go_roundw
            case rel => exact ⟨fu', 8 + 1, a, b, by go_num, rfl, rfl, by omega, by omega, by omega, by omega, by first | rfl | trivial, HW2.out⟩
            case measure => simp [intOf]; omega
    · have HE : Hid (lng Z = (a, b)) := by show _ = _; rw [HW.out]; exact goC_end (by rw [HZL.out]; omega)
      have hk8i : ¬ (k0 : Int) < 8 := by omega
      go_wp2
      go_ret2
      exact ⟨by rw [HE.out]; rfl, HB1.out⟩
theorem six_eight (f : Nat → Nat) : (lng (zs f)).1 ≤ (lng (zs f)).2 ∧ (lng (zs f)).2 ≤ 8 := by
  have := lng_facts (f 0 == 0) (f 1 == 0) (f 2 == 0) (f 3 == 0) (f 4 == 0) (f 5 == 0) (f 6 == 0) (f 7 == 0)
  exact ⟨this.1, this.2.1⟩
/-- What is printed of an address. -/
def prt (f : Nat → Nat) : List UInt8 := if (lng (zs f)).2 - (lng (zs f)).1 < 2 then jx (V8 f) else jx ((V8 f).take (lng (zs f)).1) ++ [58, 58] ++ jx ((V8 f).drop (lng (zs f)).2)
theorem boxed_rds {w : World} {g : Nat} {t : TypeId} {L : List Nat} (h : Box w g t L) : Rds w (some ⟨g, 0, none⟩) L.length (ncells L) :=
  Rds.of_spot (length_ncells L) (Array.getElem?_eq_some_iff.1 h).1 (fun j hj => by
    rw [Nat.zero_add, h.cell j (by rw [length_ncells] at hj; exact hj)]
    simp [ncells])
theorem V8_mem {f : Nat → Nat} (h : ∀ i, f i < 65536) : ∀ x ∈ V8 f, x < 65536 := by
  intro x hx
  simp only [V8, List.mem_cons, List.not_mem_nil, or_false] at hx
  rcases hx with rfl | rfl | rfl | rfl | rfl | rfl | rfl | rfl <;> exact h _
set_option linter.unusedSimpArgs false in
set_option maxRecDepth 100000 in
set_option maxHeartbeats 4000000 in
theorem print_any (f : Nat → Nat) (h6 : ∀ i, f i < 65536) (w : World) (hL : Lad w) : Calls Tryz.prog 92 #[A8 f] w fun e w' => e = .returned (.string (strOf (prt f))) ∧ Below w.heap.size w w' := by
  obtain ⟨P, hP⟩ : ∃ P, P = prt f := ⟨_, rfl⟩
  rw [← hP]
  have HLAD := hid hL
  have H6 := hid (V8_mem h6)
  have hab := six_eight f
  have hlq := fun w => longest_any f w
  unfold prt at hP
  unfold A8 at hlq ⊢
  obtain ⟨a, ha⟩ : ∃ a, a = (lng (zs f)).1 := ⟨_, rfl⟩
  obtain ⟨b, hb⟩ : ∃ b, b = (lng (zs f)).2 := ⟨_, rfl⟩
  rw [← ha, ← hb] at hP hab
  have hlq2 : ∀ w, Calls Tryz.prog 121 #[.agg #[.int .u16 (f 0 : Int), .int .u16 (f 1 : Int), .int .u16 (f 2 : Int), .int .u16 (f 3 : Int), .int .u16 (f 4 : Int), .int .u16 (f 5 : Int), .int .u16 (f 6 : Int), .int .u16 (f 7 : Int)]] w fun e w' => e = .returned (.tuple #[.int .i64 (a : Int), .int .i64 (b : Int)]) ∧ Below w.heap.size w w' := by
    intro w
    rw [ha, hb]
    exact hlq w
  have HLQ := hid hlq2
  obtain ⟨hab1, hab2⟩ := hab
  have HP := hid hP
  clear hlq hlq2 ha hb hL h6 hP
  go_enter Tryz.func92, Tryz.ntmps92
  go_upto_region 1 with (fail)
  generalize hw1 : w.alloc _ = w1
  have HB1 : Hid (Below w.heap.size w w1) := by
    show Below _ _ _
    rw [← hw1]
    exact (Below.refl _ _).alloc (Nat.le_refl _) _
  have HX1 : Hid (Box w1 w.heap.size 83 (V8 f)) := by
    show Box _ _ _ _
    rw [← hw1]
    exact box_new f
  clear hw1
  obtain ⟨c0, c1, c2, c3, c4, c5, c6, c7⟩ := cells8 HX1.out f rfl
  go_wp2_with fail
  refine (HLQ.out _).mono ?_
  rintro e w2 ⟨rfl, hb2⟩
  have HB2 : Hid (Below w.heap.size w w2) := bel HB1.out hb2
  have HX2 := hid (HX1.out.below hb2)
  have hab3 : (a : Int) ≤ (b : Int) := by omega
  have hb8i : (b : Int) ≤ 8 := by omega
  clear hb2 c0 c1 c2 c3 c4 c5 c6 c7
  by_cases hlt : b - a < 2
  · have hlti : (b : Int) - (a : Int) < 2 := by omega
    have HE : Hid (P = jx (V8 f)) := by show _ = _; rw [HP.out, if_pos hlt]
    clear hlt
    go_wp2_with fail
    refine (join_any _ 8 8 (V8 f) _ (boxed_rds HX2.out) (Nat.le_refl _) H6.out (HLAD.out.below HB2.out)).mono ?_
    rintro e w3 ⟨rfl, hb3⟩
    go_wp2
    go_ret
    exact ⟨by rw [HE.out]; rfl, bel HB2.out hb3⟩
  · have hlti : ¬ (b : Int) - (a : Int) < 2 := by omega
    have ha8 : a ≤ 8 := by omega
    obtain ⟨P1, hP1⟩ : ∃ P1, P1 = strOf (jx ((V8 f).take a)) := ⟨_, rfl⟩
    obtain ⟨P2, hP2⟩ : ∃ P2, P2 = strOf (jx ((V8 f).take a) ++ [58, 58]) := ⟨_, rfl⟩
    obtain ⟨P3, hP3⟩ : ∃ P3, P3 = strOf (jx ((V8 f).drop b)) := ⟨_, rfl⟩
    obtain ⟨P4, hP4⟩ : ∃ P4, P4 = strOf P := ⟨_, rfl⟩
    have hl1 := jx_len ((V8 f).take a)
    have hl2 := jx_len ((V8 f).drop b)
    rw [List.length_take] at hl1
    rw [List.length_drop] at hl2
    have h8l : (V8 f).length = 8 := rfl
    rw [h8l] at hl1 hl2
    have a1 : ∀ w : World, (Op.stringOp .add P1 ⟨#[58, 58]⟩).run Tryz.prog w = .ok (.string P2) w := fun w => by
      rw [hP1, hP2]
      exact str_add _ [58, 58] w (by simp; omega)
    have a2 : ∀ w : World, (Op.stringOp .add P2 P3).run Tryz.prog w = .ok (.string P4) w := fun w => by
      rw [hP2, hP3, hP4, HP.out, if_neg hlt]
      exact str_add _ _ w (by rw [List.length_append]; simp; omega)
    have HP1 := hid hP1
    have HP3 := hid hP3
    have HE : Hid (P4 = strOf P) := hP4
    have HT : Hid (Rds w2 (some ⟨w.heap.size, 0, none⟩) a (ncells ((V8 f).take a))) := by
      have := (boxed_rds HX2.out).upto a (by show a ≤ 8; omega)
      have e : ncells ((V8 f).take a) = (ncells (V8 f)).take a := by simp [ncells]
      show Rds _ _ _ _
      rw [e]
      exact this
    have HD : Hid (Rds w2 (some ⟨w.heap.size, b, none⟩) (8 - b) (ncells ((V8 f).drop b))) := by
      have := (boxed_rds HX2.out).cut b (by show b ≤ 8; omega)
      have e : ncells ((V8 f).drop b) = (ncells (V8 f)).drop b := by simp [ncells]
      show Rds _ _ _ _
      rw [e]
      rw [show (V8 f).length = 8 from rfl, Nat.zero_add] at this
      exact this
    have HM1 : Hid (∀ x ∈ (V8 f).take a, x < 65536) := fun x hx => H6.out x (List.mem_of_mem_take hx)
    have HM2 : Hid (∀ x ∈ (V8 f).drop b, x < 65536) := fun x hx => H6.out x (List.mem_of_mem_drop hx)
    clear hlt hP1 hP2 hP3 hP4 hl1 hl2 h8l
    go_wp2_with fail
    refine wp_region_rel (by kernel_rfl) [is (.int .i64 (a : Int)), is (.slice (some ⟨w.heap.size, 0, none⟩) a 8), is (.string P1), is (.string P2), is (.int .i64 (b : Int)), row (8 - b) (ncells ((V8 f).drop b)), is (.string P3), is (.string P4), is (.string P4)] [[], [0], [1], [2], [], [4], [5], [3, 6], [7]] (by kernel_rfl) ?_ ?_
    · refine ⟨?_, ?_, ?_, ?_, ?_, ?_, ?_, ?_, ?_, trivial⟩
      · intro t wq hbq hh K hK
        clear hh
        simp only [filled, upd, Have, is, any, row, pick, Act.put, List.setIfInBounds_toArray, List.set_cons_zero, List.set_cons_succ, Nat.reduceAdd, Nat.reduceEqDiff, reduceIte] at hK ⊢
        go_simp
        exact hK _ _ (Below.refl _ _) rfl
      · intro t wq hbq hh K hK
        have e0 := hh.1
        simp only [pick] at e0
        replace e0 : t 0 = (.int .i64 (a : Int)) := e0
        clear hh
        simp only [filled, upd, Have, is, any, row, pick, Act.put, List.setIfInBounds_toArray, List.set_cons_zero, List.set_cons_succ, Nat.reduceAdd, Nat.reduceEqDiff, reduceIte] at hK ⊢
        simp only [e0] at hK ⊢
        have ha1 : (a : Int) ≤ 8 := by omega
        have ha0 : (0 : Int) ≤ (a : Int) := by omega
        go_simp
        exact hK _ _ (Below.refl _ _) rfl
      · intro t wq hbq hh K hK
        have e1 := hh.1
        simp only [pick] at e1
        replace e1 : t 1 = (.slice (some ⟨w.heap.size, 0, none⟩) a 8) := e1
        clear hh
        simp only [filled, upd, Have, is, any, row, pick, Act.put, List.setIfInBounds_toArray, List.set_cons_zero, List.set_cons_succ, Nat.reduceAdd, Nat.reduceEqDiff, reduceIte] at hK ⊢
        simp only [e1] at hK ⊢
        go_simp
        refine (join_any _ a 8 ((V8 f).take a) _ (HT.out.below hbq) (by omega) HM1.out (HLAD.out.below (HB2.out.trans (hbq.mono HB2.out.size)))).mono ?_
        rintro e w5 ⟨rfl, hb5⟩
        rw [← HP1.out]
        exact hK _ _ hb5 rfl
      · intro t wq hbq hh K hK
        have e2 := hh.1
        simp only [pick] at e2
        replace e2 : t 2 = (.string P1) := e2
        clear hh
        simp only [filled, upd, Have, is, any, row, pick, Act.put, List.setIfInBounds_toArray, List.set_cons_zero, List.set_cons_succ, Nat.reduceAdd, Nat.reduceEqDiff, reduceIte] at hK ⊢
        simp only [e2] at hK ⊢
        go_simp
        exact hK _ _ (Below.refl _ _) rfl
      · intro t wq hbq hh K hK
        clear hh
        simp only [filled, upd, Have, is, any, row, pick, Act.put, List.setIfInBounds_toArray, List.set_cons_zero, List.set_cons_succ, Nat.reduceAdd, Nat.reduceEqDiff, reduceIte] at hK ⊢
        go_simp
        exact hK _ _ (Below.refl _ _) rfl
      · intro t wq hbq hh K hK
        have e4 := hh.1
        simp only [pick] at e4
        replace e4 : t 4 = (.int .i64 (b : Int)) := e4
        clear hh
        simp only [filled, upd, Have, is, any, row, pick, Act.put, List.setIfInBounds_toArray, List.set_cons_zero, List.set_cons_succ, Nat.reduceAdd, Nat.reduceEqDiff, reduceIte] at hK ⊢
        simp only [e4] at hK ⊢
        have hb1 : (b : Int) ≤ 8 := by omega
        have hb0 : (0 : Int) ≤ (b : Int) := by omega
        by_cases hb8 : b = 8
        · have hz : 8 - b = 0 := by omega
          simp only [hb8] at hK
          go_simp
          exact hK _ _ (Below.refl _ _) ⟨_, _, rfl, by omega, by unfold maxLen; omega, by rw [List.drop_eq_nil_of_le (by show 8 ≤ 8; omega)]; exact Rds.nil _⟩
        · have hz : ¬ 8 - b = 0 := by omega
          have hz2 : ¬ 8 = b := by omega
          go_simp
          exact hK _ _ (Below.refl _ _) ⟨_, _, rfl, Nat.le_refl _, by unfold maxLen; omega, HD.out.below hbq⟩
      · intro t wq hbq hh K hK
        have e5 := hh.1
        simp only [pick] at e5
        clear hh
        simp only [filled, upd, Have, is, any, row, pick, Act.put, List.setIfInBounds_toArray, List.set_cons_zero, List.set_cons_succ, Nat.reduceAdd, Nat.reduceEqDiff, reduceIte] at hK ⊢
        obtain ⟨A5, c5, e5, hc5, hm5, hr5⟩ := e5
        simp only [e5] at hK ⊢
        go_simp
        refine (join_any A5 (8 - b) c5 ((V8 f).drop b) _ hr5 (by omega) HM2.out (HLAD.out.below (HB2.out.trans (hbq.mono HB2.out.size)))).mono ?_
        rintro e w5 ⟨rfl, hb5⟩
        rw [← HP3.out]
        exact hK _ _ hb5 rfl
      · intro t wq hbq hh K hK
        have e3 := hh.1
        simp only [pick] at e3
        replace e3 : t 3 = (.string P2) := e3
        have e6 := hh.2.1
        simp only [pick] at e6
        replace e6 : t 6 = (.string P3) := e6
        clear hh
        simp only [filled, upd, Have, is, any, row, pick, Act.put, List.setIfInBounds_toArray, List.set_cons_zero, List.set_cons_succ, Nat.reduceAdd, Nat.reduceEqDiff, reduceIte] at hK ⊢
        simp only [e3, e6] at hK ⊢
        go_simp
        first | exact hK _ _ (Below.refl _ _) rfl | exact hK _ _ (Below.refl _ _) trivial
      · intro t wq hbq hh K hK
        have e7 := hh.1
        simp only [pick] at e7
        replace e7 : t 7 = (.string P4) := e7
        clear hh
        simp only [filled, upd, Have, is, any, row, pick, Act.put, List.setIfInBounds_toArray, List.set_cons_zero, List.set_cons_succ, Nat.reduceAdd, Nat.reduceEqDiff, reduceIte] at hK ⊢
        simp only [e7] at hK ⊢
        go_simp
        exact hK _ _ (Below.refl _ _) rfl
    · intro t wq hbq hh
      have f8 := have_get hh 8 (by decide)
      simp only [pick] at f8
      replace f8 : t 8 = (.string P4) := f8
      clear hh
      simp only [filled, upd, Have, is, any, row, pick, Act.put, List.setIfInBounds_toArray, List.set_cons_zero, List.set_cons_succ, Nat.reduceAdd, Nat.reduceEqDiff, reduceIte]
      simp only [f8]
      go_wp2
      go_ret
      exact ⟨by rw [← HE.out]; rfl, HB2.out.trans (hbq.mono HB2.out.size)⟩
end Go.Proofs.YtleecmapaihhmaaGreatDoor.SixI
