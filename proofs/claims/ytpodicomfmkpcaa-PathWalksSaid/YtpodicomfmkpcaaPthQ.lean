/- Paths, plain: what came of walking, walked again from nothing, stays; plain segments just follow. -/
import Derived.Test.YtpodicomfmkpcaaPthN
namespace Go.Proofs.Ytpodicomfmkpcaa.PthQ
open Go.RowKit Go.Proofs.Ytpodicomfmkpcaa.Base Go.Proofs.Ytpodicomfmkpcaa.UtfA Go.Proofs.Ytpodicomfmkpcaa.UtfL Go.Proofs.Ytpodicomfmkpcaa.PthP Go.Proofs.Ytpodicomfmkpcaa.PthB Go.Proofs.Ytpodicomfmkpcaa.PthE Go.Proofs.Ytpodicomfmkpcaa.PthF Go.Proofs.Ytpodicomfmkpcaa.PthG Go.Proofs.Ytpodicomfmkpcaa.PthJ Go.Proofs.Ytpodicomfmkpcaa.PthN Go.Proofs.Ytpodicomfmkpcaa.EscI Go.Proofs.Ytpodicomfmkpcaa.EscE

theorem dig_out (n : Nat) (h : n < 16) : inS 4 (EscE.dig n).toNat = false ∧ ∀ sp, stp1 sp (EscE.dig n) = false := by
  have H : ∀ (b : Fin 16), inS 4 ((EscE.dig b.val).toNat : Int) = false ∧ ∀ sp, stp1 sp (EscE.dig b.val) = false := by decide +kernel
  exact H ⟨n, h⟩
theorem pct_out : inS 4 ((37 : UInt8).toNat : Int) = false ∧ ∀ sp, stp1 sp 37 = false := by decide +kernel
theorem enc_cons (k : Int) (c : UInt8) (L : List UInt8) : enc k (c :: L) = one k c ++ enc k L := by simp [enc]
theorem enc_fix (k : Int) (L : List UInt8) (h : ∀ c ∈ L, inS k c.toNat = false) : enc k L = L := by
  induction L with
  | nil => rfl
  | cons c L ih =>
    rw [enc_cons, ih (fun d hd => h d (by simp [hd]))]
    unfold one
    rw [h c (by simp)]
    rfl
theorem one_out (sp : Bool) (c : UInt8) (hs : stp1 sp c = false) : ∀ d ∈ one 4 c, inS 4 d.toNat = false ∧ stp1 sp d = false := by
  intro d hd
  have hc := c.toNat_lt
  unfold one at hd
  split at hd
  · simp only [List.mem_cons, List.not_mem_nil, or_false] at hd
    rcases hd with rfl | rfl | rfl
    · exact ⟨pct_out.1, pct_out.2 sp⟩
    · exact ⟨(dig_out _ (by omega)).1, (dig_out _ (by omega)).2 sp⟩
    · exact ⟨(dig_out _ (by omega)).1, (dig_out _ (by omega)).2 sp⟩
  · rename_i hn
    simp only [List.mem_cons, List.not_mem_nil, or_false] at hd
    subst hd
    exact ⟨by simpa using hn, hs⟩
theorem enc_out (sp : Bool) (L : List UInt8) (h : ∀ c ∈ L, stp1 sp c = false) : ∀ d ∈ enc 4 L, inS 4 d.toNat = false ∧ stp1 sp d = false := by
  intro d hd
  simp only [enc, List.mem_flatMap] at hd
  obtain ⟨c, hc, hd⟩ := hd
  exact one_out sp c (h c hc) d hd
theorem enc_enc (sp : Bool) (L : List UInt8) (h : ∀ c ∈ L, stp1 sp c = false) : enc 4 (enc 4 L) = enc 4 L := enc_fix 4 _ fun d hd => (enc_out sp L h d hd).1
def okp : List UInt8 → Bool
  | [] => true
  | c :: r => (decide (c ≠ 37) || (match r with | a :: b :: _ => decide (a = 50) && decide (b = 101) | _ => false)) && okp r
theorem not_dot (c : UInt8) (h : inS 4 c.toNat = true) : ¬ (low (EscE.dig (c.toNat / 16)) = 50 ∧ low (EscE.dig (c.toNat % 16)) = 101) := by
  have H : ∀ n : Fin 256, inS 4 (n.val : Int) = true → ¬ (low (EscE.dig (n.val / 16)) = 50 ∧ low (EscE.dig (n.val % 16)) = 101) := by decide +kernel
  exact H ⟨c.toNat, c.toNat_lt⟩ h
theorem enc_low : ∀ (p L : List UInt8), okp p = true → lower (enc 4 L) = p → lower L = p
  | p, [], _, h => h
  | p, c :: L, hp, h => by
    rw [enc_cons] at h
    unfold one at h
    cases hc : inS 4 (c.toNat : Int) with
    | true =>
      rw [hc, if_pos rfl, List.cons_append, List.cons_append, List.cons_append, lower_cons, lower_cons, lower_cons] at h
      subst h
      have e : low 37 = 37 := by decide +kernel
      simp only [okp, e, Bool.and_eq_true, Bool.or_eq_true, decide_eq_true_eq] at hp
      rcases hp.1 with h1 | h1
      · exact absurd rfl h1
      · exact absurd h1 (not_dot c hc)
    | false =>
      rw [hc, if_neg (by decide), List.cons_append, List.nil_append, lower_cons] at h
      match p, hp, h with
      | d :: r, hp, h =>
        injection h with h1 h2
        simp only [okp, Bool.and_eq_true] at hp
        rw [lower_cons, h1, enc_low r L hp.2 h2]
theorem enc_sgl (L : List UInt8) (h : sgl L = false) : sgl (enc 4 L) = false := by
  cases e : sgl (enc 4 L) with
  | false => rfl
  | true =>
    unfold sgl at h e
    simp only [Bool.or_eq_true, decide_eq_true_eq, Bool.or_eq_false_iff, decide_eq_false_iff_not] at h e
    rcases e with e | e
    · exact absurd ((lower_dot L).1 (enc_low [46] L (by decide) ((lower_dot _).2 e))) h.1
    · exact absurd (enc_low _ L (by decide) e) h.2
theorem enc_dbl (L : List UInt8) (h : dbl L = false) : dbl (enc 4 L) = false := by
  cases e : dbl (enc 4 L) with
  | false => rfl
  | true =>
    unfold dbl at h e
    simp only [Bool.or_eq_true, decide_eq_true_eq, Bool.or_eq_false_iff, decide_eq_false_iff_not] at h e
    rcases e with ((e | e) | e) | e
    · exact absurd (enc_low _ L (by decide) e) h.1.1.1
    · exact absurd (enc_low _ L (by decide) e) h.1.1.2
    · exact absurd (enc_low _ L (by decide) e) h.1.2
    · exact absurd (enc_low _ L (by decide) e) h.2
theorem enc_short : ∀ L : List UInt8, (enc 4 L).length ≤ 2 → enc 4 L = L
  | [], _ => rfl
  | c :: L, h => by
    rw [enc_cons] at h ⊢
    unfold one at h ⊢
    cases hc : inS 4 (c.toNat : Int) with
    | true => rw [hc, if_pos rfl] at h; simp at h
    | false =>
      rw [hc, if_neg (by decide)] at h
      rw [if_neg (by decide), enc_short L (by simp at h; omega)]
      rfl
theorem enc_drv (L : List UInt8) (h : drv L = false) : drv (enc 4 L) = false := by
  cases e : drv (enc 4 L) with
  | false => rfl
  | true =>
    have := enc_short L (by rw [drv_len _ e]; omega)
    rw [this, h] at e
    cases e
def joinL : List (List UInt8) → List UInt8
  | [] => []
  | [x] => x
  | x :: y :: r => x ++ 47 :: joinL (y :: r)
theorem joinL_snoc : ∀ (ys : List (List UInt8)) (y : List UInt8), ys ≠ [] → joinL (ys ++ [y]) = joinL ys ++ [47] ++ y
  | [], _, h => absurd rfl h
  | [x], y, _ => by simp [joinL]
  | x :: z :: r, y, _ => by
    have ih := joinL_snoc (z :: r) y (by simp)
    show x ++ 47 :: joinL ((z :: r) ++ [y]) = _
    rw [ih]
    simp [joinL]
/-- A segment that just follows. -/
structure At (f sp : Bool) (x : List UInt8) : Prop where
  stops : ∀ c ∈ x, stp1 sp c = false
  dbl : PthP.dbl x = false
  sgl : PthP.sgl x = false
  same : wr f x = x
theorem wb_pass (file sp : Bool) (l : List ByteArray) : ∀ (x b M : List UInt8), (∀ c ∈ x, stp1 sp c = false) → wb file sp l b (x ++ M) = wb file sp l (b ++ x) M
  | [], b, M, _ => by rw [List.append_nil]; rfl
  | c :: x, b, M, h => by
    rw [List.cons_append, wb, h c (by simp), if_neg (by decide), wb_pass file sp l x (b ++ [c]) M fun d hd => h d (by simp [hd]), List.append_assoc]
    rfl
theorem rewalk (file sp : Bool) : ∀ (ys : List (List UInt8)) (acc : List ByteArray) (y : List UInt8), At (file && acc.isEmpty) sp y → (∀ z ∈ ys, At false sp z) → wb file sp acc [] (joinL (y :: ys)) = acc ++ (y :: ys).map strOf
  | [], acc, y, h, _ => by
    have := wb_pass file sp acc y [] [] h.stops
    rw [List.append_nil, List.nil_append] at this
    show wb file sp acc [] y = _
    rw [this, wb, stp_oth _ _ _ _ h.dbl h.sgl, h.same]
    rfl
  | z :: ys, acc, y, h, hs => by
    have e : stp1 sp 47 = true := by cases sp <;> rfl
    show wb file sp acc [] (y ++ 47 :: joinL (z :: ys)) = _
    rw [wb_pass file sp acc y [] _ h.stops, List.nil_append, wb, if_pos e, stp_oth _ _ _ _ h.dbl h.sgl, h.same, rewalk file sp ys (acc ++ [strOf y]) z ?_ fun u hu => hs u (by simp [hu]), List.append_assoc]
    · rfl
    · have : (acc ++ [strOf y]).isEmpty = false := by cases acc <;> rfl
      rw [this, Bool.and_false]
      exact hs z (by simp)
theorem at_nil (f sp : Bool) : At f sp [] := ⟨fun _ h => by (cases h), rfl, rfl, by cases f <;> rfl⟩
theorem at_wr (f sp : Bool) (b : List UInt8) (hs : ∀ c ∈ b, stp1 sp c = false) (hd : dbl b = false) (hg : sgl b = false) : At f sp (wr f b) ∧ (wr f b).length ≤ 3 * b.length + 2 := by
  cases hf : (f && drv b) with
  | true =>
    have e : wr f b = b.take 1 ++ [58] := by unfold wr; rw [hf, if_pos rfl]
    rw [Bool.and_eq_true] at hf
    obtain ⟨rfl, hv⟩ := hf
    rw [e]
    match b, hv, hs with
    | [x, y], hv, hs =>
      have hx : letter (x.toNat : Int) = true := by
        simp only [drv, Bool.and_eq_true] at hv
        exact hv.1
      refine ⟨⟨fun c hc => ?_, ?_, ?_, ?_⟩, by simp⟩
      · simp only [List.take_succ_cons, List.take_zero, List.cons_append, List.nil_append, List.mem_cons, List.not_mem_nil, or_false] at hc
        rcases hc with rfl | rfl
        · exact hs _ (by simp)
        · cases sp <;> rfl
      · simp [dbl, lower_cons, show lower ([] : List UInt8) = [] from rfl]
        intro _
        decide +kernel
      · simp [sgl, lower_cons, show lower ([] : List UInt8) = [] from rfl]
      · show wr true [x, 58] = [x, 58]
        have hv2 : (true && drv [x, 58]) = true := by
          show (true && (letter (x.toNat : Int) && (decide ((58 : UInt8) = 58) || decide ((58 : UInt8) = 124)))) = true
          rw [hx]
          rfl
        unfold wr
        rw [hv2]
        rfl
  | false =>
    have e : wr f b = enc 4 b := by unfold wr; rw [hf, if_neg (by decide)]
    rw [e]
    refine ⟨⟨fun c hc => (enc_out sp b hs c hc).2, enc_dbl b hd, enc_sgl b hg, ?_⟩, by have := enc_len 4 b; omega⟩
    have hv : (f && drv (enc 4 b)) = false := by
      cases f with
      | false => rfl
      | true => rw [Bool.true_and] at hf ⊢; exact enc_drv b hf
    unfold wr
    rw [hv, if_neg (by decide), enc_enc sp b hs]
def All (G : Nat → List UInt8 → Prop) (l : List ByteArray) : Prop := ∀ i (h : i < l.length), G i (l[i]).data.toList
theorem all_snoc {G : Nat → List UInt8 → Prop} {l : List ByteArray} (h : All G l) (x : List UInt8) (hx : G l.length x) : All G (l ++ [strOf x]) := fun i hi => by
  rw [List.getElem_append]
  split
  · exact h i _
  · have : i = l.length := by simp at hi; omega
    subst this
    simpa [strOf] using hx
theorem all_take {G : Nat → List UInt8 → Prop} {l : List ByteArray} (h : All G l) (n : Nat) : All G (l.take n) := fun i hi => by
  rw [List.getElem_take]
  exact h i _
theorem stp_all (file sp e : Bool) (N : Nat) (G : Nat → List UInt8 → Prop) (he : ∀ i, G i []) (hb : ∀ i b, (∀ c ∈ b, stp1 sp c = false) → b.length ≤ N → dbl b = false → sgl b = false → G i (wr (file && decide (i = 0)) b))
    (l : List ByteArray) (b : List UInt8) (h : All G l) (h1 : ∀ c ∈ b, stp1 sp c = false) (h2 : b.length ≤ N) : All G (stp file e l b) := by
  have hsho : All G (sho file l) := by
    unfold sho
    split
    · exact h
    · exact all_take h _
  cases hd : dbl b with
  | true =>
    rw [stp_dbl _ _ _ _ hd]
    split
    · exact all_snoc hsho [] (he _)
    · exact hsho
  | false =>
    cases hg : sgl b with
    | true =>
      rw [stp_sgl _ _ _ _ hd hg]
      split
      · exact all_snoc h [] (he _)
      · exact h
    | false =>
      rw [stp_oth _ _ _ _ hd hg]
      refine all_snoc h _ ?_
      have := hb l.length b h1 h2 hd hg
      have e : decide (l.length = 0) = l.isEmpty := by cases l <;> simp
      rw [e] at this
      exact this
theorem wb_all (file sp : Bool) (N : Nat) (G : Nat → List UInt8 → Prop) (he : ∀ i, G i []) (hb : ∀ i b, (∀ c ∈ b, stp1 sp c = false) → b.length ≤ N → dbl b = false → sgl b = false → G i (wr (file && decide (i = 0)) b)) :
    ∀ (M : List UInt8) (l : List ByteArray) (b : List UInt8), All G l → (∀ c ∈ b, stp1 sp c = false) → b.length + M.length ≤ N → All G (wb file sp l b M)
  | [], l, b, h, h1, h2 => stp_all file sp true N G he hb l b h h1 (by simpa using h2)
  | c :: M, l, b, h, h1, h2 => by
    simp only [List.length_cons] at h2
    cases hc : stp1 sp c with
    | true =>
      rw [wb, if_pos hc]
      exact wb_all file sp N G he hb M _ [] (stp_all file sp false N G he hb l b h h1 (by omega)) (fun _ h => by (cases h)) (by simp; omega)
    | false =>
      rw [wb, hc, if_neg (by decide)]
      exact wb_all file sp N G he hb M l (b ++ [c]) h (fun d hd => by
        rcases List.mem_append.1 hd with hd | hd
        · exact h1 d hd
        · simp at hd; subst hd; exact hc) (by simp; omega)
theorem wb_some' (file sp : Bool) : ∀ (M : List UInt8) (l : List ByteArray) (b : List UInt8), wb file sp l b M ≠ []
  | [], l, b => by
    show stp file true l b ≠ []
    unfold stp
    repeat' split
    all_goals simp_all
  | c :: M, l, b => by
    unfold wb
    split
    · exact wb_some' file sp M _ _
    · exact wb_some' file sp M _ _
theorem length_wb (file sp : Bool) : ∀ (M : List UInt8) (l : List ByteArray) (b : List UInt8), (wb file sp l b M).length ≤ l.length + M.length + 1
  | [], l, b => length_stp file true l b
  | c :: M, l, b => by
    unfold wb
    split
    · have := wb_all
      have h1 := length_wb file sp M (stp file false l b) []
      have h2 := length_stp file false l b
      simp; omega
    · have h1 := length_wb file sp M l (b ++ [c])
      simp; omega
theorem len_join : ∀ (ys : List (List UInt8)) (n : Nat), (∀ y ∈ ys, y.length ≤ n) → (joinL ys).length ≤ ys.length * (n + 1)
  | [], n, _ => by simp [joinL]
  | [x], n, h => by have := h x (by simp); simp [joinL]; omega
  | x :: y :: r, n, h => by
    have ih := len_join (y :: r) n fun z hz => h z (by simp [hz])
    have := h x (by simp)
    show (x ++ 47 :: joinL (y :: r)).length ≤ _
    rw [List.length_append, List.length_cons, List.length_cons, Nat.succ_mul]
    omega
theorem map_back (l : List ByteArray) : (l.map (·.data.toList)).map strOf = l := by
  rw [List.map_map]
  conv => rhs; rw [← List.map_id l]
  refine List.map_congr_left fun s _ => ?_
  exact strOf_toList s
/-- What came of walking, walked again from nothing, stays. -/
theorem still (file sp : Bool) (L : List UInt8) : wb file sp [] [] (joinL ((wb file sp [] [] L).map (·.data.toList))) = wb file sp [] [] L ∧ ∀ x ∈ wb file sp [] [] L, x.size ≤ 3 * L.length + 2 := by
  have hA := wb_all file sp L.length (fun i x => At (file && decide (i = 0)) sp x ∧ x.length ≤ 3 * L.length + 2) (fun i => ⟨at_nil _ _, by simp⟩)
    (fun i b h1 h2 h3 h4 => by
      have := at_wr (file && decide (i = 0)) sp b h1 h3 h4
      exact ⟨this.1, by have := this.2; omega⟩) L [] [] (fun i h => absurd h (by simp)) (fun _ h => by (cases h)) (by simp)
  have hne := wb_some' file sp L [] []
  generalize wb file sp [] [] L = l at hA hne ⊢
  constructor
  · match l, hA, hne with
    | x :: r, hA, _ =>
      have h0 := (hA 0 (by simp)).1
      have e : (file && decide ((0 : Nat) = 0)) = (file && ([] : List ByteArray).isEmpty) := by cases file <;> rfl
      rw [e] at h0
      have := rewalk file sp (r.map (·.data.toList)) [] x.data.toList h0 (fun z hz => by
        obtain ⟨s, hs, rfl⟩ := List.mem_map.1 hz
        obtain ⟨i, hi, rfl⟩ := List.getElem_of_mem hs
        have := (hA (i + 1) (by simpa using hi)).1
        simpa using this)
      rw [List.map_cons, this, List.nil_append]
      exact map_back (x :: r)
  · intro x hx
    obtain ⟨i, hi, rfl⟩ := List.getElem_of_mem hx
    have := (hA i hi).2
    rw [Array.length_toList] at this
    exact this
/-- The segments that PathPlain lays. -/
def yk (k : Nat) : List UInt8 := [121, UInt8.ofNat (97 + k)]
theorem at_yk (sp : Bool) (k : Nat) (h : k < 20) : At false sp (yk k) := by
  have H : ∀ (sp : Bool) (k : Fin 20), (∀ c ∈ yk k.val, stp1 sp c = false) ∧ dbl (yk k.val) = false ∧ sgl (yk k.val) = false ∧ wr false (yk k.val) = yk k.val := by decide +kernel
  obtain ⟨h1, h2, h3, h4⟩ := H sp ⟨k, h⟩
  exact ⟨h1, h2, h3, h4⟩
theorem at_x0 (f sp : Bool) : At f sp [120, 48] := by
  have H : ∀ (f sp : Bool), (∀ c ∈ ([120, 48] : List UInt8), stp1 sp c = false) ∧ dbl [120, 48] = false ∧ sgl [120, 48] = false ∧ wr f [120, 48] = [120, 48] := by decide +kernel
  obtain ⟨h1, h2, h3, h4⟩ := H f sp
  exact ⟨h1, h2, h3, h4⟩
def ys (n : Nat) : List (List UInt8) := [120, 48] :: (List.range n).map yk
theorem ys_succ (n : Nat) : ys (n + 1) = ys n ++ [yk n] := by unfold ys; rw [List.range_succ, List.map_append]; rfl
theorem length_ys (n : Nat) : (ys n).length = n + 1 := by simp [ys]
theorem plain (file sp : Bool) (l : List ByteArray) (n : Nat) (h : n ≤ 20) : wb file sp l [] (joinL (ys n)) = l ++ (ys n).map strOf :=
  rewalk file sp ((List.range n).map yk) l [120, 48] (at_x0 _ _) fun z hz => by
    obtain ⟨k, hk, rfl⟩ := List.mem_map.1 hz
    exact at_yk sp k (by have := List.mem_range.1 hk; omega)
theorem len_ys (n : Nat) : (joinL (ys n)).length ≤ (n + 1) * 3 := by
  have := len_join (ys n) 2 (fun y hy => by
    simp only [ys, List.mem_cons, List.mem_map] at hy
    rcases hy with rfl | ⟨k, _, rfl⟩
    · decide
    · simp [yk])
  rw [length_ys] at this
  exact this
theorem ys_ne (n : Nat) : ys n ≠ [] := by simp [ys]
end Go.Proofs.Ytpodicomfmkpcaa.PthQ
