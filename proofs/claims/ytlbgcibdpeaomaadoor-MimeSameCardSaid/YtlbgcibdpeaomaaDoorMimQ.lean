/- Types, plain: right ones, what is printed of one, and that it is read as it. -/
import Derived.Test.YtlbgcibdpeaomaaDoorMimP
namespace Go.Proofs.YtlbgcibdpeaomaaDoor.MimQ
open Go.RowKit Go.Proofs.YtlbgcibdpeaomaaDoor.Base Go.Proofs.YtlbgcibdpeaomaaDoor.UtfL Go.Proofs.YtlbgcibdpeaomaaDoor.TokP Go.Proofs.YtlbgcibdpeaomaaDoor.MimP

abbrev PL := List (List UInt8 × List UInt8)
theorem byteAll {p : UInt8 → Prop} [∀ c, Decidable (p c)] (h : ∀ n : Fin 256, p (UInt8.ofNat n.val)) (c : UInt8) : p c := by
  have := h ⟨c.toNat, c.toNat_lt⟩
  simpa using this
theorem tch_not (c : UInt8) (h : tch c = true) : c ∉ blanks ∧ c ≠ 34 ∧ c ≠ 47 ∧ c ≠ 59 ∧ c ≠ 61 :=
  byteAll (p := fun c => tch c = true → c ∉ blanks ∧ c ≠ 34 ∧ c ≠ 47 ∧ c ≠ 59 ∧ c ≠ 61) (by decide +kernel) c h
theorem tch_low (c : UInt8) : tch (low c) = tch c := byteAll (p := fun c => tch (low c) = tch c) (by decide +kernel) c
theorem low_low (c : UInt8) : low (low c) = low c := byteAll (p := fun c => low (low c) = low c) (by decide +kernel) c
theorem lower_lower (L : List UInt8) : lower (lower L) = lower L := by
  unfold lower
  rw [List.map_map]
  exact List.map_congr_left fun c _ => low_low c
theorem isTok_lower (L : List UInt8) : isTok (lower L) = isTok L := by
  unfold isTok lower
  rw [List.all_map]
  congr 1
  · congr 1
    funext c
    exact tch_low c
  · cases L <;> rfl
theorem tok_mem {L : List UInt8} (h : isTok L = true) {c : UInt8} (hc : c ∈ L) : tch c = true := by
  unfold isTok at h
  rw [Bool.and_eq_true] at h
  exact List.all_eq_true.1 h.1 c hc
theorem tok_ne {L : List UInt8} (h : isTok L = true) : L ≠ [] := by
  rintro rfl
  simp [isTok] at h
/-- A token in small letters. -/
def sml (L : List UInt8) : Bool := isTok L && decide (lower L = L)
theorem sml_lower {L : List UInt8} (h : isTok L = true) : sml (lower L) = true := by unfold sml; rw [isTok_lower, h, lower_lower]; simp
theorem sml_tok {L : List UInt8} (h : sml L = true) : isTok L = true ∧ lower L = L := by unfold sml at h; simpa using h
/-- Is that parameter right behind the ones ahead of it? -/
def okAt (ps : PL) (k : Nat) : Bool := match ps[k]? with
  | none => true
  | some p => sml p.1 && (!(hasN p.1 (ps.take k)) && TokV.quotable p.2)
def rightK (ps : PL) (k : Nat) : Bool := (List.range k).all (okAt ps)
theorem rightK_zero (ps : PL) : rightK ps 0 = true := rfl
theorem rightK_succ (ps : PL) (k : Nat) : rightK ps (k + 1) = (rightK ps k && okAt ps k) := by unfold rightK; rw [List.range_succ, List.all_append]; simp
theorem rightK_no (ps : PL) (k : Nat) (h : okAt ps k = false) (n : Nat) (hn : k < n) : rightK ps n = false := by
  cases e : rightK ps n with
  | false => rfl
  | true =>
    have := List.all_eq_true.1 e k (by simpa using hn)
    rw [this] at h
    cases h
def rightP (ps : PL) : Bool := rightK ps ps.length
def rightL (ty sub : List UInt8) (ps : PL) : Bool := sml ty && (sml sub && rightP ps)
/-- A value, as it is printed. -/
def pval (v : List UInt8) : List UInt8 := if isTok v = true then v else qq v
def pone (p : List UInt8 × List UInt8) : List UInt8 := 59 :: (p.1 ++ 61 :: pval p.2)
def pps (ps : PL) : List UInt8 := ps.flatMap pone
def ess (ty sub : List UInt8) : List UInt8 := ty ++ 47 :: sub
def printM (ty sub : List UInt8) (ps : PL) : List UInt8 := ess ty sub ++ pps ps
theorem pps_nil : pps [] = [] := rfl
theorem pps_cons (p : List UInt8 × List UInt8) (ps : PL) : pps (p :: ps) = pone p ++ pps ps := by simp [pps]
theorem pps_snoc (ps : PL) (p : List UInt8 × List UInt8) : pps (ps ++ [p]) = pps ps ++ pone p := by simp [pps]
theorem pval_len (v : List UInt8) : (pval v).length ≤ 2 * v.length + 2 := by
  unfold pval
  split
  · omega
  · exact qq_len v
theorem tw_app {st L : List UInt8} {c : UInt8} (r : List UInt8) (h : ∀ x ∈ L, st.contains x = false) (hc : st.contains c = true) : tw st (L ++ c :: r) = L ∧ dw st (L ++ c :: r) = c :: r := by
  unfold tw dw
  induction L with
  | nil => simp only [List.nil_append, List.takeWhile_cons, List.dropWhile_cons, hc]; exact ⟨rfl, rfl⟩
  | cons x L ih =>
    have hx := h x (by simp)
    obtain ⟨i1, i2⟩ := ih fun y hy => h y (by simp [hy])
    simp only [List.cons_append, List.takeWhile_cons, List.dropWhile_cons, hx, Bool.not_false, if_true]
    exact ⟨by rw [i1], i2⟩
theorem tw_all {st L : List UInt8} (h : ∀ x ∈ L, st.contains x = false) : tw st L = L ∧ dw st L = [] := by
  unfold tw dw
  induction L with
  | nil => exact ⟨rfl, rfl⟩
  | cons x L ih =>
    have hx := h x (by simp)
    obtain ⟨i1, i2⟩ := ih fun y hy => h y (by simp [hy])
    simp only [List.takeWhile_cons, List.dropWhile_cons, hx, Bool.not_false, if_true]
    exact ⟨by rw [i1], i2⟩
/-- What follows a parameter: nothing, or a semicolon. -/
def Beh (Y : List UInt8) : Prop := Y = [] ∨ ∃ r, Y = 59 :: r
theorem dw_beh {Y : List UInt8} (h : Beh Y) : dw [59] Y = Y := by
  rcases h with rfl | ⟨r, rfl⟩
  · rfl
  · exact (tw_app (L := []) r (by simp) (by decide)).2
theorem tw_beh {v Y : List UInt8} (hv : ∀ x ∈ v, x ≠ 59) (h : Beh Y) : tw [59] (v ++ Y) = v ∧ dw [59] (v ++ Y) = Y := by
  have hv' : ∀ x ∈ v, ([59] : List UInt8).contains x = false := fun x hx => by simpa using hv x hx
  rcases h with rfl | ⟨r, rfl⟩
  · rw [List.append_nil]; exact tw_all hv'
  · exact tw_app r hv' (by decide)
theorem tr_nb (M s : List UInt8) (c : UInt8) (hc : c ∉ blanks) : tr (M ++ c :: s) = M ++ c :: tr s := by
  have hb : blanks.contains c = false := by simpa using hc
  unfold tr Lib.trimRightS
  rw [List.reverse_append, List.reverse_cons, List.append_assoc, List.dropWhile_append]
  split
  · rename_i h
    have h' : s.reverse.dropWhile (fun x => blanks.contains x) = [] := by simpa using h
    rw [h']
    show (List.dropWhile _ (c :: M.reverse)).reverse = _
    rw [List.dropWhile_cons, hb]
    simp
  · simp
theorem tr_end (M : List UInt8) (c : UInt8) (hc : c ∉ blanks) : tr (M ++ [c]) = M ++ [c] := tr_nb M [] c hc
theorem tl_head (r : List UInt8) (c : UInt8) (hc : c ∉ blanks) : tl (c :: r) = c :: r := by
  have hb : blanks.contains c = false := by simpa using hc
  unfold tl Lib.trimLeftS
  rw [List.dropWhile_cons, hb]
  rfl
/-- It ends with no blank. -/
def Ends (L : List UInt8) : Prop := ∃ M c, L = M ++ [c] ∧ c ∉ blanks
theorem Ends.app {b : List UInt8} (a : List UInt8) (h : Ends b) : Ends (a ++ b) := by
  obtain ⟨M, c, rfl, hc⟩ := h
  exact ⟨a ++ M, c, by simp, hc⟩
theorem Ends.tr {L : List UInt8} (h : Ends L) : tr L = L := by
  obtain ⟨M, c, rfl, hc⟩ := h
  exact tr_end M c hc
theorem ends_last {L : List UInt8} (h : L ≠ []) (hb : ∀ c ∈ L, c ∉ blanks) : Ends L :=
  ⟨L.dropLast, L.getLast h, (List.dropLast_concat_getLast h).symm, hb _ (List.getLast_mem h)⟩
theorem ends_tok {L : List UInt8} (h : isTok L = true) : Ends L := ends_last (tok_ne h) fun c hc => (tch_not c (tok_mem h hc)).1
theorem ends_pval (v : List UInt8) : Ends (pval v) := by
  unfold pval
  split
  · rename_i h; exact ends_tok h
  · exact ⟨34 :: qt v, 34, rfl, by decide⟩
theorem ends_pps : ∀ (ps : PL) (X : List UInt8), Ends X → Ends (X ++ pps ps)
  | [], X, h => by rw [pps_nil, List.append_nil]; exact h
  | p :: ps, X, h => by
    rw [pps_cons, ← List.append_assoc]
    refine ends_pps ps _ ?_
    refine Ends.app X ?_
    show Ends (59 :: (p.1 ++ 61 :: pval p.2))
    exact Ends.app (59 :: p.1 ++ [61]) (ends_pval p.2) |> fun h => by simpa using h
theorem vl_pval {v Y : List UInt8} (hY : Beh Y) : vl (pval v ++ Y) = (v, true, Y) := by
  unfold pval
  split
  · rename_i h
    obtain ⟨c, r, rfl⟩ : ∃ c r, v = c :: r := by
      cases v with
      | nil => exact absurd rfl (tok_ne h)
      | cons c r => exact ⟨c, r, rfl⟩
    have hq : qval (c :: r ++ Y) = ([], 0) := by
      rw [List.cons_append, qval, if_neg (tch_not c (tok_mem h (by simp))).2.1]
    obtain ⟨h1, h2⟩ := tw_beh (v := c :: r) (fun x hx => (tch_not x (tok_mem h hx)).2.2.2.1) hY
    unfold vl
    rw [hq, if_neg (by decide), h1, h2, (ends_tok h).tr]
    simp
  · unfold vl
    have h0 : 0 < (qq v).length := by simp [qq]
    rw [qval_qq]
    simp only []
    rw [if_pos h0, List.drop_left, dw_beh hY]
theorem pm_gen {n Z : List UInt8} (hn : isTok n = true) : pm (n ++ 61 :: Z) = (if ((vl Z).2.1 && isTok n && TokV.quotable (vl Z).1) = true then some (lower n, (vl Z).1) else none, (vl Z).2.2) := by
  obtain ⟨c, r, rfl⟩ : ∃ c r, n = c :: r := by
    cases n with
    | nil => exact absurd rfl (tok_ne hn)
    | cons c r => exact ⟨c, r, rfl⟩
  have htl : tl (c :: r ++ 61 :: Z) = c :: r ++ 61 :: Z := tl_head _ c (tch_not c (tok_mem hn (by simp))).1
  obtain ⟨h1, h2⟩ := tw_app (st := [59, 61]) (L := c :: r) (c := 61) Z (fun x hx => by
    have := tch_not x (tok_mem hn hx)
    simp [this.2.2.2.1, this.2.2.2.2]) (by decide)
  unfold pm
  rw [htl, h1, h2]
  simp only []
  rw [if_neg (by decide)]
  rfl
theorem pm_one {p : List UInt8 × List UInt8} {Y : List UInt8} (hn : sml p.1 = true) (hq : TokV.quotable p.2 = true) (hY : Beh Y) : pm (p.1 ++ 61 :: (pval p.2 ++ Y)) = (some p, Y) := by
  obtain ⟨h1, h2⟩ := sml_tok hn
  rw [pm_gen h1, vl_pval hY]
  simp only []
  rw [h1, hq, h2]
  rfl
theorem pps_beh (ps : PL) {X : List UInt8} (h : Beh X) : Beh (pps ps ++ X) := by
  cases ps with
  | nil => exact h
  | cons p ps => exact .inr ⟨_, by rw [pps_cons]; rfl⟩
theorem prms_pps : ∀ (r acc : PL) (X : List UInt8), Beh X → (∀ k, acc.length ≤ k → k < (acc ++ r).length → okAt (acc ++ r) k = true) → prms (pps r ++ X) acc = prms X (acc ++ r)
  | [], acc, X, _, _ => by rw [pps_nil, List.append_nil]; rfl
  | p :: r, acc, X, hX, h => by
    have h0 := h acc.length (Nat.le_refl _) (by simp)
    unfold okAt at h0
    rw [List.getElem?_append_right (Nat.le_refl _), Nat.sub_self, List.getElem?_cons_zero] at h0
    simp only [List.take_left, Bool.and_eq_true, Bool.not_eq_true'] at h0
    obtain ⟨h1, h2, h3⟩ := h0
    have e : pps (p :: r) ++ X = 59 :: (p.1 ++ 61 :: (pval p.2 ++ (pps r ++ X))) := by rw [pps_cons]; simp [pone]
    rw [e, prms_cons, pm_one h1 h3 (pps_beh r hX)]
    unfold addp
    simp only []
    rw [h2, if_neg (by decide), prms_pps r (acc ++ [p]) X hX (by
      intro k hk1 hk2
      have e2 : acc ++ [p] ++ r = acc ++ p :: r := by simp
      rw [e2] at hk2 ⊢
      exact h k (by simp at hk1; omega) hk2)]
    simp
theorem right_at {ps : PL} (h : rightP ps = true) (k : Nat) (hk : k < ps.length) : okAt ps k = true := List.all_eq_true.1 h k (by simpa using hk)
theorem mime_gen {ty sub : List UInt8} {ps : PL} {X : List UInt8} (h : rightL ty sub ps = true) (hX : Beh X) (hT : trm (printM ty sub ps ++ X) = printM ty sub ps ++ X) : mime (printM ty sub ps ++ X) = some ⟨ty, sub, prms X ps⟩ := by
  unfold rightL at h
  simp only [Bool.and_eq_true] at h
  obtain ⟨h1, h2, h3⟩ := h
  obtain ⟨t1, t2⟩ := sml_tok h1
  obtain ⟨s1, s2⟩ := sml_tok h2
  have e : printM ty sub ps ++ X = ty ++ 47 :: (sub ++ (pps ps ++ X)) := by simp [printM, ess]
  obtain ⟨w1, w2⟩ := tw_app (st := [47]) (L := ty) (c := 47) (sub ++ (pps ps ++ X)) (fun x hx => by
    have := tch_not x (tok_mem t1 hx)
    simp [this.2.2.1]) (by decide)
  obtain ⟨w3, w4⟩ := tw_beh (v := sub) (fun x hx => (tch_not x (tok_mem s1 hx)).2.2.2.1) (pps_beh ps hX)
  unfold mime
  rw [hT, e, w1, w2]
  simp only []
  rw [w3, w4, (ends_tok s1).tr, t1, s1, t2, s2, if_pos (show (true && true) = true from rfl), prms_pps ps [] X hX (fun k _ hk => right_at h3 k hk)]
  rfl
theorem trm_print {ty sub : List UInt8} {ps : PL} (ht : isTok ty = true) (hs : isTok sub = true) : trm (printM ty sub ps) = printM ty sub ps := by
  have hE : Ends (printM ty sub ps) := by
    unfold printM ess
    refine ends_pps ps _ ?_
    have := Ends.app (ty ++ [47]) (ends_tok hs)
    simpa using this
  rw [trm_def, hE.tr]
  unfold printM ess
  cases ty with
  | nil => exact absurd rfl (tok_ne ht)
  | cons c r => exact tl_head _ c (tch_not c (tok_mem ht (by simp))).1
/-- What is printed of a right type is read as it. -/
theorem mime_print {ty sub : List UInt8} {ps : PL} (h : rightL ty sub ps = true) : mime (printM ty sub ps) = some ⟨ty, sub, ps⟩ := by
  have h' := h
  unfold rightL at h'
  simp only [Bool.and_eq_true] at h'
  have := mime_gen (X := []) h (.inl rfl) (by rw [List.append_nil]; exact trm_print (sml_tok h'.1).1 (sml_tok h'.2.1).1)
  rw [List.append_nil] at this
  exact this
theorem print_inj {ty sub ty2 sub2 : List UInt8} {ps ps2 : PL} (h : rightL ty sub ps = true) (h2 : rightL ty2 sub2 ps2 = true) (e : printM ty sub ps = printM ty2 sub2 ps2) : ty = ty2 ∧ sub = sub2 ∧ ps = ps2 := by
  have a := mime_print h
  rw [e, mime_print h2] at a
  injection a with a
  injection a with a1 a2 a3
  exact ⟨a1.symm, a2.symm, a3.symm⟩
theorem hasN_of_mem {ps : PL} {k : Nat} (hk : k < ps.length) {n : List UInt8} (h : n = ps[k].1) : hasN n ps = true := by
  unfold hasN
  exact List.any_eq_true.2 ⟨ps[k], List.getElem_mem _, by rw [h]; simp⟩
/-- A second parameter of a name is none. -/
theorem mime_twice {ty sub : List UInt8} {ps : PL} (h : rightL ty sub ps = true) {n s : List UInt8} (k : Nat) (hk : k < ps.length) (hn : lower n = ps[k].1) (hs : ∀ x ∈ s, x ≠ 59 ∧ x ≠ 34) :
    mime (printM ty sub ps ++ 59 :: (n ++ 61 :: s)) = some ⟨ty, sub, ps⟩ := by
  have h' := h
  unfold rightL at h'
  simp only [Bool.and_eq_true] at h'
  obtain ⟨h1, h2, h3⟩ := h'
  have hok := right_at h3 k hk
  unfold okAt at hok
  rw [List.getElem?_eq_getElem hk] at hok
  simp only [Bool.and_eq_true] at hok
  have htn : isTok n = true := by rw [← isTok_lower, hn]; exact (sml_tok hok.1).1
  have hstrip : trm (printM ty sub ps ++ 59 :: (n ++ 61 :: s)) = printM ty sub ps ++ 59 :: (n ++ 61 :: tr s) := by
    have e1 : ∀ z : List UInt8, printM ty sub ps ++ 59 :: (n ++ 61 :: z) = (printM ty sub ps ++ 59 :: n) ++ 61 :: z := fun z => by simp
    rw [trm_def, e1, tr_nb _ _ 61 (by decide), e1]
    unfold printM ess
    cases ty with
    | nil => exact absurd rfl (tok_ne (sml_tok h1).1)
    | cons c r => exact tl_head _ c (tch_not c (tok_mem (sml_tok h1).1 (by simp))).1
  have hm : ∀ z, trm z = trm (trm z) := fun z => (trm_trm z).symm
  have hmt : mime (printM ty sub ps ++ 59 :: (n ++ 61 :: s)) = mime (printM ty sub ps ++ 59 :: (n ++ 61 :: tr s)) := by
    rw [← hstrip]
    unfold mime
    rw [trm_trm]
  have hs' : ∀ x ∈ tr s, x ≠ 59 ∧ x ≠ 34 := by
    intro x hx
    refine hs x ?_
    unfold tr Lib.trimRightS at hx
    have := (List.dropWhile_sublist (fun x => blanks.contains x) (l := s.reverse)).subset (List.mem_reverse.1 hx)
    exact List.mem_reverse.1 this
  have hv : vl (tr s) = (tr (tr s), decide (tr (tr s) ≠ []), []) := by
    have hq : (qval (tr s)).2 = 0 := by
      cases e : tr s with
      | nil => rfl
      | cons c r =>
        rw [qval, if_neg (hs' c (by rw [e]; simp)).2]
    obtain ⟨a1, a2⟩ := tw_all (st := [59]) (L := tr s) (fun x hx => by simpa using (hs' x hx).1)
    unfold vl
    rw [hq, if_neg (by decide), a1, a2]
  rw [hmt, mime_gen h (.inr ⟨_, rfl⟩) (by rw [← hstrip, trm_trm]), prms_cons, pm_gen htn, hv]
  simp only []
  rw [prms_nil]
  congr 2
  unfold addp
  split
  · rfl
  · rename_i p hp
    split at hp
    · injection hp with hp
      subst hp
      show (if hasN (lower n) ps = true then ps else _) = ps
      rw [if_pos (hasN_of_mem hk hn)]
    · cases hp
/-- What is read is right. -/
theorem okAt_app {ps : PL} {q : List UInt8 × List UInt8} {k : Nat} (hk : k < ps.length) : okAt (ps ++ [q]) k = okAt ps k := by
  unfold okAt
  rw [List.getElem?_append_left hk, List.take_append_of_le_length (by omega)]
theorem right_snoc {ps : PL} {q : List UInt8 × List UInt8} (h : rightP ps = true) (h1 : sml q.1 = true) (h2 : hasN q.1 ps = false) (h3 : TokV.quotable q.2 = true) : rightP (ps ++ [q]) = true := by
  refine List.all_eq_true.2 fun k hk => ?_
  have hk' : k < ps.length + 1 := by simpa using hk
  by_cases hlt : k < ps.length
  · rw [okAt_app hlt]
    exact right_at h k hlt
  · obtain rfl : k = ps.length := by omega
    unfold okAt
    rw [List.getElem?_append_right (Nat.le_refl _), Nat.sub_self, List.getElem?_cons_zero]
    simp only [List.take_left, h1, h2, h3]
    rfl
theorem pm_right {t : List UInt8} {p : List UInt8 × List UInt8} (h : (pm t).1 = some p) : sml p.1 = true ∧ TokV.quotable p.2 = true := by
  unfold pm at h
  split at h
  · cases h
  · split at h
    · cases h
    · simp only [] at h
      split at h
      · rename_i hc
        injection h with h
        subst h
        simp only [Bool.and_eq_true] at hc
        exact ⟨sml_lower hc.1.2, hc.2⟩
      · cases h
theorem prF_right : ∀ (n : Nat) (r : List UInt8) (acc : PL), rightP acc = true → rightP (prF n r acc) = true
  | 0, _, _, h => h
  | _ + 1, [], _, h => h
  | n + 1, _ :: t, acc, h => by
    rw [prF]
    refine prF_right n _ _ ?_
    unfold addp
    split
    · exact h
    · rename_i p hp
      split
      · exact h
      · rename_i hh
        obtain ⟨h1, h2⟩ := pm_right hp
        exact right_snoc h h1 (by simpa using hh) h2
theorem mime_right {s : List UInt8} {m : MT} (h : mime s = some m) : rightL m.ty m.sub m.ps = true := by
  unfold mime at h
  split at h
  · cases h
  · split at h
    · rename_i hc
      injection h with h
      subst h
      simp only [Bool.and_eq_true] at hc
      unfold rightL
      simp only [Bool.and_eq_true]
      exact ⟨sml_lower hc.1, sml_lower hc.2, prF_right _ _ _ rfl⟩
    · cases h
theorem mime_blanks {a b s : List UInt8} (ha : ∀ x ∈ a, x ∈ blanks) (hb : ∀ x ∈ b, x ∈ blanks) : mime (a ++ s ++ b) = mime s := by
  unfold mime
  rw [trm_both a b s ha hb]
end Go.Proofs.YtlbgcibdpeaomaaDoor.MimQ
