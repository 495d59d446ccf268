/- Hosts, plain: of a special host it makes no difference how its letters are written, nor whether they are escaped. -/
import Derived.Test.YtnmkkejodkjjiaaDoorHstQ
import Derived.Test.YtnmkkejodkjjiaaDoorEscP
namespace Go.Proofs.YtnmkkejodkjjiaaDoor.HstR
open Go.RowKit Go.Proofs.YtnmkkejodkjjiaaDoor.Base Go.Proofs.YtnmkkejodkjjiaaDoor.UtfL Go.Proofs.YtnmkkejodkjjiaaDoor.QudP Go.Proofs.YtnmkkejodkjjiaaDoor.SixP Go.Proofs.YtnmkkejodkjjiaaDoor.SixH Go.Proofs.YtnmkkejodkjjiaaDoor.HstP Go.Proofs.YtnmkkejodkjjiaaDoor.HstQ Go.Proofs.YtnmkkejodkjjiaaDoor.EscD

theorem hex_low (c : UInt8) : UtfA.hex (low c).toNat = UtfA.hex c.toNat := byteAll (p := fun c => UtfA.hex (low c).toNat = UtfA.hex c.toNat) (by decide +kernel) c
theorem low_58 (c : UInt8) : low c = 58 ↔ c = 58 := byteAll (p := fun c => low c = 58 ↔ c = 58) (by decide +kernel) c
theorem low_46 (c : UInt8) : low c = 46 ↔ c = 46 := byteAll (p := fun c => low c = 46 ↔ c = 46) (by decide +kernel) c
theorem low_48 (c : UInt8) : low c = 48 ↔ c = 48 := byteAll (p := fun c => low c = 48 ↔ c = 48) (by decide +kernel) c
theorem low_37 (c : UInt8) : low c = 37 ↔ c = 37 := byteAll (p := fun c => low c = 37 ↔ c = 37) (by decide +kernel) c
theorem low_93 (c : UInt8) : low c = 93 ↔ c = 93 := byteAll (p := fun c => low c = 93 ↔ c = 93) (by decide +kernel) c
theorem low_91 (c : UInt8) : low c = 91 ↔ c = 91 := byteAll (p := fun c => low c = 91 ↔ c = 91) (by decide +kernel) c
theorem isD_low (b : Nat) (c : UInt8) : isD b (low c) = isD b c := by unfold isD; rw [hex_low]
theorem dv_low (c : UInt8) : dv (low c) = dv c := by unfold dv; rw [hex_low]
theorem digs_lower (b : Nat) (L : List UInt8) : digs b (lower L) = digs b L := by
  unfold digs lower
  rw [List.all_map]
  congr 1
  funext c
  exact isD_low b c
theorem val_lower (b : Nat) (L : List UInt8) : val b (lower L) = val b L := by
  unfold val lower
  rw [List.foldl_map]
  congr 1
  funext n c
  rw [dv_low]
theorem len_lower (L : List UInt8) : (lower L).length = L.length := by simp [lower]
theorem piece_lower (p : List UInt8) : piece (lower p) = piece p := by unfold piece; rw [len_lower, digs_lower, val_lower]
theorem head_lower (p : List UInt8) (x : UInt8) (hx : ∀ c, low c = x ↔ c = x) : (lower p).head? = some x ↔ p.head? = some x := by
  cases p with
  | nil => exact Iff.rfl
  | cons c r =>
    show some (low c) = some x ↔ some c = some x
    rw [Option.some.injEq, Option.some.injEq]
    exact hx c
theorem small_lower (p : List UInt8) : small (lower p) = small p := by
  have h := propext (head_lower p 48 low_48)
  unfold small
  rw [len_lower, digs_lower, val_lower]
  simp only [h]
theorem splc_lower : ∀ L : List UInt8, splc (lower L) = (splc L).map lower
  | [] => rfl
  | c :: L => by
    have ih := splc_lower L
    show splc (low c :: lower L) = _
    rw [splc, splc]
    by_cases h : c = 58
    · rw [if_pos ((low_58 c).2 h), if_pos h, ih]
      rfl
    · rw [if_neg (fun e => h ((low_58 c).1 e)), if_neg h, ih]
      cases splc L <;> rfl
theorem splt_lower : ∀ L : List UInt8, splt (lower L) = (splt L).map lower
  | [] => rfl
  | c :: L => by
    have ih := splt_lower L
    show splt (low c :: lower L) = _
    rw [splt, splt]
    by_cases h : c = 46
    · rw [if_pos ((low_46 c).2 h), if_pos h, ih]
      rfl
    · rw [if_neg (fun e => h ((low_46 c).1 e)), if_neg h, ih]
      cases splt L <;> rfl
theorem smalls_lower : ∀ ps : List (List UInt8), smalls (ps.map lower) = smalls ps
  | [] => rfl
  | p :: r => by
    rw [List.map_cons, smalls, smalls, small_lower, smalls_lower r]
theorem quad_lower (p : List UInt8) : quad (lower p) = quad p := by unfold quad; rw [splt_lower, smalls_lower]
theorem has46_lower (p : List UInt8) : (lower p).contains 46 = p.contains 46 := by
  induction p with
  | nil => rfl
  | cons c r ih =>
    show (low c :: lower r).contains 46 = _
    rw [List.contains_cons, List.contains_cons, ih]
    congr 1
    rw [Bool.eq_iff_iff, beq_iff_eq, beq_iff_eq]
    exact ⟨fun h => ((low_46 c).1 h.symm).symm, fun h => ((low_46 c).2 h.symm).symm⟩
theorem pcs_lower (e : Bool) : ∀ ps : List (List UInt8), pcs e (ps.map lower) = pcs e ps
  | [] => rfl
  | p :: r => by
    rw [List.map_cons, pcs, pcs, pcs_lower e r, piece_lower, quad_lower, has46_lower]
    simp only [List.map_eq_nil_iff]
theorem lower_nil (p : List UInt8) : lower p = [] ↔ p = [] := by unfold lower; exact List.map_eq_nil_iff
theorem side_lower (e : Bool) (ps : List (List UInt8)) : sideP e (ps.map lower) = sideP e ps := by
  unfold sideP
  rw [pcs_lower]
  have h : (ps.map lower = [[]]) = (ps = [[]]) := by
    rw [eq_iff_iff]
    constructor
    · intro h
      match ps, h with
      | [], h => simp at h
      | _ :: _ :: _, h => simp at h
      | [p], h =>
        simp only [List.map_cons, List.map_nil, List.cons.injEq, and_true] at h
        rw [(lower_nil p).1 h]
    · rintro rfl; rfl
  simp only [h]
theorem cut2_lower : ∀ s : List UInt8, cut2 (lower s) = (cut2 s).map fun p => (lower p.1, lower p.2)
  | [] => rfl
  | [_] => rfl
  | a :: b :: r => by
    have ih := cut2_lower (b :: r)
    show cut2 (low a :: low b :: lower r) = _
    rw [cut2, cut2]
    by_cases h : a = 58 ∧ b = 58
    · rw [if_pos ⟨(low_58 a).2 h.1, (low_58 b).2 h.2⟩, if_pos h]
      rfl
    · rw [if_neg (fun e => h ⟨(low_58 a).1 e.1, (low_58 b).1 e.2⟩), if_neg h, show low b :: lower r = lower (b :: r) from rfl, ih]
      cases cut2 (b :: r) <;> rfl
theorem six_lower (s : List UInt8) : six (lower s) = six s := by
  unfold six
  rw [cut2_lower]
  cases cut2 s with
  | none => show eight (pcs true (splc (lower s))) [] = eight (pcs true (splc s)) []; rw [splc_lower, pcs_lower]
  | some p => show both (sideP false (splc (lower p.1))) (sideP true (splc (lower p.2))) [] = both (sideP false (splc p.1)) (sideP true (splc p.2)) []; rw [splc_lower, splc_lower, side_lower, side_lower]
theorem hbr_snoc (M : List UInt8) : hbr (M ++ [93]) = addr M := by
  unfold hbr
  have h1 : Lib.hasSuffix (M ++ [93]) [93] = true := by unfold Lib.hasSuffix; simp [List.isSuffixOf]
  have h2 : Lib.trimSuffix (M ++ [93]) [93] = M := by unfold Lib.trimSuffix; simp [h1]
  rw [if_pos h1, h2]
theorem hbr_other (M : List UInt8) (h : ∀ N, M ≠ N ++ [93]) : hbr M = none := by
  unfold hbr
  rw [if_neg]
  intro e
  unfold Lib.hasSuffix at e
  rw [List.isSuffixOf_iff_suffix] at e
  obtain ⟨N, hN⟩ := e
  exact h N hN.symm
theorem hbr_lower (M : List UInt8) : hbr (lower M) = hbr M := by
  by_cases h : ∃ N, M = N ++ [93]
  · obtain ⟨N, rfl⟩ := h
    have e : lower (N ++ [93]) = lower N ++ [93] := by unfold lower; rw [List.map_append]; rfl
    rw [e, hbr_snoc, hbr_snoc]
    unfold addr
    rw [six_lower]
  · rw [hbr_other M fun N e => h ⟨N, e⟩, hbr_other]
    intro N e
    have e2 := congrArg List.reverse e
    unfold lower at e2
    rw [← List.map_reverse, List.reverse_append] at e2
    cases hr : M.reverse with
    | nil => rw [hr] at e2; cases e2
    | cons c r =>
      rw [hr] at e2
      injection e2 with e3 _
      have hc : c = 93 := (low_93 c).1 e3
      refine h ⟨r.reverse, ?_⟩
      have := congrArg List.reverse hr
      rw [List.reverse_reverse] at this
      rw [this, hc]
      simp
theorem esc_lower (x y : UInt8) (s t : List UInt8) (h : lower (x :: s) = lower (y :: t)) : esc (x :: s) = esc (y :: t) := by
  injection h with h1 h2
  match s, t, h2 with
  | [], [], _ => rfl
  | [_], [_], _ => rfl
  | [], _ :: _, h2 => simp [lower] at h2
  | _ :: _, [], h2 => simp [lower] at h2
  | [_], _ :: _ :: _, h2 => simp [lower] at h2
  | _ :: _ :: _, [_], h2 => simp [lower] at h2
  | a :: b :: _, c :: d :: _, h2 =>
    have h3 : low a = low c := by simp [lower] at h2; exact h2.1
    have h4 : low b = low d := by simp [lower] at h2; exact h2.2.1
    have h5 : UtfA.hex a.toNat = UtfA.hex c.toNat := by rw [← hex_low a, h3, hex_low]
    have h6 : UtfA.hex b.toNat = UtfA.hex d.toNat := by rw [← hex_low b, h4, hex_low]
    have h7 : (x = 37) = (y = 37) := by rw [← propext (low_37 x), ← propext (low_37 y)]; exact congrArg (· = 37) h1
    simp only [esc, h5, h6, h7]
theorem decF_lower : ∀ (n : Nat) (s t : List UInt8), lower s = lower t → lower (decF n s) = lower (decF n t)
  | 0, _, _, _ => rfl
  | n + 1, [], [], _ => rfl
  | n + 1, [], _ :: _, h => by cases h
  | n + 1, _ :: _, [], h => by cases h
  | n + 1, x :: s, y :: t, h => by
    have he := esc_lower x y s t h
    injection h with h1 h2
    rw [decF, decF, he]
    cases esc (y :: t) with
    | some c =>
      show low c :: lower (decF n (s.drop 2)) = low c :: lower (decF n (t.drop 2))
      rw [decF_lower n (s.drop 2) (t.drop 2) (by unfold lower; rw [List.map_drop, List.map_drop]; exact congrArg (List.drop 2) h2)]
    | none =>
      show low x :: lower (decF n s) = low y :: lower (decF n t)
      rw [decF_lower n s t h2, h1]
theorem dec_lower {s t : List UInt8} (h : lower s = lower t) : lower (dec s) = lower (dec t) := by
  have hl : s.length = t.length := by have := congrArg List.length h; rwa [len_lower, len_lower] at this
  unfold dec
  rw [hl]
  exact decF_lower _ _ _ h
theorem dmn_lower {s t : List UInt8} (h : lower s = lower t) : dmn s = dmn t := by
  unfold dmn
  rw [← oks_lower s, ← oks_lower t, h]
/-- Letters' sizes make no difference. -/
theorem hst_lower {s t : List UInt8} (h : lower s = lower t) : hst s true = hst t true := by
  have h1 : (s.head? = some 91) = (t.head? = some 91) := by
    rw [← propext (head_lower s 91 low_91), ← propext (head_lower t 91 low_91), h]
  have h2 : hbr s.tail = hbr t.tail := by
    rw [← hbr_lower s.tail, ← hbr_lower t.tail]
    have : lower s.tail = lower t.tail := by
      have e := congrArg List.tail h
      unfold lower at e ⊢
      rwa [← List.map_tail, ← List.map_tail] at e
    rw [this]
  unfold hst
  simp only [h1, h2, dmn_lower (dec_lower h), if_true]
/-- The byte that is written in its place. -/
def up (c : UInt8) : UInt8 := if 97 ≤ c.toNat ∧ c.toNat ≤ 122 then c - 32 else c
theorem low_up (c : UInt8) : low (up c) = low c := byteAll (p := fun c => low (up c) = low c) (by decide +kernel) c
theorem lower_app (a b : List UInt8) : lower (a ++ b) = lower a ++ lower b := by unfold lower; exact List.map_append
theorem up_same (a b : List UInt8) (c : UInt8) : hst (a ++ [up c] ++ b) true = hst (a ++ [c] ++ b) true := by
  refine hst_lower ?_
  rw [lower_app, lower_app, lower_app, lower_app]
  congr 2
  show [low (up c)] = [low c]
  rw [low_up]
/-- An escaped byte is it. -/
theorem esc_same (a b : List UInt8) (c : UInt8) (h : ∀ x ∈ a ++ [c] ++ b, x ≠ 37) (h0 : (a ++ [c] ++ b).head? ≠ some 91) :
    hst (a ++ [37, EscE.dig ((up c).toNat / 16), EscE.dig ((up c).toNat % 16)] ++ b) true = hst (a ++ [c] ++ b) true := by
  have hd : dec (a ++ [37, EscE.dig ((up c).toNat / 16), EscE.dig ((up c).toNat % 16)] ++ b) = a ++ [up c] ++ b := by
    rw [List.append_assoc, List.append_assoc, EscP.dec_app a.length a _ (Nat.le_refl _) (fun j hj _ => h _ (by simp [List.getElem_mem])), dec_plain a fun x hx => h x (by simp [hx])]
    congr 1
    show dec (37 :: EscE.dig ((up c).toNat / 16) :: EscE.dig ((up c).toNat % 16) :: b) = _
    rw [dec_some _ _ _ (EscP.esc_one (up c) b)]
    show up c :: dec b = _
    rw [dec_plain b fun x hx => h x (by simp [hx])]
    rfl
  have hs : dec (a ++ [c] ++ b) = a ++ [c] ++ b := dec_plain _ h
  have hh : (a ++ [37, EscE.dig ((up c).toNat / 16), EscE.dig ((up c).toNat % 16)] ++ b).head? ≠ some 91 := by
    cases a with
    | nil => show some (37 : UInt8) ≠ some 91; decide
    | cons x r => exact h0
  unfold hst
  rw [if_neg hh, if_neg h0, if_pos rfl, if_pos rfl, hd, hs]
  refine dmn_lower ?_
  rw [lower_app, lower_app, lower_app, lower_app]
  congr 2
  show [low (up c)] = [low c]
  rw [low_up]
end Go.Proofs.YtnmkkejodkjjiaaDoor.HstR
