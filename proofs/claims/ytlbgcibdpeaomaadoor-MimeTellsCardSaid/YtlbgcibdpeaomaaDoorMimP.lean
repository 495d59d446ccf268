/- Types, plain: how a text is read. -/
import Derived.Test.YtlbgcibdpeaomaaDoorTokV
import Derived.Test.YtlbgcibdpeaomaaDoorUtfL
namespace Go.Proofs.YtlbgcibdpeaomaaDoor.MimP
open Go.RowKit Go.Proofs.YtlbgcibdpeaomaaDoor.Base Go.Proofs.YtlbgcibdpeaomaaDoor.UtfL Go.Proofs.YtlbgcibdpeaomaaDoor.TokP

/-- What stands ahead of the first of these bytes, and the rest. -/
def tw (st L : List UInt8) : List UInt8 := L.takeWhile fun c => !st.contains c
def dw (st L : List UInt8) : List UInt8 := L.dropWhile fun c => !st.contains c
theorem tw_dw (st L : List UInt8) : tw st L ++ dw st L = L := List.takeWhile_append_dropWhile
theorem tw_take (st L : List UInt8) : tw st L = L.take (tw st L).length := by
  have h := congrArg (List.take (tw st L).length) (tw_dw st L)
  rw [List.take_append_of_le_length (Nat.le_refl _), List.take_length] at h
  exact h
theorem dw_drop (st L : List UInt8) : dw st L = L.drop (tw st L).length := by
  have h := congrArg (List.drop (tw st L).length) (tw_dw st L)
  rw [← h]
  simp
theorem mem_tw (p : UInt8 → Bool) (c : UInt8) : ∀ L : List UInt8, c ∈ L.takeWhile p → p c = true
  | [], h => by simp at h
  | x :: L, h => by
    rw [List.takeWhile_cons] at h
    split at h
    · rename_i hx
      rcases List.mem_cons.1 h with rfl | h
      · exact hx
      · exact mem_tw p c L h
    · simp at h
theorem tw_no {st L : List UInt8} {c : UInt8} (h : c ∈ tw st L) : st.contains c = false := by
  unfold tw at h
  have := mem_tw _ c L h
  simpa using this
theorem dw_head {st L : List UInt8} {c : UInt8} {r : List UInt8} (h : dw st L = c :: r) : st.contains c = true := by
  unfold dw at h
  have := List.head_dropWhile_not (fun c => !st.contains c) (l := L) (by rw [h]; simp)
  simp only [h, List.head_cons] at this
  simpa using this
theorem tw_len (st L : List UInt8) : (tw st L).length ≤ L.length := by
  have := congrArg List.length (tw_dw st L)
  rw [List.length_append] at this
  omega
theorem dw_len (st L : List UInt8) : (dw st L).length ≤ L.length := by
  have := congrArg List.length (tw_dw st L)
  rw [List.length_append] at this
  omega
theorem index_spl (st L : List UInt8) : Lib.indexAny L st = if dw st L = [] then -1 else ((tw st L).length : Int) := by
  have hno : Lib.NoAny L st (tw st L).length := fun j b hj hb => by
    refine tw_no (st := st) (L := L) ?_
    obtain ⟨hjl, e⟩ := List.getElem?_eq_some_iff.1 hb
    rw [tw_take, ← e]
    exact List.mem_iff_getElem.2 ⟨j, by rw [List.length_take]; omega, by rw [List.getElem_take]⟩
  have hl := congrArg List.length (tw_dw st L)
  rw [List.length_append] at hl
  cases hd : dw st L with
  | nil =>
    rw [if_pos rfl]
    rw [hd] at hl
    exact Lib.indexAny_none (by rw [← hl]; simpa using hno)
  | cons c r =>
    rw [if_neg (by simp)]
    refine Lib.indexAny_hit (x := c) hno ?_ (dw_head hd)
    have h2 := dw_drop st L
    rw [hd] at h2
    have h3 := congrArg (fun M : List UInt8 => M[0]?) h2
    simp only [List.getElem?_cons_zero, List.getElem?_drop, Nat.add_zero] at h3
    exact h3.symm
/-- A value, whether there is one, and what follows. -/
def vl (s : List UInt8) : List UInt8 × Bool × List UInt8 :=
  if 0 < (qval s).2 then ((qval s).1, true, dw [59] (s.drop (qval s).2)) else (tr (tw [59] s), decide (tr (tw [59] s) ≠ []), dw [59] s)
/-- A parameter that is one, and what follows. -/
def pm (s : List UInt8) : Option (List UInt8 × List UInt8) × List UInt8 := match dw [59, 61] (tl s) with
  | [] => (none, [])
  | c :: r => if c = 59 then (none, c :: r) else (if ((vl r).2.1 && isTok (tw [59, 61] (tl s)) && quotableL (vl r).1) = true then some (lower (tw [59, 61] (tl s)), (vl r).1) else none, (vl r).2.2)
where quotableL (L : List UInt8) : Bool := TokV.quotable L
def hasN (n : List UInt8) (acc : List (List UInt8 × List UInt8)) : Bool := acc.any fun p => p.1 == n
def addp (acc : List (List UInt8 × List UInt8)) (o : Option (List UInt8 × List UInt8)) : List (List UInt8 × List UInt8) := match o with
  | none => acc
  | some p => if hasN p.1 acc = true then acc else acc ++ [p]
def prF : Nat → List UInt8 → List (List UInt8 × List UInt8) → List (List UInt8 × List UInt8)
  | 0, _, acc => acc
  | _ + 1, [], acc => acc
  | n + 1, _ :: t, acc => prF n (pm t).2 (addp acc (pm t).1)
theorem vl_len (s : List UInt8) : (vl s).2.2.length ≤ s.length := by
  unfold vl
  split
  · have := dw_len [59] (s.drop (qval s).2)
    rw [List.length_drop] at this
    show (dw [59] (s.drop (qval s).2)).length ≤ _
    omega
  · exact dw_len [59] s
theorem pm_len (s : List UInt8) : (pm s).2.length ≤ s.length := by
  have h1 := dw_len [59, 61] (tl s)
  have h2 := tl_len s
  unfold pm
  split
  · simp
  · rename_i c r h
    rw [h] at h1
    split
    · show (c :: r).length ≤ _
      omega
    · have := vl_len r
      show (vl r).2.2.length ≤ _
      simp at h1
      omega
theorem prF_more : ∀ (n m : Nat) (r : List UInt8) (acc : List (List UInt8 × List UInt8)), r.length ≤ n → r.length ≤ m → prF n r acc = prF m r acc
  | 0, 0, _, _, _, _ => rfl
  | 0, _ + 1, [], _, _, _ => rfl
  | 0, _ + 1, _ :: _, _, h, _ => by simp at h
  | _ + 1, 0, [], _, _, _ => rfl
  | _ + 1, 0, _ :: _, _, _, h => by simp at h
  | _ + 1, _ + 1, [], _, _, _ => rfl
  | n + 1, m + 1, _ :: t, acc, h1, h2 => by
    have := pm_len t
    simp at h1 h2
    exact prF_more n m _ _ (by omega) (by omega)
def prms (r : List UInt8) (acc : List (List UInt8 × List UInt8)) : List (List UInt8 × List UInt8) := prF r.length r acc
theorem prms_nil (acc : List (List UInt8 × List UInt8)) : prms [] acc = acc := rfl
theorem prms_cons (c : UInt8) (t : List UInt8) (acc : List (List UInt8 × List UInt8)) : prms (c :: t) acc = prms (pm t).2 (addp acc (pm t).1) := by
  unfold prms
  show prF t.length (pm t).2 (addp acc (pm t).1) = _
  exact prF_more _ _ _ _ (pm_len t) (Nat.le_refl _)
structure MT where
  ty : List UInt8
  sub : List UInt8
  ps : List (List UInt8 × List UInt8)
def mime (s : List UInt8) : Option MT := match dw [47] (trm s) with
  | [] => none
  | _ :: B => if (isTok (tw [47] (trm s)) && isTok (tr (tw [59] B))) = true then some ⟨lower (tw [47] (trm s)), lower (tr (tw [59] B)), prms (dw [59] B) []⟩ else none
end Go.Proofs.YtlbgcibdpeaomaaDoor.MimP
