/- A struct of any number of one-cell fields that came in, by value. -/
import Derived.Test.YtafnekilnbhhlaaOpen2
import Derived.Laws.IdiomArrays
import Derived.OpenShut
import Derived.Lib.SmallJoins
namespace Go.Proofs.Ytafnekilnbhhlaa.AggN
open Go.Joins Go.Deep Go.ChangeShapes Go.WideShapes Go.ChangeAt Go.RowKit Go.Proofs.Ytafnekilnbhhlaa.Base

variable {P : Program} {w : World} {H : Type} {enc : TypeId × Value → H} {base : Nat} {held : Bool} {spare : Nat → Bool}
theorem open_fields {r : Reach} {b0 : Nat} {t : TypeId} {fs : Array Field} {v : Value} {d : DataW H} {p : List MemPlace} (hs : P.underlying t = some (.struct fs)) (hone : oneCellFields P fs = true) (hC : P.cellsOf t = fs.size)
    (hv : Value.okWide P w r b0 t v) (h : DataW.Trod enc P w base spare held t v d p) :
    ∃ (l : List Value) (ys : List (DataW H × List MemPlace)) (n : Nat), v = .agg ⟨l⟩ ∧ d = .agg (ys.map (·.1)) ∧ p = ys.flatMap (·.2) ∧ l.length = fs.size ∧ ys.length = fs.size ∧
      ∀ (j : Nat) (f : Field), fs[j]? = some f → ∀ c : Value, l[j]? = some c → DataW.trod enc P w base spare held n f.type [c] = ys[j]? := by
  obtain ⟨⟨l⟩, rfl, hsz⟩ := okWide_struct hs hv
  obtain ⟨fuel, hf⟩ := h
  obtain ⟨xs, n, _, hx, hl, hlen, hfs⟩ := DataW.trod_struct hs hf
  simp only [Prod.mk.injEq] at hx
  have hl' : l.length = fs.size := by rw [← hC]; exact hsz
  refine ⟨l, xs, n, rfl, hx.1, hx.2, hl', hlen, fun j f hj c hc => ?_⟩
  obtain ⟨o, k⟩ := hone_of hone j f hj
  have := hfs j f hj
  rw [o, k] at this
  have e : ((Value.agg ⟨l⟩).cells.toList.drop j).take 1 = [c] := by
    obtain ⟨hj', e⟩ := List.getElem?_eq_some_iff.1 hc
    show (l.drop j).take 1 = _
    rw [List.drop_eq_getElem_cons hj', e]
    rfl
  rw [e] at this
  exact this
theorem weightsAll_mem {P : Program} {e : TypeId} : ∀ {l : List (DataW H)} {d : DataW H}, d ∈ l → ∀ k ∈ d.weights P e, k ∈ DataW.weightsAll P e l
  | _ :: _, _, .head _, k, hk => by unfold DataW.weightsAll; exact List.mem_append_left _ hk
  | _ :: _, _, .tail _ h, k, hk => by unfold DataW.weightsAll; exact List.mem_append_right _ (weightsAll_mem h k hk)
/-- A slice of strings in a field of a struct that came in: each string is bounded by the form's reach. -/
theorem field_strings {ts : List TypeId} {ds : List (DataW H)} (hsz : (DataW.weightsEach P ts ds).all (· ≤ reachBytes) = true) {i : Nat} {ta : TypeId} {fs : Array Field} {parts : List (DataW H)} (hti : ts[i]? = some ta) (hdi : ds[i]? = some (.agg parts)) (hu : P.underlying ta = some (.struct fs))
    {j : Nat} {t e : TypeId} (hf : (fs.toList.map (·.type))[j]? = some t) {fuel : Nat} {a : Option Addr} {len cap : Nat} {x : DataW H × List MemPlace} (hp : parts[j]? = some x.1) (ht : P.underlying t = some (.slice e)) (he : P.underlying e = some .string) (hc : P.cellsOf e = 1)
    (h : DataW.trod enc P w base (fun _ => true) held fuel t (Value.slice a len cap).cells.toList = some x) :
    ∃ l : List ByteArray, Rds w a len (l.map Value.string) ∧ len ≤ cap ∧ cap ≤ maxLen ∧ ∀ s ∈ l, s.size ≤ 140737488351232 := by
  rcases open_strings ht he hc h with ⟨hcs, _⟩ | ⟨b, ln, c, ss, hcs, _, hl, hm, hz, hx, hcell, hwz⟩
  · simp [Value.cells] at hcs
    obtain ⟨rfl, rfl, rfl⟩ := hcs
    exact ⟨[], Rds.nil _, Nat.le_refl _, Nat.zero_le _, by simp⟩
  · simp [Value.cells] at hcs
    obtain ⟨rfl, rfl, rfl⟩ := hcs
    have hz' : ss.length = cap := by simpa using hz
    refine ⟨ss.take len, Open.rds_cells (by rw [List.length_map, List.length_take]; omega) (fun i hi => ?_), hl, hm, fun s hs => ?_⟩
    · rw [List.length_map, List.length_take] at hi
      rw [hcell i (by omega)]
      simp [List.getD, List.getElem?_eq_getElem (show i < ss.length by omega)]
    · have hmem : s.data.toList.length ∈ (DataW.agg parts).weights P ta := by
        simp only [DataW.weights, hu]
        refine DataW.weights_mem_each hf hp _ ?_
        rw [hx]
        simp only [DataW.weights, ht]
        refine List.mem_cons_of_mem _ (List.mem_append_left _ (weightsAll_mem (d := .lit (.string s.data.toList)) ?_ _ (by simp [DataW.weights])))
        simp only [strs, List.mem_map]
        exact ⟨s, hs, rfl⟩
      have := List.all_eq_true.1 hsz _ (DataW.weights_mem_each hti hdi _ hmem)
      rw [show s.data.toList.length = s.size from Array.length_toList] at this
      exact of_decide_eq_true this
/-- A slice of integers in a field of a struct that came in: its capacity is bounded by the form's reach. -/
theorem field_cap {ts : List TypeId} {ds : List (DataW H)} (hsz : (DataW.weightsEach P ts ds).all (· ≤ reachBytes) = true) {i : Nat} {ta : TypeId} {fs : Array Field} {parts : List (DataW H)} (hti : ts[i]? = some ta) (hdi : ds[i]? = some (.agg parts)) (hu : P.underlying ta = some (.struct fs))
    {j : Nat} {t e : TypeId} {k : IntKind} {b : Nat} (hf : (fs.toList.map (·.type))[j]? = some t) {fuel : Nat} {a : Option Addr} {len cap : Nat} {x : DataW H × List MemPlace} (hp : parts[j]? = some x.1) (ht : P.underlying t = some (.slice e)) (he : P.underlying e = some (.int k)) (hc : P.cellsOf e = 1) (hb : P.bytesOf e = b)
    (h : DataW.trod enc P w base (fun _ => true) held fuel t (Value.slice a len cap).cells.toList = some x) : cap * b ≤ 140737488351232 := by
  rcases Open2.cap_told ht he hc h with rfl | ⟨es, sp, e1, hl⟩
  · simp
  · have hmem : (es.length + sp.length) * P.bytesOf e ∈ (DataW.agg parts).weights P ta := by
      simp only [DataW.weights, hu]
      refine DataW.weights_mem_each hf hp _ ?_
      rw [e1]
      simp [DataW.weights, ht]
    have := List.all_eq_true.1 hsz _ (DataW.weights_mem_each hti hdi _ hmem)
    rw [hl, hb] at this
    exact of_decide_eq_true this
theorem list13 {α : Type} {l : List α} (h : l.length = 13) : ∃ a0 a1 a2 a3 a4 a5 a6 a7 a8 a9 a10 a11 a12, l = [a0, a1, a2, a3, a4, a5, a6, a7, a8, a9, a10, a11, a12] := by
  match l, h with
  | [a0, a1, a2, a3, a4, a5, a6, a7, a8, a9, a10, a11, a12], _ => exact ⟨_, _, _, _, _, _, _, _, _, _, _, _, _, rfl⟩
theorem list6 {α : Type} {l : List α} (h : l.length = 6) : ∃ a0 a1 a2 a3 a4 a5, l = [a0, a1, a2, a3, a4, a5] := by
  match l, h with
  | [a0, a1, a2, a3, a4, a5], _ => exact ⟨_, _, _, _, _, _, rfl⟩
theorem open_agg6 {r : Reach} {b0 : Nat} {t : TypeId} {f0 f1 f2 f3 f4 f5 : Field} {v : Value} {d : DataW H} {p : List MemPlace} (hs : P.underlying t = some (.struct #[f0, f1, f2, f3, f4, f5])) (hone : oneCellFields P #[f0, f1, f2, f3, f4, f5] = true) (hC : P.cellsOf t = 6)
    (hv : Value.okWide P w r b0 t v) (h : DataW.Trod enc P w base spare held t v d p) :
    ∃ (v0 v1 v2 v3 v4 v5 : Value) (y0 y1 y2 y3 y4 y5 : DataW H × List MemPlace) (n : Nat), v = .agg #[v0, v1, v2, v3, v4, v5] ∧ d = .agg [y0.1, y1.1, y2.1, y3.1, y4.1, y5.1] ∧ p = [y0, y1, y2, y3, y4, y5].flatMap (·.2) ∧
      DataW.trod enc P w base spare held n f0.type [v0] = some y0 ∧ DataW.trod enc P w base spare held n f1.type [v1] = some y1 ∧ DataW.trod enc P w base spare held n f2.type [v2] = some y2 ∧ DataW.trod enc P w base spare held n f3.type [v3] = some y3 ∧ DataW.trod enc P w base spare held n f4.type [v4] = some y4 ∧ DataW.trod enc P w base spare held n f5.type [v5] = some y5 := by
  obtain ⟨l, ys, n, rfl, hd, hp, hl, hy, hf⟩ := open_fields hs hone (hC.trans rfl) hv h
  obtain ⟨a0, a1, a2, a3, a4, a5, rfl⟩ := list6 hl
  obtain ⟨y0, y1, y2, y3, y4, y5, rfl⟩ := list6 hy
  exact ⟨a0, a1, a2, a3, a4, a5, y0, y1, y2, y3, y4, y5, n, rfl, hd, hp, hf 0 f0 rfl _ rfl, hf 1 f1 rfl _ rfl, hf 2 f2 rfl _ rfl, hf 3 f3 rfl _ rfl, hf 4 f4 rfl _ rfl, hf 5 f5 rfl _ rfl⟩
theorem open_agg13 {r : Reach} {b0 : Nat} {t : TypeId} {f0 f1 f2 f3 f4 f5 f6 f7 f8 f9 f10 f11 f12 : Field} {v : Value} {d : DataW H} {p : List MemPlace} (hs : P.underlying t = some (.struct #[f0, f1, f2, f3, f4, f5, f6, f7, f8, f9, f10, f11, f12])) (hone : oneCellFields P #[f0, f1, f2, f3, f4, f5, f6, f7, f8, f9, f10, f11, f12] = true) (hC : P.cellsOf t = 13)
    (hv : Value.okWide P w r b0 t v) (h : DataW.Trod enc P w base spare held t v d p) :
    ∃ (v0 v1 v2 v3 v4 v5 v6 v7 v8 v9 v10 v11 v12 : Value) (y0 y1 y2 y3 y4 y5 y6 y7 y8 y9 y10 y11 y12 : DataW H × List MemPlace) (n : Nat), v = .agg #[v0, v1, v2, v3, v4, v5, v6, v7, v8, v9, v10, v11, v12] ∧ d = .agg [y0.1, y1.1, y2.1, y3.1, y4.1, y5.1, y6.1, y7.1, y8.1, y9.1, y10.1, y11.1, y12.1] ∧ p = [y0, y1, y2, y3, y4, y5, y6, y7, y8, y9, y10, y11, y12].flatMap (·.2) ∧
      DataW.trod enc P w base spare held n f0.type [v0] = some y0 ∧ DataW.trod enc P w base spare held n f1.type [v1] = some y1 ∧ DataW.trod enc P w base spare held n f2.type [v2] = some y2 ∧ DataW.trod enc P w base spare held n f3.type [v3] = some y3 ∧ DataW.trod enc P w base spare held n f4.type [v4] = some y4 ∧ DataW.trod enc P w base spare held n f5.type [v5] = some y5 ∧ DataW.trod enc P w base spare held n f6.type [v6] = some y6 ∧ DataW.trod enc P w base spare held n f7.type [v7] = some y7 ∧ DataW.trod enc P w base spare held n f8.type [v8] = some y8 ∧ DataW.trod enc P w base spare held n f9.type [v9] = some y9 ∧ DataW.trod enc P w base spare held n f10.type [v10] = some y10 ∧ DataW.trod enc P w base spare held n f11.type [v11] = some y11 ∧ DataW.trod enc P w base spare held n f12.type [v12] = some y12 := by
  obtain ⟨l, ys, n, rfl, hd, hp, hl, hy, hf⟩ := open_fields hs hone (hC.trans rfl) hv h
  obtain ⟨a0, a1, a2, a3, a4, a5, a6, a7, a8, a9, a10, a11, a12, rfl⟩ := list13 hl
  obtain ⟨y0, y1, y2, y3, y4, y5, y6, y7, y8, y9, y10, y11, y12, rfl⟩ := list13 hy
  exact ⟨a0, a1, a2, a3, a4, a5, a6, a7, a8, a9, a10, a11, a12, y0, y1, y2, y3, y4, y5, y6, y7, y8, y9, y10, y11, y12, n, rfl, hd, hp, hf 0 f0 rfl _ rfl, hf 1 f1 rfl _ rfl, hf 2 f2 rfl _ rfl, hf 3 f3 rfl _ rfl, hf 4 f4 rfl _ rfl, hf 5 f5 rfl _ rfl, hf 6 f6 rfl _ rfl, hf 7 f7 rfl _ rfl, hf 8 f8 rfl _ rfl, hf 9 f9 rfl _ rfl, hf 10 f10 rfl _ rfl, hf 11 f11 rfl _ rfl, hf 12 f12 rfl _ rfl⟩
end Go.Proofs.Ytafnekilnbhhlaa.AggN
