/- 'b = append(b, c)' where b is []byte(s), or what came of that: a row of the call's own of which what lies behind it may be frozen. -/
import Derived.Test.YtaooiggckcfanaaGreatDoorMA
import Derived.Lib.FrozenHead
import Derived.Laws.CopyOwn
namespace Go.Proofs.YtaooiggckcfanaaGreatDoor.AppZ
open Go.RowKit Go.Proofs.YtaooiggckcfanaaGreatDoor.Base

/-- The slice v is the call's own row of the bytes L; frozen is nothing of its block, or what lies behind. -/
def OwnZ (w : World) (B : Nat) (v : Value) (n : Nat) (L : List UInt8) : Prop :=
  L.length = n ∧ ∃ g cap cur fz, v = .slice (some ⟨g, 0, none⟩) n cap ∧ B ≤ g ∧ w.heap[g]? = some (.cells cur 5 fz) ∧ (fz = (0, 0) ∨ cur.size ≤ fz.1) ∧ n ≤ cap ∧ cap ≤ maxLen ∧ cur.size = cap ∧ cur.toList.take n = bcells L
theorem lenb (L : List UInt8) : (bcells L).length = L.length := by simp [bcells]
theorem OwnZ.below {w w' : World} {B n : Nat} {v : Value} {L : List UInt8} (h : OwnZ w B v n L) (hb : Below w.heap.size w w') : OwnZ w' B v n L := by
  obtain ⟨h0, g, cap, cur, fz, h1, h2, h3, h4⟩ := h
  exact ⟨h0, g, cap, cur, fz, h1, h2, (hb.block g (Array.getElem?_eq_some_iff.1 h3).1).trans h3, h4⟩
theorem OwnZ.lt {w : World} {B n : Nat} {v : Value} {L : List UInt8} (h : OwnZ w B v n L) {g cap : Nat} (e : v = .slice (some ⟨g, 0, none⟩) n cap) : B ≤ g ∧ g < w.heap.size := by
  obtain ⟨h0, g', cap', cur, fz, h1, h2, h3, h4⟩ := h
  rw [h1] at e
  have : g' = g := by simpa using (Value.slice.inj e).1
  subst this
  exact ⟨h2, (Array.getElem?_eq_some_iff.1 h3).1⟩
theorem OwnZ.rds {w : World} {B n : Nat} {v : Value} {L : List UInt8} (h : OwnZ w B v n L) : ∃ g cap, v = .slice (some ⟨g, 0, none⟩) n cap ∧ n ≤ cap ∧ cap ≤ maxLen ∧ Rds w (some ⟨g, 0, none⟩) n (bcells L) := by
  obtain ⟨h0, g, cap, cur, fz, h1, h2, h3, h4, h5, h6, h7, h8⟩ := h
  refine ⟨g, cap, h1, h5, h6, ⟨by rw [lenb]; exact h0, fun j hj => ⟨g, 0, rfl, (Array.getElem?_eq_some_iff.1 h3).1, ?_⟩⟩⟩
  rw [Nat.zero_add, cell_of_row w g j cur _ fz h3]
  have hj2 : j < n := by rw [lenb] at hj; omega
  have e : (bcells L)[j]? = cur.toList[j]? := by rw [← h8, List.getElem?_take, if_pos hj2]
  rw [List.getElem?_eq_getElem hj] at e
  simpa using e.symm
/-- What '[]byte(s)' lays. -/
theorem OwnZ.made (w w0 : World) (s : ByteArray) (c : Nat) (hw : w.heap.size = w0.heap.size) (hc : s.size ≤ c) (hm : c ≤ maxLen) :
    OwnZ (w.alloc (.cells (bytesRow s c) 5 ((bytesRow s c).size, (bytesRow s c).size + 1))) w0.heap.size (.slice (some ⟨w.heap.size, 0, none⟩) s.size c) s.size s.data.toList := by
  have hs : (bytesRow s c).size = c := by
    have : s.data.size = s.size := rfl
    simp only [bytesRow, Array.size_append, Array.size_map, Array.size_replicate]
    omega
  refine ⟨Array.length_toList, w.heap.size, c, _, _, rfl, by omega, heap_alloc_new w _, Or.inr (Nat.le_refl _), hc, hm, hs, ?_⟩
  unfold bytesRow bcells
  rw [Array.toList_append, Array.toList_map]
  have hl : (s.data.toList.map fun b => Value.int .u8 (b.toNat : Int)).length = s.size := by rw [List.length_map]; exact Array.length_toList
  rw [← hl]
  exact List.take_left
section
variable {P : Program}
theorem store_one (w : World) (g o : Nat) (t : TypeId) (fz : Nat × Nat) (v : Value) (cur : Array Value) (hg : w.heap[g]? = some (.cells cur t fz)) (hfz : fz = (0, 0) ∨ cur.size ≤ fz.1) (ho : o < cur.size) (h1 : v.oneCell' = true) :
    (storeCells ⟨g, o, none⟩ [v] 0).run P w = .ok () (w.setRow g (cur.setIfInBounds o v)) := by
  have hadd : (⟨g, o, none⟩ : Addr).add 0 = ⟨g, o, none⟩ := by unfold Addr.add; split <;> simp_all
  have hcell : w.cell? ⟨g, o, none⟩ = some cur[o] := by simp [World.cell?, hg, ho]
  have hfro : w.frozen? ⟨g, o, none⟩ = false := by
    obtain ⟨lo, hi'⟩ := fz
    simp only [World.frozen?, hg, Bool.and_eq_false_iff, decide_eq_false_iff_not]
    rcases hfz with e | e
    · injection e with e1 e2
      right; omega
    · left
      simp only at e
      omega
  have hst : (store ((⟨g, o, none⟩ : Addr).add 0) v).run P w = .ok () (w.setRow g (cur.setIfInBounds o v)) := by
    rw [hadd, run_store P w _ v _ h1, hcell]
    simp [hfro, setCell_eq_setRow w g o cur t fz v hg]
  simp only [storeCells, Sem.run_bind, hst, Result.andThen_ok]
  rfl
theorem run_app (w : World) (B : Nat) (t ty : TypeId) (i : TypeInfo) (ht : P.underlying t = some (.slice 5)) (hi : P.info? 5 = some i) (hz : i.zero = some (.int .u8 0)) (hsize : i.size = 1) (hby : i.bytes = 1)
    (v : Value) (n : Nat) (L : List UInt8) (hown : OwnZ w B v n L) (a : Addr) (c : Nat) (x : UInt8) (hx : w.cell? (a.add 0) = some (.int .u8 (x.toNat : Int))) (h63 : n + 1 ≤ 1073741824) (hB : B ≤ w.heap.size) :
    ∃ v' w', (Builtin.append_ #[t, t] ty #[v, .slice (some a) 1 c]).run P w = .ok v' w' ∧ OwnZ w' B v' (n + 1) (L ++ [x]) ∧ Below B w w' := by
  obtain ⟨h0, g, cap, cur, fz, rfl, h2, h3, h4, h5, h6, h7, h8⟩ := hown
  have hnews : ∀ j u, [Value.int .u8 (x.toNat : Int)][j]? = some u → w.cell? (a.add j) = some u := by
    intro j u hj
    cases j with
    | zero => simp at hj; subst hj; exact hx
    | succ j => simp at hj
  have hbl : bcells (L ++ [x]) = bcells L ++ [Value.int .u8 (x.toNat : Int)] := by simp [bcells]
  by_cases hroom : n + 1 ≤ cap
  · have hf := run_firstCells_some (P := P) w i.size 1 a 1 c [Value.int .u8 (x.toNat : Int)] (by rw [hsize]; rfl) hnews
    have hst := store_one (P := P) w g n 5 fz (.int .u8 (x.toNat : Int)) cur h3 h4 (by omega) rfl
    have hr : (Builtin.append_ #[t, t] ty #[.slice (some ⟨g, 0, none⟩) n cap, .slice (some a) 1 c]).run P w = .ok (.slice (some ⟨g, 0, none⟩) (n + 1) cap) (w.setRow g (cur.setIfInBounds n (.int .u8 (x.toNat : Int)))) := by
      simp only [hsize] at hf
      simp [Builtin.append_, run_underlying ht, sizeOf, typeInfo, hi, hsize, Builtin.lenOf, hroom, hf, Addr.add_lit, hst]
    refine ⟨_, _, hr, ⟨by simp [h0], g, cap, _, fz, rfl, h2, setRow_heap w g cur _ _ fz h3, by simpa using h4, hroom, h6, by simpa using h7, ?_⟩, below_setRow (Below.refl _ _) h2 _⟩
    rw [hbl, ← h8, Array.toList_setIfInBounds, List.take_set, List.take_succ_eq_append_getElem (by rw [Array.length_toList]; omega)]
    have hl : (cur.toList.take n).length = n := by rw [List.length_take, Array.length_toList]; omega
    rw [List.set_append_right _ _ (by omega), hl, Nat.sub_self]
    rfl
  · have hxl : (bcells L).length = n * i.size := by rw [lenb, h0, hsize, Nat.mul_one]
    have holds : ∀ j u, (bcells L)[j]? = some u → w.cell? ((⟨g, 0, none⟩ : Addr).add j) = some u := by
      intro j u hj
      have hadd : (⟨g, 0, none⟩ : Addr).add j = ⟨g, j, none⟩ := by unfold Addr.add; split <;> simp_all
      rw [hadd, cell_of_row w g j cur _ fz h3]
      rw [← h8, List.getElem?_take] at hj
      split at hj
      · simpa using hj
      · cases hj
    have hr := run_append_grow (P := P) w t ty 5 i (.int .u8 0) ht hi hz ⟨g, 0, none⟩ n cap (bcells L) hxl holds a 1 c [Value.int .u8 (x.toNat : Int)] (by rw [hsize]; rfl) hnews (by omega) (by omega) (growslice_fits (by omega) (by rw [hby]; omega))
    have hge := grownCap_ge w (n + 1) cap 5
    have hcm := grownCap_le_maxLen w (n + 1) cap 5 (by unfold maxLen; omega)
    refine ⟨_, _, hr, ⟨by simp [h0], w.heap.size, _, _, (0, 0), rfl, hB, heap_alloc_new w.drew _, Or.inl rfl, hge, hcm, ?_, ?_⟩, ((Below.refl _ _).drew).alloc (by simpa using hB) _⟩
    · have hz1 : (Value.int IntKind.u8 0).cells.size = 1 := rfl
      simp only [Array.size_append, List.size_toArray, size_zeroCells, hz1, lenb, h0, List.length_cons, List.length_nil]
      omega
    · rw [hbl]
      simp only [Array.toList_append, List.append_assoc]
      have hlen : (bcells L ++ [Value.int .u8 (x.toNat : Int)]).length = n + 1 := by rw [List.length_append, lenb, h0]; rfl
      rw [← List.append_assoc, ← hlen]
      exact List.take_left
theorem wpList_appz {W w0 : World} {ops : Array Oper} {rest : List Oper} {o : Oper} {a : Act} {Q : Exit → Act → World → Prop} (hgd : o.guard = none) (s x : Operand) (t : TypeId) (ho : o.op = .call { callee := .builtin .append, args := #[s, x], argTypes := #[t, t] })
    (B : Nat) (i : TypeInfo) (ht : P.underlying t = some (.slice 5)) (hi : P.info? 5 = some i) (hz : i.zero = some (.int .u8 0)) (hsize : i.size = 1) (hby : i.bytes = 1)
    (v : Value) (n : Nat) (L : List UInt8) (hs : a.eval s = v) (hown : OwnZ W B v n L) (hbel : Below B w0 W) (hB : B ≤ W.heap.size) (c : UInt8) (z : Int) (hzc : z = (c.toNat : Int)) (hx : a.eval x = .slice (some ⟨W.heap.size, 0, none⟩) 1 1) (h63 : n + 1 ≤ 1073741824)
    (h : ∀ v' w', OwnZ w' B v' (n + 1) (L ++ [c]) → Below B w0 w' → wpList P ops Q rest (a.put o.dst v') w') :
    wpList P ops Q (o :: rest) a (W.alloc (.cells #[.int .u8 z] 5)) := by
  subst hzc
  have hb1 : Below W.heap.size W (W.alloc (.cells #[.int .u8 (c.toNat : Int)] 5)) := (Below.refl _ _).alloc (Nat.le_refl _) _
  have hcell : (W.alloc (.cells #[.int .u8 (c.toNat : Int)] 5)).cell? ((⟨W.heap.size, 0, none⟩ : Addr).add 0) = some (.int .u8 (c.toNat : Int)) := by
    have hadd : (⟨W.heap.size, 0, none⟩ : Addr).add 0 = ⟨W.heap.size, 0, none⟩ := by unfold Addr.add; split <;> simp_all
    rw [hadd, cell_of_row _ W.heap.size 0 _ _ _ (heap_alloc_new W _)]
    rfl
  obtain ⟨v', w', hr, h2, h3⟩ := run_app (P := P) (W.alloc (.cells #[.int .u8 (c.toNat : Int)] 5)) B t o.type i ht hi hz hsize hby v n L (hown.below hb1) ⟨W.heap.size, 0, none⟩ 1 c hcell h63 (by simp; omega)
  refine wpList_plain hgd fun K hK => ?_
  unfold Oper.wp execOp
  simp only [ho, resolve, invoke, builtin, Sem.run_bind, Sem.run_pure, Result.andThen_ok, List.map_toArray, List.map_cons, List.map_nil, hs, hx, hr]
  exact hK _ _ (h v' w' h2 ((hbel.alloc hB _).trans h3))
end
end Go.Proofs.YtaooiggckcfanaaGreatDoor.AppZ
