/- Texts that belong together: Ubp, Shs, Utab, Open, Open2. -/
import Derived.Test.YthajldjmplfnaaaGreatDoorNAF
import Derived.Test.YthajldjmplfnaaaGreatDoorNAJ
import Derived.Test.YthajldjmplfnaaaGreatDoorNAB
import Derived.Handed
import Derived.HandedShaped
import Derived.Shelf.Vars
import Derived.Test.YthajldjmplfnaaaGreatDoorNAH
import Derived.Lib.LaidU8
import Derived.Test.YthajldjmplfnaaaGreatDoorNAA
import Derived.ProofKit
import Derived.OpenShut
import Derived.ShutString
import Derived.ChangeOld
import Derived.Below
import Derived.SliceStrings
import Derived.SizedLaws
set_option linter.unusedSimpArgs false
set_option linter.unusedVariables false
namespace Go.Proofs.YthajldjmplfnaaaGreatDoor.Ubp
open Go.RowKit Base Base2 Regs Ubx PrsP StoR
structure GP (w4 : World) (u : U) (n : Nat) (xs : List Value) (v : Value) (L : Nat → Bool) (t : Nat → Value) (wr : World) : Prop where
 below : Below w4.heap.size w4 wr
 row : L 13 = false → L 1 = true → ∃ A c, t 1 = .slice A n c ∧ n ≤ c ∧ c ≤ maxLen ∧ Rds wr A n xs
 ptr : L 13 = false → L 6 = true → ∃ a, t 6 = .pointer (some a) ∧ a.block < wr.heap.size ∧ wr.cell? a = some v
 par : L 8 = true → ∃ A c, t 8 = .tuple #[.agg (cells u (.slice A 0 c)), .int .i64 0] ∧ c ≤ maxLen
 mov : L 9 = true → ∃ A c, t 9 = .tuple #[.agg (cells u (.slice A 0 c)), .int .i64 0] ∧ c ≤ maxLen
 val : L 10 = true → ∃ A c, t 10 = .agg (cells u (.slice A 0 c)) ∧ c ≤ maxLen
 box : L 12 = true → ∃ g, t 12 = .pointer (some ⟨g, 0, none⟩) ∧ w4.heap.size ≤ g ∧ (L 13 = false → UB wr g U0 (.slice none 0 0)) ∧ (L 13 = true → ∃ A c, c ≤ maxLen ∧ UB wr g u (.slice A 0 c))
section
variable {w4 : World} {u : U} {n : Nat} {xs : List Value} {v : Value} {L : Nat → Bool} {t : Nat → Value} {wr wq : World}
theorem GP.move (h : GP w4 u n xs v L t wr) (i : Nat) (x : Value) (h1 : i ≠ 1) (h6 : i ≠ 6) (h8 : i ≠ 8) (h9 : i ≠ 9) (h10 : i ≠ 10) (h12 : i ≠ 12) (h13 : i ≠ 13) (hb : Below wr.heap.size wr wq) : GP w4 u n xs v (did L i) (upd t i x) wq := by
 have e : ∀ k, k ≠ i → did L i k = L k ∧ upd t i x k = t k := fun k hk => ⟨did_ne L hk, by simp [upd, hk]⟩
 obtain ⟨a1, b1⟩ := e 1 (Ne.symm h1)
 obtain ⟨a6, b6⟩ := e 6 (Ne.symm h6)
 obtain ⟨a8, b8⟩ := e 8 (Ne.symm h8)
 obtain ⟨a9, b9⟩ := e 9 (Ne.symm h9)
 obtain ⟨a10, b10⟩ := e 10 (Ne.symm h10)
 obtain ⟨a12, b12⟩ := e 12 (Ne.symm h12)
 obtain ⟨a13, b13⟩ := e 13 (Ne.symm h13)
 refine ⟨bel h.below hb, ?_, ?_, ?_, ?_, ?_, ?_⟩
 ·rw [a13, a1, b1]
  intro c1 c2
  obtain ⟨A, c, d1, d2, d3, d4⟩ := h.row c1 c2
  exact ⟨A, c, d1, d2, d3, d4.below hb⟩
 ·rw [a13, a6, b6]
  intro c1 c2
  obtain ⟨a, d1, d2, d3⟩ := h.ptr c1 c2
  exact ⟨a, d1, Nat.lt_of_lt_of_le d2 hb.size, (hb.cell d2).trans d3⟩
 ·rw [a8, b8]; exact h.par
 ·rw [a9, b9]; exact h.mov
 ·rw [a10, b10]; exact h.val
 ·rw [a12, b12, a13]
  intro c1
  obtain ⟨g, d1, d2, d3, d4⟩ := h.box c1
  refine ⟨g, d1, d2, fun c => (d3 c).below hb, fun c => ?_⟩
  obtain ⟨A, c', f1, f2⟩ := d4 c
  exact ⟨A, c', f1, f2.below hb⟩
theorem stab (i : Nat) (hi : (i == 1 || i == 6 || i == 8 || i == 9 || i == 10 || i == 12 || i == 13) = false) {x : Value} (hb : Below wr.heap.size wr wq) (h : GP w4 u n xs v L t wr) : GP w4 u n xs v (did L i) (upd t i x) wq := by
 simp only [Bool.or_eq_false_iff, beq_eq_false_iff_ne] at hi
 exact h.move i x hi.1.1.1.1.1.1 hi.1.1.1.1.1.2 hi.1.1.1.1.2 hi.1.1.1.2 hi.1.1.2 hi.1.2 hi.2 hb
theorem low (h : GP w4 u n xs v L t wr) (hb : Below wr.heap.size wr wq) (i : Nat) (x : Value) (h13 : i ≠ 13)
  (r : L 13 = false → i = 1 → ∃ A c, x = .slice A n c ∧ n ≤ c ∧ c ≤ maxLen ∧ Rds wq A n xs) (p : L 13 = false → i = 6 → ∃ a, x = .pointer (some a) ∧ a.block < wq.heap.size ∧ wq.cell? a = some v)
  (q : i = 8 ∨ i = 9 → ∃ A c, x = .tuple #[.agg (cells u (.slice A 0 c)), .int .i64 0] ∧ c ≤ maxLen) (s : i = 10 → ∃ A c, x = .agg (cells u (.slice A 0 c)) ∧ c ≤ maxLen)
  (b : i = 12 → L 13 = false ∧ ∃ g, x = .pointer (some ⟨g, 0, none⟩) ∧ w4.heap.size ≤ g ∧ UB wq g U0 (.slice none 0 0)) : GP w4 u n xs v (did L i) (upd t i x) wq := by
 have e : ∀ k, k ≠ i → did L i k = L k ∧ upd t i x k = t k := fun k hk => ⟨did_ne L hk, by simp [upd, hk]⟩
 have f : upd t i x i = x := by simp [upd]
 obtain ⟨a13, _⟩ := e 13 (Ne.symm h13)
 refine ⟨bel h.below hb, ?_, ?_, ?_, ?_, ?_, ?_⟩
 ·rw [a13]
  intro c1 c2
  by_cases hi : i = 1
  ·subst hi; rw [f]; exact r c1 rfl
  ·obtain ⟨a1, b1⟩ := e 1 (Ne.symm hi)
   rw [a1] at c2
   rw [b1]
   obtain ⟨A, c, d1, d2, d3, d4⟩ := h.row c1 c2
   exact ⟨A, c, d1, d2, d3, d4.below hb⟩
 ·rw [a13]
  intro c1 c2
  by_cases hi : i = 6
  ·subst hi; rw [f]; exact p c1 rfl
  ·obtain ⟨a1, b1⟩ := e 6 (Ne.symm hi)
   rw [a1] at c2
   rw [b1]
   obtain ⟨a, d1, d2, d3⟩ := h.ptr c1 c2
   exact ⟨a, d1, Nat.lt_of_lt_of_le d2 hb.size, (hb.cell d2).trans d3⟩
 ·intro c2
  by_cases hi : i = 8
  ·subst hi; rw [f]; exact q (.inl rfl)
  ·obtain ⟨a1, b1⟩ := e 8 (Ne.symm hi)
   rw [a1] at c2
   rw [b1]
   exact h.par c2
 ·intro c2
  by_cases hi : i = 9
  ·subst hi; rw [f]; exact q (.inr rfl)
  ·obtain ⟨a1, b1⟩ := e 9 (Ne.symm hi)
   rw [a1] at c2
   rw [b1]
   exact h.mov c2
 ·intro c2
  by_cases hi : i = 10
  ·subst hi; rw [f]; exact s rfl
  ·obtain ⟨a1, b1⟩ := e 10 (Ne.symm hi)
   rw [a1] at c2
   rw [b1]
   exact h.val c2
 ·rw [a13]
  intro c2
  by_cases hi : i = 12
  ·subst hi
   rw [f]
   obtain ⟨z, g, d1, d2, d3⟩ := b rfl
   exact ⟨g, d1, d2, fun _ => d3, fun y => by rw [z] at y; cases y⟩
  ·obtain ⟨a1, b1⟩ := e 12 (Ne.symm hi)
   rw [a1] at c2
   rw [b1]
   obtain ⟨g, d1, d2, d3, d4⟩ := h.box c2
   refine ⟨g, d1, d2, fun c => (d3 c).below hb, fun c => ?_⟩
   obtain ⟨A, c', f1, f2⟩ := d4 c
   exact ⟨A, c', f1, f2.below hb⟩
theorem put (h : GP w4 u n xs v L t wr) {g c : Nat} {A : Option Addr} (hg : t 12 = .pointer (some ⟨g, 0, none⟩)) (hw : w4.heap.size ≤ g) (hu : UB wr g U0 (.slice none 0 0)) (hc : c ≤ maxLen) (x : Value) : GP w4 u n xs v (did L 13) (upd t 13 x) (wr.setRow g (cells u (.slice A 0 c))) := by
 have e : ∀ k, k ≠ 13 → did L 13 k = L k ∧ upd t 13 x k = t k := fun k hk => ⟨did_ne L hk, by simp [upd, hk]⟩
 have s := did_self L 13
 obtain ⟨a8, b8⟩ := e 8 (by decide)
 obtain ⟨a9, b9⟩ := e 9 (by decide)
 obtain ⟨a10, b10⟩ := e 10 (by decide)
 obtain ⟨a12, b12⟩ := e 12 (by decide)
 refine ⟨below_setRow h.below hw _, ?_, ?_, ?_, ?_, ?_, ?_⟩
 ·rw [s]; intro y; cases y
 ·rw [s]; intro y; cases y
 ·rw [a8, b8]; exact h.par
 ·rw [a9, b9]; exact h.mov
 ·rw [a10, b10]; exact h.val
 ·rw [a12, b12, s]
  intro _
  exact ⟨g, hg, hw, fun y => (by cases y), fun _ => ⟨A, c, hc, hu.row u (.slice A 0 c)⟩⟩
theorem beg (w4 : World) (u : U) (n : Nat) (xs : List Value) (v : Value) (t : Nat → Value) : GP w4 u n xs v (fun _ => false) t w4.drew :=
 ⟨(Below.refl _ _).drew, fun _ y => (by cases y), fun _ y => (by cases y), fun y => (by cases y), fun y => (by cases y), fun y => (by cases y), fun y => (by cases y)⟩
end
theorem step_box {ops : Array Oper} {p : Oper} {a : Act} {w : World} {Q : Exit → Act → World → Prop} {K : Act → World → Prop} {E : Prop} {ys : Array Value} {g : Nat} {v : U} {q : Value} (hU : UB w g v q) (u : U) (A : Option Addr) (n c : Nat) (x y : Operand) (ho : p.op = .store 34 x y) (hgd : p.guard = none)
  (hx : a.eval x = .pointer (some ⟨g, 0, none⟩)) (hy : a.eval y = .agg (cells u (.slice A n c)))
  (h : K (a.put p.dst undef) (w.setRow g (cells u (.slice A n c)))) : if Region.wanted p (yielded ops ys) = true then Oper.wp Tryz.prog p a w K Q else E := by
 rw [if_pos (by simp [Region.wanted, hgd])]
 exact wp_store_row 34 x y ho g (cells u (.slice A n c)) hx hy 34 (cells v q) hU (by kernel_rfl) rfl (by simp [cells, Value.oneCell']) h
end Go.Proofs.YthajldjmplfnaaaGreatDoor.Ubp
namespace Go.Proofs.YthajldjmplfnaaaGreatDoor.Shs
open Go.RowKit Base
variable {H : Type} {enc : TypeId × Value → H}
theorem wrap {a : Assume} {C : Checked} {os : Os} {f : FuncId} {fn : Func} {s : ChangeSpec} {conds : List PathCond} {apart fresh handsOn again : Bool} {X : World → Array Value → Prop}
  (hX : ∀ (w w' : World) (args : Array Value), w.heap = w'.heap → X w args → X w' args)
  (own : ownKnob C.prog.godebug = none) (started : os.Started) (noInit : C.prog.inits.idxOf? f = none) (hfn : C.prog.funcs[f]? = some fn)
  (witness : ∃ (w : World) (tape : Tape) (i : Input), w.os = os ∧ (w.forCall tape i).Shaped C.prog ∧ i.vars = [] ∧ Input.okWide C.prog (w.forCall tape i) .any w.heap.size f i ∧
   ((s.pre enc C.prog fn conds apart (w.forCall tape i).memory i.args ∧ X (w.forCall tape i).memory i.args) ∧ sizedMet enc C.prog fn (OpenSpec.ofChange s) apart (w.forCall tape i).memory i.args) ∧ a.holds C.prog (lone (Frame.enter C.prog f i.args .normal) [] (w.forCall tape i)))
  (contract : ∀ (W : World) (base : Nat) (args : Array Value) (ds gs : List (DataW H)) (before : List MemPlace),
   (∀ (j : Nat) t v, fn.params[j]? = some t → args[j]? = some v → Value.okWide C.prog W .any base t v) →
   DataW.Whole enc C.prog fn.params.toList s.vars apart W args.toList ds gs before →
   conds.all (PathCond.test C.prog ⟨fn.params.toList, ds, s.plain.varTypes C.prog, gs⟩) = true →
   (DataW.weightsEach C.prog (fn.params.toList ++ s.plain.varTypes C.prog) (ds ++ gs)).all (· ≤ reachBytes) = true → X W args → W.ShapedOpen C.prog →
   a.holds C.prog (lone (Frame.enter C.prog f args .normal) [] W) →
   Calls C.prog f args W fun e W' => ∃ v, e = .returned v ∧ s.post enc C.prog fn apart fresh handsOn again W args v W') :
  ReturnsInHanded a C os f .any (fun w args => (s.pre enc C.prog fn conds apart w args ∧ X w args) ∧ sizedMet enc C.prog fn (OpenSpec.ofChange s) apart w args) (s.post enc C.prog fn apart fresh handsOn again) := by
 refine returnsInHanded_of_calls own started noInit witness ?_
 intro w tape i _ hsh _ hok hpre hholds
 obtain ⟨_, _, _, fn', hfn', _, _, _, _, hval⟩ := hok
 have e : fn' = fn := Option.some.inj (hfn'.symm.trans hfn)
 subst e
 obtain ⟨⟨⟨ds, gs, before, hw, hc⟩, hx⟩, hz⟩ := hpre
 have hw' := DataW.Whole.of_heap (w' := w.forCall tape i) (by rfl) hw
 refine (contract (w.forCall tape i) w.heap.size i.args ds gs before hval hw' hc (hz.weights hw) (hX _ _ _ (by rfl) hx) hsh hholds).mono fun e W' ⟨v, he, hp⟩ => ?_
 subst he
 exact ChangeSpec.post_blind hp
theorem max_of {w : World} (h : w.ShapedOpen Tryz.prog) : Spl.Max w := Go.Proofs.cell_of_shapedOpen_int (zero := #[.int .i64 0]) (t := 3) h (of_decide_eq_true (by kernel_rfl)) (by kernel_rfl) rfl (by kernel_rfl) (by kernel_rfl) Tryz.underlying3
end Go.Proofs.YthajldjmplfnaaaGreatDoor.Shs
namespace Go.Proofs.YthajldjmplfnaaaGreatDoor.Utab
open Go.RowKit Go.Lib
theorem utab_of {W : World} {l : List (String × DataW Unit)} (h : laidMet Tryz.prog l W) (h1 : ("unicode/utf8.first", firstData) ∈ l) (h2 : ("unicode/utf8.acceptRanges", acceptData) ∈ l) : PrsG.Utab W :=
 utf8Tabs_of_reads (ρ := Tryz.l237_ren) { Tryz.l237 with } ⟨by kernel_rfl, by kernel_rfl, by kernel_rfl, by kernel_rfl, by kernel_rfl, by kernel_rfl, by kernel_rfl⟩ (Lib.laidMet.reads h h1) (Lib.laidMet.reads h h2)
end Go.Proofs.YthajldjmplfnaaaGreatDoor.Utab
namespace Go.Proofs.YthajldjmplfnaaaGreatDoor.Open2
open Go.ChangeShapes Go.WideShapes Go.ChangeAt Go.RowKit Base
variable {P : Program} {w : World} {H : Type} {enc : TypeId × Value → H} {base : Nat} {held : Bool}
theorem cap_told {t e : TypeId} {k : IntKind} {fuel : Nat} {a : Option Addr} {len cap : Nat} {x : DataW H × List MemPlace} (ht : P.underlying t = some (.slice e)) (he : P.underlying e = some (.int k)) (hc : P.cellsOf e = 1)
  (h : DataW.trod enc P w base (fun _ => true) held fuel t (Value.slice a len cap).cells.toList = some x) :
  cap = 0 ∨ ∃ es sp, x.1 = .slice es sp ∧ es.length + sp.length = cap := by
 rcases open_ints ht he hc h with ⟨hcs, _⟩ | ⟨_, l, c, zs, hcs, _, hl, hm, hz, rfl, _, _⟩
 ·simp [Value.cells] at hcs
  exact .inl hcs.2.2
 ·simp [Value.cells] at hcs
  obtain ⟨rfl, rfl, rfl⟩ := hcs
  have hz' : zs.length = cap := by simpa using hz
  refine .inr ⟨_, _, rfl, ?_⟩
  simp only [lits, List.length_map, List.length_take, List.length_drop]
  omega
theorem reach {ts : List TypeId} {ds : List (DataW H)} (hsz : (DataW.weightsEach P ts ds).all (· ≤ reachBytes) = true) {j : Nat} {t e : TypeId} {k : IntKind} {b fuel : Nat} {a : Option Addr} {len cap : Nat} {x : DataW H × List MemPlace}
  (htj : ts[j]? = some t) (hdj : ds[j]? = some x.1) (ht : P.underlying t = some (.slice e)) (he : P.underlying e = some (.int k)) (hc : P.cellsOf e = 1) (hb : P.bytesOf e = b)
  (h : DataW.trod enc P w base (fun _ => true) held fuel t (Value.slice a len cap).cells.toList = some x) : cap * b ≤ 140737488351232 := by
 rcases cap_told ht he hc h with rfl | ⟨es, sp, e1, hl⟩
 ·simp
 ·have := sized_slice hsz htj (hdj.trans (congrArg some e1)) ht
  rw [hl, hb] at this
  exact this
theorem field_string {ts : List TypeId} {ds : List (DataW H)} (hsz : (DataW.weightsEach P ts ds).all (· ≤ reachBytes) = true) {i : Nat} {t : TypeId} {fs : Array Field} {parts : List (DataW H)} (hti : ts[i]? = some t) (hdi : ds[i]? = some (.agg parts)) (hu : P.underlying t = some (.struct fs))
  {j : Nat} {ft : TypeId} {bytes : List UInt8} (hf : (fs.toList.map (·.type))[j]? = some ft) (hp : parts[j]? = some (.lit (.string bytes))) : bytes.length ≤ reachBytes := by
 have := List.all_eq_true.1 hsz _ (DataW.weights_mem_each hti hdi bytes.length (by
  simp only [DataW.weights, hu]
  exact DataW.weights_mem_each hf hp _ (by simp [DataW.weights])))
 simpa using this
end Go.Proofs.YthajldjmplfnaaaGreatDoor.Open2
