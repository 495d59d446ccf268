/- Scripts: an operation equals itself. -/
import Derived.Test.YtafnekilnbhhlaaScrH
import Derived.Stop.BytesEq
namespace Go.Proofs.Ytafnekilnbhhlaa.ScrQ
open Go.RowKit Go.Proofs.Ytafnekilnbhhlaa.Base Go.Proofs.Ytafnekilnbhhlaa.Base2 Go.Proofs.Ytafnekilnbhhlaa.AnsP Go.Proofs.Ytafnekilnbhhlaa.ScrP Go.Proofs.Ytafnekilnbhhlaa.ScrB

theorem eqf_cons {d : Nat} {xs ys : Array Value} {f : Field} {fs : List Field} {a : Value} {w : World} (hx : (part f.type xs f.offset).run Try.prog w = .ok a w) (hy : (part f.type ys f.offset).run Try.prog w = .ok a w) (he : (Op.equalIn d f.type a a).run Try.prog w = .ok true w)
    (h : (Op.eqFields d xs ys fs).run Try.prog w = .ok true w) : (Op.eqFields d xs ys (f :: fs)).run Try.prog w = .ok true w := by
  rw [Op.eqFields]
  split
  · simp only [Sem.run_bind, hx, hy, he, Result.andThen_ok]
    simpa using h
  · exact h
theorem eqf_nil {d : Nat} {xs ys : Array Value} {w : World} : (Op.eqFields d xs ys []).run Try.prog w = .ok true w := rfl
theorem part_one {t : TypeId} {xs : Array Value} {i : Nat} {v : Value} {w : World} (ha : (isAgg t).run Try.prog w = .ok false w) (h : xs[i]? = some v) : (part t xs i).run Try.prog w = .ok v w := by
  unfold part
  simp [Sem.run_bind, ha, h]
theorem part_many {t : TypeId} {xs : Array Value} {i n : Nat} {C : Array Value} {w : World} (ha : (isAgg t).run Try.prog w = .ok true w) (hs : (Try.prog.info? t).map (·.size) = some n) (h : xs.extract i (i + n) = C) : (part t xs i).run Try.prog w = .ok (.agg C) w := by
  cases hq : Try.prog.info? t with
  | none => simp [hq] at hs
  | some k =>
    have hk : k.size = n := by simpa [hq] using hs
    unfold part
    simp [Sem.run_bind, ha, sizeOf, typeInfo, hq, hk, h]
theorem no_agg {t : TypeId} {d : TypeDesc} (hu : Try.prog.underlying t = some d) (hd : d = .string ∨ ∃ k, d = .int k) (w : World) : (isAgg t).run Try.prog w = .ok false w := by
  unfold isAgg
  rw [Sem.run_bind, run_underlying hu w]
  rcases hd with rfl | ⟨k, rfl⟩ <;> rfl
theorem eq_int {d : Nat} {t : TypeId} {k : IntKind} {a : Int} {w : World} (h : Try.prog.underlying t = some (.int k)) : (Op.equalIn (d + 1) t (.int k a) (.int k a)).run Try.prog w = .ok true w := by
  rw [run_equalIn_int w d t k k a a h]
  simp
theorem eq_str {d : Nat} {t : TypeId} {a : ByteArray} {w : World} (h : Try.prog.underlying t = some .string) : (Op.equalIn (d + 1) t (.string a) (.string a)).run Try.prog w = .ok true w := by
  rw [run_equalIn_string w d t a a h]
  simp
theorem ext_bytes (o : O) (h : o.r.length = 16) : (cells o).toArray.extract 11 27 = (bcells o.r).toArray := by
  rw [List.extract_toArray]
  congr 1
  unfold cells
  simp only [List.drop_succ_cons, List.drop_zero, List.extract_eq_take_drop]
  rw [List.take_of_length_le (by rw [length_bcells, h]; decide)]
theorem ext_origin (o : O) : (cells o).toArray.extract 7 11 = #[.string (strOf o.c), .string (strOf o.d), .int .i64 (AnsW.sg o.p), .int .i64 (AnsW.sg o.n)] := by
  rw [List.extract_toArray]
  rfl
theorem at_cell {o : O} (i : Nat) {v : Value} (e : (cells o)[i]? = some v) : (cells o).toArray[i]? = some v := by rw [List.getElem?_toArray]; exact e
theorem eq_bytes (d : Nat) (L : List UInt8) (h : L.length = 16) (w : World) : (Op.equalIn (d + 2) 35 (.agg (bcells L).toArray) (.agg (bcells L).toArray)).run Try.prog w = .ok true w := by
  have h1 : ∀ w, (sizeOf 5).run Try.prog w = .ok 1 w := fun w => by
    have hi : (Try.prog.info? 5).map (·.size) = some 1 := by kernel_rfl
    cases hq : Try.prog.info? 5 with
    | none => simp [hq] at hi
    | some i =>
      have hs : i.size = 1 := by simpa [hq] using hi
      simp [sizeOf, typeInfo, hq, hs]
  have := run_equalIn_bytes (P := Try.prog) w d 35 5 16 Try.underlying35 Try.underlying5 h1 L L h h
  rw [show (L.map Extern.Stop.cell) = bcells L from rfl] at this
  rw [this]
  simp
theorem eq_origin (d : Nat) (o : O) (w : World) : (Op.equalIn (d + 2) 34 (.agg #[.string (strOf o.c), .string (strOf o.d), .int .i64 (AnsW.sg o.p), .int .i64 (AnsW.sg o.n)]) (.agg #[.string (strOf o.c), .string (strOf o.d), .int .i64 (AnsW.sg o.p), .int .i64 (AnsW.sg o.n)])).run Try.prog w = .ok true w := by
  have hS : Try.prog.underlying 34 = some (.struct (Try.prog.fieldsOf 34)) := by kernel_rfl
  have hp : Try.prog.stoodInHeld 34 = false := by kernel_rfl
  have us := no_agg Try.underlying9 (.inl rfl) w
  have ui := no_agg Try.underlying3 (.inr ⟨_, rfl⟩) w
  have ul := no_agg Try.underlying2 (.inr ⟨_, rfl⟩) w
  rw [run_equalIn_agg w (d + 1) 34 _ _ hS hp]
  simp only [Program.fieldsOf, Try.underlying34]
  refine eqf_cons (part_one us rfl) (part_one us rfl) (eq_str Try.underlying9) ?_
  refine eqf_cons (part_one us rfl) (part_one us rfl) (eq_str Try.underlying9) ?_
  refine eqf_cons (part_one ui rfl) (part_one ui rfl) (eq_int Try.underlying3) ?_
  exact eqf_cons (part_one ul rfl) (part_one ul rfl) (eq_int Try.underlying2) eqf_nil
theorem eq_op (o : O) (h : o.r.length = 16) (w : World) : (Op.equalIn 10000 37 (ScrB.val o) (ScrB.val o)).run Try.prog w = .ok true w := by
  have hS : Try.prog.underlying 37 = some (.struct (Try.prog.fieldsOf 37)) := by kernel_rfl
  have hp : Try.prog.stoodInHeld 37 = false := by kernel_rfl
  have us := no_agg Try.underlying9 (.inl rfl) w
  have u8 := no_agg Try.underlying5 (.inr ⟨_, rfl⟩) w
  have ul := no_agg Try.underlying2 (.inr ⟨_, rfl⟩) w
  have uo := agg_struct Try.underlying34 w
  have ua := agg_array Try.underlying35 w
  unfold ScrB.val
  rw [show (10000 : Nat) = 9999 + 1 from rfl, run_equalIn_agg w 9999 37 _ _ hS hp]
  simp only [Program.fieldsOf, Try.underlying37]
  refine eqf_cons (part_one u8 (at_cell 0 rfl)) (part_one u8 (at_cell 0 rfl)) (eq_int Try.underlying5) ?_
  refine eqf_cons (part_one u8 (at_cell 1 rfl)) (part_one u8 (at_cell 1 rfl)) (eq_int Try.underlying5) ?_
  refine eqf_cons (part_one ul (at_cell 2 rfl)) (part_one ul (at_cell 2 rfl)) (eq_int Try.underlying2) ?_
  refine eqf_cons (part_one ul (at_cell 3 rfl)) (part_one ul (at_cell 3 rfl)) (eq_int Try.underlying2) ?_
  refine eqf_cons (part_one ul (at_cell 4 rfl)) (part_one ul (at_cell 4 rfl)) (eq_int Try.underlying2) ?_
  refine eqf_cons (part_one us (at_cell 5 rfl)) (part_one us (at_cell 5 rfl)) (eq_str Try.underlying9) ?_
  refine eqf_cons (part_one us (at_cell 6 rfl)) (part_one us (at_cell 6 rfl)) (eq_str Try.underlying9) ?_
  refine eqf_cons (part_many (n := 4) uo (by kernel_rfl) (ext_origin o)) (part_many (n := 4) uo (by kernel_rfl) (ext_origin o)) (eq_origin 9997 o w) ?_
  exact eqf_cons (part_many (n := 16) ua (by kernel_rfl) (ext_bytes o h)) (part_many (n := 16) ua (by kernel_rfl) (ext_bytes o h)) (eq_bytes 9997 o.r h w) eqf_nil
theorem eq_rop (o : O) (h : o.r.length = 16) (w : World) : (Op.equalIn 10000 40 (ScrB.val o) (ScrB.val o)).run Try.prog w = .ok true w := by
  have hS : Try.prog.underlying 40 = some (.struct (Try.prog.fieldsOf 40)) := by kernel_rfl
  have hp : Try.prog.stoodInHeld 40 = false := by kernel_rfl
  have us := no_agg Try.underlying9 (.inl rfl) w
  have u8 := no_agg Try.underlying5 (.inr ⟨_, rfl⟩) w
  have ul := no_agg Try.underlying2 (.inr ⟨_, rfl⟩) w
  have uo := agg_struct Try.underlying34 w
  have ua := agg_array Try.underlying35 w
  unfold ScrB.val
  rw [show (10000 : Nat) = 9999 + 1 from rfl, run_equalIn_agg w 9999 40 _ _ hS hp]
  simp only [Program.fieldsOf, Try.underlying40]
  refine eqf_cons (part_one u8 (at_cell 0 rfl)) (part_one u8 (at_cell 0 rfl)) (eq_int Try.underlying5) ?_
  refine eqf_cons (part_one u8 (at_cell 1 rfl)) (part_one u8 (at_cell 1 rfl)) (eq_int Try.underlying5) ?_
  refine eqf_cons (part_one ul (at_cell 2 rfl)) (part_one ul (at_cell 2 rfl)) (eq_int Try.underlying2) ?_
  refine eqf_cons (part_one ul (at_cell 3 rfl)) (part_one ul (at_cell 3 rfl)) (eq_int Try.underlying2) ?_
  refine eqf_cons (part_one ul (at_cell 4 rfl)) (part_one ul (at_cell 4 rfl)) (eq_int Try.underlying2) ?_
  refine eqf_cons (part_one us (at_cell 5 rfl)) (part_one us (at_cell 5 rfl)) (eq_str Try.underlying9) ?_
  refine eqf_cons (part_one us (at_cell 6 rfl)) (part_one us (at_cell 6 rfl)) (eq_str Try.underlying9) ?_
  refine eqf_cons (part_many (n := 4) uo (by kernel_rfl) (ext_origin o)) (part_many (n := 4) uo (by kernel_rfl) (ext_origin o)) (eq_origin 9997 o w) ?_
  exact eqf_cons (part_many (n := 16) ua (by kernel_rfl) (ext_bytes o h)) (part_many (n := 16) ua (by kernel_rfl) (ext_bytes o h)) (eq_bytes 9997 o.r h w) eqf_nil
theorem neq_op (o : O) (h : o.r.length = 16) (w : World) : (binOp .neq 37 (ScrB.val o) (ScrB.val o)).run Try.prog w = .ok (.bool false) w := by
  unfold ScrB.val
  rw [run_neq_struct]
  have := eq_op o h w
  unfold ScrB.val at this
  rw [this]
  rfl
theorem neq_rop (o : O) (h : o.r.length = 16) (w : World) : (binOp .neq 40 (ScrB.val o) (ScrB.val o)).run Try.prog w = .ok (.bool false) w := by
  unfold ScrB.val
  rw [run_neq_struct]
  have := eq_rop o h w
  unfold ScrB.val at this
  rw [this]
  rfl
theorem guard_op (o : O) (x y : Operand) (w : World) : (eqGuard .neq 37 x y (ScrB.val o) (ScrB.val o)).run Try.prog w = .ok () w := by
  unfold ScrB.val
  exact run_eqGuard_agg (P := Try.prog) w .neq 37 x y _ _ (by kernel_rfl)
theorem guard_rop (o : O) (x y : Operand) (w : World) : (eqGuard .neq 40 x y (ScrB.val o) (ScrB.val o)).run Try.prog w = .ok () w := by
  unfold ScrB.val
  exact run_eqGuard_agg (P := Try.prog) w .neq 40 x y _ _ (by kernel_rfl)
end Go.Proofs.Ytafnekilnbhhlaa.ScrQ
