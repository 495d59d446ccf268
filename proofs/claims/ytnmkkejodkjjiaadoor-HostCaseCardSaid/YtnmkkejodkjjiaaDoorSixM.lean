/- IPv6 addresses: addresses compared; awake; the law SixReads. -/
import Derived.Test.YtnmkkejodkjjiaaDoorSixL
import Derived.Laws.StructEq
namespace Go.Proofs.YtnmkkejodkjjiaaDoor.SixM
open Go.RowKit Go.Proofs.YtnmkkejodkjjiaaDoor.Base Go.Proofs.YtnmkkejodkjjiaaDoor.Base2 Go.Proofs.YtnmkkejodkjjiaaDoor.QudP Go.Proofs.YtnmkkejodkjjiaaDoor.SixP Go.Proofs.YtnmkkejodkjjiaaDoor.SixA Go.Proofs.YtnmkkejodkjjiaaDoor.SixB Go.Proofs.YtnmkkejodkjjiaaDoor.SixC Go.Proofs.YtnmkkejodkjjiaaDoor.SixG Go.Proofs.YtnmkkejodkjjiaaDoor.SixH Go.Proofs.YtnmkkejodkjjiaaDoor.SixI Go.Proofs.YtnmkkejodkjjiaaDoor.SixL Go.Proofs.YtnmkkejodkjjiaaDoor.Spl

theorem all_range_eq : ∀ (xs ys : List Nat), xs.length = ys.length → ((List.range xs.length).all fun i => xs.getD i 0 == ys.getD i 0) = (xs == ys)
  | [], [], _ => rfl
  | x :: xs, y :: ys, h => by
    have ih := all_range_eq xs ys (by simpa using h)
    rw [List.length_cons, List.range_succ_eq_map, List.all_cons, List.all_map]
    simp only [List.getD_cons_zero, Function.comp_def, List.getD_cons_succ, ih]
    simp [List.cons_beq_cons]
  | [], _ :: _, h => by simp at h
  | _ :: _, [], h => by simp at h
theorem run_equalIn_u16 {P : Program} (w : World) (d : Nat) (t e : TypeId) (n : Nat) (ht : P.underlying t = some (.array n e)) (he : P.underlying e = some (.int .u16)) (hsz : ∀ w, (sizeOf e).run P w = .ok 1 w)
    (xs ys : List Nat) (hx : xs.length = n) (hy : ys.length = n) :
    (Op.equalIn (d + 2) t (.agg (ncells xs).toArray) (.agg (ncells ys).toArray)).run P w = .ok (xs == ys) w := by
  rw [← all_range_eq xs ys (hx.trans hy.symm), hx, List.range_eq_range', Op.equalIn]
  simp only [Sem.run_bind, run_underlying ht, Result.andThen_ok, hsz, Std.Legacy.Range.forIn_eq_forIn_range', Std.Legacy.Range.size, Nat.sub_zero, Nat.add_sub_cancel, Nat.div_one]
  have hl : ∀ i ∈ List.range' 0 n 1, i < n := fun i hi => by simpa using (List.mem_range'_1.1 hi).2
  generalize List.range' 0 n 1 = l at hl ⊢
  induction l with
  | nil => simp
  | cons i l ih =>
    have hi : i < n := hl i (by simp)
    have px : (part e (ncells xs).toArray (i * 1)).run P w = .ok (.int .u16 ((xs.getD i 0 : Nat) : Int)) w := by
      simp [part, isAgg, run_underlying he, ncells, List.getD, List.getElem?_eq_getElem (show i < xs.length by omega)]
    have py : (part e (ncells ys).toArray (i * 1)).run P w = .ok (.int .u16 ((ys.getD i 0 : Nat) : Int)) w := by
      simp [part, isAgg, run_underlying he, ncells, List.getD, List.getElem?_eq_getElem (show i < ys.length by omega)]
    have pe : (Op.equalIn (d + 1) e (.int .u16 ((xs.getD i 0 : Nat) : Int)) (.int .u16 ((ys.getD i 0 : Nat) : Int))).run P w = .ok (xs.getD i 0 == ys.getD i 0) w := by
      rw [run_equalIn_int w d e .u16 .u16 _ _ he]
      congr 1
      rw [Bool.eq_iff_iff]
      simp
      omega
    simp only [List.forIn_cons, Sem.run_bind, px, py, pe, Result.andThen_ok, List.all_cons]
    cases hb : (xs.getD i 0 == ys.getD i 0)
    · simp
    · simp only [Bool.not_true, Bool.false_eq_true, if_false, Sem.run_pure, Result.andThen_ok, Bool.true_and]
      exact ih fun j hj => hl j (by simp [hj])
/-- Two addresses compared. -/
theorem eql8 (w : World) (xs ys : List Nat) (hx : xs.length = 8) (hy : ys.length = 8) :
    (binOp .eql 24 (.agg (ncells xs).toArray) (.agg (ncells ys).toArray)).run Tryd.prog w = .ok (.bool (xs == ys)) w := by
  rw [run_eql_struct, run_equalIn_u16 w 9998 24 23 8 Tryd.underlying24 Tryd.underlying23 Tryd.sizeOf23 xs ys hx hy]
  rfl
/-- An address with itself. -/
theorem eql_self (f : Nat → Nat) (w : World) : (binOp .eql 24 (.agg #[.int .u16 (f 0 : Int), .int .u16 (f 1 : Int), .int .u16 (f 2 : Int), .int .u16 (f 3 : Int), .int .u16 (f 4 : Int), .int .u16 (f 5 : Int), .int .u16 (f 6 : Int), .int .u16 (f 7 : Int)]) (.agg #[.int .u16 (f 0 : Int), .int .u16 (f 1 : Int), .int .u16 (f 2 : Int), .int .u16 (f 3 : Int), .int .u16 (f 4 : Int), .int .u16 (f 5 : Int), .int .u16 (f 6 : Int), .int .u16 (f 7 : Int)])).run Tryd.prog w = .ok (.bool true) w := by
  have := eql8 w (V8 f) (V8 f) rfl rfl
  rw [beq_self_eq_true] at this
  exact this
theorem sixv_fun {V : List Nat} (h : V.length = 8) : ∃ f : Nat → Nat, V = V8 f := ⟨fun i => V.getD i 0, list8 h⟩
theorem demo_six : six [58, 58, 102, 102, 102, 102, 58, 49, 46, 50, 46, 51, 46, 52] = some [0, 0, 0, 0, 0, 65535, 258, 772] := by decide +kernel
theorem demo_prt : SixI.prt (fun _ => 0) = [58, 58] := by decide +kernel
set_option maxRecDepth 100000 in
set_option maxHeartbeats 4000000 in
theorem awake_any (w : World) (hL : Lad w) (hM : Max w) : Calls Tryd.prog 11 #[] w fun e w' => e = .returned (.bool true) ∧ Below w.heap.size w w' := by
  have hP := fun w hM => parse_any ⟨#[58, 58, 102, 102, 102, 102, 58, 49, 46, 50, 46, 51, 46, 52]⟩ w (by decide) hM
  rw [show (⟨#[58, 58, 102, 102, 102, 102, 58, 49, 46, 50, 46, 51, 46, 52]⟩ : ByteArray).data.toList = [58, 58, 102, 102, 102, 102, 58, 49, 46, 50, 46, 51, 46, 52] from rfl, demo_six] at hP
  have hPr := fun w hL => print_any (fun _ => 0) (fun _ => by omega) w hL
  rw [demo_prt] at hPr
  have hE := fun w => eql_self (fun i => [0, 0, 0, 0, 0, 65535, 258, 772].getD i 0) w
  have HP := hid hP
  have HPR := hid hPr
  have HL := hid hL
  have HM := hid hM
  simp only [List.getD_cons_zero, List.getD_cons_succ] at hE
  replace hE : ∀ w : World, (binOp .eql 24 (.agg #[.int .u16 0, .int .u16 0, .int .u16 0, .int .u16 0, .int .u16 0, .int .u16 65535, .int .u16 258, .int .u16 772]) (.agg #[.int .u16 0, .int .u16 0, .int .u16 0, .int .u16 0, .int .u16 0, .int .u16 65535, .int .u16 258, .int .u16 772])).run Tryd.prog w = .ok (.bool true) w := hE
  clear hP hPr hL hM
  go_enter Tryd.func11, Tryd.ntmps11
  go_wp2_with fail
  refine (HP.out _ HM.out).mono ?_
  rintro e w2 ⟨rfl, hb2⟩
  rw [show SixV (some [0, 0, 0, 0, 0, 65535, 258, 772]) = .tuple #[.agg #[.int .u16 0, .int .u16 0, .int .u16 0, .int .u16 0, .int .u16 0, .int .u16 65535, .int .u16 258, .int .u16 772], .bool true] from rfl]
  have HB2 := hid hb2
  clear hb2
  go_wp2_with fail
  refine (HPR.out _ (HL.out.below (bel HB2.out ((Below.refl _ _).alloc (Nat.le_refl _) _)))).mono ?_
  rintro e w3 ⟨rfl, hb3⟩
  have HB3 := hid (bel (bel HB2.out ((Below.refl _ _).alloc (Nat.le_refl _) _)) hb3)
  clear hb3
  have hq : ((strOf [58, 58]).toList == [58, 58]) = true := by rw [Lib.toList_data]; rfl
  go_wp2
  go_ret
  exact ⟨rfl, HB3.out⟩
end Go.Proofs.YtnmkkejodkjjiaaDoor.SixM
