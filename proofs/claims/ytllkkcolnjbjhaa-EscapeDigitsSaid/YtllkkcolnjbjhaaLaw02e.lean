/- The walk of the law EscapeDigits: it returns true, whatever it is called with. -/
import Derived.Test.YtllkkcolnjbjhaaEscW
import Derived.Test.YtllkkcolnjbjhaaRegs
namespace Go.Proofs.Ytllkkcolnjbjhaa.Laws
open Go.RowKit Go.Proofs.Ytllkkcolnjbjhaa.Base Go.Proofs.Ytllkkcolnjbjhaa.Base2 Go.Proofs.Ytllkkcolnjbjhaa.EscI Go.Proofs.Ytllkkcolnjbjhaa.Regs

/-- The two tables: small letters, capital ones. -/
def tb (b : Bool) : ByteArray := if b then ⟨#[48, 49, 50, 51, 52, 53, 54, 55, 56, 57, 65, 66, 67, 68, 69, 70]⟩ else ⟨#[48, 49, 50, 51, 52, 53, 54, 55, 56, 57, 97, 98, 99, 100, 101, 102]⟩
def dg (b : Bool) (n : Nat) : UInt8 := if n < 10 then UInt8.ofNat (48 + n) else if b then UInt8.ofNat (55 + n) else UInt8.ofNat (87 + n)
theorem tb_size (b : Bool) : (tb b).size = 16 := by cases b <;> rfl
theorem ext_at (b : Bool) (n : Nat) (h : n < 16) : (tb b).extract n (n + 1) = strOf [dg b n] := by
  have H : ∀ (b : Bool) (n : Fin 16), (tb b).extract n.val (n.val + 1) = strOf [dg b n.val] := by
    intro b n
    apply ByteArray.ext
    revert b n
    decide +kernel
  exact H b ⟨n, h⟩
theorem ext_at' (b : Bool) (z : Int) (n : Nat) (hz : z = (n : Int)) (h : n < 16) : (tb b).extract z.toNat (z + 1).toNat = strOf [dg b n] := by
  subst hz
  rw [show ((n : Int) + 1).toNat = n + 1 by omega]
  exact ext_at b n h
theorem dec_dig (c : UInt8) (b1 b2 : Bool) : EscD.dec [120, 37, dg b1 (c.toNat / 16), dg b2 (c.toNat % 16), 121] = [120, c, 121] := by
  have H : ∀ (b1 b2 : Bool) (n : Fin 256), EscD.dec [120, 37, dg b1 (n.val / 16), dg b2 (n.val % 16), 121] = [120, UInt8.ofNat n.val, 121] := by decide +kernel
  have := H b1 b2 ⟨c.toNat, c.toNat_lt⟩
  simpa using this
theorem int_wrap8 {e : Int} (h0 : 0 ≤ e) (h1 : e ≤ 255) : Value.int .u8 (IntKind.u8.wrap e) = .int .u8 e := by
  rw [IntKind.wrap_u8]
  congr 1
  omega
theorem two_cells (w : World) (t : TypeId) (i : Nat) (h : i < 2) (x y : Value) (b : Bool) (hb : i = 0 ∧ b = false ∨ i = 1 ∧ b = true) (hx : x = .string (tb false)) (hy : y = .string (tb true)) :
    (w.alloc (.cells #[x, y] t)).cell? ⟨w.heap.size, i, none⟩ = some (.string (tb b)) := by
  subst hx hy
  rw [World.cell?_alloc_mark]
  rcases hb with ⟨rfl, rfl⟩ | ⟨rfl, rfl⟩ <;> rfl
set_option linter.unusedSimpArgs false in
set_option maxHeartbeats 4000000 in
set_option maxRecDepth 100000 in
theorem EscapeDigits_any (z : Int) (w : World) (hz : 0 ≤ z ∧ z ≤ 255) :
    Calls Try.prog 8 #[.int .u8 z] w fun e w' => e = .returned (.bool true) ∧ Below w.heap.size w w' := by
  obtain ⟨hz0, hz1⟩ := hz
  obtain ⟨c, rfl⟩ : ∃ c : UInt8, z = (c.toNat : Int) := ⟨UInt8.ofNat z.toNat, by simp; omega⟩
  have q1 : (0 : Int) ≤ (c.toNat : Int) / 16 := by omega
  have q2 : (c.toNat : Int) / 16 < 16 := by omega
  have q3 : (0 : Int) ≤ (c.toNat : Int) % 16 := by omega
  have q4 : (c.toNat : Int) % 16 < 16 := by omega
  have q5 := and15 c
  have q6 : (0 : Int) ≤ (c.toNat : Int) / 16 + 1 := by omega
  have q7 : (c.toNat : Int) / 16 + 1 ≤ 16 := by omega
  have q8 : (c.toNat : Int) / 16 ≤ (c.toNat : Int) / 16 + 1 := by omega
  have q9 : (0 : Int) ≤ (c.toNat : Int) % 16 + 1 := by omega
  have q10 : (c.toNat : Int) % 16 + 1 ≤ 16 := by omega
  have q11 : (c.toNat : Int) % 16 ≤ (c.toNat : Int) % 16 + 1 := by omega
  go_enter Try.func8, Try.ntmps8
  go_wp2
  generalize hw1 : w.alloc _ = w1
  have HW1 := hid hw1
  have hs1 : w1.heap.size = w.heap.size + 1 := by rw [← hw1]; simp
  have HC1 : Hid (∀ i, i < 2 → ∃ b, w1.cell? ⟨w.heap.size, i, none⟩ = some (.string (tb b))) := by
    intro i hi
    rw [← hw1]
    rcases (show i = 0 ∨ i = 1 by omega) with rfl | rfl
    · exact ⟨false, two_cells _ _ 0 (by omega) _ _ _ (Or.inl ⟨rfl, rfl⟩) rfl rfl⟩
    · exact ⟨true, two_cells _ _ 1 (by omega) _ _ _ (Or.inr ⟨rfl, rfl⟩) rfl rfl⟩
  have hb01 : Below w.heap.size w w1 := by rw [← hw1]; exact (Below.refl _ _).alloc (Nat.le_refl _) _
  clear hw1
  go_loopw [4, 6, 9] (fun _ _ vi wr => ∃ i : Nat, i ≤ 2 ∧ vi = .int .i64 i ∧ Below w1.heap.size w1 wr) (fun _ _ vi _ => 2 - (intOf vi).toNat)
  case atStart => exact ⟨0, by omega, rfl, Below.refl _ _⟩
  case round =>
    obtain ⟨i, hi, rfl, hbel1⟩ := hrel
    by_cases hlt : i < 2
    · obtain ⟨b1, hc1⟩ := HC1.out i hlt
      replace hc1 := (hbel1.cell (p := ⟨w.heap.size, i, none⟩) (by show w.heap.size < _; omega)).trans hc1
      have hc1' : wr.cell? ⟨w.heap.size, 0 + i, none⟩ = some (.string (tb b1)) := by rw [Nat.zero_add]; exact hc1
      go_wp2
      have hd1 : decide ((i : Int) < 2) = true := decide_eq_true (by omega)
      simp only [hd1]
      clear hd1
      generalize hw2 : wr.alloc _ = w2
      have hs2 : w2.heap.size = wr.heap.size + 1 := by rw [← hw2]; simp
      have HC2 : Hid (∀ i, i < 2 → ∃ b, ∀ wz, Below w2.heap.size w2 wz → wz.cell? ⟨wr.heap.size, i, none⟩ = some (.string (tb b))) := by
        intro i hi
        rcases (show i = 0 ∨ i = 1 by omega) with rfl | rfl
        · exact ⟨false, fun wz hz => (hz.cell (p := ⟨wr.heap.size, 0, none⟩) (by show wr.heap.size < _; omega)).trans (by rw [← hw2]; exact two_cells _ _ 0 (by omega) _ _ _ (Or.inl ⟨rfl, rfl⟩) rfl rfl)⟩
        · exact ⟨true, fun wz hz => (hz.cell (p := ⟨wr.heap.size, 1, none⟩) (by show wr.heap.size < _; omega)).trans (by rw [← hw2]; exact two_cells _ _ 1 (by omega) _ _ _ (Or.inr ⟨rfl, rfl⟩) rfl rfl)⟩
      have hb12 : Below w1.heap.size w1 w2 := by rw [← hw2]; exact hbel1.alloc hbel1.size _
      clear hw2 hc1 hc1'
      go_loopw [6, 15] (fun _ vj wr2 => ∃ j : Nat, j ≤ 2 ∧ vj = .int .i64 j ∧ Below w2.heap.size w2 wr2) (fun _ vj _ => 2 - (intOf vj).toNat)
      case atStart => exact ⟨0, by omega, rfl, Below.refl _ _⟩
      case round =>
        obtain ⟨j, hj, rfl, hbel2⟩ := hrel
        by_cases hlt2 : j < 2
        · obtain ⟨b2, hc2⟩ := HC2.out j hlt2
          replace hc2 := hc2 _ hbel2
          have t1 := tb_size b1
          have t2 := tb_size b2
          go_wp2
          have hd2 : decide ((j : Int) < 2) = true := decide_eq_true (by omega)
          simp only [hd2]
          clear hd2
          refine wp_region_rel (by kernel_rfl) [is (.string (tb b1)), is (.int .u8 (c.toNat : Int)), is (.int .u8 ((c.toNat : Int) / 16)), is (.int .u8 (c.toNat : Int)), is (.int .u8 ((c.toNat : Int) / 16)), is (.int .u8 ((c.toNat : Int) / 16 + 1)), is (.string (strOf [dg b1 (c.toNat / 16)])), is (.string (strOf [120, 37, dg b1 (c.toNat / 16)])), is (.string (tb b2)), is (.int .u8 (c.toNat : Int)), is (.int .u8 ((c.toNat : Int) % 16)), is (.int .u8 (c.toNat : Int)), is (.int .u8 ((c.toNat : Int) % 16)), is (.int .u8 ((c.toNat : Int) % 16 + 1)), is (.string (strOf [dg b2 (c.toNat % 16)])), is (.string (strOf [120, 37, dg b1 (c.toNat / 16), dg b2 (c.toNat % 16)])), is (.string (strOf [120, 37, dg b1 (c.toNat / 16), dg b2 (c.toNat % 16), 121])), row 3 (bcells [120, c, 121]), is (.string (strOf [120, c, 121])), is (.int .u8 (c.toNat : Int)), row 1 (bcells [c]), is (.string (strOf [c])), is (.string (strOf [120, c])), is (.string (strOf [120, c, 121])), is (.bool false)] [[], [], [1], [], [3], [4], [0, 2, 5], [6], [], [], [9], [], [11], [12], [8, 10, 13], [7, 14], [15], [16], [17], [], [19], [20], [21], [22], [18, 23]] (by kernel_rfl) ?_ ?_
          · refine ⟨?_, ?_, ?_, ?_, ?_, ?_, ?_, ?_, ?_, ?_, ?_, ?_, ?_, ?_, ?_, ?_, ?_, ?_, ?_, ?_, ?_, ?_, ?_, ?_, ?_, trivial⟩
            · intro t wq hbq hh K hK
              clear hh
              simp only [filled, upd, Have, is, any, row, pick, Act.put, List.setIfInBounds_toArray, List.set_cons_zero, List.set_cons_succ, Nat.reduceAdd, Nat.reduceEqDiff, reduceIte] at hK ⊢
              go_simp
              exact hK _ _ (Below.refl _ _) rfl
            · intro t wq hbq hh K hK
              clear hh
              simp only [filled, upd, Have, is, any, row, pick, Act.put, List.setIfInBounds_toArray, List.set_cons_zero, List.set_cons_succ, Nat.reduceAdd, Nat.reduceEqDiff, reduceIte] at hK ⊢
              go_simp
              exact hK _ _ (Below.refl _ _) rfl
            · intro t wq hbq hh K hK
              have e1 := hh.1
              simp only [pick] at e1
              replace e1 : t 1 = (.int .u8 (c.toNat : Int)) := e1
              clear hh
              simp only [filled, upd, Have, is, any, row, pick, Act.put, List.setIfInBounds_toArray, List.set_cons_zero, List.set_cons_succ, Nat.reduceAdd, Nat.reduceEqDiff, reduceIte] at hK ⊢
              simp only [e1] at hK ⊢
              go_simp
              first | exact hK _ _ (Below.refl _ _) rfl | exact hK _ _ (Below.refl _ _) (int_wrap8 (by omega) (by omega))
            · intro t wq hbq hh K hK
              clear hh
              simp only [filled, upd, Have, is, any, row, pick, Act.put, List.setIfInBounds_toArray, List.set_cons_zero, List.set_cons_succ, Nat.reduceAdd, Nat.reduceEqDiff, reduceIte] at hK ⊢
              go_simp
              exact hK _ _ (Below.refl _ _) rfl
            · intro t wq hbq hh K hK
              have e3 := hh.1
              simp only [pick] at e3
              replace e3 : t 3 = (.int .u8 (c.toNat : Int)) := e3
              clear hh
              simp only [filled, upd, Have, is, any, row, pick, Act.put, List.setIfInBounds_toArray, List.set_cons_zero, List.set_cons_succ, Nat.reduceAdd, Nat.reduceEqDiff, reduceIte] at hK ⊢
              simp only [e3] at hK ⊢
              go_simp
              first | exact hK _ _ (Below.refl _ _) rfl | exact hK _ _ (Below.refl _ _) (int_wrap8 (by omega) (by omega))
            · intro t wq hbq hh K hK
              have e4 := hh.1
              simp only [pick] at e4
              replace e4 : t 4 = (.int .u8 ((c.toNat : Int) / 16)) := e4
              clear hh
              simp only [filled, upd, Have, is, any, row, pick, Act.put, List.setIfInBounds_toArray, List.set_cons_zero, List.set_cons_succ, Nat.reduceAdd, Nat.reduceEqDiff, reduceIte] at hK ⊢
              simp only [e4] at hK ⊢
              go_simp
              first | exact hK _ _ (Below.refl _ _) rfl | exact hK _ _ (Below.refl _ _) (int_wrap8 (by omega) (by omega))
            · intro t wq hbq hh K hK
              have e0 := hh.1
              simp only [pick] at e0
              replace e0 : t 0 = (.string (tb b1)) := e0
              have e2 := hh.2.1
              simp only [pick] at e2
              replace e2 : t 2 = (.int .u8 ((c.toNat : Int) / 16)) := e2
              have e5 := hh.2.2.1
              simp only [pick] at e5
              replace e5 : t 5 = (.int .u8 ((c.toNat : Int) / 16 + 1)) := e5
              clear hh
              simp only [filled, upd, Have, is, any, row, pick, Act.put, List.setIfInBounds_toArray, List.set_cons_zero, List.set_cons_succ, Nat.reduceAdd, Nat.reduceEqDiff, reduceIte] at hK ⊢
              simp only [e0, e2, e5] at hK ⊢
              go_simp
              exact hK _ _ (Below.refl _ _) (by first | exact congrArg Value.string (ext_at' b1 _ _ (by omega) (by omega)) | (trace_state; fail))
            · intro t wq hbq hh K hK
              have e6 := hh.1
              simp only [pick] at e6
              replace e6 : t 6 = (.string (strOf [dg b1 (c.toNat / 16)])) := e6
              clear hh
              simp only [filled, upd, Have, is, any, row, pick, Act.put, List.setIfInBounds_toArray, List.set_cons_zero, List.set_cons_succ, Nat.reduceAdd, Nat.reduceEqDiff, reduceIte] at hK ⊢
              simp only [e6] at hK ⊢
              have hadd : (Op.stringOp .add (⟨#[120, 37]⟩ : ByteArray) (strOf [dg b1 (c.toNat / 16)])).run Try.prog wq = .ok (.string (strOf [120, 37, dg b1 (c.toNat / 16)])) wq := str_add [120, 37] [dg b1 (c.toNat / 16)] wq (by simp)
              go_simp
              exact hK _ _ (Below.refl _ _) rfl
            · intro t wq hbq hh K hK
              clear hh
              simp only [filled, upd, Have, is, any, row, pick, Act.put, List.setIfInBounds_toArray, List.set_cons_zero, List.set_cons_succ, Nat.reduceAdd, Nat.reduceEqDiff, reduceIte] at hK ⊢
              go_simp
              exact hK _ _ (Below.refl _ _) rfl
            · intro t wq hbq hh K hK
              clear hh
              simp only [filled, upd, Have, is, any, row, pick, Act.put, List.setIfInBounds_toArray, List.set_cons_zero, List.set_cons_succ, Nat.reduceAdd, Nat.reduceEqDiff, reduceIte] at hK ⊢
              go_simp
              exact hK _ _ (Below.refl _ _) rfl
            · intro t wq hbq hh K hK
              have e9 := hh.1
              simp only [pick] at e9
              replace e9 : t 9 = (.int .u8 (c.toNat : Int)) := e9
              clear hh
              simp only [filled, upd, Have, is, any, row, pick, Act.put, List.setIfInBounds_toArray, List.set_cons_zero, List.set_cons_succ, Nat.reduceAdd, Nat.reduceEqDiff, reduceIte] at hK ⊢
              simp only [e9] at hK ⊢
              go_simp
              first | exact hK _ _ (Below.refl _ _) rfl | exact hK _ _ (Below.refl _ _) (int_wrap8 (by omega) (by omega))
            · intro t wq hbq hh K hK
              clear hh
              simp only [filled, upd, Have, is, any, row, pick, Act.put, List.setIfInBounds_toArray, List.set_cons_zero, List.set_cons_succ, Nat.reduceAdd, Nat.reduceEqDiff, reduceIte] at hK ⊢
              go_simp
              exact hK _ _ (Below.refl _ _) rfl
            · intro t wq hbq hh K hK
              have e11 := hh.1
              simp only [pick] at e11
              replace e11 : t 11 = (.int .u8 (c.toNat : Int)) := e11
              clear hh
              simp only [filled, upd, Have, is, any, row, pick, Act.put, List.setIfInBounds_toArray, List.set_cons_zero, List.set_cons_succ, Nat.reduceAdd, Nat.reduceEqDiff, reduceIte] at hK ⊢
              simp only [e11] at hK ⊢
              go_simp
              first | exact hK _ _ (Below.refl _ _) rfl | exact hK _ _ (Below.refl _ _) (int_wrap8 (by omega) (by omega))
            · intro t wq hbq hh K hK
              have e12 := hh.1
              simp only [pick] at e12
              replace e12 : t 12 = (.int .u8 ((c.toNat : Int) % 16)) := e12
              clear hh
              simp only [filled, upd, Have, is, any, row, pick, Act.put, List.setIfInBounds_toArray, List.set_cons_zero, List.set_cons_succ, Nat.reduceAdd, Nat.reduceEqDiff, reduceIte] at hK ⊢
              simp only [e12] at hK ⊢
              go_simp
              first | exact hK _ _ (Below.refl _ _) rfl | exact hK _ _ (Below.refl _ _) (int_wrap8 (by omega) (by omega))
            · intro t wq hbq hh K hK
              have e8 := hh.1
              simp only [pick] at e8
              replace e8 : t 8 = (.string (tb b2)) := e8
              have e10 := hh.2.1
              simp only [pick] at e10
              replace e10 : t 10 = (.int .u8 ((c.toNat : Int) % 16)) := e10
              have e13 := hh.2.2.1
              simp only [pick] at e13
              replace e13 : t 13 = (.int .u8 ((c.toNat : Int) % 16 + 1)) := e13
              clear hh
              simp only [filled, upd, Have, is, any, row, pick, Act.put, List.setIfInBounds_toArray, List.set_cons_zero, List.set_cons_succ, Nat.reduceAdd, Nat.reduceEqDiff, reduceIte] at hK ⊢
              simp only [e8, e10, e13] at hK ⊢
              go_simp
              exact hK _ _ (Below.refl _ _) (by first | exact congrArg Value.string (ext_at' b2 _ _ (by omega) (by omega)) | (trace_state; fail))
            · intro t wq hbq hh K hK
              have e7 := hh.1
              simp only [pick] at e7
              replace e7 : t 7 = (.string (strOf [120, 37, dg b1 (c.toNat / 16)])) := e7
              have e14 := hh.2.1
              simp only [pick] at e14
              replace e14 : t 14 = (.string (strOf [dg b2 (c.toNat % 16)])) := e14
              clear hh
              simp only [filled, upd, Have, is, any, row, pick, Act.put, List.setIfInBounds_toArray, List.set_cons_zero, List.set_cons_succ, Nat.reduceAdd, Nat.reduceEqDiff, reduceIte] at hK ⊢
              simp only [e7, e14] at hK ⊢
              have hadd : (Op.stringOp .add (strOf [120, 37, dg b1 (c.toNat / 16)]) (strOf [dg b2 (c.toNat % 16)])).run Try.prog wq = .ok (.string (strOf [120, 37, dg b1 (c.toNat / 16), dg b2 (c.toNat % 16)])) wq := str_add [120, 37, dg b1 (c.toNat / 16)] [dg b2 (c.toNat % 16)] wq (by simp)
              go_simp
              exact hK _ _ (Below.refl _ _) rfl
            · intro t wq hbq hh K hK
              have e15 := hh.1
              simp only [pick] at e15
              replace e15 : t 15 = (.string (strOf [120, 37, dg b1 (c.toNat / 16), dg b2 (c.toNat % 16)])) := e15
              clear hh
              simp only [filled, upd, Have, is, any, row, pick, Act.put, List.setIfInBounds_toArray, List.set_cons_zero, List.set_cons_succ, Nat.reduceAdd, Nat.reduceEqDiff, reduceIte] at hK ⊢
              simp only [e15] at hK ⊢
              have hadd : (Op.stringOp .add (strOf [120, 37, dg b1 (c.toNat / 16), dg b2 (c.toNat % 16)]) (⟨#[121]⟩ : ByteArray)).run Try.prog wq = .ok (.string (strOf [120, 37, dg b1 (c.toNat / 16), dg b2 (c.toNat % 16), 121])) wq := str_add [120, 37, dg b1 (c.toNat / 16), dg b2 (c.toNat % 16)] [121] wq (by simp)
              go_simp
              exact hK _ _ (Below.refl _ _) rfl
            · intro t wq hbq hh K hK
              have e16 := hh.1
              simp only [pick] at e16
              replace e16 : t 16 = (.string (strOf [120, 37, dg b1 (c.toNat / 16), dg b2 (c.toNat % 16), 121])) := e16
              clear hh
              simp only [filled, upd, Have, is, any, row, pick, Act.put, List.setIfInBounds_toArray, List.set_cons_zero, List.set_cons_succ, Nat.reduceAdd, Nat.reduceEqDiff, reduceIte] at hK ⊢
              simp only [e16] at hK ⊢
              go_simp
              refine (EscD.decode_any (strOf [120, 37, dg b1 (c.toNat / 16), dg b2 (c.toNat % 16), 121]) _ (by rw [size_strOf]; simp)).mono ?_
              rintro e w5 ⟨v, rfl, hown, hb5⟩
              rw [show (strOf [120, 37, dg b1 (c.toNat / 16), dg b2 (c.toNat % 16), 121]).data.toList = [120, 37, dg b1 (c.toNat / 16), dg b2 (c.toNat % 16), 121] from rfl, dec_dig] at hown
              obtain ⟨A5, c5, rfl, hc5, hm5, hr5⟩ := owns_form hown
              exact hK _ _ hb5 ⟨_, _, rfl, hc5, hm5, hr5⟩
            · intro t wq hbq hh K hK
              have e17 := hh.1
              simp only [pick] at e17
              clear hh
              simp only [filled, upd, Have, is, any, row, pick, Act.put, List.setIfInBounds_toArray, List.set_cons_zero, List.set_cons_succ, Nat.reduceAdd, Nat.reduceEqDiff, reduceIte] at hK ⊢
              obtain ⟨A17, c17, e17, hc17, hm17, hr17⟩ := e17
              simp only [e17] at hK ⊢
              have hs := run_string_of 24 9 5 Try.underlying24 Try.underlying5 Try.underlying9 _ c17 hr17
              go_simp
              exact hK _ _ (Below.refl _ _) rfl
            · intro t wq hbq hh K hK
              clear hh
              simp only [filled, upd, Have, is, any, row, pick, Act.put, List.setIfInBounds_toArray, List.set_cons_zero, List.set_cons_succ, Nat.reduceAdd, Nat.reduceEqDiff, reduceIte] at hK ⊢
              go_simp
              exact hK _ _ (Below.refl _ _) rfl
            · intro t wq hbq hh K hK
              have e19 := hh.1
              simp only [pick] at e19
              replace e19 : t 19 = (.int .u8 (c.toNat : Int)) := e19
              clear hh
              simp only [filled, upd, Have, is, any, row, pick, Act.put, List.setIfInBounds_toArray, List.set_cons_zero, List.set_cons_succ, Nat.reduceAdd, Nat.reduceEqDiff, reduceIte] at hK ⊢
              simp only [e19] at hK ⊢
              go_simp
              exact hK _ _ ((Below.refl _ _).alloc (Nat.le_refl _) _) ⟨_, _, rfl, Nat.le_refl _, by decide, rds_const wq [c] 5 (0, 0)⟩
            · intro t wq hbq hh K hK
              have e20 := hh.1
              simp only [pick] at e20
              clear hh
              simp only [filled, upd, Have, is, any, row, pick, Act.put, List.setIfInBounds_toArray, List.set_cons_zero, List.set_cons_succ, Nat.reduceAdd, Nat.reduceEqDiff, reduceIte] at hK ⊢
              obtain ⟨A20, c20, e20, hc20, hm20, hr20⟩ := e20
              simp only [e20] at hK ⊢
              have hs := run_string_of 24 9 5 Try.underlying24 Try.underlying5 Try.underlying9 _ c20 hr20
              go_simp
              exact hK _ _ (Below.refl _ _) rfl
            · intro t wq hbq hh K hK
              have e21 := hh.1
              simp only [pick] at e21
              replace e21 : t 21 = (.string (strOf [c])) := e21
              clear hh
              simp only [filled, upd, Have, is, any, row, pick, Act.put, List.setIfInBounds_toArray, List.set_cons_zero, List.set_cons_succ, Nat.reduceAdd, Nat.reduceEqDiff, reduceIte] at hK ⊢
              simp only [e21] at hK ⊢
              have hadd : (Op.stringOp .add (⟨#[120]⟩ : ByteArray) (strOf [c])).run Try.prog wq = .ok (.string (strOf [120, c])) wq := str_add [120] [c] wq (by simp)
              go_simp
              exact hK _ _ (Below.refl _ _) rfl
            · intro t wq hbq hh K hK
              have e22 := hh.1
              simp only [pick] at e22
              replace e22 : t 22 = (.string (strOf [120, c])) := e22
              clear hh
              simp only [filled, upd, Have, is, any, row, pick, Act.put, List.setIfInBounds_toArray, List.set_cons_zero, List.set_cons_succ, Nat.reduceAdd, Nat.reduceEqDiff, reduceIte] at hK ⊢
              simp only [e22] at hK ⊢
              have hadd : (Op.stringOp .add (strOf [120, c]) (⟨#[121]⟩ : ByteArray)).run Try.prog wq = .ok (.string (strOf [120, c, 121])) wq := str_add [120, c] [121] wq (by simp)
              go_simp
              exact hK _ _ (Below.refl _ _) rfl
            · intro t wq hbq hh K hK
              have e18 := hh.1
              simp only [pick] at e18
              replace e18 : t 18 = (.string (strOf [120, c, 121])) := e18
              have e23 := hh.2.1
              simp only [pick] at e23
              replace e23 : t 23 = (.string (strOf [120, c, 121])) := e23
              clear hh
              simp only [filled, upd, Have, is, any, row, pick, Act.put, List.setIfInBounds_toArray, List.set_cons_zero, List.set_cons_succ, Nat.reduceAdd, Nat.reduceEqDiff, reduceIte] at hK ⊢
              simp only [e18, e23] at hK ⊢
              go_simp
              exact hK _ _ (Below.refl _ _) (by simp [is, pick])
          · intro t wq hbq hh
            have f24 := have_get hh 24 (by decide)
            simp only [pick] at f24
            replace f24 : t 24 = (.bool false) := f24
            clear hh
            simp only [filled, upd, Have, is, any, row, pick, Act.put, List.setIfInBounds_toArray, List.set_cons_zero, List.set_cons_succ, Nat.reduceAdd, Nat.reduceEqDiff, reduceIte]
            simp only [f24]
            go_wp2
            go_roundw
            case rel => exact ⟨j + 1, by omega, by go_num, hbel2.trans (hbq.mono hbel2.size)⟩
            case measure => simp [intOf]; omega
        · obtain rfl : j = 2 := by omega
          go_wp2
          go_roundw
          case rel => exact ⟨i + 1, by omega, by go_num, hb12.trans (hbel2.mono hb12.size)⟩
          case measure => simp [intOf]; omega
    · obtain rfl : i = 2 := by omega
      go_wp2_with fail
      refine (EscW.awake_any _).mono ?_
      rintro e w3 ⟨rfl, hb3⟩
      go_wp2
      go_ret
      exact ⟨rfl, (hb01.trans (hbel1.mono (by omega))).trans (hb3.mono (by have := hbel1.size; omega))⟩
end Go.Proofs.Ytllkkcolnjbjhaa.Laws
