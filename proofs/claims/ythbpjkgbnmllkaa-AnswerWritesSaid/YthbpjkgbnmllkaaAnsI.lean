/- Answers: the laws' 'awake'; two answers' equality. -/
import Derived.Test.YthbpjkgbnmllkaaAnsH
import Derived.Laws.StructEq
namespace Go.Proofs.Ythbpjkgbnmllkaa.AnsI
open Go.RowKit Go.Proofs.Ythbpjkgbnmllkaa.Base Go.Proofs.Ythbpjkgbnmllkaa.Base2 Go.Proofs.Ythbpjkgbnmllkaa.Base3 Go.Proofs.Ythbpjkgbnmllkaa.AnsP Go.Proofs.Ythbpjkgbnmllkaa.AnsB Go.Proofs.Ythbpjkgbnmllkaa.AnsD

theorem encode_any' (a : Ans) (so st f t : Int) (k : ByteArray) (w : World) (A : Option Addr) (n c : Nat) (h : IsA a so st k w A n c) (hf : f = AnsW.sg a.first) (ht : t = AnsW.sg a.total) :
    Calls Try.prog 10 #[.agg #[.int .i64 so, .int .i64 st, .int .i64 f, .int .i64 t, .string k, .slice A n c]] w fun e w' => ∃ v, e = .returned v ∧ w'.ownsRow w.heap.size 5 1 v (enc a).length (bcells (enc a)) ∧ Below w.heap.size w w' := by
  subst hf ht
  exact encode_any a so st k w A n c h
def a5 : Ans := ⟨5, 0, 0, 0, [], []⟩
def a0 : Ans := ⟨0, 0, 0, 0, [], []⟩
theorem fits5 : Fits a5 := ⟨by decide, by decide, by decide, by decide, by decide, by decide⟩
theorem fits0 : Fits a0 := ⟨by decide, by decide, by decide, by decide, by decide, by decide⟩
theorem len5 : (enc a5).length = 29 := by rw [length_enc]; rfl
theorem len0 : (enc a0).length = 29 := by rw [length_enc]; rfl
theorem is5 (w : World) : IsA a5 5 0 ⟨#[]⟩ w none 0 0 := ⟨by decide, by decide, rfl, Rds.nil _, by decide, by decide, fits5⟩
theorem is0 (w : World) : IsA a0 0 0 ⟨#[]⟩ w none 0 0 := ⟨by decide, by decide, rfl, Rds.nil _, by decide, by decide, fits0⟩
theorem sg0 : (0 : Int) = AnsW.sg 0 := by decide
set_option maxRecDepth 100000 in
set_option maxHeartbeats 2000000 in
theorem awake_any (w : World) : Calls Try.prog 8 #[] w fun e w' => e = .returned (.bool true) ∧ Below w.heap.size w w' := by
  have HD5 : Hid (dec (enc a5) = some a5) := dec_enc a5 fits5
  go_enter Try.func8, Try.ntmps8
  go_wp2_with fail
  refine (encode_any' a5 5 0 0 0 ⟨#[]⟩ _ none 0 0 (is5 _) sg0 sg0).mono ?_
  rintro e w1 ⟨v, rfl, hown, hb1⟩
  rw [len5] at hown
  obtain ⟨A, c, rfl, hnc, hcm, hr⟩ := owns_form hown
  have HR := hid hr
  have HB1 := hid hb1
  clear hown hr hb1
  go_wp2_with fail
  refine (decode_any A 29 c _ _ HR.out (by omega)).mono ?_
  rintro e w2 ⟨hb2, hm⟩
  rw [HD5.out] at hm
  have hm' : ∃ A2 c2, e = .returned (.tuple #[.agg #[.int .i64 5, .int .i64 0, .int .i64 0, .int .i64 0, .string ⟨#[]⟩, .slice A2 0 c2], .int .i64 0]) ∧ Rds w2 A2 0 (bcells []) := hm
  obtain ⟨A2, c2, rfl, hr2⟩ := hm'
  have HB2 : Hid (Below w.heap.size w w2) := bel HB1.out hb2
  have HR2 := hid hr2
  clear hm hb2 hr2
  go_wp2_with fail
  have hx := heap_alloc_new w2 (.cells #[.int .i64 5, .int .i64 0, .int .i64 0, .int .i64 0, .string ⟨#[]⟩, .slice A2 0 c2] 24)
  have hb3 : Below w2.heap.size w2 (w2.alloc (.cells #[.int .i64 5, .int .i64 0, .int .i64 0, .int .i64 0, .string ⟨#[]⟩, .slice A2 0 c2] 24)) := (Below.refl _ _).alloc (Nat.le_refl _) _
  have HX3 : Hid (B6 24 (w2.alloc (.cells #[.int .i64 5, .int .i64 0, .int .i64 0, .int .i64 0, .string ⟨#[]⟩, .slice A2 0 c2] 24)) w2.heap.size _ _ _ _ _ _) := hx
  have HR3 := hid (HR2.out.below hb3)
  have HB3 : Hid (Below w.heap.size w _) := bel HB2.out hb3
  clear hx hb3
  refine (encode_any' a0 0 0 0 0 ⟨#[]⟩ _ none 0 0 (is0 _) sg0 sg0).mono ?_
  rintro e w4 ⟨v, rfl, hown, hb4⟩
  rw [len0] at hown
  obtain ⟨A4, c4, rfl, hnc, hcm, hr⟩ := owns_form hown
  have HX4 : Hid (B6 24 w4 w2.heap.size _ _ _ _ _ _) := HX3.out.below hb4 HX3.out.lt
  have HR4 := hid (HR3.out.below hb4)
  have HB4 : Hid (Below w.heap.size w w4) := bel HB3.out hb4
  obtain ⟨d0, d1, d2, d3, d4, d5⟩ := HX4.out.facts
  clear hown hr hb4
  go_wp2_with fail
  refine (same_any 5 0 0 0 ⟨#[]⟩ A2 0 c2 [] 5 0 0 0 ⟨#[]⟩ A2 0 c2 [] _ HR4.out HR4.out).mono ?_
  rintro e w5 ⟨rfl, hb5⟩
  have hsame : same6 5 0 0 0 (⟨#[]⟩ : ByteArray).data.toList [] 5 0 0 0 (⟨#[]⟩ : ByteArray).data.toList [] = true := by decide
  rw [hsame]
  go_wp2
  go_ret
  exact ⟨rfl, bel HB4.out hb5⟩
/-- An equality of two answers of the document's kind. -/
theorem eq33 (a b c d a' b' c' d' : Int) (k x k' x' : List UInt8) (w : World) : (binOp .eql 33 (.agg #[.int .i64 a, .int .i64 b, .int .i64 c, .int .i64 d, .string (strOf k), .string (strOf x)]) (.agg #[.int .i64 a', .int .i64 b', .int .i64 c', .int .i64 d', .string (strOf k'), .string (strOf x')])).run Try.prog w = .ok (.bool (same6 a b c d k x a' b' c' d' k' x')) w := by
  have u3 := Try.underlying3
  have a3 := Try.isAgg3
  have z3 := Try.sizeOf3
  have u2 := Try.underlying2
  have a2 := Try.isAgg2
  have z2 := Try.sizeOf2
  have u9 := Try.underlying9
  have a9 := Try.isAgg9
  have z9 := Try.sizeOf9
  have hS : Try.prog.underlying 33 = some (.struct (Try.prog.fieldsOf 33)) := by kernel_rfl
  have hp : Try.prog.stoodInHeld 33 = false := by kernel_rfl
  have e1 := Regs.str_beq k k'
  have e2 := Regs.str_beq x x'
  unfold same6
  rw [run_eql_struct, show (10000 : Nat) = 9999 + 1 from rfl, run_equalIn_agg w 9999 33 _ _ hS hp]
  simp only [Program.fieldsOf, Try.underlying33]
  go_simp
  by_cases h1 : a = a' <;> by_cases h2 : b = b' <;> by_cases h3 : c = c' <;> by_cases h4 : d = d' <;> by_cases h5 : k = k' <;> by_cases h6 : x = x' <;> simp [h1, h2, h3, h4, h5, h6]
end Go.Proofs.Ythbpjkgbnmllkaa.AnsI
