/- Answers: Encode, Same, the law's own few and Of. -/
import Derived.Test.YtafnekilnbhhlaaAnsR
namespace Go.Proofs.Ytafnekilnbhhlaa.AnsB
open Go.RowKit Go.Proofs.Ytafnekilnbhhlaa.Base Go.Proofs.Ytafnekilnbhhlaa.Base2 Go.Proofs.Ytafnekilnbhhlaa.Base3 Go.Proofs.Ytafnekilnbhhlaa.AnsP

/-- A block of six cells. -/
def B6 (T : TypeId) (w : World) (g : Nat) (a b c d e f : Value) : Prop := w.heap[g]? = some (.cells #[a, b, c, d, e, f] T (0, 0))
section
variable {T : TypeId} {w w' : World} {g k : Nat} {a b c d e f : Value}
theorem B6.facts (h : B6 T w g a b c d e f) : w.cell? ⟨g, 0, none⟩ = some a ∧ w.cell? ⟨g, 1, none⟩ = some b ∧ w.cell? ⟨g, 2, none⟩ = some c ∧ w.cell? ⟨g, 3, none⟩ = some d ∧ w.cell? ⟨g, 4, none⟩ = some e ∧ w.cell? ⟨g, 5, none⟩ = some f :=
  ⟨(cell_of_row w g 0 _ _ _ h).trans rfl, (cell_of_row w g 1 _ _ _ h).trans rfl, (cell_of_row w g 2 _ _ _ h).trans rfl, (cell_of_row w g 3 _ _ _ h).trans rfl, (cell_of_row w g 4 _ _ _ h).trans rfl, (cell_of_row w g 5 _ _ _ h).trans rfl⟩
theorem B6.thaw (h : B6 T w g a b c d e f) : w.frozen? ⟨g, 0, none⟩ = false ∧ w.frozen? ⟨g, 1, none⟩ = false ∧ w.frozen? ⟨g, 2, none⟩ = false ∧ w.frozen? ⟨g, 3, none⟩ = false ∧ w.frozen? ⟨g, 4, none⟩ = false ∧ w.frozen? ⟨g, 5, none⟩ = false :=
  ⟨frozen_of_row w g 0 _ _ h, frozen_of_row w g 1 _ _ h, frozen_of_row w g 2 _ _ h, frozen_of_row w g 3 _ _ h, frozen_of_row w g 4 _ _ h, frozen_of_row w g 5 _ _ h⟩
theorem B6.lt (h : B6 T w g a b c d e f) : g < w.heap.size := (Array.getElem?_eq_some_iff.1 h).1
theorem B6.below (h : B6 T w g a b c d e f) {B : Nat} (hb : Below B w w') (hg : g < B) : B6 T w' g a b c d e f := (hb.block g hg).trans h
theorem B6.set0 (h : B6 T w g a b c d e f) (x : Value) : B6 T (w.setCell ⟨g, 0, none⟩ x) g x b c d e f := heap_setCell_same w g 0 _ _ x h
theorem B6.set1 (h : B6 T w g a b c d e f) (x : Value) : B6 T (w.setCell ⟨g, 1, none⟩ x) g a x c d e f := heap_setCell_same w g 1 _ _ x h
theorem B6.other (h : B6 T w g a b c d e f) (hk : g ≠ k) (i : Nat) (x : Value) : B6 T (w.setCell ⟨k, i, none⟩ x) g a b c d e f := (heap_setCell_other w ⟨k, i, none⟩ g x hk).trans h
end
def put6 (w : World) (g : Nat) (a b c d e f : Value) : World := (((((w.setCell ⟨g, 0, none⟩ a).setCell ⟨g, 1, none⟩ b).setCell ⟨g, 2, none⟩ c).setCell ⟨g, 3, none⟩ d).setCell ⟨g, 4, none⟩ e).setCell ⟨g, 5, none⟩ f
theorem B6.put {T : TypeId} {w : World} {g : Nat} {a b c d e f : Value} (h : B6 T w g a b c d e f) (x y z u v t : Value) : B6 T (put6 w g x y z u v t) g x y z u v t :=
  heap_setCell_same _ g 5 _ _ t (heap_setCell_same _ g 4 _ _ v (heap_setCell_same _ g 3 _ _ u (heap_setCell_same _ g 2 _ _ z (heap_setCell_same _ g 1 _ _ y (heap_setCell_same w g 0 _ _ x h)))))
theorem below_put6 {w0 w : World} {B g : Nat} (h : Below B w0 w) (hg : B ≤ g) (x y z u v t : Value) : Below B w0 (put6 w g x y z u v t) := (((((h.setCell hg _).setCell hg _).setCell hg _).setCell hg _).setCell hg _).setCell hg _
theorem B6.load24 {w : World} {g : Nat} {a b c d e f : Value} (h : B6 43 w g a b c d e f) : (loadVar 43 ⟨g, 0, none⟩).run Try.prog w = .ok (.agg #[a, b, c, d, e, f]) w :=
  run_loadVar_row w g _ _ #[a, b, c, d, e, f] (0, 0) _ h Try.underlying43 rfl (by kernel_rfl)
theorem B6.load33 {w : World} {g : Nat} {a b c d e f : Value} (h : B6 49 w g a b c d e f) : (loadVar 49 ⟨g, 0, none⟩).run Try.prog w = .ok (.agg #[a, b, c, d, e, f]) w :=
  run_loadVar_row w g _ _ #[a, b, c, d, e, f] (0, 0) _ h Try.underlying49 rfl (by kernel_rfl)
theorem add_six (g : Nat) : (⟨g, 0, none⟩ : Addr).add 1 = ⟨g, 1, none⟩ := rfl

/-- The cells of a value that is an answer in the law's sense: its numbers' low bits are a's. -/
structure IsA (a : Ans) (so st : Int) (k : ByteArray) (w : World) (A : Option Addr) (n c : Nat) : Prop where
  sort : IntKind.u8.wrap so = (a.sort : Int)
  status : IntKind.u32.wrap st = (a.status : Int)
  kind : k.data.toList = a.kind
  body : Rds w A n (bcells a.body)
  ksz : k.size ≤ 1000000
  bsz : n ≤ 1000000
  fits : Fits a
set_option maxHeartbeats 4000000 in
theorem encode_any (a : Ans) (so st : Int) (k : ByteArray) (w : World) (A : Option Addr) (n c : Nat) (h : IsA a so st k w A n c) :
    Calls Try.prog 30 #[.agg #[.int .i64 so, .int .i64 st, .int .i64 (AnsW.sg a.first), .int .i64 (AnsW.sg a.total), .string k, .slice A n c]] w fun e w' => ∃ v, e = .returned v ∧ w'.ownsRow w.heap.size 5 1 v (enc a).length (bcells (enc a)) ∧ Below w.heap.size w w' := by
  have h1 := h.sort
  have h2 := h.status
  have HF := hid h.fits
  have HH := hid h
  obtain ⟨ns, hns⟩ : ∃ ns, ns = a.sort := ⟨_, rfl⟩
  obtain ⟨nt, hnt⟩ : ∃ nt, nt = a.status := ⟨_, rfl⟩
  obtain ⟨f, hf⟩ : ∃ f, f = AnsW.sg a.first := ⟨_, rfl⟩
  obtain ⟨t, ht⟩ : ∃ t, t = AnsW.sg a.total := ⟨_, rfl⟩
  rw [← hns] at h1
  rw [← hnt] at h2
  rw [← hf, ← ht]
  have HNS := hid hns
  have HNT := hid hnt
  have HFF := hid hf
  have HTT := hid ht
  clear h hns hnt hf ht
  go_enter Try.func30, Try.ntmps30
  go_wp2_with fail
  have hI0 : AnsW.IsW (w.heap.size + 1) (w.heap.size + 1) [] ((w.alloc (.cells #[.int .i64 so, .int .i64 st, .int .i64 f, .int .i64 t, .string k, .slice A n c] 43)).alloc (.cells #[.slice none 0 0] 57)) := by
    have hsz : (w.alloc (.cells #[.int .i64 so, .int .i64 st, .int .i64 f, .int .i64 t, .string k, .slice A n c] 43)).heap.size = w.heap.size + 1 := by simp
    refine ⟨.slice none 0 0, ?_, World.ownsRow_nil _ _ _ _, Nat.le_refl _⟩
    rw [← hsz]
    exact heap_alloc_new _ _
  have hX0 : B6 43 ((w.alloc (.cells #[.int .i64 so, .int .i64 st, .int .i64 f, .int .i64 t, .string k, .slice A n c] 43)).alloc (.cells #[.slice none 0 0] 57)) w.heap.size (.int .i64 so) (.int .i64 st) (.int .i64 f) (.int .i64 t) (.string k) (.slice A n c) :=
    (((Below.refl (w.heap.size + 1) (w.alloc (.cells #[.int .i64 so, .int .i64 st, .int .i64 f, .int .i64 t, .string k, .slice A n c] 43))).alloc (by simp) _).block w.heap.size (by omega)).trans (heap_alloc_new w _)
  have hb0 : Below w.heap.size w ((w.alloc (.cells #[.int .i64 so, .int .i64 st, .int .i64 f, .int .i64 t, .string k, .slice A n c] 43)).alloc (.cells #[.slice none 0 0] 57)) := ((Below.refl _ _).alloc (Nat.le_refl _) _).alloc (by simp) _
  have HX0 := hid hX0
  have HB0 := hid hb0
  have HI0 := hid hI0
  clear hX0 hb0 hI0
  refine (AnsW.u8w_any (w.heap.size + 1) (w.heap.size + 1) ns [] _ HI0.out (by rw [HNS.out]; exact HF.out.sort) (by simp [length_be])).mono ?_
  rintro e w1 ⟨rfl, hI, hb⟩
  have HI1 := hid hI
  have HX1 : Hid (B6 43 w1 w.heap.size _ _ _ _ _ _) := HX0.out.below hb (by omega)
  have HB1 : Hid (Below w.heap.size w w1) := HB0.out.trans (hb.mono (by omega))
  obtain ⟨c0, c1, c2, c3, c4, c5⟩ := HX1.out.facts
  clear hI hb
  go_wp2_with fail
  clear c0 c1 c2 c3 c4 c5
  refine (AnsW.u32w_any (w.heap.size + 1) (w.heap.size + 1) nt ([] ++ be ns 1) _ HI1.out (by rw [HNT.out]; exact HF.out.status) (by simp [length_be])).mono ?_
  rintro e w2 ⟨rfl, hI, hb⟩
  have HI2 := hid hI
  have HX2 : Hid (B6 43 w2 w.heap.size _ _ _ _ _ _) := HX1.out.below hb (by omega)
  have HB2 : Hid (Below w.heap.size w w2) := HB1.out.trans (hb.mono (by omega))
  obtain ⟨c0, c1, c2, c3, c4, c5⟩ := HX2.out.facts
  clear hI hb
  go_wp2_with fail
  clear c0 c1 c2 c3 c4 c5
  rw [HFF.out]
  refine (AnsW.i64w_any (w.heap.size + 1) (w.heap.size + 1) a.first (([] ++ be ns 1) ++ be nt 4) _ HI2.out HF.out.first (by simp [length_be])).mono ?_
  rintro e w3 ⟨rfl, hI, hb⟩
  have HI3 := hid hI
  have HX3 : Hid (B6 43 w3 w.heap.size _ _ _ _ _ _) := HX2.out.below hb (by omega)
  have HB3 : Hid (Below w.heap.size w w3) := HB2.out.trans (hb.mono (by omega))
  obtain ⟨c0, c1, c2, c3, c4, c5⟩ := HX3.out.facts
  clear hI hb
  go_wp2_with fail
  clear c0 c1 c2 c3 c4 c5
  rw [HTT.out]
  refine (AnsW.i64w_any (w.heap.size + 1) (w.heap.size + 1) a.total ((([] ++ be ns 1) ++ be nt 4) ++ be a.first 8) _ HI3.out HF.out.total (by simp [length_be])).mono ?_
  rintro e w4 ⟨rfl, hI, hb⟩
  have HI4 := hid hI
  have HX4 : Hid (B6 43 w4 w.heap.size _ _ _ _ _ _) := HX3.out.below hb (by omega)
  have HB4 : Hid (Below w.heap.size w w4) := HB3.out.trans (hb.mono (by omega))
  obtain ⟨c0, c1, c2, c3, c4, c5⟩ := HX4.out.facts
  clear hI hb
  go_wp2_with fail
  clear c0 c1 c2 c3 c4 c5
  refine (AnsW.strw_any (w.heap.size + 1) (w.heap.size + 1) (((([] ++ be ns 1) ++ be nt 4) ++ be a.first 8) ++ be a.total 8) k _ HI4.out (by simp [length_be]) HH.out.ksz).mono ?_
  rintro e w5 ⟨rfl, hI, hb⟩
  have HI5 := hid hI
  have HX5 : Hid (B6 43 w5 w.heap.size _ _ _ _ _ _) := HX4.out.below hb (by omega)
  have HB5 : Hid (Below w.heap.size w w5) := HB4.out.trans (hb.mono (by omega))
  obtain ⟨c0, c1, c2, c3, c4, c5⟩ := HX5.out.facts
  have hr5 : Rds w5 A n (bcells a.body) := HH.out.body.below HB5.out
  have hs := run_string_of (P := Try.prog) 25 9 5 Try.underlying25 Try.underlying5 Try.underlying9 _ c hr5
  have HBL : Hid (a.body.length = n) := by have := hr5.1; rwa [length_bcells] at this
  have HKL : Hid (k.data.toList.length = k.size) := Array.length_toList
  clear hI hb hr5
  go_wp2_with fail
  clear c0 c1 c2 c3 c4 c5 hs
  refine (AnsW.strw_any (w.heap.size + 1) (w.heap.size + 1) ((((([] ++ be ns 1) ++ be nt 4) ++ be a.first 8) ++ be a.total 8) ++ str k.data.toList) (strOf a.body) _ HI5.out (by have := HKL.out; have := HH.out.ksz; simp only [List.length_append, length_be, str, List.length_nil]; omega) (by rw [size_strOf, HBL.out]; exact HH.out.bsz)).mono ?_
  rintro e w6 ⟨rfl, hI, hb⟩
  have HI6 := hid hI
  have HB6 : Hid (Below w.heap.size w w6) := HB5.out.trans (hb.mono (by omega))
  have HE : Hid (((((([] ++ be ns 1) ++ be nt 4) ++ be a.first 8) ++ be a.total 8) ++ str k.data.toList) ++ str (strOf a.body).data.toList = enc a) := by
    show _ = _
    have e : (strOf a.body).data.toList = a.body := rfl
    rw [e, HH.out.kind, HNS.out, HNT.out]
    simp [enc, List.append_assoc]
  clear hI hb
  go_wp2_with fail
  refine (AnsW.bytesw_any (w.heap.size + 1) (w.heap.size + 1) (enc a) _ (HE.out ▸ HI6.out) (by rw [length_enc, ← HH.out.kind, HKL.out, HBL.out]; have := HH.out.ksz; have := HH.out.bsz; omega)).mono ?_
  rintro e w7 ⟨v, rfl, hown, hb⟩
  have HO := hid (owns_base hown HB6.out.size)
  have HB7 : Hid (Below w.heap.size w w7) := HB6.out.trans (hb.mono HB6.out.size)
  clear hown hb
  go_wp2
  go_ret
  exact ⟨_, rfl, HO.out, HB7.out⟩
theorem equal_any (A B : Option Addr) (n c m d : Nat) (L M : List UInt8) (w : World) (h1 : Rds w A n (bcells L)) (h2 : Rds w B m (bcells M)) :
    Calls Try.prog 33 #[.slice A n c, .slice B m d] w fun e w' => e = .returned (.bool (decide (L = M))) ∧ w' = w := by
  have s1 := run_string_of (P := Try.prog) 25 9 5 Try.underlying25 Try.underlying5 Try.underlying9 _ c h1
  have s2 := run_string_of (P := Try.prog) 25 9 5 Try.underlying25 Try.underlying5 Try.underlying9 _ d h2
  clear h1 h2
  go_enter Try.func33, Try.ntmps33
  go_wp2
  go_ret
  exact ⟨ret_bool (Regs.str_beq _ _), rfl⟩
def same6 (so st f t : Int) (k L : List UInt8) (so' st' f' t' : Int) (k' L' : List UInt8) : Bool := decide (so = so') && (decide (st = st') && (decide (f = f') && (decide (t = t') && (decide (k = k') && decide (L = L')))))
theorem int_beq {a b : Int} : (a == b) = decide (a = b) := by rw [Bool.eq_iff_iff]; simp
theorem bytes_beq (a b : ByteArray) : (a.toList == b.toList) = decide (a.data.toList = b.data.toList) := by cases a; cases b; rw [ByteArray.toList_mk, ByteArray.toList_mk, Bool.eq_iff_iff]; simp
set_option maxHeartbeats 4000000 in
theorem same_any (so st f t : Int) (k : ByteArray) (A : Option Addr) (n c : Nat) (L : List UInt8) (so' st' f' t' : Int) (k' : ByteArray) (B : Option Addr) (m d : Nat) (M : List UInt8) (w : World) (h1 : Rds w A n (bcells L)) (h2 : Rds w B m (bcells M)) :
    Calls Try.prog 17 #[.agg #[.int .i64 so, .int .i64 st, .int .i64 f, .int .i64 t, .string k, .slice A n c], .agg #[.int .i64 so', .int .i64 st', .int .i64 f', .int .i64 t', .string k', .slice B m d]] w fun e w' => e = .returned (.bool (same6 so st f t k.data.toList L so' st' f' t' k'.data.toList M)) ∧ Below w.heap.size w w' := by
  have HS : Hid (same6 so st f t k.data.toList L so' st' f' t' k'.data.toList M = ((so == so') && ((st == st') && ((f == f') && ((t == t') && ((k.toList == k'.toList) && decide (L = M))))))) := by
    show _ = _
    unfold same6
    rw [int_beq, int_beq, int_beq, int_beq, bytes_beq]
  rw [HS.out]
  have H1 := hid h1
  have H2 := hid h2
  clear h1 h2
  cases q1 : (so == so') with
  | false =>
    go_enter Try.func17, Try.ntmps17
    go_wp2
    go_ret
    exact ⟨rfl, ((Below.refl _ _).alloc (Nat.le_refl _) _).alloc (by simp) _⟩
  | true =>
    cases q2 : (st == st') with
    | false =>
      go_enter Try.func17, Try.ntmps17
      go_wp2
      go_ret
      exact ⟨rfl, ((Below.refl _ _).alloc (Nat.le_refl _) _).alloc (by simp) _⟩
    | true =>
      cases q3 : (f == f') with
      | false =>
        go_enter Try.func17, Try.ntmps17
        go_wp2
        go_ret
        exact ⟨rfl, ((Below.refl _ _).alloc (Nat.le_refl _) _).alloc (by simp) _⟩
      | true =>
        cases q4 : (t == t') with
        | false =>
          go_enter Try.func17, Try.ntmps17
          go_wp2
          go_ret
          exact ⟨rfl, ((Below.refl _ _).alloc (Nat.le_refl _) _).alloc (by simp) _⟩
        | true =>
          cases q5 : (k.toList == k'.toList) with
          | false =>
            go_enter Try.func17, Try.ntmps17
            go_wp2
            go_ret
            exact ⟨rfl, ((Below.refl _ _).alloc (Nat.le_refl _) _).alloc (by simp) _⟩
          | true =>
            go_enter Try.func17, Try.ntmps17
            go_wp2_with fail
            have hb : Below w.heap.size w ((w.alloc (.cells #[.int .i64 so, .int .i64 st, .int .i64 f, .int .i64 t, .string k, .slice A n c] 43)).alloc (.cells #[.int .i64 so', .int .i64 st', .int .i64 f', .int .i64 t', .string k', .slice B m d] 43)) := ((Below.refl _ _).alloc (Nat.le_refl _) _).alloc (by simp) _
            refine (equal_any A B n c m d L M _ (H1.out.below hb) (H2.out.below hb)).mono ?_
            rintro e w1 ⟨rfl, rfl⟩
            have HB := hid hb
            clear hb
            cases hq : decide (L = M)
            all_goals
              have HQ := hid hq
              clear hq
              go_wp2
              go_ret
              exact ⟨by rw [HQ.out]; rfl, HB.out⟩
end Go.Proofs.Ytafnekilnbhhlaa.AnsB
