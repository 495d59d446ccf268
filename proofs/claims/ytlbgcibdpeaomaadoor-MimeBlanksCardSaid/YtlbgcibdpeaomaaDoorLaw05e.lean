/- The walks of the laws MimeBlanks: they return true, whatever they are called with. -/
import Derived.Test.YtlbgcibdpeaomaaDoorMimW
import Derived.Test.YtlbgcibdpeaomaaDoorRegs
import Derived.Test.YtlbgcibdpeaomaaDoorRegb
namespace Go.Proofs.YtlbgcibdpeaomaaDoor.Laws
open Go.RowKit Go.Proofs.YtlbgcibdpeaomaaDoor.Base Go.Proofs.YtlbgcibdpeaomaaDoor.Base2 Go.Proofs.YtlbgcibdpeaomaaDoor.Regs Go.Proofs.YtlbgcibdpeaomaaDoor.UtfL Go.Proofs.YtlbgcibdpeaomaaDoor.TokP Go.Proofs.YtlbgcibdpeaomaaDoor.MimP Go.Proofs.YtlbgcibdpeaomaaDoor.MimB Go.Proofs.YtlbgcibdpeaomaaDoor.MimC Go.Proofs.YtlbgcibdpeaomaaDoor.MimD Go.Proofs.YtlbgcibdpeaomaaDoor.MimE Go.Proofs.YtlbgcibdpeaomaaDoor.MimQ Go.Proofs.YtlbgcibdpeaomaaDoor.MimF Go.Proofs.YtlbgcibdpeaomaaDoor.MimH Go.Proofs.YtlbgcibdpeaomaaDoor.MimI Go.Proofs.YtlbgcibdpeaomaaDoor.MimL Go.Proofs.YtlbgcibdpeaomaaDoor.MimN Go.Proofs.YtlbgcibdpeaomaaDoor.MimW Go.Proofs.YtlbgcibdpeaomaaDoor.Mim0 Go.Proofs.YtlbgcibdpeaomaaDoor.Mim1

def Cl (w : World) (g k : Nat) (v : Value) : Prop := w.cell? ⟨g, k, none⟩ = some v
theorem Cl.below {w w' : World} {g k : Nat} {v : Value} (h : Cl w g k v) (hb : Below w.heap.size w w') : Cl w' g k v := (hb.cell (World.block_lt_of_cell? _ _ h)).trans h
def ends : Nat → List UInt8
  | 0 => []
  | 1 => [32]
  | 2 => [9]
  | _ => [13, 10]
theorem ends_blank (k : Nat) : ∀ c ∈ ends k, c ∈ blanks := by
  intro c hc
  unfold ends at hc
  split at hc <;> simp at hc
  · subst hc; decide
  · subst hc; decide
  · rcases hc with rfl | rfl <;> decide
theorem ends_len (k : Nat) : (ends k).length ≤ 2 := by unfold ends; split <;> simp
theorem ends_cell (w : World) (k : Nat) (hk : k < 4) : Cl (w.alloc (.cells #[.string ⟨#[]⟩, .string ⟨#[32]⟩, .string ⟨#[9]⟩, .string ⟨#[13, 10]⟩] 9)) w.heap.size k (.string (strOf (ends k))) := by
  unfold Cl
  rw [World.cell?_alloc_mark]
  have hcase : k = 0 ∨ k = 1 ∨ k = 2 ∨ k = 3 := by omega
  rcases hcase with rfl | rfl | rfl | rfl <;> rfl
def TyQ (T S : ByteArray) (l : List (ByteArray × ByteArray)) (w : World) (cs : Array Value) : Prop := ∃ A n c, cs = #[.string T, .string S, .slice A n c] ∧ n ≤ c ∧ c ≤ maxLen ∧ Prm w A n l
theorem tyq_stays (T S : ByteArray) (l : List (ByteArray × ByteArray)) : Regb.Stays (TyQ T S l) := fun _ _ _ hb ⟨A, n, c, h1, h2, h3, h4⟩ => ⟨A, n, c, h1, h2, h3, h4.below hb⟩
theorem b3_store {T : TypeId} {w : World} {p : Nat} (h : w.heap[p]? = some (.cells #[.string ⟨#[]⟩, .string ⟨#[]⟩, .slice none 0 0] T (0, 0))) (a b c : Value) : (((w.setCell ⟨p, 0, none⟩ a).setCell ⟨p, 1, none⟩ b).setCell ⟨p, 2, none⟩ c).heap[p]? = some (.cells #[a, b, c] T (0, 0)) :=
  heap_setCell_same _ p 2 _ _ c (heap_setCell_same _ p 1 _ _ b (heap_setCell_same w p 0 _ _ a h))
theorem prm_store {w : World} {A : Option Addr} {n p : Nat} {l : List (ByteArray × ByteArray)} {T : TypeId} (hne : ∀ q ∈ l, q.1.data.toList ≠ []) (h : Prm w A n l) (hz : w.heap[p]? = some (.cells #[.string ⟨#[]⟩, .string ⟨#[]⟩, .slice none 0 0] T (0, 0))) (a b c : Value) : Prm (((w.setCell ⟨p, 0, none⟩ a).setCell ⟨p, 1, none⟩ b).setCell ⟨p, 2, none⟩ c) A n l := by
  refine ⟨h.1, fun j hj => ?_⟩
  obtain ⟨g, off, e, hlt, h1, h2⟩ := h.2 j hj
  have hgp : g ≠ p := by
    rintro rfl
    have hc := cell_of_row w g (off + j * 2) _ _ _ hz
    rw [h1] at hc
    have hn := hne l[j] (List.getElem_mem hj)
    generalize off + j * 2 = i at hc
    match i, hc with
    | 0, hc =>
      simp at hc
      exact hn (by rw [hc])
    | 1, hc =>
      simp at hc
      exact hn (by rw [hc])
    | 2, hc => simp at hc
    | _ + 3, hc => simp at hc
  have keep : ∀ k, (((w.setCell ⟨p, 0, none⟩ a).setCell ⟨p, 1, none⟩ b).setCell ⟨p, 2, none⟩ c).cell? ⟨g, k, none⟩ = w.cell? ⟨g, k, none⟩ := fun k => by
    rw [World.cell?_setCell_other _ _ _ _ (by intro e; injection e with e; exact hgp e.symm), World.cell?_setCell_other _ _ _ _ (by intro e; injection e with e; exact hgp e.symm), World.cell?_setCell_other _ _ _ _ (by intro e; injection e with e; exact hgp e.symm)]
  exact ⟨g, off, e, by simpa using hlt, (keep _).trans h1, (keep _).trans h2⟩
theorem stab13 {zs : Array Value} {bv : Value} {T S : ByteArray} {l : List (ByteArray × ByteArray)} {w0 w : World} {B : Nat} {L : Nat → Bool} {t : Nat → Value} {v : Value} {ty : TypeId} (i : Nat) (hi : (i == 13 || i == 14 || i == 15 || i == 17 || i == 18) = false) {w' : World} (hb : Below w.heap.size w w') (hG : Regb.PB ty zs (TyQ T S l) bv w0 B 13 L t w) : Regb.PB ty zs (TyQ T S l) bv w0 B 13 (did L i) (upd t i v) w' := by
  simp only [Bool.or_eq_false_iff, beq_eq_false_iff_ne] at hi
  obtain ⟨⟨⟨⟨h0, h1⟩, h2⟩, h4⟩, h5⟩ := hi
  exact Regb.stab (tyq_stays T S l) i (Ne.symm h0) (Ne.symm h1) (Ne.symm h2) (Ne.symm h4) (Ne.symm h5) hb hG
theorem names_ne {s : List UInt8} {o : Option MT} (h : mime s = o) : ∀ q ∈ psS (o.getD mt0).ps, q.1.data.toList ≠ [] := by
  cases o with
  | none => simp [psS, mt0]
  | some m =>
    have hr := mime_right h
    unfold rightL at hr
    simp only [Bool.and_eq_true] at hr
    intro q hq
    obtain ⟨r, hrm, rfl⟩ := List.mem_map.1 hq
    obtain ⟨k, (hk : k < m.ps.length), rfl⟩ := List.getElem_of_mem (show r ∈ m.ps from hrm)
    have ho := right_at hr.2.2 k hk
    unfold okAt at ho
    rw [List.getElem?_eq_getElem hk] at ho
    simp only [Bool.and_eq_true] at ho
    exact tok_ne (sml_tok ho.1).1
set_option linter.unusedSimpArgs false in
set_option maxRecDepth 100000 in
set_option maxHeartbeats 8000000 in
theorem MimeBlanks_any (s : ByteArray) (za zb : Int) (w : World) (hs : s.size ≤ 140737488351232) (ha : 0 ≤ za ∧ za ≤ 255) (hb : 0 ≤ zb ∧ zb ≤ 255) : Calls Tryd.prog 7 #[.string s, .int .u8 za, .int .u8 zb] w fun e w' => e = .returned (.bool true) ∧ Below w.heap.size w w' := by
  obtain ⟨ha0, ha1⟩ := ha
  obtain ⟨hb0, hb1⟩ := hb
  obtain ⟨a, rfl⟩ : ∃ a : Nat, za = (a : Int) := ⟨za.toNat, by omega⟩
  obtain ⟨b, rfl⟩ : ∃ a : Nat, zb = (a : Int) := ⟨zb.toNat, by omega⟩
  by_cases h1 : s.size ≤ 500
  · have h1i : ¬ (500 : Int) < (s.size : Int) := by omega
    have hka : (a : Int).tmod 4 = ((a % 4 : Nat) : Int) := by rw [Int.tmod_eq_emod_of_nonneg (by omega)]; omega
    have hka2 : (a : Int) % 4 = ((a % 4 : Nat) : Int) := by omega
    have hkb : (b : Int).tmod 4 = ((b % 4 : Nat) : Int) := by rw [Int.tmod_eq_emod_of_nonneg (by omega)]; omega
    have hkb2 : (b : Int) % 4 = ((b % 4 : Nat) : Int) := by omega
    obtain ⟨k, hk, hk4⟩ : ∃ k, a % 4 = k ∧ k < 4 := ⟨a % 4, rfl, by omega⟩
    obtain ⟨m, hm, hm4⟩ : ∃ k, b % 4 = k ∧ k < 4 := ⟨b % 4, rfl, by omega⟩
    rw [hk] at hka hka2
    rw [hm] at hkb hkb2
    clear hk hm
    have hkI : (k : Int) < 4 := by omega
    have hmI : (m : Int) < 4 := by omega
    obtain ⟨x, hx⟩ : ∃ x, x = ends k := ⟨_, rfl⟩
    obtain ⟨y, hy⟩ : ∃ x, x = ends m := ⟨_, rfl⟩
    have bx : ∀ c ∈ x, c ∈ blanks := by rw [hx]; exact ends_blank k
    have by_ : ∀ c ∈ y, c ∈ blanks := by rw [hy]; exact ends_blank m
    have lx : x.length ≤ 2 := by rw [hx]; exact ends_len k
    have ly : y.length ≤ 2 := by rw [hy]; exact ends_len m
    obtain ⟨XS, hXS⟩ : ∃ U, U = x ++ s.data.toList := ⟨_, rfl⟩
    obtain ⟨XSY, hXSY⟩ : ∃ U, U = XS ++ y := ⟨_, rfl⟩
    have l1 : XS.length ≤ 502 := by rw [hXS, List.length_append, dl]; omega
    have l2 : XSY.length ≤ 504 := by rw [hXSY, List.length_append]; omega
    have HA1 : Hid (∀ w, (Op.stringOp .add (strOf x) s).run Tryd.prog w = .ok (.string (strOf XS)) w) := fun w => by rw [hXS]; exact str_add' (strOf x) s w (by rw [size_strOf]; omega)
    have HA2 : Hid (∀ w, (Op.stringOp .add (strOf XS) (strOf y)).run Tryd.prog w = .ok (.string (strOf XSY)) w) := fun w => by rw [hXSY]; exact str_add XS y w (by omega)
    obtain ⟨o, ho⟩ : ∃ o, mime s.data.toList = o := ⟨_, rfl⟩
    have ho2 : mime XSY = o := by rw [hXSY, hXS, mime_blanks bx by_]; exact ho
    have hp : ∀ w, Calls Tryd.prog 10 #[.string s] w (PrsA w (strOf (o.getD mt0).ty) (strOf (o.getD mt0).sub) (psS (o.getD mt0).ps) o.isSome) := fun w => (MimD.parse_any s w (by omega)).mono fun e w' h => prs_of ho h
    have hq : ∀ w, Calls Tryd.prog 10 #[.string (strOf XSY)] w (PrsA w (strOf (o.getD mt0).ty) (strOf (o.getD mt0).sub) (psS (o.getD mt0).ps) o.isSome) := fun w => (MimD.parse_any (strOf XSY) w (by rw [size_strOf]; omega)).mono fun e w' h => prs_of ho2 h
    have hne := names_ne ho
    generalize strOf (o.getD mt0).ty = T at hp hq
    generalize strOf (o.getD mt0).sub = S at hp hq
    generalize psS (o.getD mt0).ps = l at hp hq hne
    generalize o.isSome = ob at hp hq
    have HNE := hid hne
    have HP := hid hp
    have HQ := hid hq
    have HX := hid hx
    have HY := hid hy
    have HSA := hid (fun (A A2 : Option Addr) (n c n2 c2 : Nat) (w : World) (h1 : Prm w A n l) (g1 : Prm w A2 n2 l) (h2 : n ≤ c) (h3 : c ≤ maxLen) (g2 : n2 ≤ c2) (g3 : c2 ≤ maxLen) => same_any T S A n c l T S A2 n2 c2 l w h1 g1 h2 h3 g2 g3)
    rw [same_self] at HSA
    clear hp hq ho ho2 h1 hs hx hy bx by_ lx ly hXS hXSY l1 l2 hne
    go_enter Tryd.func7, Tryd.ntmps7
    go_wp2_with fail
    refine (awake_any _).mono ?_
    rintro e w1 ⟨rfl, hb⟩
    have HB1 := hid hb
    clear hb
    go_upto_region 4 with (fail)
    have hca := ends_cell w1 k hk4
    have hcb := ends_cell w1 m hm4
    rw [← HX.out] at hca
    rw [← HY.out] at hcb
    have hb : Below w1.heap.size w1 (World.alloc w1 _) := (Below.refl _ _).alloc (Nat.le_refl _) (.cells #[.string ⟨#[]⟩, .string ⟨#[32]⟩, .string ⟨#[9]⟩, .string ⟨#[13, 10]⟩] 9)
    generalize World.alloc w1 _ = v0 at hca hcb hb ⊢
    have HCA := hid hca
    have HCB := hid hcb
    clear hca hcb
    have HB2 := hid (bel HB1.out hb)
    clear hb
    go_wp2_with fail
    refine (HP.out _).mono ?_
    rintro e w3 ⟨⟨A1, n1, c1, rfl, h1, h2, h3⟩, hb⟩
    have HB3 := hid (bel HB2.out hb)
    have HCA_3 := hid (HCA.out.below hb)
    have HCB_3 := hid (HCB.out.below hb)
    clear hb
    have HN1 := hid h1
    have HC1 := hid h2
    have HP1 := hid (h3)
    clear h1 h2 h3
    go_upto_region 5 with (fail)
    generalize hwa : World.alloc _ _ = v4
    have hxa : B3 25 v4 (w3.heap.size) (.string T) (.string S) (.slice A1 n1 c1) := by rw [← hwa]; exact heap_alloc_new _ _
    have hb : Below w3.heap.size w3 v4 := by rw [← hwa]; exact (Below.refl _ _).alloc (Nat.le_refl _) _
    have HX1 := hid hxa
    clear hwa hxa
    have HB4 := hid (bel HB3.out hb)
    have HCA_4 := hid (HCA_3.out.below hb)
    have HCB_4 := hid (HCB_3.out.below hb)
    have HP1_4 := hid (HP1.out.below hb)
    clear hb
    go_upto_region 5 with (fail)
    refine wp_region_inv (by kernel_rfl) (Regb.PB 25 #[.string ⟨#[]⟩, .string ⟨#[]⟩, .slice none 0 0] (TyQ T S l) (.bool ob) v4 v4.heap.size 13) [is (.slice (some ⟨w1.heap.size, 0, none⟩) 4 4), is (.int .u8 (a : Int)), is (.int .u8 (k : Int)), is (.pointer (some ⟨w1.heap.size, k, none⟩)), is (.string (strOf x)), is (.string s), is (.string (strOf XS)), is (.slice (some ⟨w1.heap.size, 0, none⟩) 4 4), is (.int .u8 (b : Int)), is (.int .u8 (m : Int)), is (.pointer (some ⟨w1.heap.size, m, none⟩)), is (.string (strOf y)), is (.string (strOf XSY)), any, any, any, is (.bool ob), any, any, is (.bool ob)] [[], [], [1], [0, 2], [3], [], [4, 5], [], [], [8], [7, 9], [10], [6, 11], [12], [13], [14], [14], [], [15, 17], [16]] (by kernel_rfl) (by repeat (first | exact free_nil | refine free_is _ ?_ | refine free_any ?_)) ?_ ?_ ?_
    · exact fun t => ⟨⟨rfl, rfl, rfl, Nat.le_refl _, fun _ _ => rfl⟩, Nat.le_refl _, (fun h => by cases h), (fun h => by cases h)⟩
    · refine ⟨?_, ?_, ?_, ?_, ?_, ?_, ?_, ?_, ?_, ?_, ?_, ?_, ?_, ?_, ?_, ?_, ?_, ?_, ?_, ?_, trivial⟩
      · intro L t wq hG hL hC hN hh K hK
        clear hh
        simp only [filled, upd, Have, is, any, row, pick, Act.put, List.setIfInBounds_toArray, List.set_cons_zero, List.set_cons_succ, Nat.reduceAdd, Nat.reduceEqDiff, reduceIte] at hK ⊢
        go_simp
        exact hK _ _ rfl (stab13 0 (by decide) (Below.refl _ _) hG)
      · intro L t wq hG hL hC hN hh K hK
        clear hh
        simp only [filled, upd, Have, is, any, row, pick, Act.put, List.setIfInBounds_toArray, List.set_cons_zero, List.set_cons_succ, Nat.reduceAdd, Nat.reduceEqDiff, reduceIte] at hK ⊢
        go_simp
        exact hK _ _ rfl (stab13 1 (by decide) (Below.refl _ _) hG)
      · intro L t wq hG hL hC hN hh K hK
        have e1 := hh.1
        simp only [pick] at e1
        replace e1 : t 1 = (.int .u8 (a : Int)) := e1
        clear hh
        simp only [filled, upd, Have, is, any, row, pick, Act.put, List.setIfInBounds_toArray, List.set_cons_zero, List.set_cons_succ, Nat.reduceAdd, Nat.reduceEqDiff, reduceIte] at hK ⊢
        simp only [e1] at hK ⊢
        go_simp
        exact hK _ _ rfl (stab13 2 (by decide) (Below.refl _ _) hG)
      · intro L t wq hG hL hC hN hh K hK
        have e0 := hh.1
        simp only [pick] at e0
        replace e0 : t 0 = (.slice (some ⟨w1.heap.size, 0, none⟩) 4 4) := e0
        have e2 := hh.2.1
        simp only [pick] at e2
        replace e2 : t 2 = (.int .u8 (k : Int)) := e2
        clear hh
        simp only [filled, upd, Have, is, any, row, pick, Act.put, List.setIfInBounds_toArray, List.set_cons_zero, List.set_cons_succ, Nat.reduceAdd, Nat.reduceEqDiff, reduceIte] at hK ⊢
        simp only [e0, e2] at hK ⊢
        go_simp
        exact hK _ _ rfl (stab13 3 (by decide) (Below.refl _ _) hG)
      · intro L t wq hG hL hC hN hh K hK
        have e3 := hh.1
        simp only [pick] at e3
        replace e3 : t 3 = (.pointer (some ⟨w1.heap.size, k, none⟩)) := e3
        clear hh
        simp only [filled, upd, Have, is, any, row, pick, Act.put, List.setIfInBounds_toArray, List.set_cons_zero, List.set_cons_succ, Nat.reduceAdd, Nat.reduceEqDiff, reduceIte] at hK ⊢
        simp only [e3] at hK ⊢
        have hq := HCA_4.out.below hG.1
        unfold Cl at hq
        go_simp
        exact hK _ _ rfl (stab13 4 (by decide) (Below.refl _ _) hG)
      · intro L t wq hG hL hC hN hh K hK
        clear hh
        simp only [filled, upd, Have, is, any, row, pick, Act.put, List.setIfInBounds_toArray, List.set_cons_zero, List.set_cons_succ, Nat.reduceAdd, Nat.reduceEqDiff, reduceIte] at hK ⊢
        go_simp
        exact hK _ _ rfl (stab13 5 (by decide) (Below.refl _ _) hG)
      · intro L t wq hG hL hC hN hh K hK
        have e4 := hh.1
        simp only [pick] at e4
        replace e4 : t 4 = (.string (strOf x)) := e4
        have e5 := hh.2.1
        simp only [pick] at e5
        replace e5 : t 5 = (.string s) := e5
        clear hh
        simp only [filled, upd, Have, is, any, row, pick, Act.put, List.setIfInBounds_toArray, List.set_cons_zero, List.set_cons_succ, Nat.reduceAdd, Nat.reduceEqDiff, reduceIte] at hK ⊢
        simp only [e4, e5] at hK ⊢
        have hadd := HA1.out wq
        go_simp
        exact hK _ _ rfl (stab13 6 (by decide) (Below.refl _ _) hG)
      · intro L t wq hG hL hC hN hh K hK
        clear hh
        simp only [filled, upd, Have, is, any, row, pick, Act.put, List.setIfInBounds_toArray, List.set_cons_zero, List.set_cons_succ, Nat.reduceAdd, Nat.reduceEqDiff, reduceIte] at hK ⊢
        go_simp
        exact hK _ _ rfl (stab13 7 (by decide) (Below.refl _ _) hG)
      · intro L t wq hG hL hC hN hh K hK
        clear hh
        simp only [filled, upd, Have, is, any, row, pick, Act.put, List.setIfInBounds_toArray, List.set_cons_zero, List.set_cons_succ, Nat.reduceAdd, Nat.reduceEqDiff, reduceIte] at hK ⊢
        go_simp
        exact hK _ _ rfl (stab13 8 (by decide) (Below.refl _ _) hG)
      · intro L t wq hG hL hC hN hh K hK
        have e8 := hh.1
        simp only [pick] at e8
        replace e8 : t 8 = (.int .u8 (b : Int)) := e8
        clear hh
        simp only [filled, upd, Have, is, any, row, pick, Act.put, List.setIfInBounds_toArray, List.set_cons_zero, List.set_cons_succ, Nat.reduceAdd, Nat.reduceEqDiff, reduceIte] at hK ⊢
        simp only [e8] at hK ⊢
        go_simp
        exact hK _ _ rfl (stab13 9 (by decide) (Below.refl _ _) hG)
      · intro L t wq hG hL hC hN hh K hK
        have e7 := hh.1
        simp only [pick] at e7
        replace e7 : t 7 = (.slice (some ⟨w1.heap.size, 0, none⟩) 4 4) := e7
        have e9 := hh.2.1
        simp only [pick] at e9
        replace e9 : t 9 = (.int .u8 (m : Int)) := e9
        clear hh
        simp only [filled, upd, Have, is, any, row, pick, Act.put, List.setIfInBounds_toArray, List.set_cons_zero, List.set_cons_succ, Nat.reduceAdd, Nat.reduceEqDiff, reduceIte] at hK ⊢
        simp only [e7, e9] at hK ⊢
        go_simp
        exact hK _ _ rfl (stab13 10 (by decide) (Below.refl _ _) hG)
      · intro L t wq hG hL hC hN hh K hK
        have e10 := hh.1
        simp only [pick] at e10
        replace e10 : t 10 = (.pointer (some ⟨w1.heap.size, m, none⟩)) := e10
        clear hh
        simp only [filled, upd, Have, is, any, row, pick, Act.put, List.setIfInBounds_toArray, List.set_cons_zero, List.set_cons_succ, Nat.reduceAdd, Nat.reduceEqDiff, reduceIte] at hK ⊢
        simp only [e10] at hK ⊢
        have hq := HCB_4.out.below hG.1
        unfold Cl at hq
        go_simp
        exact hK _ _ rfl (stab13 11 (by decide) (Below.refl _ _) hG)
      · intro L t wq hG hL hC hN hh K hK
        have e6 := hh.1
        simp only [pick] at e6
        replace e6 : t 6 = (.string (strOf XS)) := e6
        have e11 := hh.2.1
        simp only [pick] at e11
        replace e11 : t 11 = (.string (strOf y)) := e11
        clear hh
        simp only [filled, upd, Have, is, any, row, pick, Act.put, List.setIfInBounds_toArray, List.set_cons_zero, List.set_cons_succ, Nat.reduceAdd, Nat.reduceEqDiff, reduceIte] at hK ⊢
        simp only [e6, e11] at hK ⊢
        have hadd := HA2.out wq
        go_simp
        exact hK _ _ rfl (stab13 12 (by decide) (Below.refl _ _) hG)
      · intro L t wq hG hL hC hN hh K hK
        have e12 := hh.1
        simp only [pick] at e12
        replace e12 : t 12 = (.string (strOf XSY)) := e12
        clear hh
        simp only [filled, upd, Have, is, any, row, pick, Act.put, List.setIfInBounds_toArray, List.set_cons_zero, List.set_cons_succ, Nat.reduceAdd, Nat.reduceEqDiff, reduceIte] at hK ⊢
        simp only [e12] at hK ⊢
        go_simp
        have z1 : L 14 = false := (by cases h : L 14 with | false => rfl | true => exact absurd (hC 14 h 13 (by decide)) (by rw [hL]; decide))
        have z2 : L 15 = false := (by cases h : L 15 with | false => rfl | true => exact absurd (hC 15 h 14 (by decide)) (by rw [z1]; decide))
        have z5 : L 18 = false := (by cases h : L 18 with | false => rfl | true => exact absurd (hC 18 h 15 (by decide)) (by rw [z2]; decide))
        refine (HQ.out _).mono ?_
        rintro e w5 ⟨⟨A2, n2, c2, rfl, h1, h2, h3⟩, hb5⟩
        exact hK _ _ trivial (Regb.call z1 z2 z5 hb5 ⟨A2, n2, c2, rfl, h1, h2, h3⟩ hG)
      · intro L t wq hG hL hC hN hh K hK
        clear hh
        simp only [filled, upd, Have, is, any, row, pick, Act.put, List.setIfInBounds_toArray, List.set_cons_zero, List.set_cons_succ, Nat.reduceAdd, Nat.reduceEqDiff, reduceIte] at hK ⊢
        go_simp
        exact hK _ _ trivial (Regb.move (hN 13 (by decide)) hG)
      · intro L t wq hG hL hC hN hh K hK
        clear hh
        simp only [filled, upd, Have, is, any, row, pick, Act.put, List.setIfInBounds_toArray, List.set_cons_zero, List.set_cons_succ, Nat.reduceAdd, Nat.reduceEqDiff, reduceIte] at hK ⊢
        have l1 : L 14 = true := hN 14 (by decide)
        have l0 : L 13 = true := hC 14 l1 13 (by decide)
        obtain ⟨cs, hq, e0, e1, e2⟩ := Regb.get l0 hG
        have e := e1 l1
        clear e0 e1 e2
        simp only [e] at hK ⊢
        go_simp
        exact hK _ _ trivial (Regb.part l0 l1 e hG)
      · intro L t wq hG hL hC hN hh K hK
        clear hh
        simp only [filled, upd, Have, is, any, row, pick, Act.put, List.setIfInBounds_toArray, List.set_cons_zero, List.set_cons_succ, Nat.reduceAdd, Nat.reduceEqDiff, reduceIte] at hK ⊢
        have l1 : L 14 = true := hN 14 (by decide)
        have l0 : L 13 = true := hC 14 l1 13 (by decide)
        obtain ⟨cs, hq, e0, e1, e2⟩ := Regb.get l0 hG
        have e := e1 l1
        clear e0 e1 e2
        simp only [e] at hK ⊢
        go_simp
        exact hK _ _ rfl (stab13 16 (by decide) (Below.refl _ _) hG)
      · intro L t wq hG hL hC hN hh K hK
        clear hh
        simp only [filled, upd, Have, is, any, row, pick, Act.put, List.setIfInBounds_toArray, List.set_cons_zero, List.set_cons_succ, Nat.reduceAdd, Nat.reduceEqDiff, reduceIte] at hK ⊢
        go_simp
        exact hK _ _ trivial (Regb.alloc (tyq_stays _ _ _) (by cases h : L 18 with | false => rfl | true => exact absurd (hC 18 h 17 (by decide)) (by rw [hL]; decide)) hG)
      · intro L t wq hG hL hC hN hh K hK
        clear hh
        simp only [filled, upd, Have, is, any, row, pick, Act.put, List.setIfInBounds_toArray, List.set_cons_zero, List.set_cons_succ, Nat.reduceAdd, Nat.reduceEqDiff, reduceIte] at hK ⊢
        have l4 : L 17 = true := hN 17 (by decide)
        have l2 : L 15 = true := hN 15 (by decide)
        have l1 : L 14 = true := hC 15 l2 14 (by decide)
        have l0 : L 13 = true := hC 14 l1 13 (by decide)
        obtain ⟨cs, ⟨A2, n2, c2, rfl, h1, h2, h3⟩, e0, e1, e2⟩ := Regb.get l0 hG
        have e := e2 l2
        clear e0 e1 e2
        obtain ⟨p, hp, hp1, hp2, hp3⟩ := hG.2.2.2 l4
        simp only [e, hp] at hK ⊢
        have hz := hp3 hL
        have f0 := frozen_of_row wq p 0 _ _ hz
        have f1 := frozen_of_row wq p 1 _ _ hz
        have f2 := frozen_of_row wq p 2 _ _ hz
        have g0 := (cell_of_row wq p 0 _ _ _ hz).trans rfl
        have g1 := (cell_of_row wq p 1 _ _ _ hz).trans rfl
        have g2 := (cell_of_row wq p 2 _ _ _ hz).trans rfl
        go_simp
        exact hK undef _ trivial (Regb.store l0 l2 l4 e hp (((hG.1.setCell hp1 _).setCell hp1 _).setCell hp1 _) (by simp) ⟨A2, n2, c2, rfl, h1, h2, prm_store HNE.out h3 hz _ _ _⟩ (b3_store hz _ _ _) hG)
      · intro L t wq hG hL hC hN hh K hK
        have e16 := hh.1
        simp only [pick] at e16
        replace e16 : t 16 = (.bool ob) := e16
        clear hh
        simp only [filled, upd, Have, is, any, row, pick, Act.put, List.setIfInBounds_toArray, List.set_cons_zero, List.set_cons_succ, Nat.reduceAdd, Nat.reduceEqDiff, reduceIte] at hK ⊢
        simp only [e16] at hK ⊢
        go_simp
        exact hK _ _ rfl (stab13 19 (by decide) (Below.refl _ _) hG)
    · intro Lz t wq hG hall hh
      have f16 := have_get hh 16 (by decide)
      simp only [pick] at f16
      replace f16 : t 16 = (.bool ob) := f16
      have f19 := have_get hh 19 (by decide)
      simp only [pick] at f19
      replace f19 : t 19 = (.bool ob) := f19
      clear hh
      simp only [filled, upd, Have, is, any, row, pick, Act.put, List.setIfInBounds_toArray, List.set_cons_zero, List.set_cons_succ, Nat.reduceAdd, Nat.reduceEqDiff, reduceIte]
      simp only [f16, f19]
      obtain ⟨cs, p, ⟨A2, n2, c2, rfl, h1, h2, h3⟩, hp, hx2⟩ := Regb.last (hall 13 (by decide)) (hall 17 (by decide)) (hall 18 (by decide)) hG
      simp only [hp]
      have hb := hG.1
      clear hG hall
      have HB5 := hid (bel HB4.out hb)
      have HCA_5 := hid (HCA_4.out.below hb)
      have HCB_5 := hid (HCB_4.out.below hb)
      have HP1_5 := hid (HP1_4.out.below hb)
      have HX1_5 := hid (HX1.out.below hb)
      clear hb
      have HN2 := hid h1
      have HC2 := hid h2
      have HP2 := hid (h3)
      have HX2 : Hid (B3 25 wq p (.string T) (.string S) (.slice A2 n2 c2)) := hx2
      clear h1 h2 h3 hx2
      go_upto_region 6 with (fail)
      obtain ⟨c0, c1, c2⟩ := HX1_5.out.facts
      obtain ⟨d0, d1, d2⟩ := HX2.out.facts
      have hbb : (ob == ob) = true := by simp
      cases ob with
      | false =>
        go_wp2_with fail
        clear c0 c1 c2 d0 d1 d2
        refine (HSA.out _ _ _ _ _ _ _ HP1_5.out HP2.out HN1.out HC1.out HN2.out HC2.out).mono ?_
        rintro e w6 ⟨rfl, hb⟩
        have HB6 := hid (bel HB5.out hb)
        have HCA_6 := hid (HCA_5.out.below hb)
        have HCB_6 := hid (HCB_5.out.below hb)
        have HP1_6 := hid (HP1_5.out.below hb)
        have HX1_6 := hid (HX1_5.out.below hb)
        have HP2_6 := hid (HP2.out.below hb)
        have HX2_6 := hid (HX2.out.below hb)
        clear hb
        go_wp2
        go_ret
        exact ⟨rfl, HB6.out⟩
      | true =>
        go_wp2_with fail
        clear c0 c1 c2 d0 d1 d2
        refine (HSA.out _ _ _ _ _ _ _ HP1_5.out HP2.out HN1.out HC1.out HN2.out HC2.out).mono ?_
        rintro e w6 ⟨rfl, hb⟩
        have HB6 := hid (bel HB5.out hb)
        have HCA_6 := hid (HCA_5.out.below hb)
        have HCB_6 := hid (HCB_5.out.below hb)
        have HP1_6 := hid (HP1_5.out.below hb)
        have HX1_6 := hid (HX1_5.out.below hb)
        have HP2_6 := hid (HP2.out.below hb)
        have HX2_6 := hid (HX2.out.below hb)
        clear hb
        go_wp2
        go_ret
        exact ⟨rfl, HB6.out⟩
  · have h1i : (500 : Int) < (s.size : Int) := by omega
    clear h1 hs
    go_enter Tryd.func7, Tryd.ntmps7
    go_wp2_with fail
    refine (awake_any _).mono ?_
    rintro e w1 ⟨rfl, hb⟩
    have HB1 := hid hb
    clear hb
    go_wp2_with fail
    refine (awake_any _).mono ?_
    rintro e w2 ⟨rfl, hb⟩
    have HB2 := hid (bel HB1.out hb)
    clear hb
    go_wp2
    go_ret
    exact ⟨rfl, HB2.out⟩
end Go.Proofs.YtlbgcibdpeaomaaDoor.Laws
