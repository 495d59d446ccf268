/- The law TopRanges. -/
import Derived.Test.YtegpfgccaminkaaGreatDoorUAT
import Derived.Test.YtegpfgccaminkaaGreatDoorUAU
set_option linter.unusedSimpArgs false
set_option linter.unusedVariables false
namespace Go.Proofs.YtegpfgccaminkaaGreatDoor.Laws
open Go.RowKit Go.Proofs.YtegpfgccaminkaaGreatDoor.Base Go.Proofs.YtegpfgccaminkaaGreatDoor.Base2 Go.Proofs.YtegpfgccaminkaaGreatDoor.Regs Go.Proofs.YtegpfgccaminkaaGreatDoor.UtfL Go.Proofs.YtegpfgccaminkaaGreatDoor.BlobA Go.Proofs.YtegpfgccaminkaaGreatDoor.BlobD Go.Proofs.YtegpfgccaminkaaGreatDoor.BlobK Go.Proofs.YtegpfgccaminkaaGreatDoor.BlobR Go.Proofs.YtegpfgccaminkaaGreatDoor.OrgA Go.Proofs.YtegpfgccaminkaaGreatDoor.OrgP Go.Proofs.YtegpfgccaminkaaGreatDoor.Ubx Go.Proofs.YtegpfgccaminkaaGreatDoor.PrsP Go.Proofs.YtegpfgccaminkaaGreatDoor.PrsC Go.Proofs.YtegpfgccaminkaaGreatDoor.PrsG Go.Proofs.YtegpfgccaminkaaGreatDoor.HstC Go.Proofs.YtegpfgccaminkaaGreatDoor.Spl Go.Proofs.YtegpfgccaminkaaGreatDoor.LdA Go.Proofs.YtegpfgccaminkaaGreatDoor.OpqD Go.Proofs.YtegpfgccaminkaaGreatDoor.IdnA Go.Proofs.YtegpfgccaminkaaGreatDoor.StoG Go.Proofs.YtegpfgccaminkaaGreatDoor.StoR Go.Proofs.YtegpfgccaminkaaGreatDoor.FetB Go.Proofs.YtegpfgccaminkaaGreatDoor.StkG Go.Proofs.YtegpfgccaminkaaGreatDoor.StkA Go.Proofs.YtegpfgccaminkaaGreatDoor.StkB Go.Proofs.YtegpfgccaminkaaGreatDoor.StkC Go.Proofs.YtegpfgccaminkaaGreatDoor.StkF Go.Proofs.YtegpfgccaminkaaGreatDoor.StkH Go.Proofs.YtegpfgccaminkaaGreatDoor.StkI Go.Proofs.YtegpfgccaminkaaGreatDoor.TopW Go.Proofs.YtegpfgccaminkaaGreatDoor.SpnB
open Go.Proofs.YtegpfgccaminkaaGreatDoor.SpnP (says)
open Go.Proofs.YtegpfgccaminkaaGreatDoor.SpnY (says_prt)
set_option linter.unusedSimpArgs false
set_option linter.unusedVariables false
def f00 : Nat → UInt8 := fun _ => 0
def u1 (g : Nat) (L KD : List UInt8) : SM := more (nil0 200 1 1) g L KD
def u2 (g : Nat) (L KD : List UInt8) : SM := regd (u1 g L KD) (nameT f00) ⟨strOf (nameT f00), ⟨#[]⟩, ⟨#[]⟩, 0, 0, g⟩
theorem u2_bl (g : Nat) (L KD : List UInt8) : (u2 g L KD).bl g = (L, KD) := if_pos rfl
theorem u2_x (g : Nat) (L KD : List UInt8) (h : 0 < (u2 g L KD).urls.length) : ((u2 g L KD).urls[0]'h).x = g := rfl
/-- The bytes from f to ahead of e, of the first k. -/
def wnt (L : List UInt8) (f e k : Nat) : List UInt8 := (L.take (min k e)).drop f
theorem wnt_zero (L : List UInt8) (f e : Nat) : wnt L f e 0 = [] := by simp [wnt]
theorem wnt_in {L : List UInt8} {f e k : Nat} (hk : k < L.length) (h1 : f ≤ k) (h2 : k < e) : wnt L f e (k + 1) = wnt L f e k ++ [L[k]] := by
  unfold wnt
  rw [Nat.min_eq_left (by omega : k + 1 ≤ e), Nat.min_eq_left (by omega : k ≤ e), List.take_succ_eq_append_getElem hk, List.drop_append_of_le_length (by rw [List.length_take]; omega)]
theorem wnt_out {L : List UInt8} {f e k : Nat} (h : k < f ∨ e ≤ k) : wnt L f e (k + 1) = wnt L f e k := by
  unfold wnt
  rcases h with h | h
  · rw [List.drop_eq_nil_of_le, List.drop_eq_nil_of_le]
    · rw [List.length_take]; omega
    · rw [List.length_take]; omega
  · rw [Nat.min_eq_right (by omega : e ≤ k + 1), Nat.min_eq_right h]
theorem wnt_all {L : List UInt8} {f e : Nat} (he : e ≤ L.length) : wnt L f e L.length = (L.drop f).take (e - f) := by
  unfold wnt
  rw [Nat.min_eq_right he, List.drop_take]
theorem wnt_len {L : List UInt8} {f e : Nat} (he : e ≤ L.length) : (wnt L f e L.length).length = e - f := by
  rw [wnt_all he, List.length_take, List.length_drop]; omega
theorem wnt_le (L : List UInt8) (f e k : Nat) : (wnt L f e k).length ≤ L.length := by
  unfold wnt
  rw [List.length_drop, List.length_take]; omega
/-- A slice of what reads so. -/
theorem rds_mid {w : World} {A : Option Addr} {n : Nat} {L : List UInt8} (h : Rds w A n (bcells L)) (i j : Nat) (hij : i < j) (hj : j ≤ n) : ∃ b off, A = some ⟨b, off, none⟩ ∧ Rds w (some ⟨b, off + i, none⟩) (j - i) (bcells ((L.drop i).take (j - i))) := by
  obtain ⟨b, off, rfl, _, _⟩ := h.spot (by omega)
  refine ⟨b, off, rfl, ?_⟩
  have h1 := (h.cut i (by omega)).upto (j - i) (by omega)
  have e : bcells ((L.drop i).take (j - i)) = ((bcells L).drop i).take (j - i) := by simp [bcells]
  rw [e]
  exact h1
/-- A store into a cell of a string's box leaves a stack alone. -/
theorem owns_cellX {w : World} {B n m gX : Nat} {E : TypeId} {v x : Value} {xs : List Value} {cs : Array Value} (h : w.ownsRow B E n v m xs) (hX : w.heap[gX]? = some (.cells cs 9 (0, 0))) (hE : E ≠ 9) : (w.setCell ⟨gX, 0, none⟩ x).ownsRow B E n v m xs := by
  refine ⟨h.1, ?_⟩
  rcases h.2 with h' | ⟨b, cap, cur, rfl, hB, hb, r⟩
  · exact .inl h'
  · refine .inr ⟨b, cap, cur, rfl, hB, (heap_setCell_other w _ b x ?_).trans hb, r⟩
    rintro rfl
    rw [hX] at hb
    injection hb with hb
    injection hb with _ h2
    exact hE h2.symm
theorem obj_cellX {w : World} {gX g : Nat} {x : Value} {cs : Array Value} {o : Obj} (h : w.heap[g]? = some o) (hX : w.heap[gX]? = some (.cells cs 9 (0, 0))) (ho : ∀ cs', o ≠ .cells cs' 9 (0, 0)) : (w.setCell ⟨gX, 0, none⟩ x).heap[g]? = some o := by
  refine (heap_setCell_other w _ g x ?_).trans h
  rintro rfl
  rw [hX] at h
  injection h with h
  exact ho cs h.symm
theorem _root_.Go.Proofs.YtegpfgccaminkaaGreatDoor.StkG.IsK.keepX {B gs gt gu gm gX : Nat} {m : SM} {w : World} {cs : Array Value} (h : IsK B gs gt gu gm m w) (hX : w.heap[gX]? = some (.cells cs 9 (0, 0))) (x : Value) : IsK B gs gt gu gm m (w.setCell ⟨gX, 0, none⟩ x) := by
  have nt : ∀ (t : TypeId) (C : Array Value), t ≠ 9 → ∀ cs', Obj.cells C t (0, 0) ≠ .cells cs' 9 (0, 0) := fun t C ht cs' e => by injection e with _ e2; exact ht e2
  refine ⟨obj_cellX h.top hX (nt _ _ (by decide)), ?_, ?_, ?_, ?_, h.lo, h.fit⟩
  · obtain ⟨v, a, b, c⟩ := h.tab
    exact ⟨v, obj_cellX a hX (nt _ _ (by decide)), owns_cellX b hX (by decide), c⟩
  · obtain ⟨v, a, b, c⟩ := h.sto
    exact ⟨v, obj_cellX a hX (nt _ _ (by decide)), owns_cellX b hX (by decide), c⟩
  · obtain ⟨cu, cp, s, r, s', r', a, b, c, d⟩ := h.mai
    exact ⟨cu, cp, s, r, s', r', obj_cellX a hX (nt _ _ (by decide)), obj_cellX b hX (fun _ e => by cases e), obj_cellX c hX (fun _ e => by cases e), d⟩
  · intro g hg
    obtain ⟨v, a, b, c⟩ := h.blo g hg
    exact ⟨v, a, obj_cellX b hX (nt _ _ (by decide)), owns_cellX c hX (by decide)⟩
set_option maxRecDepth 100000 in
set_option maxHeartbeats 32000000 in
theorem ranges_tf (A : Option Addr) (n cap : Nat) (L : List UInt8) (kind : ByteArray) (zf zt : Nat) (w : World) (HR0 : Hid (Rds w A n (bcells L))) (HNC : Hid (n ≤ cap ∧ cap ≤ 140737488351232)) (HZzf : Hid (zf ≤ 65535)) (HZzt : Hid (zt ≤ 65535)) (HE : Hid (EnvO w)) (HN : Hid (n ≤ 200)) (HKS : Hid (kind.size ≤ 100)) :
    Calls Tryz.prog 7 #[.slice A n cap, .string kind, .int .u16 (zf : Int), .int .u16 (zt : Int), .bool true, .bool false] w fun e w' => e = .returned (.bool true) ∧ Below w.heap.size w w' := by
  have HFT : Hid True := trivial
  have hni : ¬ (200 : Int) < (n : Int) := by have := HN.out; omega
  have hki : ¬ (100 : Int) < (kind.size : Int) := by have := HKS.out; omega
  have HLN : Hid (L.length = n) := by show _ = _; rw [← length_bcells]; exact HR0.out.1
  obtain ⟨KD, hKD⟩ : ∃ x, x = kd kind.data.toList := ⟨_, rfl⟩
  have HKD := hid hKD
  clear hKD
  have HFN : Hid (zf ≤ n ∨ True) := Or.inr trivial
  have HSA : Hid (says (strOf ([98, 121, 116, 101, 115, 61] ++ Lib.decDigits zf ++ [45])).data.toList = (((zf : Nat) : Int), ((0 : Nat) : Int), true, false, true)) := by
    have h := says_prt zf 0 true false (by have := HZzf.out; omega) (by have := HZzt.out; omega) (by simp) (by simp) (by simp) (by have := HFT.out; simp; try omega)
    have e : SpnY.prt zf 0 true false = [98, 121, 116, 101, 115, 61] ++ Lib.decDigits zf ++ [45] := by simp [SpnY.prt, SpnY.dg]
    rw [e] at h
    exact h
  have hl1 := Dgt.dec_len zf (by have := HZzf.out; omega)
  have hl2 := Dgt.dec_len zt (by have := HZzt.out; omega)
  obtain ⟨DF, hDF⟩ : ∃ x, x = Lib.decDigits zf := ⟨_, rfl⟩
  obtain ⟨DT, hDT⟩ : ∃ x, x = Lib.decDigits zt := ⟨_, rfl⟩
  rw [← hDF] at hl1
  rw [← hDT] at hl2
  try rw [← hDF] at HSA
  try rw [← hDT] at HSA
  have HDzf := hid hDF
  have HDzt := hid hDT
  clear hDF hDT
  obtain ⟨LF, hLF⟩ : ∃ x, x = [98, 121, 116, 101, 115, 61] ++ DF := ⟨_, rfl⟩
  rw [← hLF] at HSA
  have hlF : LF.length ≤ 26 := by rw [hLF]; simp only [List.length_append, List.length_cons, List.length_nil]; omega
  have HADzf : Hid (∀ w : World, (Op.stringOp .add (strOf [98, 121, 116, 101, 115, 61]) (strOf DF)).run Tryz.prog w = .ok (.string (strOf LF)) w) := fun w => by rw [hLF]; exact str_add _ _ w (by simp only [List.length_cons, List.length_nil]; omega)
  clear hLF
  obtain ⟨LD, hLD⟩ : ∃ x : List UInt8, x = LF ++ [45] := ⟨_, rfl⟩
  rw [← hLD] at HSA
  have hlD : LD.length ≤ 27 := by rw [hLD]; simp only [List.length_append, List.length_cons, List.length_nil]; omega
  have HAD0 : Hid (∀ w : World, (Op.stringOp .add (strOf LF) ⟨#[45]⟩).run Tryz.prog w = .ok (.string (strOf LD)) w) := fun w => by rw [hLD]; exact str_add' (strOf LF) ⟨#[45]⟩ w (by rw [size_strOf]; (try simp only [List.length_cons, List.length_nil]); show _ + 1 ≤ _; omega)
  clear hLD
  have HLT : Hid (LD.length ≤ 47) := by show _ ≤ _; omega
  clear hl1 hl2 hlD hlF
  obtain ⟨f, hf⟩ : ∃ f, f = zf := ⟨_, rfl⟩
  obtain ⟨e, he⟩ : ∃ e, e = n := ⟨_, rfl⟩
  have HEN : Hid (e ≤ n) := by show _ ≤ _; omega
  have HOY : Hid (f < e → ofB ((zf : Nat) : Int) ((0 : Nat) : Int) true false (n : Int) = ((f : Int), ((e - 1 : Nat) : Int), true)) := by
    intro hfe
    unfold ofB
    have := HFT.out
    rw [if_neg (by simp; omega)]
    rw [if_pos rfl, if_neg (by simp), if_neg (by omega)]
    refine Prod.ext (by simp only; omega) (Prod.ext (by simp only; omega) rfl)
  have HON : Hid (¬ f < e → (ofB ((zf : Nat) : Int) ((0 : Nat) : Int) true false (n : Int)).2.2 = false) := by
    intro hfe
    unfold ofB
    have := HFT.out
    split
    · rfl
    · rename_i h0
      rw [if_pos rfl, if_neg (by simp), if_pos (by omega)]
  have HFE : Hid (f = zf ∧ e = n) := ⟨hf, he⟩
  clear hf he
  go_enter Tryz.func7, Tryz.ntmps7
  go_wp2_with fail
  refine (awakeT _ HE.out).mono ?_
  rintro e1 w2 ⟨rfl, hb2⟩
  have HB2 := hid hb2
  have HE2 := hid (HE.out.below hb2)
  have HR2 := hid (HR0.out.below hb2)
  clear hb2 HR0 HE
  go_upto_region 3 with (fail)
  clear hni hki
  go_wp2_with fail
  refine (new_ok 1 1 200 (by decide) (by decide) (by decide) (by decide) (by decide) _).mono ?_
  rintro e1 w3 ⟨gs, gt, gu, gm, rfl, hK, hb3⟩
  have HK3 := hid hK
  have HBB3 := hid hb3
  clear hK hb3
  go_wp2_with fail
  refine (create_ok w2.heap.size gs gt gu gm (nil0 200 1 1) A n cap L kind _ HK3.out (HR2.out.below HBB3.out) (by have := HN.out; omega) (by have := HKS.out; unfold maxLen; omega) (by have := HN.out; show total (nil0 200 1 1) + n ≤ 200; rw [show total (nil0 200 1 1) = 0 from rfl]; omega) (by decide) (by decide)).mono ?_
  rw [← HKD.out]
  rintro e1 w4 ⟨g, rfl, _, hK, hb4, _⟩
  have HK4 : Hid (IsK w2.heap.size gs gt gu gm (u1 g L KD) w4) := hK
  have HBB4 : Hid (Below w2.heap.size w2 w4) := HBB3.out.trans hb4
  clear hK hb4 HK3 HBB3
  rw [show (((nil0 200 1 1).last : Nat) : Int) + 1 = 1 from rfl]
  go_wp2_with fail
  refine (register_null w2.heap.size gs gt gu gm (u1 g L KD) ⟨#[]⟩ 0 0 1 0 f00 _ HK4.out rfl (by show 0 < 1; omega) (by show 0 < 1; omega) rfl).mono ?_
  rintro e1 w5 ⟨rfl, hK, hb5, _⟩
  have HK5 : Hid (IsK w2.heap.size gs gt gu gm (u2 g L KD) w5) := hK
  have HBB5 : Hid (Below w2.heap.size w2 w5) := HBB4.out.trans hb5
  clear hK hb5 HK4 HBB4
  go_upto_region 7 with (fail)
  generalize hwa : World.alloc w5 _ = v6
  have h6 : v6.heap[w5.heap.size]? = some (.cells #[.string (strOf [98, 121, 116, 101, 115, 61])] 9 (0, 0)) ∧ Below w5.heap.size w5 v6 := by
    subst hwa
    exact ⟨heap_alloc_new w5 _, (Below.refl _ _).alloc (Nat.le_refl _) _⟩
  clear hwa
  obtain ⟨gX, hgX⟩ : ∃ x, x = w5.heap.size := ⟨_, rfl⟩
  have HX6 : Hid (v6.heap[gX]? = some (.cells #[.string (strOf [98, 121, 116, 101, 115, 61])] 9 (0, 0))) := by rw [hgX]; exact h6.1
  have HK6 := hid (HK5.out.below h6.2)
  have HBB6 := hid (bel HBB5.out h6.2)
  have HGX : Hid (w2.heap.size ≤ gX) := by rw [hgX]; exact HBB5.out.size
  rw [← hgX]
  clear h6 hgX HK5 HBB5
  go_upto_region 8 with (fail)
  refine wp_region_rel_tail (by kernel_rfl) 4 [is (.string (strOf [98, 121, 116, 101, 115, 61])), is (.int .u16 (zf : Int)), is (.string (strOf DF)), is (.string (strOf LF))] [[], [], [1], [0, 1, 2], [0, 1, 2, 3]] (by kernel_rfl) ?_ ?_
  · refine ⟨?_, ?_, ?_, ?_, trivial⟩
    · intro t wq hbq hh K hK
      clear hh
      simp only [filled, filledN, upd, Have, is, any, row, pick, Act.put, List.setIfInBounds_toArray, List.set_cons_zero, List.set_cons_succ, Nat.reduceAdd, Nat.reduceEqDiff, reduceIte] at hK ⊢
      have hq : wq.cell? ⟨gX, 0, none⟩ = some (.string (strOf [98, 121, 116, 101, 115, 61])) := (cell_of_row wq gX 0 _ _ _ (((hbq.block _ (Array.getElem?_eq_some_iff.1 HX6.out).1).trans HX6.out : wq.heap[gX]? = _))).trans rfl
      go_simp
      exact hK _ _ (Below.refl _ _) rfl
    · intro t wq hbq hh K hK
      clear hh
      simp only [filled, filledN, upd, Have, is, any, row, pick, Act.put, List.setIfInBounds_toArray, List.set_cons_zero, List.set_cons_succ, Nat.reduceAdd, Nat.reduceEqDiff, reduceIte] at hK ⊢
      go_simp
      exact hK _ _ (Below.refl _ _) rfl
    · intro t wq hbq hh K hK
      have e1 := hh.1
      simp only [pick] at e1
      replace e1 : t 1 = (.int .u16 (zf : Int)) := e1
      clear hh
      simp only [filled, filledN, upd, Have, is, any, row, pick, Act.put, List.setIfInBounds_toArray, List.set_cons_zero, List.set_cons_succ, Nat.reduceAdd, Nat.reduceEqDiff, reduceIte] at hK ⊢
      simp only [e1] at hK ⊢
      go_simp
      refine (Dgt.digits_any (zf + 1) zf (Nat.lt_succ_self _) HZzf.out _).mono ?_
      rw [← HDzf.out]
      rintro e w9 ⟨rfl, hb9⟩
      exact hK _ _ hb9 rfl
    · intro t wq hbq hh K hK
      have e0 := hh.1
      simp only [pick] at e0
      replace e0 : t 0 = (.string (strOf [98, 121, 116, 101, 115, 61])) := e0
      have e2 := hh.2.2.1
      simp only [pick] at e2
      replace e2 : t 2 = (.string (strOf DF)) := e2
      clear hh
      simp only [filled, filledN, upd, Have, is, any, row, pick, Act.put, List.setIfInBounds_toArray, List.set_cons_zero, List.set_cons_succ, Nat.reduceAdd, Nat.reduceEqDiff, reduceIte] at hK ⊢
      simp only [e0, e2] at hK ⊢
      have hadd := HADzf.out wq
      go_simp
      exact hK _ _ (Below.refl _ _) rfl
  · intro t wq hbq hh
    have f3 := have_get hh 3 (by decide)
    simp only [pick] at f3
    replace f3 : t 3 = (.string (strOf LF)) := f3
    clear hh
    simp only [filled, filledN, upd, Have, is, any, row, pick, Act.put, List.setIfInBounds_toArray, List.set_cons_zero, List.set_cons_succ, Nat.reduceAdd, Nat.reduceEqDiff, reduceIte]
    simp only [f3]
    have HX7 : Hid (wq.heap[gX]? = some (.cells #[.string (strOf [98, 121, 116, 101, 115, 61])] 9 (0, 0))) := (hbq.block _ (Array.getElem?_eq_some_iff.1 HX6.out).1).trans HX6.out
    have HK7 := hid (HK6.out.below hbq)
    have HBB7 := hid (bel HBB6.out hbq)
    clear hbq
    have cX : wq.cell? ⟨gX, 0, none⟩ = some (.string (strOf [98, 121, 116, 101, 115, 61])) := (cell_of_row wq gX 0 _ _ _ HX7.out).trans rfl
    have fX : wq.frozen? ⟨gX, 0, none⟩ = false := frozen_of_row wq gX 0 _ _ HX7.out
    go_upto_region 9 with (fail)
    have hx : (World.setCell _ ⟨gX, 0, none⟩ (.string (strOf LF))).heap[gX]? = some (.cells #[.string (strOf LF)] 9 (0, 0)) := heap_setCell_same _ gX 0 _ _ _ HX7.out
    have hk := HK7.out.keepX HX7.out (.string (strOf LF))
    have hb := Below.setCell HBB7.out (p := ⟨gX, 0, none⟩) HGX.out (.string (strOf LF))
    generalize World.setCell _ ⟨gX, 0, none⟩ _ = v8 at hx hk hb ⊢
    have HX8 := hid hx
    have HK8 := hid hk
    have HBB8 := hid hb
    clear hx hk hb cX fX HX7 HK7 HBB7
    have cX : v8.cell? ⟨gX, 0, none⟩ = some (.string (strOf LF)) := (cell_of_row v8 gX 0 _ _ _ HX8.out).trans rfl
    have fX : v8.frozen? ⟨gX, 0, none⟩ = false := frozen_of_row v8 gX 0 _ _ HX8.out
    have hadd := HAD0.out v8
    go_upto_region 10 with (fail)
    have hx : (World.setCell _ ⟨gX, 0, none⟩ (.string (strOf LD))).heap[gX]? = some (.cells #[.string (strOf LD)] 9 (0, 0)) := heap_setCell_same _ gX 0 _ _ _ HX8.out
    have hk := HK8.out.keepX HX8.out (.string (strOf LD))
    have hb := Below.setCell HBB8.out (p := ⟨gX, 0, none⟩) HGX.out (.string (strOf LD))
    generalize World.setCell _ ⟨gX, 0, none⟩ _ = v9 at hx hk hb ⊢
    have HX9 := hid hx
    have HK9 := hid hk
    have HBB9 := hid hb
    clear hx hk hb cX fX HX8 HK8 HBB8
    clear hadd
    go_upto_region 12 with (fail)
    have HBL : Hid ((u2 g L KD).bl ((u2 g L KD).urls[0]'(by show 0 < 1; omega)).x = (L, KD)) := by show _ = _; rw [u2_x, u2_bl]
    by_cases hfe : f < e
    · skip
      have HW : Hid (wnt L f e n = (L.drop f).take (e - 1 + 1 - f)) := by show _ = _; rw [← HLN.out, wnt_all (by rw [HLN.out]; exact HEN.out)]; congr 1; omega
      have HWL : Hid ((wnt L f e n).length = e - f) := by show _ = _; have h := wnt_len (L := L) (f := f) (e := e) (by rw [HLN.out]; exact HEN.out); rw [HLN.out] at h; exact h
      have hft := sf_some w2.heap.size gs gt gu gm (u2 g L KD) (nameT f00) f00 false [] (by decide) (.pointer (some ⟨gX, 0, none⟩)) ⟨#[]⟩ ⟨#[]⟩ 0 0 0 v9 HK9.out (HE2.out.below HBB9.out) (par_n f00 v9 (HE2.out.below HBB9.out)) (by show 0 < 1; omega) (idx_one _) (has_one _) 206 (f : Int) (n : Int) KD (wnt L f e n) (hid fun w1 hb1 hs1 => ((range_part 1 _ n L KD ⟨gX, 0, none⟩ (strOf LD) w1 (by have h := ((HK9.out.below hb1).blo ((u2 g L KD).urls[0]'(by show 0 < 1; omega)).x (.inr ⟨_, List.getElem_mem _, rfl⟩)).at; rw [HBL.out, HLN.out] at h; exact h) (by have := HN.out; omega) ((cell_of_row w1 gX 0 _ _ _ ((hb1.block _ (Array.getElem?_eq_some_iff.1 HX9.out).1).trans HX9.out)).trans rfl) (by have h1 := HLT.out; rw [size_strOf]; omega) _ _ _ _ f (e - 1) HSA.out (by have := HZzf.out; omega) (by have := HZzt.out; omega) (HOY.out hfe) (by omega) (by have := HEN.out; omega)).mono fun e1 w3 ⟨A9, c9, h1, h2, h3⟩ => ⟨_, h1, h3, A9, _, c9, rfl, by rw [HW.out]; exact h2⟩))
      have HFT2 := hid hft
      clear hft
      go_wp2_with fail
      refine HFT2.out.mono ?_
      rintro e1 w19 ⟨cs, rfl, hb19, A', n', c', rfl, hown⟩
      have HBB19 := hid (bel HBB9.out hb19)
      have HO19 := hid hown
      clear hb19 hown HK9 HBB9 HFT2 HX9 HBL
      go_upto_region 13 with (fail)
      generalize hwa : World.alloc w19 _ = v20
      have h20 : AB v20 w19.heap.size #[.int .i64 1, .int .i64 206, .int .i64 (f : Int), .int .i64 (n : Int), .string (strOf KD), .slice A' n' c'] ∧ Below w19.heap.size w19 v20 := by
        subst hwa
        exact laid1 w19 _ _
      clear hwa
      obtain ⟨gA, hgA⟩ : ∃ x, x = w19.heap.size := ⟨_, rfl⟩
      have XB20 : Hid (AB v20 gA #[.int .i64 1, .int .i64 206, .int .i64 (f : Int), .int .i64 (n : Int), .string (strOf KD), .slice A' n' c']) := by rw [hgA]; exact h20.1
      have HBB20 := hid (bel HBB19.out h20.2)
      have HO20 := hid (owns_below HO19.out h20.2)
      rw [← hgA]
      clear h20 hgA HBB19 HO19
      go_wp2
      go_loopw [21, 95] (fun vs vk wr => ∃ k : Nat, k ≤ n ∧ vk = .int .i64 (k : Int) ∧ vs = .string (strOf (wnt L f e k)) ∧ Hid (AB wr gA #[.int .i64 1, .int .i64 206, .int .i64 (f : Int), .int .i64 (n : Int), .string (strOf KD), .slice A' n' c']) ∧ Hid (Below w2.heap.size w2 wr) ∧ Hid (wr.ownsRow v9.heap.size 5 1 (.slice A' n' c') n' (bcells (wnt L f e n)))) (fun _ vk _ => n - (intOf vk).toNat)
      case atStart => exact ⟨0, Nat.zero_le _, rfl, by rw [wnt_zero]; rfl, XB20.out, HBB20.out, HO20.out⟩
      case round =>
        obtain ⟨k, hk, rfl, rfl, XB, HBB, HO⟩ := hrel
        by_cases hlk : k < n
        · skip
          have hki : (k : Int) < (n : Int) := by omega
          have hni : (n : Int) ≤ 200 := by have := HN.out; omega
          have hz1 : (zf : Int) ≤ 65535 := by have := HZzf.out; omega
          have hz2 : (zt : Int) ≤ 65535 := by have := HZzt.out; omega
          by_cases hin : f ≤ k ∧ k < e
          · skip
            have q1 : (zf : Int) ≤ (k : Int) := by have := HFE.out; omega
            have HKL : Hid (k < L.length) := by rw [HLN.out]; exact hlk
            obtain ⟨b, off, rfl, hmid⟩ := rds_mid (HR2.out.below HBB.out) k (k + 1) (Nat.lt_succ_self k) hlk
            have hst := run_string_of (P := Tryz.prog) 39 9 5 Tryz.underlying39 Tryz.underlying5 Tryz.underlying9 _ (cap - k) hmid
            have h1k : k + 1 - k = 1 := by omega
            rw [h1k] at hst
            have HONE : Hid ((L.drop k).take 1 = [L[k]'HKL.out]) := by show _ = _; rw [List.drop_eq_getElem_cons HKL.out]; rfl
            rw [HONE.out] at hst
            have HSU : Hid (wnt L f e (k + 1) = wnt L f e k ++ [L[k]'HKL.out]) := wnt_in HKL.out hin.1 hin.2
            have hadd : (Op.stringOp .add (strOf (wnt L f e k)) (strOf [L[k]'HKL.out])).run Tryz.prog wr = .ok (.string (strOf (wnt L f e (k + 1)))) wr := by rw [HSU.out]; exact str_add _ _ wr (by have h1 := wnt_le L f e k; rw [HLN.out] at h1; have := HN.out; simp only [List.length_cons, List.length_nil]; omega)
            have hk1 : k + 1 ≤ cap := by have := HNC.out; omega
            have hk1i : (k : Int) + 1 ≤ (cap : Int) := by omega
            have hkc : (k : Int) ≤ (k : Int) + 1 := by omega
            generalize L[k]'HKL.out = ch at hst hadd HSU HONE
            clear hmid hin h1k HONE
            go_wp2
            go_roundw
            case rel => exact ⟨k + 1, by omega, by go_num, rfl, XB.out, HBB.out, HO.out⟩
            case measure => simp [intOf]; omega
          · skip
            have HSU : Hid (wnt L f e (k + 1) = wnt L f e k) := wnt_out (by omega)
            skip
            have q1 : ¬ (zf : Int) ≤ (k : Int) := by have := HFE.out; omega
            clear hin
            go_wp2
            go_roundw
            case rel => exact ⟨k + 1, by omega, by go_num, by rw [HSU.out], XB.out, HBB.out, HO.out⟩
            case measure => simp [intOf]; omega
        · obtain rfl : k = n := by omega
          have hni : (k : Int) ≤ 200 := by have := HN.out; omega
          obtain ⟨a0, a1, a2, a3, a4, a5⟩ := XB.out.facts
          have hs1 := run_string_of (P := Tryz.prog) 39 9 5 Tryz.underlying39 Tryz.underlying5 Tryz.underlying9 _ c' (own_form HO.out).2.2
          obtain ⟨W, hW⟩ : ∃ W, W = wnt L f e k := ⟨_, rfl⟩
          have HWW := hid hW
          rw [← hW] at hs1 ⊢
          have HWS : Hid (W.length = e - f) := by show _ = _; rw [hW]; exact HWL.out
          have hn0 : (strOf W).toList ≠ [] := fun h => by have h2 := (StoB.tl_eq (strOf W) ⟨#[]⟩).1 (h.trans (by simp)); have h3 := congrArg ByteArray.size h2; rw [size_strOf] at h3; have := HWS.out; have h4 : (⟨#[]⟩ : ByteArray).size = 0 := rfl; omega
          obtain ⟨X, hX⟩ : ∃ X, X = strOf W := ⟨_, rfl⟩
          have HXX := hid hX
          have HXS : Hid (X.size = e - f) := by show _ = _; rw [hX, size_strOf]; exact HWS.out
          rw [← hX] at hs1 hn0 ⊢
          clear hX hW
          have hn1 : (X.toList == []) = false := beq_eq_false_iff_ne.2 hn0
          have hn2 : X.toList.isEmpty = false := by cases h : X.toList with | nil => exact absurd h hn0 | cons a t => rfl
          go_upto_region 27 with (fail)
          clear hs1 hn0 hn1 hn2
          have hsz : (X.size : Int) = (e : Int) - (f : Int) := by have := HXS.out; omega
          have hen : (e : Int) ≤ (k : Int) := by have := HEN.out; omega
          have hfi : (f : Int) < (e : Int) := by omega
          have hf0 : ¬ (f : Int) < 0 := by omega
          have HSZ := hid hsz
          have hsub : ¬ (k : Int) - (X.size : Int) < (f : Int) := by omega
          have hx2 : (X.size : Int) ≤ 200 := by omega
          clear hsz
          go_upto_region 30 with (fail)
          clear hsub hx2 hf0 a0 a2 a3 a5
          obtain ⟨b, off, rfl, hmid⟩ := rds_mid (HR2.out.below HBB.out) f e hfe HEN.out
          have HMID : Hid (Rds wr (some ⟨b, off + f, none⟩) (e - f) (bcells W)) := by have h := HWW.out; rw [h, HW.out]; show Rds _ _ _ _; rw [show e - 1 + 1 - f = e - f by omega]; exact hmid
          clear hmid
          have HLA : Hid (gA < wr.heap.size) := XB.out.lt
          refine wp_region_rel (by kernel_rfl) [is (.pointer (some ⟨gA, 1, none⟩)), is (.int .i64 206), is (.bool true), is (.bool true), is (.pointer (some ⟨gA, 4, none⟩)), is (.string (strOf KD)), is (.string kind), is (.string (strOf KD)), is (.bool true), is (.bool true), is (.bool true), is (.slice (some ⟨b, off, none⟩) k cap), is (.int .i64 (f : Int)), is (.int .i64 (f : Int)), is (.string X), is (.int .i64 (X.size : Int)), is (.int .i64 (e : Int)), is (.slice (some ⟨b, off + f, none⟩) (e - f) (cap - f)), is (.string X), is (.string X), is (.bool true), is (.bool true), is (.bool true)] [[], [0], [1], [2], [3], [3, 4], [3], [3, 6], [3, 5, 7], [3, 8], [9], [10], [10], [10], [10], [10, 14], [10, 13, 15], [10, 11, 12, 16], [10, 17], [10], [10, 18, 19], [10, 20], [21]] (by kernel_rfl) ?_ ?_
          · refine ⟨?_, ?_, ?_, ?_, ?_, ?_, ?_, ?_, ?_, ?_, ?_, ?_, ?_, ?_, ?_, ?_, ?_, ?_, ?_, ?_, ?_, ?_, ?_, trivial⟩
            · intro t wq hbq hh K hK
              clear hh
              simp only [filled, upd, Have, is, any, row, pick, Act.put, List.setIfInBounds_toArray, List.set_cons_zero, List.set_cons_succ, Nat.reduceAdd, Nat.reduceEqDiff, reduceIte] at hK ⊢
              go_simp
              exact hK _ _ (Below.refl _ _) rfl
            · intro t wq hbq hh K hK
              have e0 := hh.1
              simp only [pick] at e0
              replace e0 : t 0 = (.pointer (some ⟨gA, 1, none⟩)) := e0
              clear hh
              simp only [filled, upd, Have, is, any, row, pick, Act.put, List.setIfInBounds_toArray, List.set_cons_zero, List.set_cons_succ, Nat.reduceAdd, Nat.reduceEqDiff, reduceIte] at hK ⊢
              simp only [e0] at hK ⊢
              have hq := (hbq.cell (p := ⟨gA, 1, none⟩) HLA.out).trans a1
              go_simp
              exact hK _ _ (Below.refl _ _) rfl
            · intro t wq hbq hh K hK
              have e1 := hh.1
              simp only [pick] at e1
              replace e1 : t 1 = (.int .i64 206) := e1
              clear hh
              simp only [filled, upd, Have, is, any, row, pick, Act.put, List.setIfInBounds_toArray, List.set_cons_zero, List.set_cons_succ, Nat.reduceAdd, Nat.reduceEqDiff, reduceIte] at hK ⊢
              simp only [e1] at hK ⊢
              go_simp
              first | exact hK _ _ (Below.refl _ _) rfl | exact hK _ _ (Below.refl _ _) (int_wrap (by omega) (by omega))
            · intro t wq hbq hh K hK
              have e2 := hh.1
              simp only [pick] at e2
              replace e2 : t 2 = (.bool true) := e2
              clear hh
              simp only [filled, upd, Have, is, any, row, pick, Act.put, List.setIfInBounds_toArray, List.set_cons_zero, List.set_cons_succ, Nat.reduceAdd, Nat.reduceEqDiff, reduceIte] at hK ⊢
              simp only [e2] at hK ⊢
              go_simp
              exact hK _ _ (Below.refl _ _) rfl
            · intro t wq hbq hh K hK
              have e3 := hh.1
              simp only [pick] at e3
              replace e3 : t 3 = (.bool true) := e3
              clear hh
              simp only [filled, upd, Have, is, any, row, pick, Act.put, List.setIfInBounds_toArray, List.set_cons_zero, List.set_cons_succ, Nat.reduceAdd, Nat.reduceEqDiff, reduceIte] at hK ⊢
              simp only [e3] at hK ⊢
              go_simp
              exact hK _ _ (Below.refl _ _) rfl
            · intro t wq hbq hh K hK
              have e3 := hh.1
              simp only [pick] at e3
              replace e3 : t 3 = (.bool true) := e3
              have e4 := hh.2.1
              simp only [pick] at e4
              replace e4 : t 4 = (.pointer (some ⟨gA, 4, none⟩)) := e4
              clear hh
              simp only [filled, upd, Have, is, any, row, pick, Act.put, List.setIfInBounds_toArray, List.set_cons_zero, List.set_cons_succ, Nat.reduceAdd, Nat.reduceEqDiff, reduceIte] at hK ⊢
              simp only [e3, e4] at hK ⊢
              have hq := (hbq.cell (p := ⟨gA, 4, none⟩) HLA.out).trans a4
              go_simp
              exact hK _ _ (Below.refl _ _) rfl
            · intro t wq hbq hh K hK
              have e3 := hh.1
              simp only [pick] at e3
              replace e3 : t 3 = (.bool true) := e3
              clear hh
              simp only [filled, upd, Have, is, any, row, pick, Act.put, List.setIfInBounds_toArray, List.set_cons_zero, List.set_cons_succ, Nat.reduceAdd, Nat.reduceEqDiff, reduceIte] at hK ⊢
              simp only [e3] at hK ⊢
              go_simp
              exact hK _ _ (Below.refl _ _) rfl
            · intro t wq hbq hh K hK
              have e3 := hh.1
              simp only [pick] at e3
              replace e3 : t 3 = (.bool true) := e3
              have e6 := hh.2.1
              simp only [pick] at e6
              replace e6 : t 6 = (.string kind) := e6
              clear hh
              simp only [filled, upd, Have, is, any, row, pick, Act.put, List.setIfInBounds_toArray, List.set_cons_zero, List.set_cons_succ, Nat.reduceAdd, Nat.reduceEqDiff, reduceIte] at hK ⊢
              simp only [e3, e6] at hK ⊢
              go_simp
              refine (refKind_any kind _ (by have := HKS.out; omega)).mono ?_
              rw [← HKD.out]
              rintro e1 w33 ⟨rfl, hb33⟩
              exact hK _ _ hb33 rfl
            · intro t wq hbq hh K hK
              have e3 := hh.1
              simp only [pick] at e3
              replace e3 : t 3 = (.bool true) := e3
              have e5 := hh.2.1
              simp only [pick] at e5
              replace e5 : t 5 = (.string (strOf KD)) := e5
              have e7 := hh.2.2.1
              simp only [pick] at e7
              replace e7 : t 7 = (.string (strOf KD)) := e7
              clear hh
              simp only [filled, upd, Have, is, any, row, pick, Act.put, List.setIfInBounds_toArray, List.set_cons_zero, List.set_cons_succ, Nat.reduceAdd, Nat.reduceEqDiff, reduceIte] at hK ⊢
              simp only [e3, e5, e7] at hK ⊢
              go_simp
              first | exact hK _ _ (Below.refl _ _) rfl | exact hK _ _ (Below.refl _ _) (int_wrap (by omega) (by omega))
            · intro t wq hbq hh K hK
              have e3 := hh.1
              simp only [pick] at e3
              replace e3 : t 3 = (.bool true) := e3
              have e8 := hh.2.1
              simp only [pick] at e8
              replace e8 : t 8 = (.bool true) := e8
              clear hh
              simp only [filled, upd, Have, is, any, row, pick, Act.put, List.setIfInBounds_toArray, List.set_cons_zero, List.set_cons_succ, Nat.reduceAdd, Nat.reduceEqDiff, reduceIte] at hK ⊢
              simp only [e3, e8] at hK ⊢
              go_simp
              exact hK _ _ (Below.refl _ _) rfl
            · intro t wq hbq hh K hK
              have e9 := hh.1
              simp only [pick] at e9
              replace e9 : t 9 = (.bool true) := e9
              clear hh
              simp only [filled, upd, Have, is, any, row, pick, Act.put, List.setIfInBounds_toArray, List.set_cons_zero, List.set_cons_succ, Nat.reduceAdd, Nat.reduceEqDiff, reduceIte] at hK ⊢
              simp only [e9] at hK ⊢
              go_simp
              exact hK _ _ (Below.refl _ _) rfl
            · intro t wq hbq hh K hK
              have e10 := hh.1
              simp only [pick] at e10
              replace e10 : t 10 = (.bool true) := e10
              clear hh
              simp only [filled, upd, Have, is, any, row, pick, Act.put, List.setIfInBounds_toArray, List.set_cons_zero, List.set_cons_succ, Nat.reduceAdd, Nat.reduceEqDiff, reduceIte] at hK ⊢
              simp only [e10] at hK ⊢
              go_simp
              exact hK _ _ (Below.refl _ _) rfl
            · intro t wq hbq hh K hK
              have e10 := hh.1
              simp only [pick] at e10
              replace e10 : t 10 = (.bool true) := e10
              clear hh
              simp only [filled, upd, Have, is, any, row, pick, Act.put, List.setIfInBounds_toArray, List.set_cons_zero, List.set_cons_succ, Nat.reduceAdd, Nat.reduceEqDiff, reduceIte] at hK ⊢
              simp only [e10] at hK ⊢
              go_simp
              exact hK _ _ (Below.refl _ _) rfl
            · intro t wq hbq hh K hK
              have e10 := hh.1
              simp only [pick] at e10
              replace e10 : t 10 = (.bool true) := e10
              clear hh
              simp only [filled, upd, Have, is, any, row, pick, Act.put, List.setIfInBounds_toArray, List.set_cons_zero, List.set_cons_succ, Nat.reduceAdd, Nat.reduceEqDiff, reduceIte] at hK ⊢
              simp only [e10] at hK ⊢
              go_simp
              exact hK _ _ (Below.refl _ _) rfl
            · intro t wq hbq hh K hK
              have e10 := hh.1
              simp only [pick] at e10
              replace e10 : t 10 = (.bool true) := e10
              clear hh
              simp only [filled, upd, Have, is, any, row, pick, Act.put, List.setIfInBounds_toArray, List.set_cons_zero, List.set_cons_succ, Nat.reduceAdd, Nat.reduceEqDiff, reduceIte] at hK ⊢
              simp only [e10] at hK ⊢
              go_simp
              exact hK _ _ (Below.refl _ _) rfl
            · intro t wq hbq hh K hK
              have e10 := hh.1
              simp only [pick] at e10
              replace e10 : t 10 = (.bool true) := e10
              have e14 := hh.2.1
              simp only [pick] at e14
              replace e14 : t 14 = (.string X) := e14
              clear hh
              simp only [filled, upd, Have, is, any, row, pick, Act.put, List.setIfInBounds_toArray, List.set_cons_zero, List.set_cons_succ, Nat.reduceAdd, Nat.reduceEqDiff, reduceIte] at hK ⊢
              simp only [e10, e14] at hK ⊢
              go_simp
              exact hK _ _ (Below.refl _ _) rfl
            · intro t wq hbq hh K hK
              have e10 := hh.1
              simp only [pick] at e10
              replace e10 : t 10 = (.bool true) := e10
              have e13 := hh.2.1
              simp only [pick] at e13
              replace e13 : t 13 = (.int .i64 (f : Int)) := e13
              have e15 := hh.2.2.1
              simp only [pick] at e15
              replace e15 : t 15 = (.int .i64 (X.size : Int)) := e15
              clear hh
              simp only [filled, upd, Have, is, any, row, pick, Act.put, List.setIfInBounds_toArray, List.set_cons_zero, List.set_cons_succ, Nat.reduceAdd, Nat.reduceEqDiff, reduceIte] at hK ⊢
              simp only [e10, e13, e15] at hK ⊢
              have hq : (f : Int) + (X.size : Int) = (e : Int) := by have := HSZ.out; omega
              have hq5 : (e : Int) ≤ 200 := by omega
              go_simp
              first | exact hK _ _ (Below.refl _ _) rfl | exact hK _ _ (Below.refl _ _) (congrArg (Value.int .i64) (by omega)) | exact hK _ _ (Below.refl _ _) (int_wrap (by omega) (by omega))
            · intro t wq hbq hh K hK
              have e10 := hh.1
              simp only [pick] at e10
              replace e10 : t 10 = (.bool true) := e10
              have e11 := hh.2.1
              simp only [pick] at e11
              replace e11 : t 11 = (.slice (some ⟨b, off, none⟩) k cap) := e11
              have e12 := hh.2.2.1
              simp only [pick] at e12
              replace e12 : t 12 = (.int .i64 (f : Int)) := e12
              have e16 := hh.2.2.2.1
              simp only [pick] at e16
              replace e16 : t 16 = (.int .i64 (e : Int)) := e16
              clear hh
              simp only [filled, upd, Have, is, any, row, pick, Act.put, List.setIfInBounds_toArray, List.set_cons_zero, List.set_cons_succ, Nat.reduceAdd, Nat.reduceEqDiff, reduceIte] at hK ⊢
              simp only [e10, e11, e12, e16] at hK ⊢
              have hq1 : e ≤ cap := by have := HNC.out; have := HEN.out; omega
              have hq2 : (e : Int) ≤ (cap : Int) := by omega
              have hq3 : (f : Int) ≤ (e : Int) := by omega
              have hq4 : ¬ cap = f := by omega
              go_simp
              exact hK _ _ (Below.refl _ _) rfl
            · intro t wq hbq hh K hK
              have e10 := hh.1
              simp only [pick] at e10
              replace e10 : t 10 = (.bool true) := e10
              have e17 := hh.2.1
              simp only [pick] at e17
              replace e17 : t 17 = (.slice (some ⟨b, off + f, none⟩) (e - f) (cap - f)) := e17
              clear hh
              simp only [filled, upd, Have, is, any, row, pick, Act.put, List.setIfInBounds_toArray, List.set_cons_zero, List.set_cons_succ, Nat.reduceAdd, Nat.reduceEqDiff, reduceIte] at hK ⊢
              simp only [e10, e17] at hK ⊢
              have hst := run_string_of (P := Tryz.prog) 39 9 5 Tryz.underlying39 Tryz.underlying5 Tryz.underlying9 W (cap - f) (HMID.out.below hbq)
              rw [← HXX.out] at hst
              go_simp
              exact hK _ _ (Below.refl _ _) rfl
            · intro t wq hbq hh K hK
              have e10 := hh.1
              simp only [pick] at e10
              replace e10 : t 10 = (.bool true) := e10
              clear hh
              simp only [filled, upd, Have, is, any, row, pick, Act.put, List.setIfInBounds_toArray, List.set_cons_zero, List.set_cons_succ, Nat.reduceAdd, Nat.reduceEqDiff, reduceIte] at hK ⊢
              simp only [e10] at hK ⊢
              go_simp
              exact hK _ _ (Below.refl _ _) rfl
            · intro t wq hbq hh K hK
              have e10 := hh.1
              simp only [pick] at e10
              replace e10 : t 10 = (.bool true) := e10
              have e18 := hh.2.1
              simp only [pick] at e18
              replace e18 : t 18 = (.string X) := e18
              have e19 := hh.2.2.1
              simp only [pick] at e19
              replace e19 : t 19 = (.string X) := e19
              clear hh
              simp only [filled, upd, Have, is, any, row, pick, Act.put, List.setIfInBounds_toArray, List.set_cons_zero, List.set_cons_succ, Nat.reduceAdd, Nat.reduceEqDiff, reduceIte] at hK ⊢
              simp only [e10, e18, e19] at hK ⊢
              go_simp
              first | exact hK _ _ (Below.refl _ _) rfl | exact hK _ _ (Below.refl _ _) (int_wrap (by omega) (by omega))
            · intro t wq hbq hh K hK
              have e10 := hh.1
              simp only [pick] at e10
              replace e10 : t 10 = (.bool true) := e10
              have e20 := hh.2.1
              simp only [pick] at e20
              replace e20 : t 20 = (.bool true) := e20
              clear hh
              simp only [filled, upd, Have, is, any, row, pick, Act.put, List.setIfInBounds_toArray, List.set_cons_zero, List.set_cons_succ, Nat.reduceAdd, Nat.reduceEqDiff, reduceIte] at hK ⊢
              simp only [e10, e20] at hK ⊢
              go_simp
              exact hK _ _ (Below.refl _ _) rfl
            · intro t wq hbq hh K hK
              have e21 := hh.1
              simp only [pick] at e21
              replace e21 : t 21 = (.bool true) := e21
              clear hh
              simp only [filled, upd, Have, is, any, row, pick, Act.put, List.setIfInBounds_toArray, List.set_cons_zero, List.set_cons_succ, Nat.reduceAdd, Nat.reduceEqDiff, reduceIte] at hK ⊢
              simp only [e21] at hK ⊢
              go_simp
              exact hK _ _ (Below.refl _ _) rfl
          · intro t wq hbq hh
            have f22 := have_get hh 22 (by decide)
            simp only [pick] at f22
            replace f22 : t 22 = (.bool true) := f22
            clear hh
            simp only [filled, upd, Have, is, any, row, pick, Act.put, List.setIfInBounds_toArray, List.set_cons_zero, List.set_cons_succ, Nat.reduceAdd, Nat.reduceEqDiff, reduceIte]
            simp only [f22]
            have HBF : Hid (Below w.heap.size w wq) := bel HB2.out (bel HBB.out hbq)
            clear hbq
            go_wp2
            go_ret
            exact ⟨rfl, HBF.out⟩
    · skip
      have HW : Hid (wnt L f e n = []) := by show _ = _; have h := wnt_len (L := L) (f := f) (e := e) (by rw [HLN.out]; exact HEN.out); rw [HLN.out] at h; exact List.eq_nil_of_length_eq_zero (by omega)
      have hft := sf_some w2.heap.size gs gt gu gm (u2 g L KD) (nameT f00) f00 false [] (by decide) (.pointer (some ⟨gX, 0, none⟩)) ⟨#[]⟩ ⟨#[]⟩ 0 0 0 v9 HK9.out (HE2.out.below HBB9.out) (par_n f00 v9 (HE2.out.below HBB9.out)) (by show 0 < 1; omega) (idx_one _) (has_one _) 416 0 (n : Int) [] [] (hid fun w1 hb1 hs1 => ((range_beyond 1 _ n L KD ⟨gX, 0, none⟩ (strOf LD) w1 (by have h := ((HK9.out.below hb1).blo ((u2 g L KD).urls[0]'(by show 0 < 1; omega)).x (.inr ⟨_, List.getElem_mem _, rfl⟩)).at; rw [HBL.out, HLN.out] at h; exact h) (by have := HN.out; omega) ((cell_of_row w1 gX 0 _ _ _ ((hb1.block _ (Array.getElem?_eq_some_iff.1 HX9.out).1).trans HX9.out)).trans rfl) (by have h1 := HLT.out; rw [size_strOf]; omega) _ _ _ _ HSA.out (by have := HZzf.out; omega) (by have := HZzt.out; omega) (HON.out hfe)).mono fun e1 w3 ⟨h1, h3⟩ => ⟨_, h1, h3, none, 0, 0, rfl, World.ownsRow_nil _ _ _ _⟩))
      have HFT2 := hid hft
      clear hft
      go_wp2_with fail
      refine HFT2.out.mono ?_
      rintro e1 w19 ⟨cs, rfl, hb19, A', n', c', rfl, hown⟩
      have HBB19 := hid (bel HBB9.out hb19)
      have HO19 := hid hown
      clear hb19 hown HK9 HBB9 HFT2 HX9 HBL
      go_upto_region 13 with (fail)
      generalize hwa : World.alloc w19 _ = v20
      have h20 : AB v20 w19.heap.size #[.int .i64 1, .int .i64 416, .int .i64 0, .int .i64 (n : Int), .string ⟨#[]⟩, .slice A' n' c'] ∧ Below w19.heap.size w19 v20 := by
        subst hwa
        exact laid1 w19 _ _
      clear hwa
      obtain ⟨gA, hgA⟩ : ∃ x, x = w19.heap.size := ⟨_, rfl⟩
      have XB20 : Hid (AB v20 gA #[.int .i64 1, .int .i64 416, .int .i64 0, .int .i64 (n : Int), .string ⟨#[]⟩, .slice A' n' c']) := by rw [hgA]; exact h20.1
      have HBB20 := hid (bel HBB19.out h20.2)
      have HO20 := hid (owns_below HO19.out h20.2)
      rw [← hgA]
      clear h20 hgA HBB19 HO19
      go_wp2
      go_loopw [21, 95] (fun vs vk wr => ∃ k : Nat, k ≤ n ∧ vk = .int .i64 (k : Int) ∧ vs = .string (strOf (wnt L f e k)) ∧ Hid (AB wr gA #[.int .i64 1, .int .i64 416, .int .i64 0, .int .i64 (n : Int), .string ⟨#[]⟩, .slice A' n' c']) ∧ Hid (Below w2.heap.size w2 wr) ∧ Hid (wr.ownsRow v9.heap.size 5 1 (.slice A' n' c') n' (bcells ([])))) (fun _ vk _ => n - (intOf vk).toNat)
      case atStart => exact ⟨0, Nat.zero_le _, rfl, by rw [wnt_zero]; rfl, XB20.out, HBB20.out, HO20.out⟩
      case round =>
        obtain ⟨k, hk, rfl, rfl, XB, HBB, HO⟩ := hrel
        by_cases hlk : k < n
        · skip
          have hki : (k : Int) < (n : Int) := by omega
          have hni : (n : Int) ≤ 200 := by have := HN.out; omega
          have hz1 : (zf : Int) ≤ 65535 := by have := HZzf.out; omega
          have hz2 : (zt : Int) ≤ 65535 := by have := HZzt.out; omega
          by_cases hin : f ≤ k ∧ k < e
          · skip
            have q1 : (zf : Int) ≤ (k : Int) := by have := HFE.out; omega
            have HKL : Hid (k < L.length) := by rw [HLN.out]; exact hlk
            obtain ⟨b, off, rfl, hmid⟩ := rds_mid (HR2.out.below HBB.out) k (k + 1) (Nat.lt_succ_self k) hlk
            have hst := run_string_of (P := Tryz.prog) 39 9 5 Tryz.underlying39 Tryz.underlying5 Tryz.underlying9 _ (cap - k) hmid
            have h1k : k + 1 - k = 1 := by omega
            rw [h1k] at hst
            have HONE : Hid ((L.drop k).take 1 = [L[k]'HKL.out]) := by show _ = _; rw [List.drop_eq_getElem_cons HKL.out]; rfl
            rw [HONE.out] at hst
            have HSU : Hid (wnt L f e (k + 1) = wnt L f e k ++ [L[k]'HKL.out]) := wnt_in HKL.out hin.1 hin.2
            have hadd : (Op.stringOp .add (strOf (wnt L f e k)) (strOf [L[k]'HKL.out])).run Tryz.prog wr = .ok (.string (strOf (wnt L f e (k + 1)))) wr := by rw [HSU.out]; exact str_add _ _ wr (by have h1 := wnt_le L f e k; rw [HLN.out] at h1; have := HN.out; simp only [List.length_cons, List.length_nil]; omega)
            have hk1 : k + 1 ≤ cap := by have := HNC.out; omega
            have hk1i : (k : Int) + 1 ≤ (cap : Int) := by omega
            have hkc : (k : Int) ≤ (k : Int) + 1 := by omega
            generalize L[k]'HKL.out = ch at hst hadd HSU HONE
            clear hmid hin h1k HONE
            go_wp2
            go_roundw
            case rel => exact ⟨k + 1, by omega, by go_num, rfl, XB.out, HBB.out, HO.out⟩
            case measure => simp [intOf]; omega
          · skip
            have HSU : Hid (wnt L f e (k + 1) = wnt L f e k) := wnt_out (by omega)
            skip
            have q1 : ¬ (zf : Int) ≤ (k : Int) := by have := HFE.out; omega
            clear hin
            go_wp2
            go_roundw
            case rel => exact ⟨k + 1, by omega, by go_num, by rw [HSU.out], XB.out, HBB.out, HO.out⟩
            case measure => simp [intOf]; omega
        · obtain rfl : k = n := by omega
          have hni : (k : Int) ≤ 200 := by have := HN.out; omega
          obtain ⟨a0, a1, a2, a3, a4, a5⟩ := XB.out.facts
          have hs1 := run_string_of (P := Tryz.prog) 39 9 5 Tryz.underlying39 Tryz.underlying5 Tryz.underlying9 _ c' (own_form HO.out).2.2
          rw [HW.out]
          have hs0 : strOf [] = (⟨#[]⟩ : ByteArray) := rfl
          rw [hs0] at hs1 ⊢
          have HBF : Hid (Below w.heap.size w wr) := bel HB2.out HBB.out
          go_wp2
          go_ret
          exact ⟨rfl, HBF.out⟩
set_option maxRecDepth 100000 in
set_option maxHeartbeats 32000000 in
theorem ranges_ft (A : Option Addr) (n cap : Nat) (L : List UInt8) (kind : ByteArray) (zf zt : Nat) (w : World) (HR0 : Hid (Rds w A n (bcells L))) (HNC : Hid (n ≤ cap ∧ cap ≤ 140737488351232)) (HZzf : Hid (zf ≤ 65535)) (HZzt : Hid (zt ≤ 65535)) (HE : Hid (EnvO w)) (HN : Hid (n ≤ 200)) (HKS : Hid (kind.size ≤ 100)) :
    Calls Tryz.prog 7 #[.slice A n cap, .string kind, .int .u16 (zf : Int), .int .u16 (zt : Int), .bool false, .bool true] w fun e w' => e = .returned (.bool true) ∧ Below w.heap.size w w' := by
  have HFT : Hid True := trivial
  have hni : ¬ (200 : Int) < (n : Int) := by have := HN.out; omega
  have hki : ¬ (100 : Int) < (kind.size : Int) := by have := HKS.out; omega
  have HLN : Hid (L.length = n) := by show _ = _; rw [← length_bcells]; exact HR0.out.1
  obtain ⟨KD, hKD⟩ : ∃ x, x = kd kind.data.toList := ⟨_, rfl⟩
  have HKD := hid hKD
  clear hKD
  have HFN : Hid ((n - zt) ≤ n ∨ True) := Or.inr trivial
  have HSA : Hid (says (strOf ([98, 121, 116, 101, 115, 61] ++ [45] ++ Lib.decDigits zt)).data.toList = (((0 : Nat) : Int), ((zt : Nat) : Int), false, true, true)) := by
    have h := says_prt 0 zt false true (by have := HZzf.out; omega) (by have := HZzt.out; omega) (by simp) (by simp) (by simp) (by have := HFT.out; simp; try omega)
    have e : SpnY.prt 0 zt false true = [98, 121, 116, 101, 115, 61] ++ [45] ++ Lib.decDigits zt := by simp [SpnY.prt, SpnY.dg]
    rw [e] at h
    exact h
  have hl1 := Dgt.dec_len zf (by have := HZzf.out; omega)
  have hl2 := Dgt.dec_len zt (by have := HZzt.out; omega)
  obtain ⟨DF, hDF⟩ : ∃ x, x = Lib.decDigits zf := ⟨_, rfl⟩
  obtain ⟨DT, hDT⟩ : ∃ x, x = Lib.decDigits zt := ⟨_, rfl⟩
  rw [← hDF] at hl1
  rw [← hDT] at hl2
  try rw [← hDF] at HSA
  try rw [← hDT] at HSA
  have HDzf := hid hDF
  have HDzt := hid hDT
  clear hDF hDT
  obtain ⟨LD, hLD⟩ : ∃ x : List UInt8, x = [98, 121, 116, 101, 115, 61] ++ [45] := ⟨_, rfl⟩
  rw [← hLD] at HSA
  have hlD : LD.length ≤ 27 := by rw [hLD]; simp only [List.length_append, List.length_cons, List.length_nil]; omega
  have HAD0 : Hid (∀ w : World, (Op.stringOp .add (strOf [98, 121, 116, 101, 115, 61]) ⟨#[45]⟩).run Tryz.prog w = .ok (.string (strOf LD)) w) := fun w => by rw [hLD]; exact str_add' (strOf [98, 121, 116, 101, 115, 61]) ⟨#[45]⟩ w (by rw [size_strOf]; (try simp only [List.length_cons, List.length_nil]); show _ + 1 ≤ _; omega)
  clear hLD
  obtain ⟨LT, hLT⟩ : ∃ x, x = LD ++ DT := ⟨_, rfl⟩
  rw [← hLT] at HSA
  have hlT : LT.length ≤ 47 := by rw [hLT]; simp only [List.length_append]; omega
  have HADzt : Hid (∀ w : World, (Op.stringOp .add (strOf LD) (strOf DT)).run Tryz.prog w = .ok (.string (strOf LT)) w) := fun w => by rw [hLT]; exact str_add _ _ w (by omega)
  clear hLT
  have HLT : Hid (LT.length ≤ 47) := by show _ ≤ _; omega
  clear hl1 hl2 hlD hlT
  obtain ⟨f, hf⟩ : ∃ f, f = (n - zt) := ⟨_, rfl⟩
  obtain ⟨e, he⟩ : ∃ e, e = n := ⟨_, rfl⟩
  have HEN : Hid (e ≤ n) := by show _ ≤ _; omega
  have HOY : Hid (f < e → ofB ((0 : Nat) : Int) ((zt : Nat) : Int) false true (n : Int) = ((f : Int), ((e - 1 : Nat) : Int), true)) := by
    intro hfe
    unfold ofB
    have := HFT.out
    rw [if_neg (by simp; omega)]
    rw [if_neg (by simp), if_neg (by omega)]
    by_cases h : (zt : Int) ≤ (n : Int)
    · rw [if_pos h]
      refine Prod.ext (by simp only; omega) (Prod.ext (by simp only; omega) rfl)
    · rw [if_neg h]
      refine Prod.ext (by simp only; omega) (Prod.ext (by simp only; omega) rfl)
  have HON : Hid (¬ f < e → (ofB ((0 : Nat) : Int) ((zt : Nat) : Int) false true (n : Int)).2.2 = false) := by
    intro hfe
    unfold ofB
    have := HFT.out
    split
    · rfl
    · rename_i h0
      have h1 : ¬ (n : Int) < 1 := fun h => h0 (.inl h)
      rw [if_neg (by simp), if_pos (by omega)]
  have HFE : Hid (f = (n - zt) ∧ e = n) := ⟨hf, he⟩
  clear hf he
  go_enter Tryz.func7, Tryz.ntmps7
  go_wp2_with fail
  refine (awakeT _ HE.out).mono ?_
  rintro e1 w2 ⟨rfl, hb2⟩
  have HB2 := hid hb2
  have HE2 := hid (HE.out.below hb2)
  have HR2 := hid (HR0.out.below hb2)
  clear hb2 HR0 HE
  go_upto_region 3 with (fail)
  clear hni hki
  go_wp2_with fail
  refine (new_ok 1 1 200 (by decide) (by decide) (by decide) (by decide) (by decide) _).mono ?_
  rintro e1 w3 ⟨gs, gt, gu, gm, rfl, hK, hb3⟩
  have HK3 := hid hK
  have HBB3 := hid hb3
  clear hK hb3
  go_wp2_with fail
  refine (create_ok w2.heap.size gs gt gu gm (nil0 200 1 1) A n cap L kind _ HK3.out (HR2.out.below HBB3.out) (by have := HN.out; omega) (by have := HKS.out; unfold maxLen; omega) (by have := HN.out; show total (nil0 200 1 1) + n ≤ 200; rw [show total (nil0 200 1 1) = 0 from rfl]; omega) (by decide) (by decide)).mono ?_
  rw [← HKD.out]
  rintro e1 w4 ⟨g, rfl, _, hK, hb4, _⟩
  have HK4 : Hid (IsK w2.heap.size gs gt gu gm (u1 g L KD) w4) := hK
  have HBB4 : Hid (Below w2.heap.size w2 w4) := HBB3.out.trans hb4
  clear hK hb4 HK3 HBB3
  rw [show (((nil0 200 1 1).last : Nat) : Int) + 1 = 1 from rfl]
  go_wp2_with fail
  refine (register_null w2.heap.size gs gt gu gm (u1 g L KD) ⟨#[]⟩ 0 0 1 0 f00 _ HK4.out rfl (by show 0 < 1; omega) (by show 0 < 1; omega) rfl).mono ?_
  rintro e1 w5 ⟨rfl, hK, hb5, _⟩
  have HK5 : Hid (IsK w2.heap.size gs gt gu gm (u2 g L KD) w5) := hK
  have HBB5 : Hid (Below w2.heap.size w2 w5) := HBB4.out.trans hb5
  clear hK hb5 HK4 HBB4
  go_upto_region 7 with (fail)
  generalize hwa : World.alloc w5 _ = v6
  have h6 : v6.heap[w5.heap.size]? = some (.cells #[.string (strOf [98, 121, 116, 101, 115, 61])] 9 (0, 0)) ∧ Below w5.heap.size w5 v6 := by
    subst hwa
    exact ⟨heap_alloc_new w5 _, (Below.refl _ _).alloc (Nat.le_refl _) _⟩
  clear hwa
  obtain ⟨gX, hgX⟩ : ∃ x, x = w5.heap.size := ⟨_, rfl⟩
  have HX6 : Hid (v6.heap[gX]? = some (.cells #[.string (strOf [98, 121, 116, 101, 115, 61])] 9 (0, 0))) := by rw [hgX]; exact h6.1
  have HK6 := hid (HK5.out.below h6.2)
  have HBB6 := hid (bel HBB5.out h6.2)
  have HGX : Hid (w2.heap.size ≤ gX) := by rw [hgX]; exact HBB5.out.size
  rw [← hgX]
  clear h6 hgX HK5 HBB5
  skip
  go_upto_region 9 with (fail)
  have cX : v6.cell? ⟨gX, 0, none⟩ = some (.string (strOf [98, 121, 116, 101, 115, 61])) := (cell_of_row v6 gX 0 _ _ _ HX6.out).trans rfl
  have fX : v6.frozen? ⟨gX, 0, none⟩ = false := frozen_of_row v6 gX 0 _ _ HX6.out
  have hadd := HAD0.out v6
  go_upto_region 10 with (fail)
  have hx : (World.setCell _ ⟨gX, 0, none⟩ (.string (strOf LD))).heap[gX]? = some (.cells #[.string (strOf LD)] 9 (0, 0)) := heap_setCell_same _ gX 0 _ _ _ HX6.out
  have hk := HK6.out.keepX HX6.out (.string (strOf LD))
  have hb := Below.setCell HBB6.out (p := ⟨gX, 0, none⟩) HGX.out (.string (strOf LD))
  generalize World.setCell _ ⟨gX, 0, none⟩ _ = v7 at hx hk hb ⊢
  have HX7 := hid hx
  have HK7 := hid hk
  have HBB7 := hid hb
  clear hx hk hb cX fX HX6 HK6 HBB6
  clear hadd
  go_upto_region 11 with (fail)
  refine wp_region_rel_tail (by kernel_rfl) 4 [is (.string (strOf LD)), is (.int .u16 (zt : Int)), is (.string (strOf DT)), is (.string (strOf LT))] [[], [], [1], [0, 1, 2], [0, 1, 2, 3]] (by kernel_rfl) ?_ ?_
  · refine ⟨?_, ?_, ?_, ?_, trivial⟩
    · intro t wq hbq hh K hK
      clear hh
      simp only [filled, filledN, upd, Have, is, any, row, pick, Act.put, List.setIfInBounds_toArray, List.set_cons_zero, List.set_cons_succ, Nat.reduceAdd, Nat.reduceEqDiff, reduceIte] at hK ⊢
      have hq : wq.cell? ⟨gX, 0, none⟩ = some (.string (strOf LD)) := (cell_of_row wq gX 0 _ _ _ (((hbq.block _ (Array.getElem?_eq_some_iff.1 HX7.out).1).trans HX7.out : wq.heap[gX]? = _))).trans rfl
      go_simp
      exact hK _ _ (Below.refl _ _) rfl
    · intro t wq hbq hh K hK
      clear hh
      simp only [filled, filledN, upd, Have, is, any, row, pick, Act.put, List.setIfInBounds_toArray, List.set_cons_zero, List.set_cons_succ, Nat.reduceAdd, Nat.reduceEqDiff, reduceIte] at hK ⊢
      go_simp
      exact hK _ _ (Below.refl _ _) rfl
    · intro t wq hbq hh K hK
      have e1 := hh.1
      simp only [pick] at e1
      replace e1 : t 1 = (.int .u16 (zt : Int)) := e1
      clear hh
      simp only [filled, filledN, upd, Have, is, any, row, pick, Act.put, List.setIfInBounds_toArray, List.set_cons_zero, List.set_cons_succ, Nat.reduceAdd, Nat.reduceEqDiff, reduceIte] at hK ⊢
      simp only [e1] at hK ⊢
      go_simp
      refine (Dgt.digits_any (zt + 1) zt (Nat.lt_succ_self _) HZzt.out _).mono ?_
      rw [← HDzt.out]
      rintro e w9 ⟨rfl, hb9⟩
      exact hK _ _ hb9 rfl
    · intro t wq hbq hh K hK
      have e0 := hh.1
      simp only [pick] at e0
      replace e0 : t 0 = (.string (strOf LD)) := e0
      have e2 := hh.2.2.1
      simp only [pick] at e2
      replace e2 : t 2 = (.string (strOf DT)) := e2
      clear hh
      simp only [filled, filledN, upd, Have, is, any, row, pick, Act.put, List.setIfInBounds_toArray, List.set_cons_zero, List.set_cons_succ, Nat.reduceAdd, Nat.reduceEqDiff, reduceIte] at hK ⊢
      simp only [e0, e2] at hK ⊢
      have hadd := HADzt.out wq
      go_simp
      exact hK _ _ (Below.refl _ _) rfl
  · intro t wq hbq hh
    have f3 := have_get hh 3 (by decide)
    simp only [pick] at f3
    replace f3 : t 3 = (.string (strOf LT)) := f3
    clear hh
    simp only [filled, filledN, upd, Have, is, any, row, pick, Act.put, List.setIfInBounds_toArray, List.set_cons_zero, List.set_cons_succ, Nat.reduceAdd, Nat.reduceEqDiff, reduceIte]
    simp only [f3]
    have HX8 : Hid (wq.heap[gX]? = some (.cells #[.string (strOf LD)] 9 (0, 0))) := (hbq.block _ (Array.getElem?_eq_some_iff.1 HX7.out).1).trans HX7.out
    have HK8 := hid (HK7.out.below hbq)
    have HBB8 := hid (bel HBB7.out hbq)
    clear hbq
    have cX : wq.cell? ⟨gX, 0, none⟩ = some (.string (strOf LD)) := (cell_of_row wq gX 0 _ _ _ HX8.out).trans rfl
    have fX : wq.frozen? ⟨gX, 0, none⟩ = false := frozen_of_row wq gX 0 _ _ HX8.out
    go_upto_region 12 with (fail)
    have hx : (World.setCell _ ⟨gX, 0, none⟩ (.string (strOf LT))).heap[gX]? = some (.cells #[.string (strOf LT)] 9 (0, 0)) := heap_setCell_same _ gX 0 _ _ _ HX8.out
    have hk := HK8.out.keepX HX8.out (.string (strOf LT))
    have hb := Below.setCell HBB8.out (p := ⟨gX, 0, none⟩) HGX.out (.string (strOf LT))
    generalize World.setCell _ ⟨gX, 0, none⟩ _ = v9 at hx hk hb ⊢
    have HX9 := hid hx
    have HK9 := hid hk
    have HBB9 := hid hb
    clear hx hk hb cX fX HX8 HK8 HBB8
    have HBL : Hid ((u2 g L KD).bl ((u2 g L KD).urls[0]'(by show 0 < 1; omega)).x = (L, KD)) := by show _ = _; rw [u2_x, u2_bl]
    by_cases hfe : f < e
    · skip
      have HW : Hid (wnt L f e n = (L.drop f).take (e - 1 + 1 - f)) := by show _ = _; rw [← HLN.out, wnt_all (by rw [HLN.out]; exact HEN.out)]; congr 1; omega
      have HWL : Hid ((wnt L f e n).length = e - f) := by show _ = _; have h := wnt_len (L := L) (f := f) (e := e) (by rw [HLN.out]; exact HEN.out); rw [HLN.out] at h; exact h
      have hft := sf_some w2.heap.size gs gt gu gm (u2 g L KD) (nameT f00) f00 false [] (by decide) (.pointer (some ⟨gX, 0, none⟩)) ⟨#[]⟩ ⟨#[]⟩ 0 0 0 v9 HK9.out (HE2.out.below HBB9.out) (par_n f00 v9 (HE2.out.below HBB9.out)) (by show 0 < 1; omega) (idx_one _) (has_one _) 206 (f : Int) (n : Int) KD (wnt L f e n) (hid fun w1 hb1 hs1 => ((range_part 1 _ n L KD ⟨gX, 0, none⟩ (strOf LT) w1 (by have h := ((HK9.out.below hb1).blo ((u2 g L KD).urls[0]'(by show 0 < 1; omega)).x (.inr ⟨_, List.getElem_mem _, rfl⟩)).at; rw [HBL.out, HLN.out] at h; exact h) (by have := HN.out; omega) ((cell_of_row w1 gX 0 _ _ _ ((hb1.block _ (Array.getElem?_eq_some_iff.1 HX9.out).1).trans HX9.out)).trans rfl) (by have h1 := HLT.out; rw [size_strOf]; omega) _ _ _ _ f (e - 1) HSA.out (by have := HZzf.out; omega) (by have := HZzt.out; omega) (HOY.out hfe) (by omega) (by have := HEN.out; omega)).mono fun e1 w3 ⟨A9, c9, h1, h2, h3⟩ => ⟨_, h1, h3, A9, _, c9, rfl, by rw [HW.out]; exact h2⟩))
      have HFT2 := hid hft
      clear hft
      go_wp2_with fail
      refine HFT2.out.mono ?_
      rintro e1 w19 ⟨cs, rfl, hb19, A', n', c', rfl, hown⟩
      have HBB19 := hid (bel HBB9.out hb19)
      have HO19 := hid hown
      clear hb19 hown HK9 HBB9 HFT2 HX9 HBL
      go_upto_region 13 with (fail)
      generalize hwa : World.alloc w19 _ = v20
      have h20 : AB v20 w19.heap.size #[.int .i64 1, .int .i64 206, .int .i64 (f : Int), .int .i64 (n : Int), .string (strOf KD), .slice A' n' c'] ∧ Below w19.heap.size w19 v20 := by
        subst hwa
        exact laid1 w19 _ _
      clear hwa
      obtain ⟨gA, hgA⟩ : ∃ x, x = w19.heap.size := ⟨_, rfl⟩
      have XB20 : Hid (AB v20 gA #[.int .i64 1, .int .i64 206, .int .i64 (f : Int), .int .i64 (n : Int), .string (strOf KD), .slice A' n' c']) := by rw [hgA]; exact h20.1
      have HBB20 := hid (bel HBB19.out h20.2)
      have HO20 := hid (owns_below HO19.out h20.2)
      rw [← hgA]
      clear h20 hgA HBB19 HO19
      go_wp2
      go_loopw [21, 95] (fun vs vk wr => ∃ k : Nat, k ≤ n ∧ vk = .int .i64 (k : Int) ∧ vs = .string (strOf (wnt L f e k)) ∧ Hid (AB wr gA #[.int .i64 1, .int .i64 206, .int .i64 (f : Int), .int .i64 (n : Int), .string (strOf KD), .slice A' n' c']) ∧ Hid (Below w2.heap.size w2 wr) ∧ Hid (wr.ownsRow v9.heap.size 5 1 (.slice A' n' c') n' (bcells (wnt L f e n)))) (fun _ vk _ => n - (intOf vk).toNat)
      case atStart => exact ⟨0, Nat.zero_le _, rfl, by rw [wnt_zero]; rfl, XB20.out, HBB20.out, HO20.out⟩
      case round =>
        obtain ⟨k, hk, rfl, rfl, XB, HBB, HO⟩ := hrel
        by_cases hlk : k < n
        · skip
          have hki : (k : Int) < (n : Int) := by omega
          have hni : (n : Int) ≤ 200 := by have := HN.out; omega
          have hz1 : (zf : Int) ≤ 65535 := by have := HZzf.out; omega
          have hz2 : (zt : Int) ≤ 65535 := by have := HZzt.out; omega
          by_cases hin : f ≤ k ∧ k < e
          · skip
            have q1 : (n : Int) - (k : Int) ≤ (zt : Int) := by have := HFE.out; omega
            have HKL : Hid (k < L.length) := by rw [HLN.out]; exact hlk
            obtain ⟨b, off, rfl, hmid⟩ := rds_mid (HR2.out.below HBB.out) k (k + 1) (Nat.lt_succ_self k) hlk
            have hst := run_string_of (P := Tryz.prog) 39 9 5 Tryz.underlying39 Tryz.underlying5 Tryz.underlying9 _ (cap - k) hmid
            have h1k : k + 1 - k = 1 := by omega
            rw [h1k] at hst
            have HONE : Hid ((L.drop k).take 1 = [L[k]'HKL.out]) := by show _ = _; rw [List.drop_eq_getElem_cons HKL.out]; rfl
            rw [HONE.out] at hst
            have HSU : Hid (wnt L f e (k + 1) = wnt L f e k ++ [L[k]'HKL.out]) := wnt_in HKL.out hin.1 hin.2
            have hadd : (Op.stringOp .add (strOf (wnt L f e k)) (strOf [L[k]'HKL.out])).run Tryz.prog wr = .ok (.string (strOf (wnt L f e (k + 1)))) wr := by rw [HSU.out]; exact str_add _ _ wr (by have h1 := wnt_le L f e k; rw [HLN.out] at h1; have := HN.out; simp only [List.length_cons, List.length_nil]; omega)
            have hk1 : k + 1 ≤ cap := by have := HNC.out; omega
            have hk1i : (k : Int) + 1 ≤ (cap : Int) := by omega
            have hkc : (k : Int) ≤ (k : Int) + 1 := by omega
            generalize L[k]'HKL.out = ch at hst hadd HSU HONE
            clear hmid hin h1k HONE
            go_wp2
            go_roundw
            case rel => exact ⟨k + 1, by omega, by go_num, rfl, XB.out, HBB.out, HO.out⟩
            case measure => simp [intOf]; omega
          · skip
            have HSU : Hid (wnt L f e (k + 1) = wnt L f e k) := wnt_out (by omega)
            skip
            have q1 : ¬ (n : Int) - (k : Int) ≤ (zt : Int) := by have := HFE.out; omega
            clear hin
            go_wp2
            go_roundw
            case rel => exact ⟨k + 1, by omega, by go_num, by rw [HSU.out], XB.out, HBB.out, HO.out⟩
            case measure => simp [intOf]; omega
        · obtain rfl : k = n := by omega
          have hni : (k : Int) ≤ 200 := by have := HN.out; omega
          obtain ⟨a0, a1, a2, a3, a4, a5⟩ := XB.out.facts
          have hs1 := run_string_of (P := Tryz.prog) 39 9 5 Tryz.underlying39 Tryz.underlying5 Tryz.underlying9 _ c' (own_form HO.out).2.2
          obtain ⟨W, hW⟩ : ∃ W, W = wnt L f e k := ⟨_, rfl⟩
          have HWW := hid hW
          rw [← hW] at hs1 ⊢
          have HWS : Hid (W.length = e - f) := by show _ = _; rw [hW]; exact HWL.out
          have hn0 : (strOf W).toList ≠ [] := fun h => by have h2 := (StoB.tl_eq (strOf W) ⟨#[]⟩).1 (h.trans (by simp)); have h3 := congrArg ByteArray.size h2; rw [size_strOf] at h3; have := HWS.out; have h4 : (⟨#[]⟩ : ByteArray).size = 0 := rfl; omega
          obtain ⟨X, hX⟩ : ∃ X, X = strOf W := ⟨_, rfl⟩
          have HXX := hid hX
          have HXS : Hid (X.size = e - f) := by show _ = _; rw [hX, size_strOf]; exact HWS.out
          rw [← hX] at hs1 hn0 ⊢
          clear hX hW
          have hn1 : (X.toList == []) = false := beq_eq_false_iff_ne.2 hn0
          have hn2 : X.toList.isEmpty = false := by cases h : X.toList with | nil => exact absurd h hn0 | cons a t => rfl
          go_upto_region 27 with (fail)
          clear hs1 hn0 hn1 hn2
          have hsz : (X.size : Int) = (e : Int) - (f : Int) := by have := HXS.out; omega
          have hen : (e : Int) ≤ (k : Int) := by have := HEN.out; omega
          have hfi : (f : Int) < (e : Int) := by omega
          have hf0 : ¬ (f : Int) < 0 := by omega
          have HSZ := hid hsz
          have hsub : ¬ (k : Int) - (X.size : Int) < (f : Int) := by omega
          have hx2 : (X.size : Int) ≤ 200 := by omega
          clear hsz
          go_upto_region 30 with (fail)
          clear hsub hx2 hf0 a0 a2 a3 a5
          obtain ⟨b, off, rfl, hmid⟩ := rds_mid (HR2.out.below HBB.out) f e hfe HEN.out
          have HMID : Hid (Rds wr (some ⟨b, off + f, none⟩) (e - f) (bcells W)) := by have h := HWW.out; rw [h, HW.out]; show Rds _ _ _ _; rw [show e - 1 + 1 - f = e - f by omega]; exact hmid
          clear hmid
          have HLA : Hid (gA < wr.heap.size) := XB.out.lt
          refine wp_region_rel (by kernel_rfl) [is (.pointer (some ⟨gA, 1, none⟩)), is (.int .i64 206), is (.bool true), is (.bool true), is (.pointer (some ⟨gA, 4, none⟩)), is (.string (strOf KD)), is (.string kind), is (.string (strOf KD)), is (.bool true), is (.bool true), is (.bool true), is (.slice (some ⟨b, off, none⟩) k cap), is (.int .i64 (f : Int)), is (.int .i64 (f : Int)), is (.string X), is (.int .i64 (X.size : Int)), is (.int .i64 (e : Int)), is (.slice (some ⟨b, off + f, none⟩) (e - f) (cap - f)), is (.string X), is (.string X), is (.bool true), is (.bool true), is (.bool true)] [[], [0], [1], [2], [3], [3, 4], [3], [3, 6], [3, 5, 7], [3, 8], [9], [10], [10], [10], [10], [10, 14], [10, 13, 15], [10, 11, 12, 16], [10, 17], [10], [10, 18, 19], [10, 20], [21]] (by kernel_rfl) ?_ ?_
          · refine ⟨?_, ?_, ?_, ?_, ?_, ?_, ?_, ?_, ?_, ?_, ?_, ?_, ?_, ?_, ?_, ?_, ?_, ?_, ?_, ?_, ?_, ?_, ?_, trivial⟩
            · intro t wq hbq hh K hK
              clear hh
              simp only [filled, upd, Have, is, any, row, pick, Act.put, List.setIfInBounds_toArray, List.set_cons_zero, List.set_cons_succ, Nat.reduceAdd, Nat.reduceEqDiff, reduceIte] at hK ⊢
              go_simp
              exact hK _ _ (Below.refl _ _) rfl
            · intro t wq hbq hh K hK
              have e0 := hh.1
              simp only [pick] at e0
              replace e0 : t 0 = (.pointer (some ⟨gA, 1, none⟩)) := e0
              clear hh
              simp only [filled, upd, Have, is, any, row, pick, Act.put, List.setIfInBounds_toArray, List.set_cons_zero, List.set_cons_succ, Nat.reduceAdd, Nat.reduceEqDiff, reduceIte] at hK ⊢
              simp only [e0] at hK ⊢
              have hq := (hbq.cell (p := ⟨gA, 1, none⟩) HLA.out).trans a1
              go_simp
              exact hK _ _ (Below.refl _ _) rfl
            · intro t wq hbq hh K hK
              have e1 := hh.1
              simp only [pick] at e1
              replace e1 : t 1 = (.int .i64 206) := e1
              clear hh
              simp only [filled, upd, Have, is, any, row, pick, Act.put, List.setIfInBounds_toArray, List.set_cons_zero, List.set_cons_succ, Nat.reduceAdd, Nat.reduceEqDiff, reduceIte] at hK ⊢
              simp only [e1] at hK ⊢
              go_simp
              first | exact hK _ _ (Below.refl _ _) rfl | exact hK _ _ (Below.refl _ _) (int_wrap (by omega) (by omega))
            · intro t wq hbq hh K hK
              have e2 := hh.1
              simp only [pick] at e2
              replace e2 : t 2 = (.bool true) := e2
              clear hh
              simp only [filled, upd, Have, is, any, row, pick, Act.put, List.setIfInBounds_toArray, List.set_cons_zero, List.set_cons_succ, Nat.reduceAdd, Nat.reduceEqDiff, reduceIte] at hK ⊢
              simp only [e2] at hK ⊢
              go_simp
              exact hK _ _ (Below.refl _ _) rfl
            · intro t wq hbq hh K hK
              have e3 := hh.1
              simp only [pick] at e3
              replace e3 : t 3 = (.bool true) := e3
              clear hh
              simp only [filled, upd, Have, is, any, row, pick, Act.put, List.setIfInBounds_toArray, List.set_cons_zero, List.set_cons_succ, Nat.reduceAdd, Nat.reduceEqDiff, reduceIte] at hK ⊢
              simp only [e3] at hK ⊢
              go_simp
              exact hK _ _ (Below.refl _ _) rfl
            · intro t wq hbq hh K hK
              have e3 := hh.1
              simp only [pick] at e3
              replace e3 : t 3 = (.bool true) := e3
              have e4 := hh.2.1
              simp only [pick] at e4
              replace e4 : t 4 = (.pointer (some ⟨gA, 4, none⟩)) := e4
              clear hh
              simp only [filled, upd, Have, is, any, row, pick, Act.put, List.setIfInBounds_toArray, List.set_cons_zero, List.set_cons_succ, Nat.reduceAdd, Nat.reduceEqDiff, reduceIte] at hK ⊢
              simp only [e3, e4] at hK ⊢
              have hq := (hbq.cell (p := ⟨gA, 4, none⟩) HLA.out).trans a4
              go_simp
              exact hK _ _ (Below.refl _ _) rfl
            · intro t wq hbq hh K hK
              have e3 := hh.1
              simp only [pick] at e3
              replace e3 : t 3 = (.bool true) := e3
              clear hh
              simp only [filled, upd, Have, is, any, row, pick, Act.put, List.setIfInBounds_toArray, List.set_cons_zero, List.set_cons_succ, Nat.reduceAdd, Nat.reduceEqDiff, reduceIte] at hK ⊢
              simp only [e3] at hK ⊢
              go_simp
              exact hK _ _ (Below.refl _ _) rfl
            · intro t wq hbq hh K hK
              have e3 := hh.1
              simp only [pick] at e3
              replace e3 : t 3 = (.bool true) := e3
              have e6 := hh.2.1
              simp only [pick] at e6
              replace e6 : t 6 = (.string kind) := e6
              clear hh
              simp only [filled, upd, Have, is, any, row, pick, Act.put, List.setIfInBounds_toArray, List.set_cons_zero, List.set_cons_succ, Nat.reduceAdd, Nat.reduceEqDiff, reduceIte] at hK ⊢
              simp only [e3, e6] at hK ⊢
              go_simp
              refine (refKind_any kind _ (by have := HKS.out; omega)).mono ?_
              rw [← HKD.out]
              rintro e1 w33 ⟨rfl, hb33⟩
              exact hK _ _ hb33 rfl
            · intro t wq hbq hh K hK
              have e3 := hh.1
              simp only [pick] at e3
              replace e3 : t 3 = (.bool true) := e3
              have e5 := hh.2.1
              simp only [pick] at e5
              replace e5 : t 5 = (.string (strOf KD)) := e5
              have e7 := hh.2.2.1
              simp only [pick] at e7
              replace e7 : t 7 = (.string (strOf KD)) := e7
              clear hh
              simp only [filled, upd, Have, is, any, row, pick, Act.put, List.setIfInBounds_toArray, List.set_cons_zero, List.set_cons_succ, Nat.reduceAdd, Nat.reduceEqDiff, reduceIte] at hK ⊢
              simp only [e3, e5, e7] at hK ⊢
              go_simp
              first | exact hK _ _ (Below.refl _ _) rfl | exact hK _ _ (Below.refl _ _) (int_wrap (by omega) (by omega))
            · intro t wq hbq hh K hK
              have e3 := hh.1
              simp only [pick] at e3
              replace e3 : t 3 = (.bool true) := e3
              have e8 := hh.2.1
              simp only [pick] at e8
              replace e8 : t 8 = (.bool true) := e8
              clear hh
              simp only [filled, upd, Have, is, any, row, pick, Act.put, List.setIfInBounds_toArray, List.set_cons_zero, List.set_cons_succ, Nat.reduceAdd, Nat.reduceEqDiff, reduceIte] at hK ⊢
              simp only [e3, e8] at hK ⊢
              go_simp
              exact hK _ _ (Below.refl _ _) rfl
            · intro t wq hbq hh K hK
              have e9 := hh.1
              simp only [pick] at e9
              replace e9 : t 9 = (.bool true) := e9
              clear hh
              simp only [filled, upd, Have, is, any, row, pick, Act.put, List.setIfInBounds_toArray, List.set_cons_zero, List.set_cons_succ, Nat.reduceAdd, Nat.reduceEqDiff, reduceIte] at hK ⊢
              simp only [e9] at hK ⊢
              go_simp
              exact hK _ _ (Below.refl _ _) rfl
            · intro t wq hbq hh K hK
              have e10 := hh.1
              simp only [pick] at e10
              replace e10 : t 10 = (.bool true) := e10
              clear hh
              simp only [filled, upd, Have, is, any, row, pick, Act.put, List.setIfInBounds_toArray, List.set_cons_zero, List.set_cons_succ, Nat.reduceAdd, Nat.reduceEqDiff, reduceIte] at hK ⊢
              simp only [e10] at hK ⊢
              go_simp
              exact hK _ _ (Below.refl _ _) rfl
            · intro t wq hbq hh K hK
              have e10 := hh.1
              simp only [pick] at e10
              replace e10 : t 10 = (.bool true) := e10
              clear hh
              simp only [filled, upd, Have, is, any, row, pick, Act.put, List.setIfInBounds_toArray, List.set_cons_zero, List.set_cons_succ, Nat.reduceAdd, Nat.reduceEqDiff, reduceIte] at hK ⊢
              simp only [e10] at hK ⊢
              go_simp
              exact hK _ _ (Below.refl _ _) rfl
            · intro t wq hbq hh K hK
              have e10 := hh.1
              simp only [pick] at e10
              replace e10 : t 10 = (.bool true) := e10
              clear hh
              simp only [filled, upd, Have, is, any, row, pick, Act.put, List.setIfInBounds_toArray, List.set_cons_zero, List.set_cons_succ, Nat.reduceAdd, Nat.reduceEqDiff, reduceIte] at hK ⊢
              simp only [e10] at hK ⊢
              go_simp
              exact hK _ _ (Below.refl _ _) rfl
            · intro t wq hbq hh K hK
              have e10 := hh.1
              simp only [pick] at e10
              replace e10 : t 10 = (.bool true) := e10
              clear hh
              simp only [filled, upd, Have, is, any, row, pick, Act.put, List.setIfInBounds_toArray, List.set_cons_zero, List.set_cons_succ, Nat.reduceAdd, Nat.reduceEqDiff, reduceIte] at hK ⊢
              simp only [e10] at hK ⊢
              go_simp
              exact hK _ _ (Below.refl _ _) rfl
            · intro t wq hbq hh K hK
              have e10 := hh.1
              simp only [pick] at e10
              replace e10 : t 10 = (.bool true) := e10
              have e14 := hh.2.1
              simp only [pick] at e14
              replace e14 : t 14 = (.string X) := e14
              clear hh
              simp only [filled, upd, Have, is, any, row, pick, Act.put, List.setIfInBounds_toArray, List.set_cons_zero, List.set_cons_succ, Nat.reduceAdd, Nat.reduceEqDiff, reduceIte] at hK ⊢
              simp only [e10, e14] at hK ⊢
              go_simp
              exact hK _ _ (Below.refl _ _) rfl
            · intro t wq hbq hh K hK
              have e10 := hh.1
              simp only [pick] at e10
              replace e10 : t 10 = (.bool true) := e10
              have e13 := hh.2.1
              simp only [pick] at e13
              replace e13 : t 13 = (.int .i64 (f : Int)) := e13
              have e15 := hh.2.2.1
              simp only [pick] at e15
              replace e15 : t 15 = (.int .i64 (X.size : Int)) := e15
              clear hh
              simp only [filled, upd, Have, is, any, row, pick, Act.put, List.setIfInBounds_toArray, List.set_cons_zero, List.set_cons_succ, Nat.reduceAdd, Nat.reduceEqDiff, reduceIte] at hK ⊢
              simp only [e10, e13, e15] at hK ⊢
              have hq : (f : Int) + (X.size : Int) = (e : Int) := by have := HSZ.out; omega
              have hq5 : (e : Int) ≤ 200 := by omega
              go_simp
              first | exact hK _ _ (Below.refl _ _) rfl | exact hK _ _ (Below.refl _ _) (congrArg (Value.int .i64) (by omega)) | exact hK _ _ (Below.refl _ _) (int_wrap (by omega) (by omega))
            · intro t wq hbq hh K hK
              have e10 := hh.1
              simp only [pick] at e10
              replace e10 : t 10 = (.bool true) := e10
              have e11 := hh.2.1
              simp only [pick] at e11
              replace e11 : t 11 = (.slice (some ⟨b, off, none⟩) k cap) := e11
              have e12 := hh.2.2.1
              simp only [pick] at e12
              replace e12 : t 12 = (.int .i64 (f : Int)) := e12
              have e16 := hh.2.2.2.1
              simp only [pick] at e16
              replace e16 : t 16 = (.int .i64 (e : Int)) := e16
              clear hh
              simp only [filled, upd, Have, is, any, row, pick, Act.put, List.setIfInBounds_toArray, List.set_cons_zero, List.set_cons_succ, Nat.reduceAdd, Nat.reduceEqDiff, reduceIte] at hK ⊢
              simp only [e10, e11, e12, e16] at hK ⊢
              have hq1 : e ≤ cap := by have := HNC.out; have := HEN.out; omega
              have hq2 : (e : Int) ≤ (cap : Int) := by omega
              have hq3 : (f : Int) ≤ (e : Int) := by omega
              have hq4 : ¬ cap = f := by omega
              go_simp
              exact hK _ _ (Below.refl _ _) rfl
            · intro t wq hbq hh K hK
              have e10 := hh.1
              simp only [pick] at e10
              replace e10 : t 10 = (.bool true) := e10
              have e17 := hh.2.1
              simp only [pick] at e17
              replace e17 : t 17 = (.slice (some ⟨b, off + f, none⟩) (e - f) (cap - f)) := e17
              clear hh
              simp only [filled, upd, Have, is, any, row, pick, Act.put, List.setIfInBounds_toArray, List.set_cons_zero, List.set_cons_succ, Nat.reduceAdd, Nat.reduceEqDiff, reduceIte] at hK ⊢
              simp only [e10, e17] at hK ⊢
              have hst := run_string_of (P := Tryz.prog) 39 9 5 Tryz.underlying39 Tryz.underlying5 Tryz.underlying9 W (cap - f) (HMID.out.below hbq)
              rw [← HXX.out] at hst
              go_simp
              exact hK _ _ (Below.refl _ _) rfl
            · intro t wq hbq hh K hK
              have e10 := hh.1
              simp only [pick] at e10
              replace e10 : t 10 = (.bool true) := e10
              clear hh
              simp only [filled, upd, Have, is, any, row, pick, Act.put, List.setIfInBounds_toArray, List.set_cons_zero, List.set_cons_succ, Nat.reduceAdd, Nat.reduceEqDiff, reduceIte] at hK ⊢
              simp only [e10] at hK ⊢
              go_simp
              exact hK _ _ (Below.refl _ _) rfl
            · intro t wq hbq hh K hK
              have e10 := hh.1
              simp only [pick] at e10
              replace e10 : t 10 = (.bool true) := e10
              have e18 := hh.2.1
              simp only [pick] at e18
              replace e18 : t 18 = (.string X) := e18
              have e19 := hh.2.2.1
              simp only [pick] at e19
              replace e19 : t 19 = (.string X) := e19
              clear hh
              simp only [filled, upd, Have, is, any, row, pick, Act.put, List.setIfInBounds_toArray, List.set_cons_zero, List.set_cons_succ, Nat.reduceAdd, Nat.reduceEqDiff, reduceIte] at hK ⊢
              simp only [e10, e18, e19] at hK ⊢
              go_simp
              first | exact hK _ _ (Below.refl _ _) rfl | exact hK _ _ (Below.refl _ _) (int_wrap (by omega) (by omega))
            · intro t wq hbq hh K hK
              have e10 := hh.1
              simp only [pick] at e10
              replace e10 : t 10 = (.bool true) := e10
              have e20 := hh.2.1
              simp only [pick] at e20
              replace e20 : t 20 = (.bool true) := e20
              clear hh
              simp only [filled, upd, Have, is, any, row, pick, Act.put, List.setIfInBounds_toArray, List.set_cons_zero, List.set_cons_succ, Nat.reduceAdd, Nat.reduceEqDiff, reduceIte] at hK ⊢
              simp only [e10, e20] at hK ⊢
              go_simp
              exact hK _ _ (Below.refl _ _) rfl
            · intro t wq hbq hh K hK
              have e21 := hh.1
              simp only [pick] at e21
              replace e21 : t 21 = (.bool true) := e21
              clear hh
              simp only [filled, upd, Have, is, any, row, pick, Act.put, List.setIfInBounds_toArray, List.set_cons_zero, List.set_cons_succ, Nat.reduceAdd, Nat.reduceEqDiff, reduceIte] at hK ⊢
              simp only [e21] at hK ⊢
              go_simp
              exact hK _ _ (Below.refl _ _) rfl
          · intro t wq hbq hh
            have f22 := have_get hh 22 (by decide)
            simp only [pick] at f22
            replace f22 : t 22 = (.bool true) := f22
            clear hh
            simp only [filled, upd, Have, is, any, row, pick, Act.put, List.setIfInBounds_toArray, List.set_cons_zero, List.set_cons_succ, Nat.reduceAdd, Nat.reduceEqDiff, reduceIte]
            simp only [f22]
            have HBF : Hid (Below w.heap.size w wq) := bel HB2.out (bel HBB.out hbq)
            clear hbq
            go_wp2
            go_ret
            exact ⟨rfl, HBF.out⟩
    · skip
      have HW : Hid (wnt L f e n = []) := by show _ = _; have h := wnt_len (L := L) (f := f) (e := e) (by rw [HLN.out]; exact HEN.out); rw [HLN.out] at h; exact List.eq_nil_of_length_eq_zero (by omega)
      have hft := sf_some w2.heap.size gs gt gu gm (u2 g L KD) (nameT f00) f00 false [] (by decide) (.pointer (some ⟨gX, 0, none⟩)) ⟨#[]⟩ ⟨#[]⟩ 0 0 0 v9 HK9.out (HE2.out.below HBB9.out) (par_n f00 v9 (HE2.out.below HBB9.out)) (by show 0 < 1; omega) (idx_one _) (has_one _) 416 0 (n : Int) [] [] (hid fun w1 hb1 hs1 => ((range_beyond 1 _ n L KD ⟨gX, 0, none⟩ (strOf LT) w1 (by have h := ((HK9.out.below hb1).blo ((u2 g L KD).urls[0]'(by show 0 < 1; omega)).x (.inr ⟨_, List.getElem_mem _, rfl⟩)).at; rw [HBL.out, HLN.out] at h; exact h) (by have := HN.out; omega) ((cell_of_row w1 gX 0 _ _ _ ((hb1.block _ (Array.getElem?_eq_some_iff.1 HX9.out).1).trans HX9.out)).trans rfl) (by have h1 := HLT.out; rw [size_strOf]; omega) _ _ _ _ HSA.out (by have := HZzf.out; omega) (by have := HZzt.out; omega) (HON.out hfe)).mono fun e1 w3 ⟨h1, h3⟩ => ⟨_, h1, h3, none, 0, 0, rfl, World.ownsRow_nil _ _ _ _⟩))
      have HFT2 := hid hft
      clear hft
      go_wp2_with fail
      refine HFT2.out.mono ?_
      rintro e1 w19 ⟨cs, rfl, hb19, A', n', c', rfl, hown⟩
      have HBB19 := hid (bel HBB9.out hb19)
      have HO19 := hid hown
      clear hb19 hown HK9 HBB9 HFT2 HX9 HBL
      go_upto_region 13 with (fail)
      generalize hwa : World.alloc w19 _ = v20
      have h20 : AB v20 w19.heap.size #[.int .i64 1, .int .i64 416, .int .i64 0, .int .i64 (n : Int), .string ⟨#[]⟩, .slice A' n' c'] ∧ Below w19.heap.size w19 v20 := by
        subst hwa
        exact laid1 w19 _ _
      clear hwa
      obtain ⟨gA, hgA⟩ : ∃ x, x = w19.heap.size := ⟨_, rfl⟩
      have XB20 : Hid (AB v20 gA #[.int .i64 1, .int .i64 416, .int .i64 0, .int .i64 (n : Int), .string ⟨#[]⟩, .slice A' n' c']) := by rw [hgA]; exact h20.1
      have HBB20 := hid (bel HBB19.out h20.2)
      have HO20 := hid (owns_below HO19.out h20.2)
      rw [← hgA]
      clear h20 hgA HBB19 HO19
      go_wp2
      go_loopw [21, 95] (fun vs vk wr => ∃ k : Nat, k ≤ n ∧ vk = .int .i64 (k : Int) ∧ vs = .string (strOf (wnt L f e k)) ∧ Hid (AB wr gA #[.int .i64 1, .int .i64 416, .int .i64 0, .int .i64 (n : Int), .string ⟨#[]⟩, .slice A' n' c']) ∧ Hid (Below w2.heap.size w2 wr) ∧ Hid (wr.ownsRow v9.heap.size 5 1 (.slice A' n' c') n' (bcells ([])))) (fun _ vk _ => n - (intOf vk).toNat)
      case atStart => exact ⟨0, Nat.zero_le _, rfl, by rw [wnt_zero]; rfl, XB20.out, HBB20.out, HO20.out⟩
      case round =>
        obtain ⟨k, hk, rfl, rfl, XB, HBB, HO⟩ := hrel
        by_cases hlk : k < n
        · skip
          have hki : (k : Int) < (n : Int) := by omega
          have hni : (n : Int) ≤ 200 := by have := HN.out; omega
          have hz1 : (zf : Int) ≤ 65535 := by have := HZzf.out; omega
          have hz2 : (zt : Int) ≤ 65535 := by have := HZzt.out; omega
          by_cases hin : f ≤ k ∧ k < e
          · skip
            have q1 : (n : Int) - (k : Int) ≤ (zt : Int) := by have := HFE.out; omega
            have HKL : Hid (k < L.length) := by rw [HLN.out]; exact hlk
            obtain ⟨b, off, rfl, hmid⟩ := rds_mid (HR2.out.below HBB.out) k (k + 1) (Nat.lt_succ_self k) hlk
            have hst := run_string_of (P := Tryz.prog) 39 9 5 Tryz.underlying39 Tryz.underlying5 Tryz.underlying9 _ (cap - k) hmid
            have h1k : k + 1 - k = 1 := by omega
            rw [h1k] at hst
            have HONE : Hid ((L.drop k).take 1 = [L[k]'HKL.out]) := by show _ = _; rw [List.drop_eq_getElem_cons HKL.out]; rfl
            rw [HONE.out] at hst
            have HSU : Hid (wnt L f e (k + 1) = wnt L f e k ++ [L[k]'HKL.out]) := wnt_in HKL.out hin.1 hin.2
            have hadd : (Op.stringOp .add (strOf (wnt L f e k)) (strOf [L[k]'HKL.out])).run Tryz.prog wr = .ok (.string (strOf (wnt L f e (k + 1)))) wr := by rw [HSU.out]; exact str_add _ _ wr (by have h1 := wnt_le L f e k; rw [HLN.out] at h1; have := HN.out; simp only [List.length_cons, List.length_nil]; omega)
            have hk1 : k + 1 ≤ cap := by have := HNC.out; omega
            have hk1i : (k : Int) + 1 ≤ (cap : Int) := by omega
            have hkc : (k : Int) ≤ (k : Int) + 1 := by omega
            generalize L[k]'HKL.out = ch at hst hadd HSU HONE
            clear hmid hin h1k HONE
            go_wp2
            go_roundw
            case rel => exact ⟨k + 1, by omega, by go_num, rfl, XB.out, HBB.out, HO.out⟩
            case measure => simp [intOf]; omega
          · skip
            have HSU : Hid (wnt L f e (k + 1) = wnt L f e k) := wnt_out (by omega)
            skip
            have q1 : ¬ (n : Int) - (k : Int) ≤ (zt : Int) := by have := HFE.out; omega
            clear hin
            go_wp2
            go_roundw
            case rel => exact ⟨k + 1, by omega, by go_num, by rw [HSU.out], XB.out, HBB.out, HO.out⟩
            case measure => simp [intOf]; omega
        · obtain rfl : k = n := by omega
          have hni : (k : Int) ≤ 200 := by have := HN.out; omega
          obtain ⟨a0, a1, a2, a3, a4, a5⟩ := XB.out.facts
          have hs1 := run_string_of (P := Tryz.prog) 39 9 5 Tryz.underlying39 Tryz.underlying5 Tryz.underlying9 _ c' (own_form HO.out).2.2
          rw [HW.out]
          have hs0 : strOf [] = (⟨#[]⟩ : ByteArray) := rfl
          rw [hs0] at hs1 ⊢
          have HBF : Hid (Below w.heap.size w wr) := bel HB2.out HBB.out
          go_wp2
          go_ret
          exact ⟨rfl, HBF.out⟩
set_option maxRecDepth 100000 in
set_option maxHeartbeats 32000000 in
theorem ranges_tt (A : Option Addr) (n cap : Nat) (L : List UInt8) (kind : ByteArray) (zf zt : Nat) (w : World) (HR0 : Hid (Rds w A n (bcells L))) (HNC : Hid (n ≤ cap ∧ cap ≤ 140737488351232)) (HZzf : Hid (zf ≤ 65535)) (HZzt : Hid (zt ≤ 65535)) (HE : Hid (EnvO w)) (HN : Hid (n ≤ 200)) (HKS : Hid (kind.size ≤ 100)) (HFT : Hid (zf ≤ zt)) :
    Calls Tryz.prog 7 #[.slice A n cap, .string kind, .int .u16 (zf : Int), .int .u16 (zt : Int), .bool true, .bool true] w fun e w' => e = .returned (.bool true) ∧ Below w.heap.size w w' := by
  have hni : ¬ (200 : Int) < (n : Int) := by have := HN.out; omega
  have hki : ¬ (100 : Int) < (kind.size : Int) := by have := HKS.out; omega
  have HLN : Hid (L.length = n) := by show _ = _; rw [← length_bcells]; exact HR0.out.1
  obtain ⟨KD, hKD⟩ : ∃ x, x = kd kind.data.toList := ⟨_, rfl⟩
  have HKD := hid hKD
  clear hKD
  have hft : ¬ (zt : Int) < (zf : Int) := by have := HFT.out; omega
  have HFN : Hid (zf ≤ n ∨ True) := Or.inr trivial
  have HSA : Hid (says (strOf ([98, 121, 116, 101, 115, 61] ++ Lib.decDigits zf ++ [45] ++ Lib.decDigits zt)).data.toList = (((zf : Nat) : Int), ((zt : Nat) : Int), true, true, true)) := by
    have h := says_prt zf zt true true (by have := HZzf.out; omega) (by have := HZzt.out; omega) (by simp) (by simp) (by simp) (by have := HFT.out; simp; try omega)
    have e : SpnY.prt zf zt true true = [98, 121, 116, 101, 115, 61] ++ Lib.decDigits zf ++ [45] ++ Lib.decDigits zt := by simp [SpnY.prt, SpnY.dg]
    rw [e] at h
    exact h
  have hl1 := Dgt.dec_len zf (by have := HZzf.out; omega)
  have hl2 := Dgt.dec_len zt (by have := HZzt.out; omega)
  obtain ⟨DF, hDF⟩ : ∃ x, x = Lib.decDigits zf := ⟨_, rfl⟩
  obtain ⟨DT, hDT⟩ : ∃ x, x = Lib.decDigits zt := ⟨_, rfl⟩
  rw [← hDF] at hl1
  rw [← hDT] at hl2
  try rw [← hDF] at HSA
  try rw [← hDT] at HSA
  have HDzf := hid hDF
  have HDzt := hid hDT
  clear hDF hDT
  obtain ⟨LF, hLF⟩ : ∃ x, x = [98, 121, 116, 101, 115, 61] ++ DF := ⟨_, rfl⟩
  rw [← hLF] at HSA
  have hlF : LF.length ≤ 26 := by rw [hLF]; simp only [List.length_append, List.length_cons, List.length_nil]; omega
  have HADzf : Hid (∀ w : World, (Op.stringOp .add (strOf [98, 121, 116, 101, 115, 61]) (strOf DF)).run Tryz.prog w = .ok (.string (strOf LF)) w) := fun w => by rw [hLF]; exact str_add _ _ w (by simp only [List.length_cons, List.length_nil]; omega)
  clear hLF
  obtain ⟨LD, hLD⟩ : ∃ x : List UInt8, x = LF ++ [45] := ⟨_, rfl⟩
  rw [← hLD] at HSA
  have hlD : LD.length ≤ 27 := by rw [hLD]; simp only [List.length_append, List.length_cons, List.length_nil]; omega
  have HAD0 : Hid (∀ w : World, (Op.stringOp .add (strOf LF) ⟨#[45]⟩).run Tryz.prog w = .ok (.string (strOf LD)) w) := fun w => by rw [hLD]; exact str_add' (strOf LF) ⟨#[45]⟩ w (by rw [size_strOf]; (try simp only [List.length_cons, List.length_nil]); show _ + 1 ≤ _; omega)
  clear hLD
  obtain ⟨LT, hLT⟩ : ∃ x, x = LD ++ DT := ⟨_, rfl⟩
  rw [← hLT] at HSA
  have hlT : LT.length ≤ 47 := by rw [hLT]; simp only [List.length_append]; omega
  have HADzt : Hid (∀ w : World, (Op.stringOp .add (strOf LD) (strOf DT)).run Tryz.prog w = .ok (.string (strOf LT)) w) := fun w => by rw [hLT]; exact str_add _ _ w (by omega)
  clear hLT
  have HLT : Hid (LT.length ≤ 47) := by show _ ≤ _; omega
  clear hl1 hl2 hlD hlF hlT
  obtain ⟨f, hf⟩ : ∃ f, f = zf := ⟨_, rfl⟩
  obtain ⟨e, he⟩ : ∃ e, e = (min (zt + 1) n) := ⟨_, rfl⟩
  have HEN : Hid (e ≤ n) := by show _ ≤ _; omega
  have HOY : Hid (f < e → ofB ((zf : Nat) : Int) ((zt : Nat) : Int) true true (n : Int) = ((f : Int), ((e - 1 : Nat) : Int), true)) := by
    intro hfe
    unfold ofB
    have := HFT.out
    rw [if_neg (by simp; omega)]
    rw [if_pos rfl]
    by_cases h : (zt : Int) ≤ (n : Int) - 1
    · rw [if_pos ⟨rfl, h⟩, if_neg (by omega)]
      refine Prod.ext (by simp only; omega) (Prod.ext (by simp only; omega) rfl)
    · rw [if_neg (by simp; omega), if_neg (by omega)]
      refine Prod.ext (by simp only; omega) (Prod.ext (by simp only; omega) rfl)
  have HON : Hid (¬ f < e → (ofB ((zf : Nat) : Int) ((zt : Nat) : Int) true true (n : Int)).2.2 = false) := by
    intro hfe
    unfold ofB
    have := HFT.out
    split
    · rfl
    · rename_i h0
      rw [if_pos rfl]
      have h1 : ¬ (n : Int) < 1 := fun h => h0 (.inl h)
      rw [if_neg (by simp; omega), if_pos (by omega)]
  have HFE : Hid (f = zf ∧ e = (min (zt + 1) n)) := ⟨hf, he⟩
  have HIN : Hid (∀ k : Nat, k < n → ((decide ((zf : Int) ≤ (k : Int)) && (false || decide ((k : Int) ≤ (zt : Int)))) = decide (f ≤ k ∧ k < e))) := by
    intro k hk
    rw [Bool.eq_iff_iff]
    simp
    omega
  clear hf he
  go_enter Tryz.func7, Tryz.ntmps7
  go_wp2_with fail
  refine (awakeT _ HE.out).mono ?_
  rintro e1 w2 ⟨rfl, hb2⟩
  have HB2 := hid hb2
  have HE2 := hid (HE.out.below hb2)
  have HR2 := hid (HR0.out.below hb2)
  clear hb2 HR0 HE
  go_upto_region 3 with (fail)
  clear hni hki hft
  go_wp2_with fail
  refine (new_ok 1 1 200 (by decide) (by decide) (by decide) (by decide) (by decide) _).mono ?_
  rintro e1 w3 ⟨gs, gt, gu, gm, rfl, hK, hb3⟩
  have HK3 := hid hK
  have HBB3 := hid hb3
  clear hK hb3
  go_wp2_with fail
  refine (create_ok w2.heap.size gs gt gu gm (nil0 200 1 1) A n cap L kind _ HK3.out (HR2.out.below HBB3.out) (by have := HN.out; omega) (by have := HKS.out; unfold maxLen; omega) (by have := HN.out; show total (nil0 200 1 1) + n ≤ 200; rw [show total (nil0 200 1 1) = 0 from rfl]; omega) (by decide) (by decide)).mono ?_
  rw [← HKD.out]
  rintro e1 w4 ⟨g, rfl, _, hK, hb4, _⟩
  have HK4 : Hid (IsK w2.heap.size gs gt gu gm (u1 g L KD) w4) := hK
  have HBB4 : Hid (Below w2.heap.size w2 w4) := HBB3.out.trans hb4
  clear hK hb4 HK3 HBB3
  rw [show (((nil0 200 1 1).last : Nat) : Int) + 1 = 1 from rfl]
  go_wp2_with fail
  refine (register_null w2.heap.size gs gt gu gm (u1 g L KD) ⟨#[]⟩ 0 0 1 0 f00 _ HK4.out rfl (by show 0 < 1; omega) (by show 0 < 1; omega) rfl).mono ?_
  rintro e1 w5 ⟨rfl, hK, hb5, _⟩
  have HK5 : Hid (IsK w2.heap.size gs gt gu gm (u2 g L KD) w5) := hK
  have HBB5 : Hid (Below w2.heap.size w2 w5) := HBB4.out.trans hb5
  clear hK hb5 HK4 HBB4
  go_upto_region 7 with (fail)
  generalize hwa : World.alloc w5 _ = v6
  have h6 : v6.heap[w5.heap.size]? = some (.cells #[.string (strOf [98, 121, 116, 101, 115, 61])] 9 (0, 0)) ∧ Below w5.heap.size w5 v6 := by
    subst hwa
    exact ⟨heap_alloc_new w5 _, (Below.refl _ _).alloc (Nat.le_refl _) _⟩
  clear hwa
  obtain ⟨gX, hgX⟩ : ∃ x, x = w5.heap.size := ⟨_, rfl⟩
  have HX6 : Hid (v6.heap[gX]? = some (.cells #[.string (strOf [98, 121, 116, 101, 115, 61])] 9 (0, 0))) := by rw [hgX]; exact h6.1
  have HK6 := hid (HK5.out.below h6.2)
  have HBB6 := hid (bel HBB5.out h6.2)
  have HGX : Hid (w2.heap.size ≤ gX) := by rw [hgX]; exact HBB5.out.size
  rw [← hgX]
  clear h6 hgX HK5 HBB5
  go_upto_region 8 with (fail)
  refine wp_region_rel_tail (by kernel_rfl) 4 [is (.string (strOf [98, 121, 116, 101, 115, 61])), is (.int .u16 (zf : Int)), is (.string (strOf DF)), is (.string (strOf LF))] [[], [], [1], [0, 1, 2], [0, 1, 2, 3]] (by kernel_rfl) ?_ ?_
  · refine ⟨?_, ?_, ?_, ?_, trivial⟩
    · intro t wq hbq hh K hK
      clear hh
      simp only [filled, filledN, upd, Have, is, any, row, pick, Act.put, List.setIfInBounds_toArray, List.set_cons_zero, List.set_cons_succ, Nat.reduceAdd, Nat.reduceEqDiff, reduceIte] at hK ⊢
      have hq : wq.cell? ⟨gX, 0, none⟩ = some (.string (strOf [98, 121, 116, 101, 115, 61])) := (cell_of_row wq gX 0 _ _ _ (((hbq.block _ (Array.getElem?_eq_some_iff.1 HX6.out).1).trans HX6.out : wq.heap[gX]? = _))).trans rfl
      go_simp
      exact hK _ _ (Below.refl _ _) rfl
    · intro t wq hbq hh K hK
      clear hh
      simp only [filled, filledN, upd, Have, is, any, row, pick, Act.put, List.setIfInBounds_toArray, List.set_cons_zero, List.set_cons_succ, Nat.reduceAdd, Nat.reduceEqDiff, reduceIte] at hK ⊢
      go_simp
      exact hK _ _ (Below.refl _ _) rfl
    · intro t wq hbq hh K hK
      have e1 := hh.1
      simp only [pick] at e1
      replace e1 : t 1 = (.int .u16 (zf : Int)) := e1
      clear hh
      simp only [filled, filledN, upd, Have, is, any, row, pick, Act.put, List.setIfInBounds_toArray, List.set_cons_zero, List.set_cons_succ, Nat.reduceAdd, Nat.reduceEqDiff, reduceIte] at hK ⊢
      simp only [e1] at hK ⊢
      go_simp
      refine (Dgt.digits_any (zf + 1) zf (Nat.lt_succ_self _) HZzf.out _).mono ?_
      rw [← HDzf.out]
      rintro e w9 ⟨rfl, hb9⟩
      exact hK _ _ hb9 rfl
    · intro t wq hbq hh K hK
      have e0 := hh.1
      simp only [pick] at e0
      replace e0 : t 0 = (.string (strOf [98, 121, 116, 101, 115, 61])) := e0
      have e2 := hh.2.2.1
      simp only [pick] at e2
      replace e2 : t 2 = (.string (strOf DF)) := e2
      clear hh
      simp only [filled, filledN, upd, Have, is, any, row, pick, Act.put, List.setIfInBounds_toArray, List.set_cons_zero, List.set_cons_succ, Nat.reduceAdd, Nat.reduceEqDiff, reduceIte] at hK ⊢
      simp only [e0, e2] at hK ⊢
      have hadd := HADzf.out wq
      go_simp
      exact hK _ _ (Below.refl _ _) rfl
  · intro t wq hbq hh
    have f3 := have_get hh 3 (by decide)
    simp only [pick] at f3
    replace f3 : t 3 = (.string (strOf LF)) := f3
    clear hh
    simp only [filled, filledN, upd, Have, is, any, row, pick, Act.put, List.setIfInBounds_toArray, List.set_cons_zero, List.set_cons_succ, Nat.reduceAdd, Nat.reduceEqDiff, reduceIte]
    simp only [f3]
    have HX7 : Hid (wq.heap[gX]? = some (.cells #[.string (strOf [98, 121, 116, 101, 115, 61])] 9 (0, 0))) := (hbq.block _ (Array.getElem?_eq_some_iff.1 HX6.out).1).trans HX6.out
    have HK7 := hid (HK6.out.below hbq)
    have HBB7 := hid (bel HBB6.out hbq)
    clear hbq
    have cX : wq.cell? ⟨gX, 0, none⟩ = some (.string (strOf [98, 121, 116, 101, 115, 61])) := (cell_of_row wq gX 0 _ _ _ HX7.out).trans rfl
    have fX : wq.frozen? ⟨gX, 0, none⟩ = false := frozen_of_row wq gX 0 _ _ HX7.out
    go_upto_region 9 with (fail)
    have hx : (World.setCell _ ⟨gX, 0, none⟩ (.string (strOf LF))).heap[gX]? = some (.cells #[.string (strOf LF)] 9 (0, 0)) := heap_setCell_same _ gX 0 _ _ _ HX7.out
    have hk := HK7.out.keepX HX7.out (.string (strOf LF))
    have hb := Below.setCell HBB7.out (p := ⟨gX, 0, none⟩) HGX.out (.string (strOf LF))
    generalize World.setCell _ ⟨gX, 0, none⟩ _ = v8 at hx hk hb ⊢
    have HX8 := hid hx
    have HK8 := hid hk
    have HBB8 := hid hb
    clear hx hk hb cX fX HX7 HK7 HBB7
    have cX : v8.cell? ⟨gX, 0, none⟩ = some (.string (strOf LF)) := (cell_of_row v8 gX 0 _ _ _ HX8.out).trans rfl
    have fX : v8.frozen? ⟨gX, 0, none⟩ = false := frozen_of_row v8 gX 0 _ _ HX8.out
    have hadd := HAD0.out v8
    go_upto_region 10 with (fail)
    have hx : (World.setCell _ ⟨gX, 0, none⟩ (.string (strOf LD))).heap[gX]? = some (.cells #[.string (strOf LD)] 9 (0, 0)) := heap_setCell_same _ gX 0 _ _ _ HX8.out
    have hk := HK8.out.keepX HX8.out (.string (strOf LD))
    have hb := Below.setCell HBB8.out (p := ⟨gX, 0, none⟩) HGX.out (.string (strOf LD))
    generalize World.setCell _ ⟨gX, 0, none⟩ _ = v9 at hx hk hb ⊢
    have HX9 := hid hx
    have HK9 := hid hk
    have HBB9 := hid hb
    clear hx hk hb cX fX HX8 HK8 HBB8
    clear hadd
    go_upto_region 11 with (fail)
    refine wp_region_rel_tail (by kernel_rfl) 4 [is (.string (strOf LD)), is (.int .u16 (zt : Int)), is (.string (strOf DT)), is (.string (strOf LT))] [[], [], [1], [0, 1, 2], [0, 1, 2, 3]] (by kernel_rfl) ?_ ?_
    · refine ⟨?_, ?_, ?_, ?_, trivial⟩
      · intro t wq hbq hh K hK
        clear hh
        simp only [filled, filledN, upd, Have, is, any, row, pick, Act.put, List.setIfInBounds_toArray, List.set_cons_zero, List.set_cons_succ, Nat.reduceAdd, Nat.reduceEqDiff, reduceIte] at hK ⊢
        have hq : wq.cell? ⟨gX, 0, none⟩ = some (.string (strOf LD)) := (cell_of_row wq gX 0 _ _ _ (((hbq.block _ (Array.getElem?_eq_some_iff.1 HX9.out).1).trans HX9.out : wq.heap[gX]? = _))).trans rfl
        go_simp
        exact hK _ _ (Below.refl _ _) rfl
      · intro t wq hbq hh K hK
        clear hh
        simp only [filled, filledN, upd, Have, is, any, row, pick, Act.put, List.setIfInBounds_toArray, List.set_cons_zero, List.set_cons_succ, Nat.reduceAdd, Nat.reduceEqDiff, reduceIte] at hK ⊢
        go_simp
        exact hK _ _ (Below.refl _ _) rfl
      · intro t wq hbq hh K hK
        have e1 := hh.1
        simp only [pick] at e1
        replace e1 : t 1 = (.int .u16 (zt : Int)) := e1
        clear hh
        simp only [filled, filledN, upd, Have, is, any, row, pick, Act.put, List.setIfInBounds_toArray, List.set_cons_zero, List.set_cons_succ, Nat.reduceAdd, Nat.reduceEqDiff, reduceIte] at hK ⊢
        simp only [e1] at hK ⊢
        go_simp
        refine (Dgt.digits_any (zt + 1) zt (Nat.lt_succ_self _) HZzt.out _).mono ?_
        rw [← HDzt.out]
        rintro e w9 ⟨rfl, hb9⟩
        exact hK _ _ hb9 rfl
      · intro t wq hbq hh K hK
        have e0 := hh.1
        simp only [pick] at e0
        replace e0 : t 0 = (.string (strOf LD)) := e0
        have e2 := hh.2.2.1
        simp only [pick] at e2
        replace e2 : t 2 = (.string (strOf DT)) := e2
        clear hh
        simp only [filled, filledN, upd, Have, is, any, row, pick, Act.put, List.setIfInBounds_toArray, List.set_cons_zero, List.set_cons_succ, Nat.reduceAdd, Nat.reduceEqDiff, reduceIte] at hK ⊢
        simp only [e0, e2] at hK ⊢
        have hadd := HADzt.out wq
        go_simp
        exact hK _ _ (Below.refl _ _) rfl
    · intro t wq hbq hh
      have f3 := have_get hh 3 (by decide)
      simp only [pick] at f3
      replace f3 : t 3 = (.string (strOf LT)) := f3
      clear hh
      simp only [filled, filledN, upd, Have, is, any, row, pick, Act.put, List.setIfInBounds_toArray, List.set_cons_zero, List.set_cons_succ, Nat.reduceAdd, Nat.reduceEqDiff, reduceIte]
      simp only [f3]
      have HX10 : Hid (wq.heap[gX]? = some (.cells #[.string (strOf LD)] 9 (0, 0))) := (hbq.block _ (Array.getElem?_eq_some_iff.1 HX9.out).1).trans HX9.out
      have HK10 := hid (HK9.out.below hbq)
      have HBB10 := hid (bel HBB9.out hbq)
      clear hbq
      have cX : wq.cell? ⟨gX, 0, none⟩ = some (.string (strOf LD)) := (cell_of_row wq gX 0 _ _ _ HX10.out).trans rfl
      have fX : wq.frozen? ⟨gX, 0, none⟩ = false := frozen_of_row wq gX 0 _ _ HX10.out
      go_upto_region 12 with (fail)
      have hx : (World.setCell _ ⟨gX, 0, none⟩ (.string (strOf LT))).heap[gX]? = some (.cells #[.string (strOf LT)] 9 (0, 0)) := heap_setCell_same _ gX 0 _ _ _ HX10.out
      have hk := HK10.out.keepX HX10.out (.string (strOf LT))
      have hb := Below.setCell HBB10.out (p := ⟨gX, 0, none⟩) HGX.out (.string (strOf LT))
      generalize World.setCell _ ⟨gX, 0, none⟩ _ = v11 at hx hk hb ⊢
      have HX11 := hid hx
      have HK11 := hid hk
      have HBB11 := hid hb
      clear hx hk hb cX fX HX10 HK10 HBB10
      have HBL : Hid ((u2 g L KD).bl ((u2 g L KD).urls[0]'(by show 0 < 1; omega)).x = (L, KD)) := by show _ = _; rw [u2_x, u2_bl]
      by_cases hfe : f < e
      · skip
        have HW : Hid (wnt L f e n = (L.drop f).take (e - 1 + 1 - f)) := by show _ = _; rw [← HLN.out, wnt_all (by rw [HLN.out]; exact HEN.out)]; congr 1; omega
        have HWL : Hid ((wnt L f e n).length = e - f) := by show _ = _; have h := wnt_len (L := L) (f := f) (e := e) (by rw [HLN.out]; exact HEN.out); rw [HLN.out] at h; exact h
        have hft := sf_some w2.heap.size gs gt gu gm (u2 g L KD) (nameT f00) f00 false [] (by decide) (.pointer (some ⟨gX, 0, none⟩)) ⟨#[]⟩ ⟨#[]⟩ 0 0 0 v11 HK11.out (HE2.out.below HBB11.out) (par_n f00 v11 (HE2.out.below HBB11.out)) (by show 0 < 1; omega) (idx_one _) (has_one _) 206 (f : Int) (n : Int) KD (wnt L f e n) (hid fun w1 hb1 hs1 => ((range_part 1 _ n L KD ⟨gX, 0, none⟩ (strOf LT) w1 (by have h := ((HK11.out.below hb1).blo ((u2 g L KD).urls[0]'(by show 0 < 1; omega)).x (.inr ⟨_, List.getElem_mem _, rfl⟩)).at; rw [HBL.out, HLN.out] at h; exact h) (by have := HN.out; omega) ((cell_of_row w1 gX 0 _ _ _ ((hb1.block _ (Array.getElem?_eq_some_iff.1 HX11.out).1).trans HX11.out)).trans rfl) (by have h1 := HLT.out; rw [size_strOf]; omega) _ _ _ _ f (e - 1) HSA.out (by have := HZzf.out; omega) (by have := HZzt.out; omega) (HOY.out hfe) (by omega) (by have := HEN.out; omega)).mono fun e1 w3 ⟨A9, c9, h1, h2, h3⟩ => ⟨_, h1, h3, A9, _, c9, rfl, by rw [HW.out]; exact h2⟩))
        have HFT2 := hid hft
        clear hft
        go_wp2_with fail
        refine HFT2.out.mono ?_
        rintro e1 w19 ⟨cs, rfl, hb19, A', n', c', rfl, hown⟩
        have HBB19 := hid (bel HBB11.out hb19)
        have HO19 := hid hown
        clear hb19 hown HK11 HBB11 HFT2 HX11 HBL
        go_upto_region 13 with (fail)
        generalize hwa : World.alloc w19 _ = v20
        have h20 : AB v20 w19.heap.size #[.int .i64 1, .int .i64 206, .int .i64 (f : Int), .int .i64 (n : Int), .string (strOf KD), .slice A' n' c'] ∧ Below w19.heap.size w19 v20 := by
          subst hwa
          exact laid1 w19 _ _
        clear hwa
        obtain ⟨gA, hgA⟩ : ∃ x, x = w19.heap.size := ⟨_, rfl⟩
        have XB20 : Hid (AB v20 gA #[.int .i64 1, .int .i64 206, .int .i64 (f : Int), .int .i64 (n : Int), .string (strOf KD), .slice A' n' c']) := by rw [hgA]; exact h20.1
        have HBB20 := hid (bel HBB19.out h20.2)
        have HO20 := hid (owns_below HO19.out h20.2)
        rw [← hgA]
        clear h20 hgA HBB19 HO19
        go_wp2
        go_loopw [21, 95] (fun vs vk wr => ∃ k : Nat, k ≤ n ∧ vk = .int .i64 (k : Int) ∧ vs = .string (strOf (wnt L f e k)) ∧ Hid (AB wr gA #[.int .i64 1, .int .i64 206, .int .i64 (f : Int), .int .i64 (n : Int), .string (strOf KD), .slice A' n' c']) ∧ Hid (Below w2.heap.size w2 wr) ∧ Hid (wr.ownsRow v11.heap.size 5 1 (.slice A' n' c') n' (bcells (wnt L f e n)))) (fun _ vk _ => n - (intOf vk).toNat)
        case atStart => exact ⟨0, Nat.zero_le _, rfl, by rw [wnt_zero]; rfl, XB20.out, HBB20.out, HO20.out⟩
        case round =>
          obtain ⟨k, hk, rfl, rfl, XB, HBB, HO⟩ := hrel
          by_cases hlk : k < n
          · skip
            have hki : (k : Int) < (n : Int) := by omega
            have hni : (n : Int) ≤ 200 := by have := HN.out; omega
            have hz1 : (zf : Int) ≤ 65535 := by have := HZzf.out; omega
            have hz2 : (zt : Int) ≤ 65535 := by have := HZzt.out; omega
            by_cases hin : f ≤ k ∧ k < e
            · skip
              have q1 : (zf : Int) ≤ (k : Int) := by have := HFE.out; omega
              have q2 : (k : Int) ≤ (zt : Int) := by have := HFE.out; omega
              have HKL : Hid (k < L.length) := by rw [HLN.out]; exact hlk
              obtain ⟨b, off, rfl, hmid⟩ := rds_mid (HR2.out.below HBB.out) k (k + 1) (Nat.lt_succ_self k) hlk
              have hst := run_string_of (P := Tryz.prog) 39 9 5 Tryz.underlying39 Tryz.underlying5 Tryz.underlying9 _ (cap - k) hmid
              have h1k : k + 1 - k = 1 := by omega
              rw [h1k] at hst
              have HONE : Hid ((L.drop k).take 1 = [L[k]'HKL.out]) := by show _ = _; rw [List.drop_eq_getElem_cons HKL.out]; rfl
              rw [HONE.out] at hst
              have HSU : Hid (wnt L f e (k + 1) = wnt L f e k ++ [L[k]'HKL.out]) := wnt_in HKL.out hin.1 hin.2
              have hadd : (Op.stringOp .add (strOf (wnt L f e k)) (strOf [L[k]'HKL.out])).run Tryz.prog wr = .ok (.string (strOf (wnt L f e (k + 1)))) wr := by rw [HSU.out]; exact str_add _ _ wr (by have h1 := wnt_le L f e k; rw [HLN.out] at h1; have := HN.out; simp only [List.length_cons, List.length_nil]; omega)
              have hk1 : k + 1 ≤ cap := by have := HNC.out; omega
              have hk1i : (k : Int) + 1 ≤ (cap : Int) := by omega
              have hkc : (k : Int) ≤ (k : Int) + 1 := by omega
              generalize L[k]'HKL.out = ch at hst hadd HSU HONE
              clear hmid hin h1k HONE
              go_wp2
              go_roundw
              case rel => exact ⟨k + 1, by omega, by go_num, rfl, XB.out, HBB.out, HO.out⟩
              case measure => simp [intOf]; omega
            · skip
              have HSU : Hid (wnt L f e (k + 1) = wnt L f e k) := wnt_out (by omega)
              skip
              have q1 : ¬ ((zf : Int) ≤ (k : Int) ∧ (k : Int) ≤ (zt : Int)) := by have := HFE.out; omega
              rcases (show ¬ (zf : Int) ≤ (k : Int) ∨ ((zf : Int) ≤ (k : Int) ∧ ¬ (k : Int) ≤ (zt : Int)) by omega) with q2 | ⟨q2, q3⟩
              all_goals clear q1 hin
              all_goals
                go_wp2
                go_roundw
                case rel => exact ⟨k + 1, by omega, by go_num, by rw [HSU.out], XB.out, HBB.out, HO.out⟩
                case measure => simp [intOf]; omega
          · obtain rfl : k = n := by omega
            have hni : (k : Int) ≤ 200 := by have := HN.out; omega
            obtain ⟨a0, a1, a2, a3, a4, a5⟩ := XB.out.facts
            have hs1 := run_string_of (P := Tryz.prog) 39 9 5 Tryz.underlying39 Tryz.underlying5 Tryz.underlying9 _ c' (own_form HO.out).2.2
            obtain ⟨W, hW⟩ : ∃ W, W = wnt L f e k := ⟨_, rfl⟩
            have HWW := hid hW
            rw [← hW] at hs1 ⊢
            have HWS : Hid (W.length = e - f) := by show _ = _; rw [hW]; exact HWL.out
            have hn0 : (strOf W).toList ≠ [] := fun h => by have h2 := (StoB.tl_eq (strOf W) ⟨#[]⟩).1 (h.trans (by simp)); have h3 := congrArg ByteArray.size h2; rw [size_strOf] at h3; have := HWS.out; have h4 : (⟨#[]⟩ : ByteArray).size = 0 := rfl; omega
            obtain ⟨X, hX⟩ : ∃ X, X = strOf W := ⟨_, rfl⟩
            have HXX := hid hX
            have HXS : Hid (X.size = e - f) := by show _ = _; rw [hX, size_strOf]; exact HWS.out
            rw [← hX] at hs1 hn0 ⊢
            clear hX hW
            have hn1 : (X.toList == []) = false := beq_eq_false_iff_ne.2 hn0
            have hn2 : X.toList.isEmpty = false := by cases h : X.toList with | nil => exact absurd h hn0 | cons a t => rfl
            go_upto_region 27 with (fail)
            clear hs1 hn0 hn1 hn2
            have hsz : (X.size : Int) = (e : Int) - (f : Int) := by have := HXS.out; omega
            have hen : (e : Int) ≤ (k : Int) := by have := HEN.out; omega
            have hfi : (f : Int) < (e : Int) := by omega
            have hf0 : ¬ (f : Int) < 0 := by omega
            have HSZ := hid hsz
            have hsub : ¬ (k : Int) - (X.size : Int) < (f : Int) := by omega
            have hx2 : (X.size : Int) ≤ 200 := by omega
            clear hsz
            go_upto_region 30 with (fail)
            clear hsub hx2 hf0 a0 a2 a3 a5
            obtain ⟨b, off, rfl, hmid⟩ := rds_mid (HR2.out.below HBB.out) f e hfe HEN.out
            have HMID : Hid (Rds wr (some ⟨b, off + f, none⟩) (e - f) (bcells W)) := by have h := HWW.out; rw [h, HW.out]; show Rds _ _ _ _; rw [show e - 1 + 1 - f = e - f by omega]; exact hmid
            clear hmid
            have HLA : Hid (gA < wr.heap.size) := XB.out.lt
            refine wp_region_rel (by kernel_rfl) [is (.pointer (some ⟨gA, 1, none⟩)), is (.int .i64 206), is (.bool true), is (.bool true), is (.pointer (some ⟨gA, 4, none⟩)), is (.string (strOf KD)), is (.string kind), is (.string (strOf KD)), is (.bool true), is (.bool true), is (.bool true), is (.slice (some ⟨b, off, none⟩) k cap), is (.int .i64 (f : Int)), is (.int .i64 (f : Int)), is (.string X), is (.int .i64 (X.size : Int)), is (.int .i64 (e : Int)), is (.slice (some ⟨b, off + f, none⟩) (e - f) (cap - f)), is (.string X), is (.string X), is (.bool true), is (.bool true), is (.bool true)] [[], [0], [1], [2], [3], [3, 4], [3], [3, 6], [3, 5, 7], [3, 8], [9], [10], [10], [10], [10], [10, 14], [10, 13, 15], [10, 11, 12, 16], [10, 17], [10], [10, 18, 19], [10, 20], [21]] (by kernel_rfl) ?_ ?_
            · refine ⟨?_, ?_, ?_, ?_, ?_, ?_, ?_, ?_, ?_, ?_, ?_, ?_, ?_, ?_, ?_, ?_, ?_, ?_, ?_, ?_, ?_, ?_, ?_, trivial⟩
              · intro t wq hbq hh K hK
                clear hh
                simp only [filled, upd, Have, is, any, row, pick, Act.put, List.setIfInBounds_toArray, List.set_cons_zero, List.set_cons_succ, Nat.reduceAdd, Nat.reduceEqDiff, reduceIte] at hK ⊢
                go_simp
                exact hK _ _ (Below.refl _ _) rfl
              · intro t wq hbq hh K hK
                have e0 := hh.1
                simp only [pick] at e0
                replace e0 : t 0 = (.pointer (some ⟨gA, 1, none⟩)) := e0
                clear hh
                simp only [filled, upd, Have, is, any, row, pick, Act.put, List.setIfInBounds_toArray, List.set_cons_zero, List.set_cons_succ, Nat.reduceAdd, Nat.reduceEqDiff, reduceIte] at hK ⊢
                simp only [e0] at hK ⊢
                have hq := (hbq.cell (p := ⟨gA, 1, none⟩) HLA.out).trans a1
                go_simp
                exact hK _ _ (Below.refl _ _) rfl
              · intro t wq hbq hh K hK
                have e1 := hh.1
                simp only [pick] at e1
                replace e1 : t 1 = (.int .i64 206) := e1
                clear hh
                simp only [filled, upd, Have, is, any, row, pick, Act.put, List.setIfInBounds_toArray, List.set_cons_zero, List.set_cons_succ, Nat.reduceAdd, Nat.reduceEqDiff, reduceIte] at hK ⊢
                simp only [e1] at hK ⊢
                go_simp
                first | exact hK _ _ (Below.refl _ _) rfl | exact hK _ _ (Below.refl _ _) (int_wrap (by omega) (by omega))
              · intro t wq hbq hh K hK
                have e2 := hh.1
                simp only [pick] at e2
                replace e2 : t 2 = (.bool true) := e2
                clear hh
                simp only [filled, upd, Have, is, any, row, pick, Act.put, List.setIfInBounds_toArray, List.set_cons_zero, List.set_cons_succ, Nat.reduceAdd, Nat.reduceEqDiff, reduceIte] at hK ⊢
                simp only [e2] at hK ⊢
                go_simp
                exact hK _ _ (Below.refl _ _) rfl
              · intro t wq hbq hh K hK
                have e3 := hh.1
                simp only [pick] at e3
                replace e3 : t 3 = (.bool true) := e3
                clear hh
                simp only [filled, upd, Have, is, any, row, pick, Act.put, List.setIfInBounds_toArray, List.set_cons_zero, List.set_cons_succ, Nat.reduceAdd, Nat.reduceEqDiff, reduceIte] at hK ⊢
                simp only [e3] at hK ⊢
                go_simp
                exact hK _ _ (Below.refl _ _) rfl
              · intro t wq hbq hh K hK
                have e3 := hh.1
                simp only [pick] at e3
                replace e3 : t 3 = (.bool true) := e3
                have e4 := hh.2.1
                simp only [pick] at e4
                replace e4 : t 4 = (.pointer (some ⟨gA, 4, none⟩)) := e4
                clear hh
                simp only [filled, upd, Have, is, any, row, pick, Act.put, List.setIfInBounds_toArray, List.set_cons_zero, List.set_cons_succ, Nat.reduceAdd, Nat.reduceEqDiff, reduceIte] at hK ⊢
                simp only [e3, e4] at hK ⊢
                have hq := (hbq.cell (p := ⟨gA, 4, none⟩) HLA.out).trans a4
                go_simp
                exact hK _ _ (Below.refl _ _) rfl
              · intro t wq hbq hh K hK
                have e3 := hh.1
                simp only [pick] at e3
                replace e3 : t 3 = (.bool true) := e3
                clear hh
                simp only [filled, upd, Have, is, any, row, pick, Act.put, List.setIfInBounds_toArray, List.set_cons_zero, List.set_cons_succ, Nat.reduceAdd, Nat.reduceEqDiff, reduceIte] at hK ⊢
                simp only [e3] at hK ⊢
                go_simp
                exact hK _ _ (Below.refl _ _) rfl
              · intro t wq hbq hh K hK
                have e3 := hh.1
                simp only [pick] at e3
                replace e3 : t 3 = (.bool true) := e3
                have e6 := hh.2.1
                simp only [pick] at e6
                replace e6 : t 6 = (.string kind) := e6
                clear hh
                simp only [filled, upd, Have, is, any, row, pick, Act.put, List.setIfInBounds_toArray, List.set_cons_zero, List.set_cons_succ, Nat.reduceAdd, Nat.reduceEqDiff, reduceIte] at hK ⊢
                simp only [e3, e6] at hK ⊢
                go_simp
                refine (refKind_any kind _ (by have := HKS.out; omega)).mono ?_
                rw [← HKD.out]
                rintro e1 w33 ⟨rfl, hb33⟩
                exact hK _ _ hb33 rfl
              · intro t wq hbq hh K hK
                have e3 := hh.1
                simp only [pick] at e3
                replace e3 : t 3 = (.bool true) := e3
                have e5 := hh.2.1
                simp only [pick] at e5
                replace e5 : t 5 = (.string (strOf KD)) := e5
                have e7 := hh.2.2.1
                simp only [pick] at e7
                replace e7 : t 7 = (.string (strOf KD)) := e7
                clear hh
                simp only [filled, upd, Have, is, any, row, pick, Act.put, List.setIfInBounds_toArray, List.set_cons_zero, List.set_cons_succ, Nat.reduceAdd, Nat.reduceEqDiff, reduceIte] at hK ⊢
                simp only [e3, e5, e7] at hK ⊢
                go_simp
                first | exact hK _ _ (Below.refl _ _) rfl | exact hK _ _ (Below.refl _ _) (int_wrap (by omega) (by omega))
              · intro t wq hbq hh K hK
                have e3 := hh.1
                simp only [pick] at e3
                replace e3 : t 3 = (.bool true) := e3
                have e8 := hh.2.1
                simp only [pick] at e8
                replace e8 : t 8 = (.bool true) := e8
                clear hh
                simp only [filled, upd, Have, is, any, row, pick, Act.put, List.setIfInBounds_toArray, List.set_cons_zero, List.set_cons_succ, Nat.reduceAdd, Nat.reduceEqDiff, reduceIte] at hK ⊢
                simp only [e3, e8] at hK ⊢
                go_simp
                exact hK _ _ (Below.refl _ _) rfl
              · intro t wq hbq hh K hK
                have e9 := hh.1
                simp only [pick] at e9
                replace e9 : t 9 = (.bool true) := e9
                clear hh
                simp only [filled, upd, Have, is, any, row, pick, Act.put, List.setIfInBounds_toArray, List.set_cons_zero, List.set_cons_succ, Nat.reduceAdd, Nat.reduceEqDiff, reduceIte] at hK ⊢
                simp only [e9] at hK ⊢
                go_simp
                exact hK _ _ (Below.refl _ _) rfl
              · intro t wq hbq hh K hK
                have e10 := hh.1
                simp only [pick] at e10
                replace e10 : t 10 = (.bool true) := e10
                clear hh
                simp only [filled, upd, Have, is, any, row, pick, Act.put, List.setIfInBounds_toArray, List.set_cons_zero, List.set_cons_succ, Nat.reduceAdd, Nat.reduceEqDiff, reduceIte] at hK ⊢
                simp only [e10] at hK ⊢
                go_simp
                exact hK _ _ (Below.refl _ _) rfl
              · intro t wq hbq hh K hK
                have e10 := hh.1
                simp only [pick] at e10
                replace e10 : t 10 = (.bool true) := e10
                clear hh
                simp only [filled, upd, Have, is, any, row, pick, Act.put, List.setIfInBounds_toArray, List.set_cons_zero, List.set_cons_succ, Nat.reduceAdd, Nat.reduceEqDiff, reduceIte] at hK ⊢
                simp only [e10] at hK ⊢
                go_simp
                exact hK _ _ (Below.refl _ _) rfl
              · intro t wq hbq hh K hK
                have e10 := hh.1
                simp only [pick] at e10
                replace e10 : t 10 = (.bool true) := e10
                clear hh
                simp only [filled, upd, Have, is, any, row, pick, Act.put, List.setIfInBounds_toArray, List.set_cons_zero, List.set_cons_succ, Nat.reduceAdd, Nat.reduceEqDiff, reduceIte] at hK ⊢
                simp only [e10] at hK ⊢
                go_simp
                exact hK _ _ (Below.refl _ _) rfl
              · intro t wq hbq hh K hK
                have e10 := hh.1
                simp only [pick] at e10
                replace e10 : t 10 = (.bool true) := e10
                clear hh
                simp only [filled, upd, Have, is, any, row, pick, Act.put, List.setIfInBounds_toArray, List.set_cons_zero, List.set_cons_succ, Nat.reduceAdd, Nat.reduceEqDiff, reduceIte] at hK ⊢
                simp only [e10] at hK ⊢
                go_simp
                exact hK _ _ (Below.refl _ _) rfl
              · intro t wq hbq hh K hK
                have e10 := hh.1
                simp only [pick] at e10
                replace e10 : t 10 = (.bool true) := e10
                have e14 := hh.2.1
                simp only [pick] at e14
                replace e14 : t 14 = (.string X) := e14
                clear hh
                simp only [filled, upd, Have, is, any, row, pick, Act.put, List.setIfInBounds_toArray, List.set_cons_zero, List.set_cons_succ, Nat.reduceAdd, Nat.reduceEqDiff, reduceIte] at hK ⊢
                simp only [e10, e14] at hK ⊢
                go_simp
                exact hK _ _ (Below.refl _ _) rfl
              · intro t wq hbq hh K hK
                have e10 := hh.1
                simp only [pick] at e10
                replace e10 : t 10 = (.bool true) := e10
                have e13 := hh.2.1
                simp only [pick] at e13
                replace e13 : t 13 = (.int .i64 (f : Int)) := e13
                have e15 := hh.2.2.1
                simp only [pick] at e15
                replace e15 : t 15 = (.int .i64 (X.size : Int)) := e15
                clear hh
                simp only [filled, upd, Have, is, any, row, pick, Act.put, List.setIfInBounds_toArray, List.set_cons_zero, List.set_cons_succ, Nat.reduceAdd, Nat.reduceEqDiff, reduceIte] at hK ⊢
                simp only [e10, e13, e15] at hK ⊢
                have hq : (f : Int) + (X.size : Int) = (e : Int) := by have := HSZ.out; omega
                have hq5 : (e : Int) ≤ 200 := by omega
                go_simp
                first | exact hK _ _ (Below.refl _ _) rfl | exact hK _ _ (Below.refl _ _) (congrArg (Value.int .i64) (by omega)) | exact hK _ _ (Below.refl _ _) (int_wrap (by omega) (by omega))
              · intro t wq hbq hh K hK
                have e10 := hh.1
                simp only [pick] at e10
                replace e10 : t 10 = (.bool true) := e10
                have e11 := hh.2.1
                simp only [pick] at e11
                replace e11 : t 11 = (.slice (some ⟨b, off, none⟩) k cap) := e11
                have e12 := hh.2.2.1
                simp only [pick] at e12
                replace e12 : t 12 = (.int .i64 (f : Int)) := e12
                have e16 := hh.2.2.2.1
                simp only [pick] at e16
                replace e16 : t 16 = (.int .i64 (e : Int)) := e16
                clear hh
                simp only [filled, upd, Have, is, any, row, pick, Act.put, List.setIfInBounds_toArray, List.set_cons_zero, List.set_cons_succ, Nat.reduceAdd, Nat.reduceEqDiff, reduceIte] at hK ⊢
                simp only [e10, e11, e12, e16] at hK ⊢
                have hq1 : e ≤ cap := by have := HNC.out; have := HEN.out; omega
                have hq2 : (e : Int) ≤ (cap : Int) := by omega
                have hq3 : (f : Int) ≤ (e : Int) := by omega
                have hq4 : ¬ cap = f := by omega
                go_simp
                exact hK _ _ (Below.refl _ _) rfl
              · intro t wq hbq hh K hK
                have e10 := hh.1
                simp only [pick] at e10
                replace e10 : t 10 = (.bool true) := e10
                have e17 := hh.2.1
                simp only [pick] at e17
                replace e17 : t 17 = (.slice (some ⟨b, off + f, none⟩) (e - f) (cap - f)) := e17
                clear hh
                simp only [filled, upd, Have, is, any, row, pick, Act.put, List.setIfInBounds_toArray, List.set_cons_zero, List.set_cons_succ, Nat.reduceAdd, Nat.reduceEqDiff, reduceIte] at hK ⊢
                simp only [e10, e17] at hK ⊢
                have hst := run_string_of (P := Tryz.prog) 39 9 5 Tryz.underlying39 Tryz.underlying5 Tryz.underlying9 W (cap - f) (HMID.out.below hbq)
                rw [← HXX.out] at hst
                go_simp
                exact hK _ _ (Below.refl _ _) rfl
              · intro t wq hbq hh K hK
                have e10 := hh.1
                simp only [pick] at e10
                replace e10 : t 10 = (.bool true) := e10
                clear hh
                simp only [filled, upd, Have, is, any, row, pick, Act.put, List.setIfInBounds_toArray, List.set_cons_zero, List.set_cons_succ, Nat.reduceAdd, Nat.reduceEqDiff, reduceIte] at hK ⊢
                simp only [e10] at hK ⊢
                go_simp
                exact hK _ _ (Below.refl _ _) rfl
              · intro t wq hbq hh K hK
                have e10 := hh.1
                simp only [pick] at e10
                replace e10 : t 10 = (.bool true) := e10
                have e18 := hh.2.1
                simp only [pick] at e18
                replace e18 : t 18 = (.string X) := e18
                have e19 := hh.2.2.1
                simp only [pick] at e19
                replace e19 : t 19 = (.string X) := e19
                clear hh
                simp only [filled, upd, Have, is, any, row, pick, Act.put, List.setIfInBounds_toArray, List.set_cons_zero, List.set_cons_succ, Nat.reduceAdd, Nat.reduceEqDiff, reduceIte] at hK ⊢
                simp only [e10, e18, e19] at hK ⊢
                go_simp
                first | exact hK _ _ (Below.refl _ _) rfl | exact hK _ _ (Below.refl _ _) (int_wrap (by omega) (by omega))
              · intro t wq hbq hh K hK
                have e10 := hh.1
                simp only [pick] at e10
                replace e10 : t 10 = (.bool true) := e10
                have e20 := hh.2.1
                simp only [pick] at e20
                replace e20 : t 20 = (.bool true) := e20
                clear hh
                simp only [filled, upd, Have, is, any, row, pick, Act.put, List.setIfInBounds_toArray, List.set_cons_zero, List.set_cons_succ, Nat.reduceAdd, Nat.reduceEqDiff, reduceIte] at hK ⊢
                simp only [e10, e20] at hK ⊢
                go_simp
                exact hK _ _ (Below.refl _ _) rfl
              · intro t wq hbq hh K hK
                have e21 := hh.1
                simp only [pick] at e21
                replace e21 : t 21 = (.bool true) := e21
                clear hh
                simp only [filled, upd, Have, is, any, row, pick, Act.put, List.setIfInBounds_toArray, List.set_cons_zero, List.set_cons_succ, Nat.reduceAdd, Nat.reduceEqDiff, reduceIte] at hK ⊢
                simp only [e21] at hK ⊢
                go_simp
                exact hK _ _ (Below.refl _ _) rfl
            · intro t wq hbq hh
              have f22 := have_get hh 22 (by decide)
              simp only [pick] at f22
              replace f22 : t 22 = (.bool true) := f22
              clear hh
              simp only [filled, upd, Have, is, any, row, pick, Act.put, List.setIfInBounds_toArray, List.set_cons_zero, List.set_cons_succ, Nat.reduceAdd, Nat.reduceEqDiff, reduceIte]
              simp only [f22]
              have HBF : Hid (Below w.heap.size w wq) := bel HB2.out (bel HBB.out hbq)
              clear hbq
              go_wp2
              go_ret
              exact ⟨rfl, HBF.out⟩
      · skip
        have HW : Hid (wnt L f e n = []) := by show _ = _; have h := wnt_len (L := L) (f := f) (e := e) (by rw [HLN.out]; exact HEN.out); rw [HLN.out] at h; exact List.eq_nil_of_length_eq_zero (by omega)
        have hft := sf_some w2.heap.size gs gt gu gm (u2 g L KD) (nameT f00) f00 false [] (by decide) (.pointer (some ⟨gX, 0, none⟩)) ⟨#[]⟩ ⟨#[]⟩ 0 0 0 v11 HK11.out (HE2.out.below HBB11.out) (par_n f00 v11 (HE2.out.below HBB11.out)) (by show 0 < 1; omega) (idx_one _) (has_one _) 416 0 (n : Int) [] [] (hid fun w1 hb1 hs1 => ((range_beyond 1 _ n L KD ⟨gX, 0, none⟩ (strOf LT) w1 (by have h := ((HK11.out.below hb1).blo ((u2 g L KD).urls[0]'(by show 0 < 1; omega)).x (.inr ⟨_, List.getElem_mem _, rfl⟩)).at; rw [HBL.out, HLN.out] at h; exact h) (by have := HN.out; omega) ((cell_of_row w1 gX 0 _ _ _ ((hb1.block _ (Array.getElem?_eq_some_iff.1 HX11.out).1).trans HX11.out)).trans rfl) (by have h1 := HLT.out; rw [size_strOf]; omega) _ _ _ _ HSA.out (by have := HZzf.out; omega) (by have := HZzt.out; omega) (HON.out hfe)).mono fun e1 w3 ⟨h1, h3⟩ => ⟨_, h1, h3, none, 0, 0, rfl, World.ownsRow_nil _ _ _ _⟩))
        have HFT2 := hid hft
        clear hft
        go_wp2_with fail
        refine HFT2.out.mono ?_
        rintro e1 w19 ⟨cs, rfl, hb19, A', n', c', rfl, hown⟩
        have HBB19 := hid (bel HBB11.out hb19)
        have HO19 := hid hown
        clear hb19 hown HK11 HBB11 HFT2 HX11 HBL
        go_upto_region 13 with (fail)
        generalize hwa : World.alloc w19 _ = v20
        have h20 : AB v20 w19.heap.size #[.int .i64 1, .int .i64 416, .int .i64 0, .int .i64 (n : Int), .string ⟨#[]⟩, .slice A' n' c'] ∧ Below w19.heap.size w19 v20 := by
          subst hwa
          exact laid1 w19 _ _
        clear hwa
        obtain ⟨gA, hgA⟩ : ∃ x, x = w19.heap.size := ⟨_, rfl⟩
        have XB20 : Hid (AB v20 gA #[.int .i64 1, .int .i64 416, .int .i64 0, .int .i64 (n : Int), .string ⟨#[]⟩, .slice A' n' c']) := by rw [hgA]; exact h20.1
        have HBB20 := hid (bel HBB19.out h20.2)
        have HO20 := hid (owns_below HO19.out h20.2)
        rw [← hgA]
        clear h20 hgA HBB19 HO19
        go_wp2
        go_loopw [21, 95] (fun vs vk wr => ∃ k : Nat, k ≤ n ∧ vk = .int .i64 (k : Int) ∧ vs = .string (strOf (wnt L f e k)) ∧ Hid (AB wr gA #[.int .i64 1, .int .i64 416, .int .i64 0, .int .i64 (n : Int), .string ⟨#[]⟩, .slice A' n' c']) ∧ Hid (Below w2.heap.size w2 wr) ∧ Hid (wr.ownsRow v11.heap.size 5 1 (.slice A' n' c') n' (bcells ([])))) (fun _ vk _ => n - (intOf vk).toNat)
        case atStart => exact ⟨0, Nat.zero_le _, rfl, by rw [wnt_zero]; rfl, XB20.out, HBB20.out, HO20.out⟩
        case round =>
          obtain ⟨k, hk, rfl, rfl, XB, HBB, HO⟩ := hrel
          by_cases hlk : k < n
          · skip
            have hki : (k : Int) < (n : Int) := by omega
            have hni : (n : Int) ≤ 200 := by have := HN.out; omega
            have hz1 : (zf : Int) ≤ 65535 := by have := HZzf.out; omega
            have hz2 : (zt : Int) ≤ 65535 := by have := HZzt.out; omega
            by_cases hin : f ≤ k ∧ k < e
            · skip
              have q1 : (zf : Int) ≤ (k : Int) := by have := HFE.out; omega
              have q2 : (k : Int) ≤ (zt : Int) := by have := HFE.out; omega
              have HKL : Hid (k < L.length) := by rw [HLN.out]; exact hlk
              obtain ⟨b, off, rfl, hmid⟩ := rds_mid (HR2.out.below HBB.out) k (k + 1) (Nat.lt_succ_self k) hlk
              have hst := run_string_of (P := Tryz.prog) 39 9 5 Tryz.underlying39 Tryz.underlying5 Tryz.underlying9 _ (cap - k) hmid
              have h1k : k + 1 - k = 1 := by omega
              rw [h1k] at hst
              have HONE : Hid ((L.drop k).take 1 = [L[k]'HKL.out]) := by show _ = _; rw [List.drop_eq_getElem_cons HKL.out]; rfl
              rw [HONE.out] at hst
              have HSU : Hid (wnt L f e (k + 1) = wnt L f e k ++ [L[k]'HKL.out]) := wnt_in HKL.out hin.1 hin.2
              have hadd : (Op.stringOp .add (strOf (wnt L f e k)) (strOf [L[k]'HKL.out])).run Tryz.prog wr = .ok (.string (strOf (wnt L f e (k + 1)))) wr := by rw [HSU.out]; exact str_add _ _ wr (by have h1 := wnt_le L f e k; rw [HLN.out] at h1; have := HN.out; simp only [List.length_cons, List.length_nil]; omega)
              have hk1 : k + 1 ≤ cap := by have := HNC.out; omega
              have hk1i : (k : Int) + 1 ≤ (cap : Int) := by omega
              have hkc : (k : Int) ≤ (k : Int) + 1 := by omega
              generalize L[k]'HKL.out = ch at hst hadd HSU HONE
              clear hmid hin h1k HONE
              go_wp2
              go_roundw
              case rel => exact ⟨k + 1, by omega, by go_num, rfl, XB.out, HBB.out, HO.out⟩
              case measure => simp [intOf]; omega
            · skip
              have HSU : Hid (wnt L f e (k + 1) = wnt L f e k) := wnt_out (by omega)
              skip
              have q1 : ¬ ((zf : Int) ≤ (k : Int) ∧ (k : Int) ≤ (zt : Int)) := by have := HFE.out; omega
              rcases (show ¬ (zf : Int) ≤ (k : Int) ∨ ((zf : Int) ≤ (k : Int) ∧ ¬ (k : Int) ≤ (zt : Int)) by omega) with q2 | ⟨q2, q3⟩
              all_goals clear q1 hin
              all_goals
                go_wp2
                go_roundw
                case rel => exact ⟨k + 1, by omega, by go_num, by rw [HSU.out], XB.out, HBB.out, HO.out⟩
                case measure => simp [intOf]; omega
          · obtain rfl : k = n := by omega
            have hni : (k : Int) ≤ 200 := by have := HN.out; omega
            obtain ⟨a0, a1, a2, a3, a4, a5⟩ := XB.out.facts
            have hs1 := run_string_of (P := Tryz.prog) 39 9 5 Tryz.underlying39 Tryz.underlying5 Tryz.underlying9 _ c' (own_form HO.out).2.2
            rw [HW.out]
            have hs0 : strOf [] = (⟨#[]⟩ : ByteArray) := rfl
            rw [hs0] at hs1 ⊢
            have HBF : Hid (Below w.heap.size w wr) := bel HB2.out HBB.out
            go_wp2
            go_ret
            exact ⟨rfl, HBF.out⟩
end Go.Proofs.YtegpfgccaminkaaGreatDoor.Laws
