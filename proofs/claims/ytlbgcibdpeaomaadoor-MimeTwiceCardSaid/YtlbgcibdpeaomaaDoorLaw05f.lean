/- The walks of the laws MimeTwice: they return true, whatever they are called with. -/
import Derived.Test.YtlbgcibdpeaomaaDoorLaw05b
import Derived.Test.YtlbgcibdpeaomaaDoorUtfL
import Derived.Test.YtlbgcibdpeaomaaDoorRegs
import Derived.Test.YtlbgcibdpeaomaaDoorRegb
namespace Go.Proofs.YtlbgcibdpeaomaaDoor.Laws
open Go.RowKit Go.Proofs.YtlbgcibdpeaomaaDoor.Base Go.Proofs.YtlbgcibdpeaomaaDoor.Base2 Go.Proofs.YtlbgcibdpeaomaaDoor.Regs Go.Proofs.YtlbgcibdpeaomaaDoor.UtfL Go.Proofs.YtlbgcibdpeaomaaDoor.TokP Go.Proofs.YtlbgcibdpeaomaaDoor.MimP Go.Proofs.YtlbgcibdpeaomaaDoor.MimB Go.Proofs.YtlbgcibdpeaomaaDoor.MimC Go.Proofs.YtlbgcibdpeaomaaDoor.MimD Go.Proofs.YtlbgcibdpeaomaaDoor.MimE Go.Proofs.YtlbgcibdpeaomaaDoor.MimQ Go.Proofs.YtlbgcibdpeaomaaDoor.MimF Go.Proofs.YtlbgcibdpeaomaaDoor.MimH Go.Proofs.YtlbgcibdpeaomaaDoor.MimI Go.Proofs.YtlbgcibdpeaomaaDoor.MimL Go.Proofs.YtlbgcibdpeaomaaDoor.MimN Go.Proofs.YtlbgcibdpeaomaaDoor.MimW Go.Proofs.YtlbgcibdpeaomaaDoor.Mim0 Go.Proofs.YtlbgcibdpeaomaaDoor.Mim1

def TyQ (T S : ByteArray) (l : List (ByteArray × ByteArray)) (w : World) (cs : Array Value) : Prop := ∃ A n c, cs = #[.string T, .string S, .slice A n c] ∧ n ≤ c ∧ c ≤ maxLen ∧ Prm w A n l
theorem tyq_stays (T S : ByteArray) (l : List (ByteArray × ByteArray)) : Regb.Stays (TyQ T S l) := fun _ _ _ hb ⟨A, n, c, h1, h2, h3, h4⟩ => ⟨A, n, c, h1, h2, h3, h4.below hb⟩
theorem b3_store {T : TypeId} {w : World} {p : Nat} (h : w.heap[p]? = some (.cells #[.string ⟨#[]⟩, .string ⟨#[]⟩, .slice none 0 0] T (0, 0))) (a b c : Value) : (((w.setCell ⟨p, 0, none⟩ a).setCell ⟨p, 1, none⟩ b).setCell ⟨p, 2, none⟩ c).heap[p]? = some (.cells #[a, b, c] T (0, 0)) :=
  heap_setCell_same _ p 2 _ _ c (heap_setCell_same _ p 1 _ _ b (heap_setCell_same w p 0 _ _ a h))
theorem prm_store {w : World} {A : Option Addr} {n p : Nat} {l : List (ByteArray × ByteArray)} {T : TypeId} (hne : ∀ q ∈ l, q.1.data.toList ≠ []) (h : Prm w A n l) (hz : w.heap[p]? = some (.cells #[.string ⟨#[]⟩, .string ⟨#[]⟩, .slice none 0 0] T (0, 0))) (a b c : Value) : Prm (((w.setCell ⟨p, 0, none⟩ a).setCell ⟨p, 1, none⟩ b).setCell ⟨p, 2, none⟩ c) A n l := by
  refine ⟨h.1, fun j hj => ?_⟩
  obtain ⟨g, off, e, hlt, h1, h2⟩ := h.2 j hj
  have hgp : g ≠ p := by
    rintro rfl
    have hc := cell_of_row w g (off + j * 2) _ _ _ hz
    rw [h1] at hc
    have hn := hne l[j] (List.getElem_mem hj)
    generalize off + j * 2 = i at hc
    match i, hc with
    | 0, hc =>
      simp at hc
      exact hn (by rw [hc])
    | 1, hc =>
      simp at hc
      exact hn (by rw [hc])
    | 2, hc => simp at hc
    | _ + 3, hc => simp at hc
  have keep : ∀ k, (((w.setCell ⟨p, 0, none⟩ a).setCell ⟨p, 1, none⟩ b).setCell ⟨p, 2, none⟩ c).cell? ⟨g, k, none⟩ = w.cell? ⟨g, k, none⟩ := fun k => by
    rw [World.cell?_setCell_other _ _ _ _ (by intro e; injection e with e; exact hgp e.symm), World.cell?_setCell_other _ _ _ _ (by intro e; injection e with e; exact hgp e.symm), World.cell?_setCell_other _ _ _ _ (by intro e; injection e with e; exact hgp e.symm)]
  exact ⟨g, off, e, by simpa using hlt, (keep _).trans h1, (keep _).trans h2⟩
theorem stab9 {zs : Array Value} {bv : Value} {T S : ByteArray} {l : List (ByteArray × ByteArray)} {w0 w : World} {B : Nat} {L : Nat → Bool} {t : Nat → Value} {v : Value} {ty : TypeId} (i : Nat) (hi : (i == 9 || i == 10 || i == 11 || i == 13 || i == 14) = false) {w' : World} (hb : Below w.heap.size w w') (hG : Regb.PB ty zs (TyQ T S l) bv w0 B 9 L t w) : Regb.PB ty zs (TyQ T S l) bv w0 B 9 (did L i) (upd t i v) w' := by
  simp only [Bool.or_eq_false_iff, beq_eq_false_iff_ne] at hi
  obtain ⟨⟨⟨⟨h0, h1⟩, h2⟩, h4⟩, h5⟩ := hi
  exact Regb.stab (tyq_stays T S l) i (Ne.symm h0) (Ne.symm h1) (Ne.symm h2) (Ne.symm h4) (Ne.symm h5) hb hG
theorem names_ne {s : List UInt8} {o : Option MT} (h : mime s = o) : ∀ q ∈ psS (o.getD mt0).ps, q.1.data.toList ≠ [] := by
  cases o with
  | none => simp [psS, mt0]
  | some m =>
    have hr := mime_right h
    unfold rightL at hr
    simp only [Bool.and_eq_true] at hr
    intro q hq
    obtain ⟨r, hrm, rfl⟩ := List.mem_map.1 hq
    obtain ⟨k, (hk : k < m.ps.length), rfl⟩ := List.getElem_of_mem (show r ∈ m.ps from hrm)
    have ho := right_at hr.2.2 k hk
    unfold okAt at ho
    rw [List.getElem?_eq_getElem hk] at ho
    simp only [Bool.and_eq_true] at ho
    exact tok_ne (sml_tok ho.1).1
def upc (c : UInt8) : UInt8 := if 97 ≤ c.toNat ∧ c.toNat ≤ 122 then c - 32 else c
def upTo (l : List UInt8) (k : Nat) : List UInt8 := (l.take k).map upc ++ l.drop k
theorem length_upTo (l : List UInt8) (k : Nat) : (upTo l k).length = l.length := by simp [upTo]; omega
theorem upTo_get (l : List UInt8) (k : Nat) (h : k < l.length) : (upTo l k)[k]'(by rw [length_upTo]; exact h) = l[k] := by
  simp only [upTo]
  rw [List.getElem_append_right (by simp; omega)]
  simp [Nat.min_eq_left (Nat.le_of_lt h)]
theorem upTo_succ (l : List UInt8) (k : Nat) (h : k < l.length) : upTo l (k + 1) = (upTo l k).set k (upc l[k]) := by
  have hk : ((l.take k).map upc).length = k := by simp; omega
  simp only [upTo]
  rw [List.take_succ_eq_append_getElem h, List.map_append, List.drop_eq_getElem_cons h, List.set_append_right (h := by rw [hk]; exact Nat.le_refl _), hk, Nat.sub_self]
  simp only [List.set_cons_zero, List.map_cons, List.map_nil, List.append_assoc, List.cons_append, List.nil_append]
theorem upTo_zero (l : List UInt8) : upTo l 0 = l := by simp [upTo]
theorem upTo_all (l : List UInt8) : upTo l l.length = l.map upc := by simp [upTo]
theorem low_upc (c : UInt8) : low (upc c) = low c := MimQ.byteAll (p := fun c => low (upc c) = low c) (by decide +kernel) c
theorem lower_up (l : List UInt8) : lower (l.map upc) = lower l := by
  unfold lower
  rw [List.map_map]
  exact List.map_congr_left fun c _ => low_upc c
theorem upc_yes (c : UInt8) (h1 : 97 ≤ (c.toNat : Int)) (h2 : (c.toNat : Int) ≤ 122) : ((upc c).toNat : Int) = (c.toNat : Int) - 32 := by
  have H := MimQ.byteAll (p := fun c => 97 ≤ c.toNat → c.toNat ≤ 122 → (upc c).toNat = c.toNat - 32) (by decide +kernel) c (by omega) (by omega)
  omega
theorem upc_no (c : UInt8) (h : ¬ (97 ≤ (c.toNat : Int) ∧ (c.toNat : Int) ≤ 122)) : upc c = c := by
  unfold upc
  rw [if_neg (by omega)]
theorem byteRow_below {w w' : World} {g : Nat} {t : TypeId} {L : List UInt8} (h : ByteRow w g t L) (hb : Below w.heap.size w w') : ByteRow w' g t L := by
  obtain ⟨C, m, hh, r⟩ := h
  exact ⟨C, m, (hb.block g (Array.getElem?_eq_some_iff.1 hh).1).trans hh, r⟩
/-- A row of bytes of the call's own. -/
def brow (n B : Nat) (L : List UInt8) : Keep := ⟨fun u w => ∃ g c, u = .slice (some ⟨g, 0, none⟩) n c ∧ n ≤ c ∧ c ≤ maxLen ∧ B ≤ g ∧ ByteRow w g 5 L, fun _ _ _ hb ⟨g, c, h1, h2, h3, h4, h5⟩ => ⟨g, c, h1, h2, h3, h4, byteRow_below h5 hb⟩⟩
theorem int_wrap_ {e : Int} (h0 : -9223372036854775808 ≤ e) (h1 : e ≤ 9223372036854775807) : Value.int .i64 (IntKind.i64.wrap e) = .int .i64 e := by
  rw [IntKind.wrap_i64]
  congr 1
  omega
theorem row_lt {w : World} {g : Nat} {t : TypeId} {L : List UInt8} (h : ByteRow w g t L) : g < w.heap.size := by
  obtain ⟨C, m, hh, _⟩ := h
  exact (Array.getElem?_eq_some_iff.1 hh).1
def RowB (g : Nat) (L : List UInt8) (w : World) : Prop := ByteRow w g 5 L
theorem RowB.below {w w' : World} {g : Nat} {L : List UInt8} (h : RowB g L w) (hb : Below w.heap.size w w') : RowB g L w' := byteRow_below h hb
theorem row_back {w : World} {g n : Nat} {L : List UInt8} (h : RowB g L w) (hn : L.length = n) (cap : Nat) : (convert 38 9 (.slice (some ⟨g, 0, none⟩) n cap)).run Tryd.prog w = .ok (.string (strOf L)) w := by
  have hback := run_convert_bytes_back (P := Tryd.prog) w 38 9 5 ⟨g, 0, none⟩ cap L Tryd.underlying38 Tryd.underlying5 Tryd.underlying9 (fun j hj => by
    have := ByteRow.cell h j hj
    rw [add_at]; exact this)
  rw [hn] at hback
  exact hback
theorem other_type {w : World} {k k' : Nat} {C C' : Array Value} {T T' : TypeId} {m m' : Nat × Nat} (h : w.heap[k]? = some (.cells C T m)) (h' : w.heap[k']? = some (.cells C' T' m')) (ht : T ≠ T') : k ≠ k' := by
  rintro rfl
  have := h.symm.trans h'
  simp at this
  exact ht this.2.1
/-- A byte that is stored into a row of bytes leaves types and boxes as they are. -/
theorem row_apart {w : World} {g j x : Nat} {L : List UInt8} {T S : ByteArray} {A : Option Addr} {n cap : Nat} {l : List (ByteArray × ByteArray)} {p q r : Value} (h : ByteRow w g 5 L) (hj : j < L.length) (hx : B3 25 w x p q r) (ht : TyB T S A n cap l w) (v : Value) : B3 25 (w.setCell ⟨g, j, none⟩ v) x p q r ∧ TyB T S A n cap l (w.setCell ⟨g, j, none⟩ v) := by
  have hcell := h.cell j hj
  obtain ⟨C, m, hh, hm, hC, hc⟩ := h
  have hne : x ≠ g := other_type hx hh (by decide)
  refine ⟨(heap_setCell_other w ⟨g, j, none⟩ x v hne).trans hx, ⟨ht.1.1, fun i hi => ?_⟩, ht.2⟩
  obtain ⟨b, off, e, hlt, h1, h2⟩ := ht.1.2 i hi
  refine ⟨b, off, e, by simpa using hlt, ?_, ?_⟩
  · rw [World.cell?_setCell_other]
    · exact h1
    · intro e
      rw [e] at hcell
      rw [hcell] at h1
      cases h1
  · rw [World.cell?_setCell_other]
    · exact h2
    · intro e
      rw [e] at hcell
      rw [hcell] at h2
      cases h2
set_option linter.unusedSimpArgs false in
set_option maxRecDepth 100000 in
set_option maxHeartbeats 8000000 in
theorem MimeTwice_any (T S : ByteArray) (A : Option Addr) (n cap : Nat) (l : List (ByteArray × ByteArray)) (s : ByteArray) (z : Int) (w : World) (hT : T.size ≤ 140737488351232) (hS : S.size ≤ 140737488351232) (hr : Prm w A n l) (hc : n ≤ cap) (hm : cap ≤ maxLen) (hsh : Short l) (hs : s.size ≤ 140737488351232) (hz : 0 ≤ z ∧ z ≤ 255) : Calls Tryd.prog 8 #[.agg #[.string T, .string S, .slice A n cap], .string s, .int .u8 z] w fun e w' => e = .returned (.bool true) ∧ Below w.heap.size w w' := by
  obtain ⟨hz0, hz1⟩ := hz
  obtain ⟨a, rfl⟩ : ∃ a : Nat, z = (a : Int) := ⟨z.toNat, by omega⟩
  have HF0 := hid (few_tb (A := A) (n := n) (cap := cap) hT hS hsh)
  have HTY0 : Hid (TyB T S A n cap l w) := ⟨hr, hc, hm⟩
  have HLN := hid hr.1
  have HNC := hid hc
  have HPM0 := hid hr
  clear hT hS hsh hr hc hm
  go_enter Tryd.func8, Tryd.ntmps8
  go_upto_region 1 with (fail)
  generalize hwa : World.alloc _ _ = v0
  have hb : Below w.heap.size w v0 := by rw [← hwa]; exact (Below.refl _ _).alloc (Nat.le_refl _) _
  have hxa : B3 25 v0 (w.heap.size) (.string T) (.string S) (.slice A n cap) := by rw [← hwa]; exact heap_alloc_new _ _
  have HX := hid hxa
  clear hwa hxa
  have HB1 := hid hb
  have HTY_1 := hid (HTY0.out.below hb)
  have HPM_1 := hid (HPM0.out.below hb)
  clear hb
  go_wp2_with fail
  refine (awake_any _).mono ?_
  rintro e w2 ⟨rfl, hb⟩
  have HB2 := hid (bel HB1.out hb)
  have HTY_2 := hid (HTY_1.out.below hb)
  have HPM_2 := hid (HPM_1.out.below hb)
  have HX_2 := hid (HX.out.below hb)
  clear hb
  obtain ⟨c0, c1, c2⟩ := HX_2.out.facts
  go_wp2_with fail
  clear c0 c1 c2
  refine (HF0.out _ HTY_2.out).mono ?_
  rintro e w3 ⟨fb, rfl, hfb, hb⟩
  have HB3 := hid (bel HB2.out hb)
  have HTY_3 := hid (HTY_2.out.below hb)
  have HPM_3 := hid (HPM_2.out.below hb)
  have HX_3 := hid (HX_2.out.below hb)
  clear hb
  cases fb with
  | false =>
    clear hfb
    go_wp2_with fail
    refine (awake_any _).mono ?_
    rintro e w4 ⟨rfl, hb⟩
    have HB4 := hid (bel HB3.out hb)
    have HTY_4 := hid (HTY_3.out.below hb)
    have HPM_4 := hid (HPM_3.out.below hb)
    have HX_4 := hid (HX_3.out.below hb)
    clear hb
    go_wp2
    go_ret
    exact ⟨rfl, HB4.out⟩
  | true =>
    have hF := hfb rfl
    clear hfb
    obtain ⟨R, hR⟩ : ∃ R, R = rightL T.data.toList S.data.toList (PSL l) := ⟨_, rfl⟩
    have HRR := hid (fun w h => refRight_tb hF w (h : TyB T S A n cap l w))
    rw [← hR] at HRR
    obtain ⟨c0, c1, c2⟩ := HX_3.out.facts
    go_wp2_with fail
    clear c0 c1 c2
    refine (HRR.out _ HTY_3.out).mono ?_
    rintro e w4 ⟨rfl, hb⟩
    have HB4 := hid (bel HB3.out hb)
    have HTY_4 := hid (HTY_3.out.below hb)
    have HPM_4 := hid (HPM_3.out.below hb)
    have HX_4 := hid (HX_3.out.below hb)
    clear hb
    cases R with
    | false =>
      clear hR hF
      go_wp2_with fail
      refine (awake_any _).mono ?_
      rintro e w5 ⟨rfl, hb⟩
      have HB5 := hid (bel HB4.out hb)
      have HTY_5 := hid (HTY_4.out.below hb)
      have HPM_5 := hid (HPM_4.out.below hb)
      have HX_5 := hid (HX_4.out.below hb)
      clear hb
      go_wp2
      go_ret
      exact ⟨rfl, HB5.out⟩
    | true =>
      by_cases hn0 : n = 0
      · subst hn0
        clear hR hF
        obtain ⟨c0, c1, c2⟩ := HX_4.out.facts
        go_wp2_with fail
        clear c0 c1 c2
        refine (awake_any _).mono ?_
        rintro e wz ⟨rfl, hb⟩
        have HB5 := hid (bel HB4.out hb)
        have HTY_5 := hid (HTY_4.out.below hb)
        have HPM_5 := hid (HPM_4.out.below hb)
        have HX_5 := hid (HX_4.out.below hb)
        clear hb
        go_wp2
        go_ret
        exact ⟨rfl, HB5.out⟩
      · have hn0i : ((n : Int) == 0) = false := by rw [beq_eq_false_iff_ne]; omega
        by_cases h100 : s.size ≤ 100
        · have h1i : ¬ (100 : Int) < (s.size : Int) := by omega
          obtain ⟨k, hk⟩ : ∃ k, k = a % n := ⟨_, rfl⟩
          have hkn : k < n := by rw [hk]; exact Nat.mod_lt _ (by omega)
          have hka2 : (a : Int) % (n : Int) = (k : Int) := by rw [hk]; omega
          have hka : (a : Int).tmod (n : Int) = (k : Int) := by rw [Int.tmod_eq_emod_of_nonneg (by omega)]; exact hka2
          have hkI : (k : Int) < (n : Int) := by omega
          clear hk
          have hkl : k < l.length := by rw [HLN.out]; exact hkn
          obtain ⟨b, off, rfl, hb1, hb2, hb3⟩ := HPM_4.out.2 k hkl
          clear hb1 hb2 hb3
          have HR2 := hid (fun (w' : World) (h : Below w4.heap.size w4 w') => (HPM_4.out.below h).2 k hkl)
          obtain ⟨s1, hs1⟩ : ∃ s, s = l[k].1 := ⟨_, rfl⟩
          obtain ⟨s2, hs2⟩ : ∃ s, s = l[k].2 := ⟨_, rfl⟩
          rw [← hs1, ← hs2] at HR2
          clear hs2
          have hs1z : s1.size ≤ 200 := by have := hF.2.2 l[k] (List.getElem_mem hkl); rw [← hs1] at this; omega
          have hsm : lower s1.data.toList = s1.data.toList := by
            have ho := right_at (ps := PSL l) (by have := hR.symm; unfold rightL at this; simp only [Bool.and_eq_true] at this; exact this.2.2) k (by rw [PSL_len]; exact hkl)
            rw [okAt_PSL l k hkl, ← hs1] at ho
            simp only [Bool.and_eq_true] at ho
            exact (sml_tok ho.1).2
          obtain ⟨UN, hUN⟩ : ∃ U : ByteArray, U = strOf (s1.data.toList.map upc) := ⟨_, rfl⟩
          obtain ⟨X, hX⟩ : ∃ X : ByteArray, X = strOf (printM T.data.toList S.data.toList (PSL l)) := ⟨_, rfl⟩
          have hXs : X.size ≤ 20000 := by rw [hX, size_strOf]; exact print_size hF
          have HPR := hid (fun w (h : TyB T S (some ⟨b, off, none⟩) n cap l w) => print_any T S _ n cap l w h.1 h.2.1 h.2.2 hF)
          rw [← hX] at HPR
          obtain ⟨X1, hX1⟩ : ∃ Y, Y = X.data.toList ++ [59] := ⟨_, rfl⟩
          obtain ⟨X2, hX2⟩ : ∃ Y, Y = X1 ++ UN.data.toList := ⟨_, rfl⟩
          obtain ⟨X3, hX3⟩ : ∃ Y, Y = X2 ++ [61] := ⟨_, rfl⟩
          obtain ⟨X4, hX4⟩ : ∃ Y, Y = X3 ++ s.data.toList := ⟨_, rfl⟩
          have hUz : UN.size ≤ 200 := by rw [hUN, size_strOf, List.length_map, dl]; exact hs1z
          have l1 : X1.length ≤ 20001 := by rw [hX1, List.length_append, dl]; simp; omega
          have l2 : X2.length ≤ 20201 := by rw [hX2, List.length_append, dl]; omega
          have l3 : X3.length ≤ 20202 := by rw [hX3, List.length_append]; simp; omega
          have l4 : X4.length ≤ 20302 := by rw [hX4, List.length_append, dl]; omega
          have HA1 : Hid (∀ w : World, (Op.stringOp .add X ⟨#[59]⟩).run Tryd.prog w = .ok (.string (strOf X1)) w) := fun w => by rw [hX1]; exact str_add' _ ⟨#[59]⟩ w (by show _ + 1 ≤ _; omega)
          have HA2 : Hid (∀ w : World, (Op.stringOp .add (strOf X1) UN).run Tryd.prog w = .ok (.string (strOf X2)) w) := fun w => by rw [hX2]; exact str_add' _ UN w (by rw [size_strOf]; omega)
          have HA3 : Hid (∀ w : World, (Op.stringOp .add (strOf X2) ⟨#[61]⟩).run Tryd.prog w = .ok (.string (strOf X3)) w) := fun w => by rw [hX3]; exact str_add' _ ⟨#[61]⟩ w (by rw [size_strOf]; show _ + 1 ≤ _; omega)
          have HA4 : Hid (∀ w : World, (Op.stringOp .add (strOf X3) s).run Tryd.prog w = .ok (.string (strOf X4)) w) := fun w => by rw [hX4]; exact str_add' _ s w (by rw [size_strOf]; omega)
          have HPA : Hid ((∀ x ∈ s.data.toList, x ≠ 59 ∧ x ≠ 34) → ∀ w, Calls Tryd.prog 10 #[.string (strOf X4)] w (PrsA w T S l true)) := by
            intro hno w
            refine (MimD.parse_any (strOf X4) w (by rw [size_strOf]; omega)).mono fun e w' hp => ?_
            have hm := mime_twice hR.symm (n := UN.data.toList) (s := s.data.toList) k (by rw [PSL_len]; exact hkl) (by
              rw [hUN]
              show lower (s1.data.toList.map upc) = _
              rw [lower_up, hsm, hs1]
              simp [PSL]) hno
            have e4 : (strOf X4).data.toList = printM T.data.toList S.data.toList (PSL l) ++ 59 :: (UN.data.toList ++ 61 :: s.data.toList) := by
              show X4 = _
              rw [hX4, hX3, hX2, hX1, hX]
              show (printM _ _ _ ++ [59] ++ _ ++ [61] ++ _ : List UInt8) = _
              simp
            have := prs_of (e4 ▸ hm) hp
            simp only [Option.getD_some, Option.isSome_some, strOf_toList, psS_PSL] at this
            exact this
          have HNE : Hid (∀ q ∈ l, q.1.data.toList ≠ []) := by
            intro q hq
            have := names_ne (mime_print hR.symm)
            simp only [Option.getD_some, psS_PSL] at this
            exact this q hq
          have HSA := hid (fun (A A2 : Option Addr) (n c n2 c2 : Nat) (w : World) (h1 : Prm w A n l) (g1 : Prm w A2 n2 l) (h2 : n ≤ c) (h3 : c ≤ maxLen) (g2 : n2 ≤ c2) (g3 : c2 ≤ maxLen) => same_any T S A n c l T S A2 n2 c2 l w h1 g1 h2 h3 g2 g3)
          rw [same_self] at HSA
          have HUN : Hid (strOf (s1.data.toList.map upc) = UN) := hUN.symm
          clear hs1 hsm hUN hX hXs hX1 hX2 hX3 hX4 hUz l1 l2 l3 l4 hF hR hkl h100
          obtain ⟨c0, c1, c2⟩ := HX_4.out.facts
          go_upto_region 3 with (fail)
          clear c0 c1 c2
          refine wp_region_rel (by kernel_rfl) [is (.pointer (some ⟨w.heap.size, 2, none⟩)), is (.slice (some ⟨b, off, none⟩) n cap), is (.int .u8 (a : Int)), is (.int .i64 (a : Int)), is (.pointer (some ⟨w.heap.size, 2, none⟩)), is (.slice (some ⟨b, off, none⟩) n cap), is (.int .i64 (n : Int)), is (.int .i64 (k : Int)), is (.pointer (some ⟨b, off + k * 2, none⟩)), is (.pointer (some ⟨b, off + k * 2, none⟩)), is (.string s1), brow s1.size w.heap.size s1.data.toList, brow s1.size w.heap.size s1.data.toList] [[], [0], [], [2], [], [4], [5], [3, 6], [1, 7], [8], [9], [10], [11]] (by kernel_rfl) ?_ ?_
          · refine ⟨?_, ?_, ?_, ?_, ?_, ?_, ?_, ?_, ?_, ?_, ?_, ?_, ?_, trivial⟩
            · intro t wq hbq hh K hK
              clear hh
              simp only [filled, upd, Have, is, any, row, pick, Act.put, List.setIfInBounds_toArray, List.set_cons_zero, List.set_cons_succ, Nat.reduceAdd, Nat.reduceEqDiff, reduceIte] at hK ⊢
              go_simp
              exact hK _ _ (Below.refl _ _) rfl
            · intro t wq hbq hh K hK
              have e0 := hh.1
              simp only [pick] at e0
              replace e0 : t 0 = (.pointer (some ⟨w.heap.size, 2, none⟩)) := e0
              clear hh
              simp only [filled, upd, Have, is, any, row, pick, Act.put, List.setIfInBounds_toArray, List.set_cons_zero, List.set_cons_succ, Nat.reduceAdd, Nat.reduceEqDiff, reduceIte] at hK ⊢
              simp only [e0] at hK ⊢
              obtain ⟨c0, c1, c2⟩ := (HX_4.out.below hbq).facts
              go_simp
              exact hK _ _ (Below.refl _ _) rfl
            · intro t wq hbq hh K hK
              clear hh
              simp only [filled, upd, Have, is, any, row, pick, Act.put, List.setIfInBounds_toArray, List.set_cons_zero, List.set_cons_succ, Nat.reduceAdd, Nat.reduceEqDiff, reduceIte] at hK ⊢
              go_simp
              exact hK _ _ (Below.refl _ _) rfl
            · intro t wq hbq hh K hK
              have e2 := hh.1
              simp only [pick] at e2
              replace e2 : t 2 = (.int .u8 (a : Int)) := e2
              clear hh
              simp only [filled, upd, Have, is, any, row, pick, Act.put, List.setIfInBounds_toArray, List.set_cons_zero, List.set_cons_succ, Nat.reduceAdd, Nat.reduceEqDiff, reduceIte] at hK ⊢
              simp only [e2] at hK ⊢
              go_simp
              first | exact hK _ _ (Below.refl _ _) rfl | exact hK _ _ (Below.refl _ _) (int_wrap_ (by omega) (by omega))
            · intro t wq hbq hh K hK
              clear hh
              simp only [filled, upd, Have, is, any, row, pick, Act.put, List.setIfInBounds_toArray, List.set_cons_zero, List.set_cons_succ, Nat.reduceAdd, Nat.reduceEqDiff, reduceIte] at hK ⊢
              go_simp
              exact hK _ _ (Below.refl _ _) rfl
            · intro t wq hbq hh K hK
              have e4 := hh.1
              simp only [pick] at e4
              replace e4 : t 4 = (.pointer (some ⟨w.heap.size, 2, none⟩)) := e4
              clear hh
              simp only [filled, upd, Have, is, any, row, pick, Act.put, List.setIfInBounds_toArray, List.set_cons_zero, List.set_cons_succ, Nat.reduceAdd, Nat.reduceEqDiff, reduceIte] at hK ⊢
              simp only [e4] at hK ⊢
              obtain ⟨c0, c1, c2⟩ := (HX_4.out.below hbq).facts
              go_simp
              exact hK _ _ (Below.refl _ _) rfl
            · intro t wq hbq hh K hK
              have e5 := hh.1
              simp only [pick] at e5
              replace e5 : t 5 = (.slice (some ⟨b, off, none⟩) n cap) := e5
              clear hh
              simp only [filled, upd, Have, is, any, row, pick, Act.put, List.setIfInBounds_toArray, List.set_cons_zero, List.set_cons_succ, Nat.reduceAdd, Nat.reduceEqDiff, reduceIte] at hK ⊢
              simp only [e5] at hK ⊢
              go_simp
              exact hK _ _ (Below.refl _ _) rfl
            · intro t wq hbq hh K hK
              have e3 := hh.1
              simp only [pick] at e3
              replace e3 : t 3 = (.int .i64 (a : Int)) := e3
              have e6 := hh.2.1
              simp only [pick] at e6
              replace e6 : t 6 = (.int .i64 (n : Int)) := e6
              clear hh
              simp only [filled, upd, Have, is, any, row, pick, Act.put, List.setIfInBounds_toArray, List.set_cons_zero, List.set_cons_succ, Nat.reduceAdd, Nat.reduceEqDiff, reduceIte] at hK ⊢
              simp only [e3, e6] at hK ⊢
              go_simp
              first | exact hK _ _ (Below.refl _ _) rfl | exact hK _ _ (Below.refl _ _) (int_wrap (by omega) (by omega))
            · intro t wq hbq hh K hK
              have e1 := hh.1
              simp only [pick] at e1
              replace e1 : t 1 = (.slice (some ⟨b, off, none⟩) n cap) := e1
              have e7 := hh.2.1
              simp only [pick] at e7
              replace e7 : t 7 = (.int .i64 (k : Int)) := e7
              clear hh
              simp only [filled, upd, Have, is, any, row, pick, Act.put, List.setIfInBounds_toArray, List.set_cons_zero, List.set_cons_succ, Nat.reduceAdd, Nat.reduceEqDiff, reduceIte] at hK ⊢
              simp only [e1, e7] at hK ⊢
              go_simp
              exact hK _ _ (Below.refl _ _) rfl
            · intro t wq hbq hh K hK
              have e8 := hh.1
              simp only [pick] at e8
              replace e8 : t 8 = (.pointer (some ⟨b, off + k * 2, none⟩)) := e8
              clear hh
              simp only [filled, upd, Have, is, any, row, pick, Act.put, List.setIfInBounds_toArray, List.set_cons_zero, List.set_cons_succ, Nat.reduceAdd, Nat.reduceEqDiff, reduceIte] at hK ⊢
              simp only [e8] at hK ⊢
              go_simp
              exact hK _ _ (Below.refl _ _) rfl
            · intro t wq hbq hh K hK
              have e9 := hh.1
              simp only [pick] at e9
              replace e9 : t 9 = (.pointer (some ⟨b, off + k * 2, none⟩)) := e9
              clear hh
              simp only [filled, upd, Have, is, any, row, pick, Act.put, List.setIfInBounds_toArray, List.set_cons_zero, List.set_cons_succ, Nat.reduceAdd, Nat.reduceEqDiff, reduceIte] at hK ⊢
              simp only [e9] at hK ⊢
              obtain ⟨b', off', he, _, h1, h2⟩ := HR2.out _ hbq
              injection he with he
              injection he with he1 he2
              subst he1 he2
              go_simp
              exact hK _ _ (Below.refl _ _) rfl
            · intro t wq hbq hh K hK
              have e10 := hh.1
              simp only [pick] at e10
              replace e10 : t 10 = (.string s1) := e10
              clear hh
              simp only [filled, upd, Have, is, any, row, pick, Act.put, List.setIfInBounds_toArray, List.set_cons_zero, List.set_cons_succ, Nat.reduceAdd, Nat.reduceEqDiff, reduceIte] at hK ⊢
              simp only [e10] at hK ⊢
              have hcv := run_bytes_of_string (P := Tryd.prog) wq 9 38 5 s1 Tryd.underlying9 Tryd.underlying38 Tryd.underlying5
              go_simp
              exact hK _ _ (((Below.refl _ _).alloc (Nat.le_refl _) _).drew) ⟨_, _, rfl, grownCap_ge _ _ _ _, grownCap_le_maxLen _ _ _ _ (by unfold maxLen; omega), Nat.le_trans HB4.out.size hbq.size, ByteRow.made wq s1 5 _ (grownCap_ge _ _ _ _)⟩
            · intro t wq hbq hh K hK
              have e11 := hh.1
              simp only [pick] at e11
              clear hh
              simp only [filled, upd, Have, is, any, row, pick, Act.put, List.setIfInBounds_toArray, List.set_cons_zero, List.set_cons_succ, Nat.reduceAdd, Nat.reduceEqDiff, reduceIte] at hK ⊢
              obtain ⟨g11, c11, e11, hc11, hm11, hg11, hr11⟩ := e11
              simp only [e11] at hK ⊢
              go_simp
              exact hK _ _ (Below.refl _ _) ⟨_, _, rfl, hc11, hm11, hg11, hr11⟩
          · intro t wq hbq hh
            have f12 := have_get hh 12 (by decide)
            simp only [pick] at f12
            clear hh
            simp only [filled, upd, Have, is, any, row, pick, Act.put, List.setIfInBounds_toArray, List.set_cons_zero, List.set_cons_succ, Nat.reduceAdd, Nat.reduceEqDiff, reduceIte]
            obtain ⟨g12, c12, f12, hc12, hm12, hg12, hr12⟩ := f12
            simp only [f12]
            have HB5 := hid (bel HB4.out hbq)
            have HTY_5 := hid (HTY_4.out.below hbq)
            have HPM_5 := hid (HPM_4.out.below hbq)
            have HX_5 := hid (HX_4.out.below hbq)
            clear hbq
            have HG12 := hid hg12
            have HRW := hid hr12
            have hc12' := hc12
            clear hg12 hr12 hc12'
            go_upto_region 5 with (fail)
            go_loopw [8, 50] (fun _ vk wr => ∃ j : Nat, j ≤ s1.size ∧ vk = .int .i64 (j : Int) ∧ Hid (ByteRow wr g12 5 (upTo s1.data.toList j)) ∧ Hid (Below w.heap.size w wr) ∧ Hid (g12 < wr.heap.size) ∧ Hid (B3 25 wr w.heap.size (.string T) (.string S) (.slice (some ⟨b, off, none⟩) n cap)) ∧ Hid (TyB T S (some ⟨b, off, none⟩) n cap l wr)) (fun _ vk _ => s1.size - (intOf vk).toNat)
            case atStart => exact ⟨0, Nat.zero_le _, rfl, by show ByteRow _ _ _ _; rw [upTo_zero]; exact HRW.out, HB5.out, row_lt HRW.out, HX_5.out, HTY_5.out⟩
            case round =>
              obtain ⟨j, hj, rfl, HRJ, HBJ, HGL, HXJ, HTJ⟩ := hrel
              by_cases hlt : j < s1.size
              · have hjl : j < s1.data.toList.length := by rw [dl]; exact hlt
                obtain ⟨c, hcs⟩ : ∃ c : UInt8, c = s1.data.toList[j] := ⟨_, rfl⟩
                have hc : wr.cell? ⟨g12, j, none⟩ = some (.int .u8 (c.toNat : Int)) := by
                  rw [hcs, HRJ.out.cell j (by rw [length_upTo]; exact hjl)]
                  simp only [upTo_get s1.data.toList j hjl]
                have hf := HRJ.out.frozen j (by rw [length_upTo]; exact hjl)
                have HC : Hid (upTo s1.data.toList (j + 1) = (upTo s1.data.toList j).set j (upc c)) := by show _ = _; rw [hcs]; exact upTo_succ _ j hjl
                have HS0 : Hid (upc c = c → (upTo s1.data.toList j).set j (upc c) = upTo s1.data.toList j) := fun h => by rw [h, hcs]; exact UtfL.set_self (by rw [length_upTo]; exact hjl) _ (upTo_get _ _ hjl)
                have HNA : Hid (∀ v : Value, B3 25 (wr.setCell ⟨g12, j, none⟩ v) w.heap.size (.string T) (.string S) (.slice (some ⟨b, off, none⟩) n cap) ∧ TyB T S (some ⟨b, off, none⟩) n cap l (wr.setCell ⟨g12, j, none⟩ v)) := fun v => row_apart HRJ.out (by rw [length_upTo]; exact hjl) HXJ.out HTJ.out v
                clear hcs hjl
                by_cases hA : 97 ≤ (c.toNat : Int) ∧ (c.toNat : Int) ≤ 122
                · obtain ⟨hA1, hA2⟩ := hA
                  go_wp2
                  go_roundw
                  case rel => exact ⟨j + 1, by omega, by go_num, by
                    have := HRJ.out.set j (upc c)
                    rw [upc_yes c hA1 hA2] at this
                    show ByteRow _ _ _ _
                    rw [HC.out]
                    exact this, HBJ.out.setCell HG12.out _, by show _ < _; simpa using HGL.out, (HNA.out _).1, (HNA.out _).2⟩
                  case measure => simp [intOf]; omega
                · have hlow := upc_no c hA
                  have HL := hid hlow
                  clear hlow
                  go_wp2
                  all_goals
                    go_roundw
                    case rel => exact ⟨j + 1, by omega, by go_num, by
                      show ByteRow _ _ _ _
                      rw [HC.out, HS0.out HL.out]
                      exact HRJ.out, HBJ.out, HGL.out, HXJ.out, HTJ.out⟩
                    case measure => simp [intOf]; omega
              · obtain rfl : j = s1.size := by omega
                have HRW2 : Hid (ByteRow wr g12 5 (s1.data.toList.map upc)) := by show ByteRow _ _ _ _; rw [← upTo_all, dl]; exact HRJ.out
                clear HRJ HRW
                go_upto_region 11 with (fail)
                go_loopw [9, 76] (fun _ vk wx => ∃ j : Nat, j ≤ s.size ∧ vk = .int .i64 (j : Int) ∧ wx = wr ∧ Hid (∀ i (h : i < s.data.toList.length), i < j → s.data.toList[i] ≠ 59 ∧ s.data.toList[i] ≠ 34)) (fun _ vk _ => s.size - (intOf vk).toNat)
                case atStart => exact ⟨0, Nat.zero_le _, rfl, rfl, fun i _ h => by omega⟩
                case round =>
                  obtain ⟨j, hj, rfl, rfl, HNO⟩ := hrel
                  by_cases hlt : j < s.size
                  · obtain ⟨x, hx⟩ : ∃ x, s[j] = x := ⟨_, rfl⟩
                    have hxl : s.data.toList[j]'(by rw [dl]; exact hlt) = x := hx
                    by_cases h59 : x = 59
                    · have q1 : ((x.toNat : Int) == 59) = true := by rw [h59]; rfl
                      clear hxl
                      go_wp2
                      go_ret
                      exact ⟨rfl, HBJ.out⟩
                    · have q1 : ((x.toNat : Int) == 59) = false := by rw [beq_eq_false_iff_ne]; intro e; exact h59 (UInt8.toNat_inj.1 (by show _ = 59; omega))
                      by_cases h34 : x = 34
                      · have q2 : ((x.toNat : Int) == 34) = true := by rw [h34]; rfl
                        clear hxl
                        go_wp2
                        go_ret
                        exact ⟨rfl, HBJ.out⟩
                      · have q2 : ((x.toNat : Int) == 34) = false := by rw [beq_eq_false_iff_ne]; intro e; exact h34 (UInt8.toNat_inj.1 (by show _ = 34; omega))
                        have HNO2 : Hid (∀ i (h : i < s.data.toList.length), i < j + 1 → s.data.toList[i] ≠ 59 ∧ s.data.toList[i] ≠ 34) := by
                          intro i h hi
                          by_cases hij : i < j
                          · exact HNO.out i h hij
                          · obtain rfl : i = j := by omega
                            rw [hxl]
                            exact ⟨h59, h34⟩
                        clear hxl h59 h34
                        go_wp2
                        go_roundw
                        case rel => exact ⟨j + 1, by omega, by go_num, by first | rfl | trivial, HNO2.out⟩
                        case measure => simp [intOf]; omega
                  · obtain rfl : j = s.size := by omega
                    have HP9 := hid (HPA.out (fun x hx => by
                      obtain ⟨i, hi, rfl⟩ := List.getElem_of_mem hx
                      exact HNO.out i hi (by rw [← dl]; exact hi)))
                    clear HPA
                    replace HRW2 : Hid (RowB g12 (s1.data.toList.map upc) wr) := HRW2
                    go_upto_region 16 with (fail)
                    refine wp_region_inv (by kernel_rfl) (Regb.PB 25 #[.string ⟨#[]⟩, .string ⟨#[]⟩, .slice none 0 0] (TyQ T S l) (.bool true) wr wr.heap.size 9) [is ((.agg #[.string T, .string S, .slice (some ⟨b, off, none⟩) n cap])), is (.string X), is (.string (strOf X1)), is (.slice (some ⟨g12, 0, none⟩) s1.size c12), is (.string UN), is (.string (strOf X2)), is (.string (strOf X3)), is (.string s), is (.string (strOf X4)), any, any, any, is (.bool true), any, any, is (.bool true)] [[], [0], [1], [], [3], [2, 4], [5], [], [6, 7], [8], [9], [10], [10], [], [11, 13], [12]] (by kernel_rfl) (by repeat (first | exact free_nil | refine free_is _ ?_ | refine free_any ?_)) ?_ ?_ ?_
                    · exact fun t => ⟨⟨rfl, rfl, rfl, Nat.le_refl _, fun _ _ => rfl⟩, Nat.le_refl _, (fun h => by cases h), (fun h => by cases h)⟩
                    · refine ⟨?_, ?_, ?_, ?_, ?_, ?_, ?_, ?_, ?_, ?_, ?_, ?_, ?_, ?_, ?_, ?_, trivial⟩
                      · intro L t wq hG hL hC hN hh K hK
                        clear hh
                        simp only [filled, upd, Have, is, any, row, pick, Act.put, List.setIfInBounds_toArray, List.set_cons_zero, List.set_cons_succ, Nat.reduceAdd, Nat.reduceEqDiff, reduceIte] at hK ⊢
                        obtain ⟨c0, c1, c2⟩ := (HXJ.out.below hG.1).facts
                        go_simp
                        exact hK _ _ rfl (stab9 0 (by decide) (Below.refl _ _) hG)
                      · intro L t wq hG hL hC hN hh K hK
                        have e0 := hh.1
                        simp only [pick] at e0
                        replace e0 : t 0 = ((.agg #[.string T, .string S, .slice (some ⟨b, off, none⟩) n cap])) := e0
                        clear hh
                        simp only [filled, upd, Have, is, any, row, pick, Act.put, List.setIfInBounds_toArray, List.set_cons_zero, List.set_cons_succ, Nat.reduceAdd, Nat.reduceEqDiff, reduceIte] at hK ⊢
                        simp only [e0] at hK ⊢
                        go_simp
                        refine (HPR.out _ (HTJ.out.below hG.1)).mono ?_
                        rintro e w6 ⟨rfl, hb6⟩
                        exact hK _ _ rfl (stab9 1 (by decide) hb6 hG)
                      · intro L t wq hG hL hC hN hh K hK
                        have e1 := hh.1
                        simp only [pick] at e1
                        replace e1 : t 1 = (.string X) := e1
                        clear hh
                        simp only [filled, upd, Have, is, any, row, pick, Act.put, List.setIfInBounds_toArray, List.set_cons_zero, List.set_cons_succ, Nat.reduceAdd, Nat.reduceEqDiff, reduceIte] at hK ⊢
                        simp only [e1] at hK ⊢
                        have hadd := HA1.out wq
                        go_simp
                        exact hK _ _ rfl (stab9 2 (by decide) (Below.refl _ _) hG)
                      · intro L t wq hG hL hC hN hh K hK
                        clear hh
                        simp only [filled, upd, Have, is, any, row, pick, Act.put, List.setIfInBounds_toArray, List.set_cons_zero, List.set_cons_succ, Nat.reduceAdd, Nat.reduceEqDiff, reduceIte] at hK ⊢
                        go_simp
                        exact hK _ _ rfl (stab9 3 (by decide) (Below.refl _ _) hG)
                      · intro L t wq hG hL hC hN hh K hK
                        have e3 := hh.1
                        simp only [pick] at e3
                        replace e3 : t 3 = (.slice (some ⟨g12, 0, none⟩) s1.size c12) := e3
                        clear hh
                        simp only [filled, upd, Have, is, any, row, pick, Act.put, List.setIfInBounds_toArray, List.set_cons_zero, List.set_cons_succ, Nat.reduceAdd, Nat.reduceEqDiff, reduceIte] at hK ⊢
                        simp only [e3] at hK ⊢
                        have hback := row_back (HRW2.out.below hG.1) (by rw [List.length_map, dl]) c12
                        rw [HUN.out] at hback
                        go_simp
                        exact hK _ _ rfl (stab9 4 (by decide) (Below.refl _ _) hG)
                      · intro L t wq hG hL hC hN hh K hK
                        have e2 := hh.1
                        simp only [pick] at e2
                        replace e2 : t 2 = (.string (strOf X1)) := e2
                        have e4 := hh.2.1
                        simp only [pick] at e4
                        replace e4 : t 4 = (.string UN) := e4
                        clear hh
                        simp only [filled, upd, Have, is, any, row, pick, Act.put, List.setIfInBounds_toArray, List.set_cons_zero, List.set_cons_succ, Nat.reduceAdd, Nat.reduceEqDiff, reduceIte] at hK ⊢
                        simp only [e2, e4] at hK ⊢
                        have hadd := HA2.out wq
                        go_simp
                        exact hK _ _ rfl (stab9 5 (by decide) (Below.refl _ _) hG)
                      · intro L t wq hG hL hC hN hh K hK
                        have e5 := hh.1
                        simp only [pick] at e5
                        replace e5 : t 5 = (.string (strOf X2)) := e5
                        clear hh
                        simp only [filled, upd, Have, is, any, row, pick, Act.put, List.setIfInBounds_toArray, List.set_cons_zero, List.set_cons_succ, Nat.reduceAdd, Nat.reduceEqDiff, reduceIte] at hK ⊢
                        simp only [e5] at hK ⊢
                        have hadd := HA3.out wq
                        go_simp
                        exact hK _ _ rfl (stab9 6 (by decide) (Below.refl _ _) hG)
                      · intro L t wq hG hL hC hN hh K hK
                        clear hh
                        simp only [filled, upd, Have, is, any, row, pick, Act.put, List.setIfInBounds_toArray, List.set_cons_zero, List.set_cons_succ, Nat.reduceAdd, Nat.reduceEqDiff, reduceIte] at hK ⊢
                        go_simp
                        exact hK _ _ rfl (stab9 7 (by decide) (Below.refl _ _) hG)
                      · intro L t wq hG hL hC hN hh K hK
                        have e6 := hh.1
                        simp only [pick] at e6
                        replace e6 : t 6 = (.string (strOf X3)) := e6
                        have e7 := hh.2.1
                        simp only [pick] at e7
                        replace e7 : t 7 = (.string s) := e7
                        clear hh
                        simp only [filled, upd, Have, is, any, row, pick, Act.put, List.setIfInBounds_toArray, List.set_cons_zero, List.set_cons_succ, Nat.reduceAdd, Nat.reduceEqDiff, reduceIte] at hK ⊢
                        simp only [e6, e7] at hK ⊢
                        have hadd := HA4.out wq
                        go_simp
                        exact hK _ _ rfl (stab9 8 (by decide) (Below.refl _ _) hG)
                      · intro L t wq hG hL hC hN hh K hK
                        have e8 := hh.1
                        simp only [pick] at e8
                        replace e8 : t 8 = (.string (strOf X4)) := e8
                        clear hh
                        simp only [filled, upd, Have, is, any, row, pick, Act.put, List.setIfInBounds_toArray, List.set_cons_zero, List.set_cons_succ, Nat.reduceAdd, Nat.reduceEqDiff, reduceIte] at hK ⊢
                        simp only [e8] at hK ⊢
                        go_simp
                        have z1 : L 10 = false := (by cases h : L 10 with | false => rfl | true => exact absurd (hC 10 h 9 (by decide)) (by rw [hL]; decide))
                        have z2 : L 11 = false := (by cases h : L 11 with | false => rfl | true => exact absurd (hC 11 h 10 (by decide)) (by rw [z1]; decide))
                        have z5 : L 14 = false := (by cases h : L 14 with | false => rfl | true => exact absurd (hC 14 h 11 (by decide)) (by rw [z2]; decide))
                        refine (HP9.out _).mono ?_
                        rintro e w5 ⟨⟨A2, n2, c2, rfl, h1, h2, h3⟩, hb5⟩
                        exact hK _ _ trivial (Regb.call z1 z2 z5 hb5 ⟨A2, n2, c2, rfl, h1, h2, h3⟩ hG)
                      · intro L t wq hG hL hC hN hh K hK
                        clear hh
                        simp only [filled, upd, Have, is, any, row, pick, Act.put, List.setIfInBounds_toArray, List.set_cons_zero, List.set_cons_succ, Nat.reduceAdd, Nat.reduceEqDiff, reduceIte] at hK ⊢
                        go_simp
                        exact hK _ _ trivial (Regb.move (hN 9 (by decide)) hG)
                      · intro L t wq hG hL hC hN hh K hK
                        clear hh
                        simp only [filled, upd, Have, is, any, row, pick, Act.put, List.setIfInBounds_toArray, List.set_cons_zero, List.set_cons_succ, Nat.reduceAdd, Nat.reduceEqDiff, reduceIte] at hK ⊢
                        have l1 : L 10 = true := hN 10 (by decide)
                        have l0 : L 9 = true := hC 10 l1 9 (by decide)
                        obtain ⟨cs, hq, e0, e1, e2⟩ := Regb.get l0 hG
                        have e := e1 l1
                        clear e0 e1 e2
                        simp only [e] at hK ⊢
                        go_simp
                        exact hK _ _ trivial (Regb.part l0 l1 e hG)
                      · intro L t wq hG hL hC hN hh K hK
                        clear hh
                        simp only [filled, upd, Have, is, any, row, pick, Act.put, List.setIfInBounds_toArray, List.set_cons_zero, List.set_cons_succ, Nat.reduceAdd, Nat.reduceEqDiff, reduceIte] at hK ⊢
                        have l1 : L 10 = true := hN 10 (by decide)
                        have l0 : L 9 = true := hC 10 l1 9 (by decide)
                        obtain ⟨cs, hq, e0, e1, e2⟩ := Regb.get l0 hG
                        have e := e1 l1
                        clear e0 e1 e2
                        simp only [e] at hK ⊢
                        go_simp
                        exact hK _ _ rfl (stab9 12 (by decide) (Below.refl _ _) hG)
                      · intro L t wq hG hL hC hN hh K hK
                        clear hh
                        simp only [filled, upd, Have, is, any, row, pick, Act.put, List.setIfInBounds_toArray, List.set_cons_zero, List.set_cons_succ, Nat.reduceAdd, Nat.reduceEqDiff, reduceIte] at hK ⊢
                        go_simp
                        exact hK _ _ trivial (Regb.alloc (tyq_stays _ _ _) (by cases h : L 14 with | false => rfl | true => exact absurd (hC 14 h 13 (by decide)) (by rw [hL]; decide)) hG)
                      · intro L t wq hG hL hC hN hh K hK
                        clear hh
                        simp only [filled, upd, Have, is, any, row, pick, Act.put, List.setIfInBounds_toArray, List.set_cons_zero, List.set_cons_succ, Nat.reduceAdd, Nat.reduceEqDiff, reduceIte] at hK ⊢
                        have l4 : L 13 = true := hN 13 (by decide)
                        have l2 : L 11 = true := hN 11 (by decide)
                        have l1 : L 10 = true := hC 11 l2 10 (by decide)
                        have l0 : L 9 = true := hC 10 l1 9 (by decide)
                        obtain ⟨cs, ⟨A2, n2, c2, rfl, h1, h2, h3⟩, e0, e1, e2⟩ := Regb.get l0 hG
                        have e := e2 l2
                        clear e0 e1 e2
                        obtain ⟨p, hp, hp1, hp2, hp3⟩ := hG.2.2.2 l4
                        simp only [e, hp] at hK ⊢
                        have hz := hp3 hL
                        have f0 := frozen_of_row wq p 0 _ _ hz
                        have f1 := frozen_of_row wq p 1 _ _ hz
                        have f2 := frozen_of_row wq p 2 _ _ hz
                        have g0 := (cell_of_row wq p 0 _ _ _ hz).trans rfl
                        have g1 := (cell_of_row wq p 1 _ _ _ hz).trans rfl
                        have g2 := (cell_of_row wq p 2 _ _ _ hz).trans rfl
                        go_simp
                        exact hK undef _ trivial (Regb.store l0 l2 l4 e hp (((hG.1.setCell hp1 _).setCell hp1 _).setCell hp1 _) (by simp) ⟨A2, n2, c2, rfl, h1, h2, prm_store HNE.out h3 hz _ _ _⟩ (b3_store hz _ _ _) hG)
                      · intro L t wq hG hL hC hN hh K hK
                        have e12 := hh.1
                        simp only [pick] at e12
                        replace e12 : t 12 = (.bool true) := e12
                        clear hh
                        simp only [filled, upd, Have, is, any, row, pick, Act.put, List.setIfInBounds_toArray, List.set_cons_zero, List.set_cons_succ, Nat.reduceAdd, Nat.reduceEqDiff, reduceIte] at hK ⊢
                        simp only [e12] at hK ⊢
                        go_simp
                        exact hK _ _ rfl (stab9 15 (by decide) (Below.refl _ _) hG)
                    · intro Lz t wq hG hall hh
                      have f12 := have_get hh 12 (by decide)
                      simp only [pick] at f12
                      replace f12 : t 12 = (.bool true) := f12
                      have f15 := have_get hh 15 (by decide)
                      simp only [pick] at f15
                      replace f15 : t 15 = (.bool true) := f15
                      clear hh
                      simp only [filled, upd, Have, is, any, row, pick, Act.put, List.setIfInBounds_toArray, List.set_cons_zero, List.set_cons_succ, Nat.reduceAdd, Nat.reduceEqDiff, reduceIte]
                      simp only [f12, f15]
                      obtain ⟨cs, p, ⟨A2, n2, c2, rfl, h1, h2, h3⟩, hp, hx2⟩ := Regb.last (hall 9 (by decide)) (hall 13 (by decide)) (hall 14 (by decide)) hG
                      simp only [hp]
                      have hb := hG.1
                      clear hG hall
                      have HB6 := hid (bel HBJ.out hb)
                      have HX_6 := hid (HXJ.out.below hb)
                      have HTY_6 := hid (HTJ.out.below hb)
                      have HRW_6 := hid (HRW2.out.below hb)
                      clear hb
                      have HN2 := hid h1
                      have HC2 := hid h2
                      have HP2 := hid (h3)
                      have HX2 : Hid (B3 25 wq p (.string T) (.string S) (.slice A2 n2 c2)) := hx2
                      clear h1 h2 h3 hx2
                      have HT2 : Hid (TyB T S A2 n2 c2 l wq) := ⟨HP2.out, HN2.out, HC2.out⟩
                      obtain ⟨c0, c1, c2⟩ := HX_6.out.facts
                      obtain ⟨d0, d1, d2⟩ := HX2.out.facts
                      go_wp2_with fail
                      clear c0 c1 c2 d0 d1 d2
                      refine (HSA.out _ _ _ _ _ _ _ HT2.out.1 HTY_6.out.1 HT2.out.2.1 HT2.out.2.2 HTY_6.out.2.1 HTY_6.out.2.2).mono ?_
                      rintro e w7 ⟨rfl, hb⟩
                      have HB7 := hid (bel HB6.out hb)
                      have HX_7 := hid (HX_6.out.below hb)
                      have HTY_7 := hid (HTY_6.out.below hb)
                      have HRW_7 := hid (HRW_6.out.below hb)
                      have HP2_7 := hid (HP2.out.below hb)
                      have HX2_7 := hid (HX2.out.below hb)
                      clear hb
                      go_wp2
                      go_ret
                      exact ⟨rfl, HB7.out⟩
        · have h1i : (100 : Int) < (s.size : Int) := by omega
          clear hR hF h100
          obtain ⟨c0, c1, c2⟩ := HX_4.out.facts
          go_wp2_with fail
          clear c0 c1 c2
          refine (awake_any _).mono ?_
          rintro e wz ⟨rfl, hb⟩
          have HB5 := hid (bel HB4.out hb)
          have HTY_5 := hid (HTY_4.out.below hb)
          have HPM_5 := hid (HPM_4.out.below hb)
          have HX_5 := hid (HX_4.out.below hb)
          clear hb
          go_wp2
          go_ret
          exact ⟨rfl, HB5.out⟩
end Go.Proofs.YtlbgcibdpeaomaaDoor.Laws
