/- Types: all parameters. -/
import Derived.Test.YtlbgcibdpeaomaaDoorMimB
import Derived.Test.YtlbgcibdpeaomaaDoorBase4
import Derived.Maps.Own
import Derived.Maps.Views
namespace Go.Proofs.YtlbgcibdpeaomaaDoor.MimC
open Go Go.RowKit Go.Maps Go.Proofs.YtlbgcibdpeaomaaDoor.Base Go.Proofs.YtlbgcibdpeaomaaDoor.Base2 Go.Proofs.YtlbgcibdpeaomaaDoor.Base4 Go.Proofs.YtlbgcibdpeaomaaDoor.UtfL Go.Proofs.YtlbgcibdpeaomaaDoor.TokP Go.Proofs.YtlbgcibdpeaomaaDoor.MimP Go.Proofs.YtlbgcibdpeaomaaDoor.MimA Go.Proofs.YtlbgcibdpeaomaaDoor.MimB

/-- The call's own map: which names were told. -/
def Says (w : World) (b n : Nat) (names : List (List UInt8)) : Prop := ∃ D : DataW Unit, w.ownsMap Tryd.prog 9 (plainElem Tryd.prog 3) b n D ∧ IsMap D ∧ ∀ name : List UInt8, D.atKey (.string name) (.lit (.int .i64 0)) = .lit (.int .i64 (if name ∈ names then 1 else 0))
theorem law : Keyed Tryd.prog 9 := string_keyed Tryd.underlying9
theorem zeroE (w : World) : (zeroValue 3).run Tryd.prog w = .ok (.int .i64 0) w := by kernel_rfl
theorem Says.made (w : World) : Says (w.alloc (.map #[] 0)) w.heap.size 0 [] := ⟨.map [], World.ownsMap_made _ _ _ _, ⟨[], rfl⟩, fun _ => rfl⟩
theorem Says.lt {w : World} {b n : Nat} {l : List (List UInt8)} (h : Says w b n l) : b < w.heap.size := by obtain ⟨D, h, _⟩ := h; exact h.lt
theorem Says.kept {w w' : World} {b n : Nat} {l : List (List UInt8)} {row : Option Nat} (h : Says w b n l) (hg : w.grownBy w' row) (hne : some b ≠ row) : Says w' b n l := by
  obtain ⟨D, h1, h2, h3⟩ := h
  exact ⟨D, h1.kept hg hne, h2, h3⟩
theorem Says.below {w w' : World} {b n : Nat} {l : List (List UInt8)} (h : Says w b n l) (hb : Below w.heap.size w w') : Says w' b n l := by
  have hlt := h.lt
  obtain ⟨D, h1, h2, h3⟩ := h
  obtain ⟨es, clock, hb1, F, hs, hD⟩ := h1
  exact ⟨D, ⟨es, clock, (hb.block b hlt).trans hb1, F, hs, hD⟩, h2, h3⟩
theorem Says.set {w : World} {b n g i : Nat} {l : List (List UInt8)} {u : Value} (h : Says w b n l) (hne : b ≠ g) : Says (w.setCell ⟨g, i, none⟩ u) b n l := by
  obtain ⟨D, h1, h2, h3⟩ := h
  obtain ⟨es, clock, hb1, F, hs, hD⟩ := h1
  exact ⟨D, ⟨es, clock, (heap_setCell_other w ⟨g, i, none⟩ b u hne).trans hb1, F, hs, hD⟩, h2, h3⟩
theorem Says.look {w : World} {b n : Nat} {l : List (List UInt8)} (h : Says w b n l) (s : ByteArray) (hs : s.size ≤ maxLen) : (Instr.lookup 51 (.map (some b)) (.string s) false).run Tryd.prog w = .ok (.int .i64 (if s.data.toList ∈ l then 1 else 0)) w := by
  obtain ⟨D, h1, h2, h3⟩ := h
  obtain ⟨c, hrun, hat, _⟩ := h1.lookup_int law Tryd.underlying51 Tryd.underlying3 (zeroE w) (WideMaps.keyOf_string_mk Tryd.underlying9 hs)
  rw [h3] at hat
  injection hat with hat
  injection hat with _ hat
  rw [hrun, hat]
theorem Says.put {w : World} {b n : Nat} {l : List (List UInt8)} (h : Says w b n l) (s : ByteArray) (hs : s.size ≤ maxLen) (hn : n < maxLen) :
    ∃ w', (Instr.mapUpdate 51 (.map (some b)) (.string s) (.int .i64 1)).run Tryd.prog w = .ok () w' ∧ Says w' b (n + 1) (s.data.toList :: l) ∧ w.grownBy w' (some b) := by
  obtain ⟨D, h1, h2, h3⟩ := h
  obtain ⟨w', hrun, hown, hg⟩ := h1.update law Tryd.underlying51 hn (WideMaps.keyOf_string_mk Tryd.underlying9 hs) (plainElem_int Tryd.underlying3 (show (Lit.int .i64 1).wf = true by decide))
  refine ⟨w', hrun, ⟨_, hown, IsMap.put h2 _ _, fun name => ?_⟩, hg⟩
  by_cases he : name = s.data.toList
  · rw [he, atKey_put_same h2 (by trivial), if_pos (by simp)]
  · rw [atKey_put_other (fun e => he (by injection e)), h3]
    congr 2
    by_cases hm : name ∈ l
    · rw [if_pos hm, if_pos (by simp [hm])]
    · rw [if_neg hm, if_neg (by simp [hm, he])]
def pcells (l : List (List UInt8 × List UInt8)) : List Value := l.flatMap fun p => [.string (strOf p.1), .string (strOf p.2)]
theorem pcells_snoc (l : List (List UInt8 × List UInt8)) (p : List UInt8 × List UInt8) : pcells (l ++ [p]) = pcells l ++ [.string (strOf p.1), .string (strOf p.2)] := by simp [pcells]
theorem two_one (a b : ByteArray) : ∀ u ∈ [Value.string a, Value.string b], u.oneCell' = true := by
  intro u hu
  simp at hu
  rcases hu with rfl | rfl <;> rfl
theorem info_param : (Tryd.prog.info? 40).map (fun i => (i.zero, i.size, i.bytes)) = some (some (.agg #[.string ByteArray.empty, .string ByteArray.empty]), 2, 32) := by kernel_rfl
theorem hasN_mem (n : List UInt8) (acc : List (List UInt8 × List UInt8)) (names : List (List UInt8)) (h : ∀ x, x ∈ names ↔ x ∈ acc.map (·.1)) : hasN n acc = decide (n ∈ names) := by
  unfold hasN
  rw [Bool.eq_iff_iff, List.any_eq_true, decide_eq_true_iff, h, List.mem_map]
  constructor
  · rintro ⟨p, hp, he⟩
    exact ⟨p, hp, by simpa using he⟩
  · rintro ⟨p, hp, he⟩
    exact ⟨p, hp, by simpa using he⟩
def ssize : Value → Nat
  | .string s => s.size
  | _ => 0
theorem own_no_map {w : World} {B b n m : Nat} {v : Value} {xs : List Value} {l : List (List UInt8)} {e : TypeId} {size : Nat} (ho : w.ownsRow B e size v n xs) (h : Says w b m l) : v.ownBlock ≠ some b := by
  obtain ⟨D, ⟨es, clock, hb, _⟩, _⟩ := h
  rcases ho.2 with ⟨rfl, _⟩ | ⟨g', cap, cur, rfl, _, hh, _⟩
  · simp [Value.ownBlock]
  · intro he
    have : g' = b := by simpa [Value.ownBlock] using he
    subst this
    rw [hh] at hb
    cases hb
theorem two_no_map {w : World} {b m g : Nat} {x y : Value} {l : List (List UInt8)} {T : TypeId} (ho : B2 T w g x y) (h : Says w b m l) : b ≠ g := by
  obtain ⟨D, ⟨es, clock, hb, _⟩, _⟩ := h
  rintro rfl
  unfold B2 at ho
  rw [ho] at hb
  cases hb
theorem pm_name_len {t : List UInt8} {p : List UInt8 × List UInt8} (h : (pm t).1 = some p) : p.1.length ≤ t.length := by
  unfold pm at h
  split at h
  · cases h
  · split at h
    · cases h
    · have h' : (if ((vl _).2.1 && isTok (tw [59, 61] (tl t)) && pm.quotableL (vl _).1) = true then some (lower (tw [59, 61] (tl t)), (vl _).1) else none) = some p := h
      split at h'
      · injection h' with h'
        subst h'
        have h1 := tw_len [59, 61] (tl t)
        have h2 := tl_len t
        simp [lower]
        omega
      · cases h'
theorem own_set {w : World} {B g i n size : Nat} {e : TypeId} {v x : Value} {xs : List Value} (ho : w.ownsRow B e size v n xs) (hne : v.ownBlock ≠ some g) : (w.setCell ⟨g, i, none⟩ x).ownsRow B e size v n xs := by
  refine ⟨ho.1, ?_⟩
  rcases ho.2 with hn | ⟨g', cap, cur, rfl, hb, hh, rest⟩
  · exact .inl hn
  · refine .inr ⟨g', cap, cur, rfl, hb, ?_, rest⟩
    exact (heap_setCell_other w ⟨g, i, none⟩ g' x (fun e => hne (by rw [e]; rfl))).trans hh
/-- All parameters of a text. -/
def OwnP (w : World) (l : List (List UInt8 × List UInt8)) (e : Ending) (w' : World) : Prop := ∃ v, e = .returned v ∧ w'.ownsRow w.heap.size 40 2 v l.length (pcells l) ∧ Below w.heap.size w w'
set_option linter.unusedSimpArgs false in
set_option maxRecDepth 100000 in
set_option maxHeartbeats 8000000 in
theorem parameters_any (s : ByteArray) (w : World) (hs : s.size ≤ 1048576) : Calls Tryd.prog 27 #[.string s] w (OwnP w (prms s.data.toList [])) := by
  obtain ⟨i0, hi, hz0, hz1, hz2⟩ := info_parts info_param
  have hmm := @run_makeMap Tryd.prog
  have HS := hid hs
  clear hs
  go_enter Tryd.func27, Tryd.ntmps27
  go_wp2_with fail
  clear hmm
  go_loopw [0, 3, 5, 6] (fun v0 v3 _ _ wr => ∃ (R : ByteArray) (acc : List (List UInt8 × List UInt8)) (names : List (List UInt8)) (k : Nat), v0 = .string R ∧ Hid (wr.ownsRow w.heap.size 40 2 v3 acc.length (pcells acc)) ∧ Hid (Says wr w.heap.size k names) ∧ Hid (∀ x, x ∈ names ↔ x ∈ acc.map (·.1)) ∧ Hid (Below w.heap.size w wr) ∧ Hid (prms R.data.toList acc = prms s.data.toList []) ∧ acc.length + R.size ≤ s.size ∧ k + R.size ≤ s.size) (fun v0 _ _ _ _ => ssize v0)
  case atStart => exact ⟨s, [], [], 0, rfl, World.ownsRow_nil _ _ _ _, Says.made _, by show ∀ x, _; simp, (Below.refl _ _).alloc (Nat.le_refl _) _, rfl, by simp, by omega⟩
  case round =>
    obtain ⟨R, acc, names, k, rfl, HO, HM, HN, HB, HW, hal, hkl⟩ := hrel
    have hrl : R.data.toList.length = R.size := Array.length_toList
    cases hr : R.data.toList with
    | nil =>
      have hq1 := str_eq_nil hr
      have hq2 : (R.toList == []) = true := by rw [hq1]; rfl
      have HE : Hid (acc = prms s.data.toList []) := by show _ = _; rw [← HW.out, hr, prms_nil]
      clear hr hq1 hrl
      go_wp2
      go_ret
      exact ⟨_, rfl, by rw [← HE.out]; exact HO.out, HB.out⟩
    | cons c t =>
      have hq1 : (R.toList == []) = false := by rw [Lib.toList_data, hr]; rfl
      have hq2 : R.toList.isEmpty = false := by rw [Lib.toList_data, hr]; rfl
      have hq3 : ¬ R.toList = [] := by rw [Lib.toList_data, hr]; simp
      have hR1 : R.size = t.length + 1 := by rw [← hrl, hr]; rfl
      have h1i : (1 : Int) ≤ (R.size : Int) := by omega
      obtain ⟨Y, hY⟩ : ∃ Y, Y = R.extract 1 R.size := ⟨_, rfl⟩
      have hYd : Y.data.toList = t := by rw [hY, ext_drop, hr]; rfl
      have hss : s.size ≤ 1048576 := HS.out
      have hYs : Y.size ≤ 1073741824 := by rw [hY, ByteArray.size_extract]; omega
      have hpl := pm_len t
      have hWn : prms (pm t).2 (addp acc (pm t).1) = prms s.data.toList [] := by rw [← HW.out, hr, prms_cons]
      have hpa := fun w => parameter_any Y w hYs
      rw [hYd] at hpa
      have HPA := hid hpa
      obtain ⟨Z, hZ⟩ : ∃ Z : ByteArray, Z = strOf (pm t).2 := ⟨_, rfl⟩
      have hZd : Z.data.toList = (pm t).2 := by rw [hZ]; rfl
      have hZs : Z.size = (pm t).2.length := by rw [hZ, size_strOf]
      have hZR : Z.size < R.size := by omega
      have HZ := hid hZ
      rw [← hZd] at hWn
      have HY := hid hY
      have HWN := hid hWn
      have HIN : Hid (∀ p, (pm t).1 = some p → p.1.length ≤ t.length) := by
        show ∀ p, _
        intro p hp
        exact pm_name_len hp
      have HR1 := hid hR1
      clear hr hrl hR1 hY hYd hYs hpl hWn hpa hZ hZd hZs HW
      cases hp : (pm t).1 with
      | none =>
        have HSOME : Hid ((pm t).1.isSome = false) := by show _ = _; rw [hp]; rfl
        have HWN2 : Hid (prms Z.data.toList acc = prms s.data.toList []) := by show _ = _; rw [← HWN.out, hp]; rfl
        clear hp
        go_wp2_with fail
        rw [← HY.out]
        generalize hwa : wr.alloc _ = wa
        have HXa : Hid (B2 40 wa wr.heap.size (.string ⟨#[]⟩) (.string ⟨#[]⟩)) := by show B2 _ _ _ _ _; rw [← hwa]; exact heap_alloc_new _ _
        have HBa : Hid (Below w.heap.size w wa) := by show Below _ _ _; rw [← hwa]; exact HB.out.alloc HB.out.size _
        have HOa : Hid (wa.ownsRow w.heap.size 40 2 u3 acc.length (pcells acc)) := by show World.ownsRow _ _ _ _ _ _ _; rw [← hwa]; exact HO.out.alloc _
        have HMa : Hid (Says wa w.heap.size k names) := by show Says _ _ _ _; rw [← hwa]; exact HM.out.kept (World.grownBy_alloc _ _ none) (by simp)
        have HOL : Hid (u3.ownBlock ≠ some wr.heap.size) := by
          show _ ≠ _
          intro e
          have := (HO.out.lt _ e).2
          omega
        have HNE : Hid (w.heap.size ≠ wr.heap.size) := by show _ ≠ _; have := HM.out.lt; omega
        have hgw : w.heap.size ≤ wr.heap.size := HB.out.size
        have HGW := hid hgw
        clear hwa HB HO HM hgw
        refine (HPA.out _).mono ?_
        rintro e w2 ⟨⟨a, b, rfl, hab⟩, hb2⟩
        rw [← HZ.out, HSOME.out]
        have HAB := hid hab
        have HX2 := hid (HXa.out.below hb2)
        have HB2 := hid (bel HBa.out hb2)
        have HO2 := hid (owns_below HOa.out hb2)
        have HM2 := hid (HMa.out.below hb2)
        clear hb2 hab HXa HBa HOa HMa
        obtain ⟨f0, f1⟩ := HX2.out.thaw
        obtain ⟨k0, k1⟩ := HX2.out.facts
        go_upto_region 7 with (fail)
        clear f0 f1 k0 k1
        generalize hw3 : (w2.setCell _ _).setCell _ _ = w3
        have HX3 : Hid (B2 40 w3 wr.heap.size (.string a) (.string b)) := by show B2 _ _ _ _ _; rw [← hw3]; exact HX2.out.put _ _
        have HB3 : Hid (Below w.heap.size w w3) := by show Below _ _ _; rw [← hw3]; exact (HB2.out.setCell HGW.out _).setCell HGW.out _
        have HO3 : Hid (w3.ownsRow w.heap.size 40 2 u3 acc.length (pcells acc)) := by show World.ownsRow _ _ _ _ _ _ _; rw [← hw3]; exact own_set (own_set HO2.out HOL.out) HOL.out
        have HM3 : Hid (Says w3 w.heap.size k names) := by show Says _ _ _ _; rw [← hw3]; exact (HM2.out.set HNE.out).set HNE.out
        clear hw3 HX2 HB2 HO2 HM2
        go_wp2
        go_roundw
        case rel => exact ⟨Z, acc, names, k, rfl, HO3.out, HM3.out, HN.out, HB3.out, HWN2.out, by omega, by omega⟩
        case measure => simp [ssize]; omega
      | some p =>
        have HSOME : Hid ((pm t).1.isSome = true) := by show _ = _; rw [hp]; rfl
        have hpl := HIN.out p hp
        have hr1 : t.length < R.size := by have := HR1.out; omega
        have HP := hid hp
        by_cases hm : p.1 ∈ names
        · have HWN2 : Hid (prms Z.data.toList acc = prms s.data.toList []) := by
            show _ = _
            rw [← HWN.out, hp]
            unfold addp
            simp only []
            rw [hasN_mem _ _ _ HN.out, if_pos (by rw [decide_eq_true_iff]; exact hm)]
          have HMM := hid hm
          clear hp hm
          go_wp2_with fail
          rw [← HY.out]
          generalize hwa : wr.alloc _ = wa
          have HXa : Hid (B2 40 wa wr.heap.size (.string ⟨#[]⟩) (.string ⟨#[]⟩)) := by show B2 _ _ _ _ _; rw [← hwa]; exact heap_alloc_new _ _
          have HBa : Hid (Below w.heap.size w wa) := by show Below _ _ _; rw [← hwa]; exact HB.out.alloc HB.out.size _
          have HOa : Hid (wa.ownsRow w.heap.size 40 2 u3 acc.length (pcells acc)) := by show World.ownsRow _ _ _ _ _ _ _; rw [← hwa]; exact HO.out.alloc _
          have HMa : Hid (Says wa w.heap.size k names) := by show Says _ _ _ _; rw [← hwa]; exact HM.out.kept (World.grownBy_alloc _ _ none) (by simp)
          have HOL : Hid (u3.ownBlock ≠ some wr.heap.size) := by
            show _ ≠ _
            intro e
            have := (HO.out.lt _ e).2
            omega
          have HNE : Hid (w.heap.size ≠ wr.heap.size) := by show _ ≠ _; have := HM.out.lt; omega
          have hgw : w.heap.size ≤ wr.heap.size := HB.out.size
          have HGW := hid hgw
          clear hwa HB HO HM hgw
          refine (HPA.out _).mono ?_
          rintro e w2 ⟨⟨a, b, rfl, hab⟩, hb2⟩
          rw [← HZ.out, HSOME.out]
          have HAB := hid hab
          have HX2 := hid (HXa.out.below hb2)
          have HB2 := hid (bel HBa.out hb2)
          have HO2 := hid (owns_below HOa.out hb2)
          have HM2 := hid (HMa.out.below hb2)
          clear hb2 hab HXa HBa HOa HMa
          obtain ⟨f0, f1⟩ := HX2.out.thaw
          obtain ⟨k0, k1⟩ := HX2.out.facts
          go_upto_region 7 with (fail)
          clear f0 f1 k0 k1
          generalize hw3 : (w2.setCell _ _).setCell _ _ = w3
          have HX3 : Hid (B2 40 w3 wr.heap.size (.string a) (.string b)) := by show B2 _ _ _ _ _; rw [← hw3]; exact HX2.out.put _ _
          have HB3 : Hid (Below w.heap.size w w3) := by show Below _ _ _; rw [← hw3]; exact (HB2.out.setCell HGW.out _).setCell HGW.out _
          have HO3 : Hid (w3.ownsRow w.heap.size 40 2 u3 acc.length (pcells acc)) := by show World.ownsRow _ _ _ _ _ _ _; rw [← hw3]; exact own_set (own_set HO2.out HOL.out) HOL.out
          have HM3 : Hid (Says w3 w.heap.size k names) := by show Says _ _ _ _; rw [← hw3]; exact (HM2.out.set HNE.out).set HNE.out
          clear hw3 HX2 HB2 HO2 HM2
          obtain ⟨ha, hb⟩ := HAB.out p HP.out
          have hlk := HM3.out.look a (by rw [ha, size_strOf]; unfold maxLen; omega)
          rw [show a.data.toList = p.1 by rw [ha]; rfl, if_pos HMM.out] at hlk
          clear ha hb
          obtain ⟨k0, k1⟩ := HX3.out.facts
          go_wp2
          go_roundw
          case rel => exact ⟨Z, acc, names, k, rfl, HO3.out, HM3.out, HN.out, HB3.out, HWN2.out, by omega, by omega⟩
          case measure => simp [ssize]; omega
        · have HWN2 : Hid (prms Z.data.toList (acc ++ [p]) = prms s.data.toList []) := by
            show _ = _
            rw [← HWN.out, hp]
            unfold addp
            simp only []
            rw [hasN_mem _ _ _ HN.out, if_neg (by rw [decide_eq_true_iff]; exact hm)]
          have HMM := hid hm
          clear hp hm
          go_wp2_with fail
          rw [← HY.out]
          generalize hwa : wr.alloc _ = wa
          have HXa : Hid (B2 40 wa wr.heap.size (.string ⟨#[]⟩) (.string ⟨#[]⟩)) := by show B2 _ _ _ _ _; rw [← hwa]; exact heap_alloc_new _ _
          have HBa : Hid (Below w.heap.size w wa) := by show Below _ _ _; rw [← hwa]; exact HB.out.alloc HB.out.size _
          have HOa : Hid (wa.ownsRow w.heap.size 40 2 u3 acc.length (pcells acc)) := by show World.ownsRow _ _ _ _ _ _ _; rw [← hwa]; exact HO.out.alloc _
          have HMa : Hid (Says wa w.heap.size k names) := by show Says _ _ _ _; rw [← hwa]; exact HM.out.kept (World.grownBy_alloc _ _ none) (by simp)
          have HOL : Hid (u3.ownBlock ≠ some wr.heap.size) := by
            show _ ≠ _
            intro e
            have := (HO.out.lt _ e).2
            omega
          have HNE : Hid (w.heap.size ≠ wr.heap.size) := by show _ ≠ _; have := HM.out.lt; omega
          have hgw : w.heap.size ≤ wr.heap.size := HB.out.size
          have HGW := hid hgw
          clear hwa HB HO HM hgw
          refine (HPA.out _).mono ?_
          rintro e w2 ⟨⟨a, b, rfl, hab⟩, hb2⟩
          rw [← HZ.out, HSOME.out]
          have HAB := hid hab
          have HX2 := hid (HXa.out.below hb2)
          have HB2 := hid (bel HBa.out hb2)
          have HO2 := hid (owns_below HOa.out hb2)
          have HM2 := hid (HMa.out.below hb2)
          clear hb2 hab HXa HBa HOa HMa
          obtain ⟨f0, f1⟩ := HX2.out.thaw
          obtain ⟨k0, k1⟩ := HX2.out.facts
          go_upto_region 7 with (fail)
          clear f0 f1 k0 k1
          generalize hw3 : (w2.setCell _ _).setCell _ _ = w3
          have HX3 : Hid (B2 40 w3 wr.heap.size (.string a) (.string b)) := by show B2 _ _ _ _ _; rw [← hw3]; exact HX2.out.put _ _
          have HB3 : Hid (Below w.heap.size w w3) := by show Below _ _ _; rw [← hw3]; exact (HB2.out.setCell HGW.out _).setCell HGW.out _
          have HO3 : Hid (w3.ownsRow w.heap.size 40 2 u3 acc.length (pcells acc)) := by show World.ownsRow _ _ _ _ _ _ _; rw [← hw3]; exact own_set (own_set HO2.out HOL.out) HOL.out
          have HM3 : Hid (Says w3 w.heap.size k names) := by show Says _ _ _ _; rw [← hw3]; exact (HM2.out.set HNE.out).set HNE.out
          clear hw3 HX2 HB2 HO2 HM2
          obtain ⟨ha, hb⟩ := HAB.out p HP.out
          have hamax : a.size ≤ maxLen := by rw [ha, size_strOf]; unfold maxLen; omega
          have hlk := HM3.out.look a hamax
          rw [show a.data.toList = p.1 by rw [ha]; rfl, if_neg HMM.out] at hlk
          obtain ⟨w4, hput, hS4, hg4⟩ := HM3.out.put a hamax (by unfold maxLen; omega)
          rw [show a.data.toList = p.1 by rw [ha]; rfl] at hS4
          have HS4 := hid hS4
          have HX4 : Hid (B2 40 w4 wr.heap.size (.string a) (.string b)) := (hg4.block _ HX3.out.lt (by intro e; injection e with e; exact HNE.out e.symm)).trans HX3.out
          have HB4 : Hid (Below w.heap.size w w4) := HB3.out.grown hg4 HB3.out.size (fun g hg => by injection hg with hg; omega)
          have HO4 : Hid (w4.ownsRow w.heap.size 40 2 u3 acc.length (pcells acc)) := HO3.out.kept hg4 (.inr (own_no_map HO3.out HM3.out))
          have HAE : Hid (a = strOf p.1 ∧ b = strOf p.2) := ⟨ha, hb⟩
          clear ha hb hS4 hg4 hamax
          obtain ⟨k0, k1⟩ := HX3.out.facts
          obtain ⟨l0, l1⟩ := HX4.out.facts
          go_wp2_with (at_builtin; refine wpList_appN 2 rfl _ _ 23 rfl w.heap.size 40 i0 _ 32 Tryd.underlying23 hi hz0 hz1 hz2 rfl (by decide) u3 acc.length (pcells acc) rfl HO4.out HB4.out HB4.out.size [.string a, .string b] 1 rfl rfl (two_one a b) (by unfold maxLen; omega) (by omega) ?_)
          intro v' w5 hown5 hbel5 hgr5
          have HM5 : Hid (Says w5 w.heap.size (k + 1) (p.1 :: names)) := (HS4.out.kept (World.grownBy_alloc _ _ none) (by simp)).kept hgr5 (fun e => own_no_map HO4.out HS4.out e.symm)
          go_wp2
          go_roundw
          case rel => exact ⟨Z, acc ++ [p], p.1 :: names, k + 1, rfl, by
              show World.ownsRow _ _ _ _ _ _ _
              rw [pcells_snoc, List.length_append, ← HAE.out.1, ← HAE.out.2]
              exact hown5, HM5.out, by
              show ∀ x, _
              intro x
              have := HN.out x
              simp only [List.mem_cons, List.map_append, List.mem_append, this]
              simp
              exact Or.comm, hbel5, HWN2.out, by simp; omega, by omega⟩
          case measure => simp [ssize]; omega
end Go.Proofs.YtlbgcibdpeaomaaDoor.MimC
