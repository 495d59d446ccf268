/- IPv6 addresses: six.quad, six.pieces, six.side. -/
import Derived.Test.YtnmkkejodkjjiaaDoorSixA
import Derived.Test.YtnmkkejodkjjiaaDoorSpl
import Derived.Laws.Rows
import Derived.BigQuiet
namespace Go.Proofs.YtnmkkejodkjjiaaDoor.SixB
open Go.RowKit Go.Proofs.YtnmkkejodkjjiaaDoor.Base Go.Proofs.YtnmkkejodkjjiaaDoor.Base2 Go.Proofs.YtnmkkejodkjjiaaDoor.Base3 Go.Proofs.YtnmkkejodkjjiaaDoor.UtfA Go.Proofs.YtnmkkejodkjjiaaDoor.QudP Go.Proofs.YtnmkkejodkjjiaaDoor.SixP Go.Proofs.YtnmkkejodkjjiaaDoor.SixQ Go.Proofs.YtnmkkejodkjjiaaDoor.SixA Go.Proofs.YtnmkkejodkjjiaaDoor.Spl

theorem drop_at {α : Type} (R : List α) (k : Nat) (p : α) (hk : k < R.length) (h : R[k] = p) : R.drop k = p :: R.drop (k + 1) := by rw [← h]; exact List.drop_eq_getElem_cons hk
/-- Numbers as cells. -/
def ncells (L : List Nat) : List Value := L.map fun (n : Nat) => Value.int .u16 (n : Int)
theorem length_ncells (L : List Nat) : (ncells L).length = L.length := by simp [ncells]
theorem ncells_app (a b : List Nat) : ncells (a ++ b) = ncells a ++ ncells b := by simp [ncells]
theorem ncells_one (L : List Nat) : ∀ u ∈ ncells L, u.oneCell' = true := by
  intro u hu
  simp only [ncells, List.mem_map] at hu
  obtain ⟨c, _, rfl⟩ := hu
  rfl
/-- A box of numbers. -/
def Box (w : World) (g : Nat) (t : TypeId) (L : List Nat) : Prop := w.heap[g]? = some (.cells (ncells L).toArray t (0, 0))
theorem Box.cell {w : World} {g : Nat} {t : TypeId} {L : List Nat} (h : Box w g t L) (j : Nat) (hj : j < L.length) : w.cell? ⟨g, j, none⟩ = some (.int .u16 (L[j] : Int)) := by
  refine (cell_of_row w g j _ _ _ h).trans ?_
  simp [ncells, hj]
theorem Box.frozen {w : World} {g : Nat} {t : TypeId} {L : List Nat} (h : Box w g t L) (j : Nat) : w.frozen? ⟨g, j, none⟩ = false := by
  unfold World.frozen?
  rw [h]
  simp
theorem Box.set {w : World} {g : Nat} {t : TypeId} {L : List Nat} (h : Box w g t L) (j n : Nat) : Box (w.setCell ⟨g, j, none⟩ (.int .u16 (n : Int))) g t (L.set j n) := by
  have := heap_setCell_same w g j _ _ (.int .u16 (n : Int)) h
  unfold Box
  rw [this]
  simp [ncells, List.map_set]
theorem Box.below {w w' : World} {g : Nat} {t : TypeId} {L : List Nat} (h : Box w g t L) (hb : Below w.heap.size w w') : Box w' g t L := (hb.block _ (Array.getElem?_eq_some_iff.1 h).1).trans h
theorem Box.lt {w : World} {g : Nat} {t : TypeId} {L : List Nat} (h : Box w g t L) : g < w.heap.size := (Array.getElem?_eq_some_iff.1 h).1
theorem smalls_cons (p : List UInt8) (r : List (List UInt8)) (v : Nat) (h : small p = some v) : smalls (p :: r) = (smalls r).map (v :: ·) := by
  rw [smalls, h]
  cases smalls r <;> rfl
theorem small_le {p : List UInt8} {v : Nat} (h : small p = some v) : v ≤ 255 := by
  unfold small at h
  split at h
  · rename_i h2; injection h with h; omega
  · cases h
theorem map_map_app (xs : List Nat) (v : Nat) (o : Option (List Nat)) : (o.map (v :: ·)).map (xs ++ ·) = o.map ((xs ++ [v]) ++ ·) := by
  cases o <;> simp
theorem take_set_snoc (L : List Nat) (k v : Nat) (h : k < L.length) : (L.set k v).take (k + 1) = L.take k ++ [v] := by
  rw [List.take_succ_eq_append_getElem (by simpa using h)]
  simp [List.take_set_of_le]
theorem or_byte (a b : Nat) (ha : a ≤ 255) (hb : b ≤ 255) : bits .or .u16 ((a : Int) * 256) (b : Int) = ((a * 256 + b : Nat) : Int) := by
  rw [show ((a : Int) * 256) = ((a * 256 : Nat) : Int) by omega, u16_or_nat _ _ (by omega) (by omega)]
  have := Nat.shiftLeft_add_eq_or_of_lt (i := 8) (b := b) (by omega) a
  rw [Nat.shiftLeft_eq] at this
  rw [← this]
def QV (o : Option (List Nat)) : Value := match o with
  | some [a, b] => .tuple #[.int .u16 (a : Int), .int .u16 (b : Int), .bool true]
  | _ => .tuple #[.int .u16 0, .int .u16 0, .bool false]
theorem qv_none {o : Option (List Nat)} (h : o = none) : QV o = .tuple #[.int .u16 0, .int .u16 0, .bool false] := by rw [h]; rfl
theorem qv_some {o : Option (List Nat)} {a b : Nat} (h : o = some [a, b]) : QV o = .tuple #[.int .u16 (a : Int), .int .u16 (b : Int), .bool true] := by rw [h]; rfl
theorem smalls_len : ∀ {ps : List (List UInt8)} {l : List Nat}, smalls ps = some l → l.length = ps.length
  | [], l, h => by injection h with h; subst h; rfl
  | p :: r, l, h => by
    rw [smalls] at h
    split at h
    · rename_i n x h1 h2
      injection h with h
      subst h
      simp [smalls_len h2]
    · cases h
theorem quad_not4 {t : List UInt8} (h : (splt t).length ≠ 4) : quad t = none := by
  unfold quad
  cases e : smalls (splt t) with
  | none => rfl
  | some l => exact two_none (by rw [smalls_len e]; exact h)
set_option maxRecDepth 100000 in
set_option maxHeartbeats 4000000 in
theorem quad_any (s : ByteArray) (w : World) (hs : s.size ≤ 1073741824) (hM : Max w) : Calls Tryd.prog 45 #[.string s] w fun e w' => e = .returned (QV (quad s.data.toList)) ∧ Below w.heap.size w w' := by
  have hsl : s.data.toList.length = s.size := Array.length_toList
  obtain ⟨S, hS⟩ : ∃ S, S = quad s.data.toList := ⟨_, rfl⟩
  obtain ⟨R, hR⟩ : ∃ R, R = splt s.data.toList := ⟨_, rfl⟩
  have HPART : Hid (∀ p ∈ R, p.length ≤ 1073741824) := by
    intro p hp
    rw [hR] at hp
    have := splt_part _ p hp
    omega
  have HR := hid hR
  have HS := hid hS
  have HMX := hid hM
  rw [← hS]
  clear hS hR hM hsl
  go_enter Tryd.func45, Tryd.ntmps45
  go_wp2_with fail
  refine (split46_any s _ hs HMX.out).mono ?_
  rintro e w3 ⟨A, n, c, rfl, hn, hnc, hcm, hrd, hb⟩
  rw [← HR.out] at hn hrd
  have HN := hid hn
  have HRD := hid hrd
  have HB := hid hb
  unfold maxLen at hcm
  clear hn hrd hb
  by_cases h4 : n = 4
  · subst h4
    obtain ⟨g, off, rfl, hg, _⟩ := HRD.out.spot (by omega)
    go_wp2
    generalize hw4 : w3.alloc _ = w4
    have hbel4 : Below w3.heap.size w3 w4 := by rw [← hw4]; exact (Below.refl _ _).alloc (Nat.le_refl _) _
    have HBX : Hid (Box w4 w3.heap.size 86 [0, 0, 0, 0]) := by show Box _ _ _ _; rw [← hw4]; exact heap_alloc_new _ _
    have HW0 : Hid (smalls R = (smalls (R.drop 0)).map (([] : List Nat) ++ ·)) := by show _ = _; rw [List.drop_zero]; cases smalls R <;> simp
    clear hw4
    go_loopw [7, 8, 9, 10, 18] (fun _ _ _ _ vk wr => ∃ (k : Nat) (L : List Nat), k ≤ 4 ∧ vk = .int .i64 (k : Int) ∧ L.length = 4 ∧ Hid (Box wr w3.heap.size 86 L) ∧ Hid (Below w3.heap.size w3 wr) ∧ Hid (smalls R = (smalls (R.drop k)).map (L.take k ++ ·)) ∧ Hid (∀ x ∈ L, x ≤ 255)) (fun _ _ _ _ vk _ => 4 - (intOf vk).toNat)
    case atStart => exact ⟨0, [0, 0, 0, 0], by omega, rfl, rfl, HBX, hbel4, HW0, by intro x hx; simp at hx; omega⟩
    case round =>
      clear HW0 HBX hbel4
      obtain ⟨k, L, hk, rfl, hL, HBX, HBL, HW, HLE⟩ := hrel
      by_cases hlt : k < 4
      · obtain ⟨p, hp⟩ : ∃ p, R[k]'(by rw [← HN.out]; exact hlt) = p := ⟨_, rfl⟩
        obtain ⟨Y, hY⟩ : ∃ Y, Y = strOf p := ⟨_, rfl⟩
        have HYD : Hid (Y.data.toList = p) := by show _ = _; rw [hY]; rfl
        have hcl : wr.cell? ⟨g, off + k, none⟩ = some (.string Y) := by
          obtain ⟨b', o', e1, _, hc'⟩ := (HRD.out.below HBL.out).2 k (by rw [List.length_map, List.length_map, ← HN.out]; exact hlt)
          cases e1
          rw [hc', List.getElem_map, List.getElem_map, hp, hY]
        have HDR : Hid (R.drop k = p :: R.drop (k + 1)) := drop_at R k p (by rw [← HN.out]; exact hlt) hp
        clear hp hY
        cases hsm : small p with
        | none =>
          have HE : Hid (QV S = .tuple #[.int .u16 0, .int .u16 0, .bool false]) := by
            refine qv_none ?_
            rw [HS.out]
            refine quad_smalls ?_
            rw [← HR.out, HW.out, HDR.out, smalls_none hsm]
            rfl
          have HSM := hid hsm
          clear hsm
          go_wp2_with fail
          refine (small_any Y _).mono ?_
          rw [HYD.out, HSM.out]
          rintro e w5 ⟨⟨x, rfl⟩, rfl⟩
          go_wp2
          go_ret3
          exact ⟨by rw [HE.out]; rfl, bel HB.out HBL.out⟩
        | some v =>
          have hv := small_le hsm
          have HSM := hid hsm
          have HW2 : Hid (smalls R = (smalls (R.drop (k + 1))).map ((L.set k v).take (k + 1) ++ ·)) := by
            show _ = _
            rw [HW.out, HDR.out, smalls_cons p _ v hsm, take_set_snoc L k v (by omega), map_map_app]
          have hc0 := HBX.out.cell k (by omega)
          have hf0 := HBX.out.frozen k
          have HB2 := hid (HBX.out.set k v)
          have HBL2 : Hid (Below w3.heap.size w3 (wr.setCell ⟨w3.heap.size, k, none⟩ (.int .u16 (v : Int)))) := HBL.out.setCell (Nat.le_refl _) _
          have HLE2 : Hid (∀ x ∈ L.set k v, x ≤ 255) := by
            intro x hx
            rcases List.mem_or_eq_of_mem_set hx with h | h
            · exact HLE.out x h
            · omega
          clear hsm hv
          go_wp2_with fail
          refine (small_any Y _).mono ?_
          rw [HYD.out, HSM.out]
          rintro e w5 ⟨rfl, rfl⟩
          go_wp2
          go_roundw
          case rel => exact ⟨k + 1, L.set k v, by omega, by go_num, by rw [List.length_set]; exact hL, HB2.out, HBL2.out, HW2.out, HLE2.out⟩
          case measure => simp [intOf]; omega
      · obtain rfl : k = 4 := by omega
        have hall : smalls R = some L := by
          rw [HW.out, List.drop_eq_nil_of_le (by rw [← HN.out]; exact Nat.le_refl _), List.take_of_length_le (by omega)]
          simp [smalls]
        match L, hL, HBX, HLE, hall with
        | [a, b, c, d], _, HBX, HLE, hall =>
          have ha := HLE.out a (by simp)
          have hb := HLE.out b (by simp)
          have hc := HLE.out c (by simp)
          have hd := HLE.out d (by simp)
          have HE : Hid (QV S = .tuple #[.int .u16 ((a * 256 + b : Nat) : Int), .int .u16 ((c * 256 + d : Nat) : Int), .bool true]) := by
            refine qv_some ?_
            rw [HS.out]
            unfold quad
            rw [← HR.out, hall]
            rfl
          have c0 := HBX.out.cell 0 (by simp)
          have c1 := HBX.out.cell 1 (by simp)
          have c2 := HBX.out.cell 2 (by simp)
          have c3 := HBX.out.cell 3 (by simp)
          simp only [List.getElem_cons_zero, List.getElem_cons_succ] at c0 c1 c2 c3
          have o1 := or_byte a b ha hb
          have o2 := or_byte c d hc hd
          have hai : (a : Int) ≤ 255 := by omega
          have hci : (c : Int) ≤ 255 := by omega
          have HBZ := hid (bel HB.out HBL.out)
          clear hall hL HBX HLE HBL HW ha hb hc hd
          go_wp2_with fail
          go_quiet (fail)
          go_wp2
          go_ret3
          exact ⟨by rw [HE.out]; rfl, below_drewN HBZ.out _⟩
  · have HE : Hid (QV S = .tuple #[.int .u16 0, .int .u16 0, .bool false]) := by
      refine qv_none ?_
      rw [HS.out]
      exact quad_not4 (by rw [← HR.out, ← HN.out]; exact h4)
    have h4i : ¬ (n : Int) = 4 := by omega
    go_wp2
    go_ret3
    exact ⟨by rw [HE.out]; rfl, HB.out⟩
/-- The pieces' result. -/
def PcV (w : World) (o : Option (List Nat)) (e : Ending) (w' : World) : Prop := match o with
  | some l => ∃ v, e = .returned (.tuple #[v, .bool true]) ∧ w'.ownsRow w.heap.size 23 1 v l.length (ncells l)
  | none => ∃ v, e = .returned (.tuple #[v, .bool false])
theorem pcv_none {w w' : World} {o : Option (List Nat)} (h : o = none) (v : Value) : PcV w o (.returned (.tuple #[v, .bool false])) w' := by rw [h]; exact ⟨v, rfl⟩
theorem pcv_some {w w' : World} {o : Option (List Nat)} {l : List Nat} (h : o = some l) (v : Value) (ho : w'.ownsRow w.heap.size 23 1 v l.length (ncells l)) : PcV w o (.returned (.tuple #[v, .bool true])) w' := by rw [h]; exact ⟨v, rfl, ho⟩
theorem info_u16 : (Tryd.prog.info? 23).map (fun i => (i.zero, i.size, i.bytes)) = some (some (.int .u16 0), 1, 2) := by kernel_rfl
def NB (e : Bool) (r : List (List UInt8)) (p : List UInt8) : Prop := ¬ (e = true ∧ r = [] ∧ p.contains 46 = true)
theorem pcs_B {e : Bool} {p : List UInt8} {r : List (List UInt8)} (h : NB e r p) {v : Nat} (hp : piece p = some v) : pcs e (p :: r) = (pcs e r).map (v :: ·) := by
  rw [pcs, if_neg h, hp]
  cases pcs e r <;> rfl
theorem pcs_Bn {e : Bool} {p : List UInt8} {r : List (List UInt8)} (h : NB e r p) (hp : piece p = none) : pcs e (p :: r) = none := by
  rw [pcs, if_neg h, hp]
theorem piece_le {p : List UInt8} {v : Nat} (h : piece p = some v) : v < 65536 := by
  unfold piece at h
  split at h
  · rename_i h2
    injection h with h
    have h3 := val_lt 16 (by omega) p h2.2.2
    have h4 : 16 ^ p.length ≤ 16 ^ 4 := Nat.pow_le_pow_right (by omega) h2.2.1
    omega
  · cases h
theorem two_ex {l x : List Nat} (h : two l = some x) : ∃ a b, x = [a, b] := by
  unfold two at h
  split at h
  · injection h with h; exact ⟨_, _, h.symm⟩
  · cases h
theorem quad_ex {p : List UInt8} {x : List Nat} (h : quad p = some x) : ∃ a b, x = [a, b] := by
  unfold quad at h
  cases e : smalls (splt p) with
  | none => rw [e] at h; cases h
  | some l => rw [e] at h; exact two_ex h
set_option linter.unusedSimpArgs false in
set_option maxRecDepth 100000 in
set_option maxHeartbeats 8000000 in
theorem pieces_any (s : ByteArray) (e : Bool) (w : World) (hs : s.size ≤ 1048576) (hM : Max w) : Calls Tryd.prog 23 #[.string s, .bool e] w fun en w' => PcV w (pcs e (splc s.data.toList)) en w' ∧ Below w.heap.size w w' := by
  have hsl : s.data.toList.length = s.size := Array.length_toList
  obtain ⟨i0, hi, hz0, hz1, hz2⟩ := info_parts info_u16
  obtain ⟨R, hR⟩ : ∃ R, R = splc s.data.toList := ⟨_, rfl⟩
  have HPART : Hid (∀ p ∈ R, p.length ≤ 1073741824) := by
    intro p hp
    rw [hR] at hp
    have := splc_part _ p hp
    omega
  have hRl : R.length ≤ 1048577 := by have := length_splc s.data.toList; rw [hR]; omega
  rw [← hR]
  obtain ⟨S, hS⟩ : ∃ S, S = pcs e R := ⟨_, rfl⟩
  rw [← hS]
  have HR := hid hR
  have HS := hid hS
  have HMX := hid hM
  clear hR hM hsl hS
  go_enter Tryd.func23, Tryd.ntmps23
  go_wp2_with fail
  refine (split58_any s _ (by omega) HMX.out).mono ?_
  rintro en w3 ⟨A, n, c, rfl, hn, hnc, hcm, hrd, hb⟩
  rw [← HR.out] at hn hrd
  rw [← hn] at hRl
  have HN := hid hn
  have HRD := hid hrd
  have HB := hid hb
  unfold maxLen at hcm
  have hnp : 0 < n := by rw [hn, HR.out]; exact List.length_pos_iff.2 (splc_ne _)
  clear hn hrd hb
  have HW0 : Hid (S = (pcs e (R.drop 0)).map (([] : List Nat) ++ ·)) := by show _ = _; rw [List.drop_zero, HS.out]; cases pcs e R <;> simp
  have HX3 : Hid (Max w3) := HMX.out.below HB.out
  obtain ⟨g, off, rfl, hg, _⟩ := HRD.out.spot hnp
  go_wp2
  go_loopw [6, 8, 9, 13, 14, 19] (fun vl _ _ _ _ vk wr => ∃ (k : Nat) (xs : List Nat), k ≤ n ∧ xs.length ≤ k ∧ vk = .int .i64 (k : Int) ∧ Hid (wr.ownsRow w3.heap.size 23 1 vl xs.length (ncells xs)) ∧ Hid (Below w3.heap.size w3 wr) ∧ Hid (S = (pcs e (R.drop k)).map (xs ++ ·))) (fun _ _ _ _ _ vk _ => n - (intOf vk).toNat)
  case atStart => exact ⟨0, [], by omega, Nat.le_refl _, rfl, World.ownsRow_nil _ _ _ _, Below.refl _ _, HW0⟩
  case round =>
    clear HW0
    obtain ⟨k, xs, hk, hxk, rfl, HO, HBL, HW⟩ := hrel
    by_cases hlt : k < n
    · obtain ⟨p, hp⟩ : ∃ p, R[k]'(by rw [← HN.out]; exact hlt) = p := ⟨_, rfl⟩
      obtain ⟨Y, hY⟩ : ∃ Y, Y = strOf p := ⟨_, rfl⟩
      obtain ⟨m, hm⟩ : ∃ m, m = xs.length := ⟨_, rfl⟩
      have HYD : Hid (Y.data.toList = p) := by show _ = _; rw [hY]; rfl
      have hcl : wr.cell? ⟨g, off + k, none⟩ = some (.string Y) := by
        obtain ⟨b', o', e1, _, hc'⟩ := (HRD.out.below HBL.out).2 k (by rw [List.length_map, List.length_map, ← HN.out]; exact hlt)
        cases e1
        rw [hc', List.getElem_map, List.getElem_map, hp, hY]
      have HYS : Hid (Y.size ≤ 1073741824) := by
        show _ ≤ _
        rw [hY, size_strOf]
        exact HPART.out p (by rw [← hp]; exact List.getElem_mem _)
      have HDR : Hid (R.drop k = p :: R.drop (k + 1)) := drop_at R k p (by rw [← HN.out]; exact hlt) hp
      have HLASTI : Hid (R.drop (k + 1) = [] ↔ k + 1 = n) := by
        show _ ↔ _
        rw [List.drop_eq_nil_iff, ← HN.out]
        omega
      rw [← hm] at HO hxk
      have HM := hid hm
      have hbw : wr.heap.size ≥ w3.heap.size := HBL.out.size
      clear hp hY hm
      cases e with
      | false =>
        have HNB : Hid (NB false (R.drop (k + 1)) p) := fun h => by cases h.1
        cases hpc : piece p with
        | none =>
          have HE : Hid (S = none) := by show _ = _; rw [HW.out, HDR.out, pcs_Bn HNB.out hpc]; rfl
          have HPC := hid hpc
          clear hpc
          go_wp2_with fail
          refine (piece_any Y _).mono ?_
          rw [HYD.out, HPC.out]
          rintro e5 w5 ⟨rfl, hw5⟩
          subst hw5
          rw [PV]
          go_wp2
          go_ret2
          exact ⟨pcv_none HE.out _, bel HB.out HBL.out⟩
        | some v =>
          have HPC := hid hpc
          have HW2 : Hid (S = (pcs false (R.drop (k + 1))).map ((xs ++ [v]) ++ ·)) := by show _ = _; rw [HW.out, HDR.out, pcs_B HNB.out hpc, map_map_app]
          have hown := HO.out
          have hbel := HBL.out
          clear hpc HO HBL HW
          go_wp2_with fail
          refine (piece_any Y _).mono ?_
          rw [HYD.out, HPC.out]
          rintro e5 w5 ⟨rfl, hw5⟩
          subst hw5
          rw [PV]
          go_wp2_with (at_builtin; refine wpList_app rfl _ _ 45 rfl w3.heap.size 23 i0 (.int .u16 0) 2 Tryd.underlying45 hi hz0 hz1 hz2 rfl _ m _ rfl hown hbel hbel.size [.int .u16 (v : Int)] 1 rfl rfl (by intro u hu; simp at hu; subst hu; rfl) (by unfold maxLen; omega) (by omega) ?_)
          intro v7 w7 hown7 hbel7
          have HO7 : Hid (w7.ownsRow w3.heap.size 23 1 v7 (xs ++ [v]).length (ncells (xs ++ [v]))) := by
            show World.ownsRow _ _ _ _ _ _ _
            rw [List.length_append, ← HM.out, ncells_app]
            exact hown7
          have HB7 := hid hbel7
          clear hown hbel hown7 hbel7
          go_wp2
          go_roundw
          case rel => exact ⟨k + 1, xs ++ [v], by omega, by rw [List.length_append, ← HM.out]; show m + 1 ≤ _; omega, by go_num, HO7.out, HB7.out, HW2.out⟩
          case measure => simp [intOf]; omega
      | true =>
        by_cases hkn : k + 1 = n
        · have HKN := hid hkn
          have hq : ((k : Int) == (n : Int) - 1) = true := by simp; omega
          cases hct : p.contains 46 with
          | true =>
            have HCT := hid hct
            clear hct hkn
            go_wp2_with fail
            refine (contains_any Y _).mono ?_
            rw [HYD.out, HCT.out]
            rintro e4 w4 ⟨rfl, hw4⟩
            subst hw4
            have HCOND : Hid (pcs true (p :: R.drop (k + 1)) = quad p) := by show _ = _; rw [pcs, if_pos ⟨rfl, HLASTI.out.2 HKN.out, HCT.out⟩]
            cases hqd : quad p with
            | none =>
              have HE : Hid (S = none) := by show _ = _; rw [HW.out, HDR.out, HCOND.out, hqd]; rfl
              have HQD : Hid (QV (quad p) = .tuple #[.int .u16 0, .int .u16 0, .bool false]) := by show _ = _; rw [hqd]; rfl
              have hown := HO.out
              clear hqd HO
              go_wp2_with fail
              refine (quad_any Y _ HYS.out (HX3.out.below HBL.out)).mono ?_
              rw [HYD.out, HQD.out]
              rintro e5 w5 ⟨rfl, hb5⟩
              have hown5 := owns_below hown hb5
              have hbel5 : Below w3.heap.size w3 w5 := HBL.out.trans (hb5.mono hbw)
              clear hown hb5
              go_wp2_with (at_builtin; refine wpList_app rfl _ _ 45 rfl w3.heap.size 23 i0 (.int .u16 0) 2 Tryd.underlying45 hi hz0 hz1 hz2 rfl _ m _ rfl hown5 hbel5 hbel5.size [.int .u16 0, .int .u16 0] 2 rfl rfl (by intro u hu; simp at hu; subst hu; rfl) (by unfold maxLen; omega) (by omega) ?_)
              intro v7 w7 hown7 hbel7
              have HB7 := hid hbel7
              clear hown5 hbel5 hown7 hbel7
              go_wp2
              go_ret2
              exact ⟨pcv_none HE.out _, bel HB.out HB7.out⟩
            | some x =>
              obtain ⟨a, b, rfl⟩ := quad_ex hqd
              have HE : Hid (S = some (xs ++ [a, b])) := by show _ = _; rw [HW.out, HDR.out, HCOND.out, hqd]; rfl
              have HQD : Hid (QV (quad p) = .tuple #[.int .u16 (a : Int), .int .u16 (b : Int), .bool true]) := by show _ = _; rw [hqd]; rfl
              have hown := HO.out
              clear hqd HO
              go_wp2_with fail
              refine (quad_any Y _ HYS.out (HX3.out.below HBL.out)).mono ?_
              rw [HYD.out, HQD.out]
              rintro e5 w5 ⟨rfl, hb5⟩
              have hown5 := owns_below hown hb5
              have hbel5 : Below w3.heap.size w3 w5 := HBL.out.trans (hb5.mono hbw)
              clear hown hb5
              go_wp2_with (at_builtin; refine wpList_app rfl _ _ 45 rfl w3.heap.size 23 i0 (.int .u16 0) 2 Tryd.underlying45 hi hz0 hz1 hz2 rfl _ m _ rfl hown5 hbel5 hbel5.size [.int .u16 (a : Int), .int .u16 (b : Int)] 2 rfl rfl (by intro u hu; simp at hu; rcases hu with rfl | rfl <;> rfl) (by unfold maxLen; omega) (by omega) ?_)
              intro v7 w7 hown7 hbel7
              have HO7 : Hid (w7.ownsRow w3.heap.size 23 1 v7 (xs ++ [a, b]).length (ncells (xs ++ [a, b]))) := by
                show World.ownsRow _ _ _ _ _ _ _
                rw [List.length_append, ← HM.out, ncells_app]
                exact hown7
              have HB7 := hid hbel7
              clear hown5 hbel5 hown7 hbel7
              go_wp2
              go_ret2
              exact ⟨pcv_some HE.out _ (owns_base HO7.out HB.out.size), bel HB.out HB7.out⟩
          | false =>
            have HCT := hid hct
            have HNB : Hid (NB true (R.drop (k + 1)) p) := fun h => by rw [HCT.out] at h; cases h.2.2
            clear hct hkn
            go_wp2_with fail
            refine (contains_any Y _).mono ?_
            rw [HYD.out, HCT.out]
            rintro e4 w4 ⟨rfl, hw4⟩
            subst hw4
            cases hpc : piece p with
            | none =>
              have HE : Hid (S = none) := by show _ = _; rw [HW.out, HDR.out, pcs_Bn HNB.out hpc]; rfl
              have HPC := hid hpc
              clear hpc
              go_wp2_with fail
              refine (piece_any Y _).mono ?_
              rw [HYD.out, HPC.out]
              rintro e5 w5 ⟨rfl, hw5⟩
              subst hw5
              rw [PV]
              go_wp2
              go_ret2
              exact ⟨pcv_none HE.out _, bel HB.out HBL.out⟩
            | some v =>
              have HPC := hid hpc
              have HW2 : Hid (S = (pcs true (R.drop (k + 1))).map ((xs ++ [v]) ++ ·)) := by show _ = _; rw [HW.out, HDR.out, pcs_B HNB.out hpc, map_map_app]
              have hown := HO.out
              have hbel := HBL.out
              clear hpc HO HBL HW
              go_wp2_with fail
              refine (piece_any Y _).mono ?_
              rw [HYD.out, HPC.out]
              rintro e5 w5 ⟨rfl, hw5⟩
              subst hw5
              rw [PV]
              go_wp2_with (at_builtin; refine wpList_app rfl _ _ 45 rfl w3.heap.size 23 i0 (.int .u16 0) 2 Tryd.underlying45 hi hz0 hz1 hz2 rfl _ m _ rfl hown hbel hbel.size [.int .u16 (v : Int)] 1 rfl rfl (by intro u hu; simp at hu; subst hu; rfl) (by unfold maxLen; omega) (by omega) ?_)
              intro v7 w7 hown7 hbel7
              have HO7 : Hid (w7.ownsRow w3.heap.size 23 1 v7 (xs ++ [v]).length (ncells (xs ++ [v]))) := by
                show World.ownsRow _ _ _ _ _ _ _
                rw [List.length_append, ← HM.out, ncells_app]
                exact hown7
              have HB7 := hid hbel7
              clear hown hbel hown7 hbel7
              go_wp2
              go_roundw
              case rel => exact ⟨k + 1, xs ++ [v], by omega, by rw [List.length_append, ← HM.out]; show m + 1 ≤ _; omega, by go_num, HO7.out, HB7.out, HW2.out⟩
              case measure => simp [intOf]; omega
        · have hq : ((k : Int) == (n : Int) - 1) = false := by simp; omega
          have HNB : Hid (NB true (R.drop (k + 1)) p) := fun h => hkn (HLASTI.out.1 h.2.1)
          clear hkn
          cases hpc : piece p with
          | none =>
            have HE : Hid (S = none) := by show _ = _; rw [HW.out, HDR.out, pcs_Bn HNB.out hpc]; rfl
            have HPC := hid hpc
            clear hpc
            go_wp2_with fail
            refine (piece_any Y _).mono ?_
            rw [HYD.out, HPC.out]
            rintro e5 w5 ⟨rfl, hw5⟩
            subst hw5
            rw [PV]
            go_wp2
            go_ret2
            exact ⟨pcv_none HE.out _, bel HB.out HBL.out⟩
          | some v =>
            have HPC := hid hpc
            have HW2 : Hid (S = (pcs true (R.drop (k + 1))).map ((xs ++ [v]) ++ ·)) := by show _ = _; rw [HW.out, HDR.out, pcs_B HNB.out hpc, map_map_app]
            have hown := HO.out
            have hbel := HBL.out
            clear hpc HO HBL HW
            go_wp2_with fail
            refine (piece_any Y _).mono ?_
            rw [HYD.out, HPC.out]
            rintro e5 w5 ⟨rfl, hw5⟩
            subst hw5
            rw [PV]
            go_wp2_with (at_builtin; refine wpList_app rfl _ _ 45 rfl w3.heap.size 23 i0 (.int .u16 0) 2 Tryd.underlying45 hi hz0 hz1 hz2 rfl _ m _ rfl hown hbel hbel.size [.int .u16 (v : Int)] 1 rfl rfl (by intro u hu; simp at hu; subst hu; rfl) (by unfold maxLen; omega) (by omega) ?_)
            intro v7 w7 hown7 hbel7
            have HO7 : Hid (w7.ownsRow w3.heap.size 23 1 v7 (xs ++ [v]).length (ncells (xs ++ [v]))) := by
              show World.ownsRow _ _ _ _ _ _ _
              rw [List.length_append, ← HM.out, ncells_app]
              exact hown7
            have HB7 := hid hbel7
            clear hown hbel hown7 hbel7
            go_wp2
            go_roundw
            case rel => exact ⟨k + 1, xs ++ [v], by omega, by rw [List.length_append, ← HM.out]; show m + 1 ≤ _; omega, by go_num, HO7.out, HB7.out, HW2.out⟩
            case measure => simp [intOf]; omega
    · obtain rfl : k = n := by omega
      have HE : Hid (S = some xs) := by
        show _ = _
        rw [HW.out, List.drop_eq_nil_of_le (by rw [← HN.out]; exact Nat.le_refl _)]
        simp [pcs]
      go_wp2
      go_ret2
      exact ⟨pcv_some HE.out _ (owns_base HO.out HB.out.size), bel HB.out HBL.out⟩
set_option maxRecDepth 100000 in
theorem side_any (s : ByteArray) (e : Bool) (w : World) (hs : s.size ≤ 1048576) (hM : Max w) : Calls Tryd.prog 24 #[.string s, .bool e] w fun en w' => PcV w (sideP e (splc s.data.toList)) en w' ∧ Below w.heap.size w w' := by
  by_cases h : s.data.toList = []
  · have HE : Hid (sideP e (splc s.data.toList) = some []) := by show _ = _; rw [h]; rfl
    have h1 : s.toList = [] := by rw [Lib.toList_data]; exact h
    clear h
    go_enter Tryd.func24, Tryd.ntmps24
    go_wp2
    go_ret2
    exact ⟨pcv_some HE.out _ (World.ownsRow_nil _ _ _ _), Below.refl _ _⟩
  · have HE : Hid (sideP e (splc s.data.toList) = pcs e (splc s.data.toList)) := sideP_neg e (fun h2 => h (splc_one.1 h2))
    have h1 : (s.toList == []) = false := by rw [Lib.toList_data]; simpa using h
    have h2 : s.toList.isEmpty = false := by rw [Lib.toList_data]; simpa using h
    have HMX := hid hM
    obtain ⟨S, hS⟩ : ∃ S, S = pcs e (splc s.data.toList) := ⟨_, rfl⟩
    have HS := hid hS
    rw [HE.out, ← hS]
    clear hM hS
    go_enter Tryd.func24, Tryd.ntmps24
    go_wp2_with fail
    refine (pieces_any s e _ hs HMX.out).mono ?_
    rw [← HS.out]
    rintro en w2 ⟨hp, hb⟩
    cases S with
    | none =>
      obtain ⟨v, rfl⟩ := hp
      go_wp2
      go_ret2
      exact ⟨pcv_none rfl _, hb⟩
    | some l =>
      obtain ⟨v, rfl, ho⟩ := hp
      go_wp2
      go_ret2
      exact ⟨pcv_some rfl _ ho, hb⟩
end Go.Proofs.YtnmkkejodkjjiaaDoor.SixB
