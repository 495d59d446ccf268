/- IPv6 addresses: the document's four. -/
import Derived.Test.YtnmkkejodkjjiaaDoorSixD
import Derived.Deep.DeepCutAuto
import Derived.Deep.CutBlock
namespace Go.Proofs.YtnmkkejodkjjiaaDoor.SixE
open Go.RowKit Go.Proofs.YtnmkkejodkjjiaaDoor.Base Go.Proofs.YtnmkkejodkjjiaaDoor.Base2 Go.Proofs.YtnmkkejodkjjiaaDoor.Base3 Go.Proofs.YtnmkkejodkjjiaaDoor.UtfA Go.Proofs.YtnmkkejodkjjiaaDoor.QudP Go.Proofs.YtnmkkejodkjjiaaDoor.SixP Go.Proofs.YtnmkkejodkjjiaaDoor.SixQ Go.Proofs.YtnmkkejodkjjiaaDoor.SixA Go.Proofs.YtnmkkejodkjjiaaDoor.SixB Go.Proofs.YtnmkkejodkjjiaaDoor.SixD

def lcells (L : List Nat) : List Value := L.map fun (n : Nat) => Value.int .i64 (n : Int)
theorem length_lcells (L : List Nat) : (lcells L).length = L.length := by simp [lcells]
theorem lcells_app (a b : List Nat) : lcells (a ++ b) = lcells a ++ lcells b := by simp [lcells]
theorem lcells_get (L : List Nat) (k : Nat) (h : k < L.length) (h2 : k < (lcells L).length) : (lcells L)[k] = .int .i64 (L[k] : Int) := by simp [lcells]
theorem info_int : (Tryd.prog.info? 3).map (fun i => (i.zero, i.size, i.bytes)) = some (some (.int .i64 0), 1, 8) := by kernel_rfl
def ssize : Value → Nat
  | .string s => s.size
  | _ => 0
def FV (o : Option (List Nat)) : Value := match o with
  | some [a, b] => .tuple #[.int .i64 (a : Int), .int .i64 (b : Int), .bool true]
  | _ => .tuple #[.int .i64 0, .int .i64 0, .bool false]
theorem fv_none {o : Option (List Nat)} (h : o = none) : FV o = .tuple #[.int .i64 0, .int .i64 0, .bool false] := by rw [h]; rfl
theorem fv_some {o : Option (List Nat)} {a b : Nat} (h : o = some [a, b]) : FV o = .tuple #[.int .i64 (a : Int), .int .i64 (b : Int), .bool true] := by rw [h]; rfl
theorem val_lt10 {t : List UInt8} {m : Nat} (h : Pre 10 t m) : val 10 (t.take m) < 10000 := by
  have h1 := val_lt 10 (by omega) _ h.all
  have h2 : (t.take m).length ≤ 4 := by rw [List.length_take]; have := h.four; omega
  have h3 : 10 ^ (t.take m).length ≤ 10 ^ 4 := Nat.pow_le_pow_right (by omega) h2
  omega
theorem cut_str (s : ByteArray) (k : Nat) : (s.extract k s.size).data.toList = s.data.toList.drop k := by
  have hl : s.data.toList.length = s.size := Array.length_toList
  rw [ByteArray.data_extract]
  simp only [Array.toList_extract, List.extract_eq_take_drop]
  rw [List.take_of_length_le (by rw [List.length_drop]; omega)]
theorem head_drop (s : ByteArray) (k : Nat) (T1 : ByteArray) (h : T1.data.toList = s.data.toList.drop k) (c : UInt8) (hk : k < s.size) (hc : s[k] = c) (h0 : 0 < T1.size) : T1[0] = c := by
  have e1 : T1.data.toList[0]'(by rw [Array.length_toList]; exact h0) = T1[0] := rfl
  have hl : s.data.toList.length = s.size := Array.length_toList
  have e2 : s.data.toList[k]'(by rw [hl]; exact hk) = s[k] := rfl
  rw [← e1, ← hc, ← e2]
  simp only [h, List.getElem_drop, Nat.add_zero]
theorem size_of {T : ByteArray} {L : List UInt8} (h : T.data.toList = L) : T.size = L.length := by rw [← h]; exact Array.length_toList.symm
theorem bind_two_none {o : Option (List Nat)} (h : o = none) : o.bind two = none := by rw [h]; rfl
set_option linter.unusedSimpArgs false in
set_option maxRecDepth 100000 in
set_option maxHeartbeats 8000000 in
theorem four_any (s : ByteArray) (w : World) (hs : s.size ≤ 1073741824) : Calls Tryd.prog 26 #[.string s] w fun e w' => e = .returned (FV (quad s.data.toList)) ∧ Below w.heap.size w w' := by
  obtain ⟨i0, hi, hz0, hz1, hz2⟩ := info_parts info_int
  obtain ⟨S, hS⟩ : ∃ S, S = quad s.data.toList := ⟨_, rfl⟩
  have HS0 : Hid (S = (cont [] s.data.toList).bind two) := by show _ = _; rw [hS, quad_cont]
  rw [← hS]
  clear hS
  go_enter Tryd.func26, Tryd.ntmps26
  go_wp2
  go_loopw [0, 5, 6, 7] (fun vs vb _ _ wr => ∃ (t : ByteArray) (bs : List Nat), t.size ≤ s.size ∧ vs = .string t ∧ bs.length ≤ 3 ∧ Hid (wr.ownsRow w.heap.size 3 1 vb bs.length (lcells bs)) ∧ Hid (Below w.heap.size w wr) ∧ Hid (S = (cont bs t.data.toList).bind two) ∧ Hid (∀ x ∈ bs, x ≤ 255)) (fun vs _ _ _ _ => ssize vs)
  case atStart => exact ⟨s, [], Nat.le_refl _, rfl, by simp, World.ownsRow_nil _ _ _ _, Below.refl _ _, HS0, by intro x hx; simp at hx⟩
  case round =>
    clear HS0
    obtain ⟨t, bs, hts, rfl, hbl, HO, HBL, HW, HLE⟩ := hrel
    have hl : t.data.toList.length = t.size := Array.length_toList
    have HL := hid hl
    obtain ⟨m, hm⟩ : ∃ m, m = bs.length := ⟨_, rfl⟩
    rw [← hm] at HO hbl
    have HM := hid hm
    clear hl hm
    go_upto_block 2 with (fail)
    go_cut [6, 7] from 8 to 31 (fun vn vk wx => ∃ (k n : Nat), vk = .int .i64 (k : Int) ∧ vn = .int .i64 (n : Int) ∧ wx = wr ∧ k ≤ t.size ∧ k ≤ 4 ∧ Hid (n = val 10 (t.data.toList.take k)) ∧ Hid (Pre 10 t.data.toList k))
    case first =>
      go_wp2
      go_loopw [6, 7] (fun vn vk wx => ∃ (k n : Nat), k ≤ t.size ∧ k ≤ 4 ∧ vk = .int .i64 (k : Int) ∧ vn = .int .i64 (n : Int) ∧ n < 10000 ∧ wx = wr ∧ Hid (n = val 10 (t.data.toList.take k)) ∧ Hid (digs 10 (t.data.toList.take k) = true)) (fun _ vk _ => 4 - (intOf vk).toNat)
      case atStart => exact ⟨0, 0, by omega, by omega, rfl, rfl, by omega, rfl, rfl, rfl⟩
      case round =>
        obtain ⟨k, n, hk, hk4, rfl, rfl, hn, rfl, HV, HT⟩ := hrel
        by_cases hlt : k < t.size
        · by_cases h4 : k < 4
          · obtain ⟨c, hc⟩ : ∃ c, t[k] = c := ⟨_, rfl⟩
            have hkl : k < t.data.toList.length := by rw [HL.out]; exact hlt
            have hcl : t.data.toList[k] = c := hc
            have HS : Hid (t.data.toList.take (k + 1) = t.data.toList.take k ++ [c]) := by rw [← hcl]; exact take_snoc _ k hkl
            have HG : Hid (t.data.toList[k]? = some c) := by show _ = _; rw [List.getElem?_eq_getElem hkl, hcl]
            clear hcl hkl
            cases hD : isD 10 c with
            | false =>
              have HP : Hid (Pre 10 t.data.toList k) := ⟨hk4, by rw [HL.out]; exact hk, HT.out, .inr (fun d hd => by rw [HG.out] at hd; injection hd with hd; subst hd; exact hD)⟩
              have HDG : Hid (UtfA.digit (c.toNat : Int) = false) := by show _ = _; rw [digit_isD, hD]
              clear hD
              go_wp2_with fail
              refine (RefA.digit_any _ _).mono ?_
              rintro e w2 ⟨rfl, hw2⟩
              subst hw2
              rw [HDG.out]
              go_wp2
              go_meet
              exact ⟨k, n, rfl, rfl, rfl, hk, hk4, HV.out, HP.out⟩
            | true =>
              obtain ⟨hc1, hc2, hc3⟩ := digit_val c hD
              have HDG : Hid (UtfA.digit (c.toNat : Int) = true) := by show _ = _; rw [digit_isD, hD]
              have HV2 : Hid (n * 10 + (c.toNat - 48) = val 10 (t.data.toList.take (k + 1))) := by show _ = _; rw [HS.out, val_snoc, ← HV.out, hc3]
              have HT2 : Hid (digs 10 (t.data.toList.take (k + 1)) = true) := by show _ = _; rw [HS.out, digs_snoc, HT.out, hD]; rfl
              have HN2 : Hid (n * 10 + (c.toNat - 48) < 10000) := by
                have h5 := val_lt 10 (by omega) _ HT2.out
                have h6 : (t.data.toList.take (k + 1)).length ≤ 4 := by rw [List.length_take]; omega
                have h7 : 10 ^ (t.data.toList.take (k + 1)).length ≤ 10 ^ 4 := Nat.pow_le_pow_right (by omega) h6
                show _ < _
                rw [HV2.out]
                omega
              have hci : 48 ≤ (c.toNat : Int) := by omega
              have hci2 : (c.toNat : Int) ≤ 57 := by omega
              have HSUM : Hid ((n : Int) * 10 + ((c.toNat : Int) - 48) = ((n * 10 + (c.toNat - 48) : Nat) : Int)) := by show _ = _; omega
              clear hD hc3 hc1 hc2
              go_wp2_with fail
              refine (RefA.digit_any _ _).mono ?_
              rintro e w2 ⟨rfl, hw2⟩
              subst hw2
              rw [HDG.out]
              go_wp2
              go_roundw
              case rel => exact ⟨k + 1, n * 10 + (c.toNat - 48), by omega, by omega, by go_num, by first | exact int_eq HSUM.out | go_num, HN2.out, by first | rfl | trivial, HV2.out, HT2.out⟩
              case measure => simp [intOf]; omega
          · obtain rfl : k = 4 := by omega
            have HP : Hid (Pre 10 t.data.toList 4) := ⟨hk4, by rw [HL.out]; exact hk, HT.out, .inl rfl⟩
            go_wp2
            go_meet
            exact ⟨4, n, rfl, rfl, rfl, hk, hk4, HV.out, HP.out⟩
        · obtain rfl : k = t.size := by omega
          have HP : Hid (Pre 10 t.data.toList t.size) := ⟨hk4, by rw [HL.out]; exact hk, HT.out, .inr (fun d hd => by
            rw [List.getElem?_eq_none (by rw [HL.out]; exact Nat.le_refl _)] at hd
            cases hd)⟩
          go_wp2
          go_meet
          exact ⟨t.size, n, rfl, rfl, rfl, hk, hk4, HV.out, HP.out⟩
    case rest =>
      obtain ⟨k, n, rfl, rfl, rfl, hk, hk4, HV, HP⟩ := hcut
      by_cases hk0 : k = 0
      · subst hk0
        have HE : Hid (S = none) := by show _ = _; rw [HW.out]; exact bind_two_none (cont_bad HP.out (.inl rfl) bs)
        have HE2 := hid (fv_none HE.out)
        go_wp2
        go_ret3
        exact ⟨by rw [HE2.out]; rfl, HBL.out⟩
      · have HKZ : Hid (k ≠ 0) := hk0
        have hkz : ((k : Int) == 0) = false := by simp; omega
        have hkz2 : ¬ (k : Int) = 0 := by omega
        clear hk0
        by_cases h255 : 255 < n
        · have h255i : (255 : Int) < (n : Int) := by omega
          have HE : Hid (S = none) := by show _ = _; rw [HW.out]; exact bind_two_none (cont_bad HP.out (.inr (.inl (by rw [← HV.out]; exact h255))) bs)
          have HE2 := hid (fv_none HE.out)
          go_wp2
          go_ret3
          exact ⟨by rw [HE2.out]; rfl, HBL.out⟩
        · have h255i : ¬ (255 : Int) < (n : Int) := by omega
          by_cases h1 : 1 < k
          · have h1i : (1 : Int) < (k : Int) := by omega
            have h0t : 0 < t.size := by omega
            obtain ⟨a, ha⟩ : ∃ a, t[0] = a := ⟨_, rfl⟩
            have HA : Hid (t.data.toList[0]? = some a) := by
              have hcl : t.data.toList[0]'(by rw [HL.out]; exact h0t) = a := ha
              show _ = _
              rw [List.getElem?_eq_getElem (by rw [HL.out]; exact h0t), hcl]
            by_cases h48 : a = 48
            · have h48b : ((a.toNat : Int) == 48) = true := by rw [h48]; rfl
              have h48c : (a.toNat : Int) = 48 := by rw [h48]; rfl
              have HB0 : Hid (1 < k ∧ t.data.toList[0]? = some 48) := ⟨h1, by rw [HA.out, h48]⟩
              clear h48
              have HE : Hid (S = none) := by show _ = _; rw [HW.out]; exact bind_two_none (cont_bad HP.out (.inr (.inr HB0.out)) bs)
              have HE2 := hid (fv_none HE.out)
              go_wp2
              go_ret3
              exact ⟨by rw [HE2.out]; rfl, HBL.out⟩
            · have h48b : ((a.toNat : Int) == 48) = false := by
                rw [beq_eq_false_iff_ne]
                intro e
                exact h48 (UInt8.toNat_inj.1 (by show _ = 48; omega))
              have h48c : ¬ (a.toNat : Int) = 48 := by simpa using h48b
              have HN48 := hid h48
              clear h48
              have HZ : Hid (¬ (1 < k ∧ t.data.toList[0]? = some 48)) := fun h => by rw [HA.out] at h; injection h.2 with h2; exact HN48.out h2
              have HVL : Hid (val 10 (t.data.toList.take k) ≤ 255) := by show _ ≤ _; rw [← HV.out]; omega
              obtain ⟨T1, hT1⟩ : ∃ T1, t.extract k t.size = T1 := ⟨_, rfl⟩
              have HT1 : Hid (T1.data.toList = t.data.toList.drop k) := by show _ = _; rw [← hT1, cut_str]
              have hsz1 : T1.size = t.size - k := by rw [size_of HT1.out, List.length_drop, HL.out]
              have hown := HO.out
              have hbel := HBL.out
              have hn255 : n ≤ 255 := by omega
              have HLE2 : Hid (∀ x ∈ bs ++ [n], x ≤ 255) := by
                intro x hx
                rcases List.mem_append.1 hx with h | h
                · exact HLE.out x h
                · simp at h; omega
              clear HO HBL
              go_wp2_with (at_builtin; refine wpList_app rfl _ _ 48 rfl w.heap.size 3 i0 (.int .i64 0) 8 Tryd.underlying48 hi hz0 hz1 hz2 rfl _ m _ rfl hown hbel hbel.size [.int .i64 (n : Int)] 1 rfl rfl (by intro u hu; simp at hu; subst hu; rfl) (by unfold maxLen; omega) (by omega) ?_)
              intro v7 w7 hown7 hbel7
              have HO7 : Hid (w7.ownsRow w.heap.size 3 1 v7 (bs ++ [n]).length (lcells (bs ++ [n]))) := by
                show World.ownsRow _ _ _ _ _ _ _
                rw [List.length_append, ← HM.out, lcells_app]
                exact hown7
              have HB7 := hid hbel7
              obtain ⟨A7, c7, rfl, hlc7, hcm7, hr7⟩ := owns_form hown7
              have HR7 : Hid (Rds w7 A7 (m + 1) (lcells (bs ++ [n]))) := by show Rds _ _ _ _; rw [lcells_app]; exact hr7
              clear hown hbel hown7 hbel7 hr7
              by_cases hend : k = t.size
              · have he1 : T1.toList = [] := by
                  rw [Lib.toList_data]
                  exact List.eq_nil_of_length_eq_zero (by rw [Array.length_toList]; show T1.size = 0; omega)
                have HCL : Hid (cont bs t.data.toList = if bs.length + 1 = 4 then some (bs ++ [val 10 (t.data.toList.take k)]) else none) := cont_last HP.out HKZ.out HVL.out HZ.out (List.drop_eq_nil_of_le (by rw [HL.out]; omega)) bs
                have HEND := hid hend
                clear hend hsz1
                by_cases h4 : m = 3
                · subst h4
                  match bs, HM, HW, HLE2, HR7, HO7, HCL with
                  | [b0, b1, b2], HM, HW, HLE2, HR7, HO7, HCL =>
                    have HE : Hid (S = some [b0 * 256 + b1, b2 * 256 + n]) := by show _ = _; rw [HW.out, HCL.out, ← HV.out]; rfl
                    have HE2 := hid (fv_some HE.out)
                    obtain ⟨g, off, rfl, _, hcell⟩ := HR7.out.spot (by omega)
                    have c0 := hcell 0 (by simp [lcells])
                    have c1 := hcell 1 (by simp [lcells])
                    have c2 := hcell 2 (by simp [lcells])
                    have c3 := hcell 3 (by simp [lcells])
                    simp only [lcells, List.map_append, List.map_cons, List.map_nil, List.cons_append, List.nil_append, List.getElem_cons_zero, List.getElem_cons_succ, Nat.add_zero] at c0 c1 c2 c3
                    have x0 : (b0 : Int) ≤ 255 := by have := HLE2.out b0 (by simp); omega
                    have x1 : (b1 : Int) ≤ 255 := by have := HLE2.out b1 (by simp); omega
                    have x2 : (b2 : Int) ≤ 255 := by have := HLE2.out b2 (by simp); omega
                    have x3 : (n : Int) ≤ 255 := by have := HLE2.out n (by simp); omega
                    clear hcell HR7 HO7
                    go_wp2_with fail
                    go_quiet (fail)
                    go_wp2
                    go_ret3
                    exact ⟨by rw [HE2.out]; rfl, below_drewN HB7.out _⟩
                · have HE : Hid (S = none) := by show _ = _; rw [HW.out, HCL.out, if_neg (by rw [← HM.out]; omega)]; rfl
                  have h4i : ((m : Int) + 1 == 4) = false := by simp; omega
                  have h4j : ¬ (m : Int) + 1 = 4 := by omega
                  have HE2 := hid (fv_none HE.out)
                  go_wp2
                  go_ret3
                  exact ⟨by rw [HE2.out]; rfl, HB7.out⟩
              · have hklt : k < t.size := by omega
                have h0 : 0 < T1.size := by omega
                obtain ⟨c, hc⟩ : ∃ c, t[k] = c := ⟨_, rfl⟩
                have HG : Hid (t.data.toList[k]? = some c) := by
                  have hcl : t.data.toList[k]'(by rw [HL.out]; exact hklt) = c := hc
                  show _ = _
                  rw [List.getElem?_eq_getElem (by rw [HL.out]; exact hklt), hcl]
                have hc0 : T1[0] = c := head_drop t k T1 HT1.out c hklt hc h0
                have hne : T1.data.toList ≠ [] := by
                  intro h
                  have h2 : T1.size = 0 := size_of h
                  omega
                have he1 : (T1.toList == []) = false := by rw [Lib.toList_data]; simpa using hne
                have he2 : T1.toList.isEmpty = false := by rw [Lib.toList_data]; simpa using hne
                have HSZ1 := hid hsz1
                clear hc hne hend
                by_cases h46 : c = 46
                · have h46b : ((c.toNat : Int) == 46) = true := by rw [h46]; rfl
                  have h46c : (c.toNat : Int) = 46 := by rw [h46]; rfl
                  have HCN : Hid (cont bs t.data.toList = if bs.length + 1 = 4 then none else cont (bs ++ [val 10 (t.data.toList.take k)]) (t.data.toList.drop (k + 1))) := cont_next HP.out HKZ.out HVL.out HZ.out (by rw [HG.out, h46]) bs
                  clear h46
                  by_cases h4 : m = 3
                  · have HE : Hid (S = none) := by show _ = _; rw [HW.out, HCN.out, if_pos (by rw [← HM.out, h4])]; rfl
                    subst h4
                    have HE2 := hid (fv_none HE.out)
                    go_wp2
                    go_ret3
                    exact ⟨by rw [HE2.out]; rfl, HB7.out⟩
                  · have h4i : ((m : Int) + 1 == 4) = false := by simp; omega
                    have h4j : ¬ (m : Int) + 1 = 4 := by omega
                    have HW2 : Hid (S = (cont (bs ++ [n]) (t.data.toList.drop (k + 1))).bind two) := by show _ = _; rw [HW.out, HCN.out, if_neg (by rw [← HM.out]; omega), ← HV.out]
                    obtain ⟨T2, hT2⟩ : ∃ T2, T1.extract 1 T1.size = T2 := ⟨_, rfl⟩
                    have HT2 : Hid (T2.data.toList = t.data.toList.drop (k + 1)) := by show _ = _; rw [← hT2, cut_str, HT1.out, List.drop_drop]
                    have HSZ2 : Hid (T2.size < t.size) := by
                      show _ < _
                      have h5 : T2.size = t.size - (k + 1) := by rw [size_of HT2.out, List.length_drop, HL.out]
                      omega
                    have h1i : (1 : Int) ≤ (T1.size : Int) := by omega
                    clear hsz1 h4
                    go_wp2
                    go_roundw
                    case rel => exact ⟨T2, bs ++ [n], by have := HSZ2.out; omega, rfl, by rw [List.length_append, ← HM.out]; show m + 1 ≤ 3; omega, HO7.out, HB7.out, by show _ = _; rw [HW2.out, HT2.out], HLE2.out⟩
                    case measure => exact HSZ2.out
                · have h46b : ((c.toNat : Int) == 46) = false := by
                    rw [beq_eq_false_iff_ne]
                    intro e
                    exact h46 (UInt8.toNat_inj.1 (by show _ = 46; omega))
                  have h46c : ¬ (c.toNat : Int) = 46 := by simpa using h46b
                  have HE : Hid (S = none) := by show _ = _; rw [HW.out]; exact bind_two_none (cont_odd HP.out HG.out h46 bs)
                  clear h46
                  have HE2 := hid (fv_none HE.out)
                  go_wp2
                  go_ret3
                  exact ⟨by rw [HE2.out]; rfl, HB7.out⟩
          · have h1i : ¬ (1 : Int) < (k : Int) := by omega
            have HN1 := hid h1
            have HZ : Hid (¬ (1 < k ∧ t.data.toList[0]? = some 48)) := fun h => HN1.out h.1
            have HVL : Hid (val 10 (t.data.toList.take k) ≤ 255) := by show _ ≤ _; rw [← HV.out]; omega
            obtain ⟨T1, hT1⟩ : ∃ T1, t.extract k t.size = T1 := ⟨_, rfl⟩
            have HT1 : Hid (T1.data.toList = t.data.toList.drop k) := by show _ = _; rw [← hT1, cut_str]
            have hsz1 : T1.size = t.size - k := by rw [size_of HT1.out, List.length_drop, HL.out]
            have hown := HO.out
            have hbel := HBL.out
            have hn255 : n ≤ 255 := by omega
            have HLE2 : Hid (∀ x ∈ bs ++ [n], x ≤ 255) := by
              intro x hx
              rcases List.mem_append.1 hx with h | h
              · exact HLE.out x h
              · simp at h; omega
            clear HO HBL
            go_wp2_with (at_builtin; refine wpList_app rfl _ _ 48 rfl w.heap.size 3 i0 (.int .i64 0) 8 Tryd.underlying48 hi hz0 hz1 hz2 rfl _ m _ rfl hown hbel hbel.size [.int .i64 (n : Int)] 1 rfl rfl (by intro u hu; simp at hu; subst hu; rfl) (by unfold maxLen; omega) (by omega) ?_)
            intro v7 w7 hown7 hbel7
            have HO7 : Hid (w7.ownsRow w.heap.size 3 1 v7 (bs ++ [n]).length (lcells (bs ++ [n]))) := by
              show World.ownsRow _ _ _ _ _ _ _
              rw [List.length_append, ← HM.out, lcells_app]
              exact hown7
            have HB7 := hid hbel7
            obtain ⟨A7, c7, rfl, hlc7, hcm7, hr7⟩ := owns_form hown7
            have HR7 : Hid (Rds w7 A7 (m + 1) (lcells (bs ++ [n]))) := by show Rds _ _ _ _; rw [lcells_app]; exact hr7
            clear hown hbel hown7 hbel7 hr7
            by_cases hend : k = t.size
            · have he1 : T1.toList = [] := by
                rw [Lib.toList_data]
                exact List.eq_nil_of_length_eq_zero (by rw [Array.length_toList]; show T1.size = 0; omega)
              have HCL : Hid (cont bs t.data.toList = if bs.length + 1 = 4 then some (bs ++ [val 10 (t.data.toList.take k)]) else none) := cont_last HP.out HKZ.out HVL.out HZ.out (List.drop_eq_nil_of_le (by rw [HL.out]; omega)) bs
              have HEND := hid hend
              clear hend hsz1
              by_cases h4 : m = 3
              · subst h4
                match bs, HM, HW, HLE2, HR7, HO7, HCL with
                | [b0, b1, b2], HM, HW, HLE2, HR7, HO7, HCL =>
                  have HE : Hid (S = some [b0 * 256 + b1, b2 * 256 + n]) := by show _ = _; rw [HW.out, HCL.out, ← HV.out]; rfl
                  have HE2 := hid (fv_some HE.out)
                  obtain ⟨g, off, rfl, _, hcell⟩ := HR7.out.spot (by omega)
                  have c0 := hcell 0 (by simp [lcells])
                  have c1 := hcell 1 (by simp [lcells])
                  have c2 := hcell 2 (by simp [lcells])
                  have c3 := hcell 3 (by simp [lcells])
                  simp only [lcells, List.map_append, List.map_cons, List.map_nil, List.cons_append, List.nil_append, List.getElem_cons_zero, List.getElem_cons_succ, Nat.add_zero] at c0 c1 c2 c3
                  have x0 : (b0 : Int) ≤ 255 := by have := HLE2.out b0 (by simp); omega
                  have x1 : (b1 : Int) ≤ 255 := by have := HLE2.out b1 (by simp); omega
                  have x2 : (b2 : Int) ≤ 255 := by have := HLE2.out b2 (by simp); omega
                  have x3 : (n : Int) ≤ 255 := by have := HLE2.out n (by simp); omega
                  clear hcell HR7 HO7
                  go_wp2_with fail
                  go_quiet (fail)
                  go_wp2
                  go_ret3
                  exact ⟨by rw [HE2.out]; rfl, below_drewN HB7.out _⟩
              · have HE : Hid (S = none) := by show _ = _; rw [HW.out, HCL.out, if_neg (by rw [← HM.out]; omega)]; rfl
                have h4i : ((m : Int) + 1 == 4) = false := by simp; omega
                have h4j : ¬ (m : Int) + 1 = 4 := by omega
                have HE2 := hid (fv_none HE.out)
                go_wp2
                go_ret3
                exact ⟨by rw [HE2.out]; rfl, HB7.out⟩
            · have hklt : k < t.size := by omega
              have h0 : 0 < T1.size := by omega
              obtain ⟨c, hc⟩ : ∃ c, t[k] = c := ⟨_, rfl⟩
              have HG : Hid (t.data.toList[k]? = some c) := by
                have hcl : t.data.toList[k]'(by rw [HL.out]; exact hklt) = c := hc
                show _ = _
                rw [List.getElem?_eq_getElem (by rw [HL.out]; exact hklt), hcl]
              have hc0 : T1[0] = c := head_drop t k T1 HT1.out c hklt hc h0
              have hne : T1.data.toList ≠ [] := by
                intro h
                have h2 : T1.size = 0 := size_of h
                omega
              have he1 : (T1.toList == []) = false := by rw [Lib.toList_data]; simpa using hne
              have he2 : T1.toList.isEmpty = false := by rw [Lib.toList_data]; simpa using hne
              have HSZ1 := hid hsz1
              clear hc hne hend
              by_cases h46 : c = 46
              · have h46b : ((c.toNat : Int) == 46) = true := by rw [h46]; rfl
                have h46c : (c.toNat : Int) = 46 := by rw [h46]; rfl
                have HCN : Hid (cont bs t.data.toList = if bs.length + 1 = 4 then none else cont (bs ++ [val 10 (t.data.toList.take k)]) (t.data.toList.drop (k + 1))) := cont_next HP.out HKZ.out HVL.out HZ.out (by rw [HG.out, h46]) bs
                clear h46
                by_cases h4 : m = 3
                · have HE : Hid (S = none) := by show _ = _; rw [HW.out, HCN.out, if_pos (by rw [← HM.out, h4])]; rfl
                  subst h4
                  have HE2 := hid (fv_none HE.out)
                  go_wp2
                  go_ret3
                  exact ⟨by rw [HE2.out]; rfl, HB7.out⟩
                · have h4i : ((m : Int) + 1 == 4) = false := by simp; omega
                  have h4j : ¬ (m : Int) + 1 = 4 := by omega
                  have HW2 : Hid (S = (cont (bs ++ [n]) (t.data.toList.drop (k + 1))).bind two) := by show _ = _; rw [HW.out, HCN.out, if_neg (by rw [← HM.out]; omega), ← HV.out]
                  obtain ⟨T2, hT2⟩ : ∃ T2, T1.extract 1 T1.size = T2 := ⟨_, rfl⟩
                  have HT2 : Hid (T2.data.toList = t.data.toList.drop (k + 1)) := by show _ = _; rw [← hT2, cut_str, HT1.out, List.drop_drop]
                  have HSZ2 : Hid (T2.size < t.size) := by
                    show _ < _
                    have h5 : T2.size = t.size - (k + 1) := by rw [size_of HT2.out, List.length_drop, HL.out]
                    omega
                  have h1i : (1 : Int) ≤ (T1.size : Int) := by omega
                  clear hsz1 h4
                  go_wp2
                  go_roundw
                  case rel => exact ⟨T2, bs ++ [n], by have := HSZ2.out; omega, rfl, by rw [List.length_append, ← HM.out]; show m + 1 ≤ 3; omega, HO7.out, HB7.out, by show _ = _; rw [HW2.out, HT2.out], HLE2.out⟩
                  case measure => exact HSZ2.out
              · have h46b : ((c.toNat : Int) == 46) = false := by
                  rw [beq_eq_false_iff_ne]
                  intro e
                  exact h46 (UInt8.toNat_inj.1 (by show _ = 46; omega))
                have h46c : ¬ (c.toNat : Int) = 46 := by simpa using h46b
                have HE : Hid (S = none) := by show _ = _; rw [HW.out]; exact bind_two_none (cont_odd HP.out HG.out h46 bs)
                clear h46
                have HE2 := hid (fv_none HE.out)
                go_wp2
                go_ret3
                exact ⟨by rw [HE2.out]; rfl, HB7.out⟩
end Go.Proofs.YtnmkkejodkjjiaaDoor.SixE
