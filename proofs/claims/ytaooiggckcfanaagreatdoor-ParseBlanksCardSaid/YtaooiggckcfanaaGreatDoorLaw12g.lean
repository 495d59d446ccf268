/- The law ParseBlanks, walked. -/
import Derived.Test.YtaooiggckcfanaaGreatDoorMS
import Derived.Test.YtaooiggckcfanaaGreatDoorMR
import Derived.Test.YtaooiggckcfanaaGreatDoorUlx
import Derived.Test.YtaooiggckcfanaaGreatDoorRegb
namespace Go.Proofs.YtaooiggckcfanaaGreatDoor.Laws
open Go.RowKit Go.Proofs.YtaooiggckcfanaaGreatDoor.Base Go.Proofs.YtaooiggckcfanaaGreatDoor.Base2 Go.Proofs.YtaooiggckcfanaaGreatDoor.UtfL Go.Proofs.YtaooiggckcfanaaGreatDoor.UrlA Go.Proofs.YtaooiggckcfanaaGreatDoor.UrlC Go.Proofs.YtaooiggckcfanaaGreatDoor.UrlF Go.Proofs.YtaooiggckcfanaaGreatDoor.HstC Go.Proofs.YtaooiggckcfanaaGreatDoor.PrsP Go.Proofs.YtaooiggckcfanaaGreatDoor.Ubx Go.Proofs.YtaooiggckcfanaaGreatDoor.PrsC Go.Proofs.YtaooiggckcfanaaGreatDoor.PrsD Go.Proofs.YtaooiggckcfanaaGreatDoor.SixG Go.Proofs.YtaooiggckcfanaaGreatDoor.Spl Go.Proofs.YtaooiggckcfanaaGreatDoor.PrsG Go.Proofs.YtaooiggckcfanaaGreatDoor.PrsR Go.Proofs.YtaooiggckcfanaaGreatDoor.PrsS Go.Proofs.YtaooiggckcfanaaGreatDoor.PrsV Go.Proofs.YtaooiggckcfanaaGreatDoor.PrsY Go.Proofs.YtaooiggckcfanaaGreatDoor.Ulw Go.Proofs.YtaooiggckcfanaaGreatDoor.PrsW Go.Proofs.YtaooiggckcfanaaGreatDoor.Regs Go.Proofs.YtaooiggckcfanaaGreatDoor.PrsT Go.Proofs.YtaooiggckcfanaaGreatDoor.Ulx

structure Lc (w : World) (g r : Nat) (x : UInt8) : Prop where
  cell : w.cell? ⟨g, r, none⟩ = some (.string (strOf [x]))
  lt : g < w.heap.size
theorem Lc.below {w w' : World} {g r : Nat} {x : UInt8} (h : Lc w g r x) (hb : Below w.heap.size w w') : Lc w' g r x := ⟨(hb.cell (p := ⟨g, r, none⟩) h.lt).trans h.cell, Nat.lt_of_lt_of_le h.lt hb.size⟩
def ZS : Array Value := #[.string ⟨#[]⟩, .string ⟨#[]⟩, .string ⟨#[]⟩, .string ⟨#[]⟩, .bool false, .int .i64 0, .bool false, .string ⟨#[]⟩, .slice none 0 0, .bool false, .bool false, .string ⟨#[]⟩, .string ⟨#[]⟩]
/-- A URL's cells; its path is a call's own. -/
def UQ (u : U) (w : World) (cs : Array Value) : Prop := ∃ A n c B, cs = cells u (.slice A n c) ∧ w.ownsRow B 9 1 (.slice A n c) n (u.pth.map Value.string)
theorem uq_stays (u : U) : Regb.Stays (UQ u) := fun _ _ _ hb ⟨A, n, c, B, h1, h2⟩ => ⟨A, n, c, B, h1, owns_below h2 hb⟩
theorem own_put {w : World} {B p n c : Nat} {A : Option Addr} {xs : List Value} {zs : Array Value} (h : w.ownsRow B 9 1 (.slice A n c) n xs) (hz : w.heap[p]? = some (.cells zs 25 (0, 0))) (u : U) (q : Value) : (Ubx.put w p u q).ownsRow B 9 1 (.slice A n c) n xs := by
  refine ⟨h.1, ?_⟩
  rcases h.2 with hn | ⟨g, cap, cur, hv, hb, hg, rest⟩
  · exact .inl hn
  · refine .inr ⟨g, cap, cur, hv, hb, ?_, rest⟩
    have hne : g ≠ p := by
      rintro rfl
      rw [hz] at hg
      injection hg with hg
      injection hg with _ ht
      revert ht
      decide
    unfold Ubx.put
    rw [heap_setCell_other _ _ _ _ hne, heap_setCell_other _ _ _ _ hne, heap_setCell_other _ _ _ _ hne, heap_setCell_other _ _ _ _ hne, heap_setCell_other _ _ _ _ hne, heap_setCell_other _ _ _ _ hne, heap_setCell_other _ _ _ _ hne, heap_setCell_other _ _ _ _ hne, heap_setCell_other _ _ _ _ hne, heap_setCell_other _ _ _ _ hne, heap_setCell_other _ _ _ _ hne, heap_setCell_other _ _ _ _ hne, heap_setCell_other _ _ _ _ hne]
    exact hg
theorem own_pt {w : World} {B n c : Nat} {A : Option Addr} {u : U} (h : w.ownsRow B 9 1 (.slice A n c) n (u.pth.map Value.string)) : Pt w u A n c := by
  obtain ⟨A', c', e, h1, h2, h3⟩ := owns_form h
  cases e
  exact ⟨⟨h3, h1, h2⟩⟩
theorem stab13 {zs : Array Value} {bv : Value} {u : U} {w0 w : World} {B : Nat} {L : Nat → Bool} {t : Nat → Value} {v : Value} {ty : TypeId} (i : Nat) (hi : (i == 13 || i == 14 || i == 15 || i == 17 || i == 18) = false) {w' : World} (hb : Below w.heap.size w w') (hG : Regb.PB ty zs (UQ u) bv w0 B 13 L t w) : Regb.PB ty zs (UQ u) bv w0 B 13 (did L i) (upd t i v) w' := by
  simp only [Bool.or_eq_false_iff, beq_eq_false_iff_ne] at hi
  obtain ⟨⟨⟨⟨h0, h1⟩, h2⟩, h4⟩, h5⟩ := hi
  exact Regb.stab (uq_stays u) i (Ne.symm h0) (Ne.symm h1) (Ne.symm h2) (Ne.symm h4) (Ne.symm h5) hb hG
theorem brks (r : Nat) (h : r < 3) : ∃ x : UInt8, brk x = true ∧ ∀ (w : World) (g : Nat), w.heap[g]? = some (.cells #[.string ⟨#[9]⟩, .string ⟨#[10]⟩, .string ⟨#[13]⟩] 9 (0, 0)) → w.cell? ⟨g, r, none⟩ = some (.string (strOf [x])) := by
  have hcase : r = 0 ∨ r = 1 ∨ r = 2 := by omega
  rcases hcase with rfl | rfl | rfl
  · exact ⟨9, rfl, fun w g h => cell_of_row w g 0 _ _ _ h⟩
  · exact ⟨10, rfl, fun w g h => cell_of_row w g 1 _ _ _ h⟩
  · exact ⟨13, rfl, fun w g h => cell_of_row w g 2 _ _ _ h⟩
set_option linter.unusedSimpArgs false in
set_option maxRecDepth 100000 in
set_option maxHeartbeats 8000000 in
theorem ParseBlanks_any (s : ByteArray) (za zb : Int) (w : World) (h0 : s.size ≤ 140737488351232) (ha : 0 ≤ za ∧ za ≤ 65535) (hb : 0 ≤ zb ∧ zb ≤ 255) (hT : Tab.Pow w) (hL : Lad w) (hM : Max w) (hU : Utab w) : Calls Tryz.prog 8 #[.string s, .int .u16 za, .int .u8 zb] w fun e w' => e = .returned (.bool true) ∧ Below w.heap.size w w' := by
  have HE := hid (⟨hT, hL, hM, hU⟩ : Env w)
  have HAW : Hid (∀ w : World, Env w → Calls Tryz.prog 15 #[] w fun e w' => e = .returned (.bool true) ∧ Below w.heap.size w w') := fun w E => awake_any w E
  clear hT hL hM hU
  by_cases hl : s.size ≤ 1000
  · have hli : ¬ (1000 : Int) < (s.size : Int) := by omega
    obtain ⟨ha0, ha1⟩ := ha
    obtain ⟨hb0, hb1⟩ := hb
    obtain ⟨y, rfl⟩ : ∃ y : Nat, zb = (y : Int) := ⟨zb.toNat, by omega⟩
    obtain ⟨a, rfl⟩ : ∃ a : Nat, za = (a : Int) := ⟨za.toNat, by omega⟩
    obtain ⟨r, hr⟩ : ∃ r, r = y % 3 := ⟨_, rfl⟩
    have hr3 : r < 3 := by omega
    have hr3' : (r : Int) < 3 := by omega
    have hm1 : (y : Int).tmod 3 = (r : Int) := by rw [Int.tmod_eq_emod_of_nonneg (by omega)]; omega
    have hm2 : (y : Int) % 3 = (r : Int) := by omega
    obtain ⟨k, hk⟩ : ∃ k, k = a % (s.size + 1) := ⟨_, rfl⟩
    have hkn : k ≤ s.size := by rw [hk]; have := Nat.mod_lt a (show 0 < s.size + 1 by omega); omega
    have hkn' : (k : Int) ≤ (s.size : Int) := by omega
    have hk2 : (a : Int) % ((s.size : Int) + 1) = (k : Int) := by rw [hk]; simp
    have hk1 : (a : Int).tmod ((s.size : Int) + 1) = (k : Int) := by rw [Int.tmod_eq_emod_of_nonneg (by omega)]; exact hk2
    have hk0 : ¬ ((s.size : Int) + 1 = 0) := by omega
    obtain ⟨x, hx, hxc⟩ := brks r hr3
    obtain ⟨L, hLd⟩ : ∃ L, L = s.data.toList := ⟨_, rfl⟩
    have hLn : L.length = s.size := by rw [hLd]; exact Array.length_toList
    obtain ⟨J1, hJ1⟩ : ∃ J, J = strOf ([32, 0] ++ L) := ⟨_, rfl⟩
    obtain ⟨J2, hJ2⟩ : ∃ J, J = strOf ([32, 0] ++ L ++ [31, 32]) := ⟨_, rfl⟩
    have b1 : ∀ w, (Op.stringOp .add ⟨#[32, 0]⟩ s).run Tryz.prog w = .ok (.string J1) w := fun w => by
      have h := str_add' (P := Tryz.prog) ⟨#[32, 0]⟩ s w (by show 2 + s.size ≤ _; omega)
      rw [h, hJ1, hLd]
    have b2 : ∀ w, (Op.stringOp .add J1 ⟨#[31, 32]⟩).run Tryz.prog w = .ok (.string J2) w := fun w => by
      have h := str_add' (P := Tryz.prog) J1 ⟨#[31, 32]⟩ w (by rw [hJ1, size_strOf, List.length_append, hLn]; show _ + _ + 2 ≤ _; simp only [List.length_cons, List.length_nil]; omega)
      rw [h, hJ2, hJ1]
      rfl
    have hJs2 : J2.size ≤ 65536 := by rw [hJ2, size_strOf, List.length_append, List.length_append, hLn]; simp only [List.length_cons, List.length_nil]; omega
    have hu2 : PrsP.url J2.data.toList none = PrsP.url s.data.toList none := by rw [hJ2, ← hLd]; exact url_clean none (clean_ends L)
    obtain ⟨M, hMd⟩ : ∃ M, M = L.take k ++ [x] := ⟨_, rfl⟩
    obtain ⟨J, hJ⟩ : ∃ J, J = M ++ L.drop k := ⟨_, rfl⟩
    have adM : ∀ w, (Op.stringOp .add (strOf (L.take k)) (strOf [x])).run Tryz.prog w = .ok (.string (strOf M)) w := fun w => by
      have h := str_add' (P := Tryz.prog) (strOf (L.take k)) (strOf [x]) w (by rw [size_strOf, size_strOf, List.length_take]; simp only [List.length_cons, List.length_nil]; omega)
      rw [h, hMd]
      rfl
    have hMl : M.length ≤ 1001 := by rw [hMd, List.length_append, List.length_take]; simp only [List.length_cons, List.length_nil]; omega
    have adJ : ∀ w, (Op.stringOp .add (strOf M) (strOf (L.drop k))).run Tryz.prog w = .ok (.string (strOf J)) w := fun w => by
      have h := str_add' (P := Tryz.prog) (strOf M) (strOf (L.drop k)) w (by rw [size_strOf, size_strOf, List.length_drop]; omega)
      rw [h, hJ]
      rfl
    have hJs : (strOf J).size ≤ 65536 := by rw [size_strOf, hJ, List.length_append, List.length_drop]; omega
    have hu3 : (∀ c ∈ s.data.toList, c.toNat ≤ 126) → PrsP.url (strOf J).data.toList none = PrsP.url s.data.toList none := fun h => by
      have e : (strOf J).data.toList = L.take k ++ [x] ++ L.drop k := by rw [hJ, hMd]; rfl
      rw [e, ← hLd]
      have e2 := clean_mid (L.take k) (L.drop k) x (fun c hc => by rw [List.take_append_drop, hLd] at hc; have := h c hc; omega) hx
      rw [List.take_append_drop] at e2
      exact url_clean none e2
    have HU3 := hid hu3
    have HXC := hid hxc
    have HLD := hid hLd
    have hel : strOf (L.take k) = s.extract 0 k := by rw [hLd]; exact (PrsA.str_left s k).symm
    have her : strOf (L.drop k) = s.extract k s.size := by rw [hLd]; exact (PrsA.str_right s k).symm
    have HEL := hid hel
    have HER := hid her
    clear hu3 hxc hx hLd hLn hJ1 hJ2 hMd hJ hMl hr hk hr3 h0 hel her
    cases e1 : PrsP.url s.data.toList none with
    | none =>
      obtain ⟨u0, hu0⟩ : ∃ u0, u0 = U0 := ⟨_, rfl⟩
      have HU0 := hid hu0
      clear hu0
      rw [e1] at hu2
      have HP1 : Hid (∀ w, Env w → Calls Tryz.prog 16 #[.string s, .pointer none] w fun e w' => ∃ A' n' c', e = .returned (.tuple #[.agg #[.string (strOf u0.sch), .string (strOf u0.usr), .string (strOf u0.pwd), .string (strOf u0.hst), .bool u0.hh, .int .i64 u0.port, .bool u0.opq, .string (strOf u0.txt), .slice A' n' c', .bool u0.hq, .bool u0.hf, .string (strOf u0.qry), .string (strOf u0.frg)], .int .i64 2]) ∧ Pt w' u0 A' n' c' ∧ Below w.heap.size w w') := fun w E => parse_none HU0.out e1 (by omega) w E
      have HP2 : Hid (∀ w, Env w → Calls Tryz.prog 16 #[.string J2, .pointer none] w fun e w' => ∃ A' n' c', e = .returned (.tuple #[.agg #[.string (strOf u0.sch), .string (strOf u0.usr), .string (strOf u0.pwd), .string (strOf u0.hst), .bool u0.hh, .int .i64 u0.port, .bool u0.opq, .string (strOf u0.txt), .slice A' n' c', .bool u0.hq, .bool u0.hf, .string (strOf u0.qry), .string (strOf u0.frg)], .int .i64 2]) ∧ Pt w' u0 A' n' c' ∧ Below w.heap.size w w') := fun w E => parse_none HU0.out hu2 hJs2 w E
      have HP3 : Hid ((∀ c ∈ s.data.toList, c.toNat ≤ 126) → ∀ w, Env w → Calls Tryz.prog 16 #[.string (strOf J), .pointer none] w fun e w' => ∃ A' n' c', e = .returned (.tuple #[.agg #[.string (strOf u0.sch), .string (strOf u0.usr), .string (strOf u0.pwd), .string (strOf u0.hst), .bool u0.hh, .int .i64 u0.port, .bool u0.opq, .string (strOf u0.txt), .slice A' n' c', .bool u0.hq, .bool u0.hf, .string (strOf u0.qry), .string (strOf u0.frg)], .int .i64 2]) ∧ Ow w w' u0 A' n' c' ∧ Below w.heap.size w w') := fun h w E => parse_own (o := none) (by have h3 := HU3.out h; rw [e1] at h3; exact h3) HU0.out.symm rfl hJs w E
      clear e1 hu2 hJs2 HU3
      go_enter Tryz.func8, Tryz.ntmps8
      go_wp2_with fail
      refine (HAW.out _ HE.out).mono ?_
      rintro e w1 ⟨rfl, hb⟩
      have HB1 := hid hb
      have E_1 := hid (HE.out.below hb)
      clear hb
      go_upto_region 5 with (fail)
      generalize hwa : World.alloc _ _ = v2
      have hxl : v2.heap[w1.heap.size]? = some (.cells #[.string ⟨#[9]⟩, .string ⟨#[10]⟩, .string ⟨#[13]⟩] 9 (0, 0)) := by rw [← hwa]; exact heap_alloc_new _ _
      have hb : Below w1.heap.size w1 v2 := by rw [← hwa]; exact (Below.refl _ _).alloc (Nat.le_refl _) _
      have hcl := HXC.out _ _ hxl
      have hll : w1.heap.size < v2.heap.size := (Array.getElem?_eq_some_iff.1 hxl).1
      have RL := hid (⟨hcl, hll⟩ : Lc v2 w1.heap.size r x)
      clear hwa hxl hcl hll
      have HB2 := hid (bel HB1.out hb)
      have E_2 := hid (E_1.out.below hb)
      clear hb
      go_wp2_with fail
      refine (HP1.out _ E_2.out).mono ?_
      rintro e w3 ⟨A1, n1, c1, rfl, hpt, hb⟩
      have HB3 := hid (bel HB2.out hb)
      have E_3 := hid (E_2.out.below hb)
      have RL_3 := hid (RL.out.below hb)
      clear hb
      have T1 := hid (hpt)
      clear hpt
      go_upto_region 6 with (fail)
      generalize hwa : World.alloc _ _ = v4
      have hxa : UB v4 (w3.heap.size) u0 (.slice A1 n1 c1) := by rw [← hwa]; exact heap_alloc_new _ _
      have hb : Below w3.heap.size w3 v4 := by rw [← hwa]; exact (Below.refl _ _).alloc (Nat.le_refl _) _
      have X1 := hid hxa
      clear hwa hxa
      have HB4 := hid (bel HB3.out hb)
      have E_4 := hid (E_3.out.below hb)
      have RL_4 := hid (RL_3.out.below hb)
      have T1_4 := hid (T1.out.below hb)
      clear hb
      go_wp2_with fail
      refine (HP2.out _ E_4.out).mono ?_
      rintro e w5 ⟨A2, n2, c2, rfl, hpt, hb⟩
      have HB5 := hid (bel HB4.out hb)
      have E_5 := hid (E_4.out.below hb)
      have RL_5 := hid (RL_4.out.below hb)
      have T1_5 := hid (T1_4.out.below hb)
      have X1_5 := hid (X1.out.below hb)
      clear hb
      have T2 := hid (hpt)
      clear hpt
      go_upto_region 7 with (fail)
      generalize hwa : World.alloc _ _ = v6
      have hxa : UB v6 (w5.heap.size) u0 (.slice A2 n2 c2) := by rw [← hwa]; exact heap_alloc_new _ _
      have hb : Below w5.heap.size w5 v6 := by rw [← hwa]; exact (Below.refl _ _).alloc (Nat.le_refl _) _
      have X2 := hid hxa
      clear hwa hxa
      have HB6 := hid (bel HB5.out hb)
      have E_6 := hid (E_5.out.below hb)
      have RL_6 := hid (RL_5.out.below hb)
      have T1_6 := hid (T1_5.out.below hb)
      have X1_6 := hid (X1_5.out.below hb)
      have T2_6 := hid (T2.out.below hb)
      clear hb
      go_wp2
      go_loopw [13, 58] (fun _ vk wrd => ∃ j : Nat, j ≤ s.size ∧ vk = .int .i64 (j : Int) ∧ wrd = v6 ∧ Hid (∀ i (h : i < s.data.toList.length), i < j → (s.data.toList[i]).toNat ≤ 126)) (fun _ vk _ => s.size - (intOf vk).toNat)
      case atStart => exact ⟨0, Nat.zero_le _, rfl, rfl, fun i _ h => by omega⟩
      case round =>
        obtain ⟨j, hj, rfl, hwr, HNOd⟩ := hrel
        subst hwr
        by_cases hlt : j < s.size
        · obtain ⟨x, hx⟩ : ∃ x, s[j] = x := ⟨_, rfl⟩
          have hxl : s.data.toList[j]'(by rw [Ulw.dl]; exact hlt) = x := hx
          by_cases h0 : 126 < x.toNat
          · have q0 : (126 : Int) < (x.toNat : Int) := by omega
            clear hxl
            go_wp2
            go_ret
            exact ⟨rfl, HB6.out⟩
          have q0 : ¬ (126 : Int) < (x.toNat : Int) := by omega
          have HNO2 : Hid (∀ i (h : i < s.data.toList.length), i < j + 1 → (s.data.toList[i]).toNat ≤ 126) := by
            intro i h hi
            by_cases hij : i < j
            · exact HNOd.out i h hij
            · obtain rfl : i = j := by omega
              rw [hxl]
              exact by omega
          clear hxl h0
          go_wp2
          go_roundw
          case rel => exact ⟨j + 1, by omega, by go_num, by first | rfl | trivial, HNO2.out⟩
          case measure => simp [intOf]; omega
        · obtain rfl : j = s.size := by omega
          have halld : ∀ c ∈ s.data.toList, c.toNat ≤ 126 := fun c hc => by
            obtain ⟨i, hi, rfl⟩ := List.getElem_of_mem hc
            exact HNOd.out i hi (by rw [← Ulw.dl]; exact hi)
          have HALLd := hid halld
          clear HNOd halld
          have HQ3 := hid (HP3.out HALLd.out)
          clear HP3
          go_upto_region 15 with (fail)
          refine wp_region_inv (by kernel_rfl) (Regb.PB 25 #[.string ⟨#[]⟩, .string ⟨#[]⟩, .string ⟨#[]⟩, .string ⟨#[]⟩, .bool false, .int .i64 0, .bool false, .string ⟨#[]⟩, .slice none 0 0, .bool false, .bool false, .string ⟨#[]⟩, .string ⟨#[]⟩] (UQ u0) (.int .i64 2) wr wr.heap.size 13) [is (.string s), is (.int .i64 (k : Int)), is (.string (s.extract 0 k)), is (.slice (some ⟨w1.heap.size, 0, none⟩) 3 3), is (.int .u8 (y : Int)), is (.int .u8 (r : Int)), is (.pointer (some ⟨w1.heap.size, r, none⟩)), is (.string (strOf [x])), is (.string (strOf M)), is (.string s), is (.int .i64 (k : Int)), is (.string (s.extract k s.size)), is (.string (strOf J)), any, any, any, is (.int .i64 2), any, any, is (.int .i64 2)] [[], [], [0, 1], [], [], [4], [3, 5], [6], [2, 7], [], [], [9, 10], [8, 11], [12], [13], [14], [14], [], [15, 17], [16]] (by kernel_rfl) (by repeat (first | exact free_nil | refine free_is _ ?_ | refine free_any ?_)) ?_ ?_ ?_
          · exact fun t => ⟨⟨rfl, rfl, rfl, Nat.le_refl _, fun _ _ => rfl⟩, Nat.le_refl _, (fun h => by cases h), (fun h => by cases h)⟩
          · refine ⟨?_, ?_, ?_, ?_, ?_, ?_, ?_, ?_, ?_, ?_, ?_, ?_, ?_, ?_, ?_, ?_, ?_, ?_, ?_, ?_, trivial⟩
            · intro L t wq hG hL hC hN hh K hK
              clear hh
              simp only [filled, upd, Have, is, any, row, pick, Act.put, List.setIfInBounds_toArray, List.set_cons_zero, List.set_cons_succ, Nat.reduceAdd, Nat.reduceEqDiff, reduceIte] at hK ⊢
              go_simp
              exact hK _ _ rfl (stab13 0 (by decide) (Below.refl _ _) hG)
            · intro L t wq hG hL hC hN hh K hK
              clear hh
              simp only [filled, upd, Have, is, any, row, pick, Act.put, List.setIfInBounds_toArray, List.set_cons_zero, List.set_cons_succ, Nat.reduceAdd, Nat.reduceEqDiff, reduceIte] at hK ⊢
              go_simp
              exact hK _ _ rfl (stab13 1 (by decide) (Below.refl _ _) hG)
            · intro L t wq hG hL hC hN hh K hK
              have e0 := hh.1
              simp only [pick] at e0
              replace e0 : t 0 = (.string s) := e0
              have e1 := hh.2.1
              simp only [pick] at e1
              replace e1 : t 1 = (.int .i64 (k : Int)) := e1
              clear hh
              simp only [filled, upd, Have, is, any, row, pick, Act.put, List.setIfInBounds_toArray, List.set_cons_zero, List.set_cons_succ, Nat.reduceAdd, Nat.reduceEqDiff, reduceIte] at hK ⊢
              simp only [e0, e1] at hK ⊢
              go_simp
              exact hK _ _ (by first | rfl | simp) (stab13 2 (by decide) (Below.refl _ _) hG)
            · intro L t wq hG hL hC hN hh K hK
              clear hh
              simp only [filled, upd, Have, is, any, row, pick, Act.put, List.setIfInBounds_toArray, List.set_cons_zero, List.set_cons_succ, Nat.reduceAdd, Nat.reduceEqDiff, reduceIte] at hK ⊢
              go_simp
              exact hK _ _ rfl (stab13 3 (by decide) (Below.refl _ _) hG)
            · intro L t wq hG hL hC hN hh K hK
              clear hh
              simp only [filled, upd, Have, is, any, row, pick, Act.put, List.setIfInBounds_toArray, List.set_cons_zero, List.set_cons_succ, Nat.reduceAdd, Nat.reduceEqDiff, reduceIte] at hK ⊢
              go_simp
              exact hK _ _ rfl (stab13 4 (by decide) (Below.refl _ _) hG)
            · intro L t wq hG hL hC hN hh K hK
              have e4 := hh.1
              simp only [pick] at e4
              replace e4 : t 4 = (.int .u8 (y : Int)) := e4
              clear hh
              simp only [filled, upd, Have, is, any, row, pick, Act.put, List.setIfInBounds_toArray, List.set_cons_zero, List.set_cons_succ, Nat.reduceAdd, Nat.reduceEqDiff, reduceIte] at hK ⊢
              simp only [e4] at hK ⊢
              go_simp
              exact hK _ _ (by first | rfl | simp) (stab13 5 (by decide) (Below.refl _ _) hG)
            · intro L t wq hG hL hC hN hh K hK
              have e3 := hh.1
              simp only [pick] at e3
              replace e3 : t 3 = (.slice (some ⟨w1.heap.size, 0, none⟩) 3 3) := e3
              have e5 := hh.2.1
              simp only [pick] at e5
              replace e5 : t 5 = (.int .u8 (r : Int)) := e5
              clear hh
              simp only [filled, upd, Have, is, any, row, pick, Act.put, List.setIfInBounds_toArray, List.set_cons_zero, List.set_cons_succ, Nat.reduceAdd, Nat.reduceEqDiff, reduceIte] at hK ⊢
              simp only [e3, e5] at hK ⊢
              go_simp
              exact hK _ _ (by first | rfl | simp) (stab13 6 (by decide) (Below.refl _ _) hG)
            · intro L t wq hG hL hC hN hh K hK
              have e6 := hh.1
              simp only [pick] at e6
              replace e6 : t 6 = (.pointer (some ⟨w1.heap.size, r, none⟩)) := e6
              clear hh
              simp only [filled, upd, Have, is, any, row, pick, Act.put, List.setIfInBounds_toArray, List.set_cons_zero, List.set_cons_succ, Nat.reduceAdd, Nat.reduceEqDiff, reduceIte] at hK ⊢
              simp only [e6] at hK ⊢
              have hc := (hG.1.cell (p := ⟨w1.heap.size, r, none⟩) RL_6.out.lt).trans RL_6.out.cell
              go_simp
              exact hK _ _ rfl (stab13 7 (by decide) (Below.refl _ _) hG)
            · intro L t wq hG hL hC hN hh K hK
              have e2 := hh.1
              simp only [pick] at e2
              replace e2 : t 2 = (.string (s.extract 0 k)) := e2
              have e7 := hh.2.1
              simp only [pick] at e7
              replace e7 : t 7 = (.string (strOf [x])) := e7
              clear hh
              simp only [filled, upd, Have, is, any, row, pick, Act.put, List.setIfInBounds_toArray, List.set_cons_zero, List.set_cons_succ, Nat.reduceAdd, Nat.reduceEqDiff, reduceIte] at hK ⊢
              simp only [e2, e7] at hK ⊢
              have hadd := adM wq
              rw [HEL.out] at hadd
              go_simp
              exact hK _ _ rfl (stab13 8 (by decide) (Below.refl _ _) hG)
            · intro L t wq hG hL hC hN hh K hK
              clear hh
              simp only [filled, upd, Have, is, any, row, pick, Act.put, List.setIfInBounds_toArray, List.set_cons_zero, List.set_cons_succ, Nat.reduceAdd, Nat.reduceEqDiff, reduceIte] at hK ⊢
              go_simp
              exact hK _ _ rfl (stab13 9 (by decide) (Below.refl _ _) hG)
            · intro L t wq hG hL hC hN hh K hK
              clear hh
              simp only [filled, upd, Have, is, any, row, pick, Act.put, List.setIfInBounds_toArray, List.set_cons_zero, List.set_cons_succ, Nat.reduceAdd, Nat.reduceEqDiff, reduceIte] at hK ⊢
              go_simp
              exact hK _ _ rfl (stab13 10 (by decide) (Below.refl _ _) hG)
            · intro L t wq hG hL hC hN hh K hK
              have e9 := hh.1
              simp only [pick] at e9
              replace e9 : t 9 = (.string s) := e9
              have e10 := hh.2.1
              simp only [pick] at e10
              replace e10 : t 10 = (.int .i64 (k : Int)) := e10
              clear hh
              simp only [filled, upd, Have, is, any, row, pick, Act.put, List.setIfInBounds_toArray, List.set_cons_zero, List.set_cons_succ, Nat.reduceAdd, Nat.reduceEqDiff, reduceIte] at hK ⊢
              simp only [e9, e10] at hK ⊢
              go_simp
              exact hK _ _ (by first | rfl | simp) (stab13 11 (by decide) (Below.refl _ _) hG)
            · intro L t wq hG hL hC hN hh K hK
              have e8 := hh.1
              simp only [pick] at e8
              replace e8 : t 8 = (.string (strOf M)) := e8
              have e11 := hh.2.1
              simp only [pick] at e11
              replace e11 : t 11 = (.string (s.extract k s.size)) := e11
              clear hh
              simp only [filled, upd, Have, is, any, row, pick, Act.put, List.setIfInBounds_toArray, List.set_cons_zero, List.set_cons_succ, Nat.reduceAdd, Nat.reduceEqDiff, reduceIte] at hK ⊢
              simp only [e8, e11] at hK ⊢
              have hadd := adJ wq
              rw [HER.out] at hadd
              go_simp
              exact hK _ _ rfl (stab13 12 (by decide) (Below.refl _ _) hG)
            · intro L t wq hG hL hC hN hh K hK
              have e12 := hh.1
              simp only [pick] at e12
              replace e12 : t 12 = (.string (strOf J)) := e12
              clear hh
              simp only [filled, upd, Have, is, any, row, pick, Act.put, List.setIfInBounds_toArray, List.set_cons_zero, List.set_cons_succ, Nat.reduceAdd, Nat.reduceEqDiff, reduceIte] at hK ⊢
              simp only [e12] at hK ⊢
              go_simp
              have z1 : L 14 = false := (by cases h : L 14 with | false => rfl | true => exact absurd (hC 14 h 13 (by decide)) (by rw [hL]; decide))
              have z2 : L 15 = false := (by cases h : L 15 with | false => rfl | true => exact absurd (hC 15 h 14 (by decide)) (by rw [z1]; decide))
              have z5 : L 18 = false := (by cases h : L 18 with | false => rfl | true => exact absurd (hC 18 h 15 (by decide)) (by rw [z2]; decide))
              refine (HQ3.out _ (E_6.out.below hG.1)).mono ?_
              rintro e w5 ⟨A3, n3, c3, rfl, how, hb5⟩
              exact hK _ _ trivial (Regb.call z1 z2 z5 hb5 (show UQ u0 w5 (cells u0 (.slice A3 n3 c3)) from ⟨A3, n3, c3, _, rfl, how.own⟩) hG)
            · intro L t wq hG hL hC hN hh K hK
              clear hh
              simp only [filled, upd, Have, is, any, row, pick, Act.put, List.setIfInBounds_toArray, List.set_cons_zero, List.set_cons_succ, Nat.reduceAdd, Nat.reduceEqDiff, reduceIte] at hK ⊢
              go_simp
              exact hK _ _ trivial (Regb.move (hN 13 (by decide)) hG)
            · intro L t wq hG hL hC hN hh K hK
              clear hh
              simp only [filled, upd, Have, is, any, row, pick, Act.put, List.setIfInBounds_toArray, List.set_cons_zero, List.set_cons_succ, Nat.reduceAdd, Nat.reduceEqDiff, reduceIte] at hK ⊢
              have l1 : L 14 = true := hN 14 (by decide)
              have l0 : L 13 = true := hC 14 l1 13 (by decide)
              obtain ⟨cs, hq, e0, e1, e2⟩ := Regb.get l0 hG
              have e := e1 l1
              clear e0 e1 e2
              simp only [e] at hK ⊢
              go_simp
              exact hK _ _ trivial (Regb.part l0 l1 e hG)
            · intro L t wq hG hL hC hN hh K hK
              clear hh
              simp only [filled, upd, Have, is, any, row, pick, Act.put, List.setIfInBounds_toArray, List.set_cons_zero, List.set_cons_succ, Nat.reduceAdd, Nat.reduceEqDiff, reduceIte] at hK ⊢
              have l1 : L 14 = true := hN 14 (by decide)
              have l0 : L 13 = true := hC 14 l1 13 (by decide)
              obtain ⟨cs, hq, e0, e1, e2⟩ := Regb.get l0 hG
              have e := e1 l1
              clear e0 e1 e2
              simp only [e] at hK ⊢
              go_simp
              exact hK _ _ rfl (stab13 16 (by decide) (Below.refl _ _) hG)
            · intro L t wq hG hL hC hN hh K hK
              clear hh
              simp only [filled, upd, Have, is, any, row, pick, Act.put, List.setIfInBounds_toArray, List.set_cons_zero, List.set_cons_succ, Nat.reduceAdd, Nat.reduceEqDiff, reduceIte] at hK ⊢
              go_simp
              exact hK _ _ trivial (Regb.alloc (uq_stays _) (by cases h : L 18 with | false => rfl | true => exact absurd (hC 18 h 17 (by decide)) (by rw [hL]; decide)) hG)
            · intro L t wq hG hL hC hN hh K hK
              clear hh
              simp only [filled, upd, Have, is, any, row, pick, Act.put, List.setIfInBounds_toArray, List.set_cons_zero, List.set_cons_succ, Nat.reduceAdd, Nat.reduceEqDiff, reduceIte] at hK ⊢
              have l4 : L 17 = true := hN 17 (by decide)
              have l2 : L 15 = true := hN 15 (by decide)
              have l1 : L 14 = true := hC 15 l2 14 (by decide)
              have l0 : L 13 = true := hC 14 l1 13 (by decide)
              obtain ⟨cs, ⟨A3, n3, c3, B3, rfl, how⟩, e0, e1, e2⟩ := Regb.get l0 hG
              have e := e2 l2
              clear e0 e1 e2
              obtain ⟨p, hp, hp1, hp2, hp3⟩ := hG.2.2.2 l4
              simp only [e, hp] at hK ⊢
              have hz := hp3 hL
              have hU0 : UB wq p U0 (.slice none 0 0) := hz
              obtain ⟨ka0, ka1, ka2, ka3, ka4, ka5, ka6, ka7, ka8, ka9, ka10, ka11, ka12⟩ := hU0.facts
              obtain ⟨kb0, kb1, kb2, kb3, kb4, kb5, kb6, kb7, kb8, kb9, kb10, kb11, kb12⟩ := hU0.thaw
              simp only [cells] at hK ⊢
              go_simp
              exact hK undef (Ubx.put wq p u0 (.slice A3 n3 c3)) trivial (Regb.store l0 l2 l4 e hp (Ubx.below_put hG.1 hp1 u0 _) (by simp [Ubx.put]) ⟨A3, n3, c3, B3, rfl, own_put how hz u0 _⟩ (hU0.put u0 (.slice A3 n3 c3)) hG)
            · intro L t wq hG hL hC hN hh K hK
              have e16 := hh.1
              simp only [pick] at e16
              replace e16 : t 16 = (.int .i64 2) := e16
              clear hh
              simp only [filled, upd, Have, is, any, row, pick, Act.put, List.setIfInBounds_toArray, List.set_cons_zero, List.set_cons_succ, Nat.reduceAdd, Nat.reduceEqDiff, reduceIte] at hK ⊢
              simp only [e16] at hK ⊢
              go_simp
              exact hK _ _ rfl (stab13 19 (by decide) (Below.refl _ _) hG)
          · intro Lz t wq hG hall hh
            have f19 := have_get hh 19 (by decide)
            simp only [pick] at f19
            replace f19 : t 19 = (.int .i64 2) := f19
            clear hh
            simp only [filled, upd, Have, is, any, row, pick, Act.put, List.setIfInBounds_toArray, List.set_cons_zero, List.set_cons_succ, Nat.reduceAdd, Nat.reduceEqDiff, reduceIte]
            simp only [f19]
            obtain ⟨cs, p, ⟨A3, n3, c3, B3, rfl, how⟩, hp, hx3⟩ := Regb.last (hall 13 (by decide)) (hall 17 (by decide)) (hall 18 (by decide)) hG
            simp only [hp]
            have hb := hG.1
            clear hG hall
            have HB7 := hid (bel HB6.out hb)
            have E_7 := hid (E_6.out.below hb)
            have RL_7 := hid (RL_6.out.below hb)
            have T1_7 := hid (T1_6.out.below hb)
            have X1_7 := hid (X1_6.out.below hb)
            have T2_7 := hid (T2_6.out.below hb)
            have X2_7 := hid (X2.out.below hb)
            clear hb
            have X3 : Hid (UB wq p u0 (.slice A3 n3 c3)) := hx3
            have T3 := hid (own_pt how)
            clear hx3 how
            go_upto_region 16 with (fail)
            go_wp2
            go_ret
            exact ⟨rfl, HB7.out⟩
    | some u =>
      rw [e1] at hu2
      have HP1 : Hid (∀ w, Env w → Calls Tryz.prog 16 #[.string s, .pointer none] w fun e w' => ∃ A' n' c', e = .returned (.tuple #[.agg #[.string (strOf u.sch), .string (strOf u.usr), .string (strOf u.pwd), .string (strOf u.hst), .bool u.hh, .int .i64 u.port, .bool u.opq, .string (strOf u.txt), .slice A' n' c', .bool u.hq, .bool u.hf, .string (strOf u.qry), .string (strOf u.frg)], .int .i64 0]) ∧ Pt w' u A' n' c' ∧ Below w.heap.size w w') := fun w E => parse_some e1 (by omega) w E
      have HP2 : Hid (∀ w, Env w → Calls Tryz.prog 16 #[.string J2, .pointer none] w fun e w' => ∃ A' n' c', e = .returned (.tuple #[.agg #[.string (strOf u.sch), .string (strOf u.usr), .string (strOf u.pwd), .string (strOf u.hst), .bool u.hh, .int .i64 u.port, .bool u.opq, .string (strOf u.txt), .slice A' n' c', .bool u.hq, .bool u.hf, .string (strOf u.qry), .string (strOf u.frg)], .int .i64 0]) ∧ Pt w' u A' n' c' ∧ Below w.heap.size w w') := fun w E => parse_some hu2 hJs2 w E
      have HP3 : Hid ((∀ c ∈ s.data.toList, c.toNat ≤ 126) → ∀ w, Env w → Calls Tryz.prog 16 #[.string (strOf J), .pointer none] w fun e w' => ∃ A' n' c', e = .returned (.tuple #[.agg #[.string (strOf u.sch), .string (strOf u.usr), .string (strOf u.pwd), .string (strOf u.hst), .bool u.hh, .int .i64 u.port, .bool u.opq, .string (strOf u.txt), .slice A' n' c', .bool u.hq, .bool u.hf, .string (strOf u.qry), .string (strOf u.frg)], .int .i64 0]) ∧ Ow w w' u A' n' c' ∧ Below w.heap.size w w') := fun h w E => parse_own (o := some u) (by have h3 := HU3.out h; rw [e1] at h3; exact h3) rfl rfl hJs w E
      clear e1 hu2 hJs2 HU3
      go_enter Tryz.func8, Tryz.ntmps8
      go_wp2_with fail
      refine (HAW.out _ HE.out).mono ?_
      rintro e w1 ⟨rfl, hb⟩
      have HB1 := hid hb
      have E_1 := hid (HE.out.below hb)
      clear hb
      go_upto_region 5 with (fail)
      generalize hwa : World.alloc _ _ = v2
      have hxl : v2.heap[w1.heap.size]? = some (.cells #[.string ⟨#[9]⟩, .string ⟨#[10]⟩, .string ⟨#[13]⟩] 9 (0, 0)) := by rw [← hwa]; exact heap_alloc_new _ _
      have hb : Below w1.heap.size w1 v2 := by rw [← hwa]; exact (Below.refl _ _).alloc (Nat.le_refl _) _
      have hcl := HXC.out _ _ hxl
      have hll : w1.heap.size < v2.heap.size := (Array.getElem?_eq_some_iff.1 hxl).1
      have RL := hid (⟨hcl, hll⟩ : Lc v2 w1.heap.size r x)
      clear hwa hxl hcl hll
      have HB2 := hid (bel HB1.out hb)
      have E_2 := hid (E_1.out.below hb)
      clear hb
      go_wp2_with fail
      refine (HP1.out _ E_2.out).mono ?_
      rintro e w3 ⟨A1, n1, c1, rfl, hpt, hb⟩
      have HB3 := hid (bel HB2.out hb)
      have E_3 := hid (E_2.out.below hb)
      have RL_3 := hid (RL.out.below hb)
      clear hb
      have T1 := hid (hpt)
      clear hpt
      go_upto_region 6 with (fail)
      generalize hwa : World.alloc _ _ = v4
      have hxa : UB v4 (w3.heap.size) u (.slice A1 n1 c1) := by rw [← hwa]; exact heap_alloc_new _ _
      have hb : Below w3.heap.size w3 v4 := by rw [← hwa]; exact (Below.refl _ _).alloc (Nat.le_refl _) _
      have X1 := hid hxa
      clear hwa hxa
      have HB4 := hid (bel HB3.out hb)
      have E_4 := hid (E_3.out.below hb)
      have RL_4 := hid (RL_3.out.below hb)
      have T1_4 := hid (T1.out.below hb)
      clear hb
      go_wp2_with fail
      refine (HP2.out _ E_4.out).mono ?_
      rintro e w5 ⟨A2, n2, c2, rfl, hpt, hb⟩
      have HB5 := hid (bel HB4.out hb)
      have E_5 := hid (E_4.out.below hb)
      have RL_5 := hid (RL_4.out.below hb)
      have T1_5 := hid (T1_4.out.below hb)
      have X1_5 := hid (X1.out.below hb)
      clear hb
      have T2 := hid (hpt)
      clear hpt
      go_upto_region 7 with (fail)
      generalize hwa : World.alloc _ _ = v6
      have hxa : UB v6 (w5.heap.size) u (.slice A2 n2 c2) := by rw [← hwa]; exact heap_alloc_new _ _
      have hb : Below w5.heap.size w5 v6 := by rw [← hwa]; exact (Below.refl _ _).alloc (Nat.le_refl _) _
      have X2 := hid hxa
      clear hwa hxa
      have HB6 := hid (bel HB5.out hb)
      have E_6 := hid (E_5.out.below hb)
      have RL_6 := hid (RL_5.out.below hb)
      have T1_6 := hid (T1_5.out.below hb)
      have X1_6 := hid (X1_5.out.below hb)
      have T2_6 := hid (T2.out.below hb)
      clear hb
      obtain ⟨ka0, ka1, ka2, ka3, ka4, ka5, ka6, ka7, ka8, ka9, ka10, ka11, ka12⟩ := X1_6.out.facts
      obtain ⟨kb0, kb1, kb2, kb3, kb4, kb5, kb6, kb7, kb8, kb9, kb10, kb11, kb12⟩ := X2.out.facts
      go_wp2_with fail
      clear ka0 ka1 ka2 ka3 ka4 ka5 ka6 ka7 ka8 ka9 ka10 ka11 ka12 kb0 kb1 kb2 kb3 kb4 kb5 kb6 kb7 kb8 kb9 kb10 kb11 kb12
      refine (same_yes u _ _ _ _ _ _ _ T1_6.out T2_6.out).mono ?_
      rintro e w7 ⟨rfl, hb⟩
      have HB7 := hid (bel HB6.out hb)
      have E_7 := hid (E_6.out.below hb)
      have RL_7 := hid (RL_6.out.below hb)
      have T1_7 := hid (T1_6.out.below hb)
      have X1_7 := hid (X1_6.out.below hb)
      have T2_7 := hid (T2_6.out.below hb)
      have X2_7 := hid (X2.out.below hb)
      clear hb
      go_wp2
      go_loopw [13, 58] (fun _ vk wrd => ∃ j : Nat, j ≤ s.size ∧ vk = .int .i64 (j : Int) ∧ wrd = w7 ∧ Hid (∀ i (h : i < s.data.toList.length), i < j → (s.data.toList[i]).toNat ≤ 126)) (fun _ vk _ => s.size - (intOf vk).toNat)
      case atStart => exact ⟨0, Nat.zero_le _, rfl, rfl, fun i _ h => by omega⟩
      case round =>
        obtain ⟨j, hj, rfl, hwr, HNOd⟩ := hrel
        subst hwr
        by_cases hlt : j < s.size
        · obtain ⟨x, hx⟩ : ∃ x, s[j] = x := ⟨_, rfl⟩
          have hxl : s.data.toList[j]'(by rw [Ulw.dl]; exact hlt) = x := hx
          by_cases h0 : 126 < x.toNat
          · have q0 : (126 : Int) < (x.toNat : Int) := by omega
            clear hxl
            go_wp2
            go_ret
            exact ⟨rfl, HB7.out⟩
          have q0 : ¬ (126 : Int) < (x.toNat : Int) := by omega
          have HNO2 : Hid (∀ i (h : i < s.data.toList.length), i < j + 1 → (s.data.toList[i]).toNat ≤ 126) := by
            intro i h hi
            by_cases hij : i < j
            · exact HNOd.out i h hij
            · obtain rfl : i = j := by omega
              rw [hxl]
              exact by omega
          clear hxl h0
          go_wp2
          go_roundw
          case rel => exact ⟨j + 1, by omega, by go_num, by first | rfl | trivial, HNO2.out⟩
          case measure => simp [intOf]; omega
        · obtain rfl : j = s.size := by omega
          have halld : ∀ c ∈ s.data.toList, c.toNat ≤ 126 := fun c hc => by
            obtain ⟨i, hi, rfl⟩ := List.getElem_of_mem hc
            exact HNOd.out i hi (by rw [← Ulw.dl]; exact hi)
          have HALLd := hid halld
          clear HNOd halld
          have HQ3 := hid (HP3.out HALLd.out)
          clear HP3
          go_upto_region 15 with (fail)
          refine wp_region_inv (by kernel_rfl) (Regb.PB 25 #[.string ⟨#[]⟩, .string ⟨#[]⟩, .string ⟨#[]⟩, .string ⟨#[]⟩, .bool false, .int .i64 0, .bool false, .string ⟨#[]⟩, .slice none 0 0, .bool false, .bool false, .string ⟨#[]⟩, .string ⟨#[]⟩] (UQ u) (.int .i64 0) wr wr.heap.size 13) [is (.string s), is (.int .i64 (k : Int)), is (.string (s.extract 0 k)), is (.slice (some ⟨w1.heap.size, 0, none⟩) 3 3), is (.int .u8 (y : Int)), is (.int .u8 (r : Int)), is (.pointer (some ⟨w1.heap.size, r, none⟩)), is (.string (strOf [x])), is (.string (strOf M)), is (.string s), is (.int .i64 (k : Int)), is (.string (s.extract k s.size)), is (.string (strOf J)), any, any, any, is (.int .i64 0), any, any, is (.int .i64 0)] [[], [], [0, 1], [], [], [4], [3, 5], [6], [2, 7], [], [], [9, 10], [8, 11], [12], [13], [14], [14], [], [15, 17], [16]] (by kernel_rfl) (by repeat (first | exact free_nil | refine free_is _ ?_ | refine free_any ?_)) ?_ ?_ ?_
          · exact fun t => ⟨⟨rfl, rfl, rfl, Nat.le_refl _, fun _ _ => rfl⟩, Nat.le_refl _, (fun h => by cases h), (fun h => by cases h)⟩
          · refine ⟨?_, ?_, ?_, ?_, ?_, ?_, ?_, ?_, ?_, ?_, ?_, ?_, ?_, ?_, ?_, ?_, ?_, ?_, ?_, ?_, trivial⟩
            · intro L t wq hG hL hC hN hh K hK
              clear hh
              simp only [filled, upd, Have, is, any, row, pick, Act.put, List.setIfInBounds_toArray, List.set_cons_zero, List.set_cons_succ, Nat.reduceAdd, Nat.reduceEqDiff, reduceIte] at hK ⊢
              go_simp
              exact hK _ _ rfl (stab13 0 (by decide) (Below.refl _ _) hG)
            · intro L t wq hG hL hC hN hh K hK
              clear hh
              simp only [filled, upd, Have, is, any, row, pick, Act.put, List.setIfInBounds_toArray, List.set_cons_zero, List.set_cons_succ, Nat.reduceAdd, Nat.reduceEqDiff, reduceIte] at hK ⊢
              go_simp
              exact hK _ _ rfl (stab13 1 (by decide) (Below.refl _ _) hG)
            · intro L t wq hG hL hC hN hh K hK
              have e0 := hh.1
              simp only [pick] at e0
              replace e0 : t 0 = (.string s) := e0
              have e1 := hh.2.1
              simp only [pick] at e1
              replace e1 : t 1 = (.int .i64 (k : Int)) := e1
              clear hh
              simp only [filled, upd, Have, is, any, row, pick, Act.put, List.setIfInBounds_toArray, List.set_cons_zero, List.set_cons_succ, Nat.reduceAdd, Nat.reduceEqDiff, reduceIte] at hK ⊢
              simp only [e0, e1] at hK ⊢
              go_simp
              exact hK _ _ (by first | rfl | simp) (stab13 2 (by decide) (Below.refl _ _) hG)
            · intro L t wq hG hL hC hN hh K hK
              clear hh
              simp only [filled, upd, Have, is, any, row, pick, Act.put, List.setIfInBounds_toArray, List.set_cons_zero, List.set_cons_succ, Nat.reduceAdd, Nat.reduceEqDiff, reduceIte] at hK ⊢
              go_simp
              exact hK _ _ rfl (stab13 3 (by decide) (Below.refl _ _) hG)
            · intro L t wq hG hL hC hN hh K hK
              clear hh
              simp only [filled, upd, Have, is, any, row, pick, Act.put, List.setIfInBounds_toArray, List.set_cons_zero, List.set_cons_succ, Nat.reduceAdd, Nat.reduceEqDiff, reduceIte] at hK ⊢
              go_simp
              exact hK _ _ rfl (stab13 4 (by decide) (Below.refl _ _) hG)
            · intro L t wq hG hL hC hN hh K hK
              have e4 := hh.1
              simp only [pick] at e4
              replace e4 : t 4 = (.int .u8 (y : Int)) := e4
              clear hh
              simp only [filled, upd, Have, is, any, row, pick, Act.put, List.setIfInBounds_toArray, List.set_cons_zero, List.set_cons_succ, Nat.reduceAdd, Nat.reduceEqDiff, reduceIte] at hK ⊢
              simp only [e4] at hK ⊢
              go_simp
              exact hK _ _ (by first | rfl | simp) (stab13 5 (by decide) (Below.refl _ _) hG)
            · intro L t wq hG hL hC hN hh K hK
              have e3 := hh.1
              simp only [pick] at e3
              replace e3 : t 3 = (.slice (some ⟨w1.heap.size, 0, none⟩) 3 3) := e3
              have e5 := hh.2.1
              simp only [pick] at e5
              replace e5 : t 5 = (.int .u8 (r : Int)) := e5
              clear hh
              simp only [filled, upd, Have, is, any, row, pick, Act.put, List.setIfInBounds_toArray, List.set_cons_zero, List.set_cons_succ, Nat.reduceAdd, Nat.reduceEqDiff, reduceIte] at hK ⊢
              simp only [e3, e5] at hK ⊢
              go_simp
              exact hK _ _ (by first | rfl | simp) (stab13 6 (by decide) (Below.refl _ _) hG)
            · intro L t wq hG hL hC hN hh K hK
              have e6 := hh.1
              simp only [pick] at e6
              replace e6 : t 6 = (.pointer (some ⟨w1.heap.size, r, none⟩)) := e6
              clear hh
              simp only [filled, upd, Have, is, any, row, pick, Act.put, List.setIfInBounds_toArray, List.set_cons_zero, List.set_cons_succ, Nat.reduceAdd, Nat.reduceEqDiff, reduceIte] at hK ⊢
              simp only [e6] at hK ⊢
              have hc := (hG.1.cell (p := ⟨w1.heap.size, r, none⟩) RL_7.out.lt).trans RL_7.out.cell
              go_simp
              exact hK _ _ rfl (stab13 7 (by decide) (Below.refl _ _) hG)
            · intro L t wq hG hL hC hN hh K hK
              have e2 := hh.1
              simp only [pick] at e2
              replace e2 : t 2 = (.string (s.extract 0 k)) := e2
              have e7 := hh.2.1
              simp only [pick] at e7
              replace e7 : t 7 = (.string (strOf [x])) := e7
              clear hh
              simp only [filled, upd, Have, is, any, row, pick, Act.put, List.setIfInBounds_toArray, List.set_cons_zero, List.set_cons_succ, Nat.reduceAdd, Nat.reduceEqDiff, reduceIte] at hK ⊢
              simp only [e2, e7] at hK ⊢
              have hadd := adM wq
              rw [HEL.out] at hadd
              go_simp
              exact hK _ _ rfl (stab13 8 (by decide) (Below.refl _ _) hG)
            · intro L t wq hG hL hC hN hh K hK
              clear hh
              simp only [filled, upd, Have, is, any, row, pick, Act.put, List.setIfInBounds_toArray, List.set_cons_zero, List.set_cons_succ, Nat.reduceAdd, Nat.reduceEqDiff, reduceIte] at hK ⊢
              go_simp
              exact hK _ _ rfl (stab13 9 (by decide) (Below.refl _ _) hG)
            · intro L t wq hG hL hC hN hh K hK
              clear hh
              simp only [filled, upd, Have, is, any, row, pick, Act.put, List.setIfInBounds_toArray, List.set_cons_zero, List.set_cons_succ, Nat.reduceAdd, Nat.reduceEqDiff, reduceIte] at hK ⊢
              go_simp
              exact hK _ _ rfl (stab13 10 (by decide) (Below.refl _ _) hG)
            · intro L t wq hG hL hC hN hh K hK
              have e9 := hh.1
              simp only [pick] at e9
              replace e9 : t 9 = (.string s) := e9
              have e10 := hh.2.1
              simp only [pick] at e10
              replace e10 : t 10 = (.int .i64 (k : Int)) := e10
              clear hh
              simp only [filled, upd, Have, is, any, row, pick, Act.put, List.setIfInBounds_toArray, List.set_cons_zero, List.set_cons_succ, Nat.reduceAdd, Nat.reduceEqDiff, reduceIte] at hK ⊢
              simp only [e9, e10] at hK ⊢
              go_simp
              exact hK _ _ (by first | rfl | simp) (stab13 11 (by decide) (Below.refl _ _) hG)
            · intro L t wq hG hL hC hN hh K hK
              have e8 := hh.1
              simp only [pick] at e8
              replace e8 : t 8 = (.string (strOf M)) := e8
              have e11 := hh.2.1
              simp only [pick] at e11
              replace e11 : t 11 = (.string (s.extract k s.size)) := e11
              clear hh
              simp only [filled, upd, Have, is, any, row, pick, Act.put, List.setIfInBounds_toArray, List.set_cons_zero, List.set_cons_succ, Nat.reduceAdd, Nat.reduceEqDiff, reduceIte] at hK ⊢
              simp only [e8, e11] at hK ⊢
              have hadd := adJ wq
              rw [HER.out] at hadd
              go_simp
              exact hK _ _ rfl (stab13 12 (by decide) (Below.refl _ _) hG)
            · intro L t wq hG hL hC hN hh K hK
              have e12 := hh.1
              simp only [pick] at e12
              replace e12 : t 12 = (.string (strOf J)) := e12
              clear hh
              simp only [filled, upd, Have, is, any, row, pick, Act.put, List.setIfInBounds_toArray, List.set_cons_zero, List.set_cons_succ, Nat.reduceAdd, Nat.reduceEqDiff, reduceIte] at hK ⊢
              simp only [e12] at hK ⊢
              go_simp
              have z1 : L 14 = false := (by cases h : L 14 with | false => rfl | true => exact absurd (hC 14 h 13 (by decide)) (by rw [hL]; decide))
              have z2 : L 15 = false := (by cases h : L 15 with | false => rfl | true => exact absurd (hC 15 h 14 (by decide)) (by rw [z1]; decide))
              have z5 : L 18 = false := (by cases h : L 18 with | false => rfl | true => exact absurd (hC 18 h 15 (by decide)) (by rw [z2]; decide))
              refine (HQ3.out _ (E_7.out.below hG.1)).mono ?_
              rintro e w5 ⟨A3, n3, c3, rfl, how, hb5⟩
              exact hK _ _ trivial (Regb.call z1 z2 z5 hb5 (show UQ u w5 (cells u (.slice A3 n3 c3)) from ⟨A3, n3, c3, _, rfl, how.own⟩) hG)
            · intro L t wq hG hL hC hN hh K hK
              clear hh
              simp only [filled, upd, Have, is, any, row, pick, Act.put, List.setIfInBounds_toArray, List.set_cons_zero, List.set_cons_succ, Nat.reduceAdd, Nat.reduceEqDiff, reduceIte] at hK ⊢
              go_simp
              exact hK _ _ trivial (Regb.move (hN 13 (by decide)) hG)
            · intro L t wq hG hL hC hN hh K hK
              clear hh
              simp only [filled, upd, Have, is, any, row, pick, Act.put, List.setIfInBounds_toArray, List.set_cons_zero, List.set_cons_succ, Nat.reduceAdd, Nat.reduceEqDiff, reduceIte] at hK ⊢
              have l1 : L 14 = true := hN 14 (by decide)
              have l0 : L 13 = true := hC 14 l1 13 (by decide)
              obtain ⟨cs, hq, e0, e1, e2⟩ := Regb.get l0 hG
              have e := e1 l1
              clear e0 e1 e2
              simp only [e] at hK ⊢
              go_simp
              exact hK _ _ trivial (Regb.part l0 l1 e hG)
            · intro L t wq hG hL hC hN hh K hK
              clear hh
              simp only [filled, upd, Have, is, any, row, pick, Act.put, List.setIfInBounds_toArray, List.set_cons_zero, List.set_cons_succ, Nat.reduceAdd, Nat.reduceEqDiff, reduceIte] at hK ⊢
              have l1 : L 14 = true := hN 14 (by decide)
              have l0 : L 13 = true := hC 14 l1 13 (by decide)
              obtain ⟨cs, hq, e0, e1, e2⟩ := Regb.get l0 hG
              have e := e1 l1
              clear e0 e1 e2
              simp only [e] at hK ⊢
              go_simp
              exact hK _ _ rfl (stab13 16 (by decide) (Below.refl _ _) hG)
            · intro L t wq hG hL hC hN hh K hK
              clear hh
              simp only [filled, upd, Have, is, any, row, pick, Act.put, List.setIfInBounds_toArray, List.set_cons_zero, List.set_cons_succ, Nat.reduceAdd, Nat.reduceEqDiff, reduceIte] at hK ⊢
              go_simp
              exact hK _ _ trivial (Regb.alloc (uq_stays _) (by cases h : L 18 with | false => rfl | true => exact absurd (hC 18 h 17 (by decide)) (by rw [hL]; decide)) hG)
            · intro L t wq hG hL hC hN hh K hK
              clear hh
              simp only [filled, upd, Have, is, any, row, pick, Act.put, List.setIfInBounds_toArray, List.set_cons_zero, List.set_cons_succ, Nat.reduceAdd, Nat.reduceEqDiff, reduceIte] at hK ⊢
              have l4 : L 17 = true := hN 17 (by decide)
              have l2 : L 15 = true := hN 15 (by decide)
              have l1 : L 14 = true := hC 15 l2 14 (by decide)
              have l0 : L 13 = true := hC 14 l1 13 (by decide)
              obtain ⟨cs, ⟨A3, n3, c3, B3, rfl, how⟩, e0, e1, e2⟩ := Regb.get l0 hG
              have e := e2 l2
              clear e0 e1 e2
              obtain ⟨p, hp, hp1, hp2, hp3⟩ := hG.2.2.2 l4
              simp only [e, hp] at hK ⊢
              have hz := hp3 hL
              have hU0 : UB wq p U0 (.slice none 0 0) := hz
              obtain ⟨ka0, ka1, ka2, ka3, ka4, ka5, ka6, ka7, ka8, ka9, ka10, ka11, ka12⟩ := hU0.facts
              obtain ⟨kb0, kb1, kb2, kb3, kb4, kb5, kb6, kb7, kb8, kb9, kb10, kb11, kb12⟩ := hU0.thaw
              simp only [cells] at hK ⊢
              go_simp
              exact hK undef (Ubx.put wq p u (.slice A3 n3 c3)) trivial (Regb.store l0 l2 l4 e hp (Ubx.below_put hG.1 hp1 u _) (by simp [Ubx.put]) ⟨A3, n3, c3, B3, rfl, own_put how hz u _⟩ (hU0.put u (.slice A3 n3 c3)) hG)
            · intro L t wq hG hL hC hN hh K hK
              have e16 := hh.1
              simp only [pick] at e16
              replace e16 : t 16 = (.int .i64 0) := e16
              clear hh
              simp only [filled, upd, Have, is, any, row, pick, Act.put, List.setIfInBounds_toArray, List.set_cons_zero, List.set_cons_succ, Nat.reduceAdd, Nat.reduceEqDiff, reduceIte] at hK ⊢
              simp only [e16] at hK ⊢
              go_simp
              exact hK _ _ rfl (stab13 19 (by decide) (Below.refl _ _) hG)
          · intro Lz t wq hG hall hh
            have f19 := have_get hh 19 (by decide)
            simp only [pick] at f19
            replace f19 : t 19 = (.int .i64 0) := f19
            clear hh
            simp only [filled, upd, Have, is, any, row, pick, Act.put, List.setIfInBounds_toArray, List.set_cons_zero, List.set_cons_succ, Nat.reduceAdd, Nat.reduceEqDiff, reduceIte]
            simp only [f19]
            obtain ⟨cs, p, ⟨A3, n3, c3, B3, rfl, how⟩, hp, hx3⟩ := Regb.last (hall 13 (by decide)) (hall 17 (by decide)) (hall 18 (by decide)) hG
            simp only [hp]
            have hb := hG.1
            clear hG hall
            have HB8 := hid (bel HB7.out hb)
            have E_8 := hid (E_7.out.below hb)
            have RL_8 := hid (RL_7.out.below hb)
            have T1_8 := hid (T1_7.out.below hb)
            have X1_8 := hid (X1_7.out.below hb)
            have T2_8 := hid (T2_7.out.below hb)
            have X2_8 := hid (X2_7.out.below hb)
            clear hb
            have X3 : Hid (UB wq p u (.slice A3 n3 c3)) := hx3
            have T3 := hid (own_pt how)
            clear hx3 how
            go_upto_region 16 with (fail)
            obtain ⟨ka0, ka1, ka2, ka3, ka4, ka5, ka6, ka7, ka8, ka9, ka10, ka11, ka12⟩ := X1_8.out.facts
            obtain ⟨kb0, kb1, kb2, kb3, kb4, kb5, kb6, kb7, kb8, kb9, kb10, kb11, kb12⟩ := X3.out.facts
            go_wp2_with fail
            clear ka0 ka1 ka2 ka3 ka4 ka5 ka6 ka7 ka8 ka9 ka10 ka11 ka12 kb0 kb1 kb2 kb3 kb4 kb5 kb6 kb7 kb8 kb9 kb10 kb11 kb12
            refine (same_yes u _ _ _ _ _ _ _ T1_8.out T3.out).mono ?_
            rintro e w9 ⟨rfl, hb⟩
            have HB9 := hid (bel HB8.out hb)
            have E_9 := hid (E_8.out.below hb)
            have RL_9 := hid (RL_8.out.below hb)
            have T1_9 := hid (T1_8.out.below hb)
            have X1_9 := hid (X1_8.out.below hb)
            have T2_9 := hid (T2_8.out.below hb)
            have X2_9 := hid (X2_8.out.below hb)
            have X3_9 := hid (X3.out.below hb)
            have T3_9 := hid (T3.out.below hb)
            clear hb
            go_wp2
            go_ret
            exact ⟨rfl, HB9.out⟩
  · have hli : (1000 : Int) < (s.size : Int) := by omega
    go_enter Tryz.func8, Tryz.ntmps8
    go_wp2_with fail
    refine (HAW.out _ HE.out).mono ?_
    rintro e w1 ⟨rfl, hb⟩
    have HB1 := hid hb
    have E_1 := hid (HE.out.below hb)
    clear hb
    go_wp2_with fail
    refine (HAW.out _ E_1.out).mono ?_
    rintro e w2 ⟨rfl, hb⟩
    have HB2 := hid (bel HB1.out hb)
    have E_2 := hid (E_1.out.below hb)
    clear hb
    go_wp2
    go_ret
    exact ⟨rfl, HB2.out⟩
end Go.Proofs.YtaooiggckcfanaaGreatDoor.Laws
