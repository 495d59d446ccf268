/- The law AnswerPuts. -/
import Derived.Test.YthbpjkgbnmllkaaAnsI
import Derived.Deep.Cut
import Derived.Test.YthbpjkgbnmllkaaOpen2
import Derived.Lib.SmallJoins
namespace Go.Proofs.Ythbpjkgbnmllkaa.Laws
open Go.Joins Go.ChangeShapes Go.WideShapes Go.ChangeAt Go.RowKit Go.Proofs.Ythbpjkgbnmllkaa.Base Go.Proofs.Ythbpjkgbnmllkaa.Base2 Go.Proofs.Ythbpjkgbnmllkaa.Base3 Go.Proofs.Ythbpjkgbnmllkaa.AnsP Go.Proofs.Ythbpjkgbnmllkaa.AnsI

theorem i64w_nil (z : Int) (w : World) : Calls Try.prog 28 #[.pointer none, .int .i64 z] w fun e w' => e = .returned (.tuple #[]) ∧ w' = w := by
  have number_nil : ∀ (z m : Int) (w : World), Calls Try.prog 36 #[.pointer none, .int .u64 z, .int .i64 m] w fun e w' => e = .returned (.tuple #[]) ∧ w' = w := by
    intro z m w
    go_enter Try.func36, Try.ntmps36
    go_wp2
    exact bodyPost_ret (results_none rfl _ _ _) rfl ⟨rfl, rfl⟩
  go_enter Try.func28, Try.ntmps28
  go_wp2_with fail
  refine (number_nil _ _ _).mono ?_
  rintro e w1 ⟨rfl, rfl⟩
  go_wp2
  go_end0
  exact ⟨rfl, rfl⟩
theorem strw_nil (s : ByteArray) (w : World) : Calls Try.prog 29 #[.pointer none, .string s] w fun e w' => e = .returned (.tuple #[]) ∧ w' = w := by
  go_enter Try.func29, Try.ntmps29
  go_wp2
  exact bodyPost_ret (results_none rfl _ _ _) rfl ⟨rfl, rfl⟩
theorem bytesw_nil (w : World) : Calls Try.prog 31 #[.pointer none] w fun e w' => e = .returned (.slice none 0 0) ∧ w' = w := by
  go_enter Try.func31, Try.ntmps31
  go_wp2
  go_ret
  exact ⟨rfl, rfl⟩
theorem isw_under {B g : Nat} {L : List UInt8} {w w' : World} (h : AnsW.IsW B g L w) (hb : Below w.heap.size w w') : AnsW.IsW B g L w' := h.below hb
set_option linter.unusedSimpArgs false in
set_option maxRecDepth 100000 in
set_option maxHeartbeats 8000000 in
/-- The walk of the law AnswerPuts. -/
theorem AnswerPuts_any (A : Option Addr) (n cap : Nat) (l : List Int) (B : Option Addr) (m capk : Nat) (K : List UInt8) (s : ByteArray) (w : World)
    (r : Rds w A n (icells .u64 l)) (_c : n ≤ cap) (z : cap * 8 ≤ 140737488351232) (hwf : ∀ x ∈ l, (Lit.int .u64 x).wf = true) (rk : Rds w B m (bcells K)) (_ck : m ≤ capk) (zk : capk * 1 ≤ 140737488351232) (zs : s.size ≤ 140737488351232) :
    Calls Try.prog 6 #[.slice A n cap, .slice B m capk, .string s] w fun e w' => e = .returned (.bool true) ∧ Below w.heap.size w w' := by
  have hn47 : (n : Int) ≤ 140737488351232 := by omega
  have hm47 : (m : Int) ≤ 140737488351232 := by omega
  have hs47 : (s.size : Int) ≤ 140737488351232 := by omega
  have hln : l.length = n := by have := r.1; rwa [length_icells] at this
  have hkn : K.length = m := by have := rk.1; rwa [length_bcells] at this
  have HR0 := hid r
  have HK0 := hid rk
  have HLN := hid hln
  have HKN := hid hkn
  have HWF := hid hwf
  have HSD : Hid (s.data.toList.length = s.size) := Array.length_toList
  clear r rk hln hkn hwf _c z _ck zk
  by_cases h1 : n ≤ 60
  · by_cases h2 : n ≤ m
    · by_cases h3 : s.size ≤ 200
      · have q1 : ¬ (60 : Int) < (n : Int) := by omega
        have q2 : ¬ (m : Int) < (n : Int) := by omega
        have q3 : ¬ (200 : Int) < (s.size : Int) := by omega
        go_enter Try.func6, Try.ntmps6
        go_wp2_with fail
        refine (awake_any _).mono ?_
        rintro e w1 ⟨rfl, hb⟩
        have HR1 := hid (HR0.out.below hb)
        have HK1 := hid (HK0.out.below hb)
        have HB1 := hid hb
        clear hb
        go_upto_region 4 with (fail)
        generalize hw2 : w1.alloc _ = w2
        have hI2 : AnsW.IsW w1.heap.size w1.heap.size [] w2 := by rw [← hw2]; exact ⟨_, heap_alloc_new w1 _, World.ownsRow_nil _ _ _ _, Nat.le_refl _⟩
        have hb2 : Below w1.heap.size w1 w2 := by rw [← hw2]; exact (Below.refl _ _).alloc (Nat.le_refl _) _
        obtain ⟨g, hg⟩ : ∃ g, g = w1.heap.size := ⟨_, rfl⟩
        have hwg : w.heap.size ≤ g := by rw [hg]; exact HB1.out.size
        rw [← hg] at hI2 ⊢
        have HI2 := hid hI2
        have HB2 := hid (bel HB1.out hb2)
        have HR2 := hid (HR1.out.below hb2)
        have HK2 := hid (HK1.out.below hb2)
        have HWG := hid hwg
        clear hw2 hb2 hI2 hg hwg
        rcases Nat.eq_zero_or_pos n with hn0 | hn0
        · subst hn0
          go_wp2
          go_loopw [9, 10, 33] (fun vw _ vk wr => ∃ (j : Nat) (X : List UInt8), j ≤ 0 ∧ vk = .int .i64 (j : Int) ∧ vw = .string (strOf X) ∧ Hid (X.length ≤ 204 * j) ∧ Hid (AnsW.IsW g g X wr) ∧ Hid (Below w.heap.size w wr)) (fun _ _ vk _ => 0 - (intOf vk).toNat)
          case atStart => exact ⟨0, [], Nat.zero_le _, rfl, rfl, Nat.zero_le _, HI2.out, HB2.out⟩
          case round =>
            obtain ⟨j, X, hj, rfl, rfl, HX, HI, HB⟩ := hrel
            obtain rfl : j = 0 := by omega
            have HXL : Hid (X.length ≤ 13000) := by have := HX.out; show _ ≤ _; omega
            go_wp2_with fail
            refine (strw_nil _ _).mono ?_
            rintro e wc ⟨rfl, hwc⟩
            subst hwc
            go_wp2_with fail
            refine (AnsW.bytesw_any g g X _ HI.out (by have := HXL.out; omega)).mono ?_
            rintro e wd ⟨v, rfl, hown, hbd⟩
            obtain ⟨Ad, cd, rfl, _, _, hrd⟩ := owns_form hown
            have hs := run_string_of (P := Try.prog) 22 9 5 Try.underlying22 Try.underlying5 Try.underlying9 _ cd hrd
            have hbe : ((strOf X).toList == (strOf X).toList) = true := by rw [Regs.str_beq]; simp
            have HBd := hid (bel HB.out hbd)
            clear hown hrd hbd
            go_wp2_with fail
            refine (bytesw_nil _).mono ?_
            rintro e we ⟨rfl, hwe⟩
            subst hwe
            go_wp2
            go_ret
            exact ⟨rfl, HBd.out⟩
        · obtain ⟨bl, ol, rfl, hbl0, _⟩ := HR0.out.spot hn0
          obtain ⟨bk, ok, rfl, _, _⟩ := HK0.out.spot (by omega)
          go_wp2
          generalize decide (m < n) = dd1
          go_loopw [9, 10, 33] (fun vw _ vk wr => ∃ (j : Nat) (X : List UInt8), j ≤ n ∧ vk = .int .i64 (j : Int) ∧ vw = .string (strOf X) ∧ Hid (X.length ≤ 204 * j) ∧ Hid (AnsW.IsW g g X wr) ∧ Hid (Below w.heap.size w wr)) (fun _ _ vk _ => n - (intOf vk).toNat)
          case atStart => exact ⟨0, [], Nat.zero_le _, rfl, rfl, Nat.zero_le _, HI2.out, HB2.out⟩
          case round =>
            obtain ⟨j, X, hj, rfl, rfl, HX, HI, HB⟩ := hrel
            by_cases hlt : j < n
            · have hjl : j < l.length := by rw [HLN.out]; exact hlt
              have hjk : j < K.length := by rw [HKN.out]; omega
              have hrl := HR0.out.below HB.out
              have hrk := HK0.out.below HB.out
              have hcl := hrl.int j hjl
              have hck := hrk.byte j hjk
              obtain ⟨x0, hx0⟩ : ∃ x0, x0 = l[j] := ⟨_, rfl⟩
              have hxb := bounds_u64 (HWF.out x0 (by rw [hx0]; exact List.getElem_mem _))
              obtain ⟨x, rfl⟩ : ∃ x : Nat, x0 = (x : Int) := ⟨x0.toNat, by omega⟩
              obtain ⟨d, hd⟩ : ∃ d, d = K[j] := ⟨_, rfl⟩
              rw [← hx0] at hcl
              rw [← hd] at hck
              have hmk : (j : Int) < (m : Int) := by omega
              have hx64 : x < 18446744073709551616 := by omega
              have HXL : Hid (X.length ≤ 13000) := by have := HX.out; show _ ≤ _; omega
              have hx64i : (x : Int) ≤ 18446744073709551615 := by omega
              have hdt : (d.toNat : Int).tmod 4 = ((d.toNat % 4 : Nat) : Int) := by rw [Int.tmod_eq_emod_of_nonneg (by omega)]; simp
              obtain ⟨q, hq⟩ : ∃ q, q = d.toNat % 4 := ⟨_, rfl⟩
              rw [← hq] at hdt
              have hq4 : q < 4 := by omega
              have hX : Hid ((strOf X).size = X.length) := size_strOf X
              clear hx0 hd hxb hjl hjk hrl hrk hq
              rcases (show q = 0 ∨ q = 1 ∨ q = 2 ∨ q = 3 by omega) with rfl | rfl | rfl | rfl
              · obtain ⟨y, hy⟩ : ∃ y, y = x % 256 := ⟨_, rfl⟩
                have hyi : (x : Int) % 256 = (y : Int) := by omega
                have HBE : Hid (be y 1 = be x 1) := by show _ = _; rw [hy]; exact be_mod x 1 1 (by omega)
                have hyl : y < 256 := by omega
                clear hy
                go_wp2_with fail
                refine (AnsW.u8w_any g g y X _ HI.out hyl (by have := HXL.out; omega)).mono ?_
                rintro e wa ⟨rfl, hIa, hba⟩
                have ha1 := (hba.cell (p := ⟨bl, ol + j, none⟩) (Nat.lt_of_lt_of_le hbl0 HWG.out)).trans hcl
                have HIa := hid hIa
                have HBa := hid (HB.out.trans (hba.mono HWG.out))
                clear hIa hba
                go_wp2_with fail
                refine (AnsF.number_any x 1 _ hx64 (by omega)).mono ?_
                rintro e wb ⟨rfl, hbb⟩
                have hb1 := (hbb.cell (p := ⟨bl, ol + j, none⟩) (World.block_lt_of_cell? wa _ ha1)).trans ha1
                have HIb := hid (HIa.out.below hbb)
                have HBb := hid (bel HBa.out hbb)
                have hadd := str_add (P := Try.prog) X (be x 1) wb (by have := HXL.out; rw [length_be]; omega)
                clear hbb
                go_wp2_with fail
                refine (i64w_nil _ _).mono ?_
                rintro e wc ⟨rfl, hwc⟩
                subst hwc
                go_wp2
                go_roundw
                case rel => exact ⟨j + 1, X ++ be x 1, by omega, by go_num, by first | rfl | trivial, by have := HX.out; show _ ≤ _; rw [List.length_append]; rw [length_be]; omega, by rw [← HBE.out]; exact HIb.out, HBb.out⟩
                case measure => simp [intOf]; omega
              · obtain ⟨y, hy⟩ : ∃ y, y = x % 4294967296 := ⟨_, rfl⟩
                have hyi : (x : Int) % 4294967296 = (y : Int) := by omega
                have HBE : Hid (be y 4 = be x 4) := by show _ = _; rw [hy]; exact be_mod x 4 4 (by omega)
                have hyl : y < 4294967296 := by omega
                clear hy
                go_wp2_with fail
                refine (AnsW.u32w_any g g y X _ HI.out hyl (by have := HXL.out; omega)).mono ?_
                rintro e wa ⟨rfl, hIa, hba⟩
                have ha1 := (hba.cell (p := ⟨bl, ol + j, none⟩) (Nat.lt_of_lt_of_le hbl0 HWG.out)).trans hcl
                have HIa := hid hIa
                have HBa := hid (HB.out.trans (hba.mono HWG.out))
                clear hIa hba
                go_wp2_with fail
                refine (AnsF.number_any x 4 _ hx64 (by omega)).mono ?_
                rintro e wb ⟨rfl, hbb⟩
                have hb1 := (hbb.cell (p := ⟨bl, ol + j, none⟩) (World.block_lt_of_cell? wa _ ha1)).trans ha1
                have HIb := hid (HIa.out.below hbb)
                have HBb := hid (bel HBa.out hbb)
                have hadd := str_add (P := Try.prog) X (be x 4) wb (by have := HXL.out; rw [length_be]; omega)
                clear hbb
                go_wp2_with fail
                refine (i64w_nil _ _).mono ?_
                rintro e wc ⟨rfl, hwc⟩
                subst hwc
                go_wp2
                go_roundw
                case rel => exact ⟨j + 1, X ++ be x 4, by omega, by go_num, by first | rfl | trivial, by have := HX.out; show _ ≤ _; rw [List.length_append]; rw [length_be]; omega, by rw [← HBE.out]; exact HIb.out, HBb.out⟩
                case measure => simp [intOf]; omega
              · have hsg := AnsR.wrap_i64 x hx64
                go_wp2_with fail
                refine (AnsW.i64w_any g g x X _ HI.out hx64 (by have := HXL.out; omega)).mono ?_
                rintro e wa ⟨rfl, hIa, hba⟩
                have ha1 := (hba.cell (p := ⟨bl, ol + j, none⟩) (Nat.lt_of_lt_of_le hbl0 HWG.out)).trans hcl
                have HIa := hid hIa
                have HBa := hid (HB.out.trans (hba.mono HWG.out))
                clear hIa hba
                go_wp2_with fail
                refine (AnsF.number_any x 8 _ hx64 (by omega)).mono ?_
                rintro e wb ⟨rfl, hbb⟩
                have hb1 := (hbb.cell (p := ⟨bl, ol + j, none⟩) (World.block_lt_of_cell? wa _ ha1)).trans ha1
                have HIb := hid (HIa.out.below hbb)
                have HBb := hid (bel HBa.out hbb)
                have hadd := str_add (P := Try.prog) X (be x 8) wb (by have := HXL.out; rw [length_be]; omega)
                clear hbb
                go_wp2_with fail
                refine (i64w_nil _ _).mono ?_
                rintro e wc ⟨rfl, hwc⟩
                subst hwc
                go_wp2
                go_roundw
                case rel => exact ⟨j + 1, X ++ be x 8, by omega, by go_num, by first | rfl | trivial, by have := HX.out; show _ ≤ _; rw [List.length_append]; rw [length_be]; omega, HIb.out, HBb.out⟩
                case measure => simp [intOf]; omega
              · go_wp2_with fail
                refine (AnsW.strw_any g g X s _ HI.out (by have := HXL.out; omega) (by omega)).mono ?_
                rintro e wa ⟨rfl, hIa, hba⟩
                have ha1 := (hba.cell (p := ⟨bl, ol + j, none⟩) (Nat.lt_of_lt_of_le hbl0 HWG.out)).trans hcl
                have HIa := hid hIa
                have HBa := hid (HB.out.trans (hba.mono HWG.out))
                clear hIa hba
                go_wp2_with fail
                refine (AnsF.string_any s _ (by omega)).mono ?_
                rintro e wb ⟨rfl, hbb⟩
                have hb1 := (hbb.cell (p := ⟨bl, ol + j, none⟩) (World.block_lt_of_cell? wa _ ha1)).trans ha1
                have HIb := hid (HIa.out.below hbb)
                have HBb := hid (bel HBa.out hbb)
                have hadd := str_add (P := Try.prog) X (str s.data.toList) wb (by have := HXL.out; have := HSD.out; unfold str; rw [List.length_append, length_be]; omega)
                clear hbb
                go_wp2_with fail
                refine (i64w_nil _ _).mono ?_
                rintro e wc ⟨rfl, hwc⟩
                subst hwc
                go_wp2
                go_roundw
                case rel => exact ⟨j + 1, X ++ str s.data.toList, by omega, by go_num, by first | rfl | trivial, by have := HX.out; show _ ≤ _; rw [List.length_append]; have := HSD.out; unfold str; rw [List.length_append, length_be]; omega, HIb.out, HBb.out⟩
                case measure => simp [intOf]; omega
            · obtain rfl : j = n := by omega
              have HXL : Hid (X.length ≤ 13000) := by have := HX.out; show _ ≤ _; omega
              go_wp2_with fail
              refine (strw_nil _ _).mono ?_
              rintro e wc ⟨rfl, hwc⟩
              subst hwc
              go_wp2_with fail
              refine (AnsW.bytesw_any g g X _ HI.out (by have := HXL.out; omega)).mono ?_
              rintro e wd ⟨v, rfl, hown, hbd⟩
              obtain ⟨Ad, cd, rfl, _, _, hrd⟩ := owns_form hown
              have hs := run_string_of (P := Try.prog) 22 9 5 Try.underlying22 Try.underlying5 Try.underlying9 _ cd hrd
              have hbe : ((strOf X).toList == (strOf X).toList) = true := by rw [Regs.str_beq]; simp
              have HBd := hid (bel HB.out hbd)
              clear hown hrd hbd
              go_wp2_with fail
              refine (bytesw_nil _).mono ?_
              rintro e we ⟨rfl, hwe⟩
              subst hwe
              go_wp2
              go_ret
              exact ⟨rfl, HBd.out⟩
      · have q1 : ¬ (60 : Int) < (n : Int) := by omega
        have q2 : ¬ (m : Int) < (n : Int) := by omega
        have q3 : (200 : Int) < (s.size : Int) := by omega
        go_enter Try.func6, Try.ntmps6
        go_wp2_with fail
        refine (awake_any _).mono ?_
        rintro e w1 ⟨rfl, hb⟩
        have HB1 := hid hb
        clear hb
        go_wp2_with fail
        refine (awake_any _).mono ?_
        rintro e w2 ⟨rfl, hb⟩
        have HB2 := hid (bel HB1.out hb)
        clear hb
        go_wp2
        go_ret
        exact ⟨rfl, HB2.out⟩
    · have q1 : ¬ (60 : Int) < (n : Int) := by omega
      have q2 : (m : Int) < (n : Int) := by omega
      go_enter Try.func6, Try.ntmps6
      go_wp2_with fail
      refine (awake_any _).mono ?_
      rintro e w1 ⟨rfl, hb⟩
      have HB1 := hid hb
      clear hb
      go_wp2_with fail
      refine (awake_any _).mono ?_
      rintro e w2 ⟨rfl, hb⟩
      have HB2 := hid (bel HB1.out hb)
      clear hb
      go_wp2
      go_ret
      exact ⟨rfl, HB2.out⟩
  · have q1 : (60 : Int) < (n : Int) := by omega
    go_enter Try.func6, Try.ntmps6
    go_wp2_with fail
    refine (awake_any _).mono ?_
    rintro e w1 ⟨rfl, hb⟩
    have HB1 := hid hb
    clear hb
    go_wp2_with fail
    refine (awake_any _).mono ?_
    rintro e w2 ⟨rfl, hb⟩
    have HB2 := hid (bel HB1.out hb)
    clear hb
    go_wp2
    go_ret
    exact ⟨rfl, HB2.out⟩
end Go.Proofs.Ythbpjkgbnmllkaa.Laws
