/- The walk of the law BaseBlanks: it returns true, whatever it is called with. -/
import Derived.Test.YtflklgcnjliipaaB64W
namespace Go.Proofs.Ytflklgcnjliipaa.Laws
open Go.RowKit Go.Proofs.Ytflklgcnjliipaa.Base Go.Proofs.Ytflklgcnjliipaa.Base2 Go.Proofs.Ytflklgcnjliipaa.B64N Go.Proofs.Ytflklgcnjliipaa.B64D Go.Proofs.Ytflklgcnjliipaa.Regs

/-- The five blanks. -/
def bls : List Value := [.string (strOf [32]), .string (strOf [9]), .string (strOf [10]), .string (strOf [12]), .string (strOf [13])]
theorem bls_row (w : World) (t : TypeId) (mk : Nat × Nat) : Rds (w.alloc (.cells bls.toArray t mk)) (some ⟨w.heap.size, 0, none⟩) 5 bls :=
  Rds.of_spot rfl (by simp) (fun j hj => by
    rw [Nat.zero_add, World.cell?_alloc_mark]
    simp)
theorem bls_at (r : Nat) (h : r < 5) : ∃ x : UInt8, B64N.blank x = true ∧ ∀ h', bls[r]'h' = .string (strOf [x]) := by
  have hcase : r = 0 ∨ r = 1 ∨ r = 2 ∨ r = 3 ∨ r = 4 := by omega
  rcases hcase with rfl | rfl | rfl | rfl | rfl
  · exact ⟨32, rfl, fun _ => rfl⟩
  · exact ⟨9, rfl, fun _ => rfl⟩
  · exact ⟨10, rfl, fun _ => rfl⟩
  · exact ⟨12, rfl, fun _ => rfl⟩
  · exact ⟨13, rfl, fun _ => rfl⟩
theorem txt_blank (L : List UInt8) (k : Nat) (x : UInt8) (hx : B64N.blank x = true) : txt (L.take k ++ [x] ++ L.drop k) = txt L := by
  unfold txt
  congr 1
  unfold unb
  rw [List.filter_append, List.filter_append, List.filter_cons_of_neg (by rw [hx]; decide), List.filter_nil, List.append_nil, ← List.filter_append, List.take_append_drop]
set_option linter.unusedSimpArgs false in
set_option maxHeartbeats 4000000 in
set_option maxRecDepth 100000 in
theorem BaseBlanks_any (s : ByteArray) (za zb : Int) (w : World) (hs : s.size ≤ maxLen) (ha : 0 ≤ za ∧ za ≤ 65535) (hb : 0 ≤ zb ∧ zb ≤ 255) :
    Calls Try.prog 5 #[.string s, .int .u16 za, .int .u8 zb] w fun e w' => e = .returned (.bool true) ∧ Below w.heap.size w w' := by
  by_cases h1 : s.size ≤ 400
  · have p1 : ¬ (400 : Int) < (s.size : Int) := by omega
    obtain ⟨ha0, ha1⟩ := ha
    obtain ⟨hb0, hb1⟩ := hb
    obtain ⟨y, rfl⟩ : ∃ y : Nat, zb = (y : Int) := ⟨zb.toNat, by omega⟩
    obtain ⟨a, rfl⟩ : ∃ a : Nat, za = (a : Int) := ⟨za.toNat, by omega⟩
    obtain ⟨L, hL⟩ : ∃ L, s.data.toList = L := ⟨_, rfl⟩
    have hLn : L.length = s.size := by rw [← hL]; exact Array.length_toList
    have HLL : Hid (L = s.data.toList) := hL.symm
    have HLn := hid hLn
    obtain ⟨r, hr⟩ : ∃ r, r = y % 5 := ⟨_, rfl⟩
    have hr5 : r < 5 := by omega
    have hr5' : (r : Int) < 5 := by omega
    have hm1 : (y : Int).tmod 5 = (r : Int) := by rw [Int.tmod_eq_emod_of_nonneg (by omega)]; omega
    have hm2 : (y : Int) % 5 = (r : Int) := by omega
    obtain ⟨k, hk⟩ : ∃ k, k = a % (s.size + 1) := ⟨_, rfl⟩
    have hkn : k ≤ s.size := by rw [hk]; have := Nat.mod_lt a (show 0 < s.size + 1 by omega); omega
    have hkn' : (k : Int) ≤ (s.size : Int) := by omega
    have hk2 : (a : Int) % ((s.size : Int) + 1) = (k : Int) := by rw [hk]; simp
    have hk1 : (a : Int).tmod ((s.size : Int) + 1) = (k : Int) := by rw [Int.tmod_eq_emod_of_nonneg (by omega)]; exact hk2
    have hk0 : ¬ ((s.size : Int) + 1 = 0) := by omega
    obtain ⟨x, hx, hbx⟩ := bls_at r hr5
    have HBL : Hid (∀ h', bls[r]'h' = .string (strOf [x])) := hbx
    obtain ⟨D, hD⟩ : ∃ D, dB L = D := ⟨_, rfl⟩
    obtain ⟨o, ho⟩ : ∃ o, dOk L = o := ⟨_, rfl⟩
    have HT := hid (txt_blank L k x hx)
    have HO2 : Hid (dOk (L.take k ++ [x] ++ L.drop k) = o) := by
      rw [← ho]
      show dOk _ = dOk _
      unfold dOk
      rw [HT.out]
    have HD2 : Hid (dB (L.take k ++ [x] ++ L.drop k) = D) := by
      have h2 := HO2.out
      rw [← ho] at h2
      rw [← hD]
      show dB _ = dB _
      unfold dB
      rw [h2, HT.out]
    have HD := hid hD
    have HO := hid ho
    obtain ⟨M, hM⟩ : ∃ M, M = L.take k ++ [x] := ⟨_, rfl⟩
    obtain ⟨J, hJ⟩ : ∃ J, J = M ++ L.drop k := ⟨_, rfl⟩
    rw [← hM, ← hJ] at HO2 HD2
    have HJL : Hid (J.length ≤ 401) := by show _ ≤ _; rw [hJ, hM]; simp; omega
    have HM := hid hM
    have HJ := hid hJ
    clear hr hk hx hbx hD ho hL hLn hs hM hJ HT
    go_enter Try.func5, Try.ntmps5
    go_wp2_with fail
    refine (B64W.awake_any _).mono ?_
    rintro e w1 ⟨rfl, hb1⟩
    go_wp2_with fail
    refine (decode_any s _ (by omega)).mono ?_
    rintro e w2 ⟨v, rfl, hown, hb2⟩
    rw [← HLL.out, HD.out] at hown
    rw [← HLL.out, HO.out]
    obtain ⟨A2, c2, rfl, hc2, hm2', hr2⟩ := owns_form hown
    have HR2 := hid hr2
    clear hown hr2
    go_wp2
    refine wp_region_rel (by kernel_rfl) [is (.string s), is (.int .i64 (k : Int)), is (.string (strOf (L.take k))), row 5 bls, is (.int .u8 (y : Int)), is (.int .u8 (r : Int)), ptr (.string (strOf [x])), is (.string (strOf [x])), is (.string (strOf M)), is (.string s), is (.int .i64 (k : Int)), is (.string (strOf (L.drop k))), is (.string (strOf J)), tup D.length (bcells D) o, tup D.length (bcells D) o, row D.length (bcells D), is (.bool o), row D.length (bcells D), is (.bool o)] [[], [], [0, 1], [], [], [4], [3, 5], [6], [2, 7], [], [], [9, 10], [8, 11], [12], [13], [14], [14], [15], [16]] (by kernel_rfl) ?_ ?_
    · refine ⟨?_, ?_, ?_, ?_, ?_, ?_, ?_, ?_, ?_, ?_, ?_, ?_, ?_, ?_, ?_, ?_, ?_, ?_, ?_, trivial⟩
      · intro t wq hbq hh K hK
        clear hh
        simp only [filled, upd, Have, is, any, row, pick, Act.put, List.setIfInBounds_toArray, List.set_cons_zero, List.set_cons_succ, Nat.reduceAdd, Nat.reduceEqDiff, reduceIte] at hK ⊢
        go_simp
        exact hK _ _ (Below.refl _ _) rfl
      · intro t wq hbq hh K hK
        clear hh
        simp only [filled, upd, Have, is, any, row, pick, Act.put, List.setIfInBounds_toArray, List.set_cons_zero, List.set_cons_succ, Nat.reduceAdd, Nat.reduceEqDiff, reduceIte] at hK ⊢
        go_simp
        exact hK _ _ (Below.refl _ _) rfl
      · intro t wq hbq hh K hK
        have e0 := hh.1
        simp only [pick] at e0
        replace e0 : t 0 = (.string s) := e0
        have e1 := hh.2.1
        simp only [pick] at e1
        replace e1 : t 1 = (.int .i64 (k : Int)) := e1
        clear hh
        simp only [filled, upd, Have, is, any, row, pick, Act.put, List.setIfInBounds_toArray, List.set_cons_zero, List.set_cons_succ, Nat.reduceAdd, Nat.reduceEqDiff, reduceIte] at hK ⊢
        simp only [e0, e1] at hK ⊢
        go_simp
        exact hK _ _ (Below.refl _ _) (by rw [HLL.out]; exact congrArg Value.string (ext_take s k))
      · intro t wq hbq hh K hK
        clear hh
        simp only [filled, upd, Have, is, any, row, pick, Act.put, List.setIfInBounds_toArray, List.set_cons_zero, List.set_cons_succ, Nat.reduceAdd, Nat.reduceEqDiff, reduceIte] at hK ⊢
        go_simp
        exact hK _ _ ((Below.refl _ _).alloc (Nat.le_refl _) _) ⟨_, _, rfl, Nat.le_refl _, by decide, bls_row wq _ _⟩
      · intro t wq hbq hh K hK
        clear hh
        simp only [filled, upd, Have, is, any, row, pick, Act.put, List.setIfInBounds_toArray, List.set_cons_zero, List.set_cons_succ, Nat.reduceAdd, Nat.reduceEqDiff, reduceIte] at hK ⊢
        go_simp
        exact hK _ _ (Below.refl _ _) rfl
      · intro t wq hbq hh K hK
        have e4 := hh.1
        simp only [pick] at e4
        replace e4 : t 4 = (.int .u8 (y : Int)) := e4
        clear hh
        simp only [filled, upd, Have, is, any, row, pick, Act.put, List.setIfInBounds_toArray, List.set_cons_zero, List.set_cons_succ, Nat.reduceAdd, Nat.reduceEqDiff, reduceIte] at hK ⊢
        simp only [e4] at hK ⊢
        go_simp
        exact hK _ _ (Below.refl _ _) rfl
      · intro t wq hbq hh K hK
        have e3 := hh.1
        simp only [pick] at e3
        have e5 := hh.2.1
        simp only [pick] at e5
        replace e5 : t 5 = (.int .u8 (r : Int)) := e5
        clear hh
        simp only [filled, upd, Have, is, any, row, pick, Act.put, List.setIfInBounds_toArray, List.set_cons_zero, List.set_cons_succ, Nat.reduceAdd, Nat.reduceEqDiff, reduceIte] at hK ⊢
        obtain ⟨A3, c3, e3, hc3, hm3, hr3⟩ := e3
        simp only [e3, e5] at hK ⊢
        obtain ⟨g, off, rfl, hg, hcs⟩ := hr3.spot (by omega)
        have hcr := hcs r (by show r < 5; omega)
        go_simp
        exact hK _ _ (Below.refl _ _) ⟨_, rfl, hg, by rw [hcr]; exact congrArg some (HBL.out _)⟩
      · intro t wq hbq hh K hK
        have e6 := hh.1
        simp only [pick] at e6
        clear hh
        simp only [filled, upd, Have, is, any, row, pick, Act.put, List.setIfInBounds_toArray, List.set_cons_zero, List.set_cons_succ, Nat.reduceAdd, Nat.reduceEqDiff, reduceIte] at hK ⊢
        obtain ⟨p6, e6, hp6, hv6⟩ := e6
        simp only [e6] at hK ⊢
        have hv := hv6
        go_simp
        exact hK _ _ (Below.refl _ _) rfl
      · intro t wq hbq hh K hK
        have e2 := hh.1
        simp only [pick] at e2
        replace e2 : t 2 = (.string (strOf (L.take k))) := e2
        have e7 := hh.2.1
        simp only [pick] at e7
        replace e7 : t 7 = (.string (strOf [x])) := e7
        clear hh
        simp only [filled, upd, Have, is, any, row, pick, Act.put, List.setIfInBounds_toArray, List.set_cons_zero, List.set_cons_succ, Nat.reduceAdd, Nat.reduceEqDiff, reduceIte] at hK ⊢
        simp only [e2, e7] at hK ⊢
        have hadd : (Op.stringOp .add (strOf (L.take k)) (strOf [x])).run Try.prog wq = .ok (.string (strOf M)) wq := by rw [HM.out]; exact str_add (L.take k) [x] wq (by have := HLn.out; simp; omega)
        go_simp
        exact hK _ _ (Below.refl _ _) rfl
      · intro t wq hbq hh K hK
        clear hh
        simp only [filled, upd, Have, is, any, row, pick, Act.put, List.setIfInBounds_toArray, List.set_cons_zero, List.set_cons_succ, Nat.reduceAdd, Nat.reduceEqDiff, reduceIte] at hK ⊢
        go_simp
        exact hK _ _ (Below.refl _ _) rfl
      · intro t wq hbq hh K hK
        clear hh
        simp only [filled, upd, Have, is, any, row, pick, Act.put, List.setIfInBounds_toArray, List.set_cons_zero, List.set_cons_succ, Nat.reduceAdd, Nat.reduceEqDiff, reduceIte] at hK ⊢
        go_simp
        exact hK _ _ (Below.refl _ _) rfl
      · intro t wq hbq hh K hK
        have e9 := hh.1
        simp only [pick] at e9
        replace e9 : t 9 = (.string s) := e9
        have e10 := hh.2.1
        simp only [pick] at e10
        replace e10 : t 10 = (.int .i64 (k : Int)) := e10
        clear hh
        simp only [filled, upd, Have, is, any, row, pick, Act.put, List.setIfInBounds_toArray, List.set_cons_zero, List.set_cons_succ, Nat.reduceAdd, Nat.reduceEqDiff, reduceIte] at hK ⊢
        simp only [e9, e10] at hK ⊢
        go_simp
        exact hK _ _ (Below.refl _ _) (by rw [HLL.out]; exact congrArg Value.string (ext_drop s k s.size rfl))
      · intro t wq hbq hh K hK
        have e8 := hh.1
        simp only [pick] at e8
        replace e8 : t 8 = (.string (strOf M)) := e8
        have e11 := hh.2.1
        simp only [pick] at e11
        replace e11 : t 11 = (.string (strOf (L.drop k))) := e11
        clear hh
        simp only [filled, upd, Have, is, any, row, pick, Act.put, List.setIfInBounds_toArray, List.set_cons_zero, List.set_cons_succ, Nat.reduceAdd, Nat.reduceEqDiff, reduceIte] at hK ⊢
        simp only [e8, e11] at hK ⊢
        have hadd : (Op.stringOp .add (strOf M) (strOf (L.drop k))).run Try.prog wq = .ok (.string (strOf J)) wq := by rw [HJ.out]; exact str_add M (L.drop k) wq (by have := HLn.out; rw [HM.out]; simp; omega)
        go_simp
        exact hK _ _ (Below.refl _ _) rfl
      · intro t wq hbq hh K hK
        have e12 := hh.1
        simp only [pick] at e12
        replace e12 : t 12 = (.string (strOf J)) := e12
        clear hh
        simp only [filled, upd, Have, is, any, row, pick, Act.put, List.setIfInBounds_toArray, List.set_cons_zero, List.set_cons_succ, Nat.reduceAdd, Nat.reduceEqDiff, reduceIte] at hK ⊢
        simp only [e12] at hK ⊢
        go_simp
        refine (decode_any (strOf J) _ (by have := HJL.out; rw [size_strOf]; omega)).mono ?_
        rintro e w5 ⟨v, rfl, hown, hb5⟩
        rw [show (strOf J).data.toList = J from rfl, HD2.out] at hown
        rw [show (strOf J).data.toList = J from rfl, HO2.out]
        obtain ⟨A5, c5, rfl, hc5, hm5, hr5⟩ := owns_form hown
        exact hK _ _ hb5 ⟨_, _, rfl, hc5, hm5, hr5⟩
      · intro t wq hbq hh K hK
        have e13 := hh.1
        simp only [pick] at e13
        clear hh
        simp only [filled, upd, Have, is, any, row, pick, Act.put, List.setIfInBounds_toArray, List.set_cons_zero, List.set_cons_succ, Nat.reduceAdd, Nat.reduceEqDiff, reduceIte] at hK ⊢
        obtain ⟨A13, c13, e13, hc13, hm13, hr13⟩ := e13
        simp only [e13] at hK ⊢
        go_simp
        exact hK _ _ (Below.refl _ _) ⟨_, _, rfl, hc13, hm13, hr13⟩
      · intro t wq hbq hh K hK
        have e14 := hh.1
        simp only [pick] at e14
        clear hh
        simp only [filled, upd, Have, is, any, row, pick, Act.put, List.setIfInBounds_toArray, List.set_cons_zero, List.set_cons_succ, Nat.reduceAdd, Nat.reduceEqDiff, reduceIte] at hK ⊢
        obtain ⟨A14, c14, e14, hc14, hm14, hr14⟩ := e14
        simp only [e14] at hK ⊢
        go_simp
        exact hK _ _ (Below.refl _ _) ⟨_, _, rfl, hc14, hm14, hr14⟩
      · intro t wq hbq hh K hK
        have e14 := hh.1
        simp only [pick] at e14
        clear hh
        simp only [filled, upd, Have, is, any, row, pick, Act.put, List.setIfInBounds_toArray, List.set_cons_zero, List.set_cons_succ, Nat.reduceAdd, Nat.reduceEqDiff, reduceIte] at hK ⊢
        obtain ⟨A14, c14, e14, hc14, hm14, hr14⟩ := e14
        simp only [e14] at hK ⊢
        go_simp
        exact hK _ _ (Below.refl _ _) rfl
      · intro t wq hbq hh K hK
        have e15 := hh.1
        simp only [pick] at e15
        clear hh
        simp only [filled, upd, Have, is, any, row, pick, Act.put, List.setIfInBounds_toArray, List.set_cons_zero, List.set_cons_succ, Nat.reduceAdd, Nat.reduceEqDiff, reduceIte] at hK ⊢
        obtain ⟨A15, c15, e15, hc15, hm15, hr15⟩ := e15
        simp only [e15] at hK ⊢
        go_simp
        exact hK _ _ (Below.refl _ _) ⟨_, _, rfl, hc15, hm15, hr15⟩
      · intro t wq hbq hh K hK
        have e16 := hh.1
        simp only [pick] at e16
        replace e16 : t 16 = (.bool o) := e16
        clear hh
        simp only [filled, upd, Have, is, any, row, pick, Act.put, List.setIfInBounds_toArray, List.set_cons_zero, List.set_cons_succ, Nat.reduceAdd, Nat.reduceEqDiff, reduceIte] at hK ⊢
        simp only [e16] at hK ⊢
        go_simp
        exact hK _ _ (Below.refl _ _) rfl
    · intro t wq hbq hh
      have f17 := have_get hh 17 (by decide)
      simp only [pick] at f17
      have f18 := have_get hh 18 (by decide)
      simp only [pick] at f18
      replace f18 : t 18 = (.bool o) := f18
      clear hh
      simp only [filled, upd, Have, is, any, row, pick, Act.put, List.setIfInBounds_toArray, List.set_cons_zero, List.set_cons_succ, Nat.reduceAdd, Nat.reduceEqDiff, reduceIte]
      obtain ⟨A17, c17, f17, hc17, hm17, hr17⟩ := f17
      simp only [f17, f18]
      have hs1 := run_string_of 22 9 5 Try.underlying22 Try.underlying5 Try.underlying9 _ c17 hr17
      have hs2 := run_string_of 22 9 5 Try.underlying22 Try.underlying5 Try.underlying9 _ c2 (HR2.out.below hbq)
      have hee : ((strOf D).toList == (strOf D).toList) = true := by simp
      go_wp2
      go_ret
      exact ⟨rfl, bel (bel hb1 hb2) hbq⟩
  · have p1 : (400 : Int) < (s.size : Int) := by omega
    go_enter Try.func5, Try.ntmps5
    go_wp2_with fail
    refine (B64W.awake_any _).mono ?_
    rintro e w1 ⟨rfl, hb1⟩
    go_wp2_with fail
    refine (B64W.awake_any _).mono ?_
    rintro e w2 ⟨rfl, hb2⟩
    go_wp2_with fail
    go_ret
    exact ⟨rfl, bel hb1 hb2⟩
end Go.Proofs.Ytflklgcnjliipaa.Laws
