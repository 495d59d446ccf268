/- The document's own Char, One and Encode of layer 1: a number's bytes as a character. -/
import Derived.Test.YtleecmapaihhmaaDoorUtfP
import Derived.Test.YtleecmapaihhmaaDoorMA
import Derived.IntWalk
set_option linter.unusedSimpArgs false
set_option linter.unusedVariables false
namespace Go.Proofs.YtleecmapaihhmaaDoor.RefC
open Go.RowKit Go.Proofs.YtleecmapaihhmaaDoor.Base Go.Proofs.YtleecmapaihhmaaDoor.Base2 Go.Proofs.YtleecmapaihhmaaDoor.UtfP

def chrB (r : Int) : Bool := decide (Chr r)
theorem char_any (r : Int) (w : World) : Calls Tryd.prog 58 #[.int .i32 r] w fun e w' => e = .returned (.bool (chrB r)) ∧ w = w' := by
  go_enter Tryd.func58, Tryd.ntmps58
  go_wp2
  all_goals
    go_ret
    exact ⟨ret_bool (by unfold chrB Chr; rw [Bool.eq_iff_iff]; simp; omega), rfl⟩
theorem made (w : World) (xs : List Value) (n : Nat) (t : TypeId) (hn : xs.length = n) : Rds (w.alloc (.cells xs.toArray t)) (some ⟨w.heap.size, 0, none⟩) n xs :=
  Rds.of_spot hn (by simp) (fun j hj => by
    rw [Nat.zero_add, World.cell?_alloc_mark]
    simp)
theorem rds_at {w : World} {g o n : Nat} {xs : List Value} (h : Rds w (some ⟨g, o, none⟩) n xs) : ∀ j u, xs[j]? = some u → w.cell? ((⟨g, o, none⟩ : Addr).add j) = some u := by
  intro j u hu
  obtain ⟨hj, e⟩ := List.getElem?_eq_some_iff.1 hu
  obtain ⟨b, off, e1, _, hc⟩ := h.2 j hj
  injection e1 with e1
  injection e1 with e2 e3
  subst e2 e3
  have ha : (⟨g, o, none⟩ : Addr).add j = ⟨g, o + j, none⟩ := by
    unfold Addr.add
    split <;> simp_all
  rw [ha, hc, e]
def OneIs (w : World) (r : Int) (e : Ending) (w' : World) : Prop :=
  ∃ A c, e = .returned (.slice A (Lib.encodeRune r).length c) ∧ Rds w' A (Lib.encodeRune r).length (bcells (Lib.encodeRune r)) ∧ (∃ g o, A = some ⟨g, o, none⟩) ∧ (Lib.encodeRune r).length ≤ c ∧ Below w.heap.size w w'
theorem fin (w : World) (news : List Value) (n : Nat) (r : Int) (h : bcells (Lib.encodeRune r) = news) (hn : news.length = n) :
    OneIs w r (.returned (.slice (some ⟨w.heap.size, 0, none⟩) n n)) (w.alloc (.cells news.toArray 5)) := by
  have hl : (Lib.encodeRune r).length = n := by rw [← length_bcells, h, hn]
  unfold OneIs
  rw [h, hl]
  exact ⟨_, n, rfl, made w news n _ hn, ⟨_, _, rfl⟩, Nat.le_refl _, (Below.refl _ _).alloc (Nat.le_refl _) _⟩
set_option maxRecDepth 100000 in
theorem one_chr (r : Int) (hc : Chr r) (w : World) : Calls Tryd.prog 44 #[.int .i32 r] w (OneIs w r) := by
  have hB : Hid (chrB r = true) := by unfold Hid chrB; simpa using hc
  obtain ⟨h0, h1, h2⟩ := hc
  by_cases a : r ≤ 127
  · have a' : r < 128 := by omega
    have e1 := hid (u_nat r h0 (by omega))
    have HE := hid (enc1 r h0 a)
    clear h2
    go_enter Tryd.func44, Tryd.ntmps44
    go_wp2_with fail
    refine (char_any _ _).mono ?_
    rintro e w1 ⟨rfl, rfl⟩
    rw [hB.out]
    go_wp2
    go_ret
    exact fin w [.int .u8 r] 1 r (by
      rw [HE.out]
      simp only [bcells, List.map_cons, List.map_nil, e1.out]) rfl
  by_cases b : r ≤ 2047
  · have a' : ¬ r < 128 := by omega
    have b' : r < 2048 := by omega
    have e1 := hid (u_nat (192 + r / 64) (by omega) (by omega))
    have e2 := hid (u_nat (128 + r % 64) (by omega) (by omega))
    have HE := hid (enc2 r (by omega) b)
    clear h2 a b
    go_enter Tryd.func44, Tryd.ntmps44
    go_wp2_with fail
    refine (char_any _ _).mono ?_
    rintro e w1 ⟨rfl, rfl⟩
    rw [hB.out]
    go_wp2
    go_ret
    exact fin w [.int .u8 (192 + r / 64), .int .u8 (128 + r % 64)] 2 r (by
      rw [HE.out]
      simp only [bcells, List.map_cons, List.map_nil, e1.out, e2.out]) rfl
  by_cases c : r ≤ 65535
  · have b' : ¬ r < 2048 := by omega
    have c' : r < 65536 := by omega
    have e1 := hid (u_nat (224 + r / 4096) (by omega) (by omega))
    have e2 := hid (u_nat (128 + r / 64 % 64) (by omega) (by omega))
    have e3 := hid (u_nat (128 + r % 64) (by omega) (by omega))
    have HE := hid (enc3 r (by omega))
    clear h2 a b c
    go_enter Tryd.func44, Tryd.ntmps44
    go_wp2_with fail
    refine (char_any _ _).mono ?_
    rintro e w1 ⟨rfl, rfl⟩
    rw [hB.out]
    go_wp2
    go_ret
    exact fin w [.int .u8 (224 + r / 4096), .int .u8 (128 + r / 64 % 64), .int .u8 (128 + r % 64)] 3 r (by
      rw [HE.out]
      simp only [bcells, List.map_cons, List.map_nil, e1.out, e2.out, e3.out]) rfl
  · have c' : ¬ r < 65536 := by omega
    have e1 := hid (u_nat (240 + r / 262144) (by omega) (by omega))
    have e2 := hid (u_nat (128 + r / 4096 % 64) (by omega) (by omega))
    have e3 := hid (u_nat (128 + r / 64 % 64) (by omega) (by omega))
    have e4 := hid (u_nat (128 + r % 64) (by omega) (by omega))
    have HE := hid (enc4 r (by omega) h1)
    clear h2 a b c
    go_enter Tryd.func44, Tryd.ntmps44
    go_wp2_with fail
    refine (char_any _ _).mono ?_
    rintro e w1 ⟨rfl, rfl⟩
    rw [hB.out]
    go_wp2
    go_ret
    exact fin w [.int .u8 (240 + r / 262144), .int .u8 (128 + r / 4096 % 64), .int .u8 (128 + r / 64 % 64), .int .u8 (128 + r % 64)] 4 r (by
      rw [HE.out]
      simp only [bcells, List.map_cons, List.map_nil, e1.out, e2.out, e3.out, e4.out]) rfl

set_option maxRecDepth 100000 in
theorem one_bad (r : Int) (hc : ¬ Chr r) (w : World) : Calls Tryd.prog 44 #[.int .i32 r] w (OneIs w r) := by
  have hB : Hid (chrB r = false) := by unfold Hid chrB; simpa using hc
  have HE : Hid (Lib.encodeRune r = [239, 191, 189]) := by
    show Lib.encodeRune r = [239, 191, 189]
    rw [encBad r hc]
    decide
  clear hc
  go_enter Tryd.func44, Tryd.ntmps44
  go_wp2_with fail
  refine (char_any _ _).mono ?_
  rintro e w1 ⟨rfl, rfl⟩
  rw [hB.out]
  go_wp2
  go_ret
  exact fin w [.int .u8 239, .int .u8 191, .int .u8 189] 3 r (by rw [HE.out]; rfl) rfl
theorem one_any (r : Int) (w : World) : Calls Tryd.prog 44 #[.int .i32 r] w (OneIs w r) := by
  by_cases h : Chr r
  · exact one_chr r h w
  · exact one_bad r h w

theorem ref_encode (A : Option Addr) (n cap : Nat) (l : List Int) (w : World) (h : Rds w A n (icells .i32 l)) (hm : n ≤ 1073741824) :
    Calls Tryd.prog 33 #[.slice A n cap] w fun e w' => ∃ v, e = .returned v ∧ w'.ownsRow w.heap.size 5 1 v (UtfE.enc l).length (bcells (UtfE.enc l)) ∧ Below w.heap.size w w' := by
  have hl : l.length = n := by rw [← length_icells .i32]; exact h.1
  have HL := hid hl
  clear hl
  obtain ⟨i0, hi, hz0, hz1, hz2⟩ := info_parts info_u8
  have HH := hid h
  clear h
  go_enter Tryd.func33, Tryd.ntmps33
  go_wp2
  go_loopw [3, 7] (fun v vk wr => ∃ (k : Nat), k ≤ n ∧ vk = .int .i64 k ∧ wr.ownsRow w.heap.size 5 1 v (UtfE.enc (l.take k)).length (bcells (UtfE.enc (l.take k))) ∧ Below w.heap.size w wr) (fun _ vk _ => n - (intOf vk).toNat)
  case atStart => exact ⟨0, Nat.zero_le _, rfl, World.ownsRow_nil _ _ _ _, Below.refl _ _⟩
  case round =>
    obtain ⟨k, hk, rfl, hown, hbel⟩ := hrel
    by_cases hlt : k < n
    · obtain ⟨b, off, rfl, hb, _⟩ := (HH.out).spot (by omega)
      obtain ⟨r, hx⟩ : ∃ r, r = l[k]'(by rw [HL.out]; exact hlt) := ⟨_, rfl⟩
      have hcell : wr.cell? ⟨b, off + k, none⟩ = some (.int .i32 r) := by
        rw [hx, ← HH.out.int k (by rw [HL.out]; exact hlt)]
        exact hbel.cell (p := ⟨b, off + k, none⟩) hb
      have HS : Hid (l.take (k + 1) = l.take k ++ [r]) := by
        rw [hx]
        exact List.take_succ_eq_append_getElem (by rw [HL.out]; exact hlt)
      clear hx
      have hle := (UtfE.enc_len (l.take k)).1
      have hle2 : (l.take k).length ≤ k := List.length_take_le _ _
      have hle3 := UtfE.rune_len r
      obtain ⟨m, hmm⟩ : ∃ m, m = (UtfE.enc (l.take k)).length := ⟨_, rfl⟩
      rw [← hmm] at hle hown
      have HM := hid hmm
      clear hmm
      obtain ⟨q, hq⟩ : ∃ q, q = (Lib.encodeRune r).length := ⟨_, rfl⟩
      rw [← hq] at hle3
      have HQ := hid hq
      clear hq
      go_wp2_with fail
      refine (one_any _ _).mono ?_
      rintro e w1 ⟨A1, c1, rfl, hr1, ⟨g, o, rfl⟩, hc1, hb1⟩
      rw [← HQ.out] at hr1 hc1 ⊢
      have hown1 := owns_below hown hb1
      have hbel1 := hbel.trans (hb1.mono hbel.size)
      clear hown hbel
      go_wp2_with (at_builtin; refine wpList_append_own _ rfl _ _ 37 rfl w.heap.size 5 i0 (.int .u8 0) 1 1 Tryd.underlying37 hi hz0 hz1 hz2 rfl (by decide) _ m _ rfl hown1 ⟨g, o, none⟩ q c1 (bcells (Lib.encodeRune r)) rfl (by rw [length_bcells, ← HQ.out, Nat.mul_one]) (rds_at hr1) (bcells_one _) (by unfold maxLen; omega) (by omega) hbel1.size ?_)
      intro v' w2 hown2 hg2 _
      have hbel2 : Below w.heap.size w w2 := hbel1.grown hg2 hbel1.size (fun g hg => (hown1.lt g hg).1)
      clear hown1 hbel1 hg2
      go_wp2
      go_roundw
      case rel => exact ⟨k + 1, by omega, by go_num, by
          rw [HS.out, UtfE.enc_snoc, List.length_append, bcells_append, ← HM.out, ← HQ.out]
          exact hown2, hbel2⟩
      case measure => simp [intOf]; omega
    · obtain rfl : k = n := by omega
      have HE : Hid (l.take k = l) := by
        rw [← HL.out]; exact List.take_length
      go_wp2
      go_ret
      exact ⟨_, rfl, by rw [HE.out] at hown; exact hown, hbel⟩
end Go.Proofs.YtleecmapaihhmaaDoor.RefC
