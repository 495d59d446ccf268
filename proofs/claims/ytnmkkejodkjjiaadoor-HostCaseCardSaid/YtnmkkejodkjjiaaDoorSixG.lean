/- strconv.FormatUint at base 16 of a number below 65536: its digits. -/
import Derived.Test.YtnmkkejodkjjiaaDoorSixB
import Derived.Lib.LaidTab
import Derived.Lib.LaidU8
import Derived.Lib.SmallJoins
import Derived.Laws.Bits64b
namespace Go.Proofs.YtnmkkejodkjjiaaDoor.SixG
open Go.RowKit Go.Proofs.YtnmkkejodkjjiaaDoor.Base Go.Proofs.YtnmkkejodkjjiaaDoor.Base2

/-- The library's table, as far as it is read here. -/
def Lad (w : World) : Prop := w.cell? ⟨5, 15, none⟩ = some (.int .u8 4)
theorem Lad.below {w w' : World} (h : Lad w) (hb : Below w.heap.size w w') : Lad w' := (hb.cell (World.block_lt_of_cell? _ _ h)).trans h
theorem Lad.drew {w : World} (h : Lad w) (n : Nat) : Lad (w.drewN n) := h
def debr : List Int := [0, 1, 56, 2, 57, 49, 28, 3, 61, 58, 42, 50, 38, 29, 17, 4, 62, 47, 59, 36, 45, 43, 51, 22, 53, 39, 33, 30, 24, 18, 12, 5, 63, 55, 48, 27, 60, 41, 37, 16, 46, 35, 44, 21, 52, 32, 23, 11, 54, 26, 40, 15, 34, 20, 31, 10, 25, 14, 19, 9, 13, 8, 7, 6]
theorem deb_global : Tryd.prog.globalNamed "math/bits.deBruijn64tab" = some 5 := by kernel_rfl
theorem lad_of {W : World} {l : List (String × DataW Unit)} (h : laidMet Tryd.prog l W) (hm : ("math/bits.deBruijn64tab", Lib.tabData .u8 debr) ∈ l) : Lad W := by
  obtain ⟨g', t', cs, fuel, p, hg', ht', hvar, hd⟩ := Lib.laidMet.reads h hm
  obtain rfl := Option.some.inj (deb_global.symm.trans hg')
  obtain rfl := Option.some.inj ((show (Tryd.prog.globals[5]?).map (·.type) = some 117 by kernel_rfl).symm.trans ht')
  have hc := Lib.cells_of_tab (k := .u8) (zs := debr) Tryd.underlying117 Tryd.underlying5 (by kernel_rfl) (by kernel_rfl) hd
  unfold World.var? at hvar
  rw [deb_global] at hvar
  simp only [Option.bind_some] at hvar
  unfold Lad World.cell?
  split at hvar
  · rename_i x y z hh
    injection hvar with hvar
    rw [hh]
    simp only []
    have e : x.toList = debr.map fun z => Value.int .u8 z := by rw [hvar]; exact hc
    rw [← Array.getElem?_toList, e]
    rfl
  · cases hvar
/-- A digit. -/
def hexd (n : Nat) : UInt8 := if n < 10 then UInt8.ofNat (48 + n) else UInt8.ofNat (87 + n)
def hxs : Nat → Nat → List UInt8 → List UInt8
  | 0, u, acc => hexd u :: acc
  | f + 1, u, acc => if 16 ≤ u then hxs f (u / 16) (hexd (u % 16) :: acc) else hexd u :: acc
/-- A piece's digits. -/
def hx (n : Nat) : List UInt8 := hxs 3 n []
theorem hxs_acc : ∀ (f u : Nat) (acc : List UInt8), hxs f u acc = hxs f u [] ++ acc
  | 0, _, _ => rfl
  | f + 1, u, acc => by
    unfold hxs
    split
    · rw [hxs_acc f _ (_ :: acc), hxs_acc f _ [_], List.append_assoc]
      rfl
    · rfl
theorem hxs_more : ∀ (f u : Nat) (acc : List UInt8), u < 16 ^ (f + 1) → hxs (f + 1) u acc = hxs f u acc
  | 0, u, acc, h => by
    unfold hxs
    rw [if_neg (by simp at h; omega)]
  | f + 1, u, acc, h => by
    show (if 16 ≤ u then hxs (f + 1) (u / 16) (hexd (u % 16) :: acc) else hexd u :: acc) = (if 16 ≤ u then hxs f (u / 16) (hexd (u % 16) :: acc) else hexd u :: acc)
    by_cases hu : 16 ≤ u
    · rw [if_pos hu, if_pos hu]
      exact hxs_more f (u / 16) _ (by rw [Nat.pow_succ] at h; omega)
    · rw [if_neg hu, if_neg hu]
theorem hx_small {n : Nat} (h : n < 16) : hx n = [hexd n] := by
  unfold hx hxs
  rw [if_neg (by omega)]
theorem hx_big {n : Nat} (h : 16 ≤ n) (h6 : n < 65536) : hx n = hx (n / 16) ++ [hexd (n % 16)] := by
  unfold hx
  rw [hxs_more 2 (n / 16) [] (by show n / 16 < 4096; omega)]
  conv => lhs; unfold hxs
  rw [if_pos h, hxs_acc]
theorem digs36_at (k : Nat) (hk : k < 16) (h : k < (⟨#[48, 49, 50, 51, 52, 53, 54, 55, 56, 57, 97, 98, 99, 100, 101, 102, 103, 104, 105, 106, 107, 108, 109, 110, 111, 112, 113, 114, 115, 116, 117, 118, 119, 120, 121, 122]⟩ : ByteArray).size) : (⟨#[48, 49, 50, 51, 52, 53, 54, 55, 56, 57, 97, 98, 99, 100, 101, 102, 103, 104, 105, 106, 107, 108, 109, 110, 111, 112, 113, 114, 115, 116, 117, 118, 119, 120, 121, 122]⟩ : ByteArray)[k]'h = hexd k := by
  have hcase : k = 0 ∨ k = 1 ∨ k = 2 ∨ k = 3 ∨ k = 4 ∨ k = 5 ∨ k = 6 ∨ k = 7 ∨ k = 8 ∨ k = 9 ∨ k = 10 ∨ k = 11 ∨ k = 12 ∨ k = 13 ∨ k = 14 ∨ k = 15 := by omega
  rcases hcase with rfl | rfl | rfl | rfl | rfl | rfl | rfl | rfl | rfl | rfl | rfl | rfl | rfl | rfl | rfl | rfl <;> rfl
theorem and15 (u : Nat) (h : u < 65536) : bits .and .u64 (u : Int) 15 = (u : Int) % 16 := by
  have := bits_and_u64_nat u 15 (by omega) (by omega)
  rw [show ((15 : Nat) : Int) = 15 from rfl] at this
  rw [this, show (15 : Nat) = 2 ^ 4 - 1 from rfl, Nat.and_two_pow_sub_one_eq_mod]
  omega
/-- A box of bytes. -/
def BoxB (w : World) (g : Nat) (t : TypeId) (L : List UInt8) : Prop := w.heap[g]? = some (.cells (bcells L).toArray t (0, 0))
theorem BoxB.cell {w : World} {g : Nat} {t : TypeId} {L : List UInt8} (h : BoxB w g t L) (j : Nat) (hj : j < L.length) : w.cell? ⟨g, j, none⟩ = some (.int .u8 (L[j].toNat : Int)) := by
  refine (cell_of_row w g j _ _ _ h).trans ?_
  simp [bcells, hj]
theorem BoxB.frozen {w : World} {g : Nat} {t : TypeId} {L : List UInt8} (h : BoxB w g t L) (j : Nat) : w.frozen? ⟨g, j, none⟩ = false := by
  unfold World.frozen?
  rw [h]
  simp
theorem BoxB.set {w : World} {g : Nat} {t : TypeId} {L : List UInt8} (h : BoxB w g t L) (j : Nat) (c : UInt8) : BoxB (w.setCell ⟨g, j, none⟩ (.int .u8 (c.toNat : Int))) g t (L.set j c) := by
  have := heap_setCell_same w g j _ _ (.int .u8 (c.toNat : Int)) h
  unfold BoxB
  rw [this]
  simp [bcells, List.map_set]
theorem BoxB.rds {w : World} {g : Nat} {t : TypeId} {L : List UInt8} (h : BoxB w g t L) (i : Nat) (hi : i ≤ L.length) : Rds w (some ⟨g, i, none⟩) (L.length - i) (bcells (L.drop i)) :=
  Rds.of_spot (by rw [length_bcells, List.length_drop]) (Array.getElem?_eq_some_iff.1 h).1 (fun j hj => by
    rw [length_bcells, List.length_drop] at hj
    rw [h.cell (i + j) (by omega)]
    simp [bcells])
theorem tz64_any (w : World) (hL : Lad w) : Calls Tryd.prog 106 #[.int .u64 16] w fun e w' => e = .returned (.int .i64 4) ∧ w = w' := by
  have h1 : IntKind.u64.wrap (-16) = 18446744073709551600 := by kernel_rfl
  have h2 : bits .and .u64 16 18446744073709551600 = 16 := by kernel_rfl
  unfold Lad at hL
  go_enter Tryd.func106, Tryd.ntmps106
  go_wp2
  go_ret
  exact ⟨rfl, rfl⟩
theorem tz_any (w : World) (hL : Lad w) : Calls Tryd.prog 101 #[.int .u64 16] w fun e w' => e = .returned (.int .i64 4) ∧ w = w' := by
  go_enter Tryd.func101, Tryd.ntmps101
  go_wp2_with fail
  refine (tz64_any _ hL).mono ?_
  rintro e w2 ⟨rfl, hw2⟩
  subst hw2
  go_wp2
  go_ret
  exact ⟨rfl, rfl⟩
theorem pow2_any (w : World) : Calls Tryd.prog 100 #[.int .i64 16] w fun e w' => e = .returned (.bool true) ∧ w = w' := by
  have h1 : bits .and .i64 16 15 = 0 := by kernel_rfl
  go_enter Tryd.func100, Tryd.ntmps100
  go_wp2
  go_ret
  exact ⟨rfl, rfl⟩
set_option maxRecDepth 100000 in
set_option maxHeartbeats 2000000 in
theorem bits_any (n : Nat) (hn : n < 65536) (w : World) (hL : Lad w) : Calls Tryd.prog 88 #[.slice none 0 0, .int .u64 (n : Int), .int .i64 16, .bool false, .bool false] w fun e w' => e = .returned (.tuple #[.slice none 0 0, .string (strOf (hx n))]) ∧ Below w.heap.size w w' := by
  obtain ⟨H, hH⟩ : ∃ H, H = hx n := ⟨_, rfl⟩
  rw [← hH]
  have HH := hid hH
  have HLAD := hid hL
  clear hH hL
  go_enter Tryd.func88, Tryd.ntmps88
  go_upto_region 4 with (fail)
  generalize hw1 : w.alloc _ = w1
  have HB1 : Hid (Below w.heap.size w w1) := by
    show Below _ _ _
    rw [← hw1]
    exact (Below.refl _ _).alloc (Nat.le_refl _) _
  have HX1 : Hid (BoxB w1 w.heap.size 107 (List.replicate 65 0)) := by
    show BoxB _ _ _ _
    rw [← hw1]
    exact heap_alloc_new _ _
  clear hw1
  go_wp2_with fail
  refine (pow2_any _).mono ?_
  rintro e w2 ⟨rfl, hw2⟩
  subst hw2
  go_wp2_with fail
  refine (tz_any _ (HLAD.out.below HB1.out)).mono ?_
  rintro e w2 ⟨rfl, hw2⟩
  subst hw2
  go_wp2_with fail
  go_loopw [1, 13] (fun vu vi wr => ∃ (f u i : Nat) (L : List UInt8), f ≤ 3 ∧ u < 16 ^ (f + 1) ∧ u < 65536 ∧ i = 62 + f ∧ vu = .int .u64 (u : Int) ∧ vi = .int .i64 (i : Int) ∧ Hid (L.length = 65) ∧ Hid (BoxB wr w.heap.size 107 L) ∧ Hid (H = hxs f u (L.drop i)) ∧ Hid (Below w.heap.size w wr)) (fun vu _ _ => (intOf vu).toNat)
  case atStart => exact ⟨3, n, 65, List.replicate 65 0, by omega, hn, hn, rfl, rfl, rfl, rfl, HX1.out, HH.out, HB1.out⟩
  case round =>
    obtain ⟨f, u, i, L, hf, hu, hu6, hi, rfl, rfl, HLL, HX, HW, HB⟩ := hrel
    obtain ⟨j, hj⟩ : ∃ j, i = j + 1 := ⟨i - 1, by omega⟩
    have hij : (i : Int) - 1 = (j : Int) := by omega
    have hj64 : j ≤ 64 := by omega
    have hi65 : i ≤ 65 := by omega
    have hi1 : (1 : Int) ≤ (i : Int) := by omega
    have hj65 : (j : Int) < 65 := by omega
    obtain ⟨x0, hc0⟩ : ∃ x0, wr.cell? ⟨w.heap.size, j, none⟩ = some x0 := ⟨_, HX.out.cell j (by rw [HLL.out]; omega)⟩
    have hf0 := HX.out.frozen j
    have HJ := hid hj
    by_cases h16 : 16 ≤ u
    · have h16i : (16 : Int) ≤ (u : Int) := by omega
      obtain ⟨f', rfl⟩ : ∃ f', f = f' + 1 := by
        cases f with
        | zero => simp at hu; omega
        | succ f' => exact ⟨f', rfl⟩
      have HIF := hid hi
      have ha := and15 u hu6
      have q0 : (0 : Int) ≤ (u : Int) % 16 := by omega
      have q1 : (u : Int) % 16 < 16 := by omega
      have q2 : (u : Int) % 16 < 36 := by omega
      have q3 : ∀ h, (⟨#[48, 49, 50, 51, 52, 53, 54, 55, 56, 57, 97, 98, 99, 100, 101, 102, 103, 104, 105, 106, 107, 108, 109, 110, 111, 112, 113, 114, 115, 116, 117, 118, 119, 120, 121, 122]⟩ : ByteArray)[((u : Int) % 16).toNat]'h = hexd (u % 16) := fun h => by
        have e : ((u : Int) % 16).toNat = u % 16 := by omega
        simp only [e]
        exact digs36_at _ (by omega) _
      obtain ⟨v, hv⟩ : ∃ v, v = u / 16 := ⟨_, rfl⟩
      have hvi : (u : Int) / 16 = (v : Int) := by omega
      have HX2 := hid (HX.out.set j (hexd (u % 16)))
      have HB2 : Hid (Below w.heap.size w (wr.setCell ⟨w.heap.size, j, none⟩ (.int .u8 ((hexd (u % 16)).toNat : Int)))) := HB.out.setCell (Nat.le_refl _) _
      have HW2 : Hid (H = hxs f' v ((L.set j (hexd (u % 16))).drop j)) := by
        show _ = _
        have hd : (L.set j (hexd (u % 16))).drop j = hexd (u % 16) :: L.drop i := by
          rw [List.drop_eq_getElem_cons (by rw [List.length_set, HLL.out]; omega), List.getElem_set_self, List.drop_set_of_lt (by omega), ← HJ.out]
        rw [hd, HW.out, hv]
        conv => lhs; unfold hxs
        rw [if_pos h16]
      have HV : Hid (v < 16 ^ (f' + 1) ∧ v < 65536 ∧ v < u) := ⟨by rw [hv]; rw [Nat.pow_succ] at hu; omega, by omega, by omega⟩
      have HV2 := hid hv
      clear hu hv hj hi h16
      go_wp2
      go_roundw
      case rel => exact ⟨f', v, j, _, by omega, HV.out.1, HV.out.2.1, by have := HIF.out; have := HJ.out; omega, by go_num, by go_num, by rw [List.length_set]; exact HLL.out, HX2.out, HW2.out, HB2.out⟩
      case measure => (have := HV.out.2.2; simp [intOf]; omega)
    · have h16i : ¬ (16 : Int) ≤ (u : Int) := by omega
      have q0 : (u : Int) < 36 := by omega
      have q3 : ∀ h, (⟨#[48, 49, 50, 51, 52, 53, 54, 55, 56, 57, 97, 98, 99, 100, 101, 102, 103, 104, 105, 106, 107, 108, 109, 110, 111, 112, 113, 114, 115, 116, 117, 118, 119, 120, 121, 122]⟩ : ByteArray)[u]'h = hexd u := fun h => digs36_at _ (by omega) _
      have HX2 := hid (HX.out.set j (hexd u))
      have HB2 : Hid (Below w.heap.size w (wr.setCell ⟨w.heap.size, j, none⟩ (.int .u8 ((hexd u).toNat : Int)))) := HB.out.setCell (Nat.le_refl _) _
      have hd : (L.set j (hexd u)).drop j = H := by
        rw [List.drop_eq_getElem_cons (by rw [List.length_set, HLL.out]; omega), List.getElem_set_self, List.drop_set_of_lt (by omega), ← HJ.out, HW.out]
        cases f with
        | zero => rfl
        | succ f' => unfold hxs; rw [if_neg h16]
      have hrd := HX2.out.rds j (by rw [List.length_set, HLL.out]; omega)
      rw [List.length_set, HLL.out, hd] at hrd
      have hs := run_string_of (P := Tryd.prog) 40 9 5 Tryd.underlying40 Tryd.underlying5 Tryd.underlying9 H (65 - j) hrd
      have hz : ¬ 65 - j = 0 := by omega
      have hj65b : (j : Int) ≤ 65 := by omega
      clear hd hrd hu hi hj h16
      go_wp2
      go_ret2
      exact ⟨rfl, HB2.out⟩
theorem format0_any (n : Nat) (hn : n < 65536) (w : World) (hL : Lad w) : Calls Tryd.prog 69 #[.int .u64 (n : Int), .int .i64 16] w fun e w' => e = .returned (.string (strOf (hx n))) ∧ Below w.heap.size w w' := by
  go_enter Tryd.func69, Tryd.ntmps69
  go_wp2_with fail
  refine (bits_any n hn _ hL).mono ?_
  rintro e w2 ⟨rfl, hb⟩
  go_wp2
  go_ret
  exact ⟨rfl, hb⟩
theorem format_any (n : Nat) (hn : n < 65536) (w : World) (hL : Lad w) : Calls Tryd.prog 49 #[.int .u64 (n : Int), .int .i64 16] w fun e w' => e = .returned (.string (strOf (hx n))) ∧ Below w.heap.size w w' := by
  go_enter Tryd.func49, Tryd.ntmps49
  go_wp2_with fail
  refine (format0_any n hn _ hL).mono ?_
  rintro e w2 ⟨rfl, hb⟩
  go_wp2
  go_ret
  exact ⟨rfl, hb⟩
end Go.Proofs.YtnmkkejodkjjiaaDoor.SixG
