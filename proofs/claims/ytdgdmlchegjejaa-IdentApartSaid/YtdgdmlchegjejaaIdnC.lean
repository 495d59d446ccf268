/- Names: ident.Is answers whether a text is the name of its own digits. -/
import Derived.Test.YtdgdmlchegjejaaIdnP
import Derived.Test.YtdgdmlchegjejaaIdnB
namespace Go.Proofs.Ytdgdmlchegjejaa.IdnC
open Go.RowKit Go.Proofs.Ytdgdmlchegjejaa.Base Go.Proofs.Ytdgdmlchegjejaa.Base2 Go.Proofs.Ytdgdmlchegjejaa.IdnA Go.Proofs.Ytdgdmlchegjejaa.IdnP

def arrOf (g : Nat → Nat) : Array Value := #[.int .u8 (g 0 : Int), .int .u8 (g 1 : Int), .int .u8 (g 2 : Int), .int .u8 (g 3 : Int), .int .u8 (g 4 : Int), .int .u8 (g 5 : Int), .int .u8 (g 6 : Int), .int .u8 (g 7 : Int), .int .u8 (g 8 : Int), .int .u8 (g 9 : Int), .int .u8 (g 10 : Int), .int .u8 (g 11 : Int), .int .u8 (g 12 : Int), .int .u8 (g 13 : Int), .int .u8 (g 14 : Int), .int .u8 (g 15 : Int)]
theorem sixteen (i : Nat) (h : i < 16) : i = 0 ∨ i = 1 ∨ i = 2 ∨ i = 3 ∨ i = 4 ∨ i = 5 ∨ i = 6 ∨ i = 7 ∨ i = 8 ∨ i = 9 ∨ i = 10 ∨ i = 11 ∨ i = 12 ∨ i = 13 ∨ i = 14 ∨ i = 15 := by omega
theorem arr_get (g : Nat → Nat) (i : Nat) (h : i < 16) : (arrOf g)[i]? = some (.int .u8 (g i : Int)) := by
  rcases sixteen i h with rfl | rfl | rfl | rfl | rfl | rfl | rfl | rfl | rfl | rfl | rfl | rfl | rfl | rfl | rfl | rfl <;> rfl
theorem arr_set (g : Nat → Nat) (i v : Nat) (h : i < 16) : (arrOf g).setIfInBounds i (.int .u8 (v : Int)) = arrOf (fun k => if k = i then v else g k) := by
  rcases sixteen i h with rfl | rfl | rfl | rfl | rfl | rfl | rfl | rfl | rfl | rfl | rfl | rfl | rfl | rfl | rfl | rfl <;> simp [arrOf]
def Arr (w : World) (b : Nat) (g : Nat → Nat) : Prop := w.heap[b]? = some (.cells (arrOf g) 39 (0, 0))
theorem arr_at {w : World} {b : Nat} {g : Nat → Nat} (h : Arr w b g) (i : Nat) (hi : i < 16) : w.cell? ⟨b, i, none⟩ = some (.int .u8 (g i : Int)) ∧ w.frozen? ⟨b, i, none⟩ = false := ⟨(cell_of_row w b i _ _ _ h).trans (arr_get g i hi), frozen_of_row w b i _ _ h⟩
theorem arr_put {w : World} {b : Nat} {g : Nat → Nat} (h : Arr w b g) (i v : Nat) (hi : i < 16) : Arr (w.setCell ⟨b, i, none⟩ (.int .u8 (v : Int))) b (fun k => if k = i then v else g k) := by
  have := heap_setCell_same w b i _ _ (.int .u8 (v : Int)) h
  unfold Arr
  rw [this, arr_set g i v hi]
theorem or16 (x y : Nat) (hx : x < 16) (hy : y < 16) : bits .or .u8 ((x : Int) * 16) (y : Int) = (x : Int) * 16 + y := by
  have H : ∀ (x : Fin 16) (y : Fin 16), bits .or .u8 ((x.val : Int) * 16) (y.val : Int) = (x.val : Int) * 16 + y.val := by decide +kernel
  exact H ⟨x, hx⟩ ⟨y, hy⟩
theorem shl16 (G : Nat) (h : G < 256) : IntKind.u8.wrap ((G : Int) * 16) = ((G % 16 : Nat) : Int) * 16 := by
  have H : ∀ n : Fin 256, IntKind.u8.wrap ((n.val : Int) * 16) = ((n.val % 16 : Nat) : Int) * 16 := by decide +kernel
  exact H ⟨G, h⟩
theorem hex_lt (c : UInt8) : UtfA.hex (c.toNat : Int) < 16 := by
  have H : ∀ n : Fin 256, UtfA.hex (n.val : Int) < 16 := by decide +kernel
  exact H ⟨c.toNat, c.toNat_lt⟩
theorem wrap_small (h : Nat) (hh : h < 16) : IntKind.u8.wrap (h : Int) = (h : Int) := by
  simp [IntKind.wrap, IntKind.signed, IntKind.bits]
  omega
theorem strOf_back (s : ByteArray) : strOf s.data.toList = s := by
  unfold strOf
  rfl
theorem beq_own (a : List UInt8) (s : ByteArray) : ((strOf a).toList == s.toList) = decide (a = s.data.toList) := by
  have e : s.toList = s.data.toList := by
    obtain ⟨d⟩ := s
    rw [ByteArray.toList_mk]
  rw [e, show (strOf a).toList = a by unfold strOf; rw [ByteArray.toList_mk]]
  rw [Bool.eq_iff_iff]
  simp
set_option linter.unusedSimpArgs false in
set_option maxRecDepth 100000 in
set_option maxHeartbeats 16000000 in
theorem is_any (s : ByteArray) (w : World) (hm : s.size ≤ 1073741824) : Calls Try.prog 25 #[.string s] w fun e w' => e = .returned (.bool (decide (own s.data.toList = s.data.toList))) ∧ Below w.heap.size w w' := by
  have hl : s.data.toList.length = s.size := Array.length_toList
  have HL := hid hl
  clear hl
  go_enter Try.func25, Try.ntmps25
  go_wp2
  go_loopw [4, 5] (fun vp vk wr => ∃ (j p : Nat) (g : Nat → Nat), j ≤ s.size ∧ p ≤ 32 ∧ vp = .int .i64 (p : Int) ∧ vk = .int .i64 (j : Int) ∧ Hid (rd (s.data.toList.drop j) p g = rd s.data.toList 0 (fun _ => 0)) ∧ Hid (∀ k, g k < 256) ∧ Hid (Arr wr w.heap.size g) ∧ Below w.heap.size w wr) (fun _ vk _ => s.size - (intOf vk).toNat)
  case atStart => exact ⟨0, 0, fun _ => 0, by omega, by omega, rfl, rfl, (by show _ = _; rw [List.drop_zero]), (fun k => by show (0 : Nat) < 256; decide), heap_alloc_new w _, (Below.refl _ _).alloc (Nat.le_refl _) _⟩
  case round =>
    obtain ⟨j, p, g, hj, hp, rfl, rfl, HD, HG, HA, hbel⟩ := hrel
    by_cases hlt : j < s.size
    · obtain ⟨c, hc⟩ : ∃ c, s[j] = c := ⟨_, rfl⟩
      have HC : Hid (s.data.toList.drop j = c :: s.data.toList.drop (j + 1)) := by
        rw [List.drop_eq_getElem_cons (by rw [HL.out]; exact hlt), ← hc]; rfl
      have hc0 : (c.toNat : Int) ≤ 255 := by have := c.toNat_lt; omega
      by_cases hpl : p < 32
      · have hpi : (p : Int) < 32 := by omega
        obtain ⟨h, hh⟩ : ∃ h, h = UtfA.hex (c.toNat : Int) := ⟨_, rfl⟩
        have hh16 := hex_lt c
        rw [← hh] at hh16
        by_cases hn : 0 ≤ h
        · obtain ⟨x, rfl⟩ : ∃ x : Nat, h = (x : Int) := ⟨h.toNat, by omega⟩
          obtain ⟨q, hq⟩ : ∃ q, q = p / 2 := ⟨_, rfl⟩
          have hq16 : q < 16 := by omega
          have hq0 : (p : Int) / 2 = (q : Int) := by omega
          have hq1 : (p : Int).tdiv 2 = (q : Int) := by rw [Int.tdiv_eq_ediv_of_nonneg (by omega)]; exact hq0
          obtain ⟨a0, a1⟩ := arr_at HA.out q hq16
          obtain ⟨G, hG⟩ : ∃ G, G = g q := ⟨_, rfl⟩
          have hG6 : G < 256 := by rw [hG]; exact HG.out q
          rw [← hG] at a0
          have s1 := shl16 G hG6
          obtain ⟨X, hX⟩ : ∃ X, X = G % 16 := ⟨_, rfl⟩
          rw [← hX] at s1
          have s2 := or16 X x (by omega) (by omega)
          have s3 := wrap_small x (by omega)
          have HP := arr_put HA.out q (X * 16 + x) hq16
          have HDD : Hid (rd (s.data.toList.drop (j + 1)) (p + 1) (fun k => if k = q then X * 16 + x else g k) = rd s.data.toList 0 (fun _ => 0)) := by
            show _ = _
            rw [← HD.out, HC.out, rd, if_pos hpl, ← hh, if_pos hn]
            congr 1
            funext k
            by_cases hk : k = q
            · rw [if_pos hk, if_pos (by omega), hk, ← hG, ← hX]; simp
            · rw [if_neg hk, if_neg (by omega)]
          have HGG : Hid (∀ k, (if k = q then X * 16 + x else g k) < 256) := by
            intro k
            split
            · omega
            · exact HG.out k
          rw [show ((X * 16 + x : Nat) : Int) = (X : Int) * 16 + (x : Int) by simp] at HP
          have HPP := hid HP
          have Hh := hid hh
          clear HP hG hX hq hh HA HD HG HC
          go_wp2_with fail
          refine (UtfA.hex_any _ _ (by omega) hc0).mono ?_
          rintro e w2 ⟨rfl, rfl⟩
          rw [← Hh.out]
          go_wp2
          go_roundw
          case rel => exact ⟨j + 1, p + 1, _, by omega, by omega, by go_num, by go_num, HDD, HGG, HPP.out, hbel.setCell (Nat.le_refl _) _⟩
          case measure => simp [intOf]; omega
        · have HDD : Hid (rd (s.data.toList.drop (j + 1)) p g = rd s.data.toList 0 (fun _ => 0)) := by
            show _ = _
            rw [← HD.out, HC.out, rd, if_pos hpl, ← hh, if_neg hn]
          have Hh := hid hh
          clear hh HD HC
          go_wp2_with fail
          refine (UtfA.hex_any _ _ (by omega) hc0).mono ?_
          rintro e w2 ⟨rfl, rfl⟩
          rw [← Hh.out]
          go_wp2
          go_roundw
          case rel => exact ⟨j + 1, p, g, by omega, by omega, rfl, by go_num, HDD, HG, HA, hbel⟩
          case measure => simp [intOf]; omega
      · obtain rfl : p = 32 := by omega
        have H0 : Hid (g = rd s.data.toList 0 (fun _ => 0)) := by
          show _ = _
          rw [← HD.out, HC.out, rd, if_neg (by omega)]
        clear HC hc
        obtain ⟨f, hf⟩ : ∃ f : Nat → UInt8, ∀ j, (f j).toNat = g j := ⟨fun j => UInt8.ofNat (g j), fun j => by have := HG.out j; simp; omega⟩
        have HO : Hid (own s.data.toList = nm f 16) := by
          refine nm_congr _ _ 16 fun i _ => ?_
          rw [← H0.out, ← hf i]
          simp
        have hbl : w.heap.size < wr.heap.size := (Array.getElem?_eq_some_iff.1 HA.out).1
        obtain ⟨a0, _⟩ := arr_at HA.out 0 (by omega)
        rw [← hf 0] at a0
        obtain ⟨a1, _⟩ := arr_at HA.out 1 (by omega)
        rw [← hf 1] at a1
        obtain ⟨a2, _⟩ := arr_at HA.out 2 (by omega)
        rw [← hf 2] at a2
        obtain ⟨a3, _⟩ := arr_at HA.out 3 (by omega)
        rw [← hf 3] at a3
        obtain ⟨a4, _⟩ := arr_at HA.out 4 (by omega)
        rw [← hf 4] at a4
        obtain ⟨a5, _⟩ := arr_at HA.out 5 (by omega)
        rw [← hf 5] at a5
        obtain ⟨a6, _⟩ := arr_at HA.out 6 (by omega)
        rw [← hf 6] at a6
        obtain ⟨a7, _⟩ := arr_at HA.out 7 (by omega)
        rw [← hf 7] at a7
        obtain ⟨a8, _⟩ := arr_at HA.out 8 (by omega)
        rw [← hf 8] at a8
        obtain ⟨a9, _⟩ := arr_at HA.out 9 (by omega)
        rw [← hf 9] at a9
        obtain ⟨a10, _⟩ := arr_at HA.out 10 (by omega)
        rw [← hf 10] at a10
        obtain ⟨a11, _⟩ := arr_at HA.out 11 (by omega)
        rw [← hf 11] at a11
        obtain ⟨a12, _⟩ := arr_at HA.out 12 (by omega)
        rw [← hf 12] at a12
        obtain ⟨a13, _⟩ := arr_at HA.out 13 (by omega)
        rw [← hf 13] at a13
        obtain ⟨a14, _⟩ := arr_at HA.out 14 (by omega)
        rw [← hf 14] at a14
        obtain ⟨a15, _⟩ := arr_at HA.out 15 (by omega)
        rw [← hf 15] at a15
        clear HD hf HG
        go_wp2_with fail
        refine (of_any f _).mono ?_
        rintro e w3 ⟨rfl, hb3⟩
        go_wp2
        go_ret
        exact ⟨ret_bool (by rw [HO.out]; first | rfl | (rw [Bool.eq_iff_iff]; simp [strOf, ByteArray.toList_mk, ByteArray.ext_iff, Array.ext_iff]; done) | exact beq_own _ _), bel hbel hb3⟩
    · obtain rfl : j = s.size := by omega
      have H0 : Hid (g = rd s.data.toList 0 (fun _ => 0)) := by
        show _ = _
        rw [← HD.out, ← HL.out, List.drop_length, rd]
      obtain ⟨f, hf⟩ : ∃ f : Nat → UInt8, ∀ j, (f j).toNat = g j := ⟨fun j => UInt8.ofNat (g j), fun j => by have := HG.out j; simp; omega⟩
      have HO : Hid (own s.data.toList = nm f 16) := by
        refine nm_congr _ _ 16 fun i _ => ?_
        rw [← H0.out, ← hf i]
        simp
      have hbl : w.heap.size < wr.heap.size := (Array.getElem?_eq_some_iff.1 HA.out).1
      obtain ⟨a0, _⟩ := arr_at HA.out 0 (by omega)
      rw [← hf 0] at a0
      obtain ⟨a1, _⟩ := arr_at HA.out 1 (by omega)
      rw [← hf 1] at a1
      obtain ⟨a2, _⟩ := arr_at HA.out 2 (by omega)
      rw [← hf 2] at a2
      obtain ⟨a3, _⟩ := arr_at HA.out 3 (by omega)
      rw [← hf 3] at a3
      obtain ⟨a4, _⟩ := arr_at HA.out 4 (by omega)
      rw [← hf 4] at a4
      obtain ⟨a5, _⟩ := arr_at HA.out 5 (by omega)
      rw [← hf 5] at a5
      obtain ⟨a6, _⟩ := arr_at HA.out 6 (by omega)
      rw [← hf 6] at a6
      obtain ⟨a7, _⟩ := arr_at HA.out 7 (by omega)
      rw [← hf 7] at a7
      obtain ⟨a8, _⟩ := arr_at HA.out 8 (by omega)
      rw [← hf 8] at a8
      obtain ⟨a9, _⟩ := arr_at HA.out 9 (by omega)
      rw [← hf 9] at a9
      obtain ⟨a10, _⟩ := arr_at HA.out 10 (by omega)
      rw [← hf 10] at a10
      obtain ⟨a11, _⟩ := arr_at HA.out 11 (by omega)
      rw [← hf 11] at a11
      obtain ⟨a12, _⟩ := arr_at HA.out 12 (by omega)
      rw [← hf 12] at a12
      obtain ⟨a13, _⟩ := arr_at HA.out 13 (by omega)
      rw [← hf 13] at a13
      obtain ⟨a14, _⟩ := arr_at HA.out 14 (by omega)
      rw [← hf 14] at a14
      obtain ⟨a15, _⟩ := arr_at HA.out 15 (by omega)
      rw [← hf 15] at a15
      clear HD hf HG
      go_wp2_with fail
      refine (of_any f _).mono ?_
      rintro e w3 ⟨rfl, hb3⟩
      go_wp2
      go_ret
      exact ⟨ret_bool (by rw [HO.out]; first | rfl | (rw [Bool.eq_iff_iff]; simp [strOf, ByteArray.toList_mk, ByteArray.ext_iff, Array.ext_iff]; done) | exact beq_own _ _), bel hbel hb3⟩
end Go.Proofs.Ytdgdmlchegjejaa.IdnC
