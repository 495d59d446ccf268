/- The walk of the law MailRoom: it returns true, whatever it is called with. -/
import Derived.Test.YtihlojkghemjeaaMaiB
namespace Go.Proofs.Ytihlojkghemjeaa.Laws
open Go.RowKit Go.Proofs.Ytihlojkghemjeaa.Base Go.Proofs.Ytihlojkghemjeaa.Base2 Go.Proofs.Ytihlojkghemjeaa.MaiA Go.Proofs.Ytihlojkghemjeaa.MaiB

def ints (k : Nat) : List Value := (List.range k).map fun (j : Nat) => Value.int .i64 (j : Int)
theorem ints_len (k : Nat) : (ints k).length = k := by simp [ints]
theorem ints_succ (k : Nat) : ints (k + 1) = ints k ++ [.int .i64 (k : Int)] := by unfold ints; rw [List.range_succ, List.map_append]; rfl
theorem ints_head (k : Nat) (h : 1 ≤ k) : ∃ T, ints k = .int .i64 0 :: T ∧ T.length + 1 = k := by
  cases hL : ints k with
  | nil => have := ints_len k; rw [hL] at this; simp at this; omega
  | cons x T =>
    have h0 : (ints k)[0]? = some (.int .i64 0) := by unfold ints; rw [List.getElem?_map, List.getElem?_range (show 0 < k by omega)]; rfl
    rw [hL] at h0
    have := ints_len k
    rw [hL] at this
    exact ⟨T, by simpa using h0, by simpa using this⟩
set_option linter.unusedSimpArgs false in
set_option maxRecDepth 100000 in
set_option maxHeartbeats 4000000 in
theorem MailRoom_any (z : Int) (u : Bool) (w : World) (hz : 0 ≤ z ∧ z ≤ 255) :
    Calls Try.prog 8 #[.int .u8 z, .bool u] w fun e w' => e = .returned (.bool true) ∧ Below w.heap.size w w' := by
  obtain ⟨m, hm⟩ : ∃ m : Nat, (m : Int) = z % 64 := ⟨(z % 64).toNat, by omega⟩
  have q1 : z.tmod 64 = (m : Int) := by rw [Int.tmod_eq_emod_of_nonneg hz.1]; omega
  obtain ⟨n, hn⟩ : ∃ n : Nat, n = 1 + m := ⟨_, rfl⟩
  have q2 : 1 + (m : Int) = (n : Int) := by omega
  have hn1 : 1 ≤ n := by omega
  have hn64 : n ≤ 64 := by omega
  have hnn : ((n : Int) == (n : Int)) = true := by simp
  obtain ⟨hz0, hz1⟩ := hz
  clear hm hn
  cases u with
  | false =>
    go_enter Try.func8, Try.ntmps8
    go_wp2_with fail
    refine (awake_any _).mono ?_
    rintro e w2 ⟨rfl, hb2⟩
    have HB2 := hid hb2
    clear hb2
    go_wp2_with fail
    refine (newI n hn1 hn64 _).mono ?_
    rintro e w3 ⟨g, rfl, h3, hb3⟩
    have HB3 := hid (bel HB2.out hb3)
    have H3 := hid h3
    have HLE := hid HB2.out.size
    clear h3 hb3
    go_wp2
    go_loopw [8, 27] (fun _ vk wr => ∃ k : Nat, k ≤ n ∧ vk = .int .i64 (k : Int) ∧ Hid (MS 93 w2.heap.size wr g n [] (ints k)) ∧ Hid (Below w.heap.size w wr)) (fun _ vk _ => n - (intOf vk).toNat)
    case atStart => exact ⟨0, Nat.zero_le _, rfl, H3, HB3⟩
    case round =>
      clear H3 HB3
      obtain ⟨k, hk, rfl, HS, HB⟩ := hrel
      by_cases hlt : k < n
      · have hd : decide ((ints k).length < n) = true := decide_eq_true (by rw [ints_len]; exact hlt)
        have HNX : Hid ((if (ints k).length < n then ints k ++ [.int .i64 (k : Int)] else ints k) = ints (k + 1)) := by show _ = _; rw [if_pos (by rw [ints_len]; exact hlt), ints_succ]
        go_wp2_with fail
        refine (putI_p _ g n [] (ints k) (k : Int) _ HS.out).mono ?_
        rw [hd, HNX.out]
        rintro e w4 ⟨rfl, h4, hb4, _⟩
        have H4 := hid h4
        have HB4 : Hid (Below w.heap.size w w4) := HB.out.trans (hb4.mono HLE.out)
        clear h4 hb4 hd
        go_wp2
        go_roundw
        case rel => exact ⟨k + 1, by omega, by go_num, H4, HB4⟩
        case measure => simp [intOf]; omega
      · obtain rfl : k = n := by omega
        obtain ⟨T, hT, hTl⟩ := ints_head k hn1
        have hd : decide ((ints k).length < k) = false := decide_eq_false (by rw [ints_len]; omega)
        have HNX : Hid ((if (ints k).length < k then ints k ++ [.int .i64 (-1)] else ints k) = ints k) := by show _ = _; rw [if_neg (by rw [ints_len]; omega)]
        have HT := hid hT
        have HTL := hid hTl
        clear hT hTl
        go_wp2_with fail
        refine (putI_p _ g k [] (ints k) (-1) _ HS.out).mono ?_
        rw [hd, HNX.out]
        rintro e w4 ⟨rfl, h4, hb4, _⟩
        have H4 := hid h4
        have HB4 : Hid (Below w.heap.size w w4) := HB.out.trans (hb4.mono HLE.out)
        clear h4 hb4 hd
        have hd2 : decide (([] : List Value).length < k) = true := decide_eq_true (by show 0 < k; omega)
        have HN2 : Hid ((if ([] : List Value).length < k then ([] : List Value) ++ [.int .i64 (-2)] else []) = [.int .i64 (-2)]) := by show _ = _; rw [if_pos (by show 0 < k; omega)]; rfl
        go_wp2_with fail
        refine (putI_u _ g k [] (ints k) (-2) _ H4.out).mono ?_
        rw [hd2, HN2.out]
        rintro e w5 ⟨rfl, h5, hb5, _⟩
        have H5 := hid h5
        have HB5 : Hid (Below w.heap.size w w5) := HB4.out.trans (hb5.mono HLE.out)
        clear h5 hb5 hd2
        go_wp2_with fail
        refine (tkI_urgent _ g k [] (ints k) (-2) _ H5.out).mono ?_
        rintro e w6 ⟨rfl, h6, hb6, _⟩
        have H6 := hid h6
        have HB6 : Hid (Below w.heap.size w w6) := HB5.out.trans (hb6.mono HLE.out)
        clear h6 hb6
        go_wp2_with fail
        refine (lenI _ g k [] (ints k) _ H6.out (by simp) (by rw [ints_len]; omega)).mono ?_
        rw [show ([] : List Value).length + (ints k).length = k by rw [ints_len]; simp]
        rintro e w7 ⟨rfl, hb7⟩
        go_wp2
        go_ret
        exact ⟨rfl, bel HB6.out hb7⟩
  | true =>
    go_enter Try.func8, Try.ntmps8
    go_wp2_with fail
    refine (awake_any _).mono ?_
    rintro e w2 ⟨rfl, hb2⟩
    have HB2 := hid hb2
    clear hb2
    go_wp2_with fail
    refine (newI n hn1 hn64 _).mono ?_
    rintro e w3 ⟨g, rfl, h3, hb3⟩
    have HB3 := hid (bel HB2.out hb3)
    have H3 := hid h3
    have HLE := hid HB2.out.size
    clear h3 hb3
    go_wp2
    go_loopw [8, 27] (fun _ vk wr => ∃ k : Nat, k ≤ n ∧ vk = .int .i64 (k : Int) ∧ Hid (MS 93 w2.heap.size wr g n (ints k) []) ∧ Hid (Below w.heap.size w wr)) (fun _ vk _ => n - (intOf vk).toNat)
    case atStart => exact ⟨0, Nat.zero_le _, rfl, H3, HB3⟩
    case round =>
      clear H3 HB3
      obtain ⟨k, hk, rfl, HS, HB⟩ := hrel
      by_cases hlt : k < n
      · have hd : decide ((ints k).length < n) = true := decide_eq_true (by rw [ints_len]; exact hlt)
        have HNX : Hid ((if (ints k).length < n then ints k ++ [.int .i64 (k : Int)] else ints k) = ints (k + 1)) := by show _ = _; rw [if_pos (by rw [ints_len]; exact hlt), ints_succ]
        go_wp2_with fail
        refine (putI_u _ g n (ints k) [] (k : Int) _ HS.out).mono ?_
        rw [hd, HNX.out]
        rintro e w4 ⟨rfl, h4, hb4, _⟩
        have H4 := hid h4
        have HB4 : Hid (Below w.heap.size w w4) := HB.out.trans (hb4.mono HLE.out)
        clear h4 hb4 hd
        go_wp2
        go_roundw
        case rel => exact ⟨k + 1, by omega, by go_num, H4, HB4⟩
        case measure => simp [intOf]; omega
      · obtain rfl : k = n := by omega
        obtain ⟨T, hT, hTl⟩ := ints_head k hn1
        have hd : decide ((ints k).length < k) = false := decide_eq_false (by rw [ints_len]; omega)
        have HNX : Hid ((if (ints k).length < k then ints k ++ [.int .i64 (-1)] else ints k) = ints k) := by show _ = _; rw [if_neg (by rw [ints_len]; omega)]
        have HT := hid hT
        have HTL := hid hTl
        clear hT hTl
        go_wp2_with fail
        refine (putI_u _ g k (ints k) [] (-1) _ HS.out).mono ?_
        rw [hd, HNX.out]
        rintro e w4 ⟨rfl, h4, hb4, _⟩
        have H4 := hid h4
        have HB4 : Hid (Below w.heap.size w w4) := HB.out.trans (hb4.mono HLE.out)
        clear h4 hb4 hd
        have hd2 : decide (([] : List Value).length < k) = true := decide_eq_true (by show 0 < k; omega)
        have HN2 : Hid ((if ([] : List Value).length < k then ([] : List Value) ++ [.int .i64 (-2)] else []) = [.int .i64 (-2)]) := by show _ = _; rw [if_pos (by show 0 < k; omega)]; rfl
        go_wp2_with fail
        refine (putI_p _ g k (ints k) [] (-2) _ H4.out).mono ?_
        rw [hd2, HN2.out]
        rintro e w5 ⟨rfl, h5, hb5, _⟩
        have H5 := hid h5
        have HB5 : Hid (Below w.heap.size w w5) := HB4.out.trans (hb5.mono HLE.out)
        clear h5 hb5 hd2
        go_wp2_with fail
        refine (tkI_urgent _ g k T [.int .i64 (-2)] 0 _ (by rw [← HT.out]; exact H5.out)).mono ?_
        rintro e w6 ⟨rfl, h6, hb6, _⟩
        have H6 := hid h6
        have HB6 : Hid (Below w.heap.size w w6) := HB5.out.trans (hb6.mono HLE.out)
        clear h6 hb6
        go_wp2_with fail
        refine (lenI _ g k T [.int .i64 (-2)] _ H6.out (by have := HTL.out; omega) (by simp)).mono ?_
        rw [show T.length + ([.int .i64 (-2)] : List Value).length = k from HTL.out]
        rintro e w7 ⟨rfl, hb7⟩
        go_wp2
        go_ret
        exact ⟨rfl, bel HB6.out hb7⟩
end Go.Proofs.Ytihlojkghemjeaa.Laws
