/- Answers: the document's Number, String, Take, Text, Encode. -/
import Derived.Test.YtafnekilnbhhlaaAnsD
import Derived.BigQuiet
import Derived.Deep.QuietTactic
namespace Go.Proofs.Ytafnekilnbhhlaa.AnsF
open Go.RowKit Go.Proofs.Ytafnekilnbhhlaa.Base Go.Proofs.Ytafnekilnbhhlaa.Base2 Go.Proofs.Ytafnekilnbhhlaa.Base3 Go.Proofs.Ytafnekilnbhhlaa.Regs Go.Proofs.Ytafnekilnbhhlaa.AnsP

set_option maxRecDepth 100000 in
set_option maxHeartbeats 2000000 in
theorem number_any (n m : Nat) (w : World) (hn : n < 18446744073709551616) (hm : m ≤ 8) :
    Calls Try.prog 24 #[.int .u64 (n : Int), .int .i64 (m : Int)] w fun e w' => e = .returned (.string (strOf (be n m))) ∧ Below w.heap.size w w' := by
  obtain ⟨i0, hi, hz0, hz1, hz2⟩ := info_parts info_u8
  go_enter Try.func24, Try.ntmps24
  go_wp2
  go_loopw [5, 6, 8] (fun vo _ vk wr => ∃ (j : Nat) (X : List UInt8), j ≤ m ∧ vk = .int .i64 (j : Int) ∧ Hid (X ++ be n (m - j) = be n m) ∧ Hid (X.length = j) ∧ Hid (wr.ownsRow w.heap.size 5 1 vo j (bcells X)) ∧ Hid (Below w.heap.size w wr)) (fun _ _ vk _ => m - (intOf vk).toNat)
  case atStart => exact ⟨0, [], Nat.zero_le _, rfl, rfl, rfl, World.ownsRow_nil _ _ _ _, Below.refl _ _⟩
  case round =>
    obtain ⟨j, X, hj, rfl, HX, HXL, HO, HB⟩ := hrel
    by_cases hlt : j < m
    · obtain ⟨q, hq⟩ : ∃ q, q = m - 1 - j := ⟨_, rfl⟩
      have hq7 : q ≤ 7 := by omega
      obtain ⟨c, hc⟩ : ∃ c, c = UInt8.ofNat (n / 256 ^ q) := ⟨_, rfl⟩
      have HX2 : Hid ((X ++ [c]) ++ be n (m - (j + 1)) = be n m) := by
        show _ = _
        rw [← HX.out, show m - j = q + 1 by omega, be, ← hc, show m - (j + 1) = q by omega, List.append_assoc]
        rfl
      have hqi : (m : Int) - 1 - (j : Int) = (q : Int) := by omega
      obtain ⟨p, hp⟩ : ∃ p, p = 8 * q := ⟨_, rfl⟩
      have hq8 : (8 : Int) * (q : Int) = (p : Int) := by omega
      have hp56 : p ≤ 56 := by omega
      have hp56i : (p : Int) ≤ 56 := by omega
      have HCW : Hid ((n : Int) / 2 ^ p % 256 = (c.toNat : Int)) := by
        show _ = _
        have e2 : (n : Int) / 2 ^ (8 * q) = ((n / 256 ^ q : Nat) : Int) := by
          have e0 : (2 : Int) ^ (8 * q) = ((256 ^ q : Nat) : Int) := by rw [show (256 : Nat) = 2 ^ 8 from rfl, ← Nat.pow_mul]; simp
          rw [e0, Int.natCast_ediv]
        rw [hp, e2, hc]
        simp
      clear hp
      have hcw := HCW.out
      have hown := HO.out
      have hbel := HB.out
      clear hc hq
      go_wp2_with (at_builtin; refine wpList_app rfl _ _ 25 rfl w.heap.size 5 i0 (.int .u8 0) 1 Try.underlying25 hi hz0 hz1 hz2 rfl _ j _ rfl hown hbel hbel.size [.int .u8 (c.toNat : Int)] 1 rfl rfl (by intro u hu; simp at hu; subst hu; rfl) (by unfold maxLen; omega) (by omega) ?_)
      intro v7 w7 hown7 hbel7
      have HO7 := hid hown7
      have HB7 := hid hbel7
      clear hown hbel hown7 hbel7
      go_wp2
      go_roundw
      case rel => exact ⟨j + 1, X ++ [c], by omega, by go_num, HX2.out, by show _ = _; rw [List.length_append, HXL.out]; rfl, by rw [bcells_append]; exact HO7.out, HB7.out⟩
      case measure => simp [intOf]; omega
    · obtain rfl : j = m := by omega
      have HE : Hid (X = be n j) := by have := HX.out; rwa [Nat.sub_self, be, List.append_nil] at this
      obtain ⟨A, c, rfl, hnc, hcm, hr⟩ := owns_form HO.out
      have hs := run_string_of (P := Try.prog) 25 9 5 Try.underlying25 Try.underlying5 Try.underlying9 _ c hr
      clear hr
      go_wp2
      go_ret
      exact ⟨ret_str (by rw [HE.out]), HB.out⟩
theorem strOf_len (s : ByteArray) (h : s.size < 4294967296) : be s.size 4 ++ s.data.toList = str s.data.toList := by
  unfold str
  rw [show s.data.toList.length = s.size from Array.length_toList]
theorem string_any (s : ByteArray) (w : World) (hs : s.size ≤ 1000000) :
    Calls Try.prog 25 #[.string s] w fun e w' => e = .returned (.string (strOf (str s.data.toList))) ∧ Below w.heap.size w w' := by
  have hi : (s.size : Int) ≤ 1000000 := by omega
  have hsl : s.data.toList.length = s.size := Array.length_toList
  have hse : s = strOf s.data.toList := (strOf_toList s).symm
  have hadd := fun W => str_add (P := Try.prog) (be s.size 4) s.data.toList W (by rw [length_be, hsl]; omega)
  rw [← hse] at hadd
  have HSL := hid hsl
  clear hsl hse
  go_enter Try.func25, Try.ntmps25
  go_wp2_with fail
  refine (number_any s.size 4 _ (by omega) (by omega)).mono ?_
  rintro e w1 ⟨rfl, hb⟩
  have HB := hid hb
  clear hb
  go_wp2
  go_ret
  exact ⟨ret_str (by rw [strOf_len s (by omega)]), HB.out⟩
set_option maxRecDepth 100000 in
set_option maxHeartbeats 2000000 in
theorem take_any (s : ByteArray) (m : Nat) (w : World) (hs : s.size ≤ 1073741824) (hm : m ≤ 8) :
    Calls Try.prog 39 #[.string s, .int .i64 (m : Int)] w fun e w' => (match rd m s.data.toList with
      | none => e = .returned (.tuple #[.int .u64 0, .string ⟨#[]⟩, .bool false])
      | some (n, r) => e = .returned (.tuple #[.int .u64 (n : Int), .string (strOf r), .bool true])) ∧ Below w.heap.size w w' := by
  have hsl : s.data.toList.length = s.size := Array.length_toList
  have HSL := hid hsl
  by_cases h : m ≤ s.size
  · have hmi : ¬ (s.size : Int) < (m : Int) := by omega
    have hmi2 : (m : Int) ≤ (s.size : Int) := by omega
    have HR : Hid (rd m s.data.toList = some (val (s.data.toList.take m), s.data.toList.drop m)) := by show _ = _; unfold rd; rw [if_pos (by omega)]
    have hext : s.extract m s.size = strOf (s.data.toList.drop m) := Regs.ext_drop s m s.size rfl
    rw [HR.out]
    clear hsl
    go_enter Try.func39, Try.ntmps39
    go_wp2
    go_loopw [7, 8, 14] (fun vn _ vk wr => ∃ j : Nat, j ≤ m ∧ vk = .int .i64 (j : Int) ∧ wr = w ∧ vn = .int .u64 ((val (s.data.toList.take j) : Nat) : Int)) (fun _ _ vk _ => m - (intOf vk).toNat)
    case atStart => exact ⟨0, Nat.zero_le _, rfl, rfl, rfl⟩
    case round =>
      obtain ⟨j, hj, rfl, rfl, rfl⟩ := hrel
      obtain ⟨x, hx⟩ : ∃ x, x = val (s.data.toList.take j) := ⟨_, rfl⟩
      rw [← hx]
      have HX := hid hx
      clear hx
      by_cases hlt : j < m
      · have hjs : j < s.size := by omega
        obtain ⟨c, hc⟩ : ∃ c, s[j] = c := ⟨_, rfl⟩
        have hjl : j < s.data.toList.length := by rw [HSL.out]; exact hjs
        have hcl : s.data.toList[j] = c := hc
        have hX7 : x < 72057594037927936 := by
          have h1 := val_lt (s.data.toList.take j)
          rw [← HX.out, List.length_take] at h1
          have h2 : (256 : Nat) ^ min j s.data.toList.length ≤ 256 ^ 7 := Nat.pow_le_pow_right (by omega) (by omega)
          have h3 : (256 : Nat) ^ 7 = 72057594037927936 := by decide
          omega
        have HV : Hid (val (s.data.toList.take (j + 1)) = x * 256 + c.toNat) := by show _ = _; rw [List.take_succ_eq_append_getElem hjl, val_snoc, ← HX.out, hcl]
        have hci : (c.toNat : Int) ≤ 255 := by have := c.toNat_lt; omega
        have hx7i : (x : Int) ≤ 72057594037927935 := by omega
        clear hjl hcl
        go_wp2
        go_roundw
        case rel => exact ⟨j + 1, by omega, by go_num, by first | rfl | trivial, by rw [HV.out]; refine int_eq ?_; omega⟩
        case measure => simp [intOf]; omega
      · obtain rfl : j = m := by omega
        go_wp2_with fail
        go_quiet (fail)
        have HXE : Hid (Value.int .u64 (x : Int) = .int .u64 ((val (s.data.toList.take j) : Nat) : Int)) := by show _ = _; rw [HX.out]
        go_wp2
        go_ret3
        exact ⟨by rw [← HXE.out]; rfl, Base.below_drewN (Below.refl _ _) _⟩
  · have hmi : (s.size : Int) < (m : Int) := by omega
    have HR : Hid (rd m s.data.toList = none) := by show _ = _; unfold rd; rw [if_neg (by omega)]
    rw [HR.out]
    clear hsl
    go_enter Try.func39, Try.ntmps39
    go_wp2
    go_ret3
    exact ⟨rfl, Below.refl _ _⟩
theorem text_any (s : ByteArray) (w : World) (hs : s.size ≤ 1073741824) :
    Calls Try.prog 38 #[.string s] w fun e w' => (match txt s.data.toList with
      | none => e = .returned (.tuple #[.string ⟨#[]⟩, .string ⟨#[]⟩, .bool false])
      | some (x, r) => e = .returned (.tuple #[.string (strOf x), .string (strOf r), .bool true])) ∧ Below w.heap.size w w' := by
  have HT : ∀ o, o = txt s.data.toList → Hid (o = txt s.data.toList) := fun o h => h
  cases h4 : rd 4 s.data.toList with
  | none =>
    have HTE : Hid (txt s.data.toList = none) := by show _ = _; unfold txt; rw [h4]
    rw [HTE.out]
    have H4 := hid h4
    clear h4
    go_enter Try.func38, Try.ntmps38
    go_wp2_with fail
    refine (take_any s 4 _ hs (by omega)).mono ?_
    rw [H4.out]
    rintro e w1 ⟨rfl, hb⟩
    have HB := hid hb
    clear hb
    go_wp2
    go_ret3
    exact ⟨rfl, HB.out⟩
  | some p =>
    obtain ⟨n, r⟩ := p
    obtain ⟨hL, hn⟩ := rd_some h4
    have hn32 : n < 4294967296 := by simpa using hn
    have hrl : r.length ≤ 1073741824 := by
      have := congrArg List.length hL
      rw [List.length_append, length_be] at this
      have h2 : s.data.toList.length = s.size := Array.length_toList
      omega
    have hrs : (strOf r).size = r.length := size_strOf r
    have H4 := hid h4
    have hrli : (r.length : Int) ≤ 1073741824 := by omega
    have hni : (n : Int) ≤ 4294967295 := by omega
    by_cases hle : n ≤ r.length
    · have HTE : Hid (txt s.data.toList = some (r.take n, r.drop n)) := by show _ = _; unfold txt; rw [h4]; simp only; rw [if_pos hle]
      rw [HTE.out]
      have hlei : ¬ (r.length : Int) < (n : Int) := by omega
      have hlei2 : (n : Int) ≤ (r.length : Int) := by omega
      have he1 : (strOf r).extract n r.length = strOf (r.drop n) := Regs.ext_drop (strOf r) n r.length (size_strOf r).symm
      have he2 : (strOf r).extract 0 n = strOf (r.take n) := by
        apply ByteArray.ext
        apply Array.ext'
        simp [strOf, ByteArray.data_extract]
      clear h4 hL hn
      go_enter Try.func38, Try.ntmps38
      go_wp2_with fail
      refine (take_any s 4 _ hs (by omega)).mono ?_
      rw [H4.out]
      rintro e w1 ⟨rfl, hb⟩
      have HB := hid hb
      clear hb
      go_wp2_with fail
      go_quiet (fail)
      go_wp2
      go_ret3
      exact ⟨rfl, Base.below_drewN HB.out _⟩
    · have HTE : Hid (txt s.data.toList = none) := by show _ = _; unfold txt; rw [h4]; simp only; rw [if_neg hle]
      rw [HTE.out]
      have hlei : (r.length : Int) < (n : Int) := by omega
      clear h4 hL hn
      go_enter Try.func38, Try.ntmps38
      go_wp2_with fail
      refine (take_any s 4 _ hs (by omega)).mono ?_
      rw [H4.out]
      rintro e w1 ⟨rfl, hb⟩
      have HB := hid hb
      clear hb
      go_wp2
      go_ret3
      exact ⟨rfl, HB.out⟩
end Go.Proofs.Ytafnekilnbhhlaa.AnsF
