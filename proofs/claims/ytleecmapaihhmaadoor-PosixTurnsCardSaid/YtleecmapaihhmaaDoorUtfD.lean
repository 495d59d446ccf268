/- utf.read at any bytes that aren't empty; utf.Decode, utf.Valid at any bytes (up to a length that the law's own bound keeps). -/
import Derived.Test.YtleecmapaihhmaaDoorUtfR
set_option linter.unusedSimpArgs false
set_option linter.unusedVariables false
namespace Go.Proofs.YtleecmapaihhmaaDoor.UtfR
open Go.RowKit Go.Proofs.YtleecmapaihhmaaDoor.Base

/-- The first character of bytes: its number, how many bytes it takes, whether they are its own. -/
def rd : List UInt8 → Int × Int × Bool
  | [] => (65533, 1, false)
  | x :: t =>
    let c : Int := x.toNat
    if c ≤ 127 then (c, 1, true) else if c ≤ 193 ∨ 245 ≤ c then (65533, 1, false) else if c ≤ 223 then tail 1 1 (lo c) (hi c) (c % 32) t else if c ≤ 239 then tail 2 1 (lo c) (hi c) (c % 16) t else tail 3 1 (lo c) (hi c) (c % 8) t
theorem read_any (b off n cap : Nat) (L : List UInt8) (w : World) (h : Rds w (some ⟨b, off, none⟩) n (bcells L)) (hm : n ≤ maxLen) (h0 : 0 < n) (R : Int × Int × Bool) (hR : R = rd L) :
    Calls Tryd.prog 37 #[.slice (some ⟨b, off, none⟩) n cap] w fun e w' => e = .returned (.tuple #[.int .i32 R.1, .int .i64 R.2.1, .bool R.2.2]) ∧ Below w.heap.size w w' := by
  have hl : L.length = n := by rw [← length_bcells]; exact h.1
  subst hl
  obtain ⟨x, t, rfl⟩ : ∃ x t, L = x :: t := by
    cases L with
    | nil => simp at h0
    | cons x t => exact ⟨x, t, rfl⟩
  have hc : w.cell? ⟨b, off, none⟩ = some (.int .u8 (x.toNat : Int)) := by
    have := h.byte 0 (by simp)
    rw [Nat.add_zero] at this
    exact this
  have hL : ∀ j (hj : j < (x :: t).length), w.cell? ⟨b, off + j, none⟩ = some (.int .u8 ((x :: t)[j].toNat : Int)) := fun j hj => h.byte j hj
  have hx : (x.toNat : Int) < 256 := by have := x.toNat_lt; omega
  by_cases h1 : (x.toNat : Int) ≤ 127
  · rw [rd, if_pos h1] at hR
    subst hR
    exact (read_one b off _ cap _ w hc h0 (by omega) h1).mono fun e w' ⟨he, hw⟩ => ⟨he, hw ▸ Below.refl _ _⟩
  by_cases h2 : (x.toNat : Int) ≤ 193 ∨ 245 ≤ (x.toNat : Int)
  · rw [rd, if_neg h1, if_pos h2] at hR
    subst hR
    exact (read_none b off _ cap _ w hc h0 (by omega)).mono fun e w' ⟨he, hw⟩ => ⟨he, hw ▸ Below.refl _ _⟩
  by_cases h3 : (x.toNat : Int) ≤ 223
  · rw [rd, if_neg h1, if_neg h2, if_pos h3] at hR
    exact read_2 b off cap _ _ w hc hL hm h0 (by omega) (by omega) R hR
  by_cases h4 : (x.toNat : Int) ≤ 239
  · rw [rd, if_neg h1, if_neg h2, if_neg h3, if_pos h4] at hR
    exact read_3 b off cap _ _ w hc hL hm h0 (by omega) (by omega) R hR
  · rw [rd, if_neg h1, if_neg h2, if_neg h3, if_neg h4] at hR
    exact read_4 b off cap _ _ w hc hL hm h0 (by omega) (by omega) R hR

theorem tail_size : ∀ (m k : Nat) (l h r : Int) (t : List UInt8), (k : Int) ≤ (tail m k l h r t).2.1 ∧ (tail m k l h r t).2.1 ≤ k + t.length
  | 0, k, _, _, _, t => by simp [tail]; omega
  | m + 1, k, l, h, r, [] => by simp [tail]
  | m + 1, k, l, h, r, c :: t => by
    rw [tail]
    split
    · simp; omega
    · have := tail_size m (k + 1) 128 191 (r * 64 + (c.toNat : Int) % 64) t
      simp only [List.length_cons]
      omega
theorem rd_size (x : UInt8) (t : List UInt8) : 1 ≤ (rd (x :: t)).2.1 ∧ (rd (x :: t)).2.1 ≤ (t.length : Int) + 1 := by
  simp only [rd]
  (repeat' split)
  · simp; omega
  · simp; omega
  · have := tail_size 1 1 (lo x.toNat) (hi x.toNat) (x.toNat % 32) t; omega
  · have := tail_size 2 1 (lo x.toNat) (hi x.toNat) (x.toNat % 16) t; omega
  · have := tail_size 3 1 (lo x.toNat) (hi x.toNat) (x.toNat % 8) t; omega

/-- The characters that are read of bytes (n: at least as many as there are bytes). -/
def decF : Nat → List UInt8 → List Int
  | 0, _ => []
  | _ + 1, [] => []
  | n + 1, x :: t => (rd (x :: t)).1 :: decF n ((x :: t).drop (rd (x :: t)).2.1.toNat)
def dec (L : List UInt8) : List Int := decF L.length L
theorem decF_more : ∀ (n m : Nat) (L : List UInt8), L.length ≤ n → L.length ≤ m → decF n L = decF m L
  | 0, 0, _, _, _ => rfl
  | 0, m + 1, [], _, _ => rfl
  | 0, _ + 1, _ :: _, h, _ => by simp at h
  | n + 1, 0, [], _, _ => rfl
  | _ + 1, 0, _ :: _, _, h => by simp at h
  | _ + 1, _ + 1, [], _, _ => rfl
  | n + 1, m + 1, x :: t, h1, h2 => by
    have hs := rd_size x t
    simp only [List.length_cons] at h1 h2
    rw [decF, decF, decF_more n m _ (by simp; omega) (by simp; omega)]
theorem dec_nil : dec [] = [] := rfl
theorem dec_cons (x : UInt8) (t : List UInt8) : dec (x :: t) = (rd (x :: t)).1 :: dec ((x :: t).drop (rd (x :: t)).2.1.toNat) := by
  have hs := rd_size x t
  unfold dec
  rw [List.length_cons, decF, decF_more _ _ _ (by simp; omega) (Nat.le_refl _)]
theorem dec_drop (L : List UInt8) (k : Nat) (h : k < L.length) :
    dec (L.drop k) = (rd (L.drop k)).1 :: dec (L.drop (k + (rd (L.drop k)).2.1.toNat)) ∧ 1 ≤ (rd (L.drop k)).2.1 ∧ (rd (L.drop k)).2.1 ≤ (L.length : Int) - k := by
  obtain ⟨x, t, ht⟩ : ∃ x t, L.drop k = x :: t := by
    cases e : L.drop k with
    | nil => simp at e; omega
    | cons x t => exact ⟨x, t, rfl⟩
  have hs := rd_size x t
  have hl : (L.drop k).length = L.length - k := List.length_drop
  rw [ht, List.length_cons] at hl
  refine ⟨?_, ?_, ?_⟩
  · rw [ht, dec_cons, ← ht, List.drop_drop]
  · rw [ht]; exact hs.1
  · rw [ht]; omega

theorem info21 : (Tryd.prog.info? 21).map (fun i => (i.zero, i.size, i.bytes)) = some (some (.int .i32 0), 1, 4) := by kernel_rfl
/-- Are bytes characters' alone? -/
def valF : Nat → List UInt8 → Bool
  | 0, _ => true
  | _ + 1, [] => true
  | n + 1, x :: t => (rd (x :: t)).2.2 && valF n ((x :: t).drop (rd (x :: t)).2.1.toNat)
def val (L : List UInt8) : Bool := valF L.length L
theorem valF_more : ∀ (n m : Nat) (L : List UInt8), L.length ≤ n → L.length ≤ m → valF n L = valF m L
  | 0, 0, _, _, _ => rfl
  | 0, m + 1, [], _, _ => rfl
  | 0, _ + 1, _ :: _, h, _ => by simp at h
  | n + 1, 0, [], _, _ => rfl
  | _ + 1, 0, _ :: _, _, h => by simp at h
  | _ + 1, _ + 1, [], _, _ => rfl
  | n + 1, m + 1, x :: t, h1, h2 => by
    have hs := rd_size x t
    simp only [List.length_cons] at h1 h2
    rw [valF, valF, valF_more n m _ (by simp; omega) (by simp; omega)]
theorem val_cons (x : UInt8) (t : List UInt8) : val (x :: t) = ((rd (x :: t)).2.2 && val ((x :: t).drop (rd (x :: t)).2.1.toNat)) := by
  have hs := rd_size x t
  unfold val
  rw [List.length_cons, valF, valF_more _ _ _ (by simp; omega) (Nat.le_refl _)]
theorem val_drop (L : List UInt8) (k : Nat) (h : k < L.length) : val (L.drop k) = ((rd (L.drop k)).2.2 && val (L.drop (k + (rd (L.drop k)).2.1.toNat))) := by
  obtain ⟨x, t, ht⟩ : ∃ x t, L.drop k = x :: t := by
    cases e : L.drop k with
    | nil => simp at e; omega
    | cons x t => exact ⟨x, t, rfl⟩
  rw [ht, val_cons, ← ht, List.drop_drop]
theorem valid_any (A : Option Addr) (n cap : Nat) (L : List UInt8) (w : World) (h : Rds w A n (bcells L)) (hm : n ≤ 1073741824) (hcap : n ≤ cap) :
    Calls Tryd.prog 21 #[.slice A n cap] w fun e w' => e = .returned (.bool (val L)) ∧ Below w.heap.size w w' := by
  have hl : L.length = n := by rw [← length_bcells]; exact h.1
  have HL := hid hl
  clear hl
  have HH := hid h
  clear h
  go_enter Tryd.func21, Tryd.ntmps21
  go_wp2
  go_loopw [3] (fun vk wr => ∃ (k : Nat), k ≤ n ∧ vk = .int .i64 k ∧ Below w.heap.size w wr ∧ Hid (val (L.drop k) = val L)) (fun vk _ => n - (intOf vk).toNat)
  case atStart => exact ⟨0, Nat.zero_le _, rfl, Below.refl _ _, rfl⟩
  case round =>
    obtain ⟨k, hk, rfl, hbel, HT⟩ := hrel
    by_cases hlt : k < n
    · obtain ⟨b, off, rfl, hb, _⟩ := (HH.out).spot (by omega)
      have hcut : Hid (Rds wr (some ⟨b, off + k, none⟩) (n - k) (bcells (L.drop k))) := by
        rw [bcells_drop]
        exact (HH.out.cut k hk).below hbel
      have hne : ¬ cap = k := by omega
      obtain ⟨_, hd2, hd3⟩ := dec_drop L k (by rw [HL.out]; exact hlt)
      have hd1 := val_drop L k (by rw [HL.out]; exact hlt)
      obtain ⟨R, hR⟩ : ∃ R, R = rd (L.drop k) := ⟨_, rfl⟩
      rw [← hR] at hd1 hd2 hd3
      rw [HL.out] at hd3
      have HD := hid hd1
      have HR := hid hR
      clear hd1 hR
      go_wp2_with fail
      refine (read_any b (off + k) (n - k) (cap - k) (L.drop k) _ hcut.out (by unfold maxLen; omega) (by omega) R HR.out).mono ?_
      rintro e w1 ⟨rfl, hb1⟩
      have hbel1 := hbel.trans (hb1.mono hbel.size)
      clear hbel
      cases hw : R.2.2
      · have HV : Hid (val L = false) := by
          have e := HT.out
          rw [HD.out, hw] at e
          exact e.symm
        go_wp2
        go_ret
        rw [HV.out]
        exact ⟨rfl, hbel1⟩
      · have HV : Hid (val (L.drop (k + R.2.1.toNat)) = val L) := by
          have e := HT.out
          rw [HD.out, hw, Bool.true_and] at e
          exact e
        go_wp2
        go_roundw
        case rel => exact ⟨k + R.2.1.toNat, by omega, by rw [show ((k + R.2.1.toNat : Nat) : Int) = (k : Int) + R.2.1 by omega], hbel1, HV⟩
        case measure => simp [intOf]; omega
    · obtain rfl : k = n := by omega
      have HE : Hid (val L = true) := by
        have e := HT.out
        rw [← HL.out, List.drop_length] at e
        exact e.symm
      go_wp2
      go_ret
      rw [HE.out]
      exact ⟨rfl, hbel⟩
end Go.Proofs.YtleecmapaihhmaaDoor.UtfR
