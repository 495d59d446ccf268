/- base.Decode: what a text is forgiven as. -/
import Derived.Test.YtflklgcnjliipaaB64U
namespace Go.Proofs.Ytflklgcnjliipaa.B64D
open Go.RowKit Go.Proofs.Ytflklgcnjliipaa.Base Go.Proofs.Ytflklgcnjliipaa.Base2 Go.Proofs.Ytflklgcnjliipaa.B64N Go.Proofs.Ytflklgcnjliipaa.B64U

/-- One more letter: the bytes so far, the bits that are held, how many of them. -/
def feed (s : List UInt8 × Nat × Nat) (n : Nat) : List UInt8 × Nat × Nat :=
  if s.2.2 = 0 then (s.1, s.2.1 * 64 + n, 6) else (s.1 ++ [UInt8.ofNat ((s.2.1 * 64 + n) / 2 ^ (s.2.2 - 2))], (s.2.1 * 64 + n) % 2 ^ (s.2.2 - 2), s.2.2 - 2)
def runs (T : List UInt8) : List UInt8 × Nat × Nat := T.foldl (fun s c => feed s (num c).toNat) ([], 0, 0)
theorem runs_snoc (T : List UInt8) (c : UInt8) : runs (T ++ [c]) = feed (runs T) (num c).toNat := by simp [runs]
def Good (s : List UInt8 × Nat × Nat) : Prop := s.2.2 = 0 ∧ s.2.1 = 0 ∨ s.2.2 = 6 ∧ s.2.1 < 64 ∨ s.2.2 = 4 ∧ s.2.1 < 16 ∨ s.2.2 = 2 ∧ s.2.1 < 4
theorem good_feed (s : List UInt8 × Nat × Nat) (n : Nat) (h : Good s) (hn : n < 64) : Good (feed s n) := by
  obtain ⟨a, b, d⟩ := s
  unfold Good at h ⊢
  unfold feed
  simp only at h ⊢
  rcases h with ⟨rfl, rfl⟩ | ⟨rfl, h⟩ | ⟨rfl, h⟩ | ⟨rfl, h⟩ <;> simp <;> omega
theorem feed_len (s : List UInt8 × Nat × Nat) (n : Nat) : (feed s n).1.length ≤ s.1.length + 1 := by
  unfold feed
  split <;> simp
theorem fold_good (T : List UInt8) : ∀ s, Good s → (∀ c ∈ T, 0 ≤ num c) → Good (T.foldl (fun s c => feed s (num c).toNat) s) ∧ (T.foldl (fun s c => feed s (num c).toNat) s).1.length ≤ s.1.length + T.length := by
  induction T with
  | nil => intro s h _; exact ⟨h, Nat.le_refl _⟩
  | cons c T ih =>
    intro s h hz
    have hc := num_range c
    have h1 := ih _ (good_feed s (num c).toNat h (by omega)) (fun x hx => hz x (by simp [hx]))
    have h2 := feed_len s (num c).toNat
    refine ⟨h1.1, ?_⟩
    have h3 := h1.2
    simp only [List.foldl_cons, List.length_cons] at h3 ⊢
    omega
theorem runs_good (T : List UInt8) (h : ∀ c ∈ T, 0 ≤ num c) : Good (runs T) ∧ (runs T).1.length ≤ T.length := by
  have := fold_good T ([], 0, 0) (Or.inl ⟨rfl, rfl⟩) h
  exact ⟨this.1, by simpa [runs] using this.2⟩
theorem or6 (b z : Nat) (hb : b < 64) (hz : z < 64) : bits .or .i64 ((b : Int) * 64) (z : Int) = ((b * 64 + z : Nat) : Int) := by
  have H : ∀ (b : Fin 64) (z : Fin 64), bits .or .i64 ((b.val : Int) * 64) (z.val : Int) = ((b.val * 64 + z.val : Nat) : Int) := by decide +kernel
  exact H ⟨b, hb⟩ ⟨z, hz⟩
theorem and15' (x : Nat) (h : x < 4096) : bits .and .i64 (x : Int) 15 = ((x % 16 : Nat) : Int) := by
  have H : ∀ (a b : Fin 64), bits .and .i64 ((a.val * 64 + b.val : Nat) : Int) 15 = (((a.val * 64 + b.val) % 16 : Nat) : Int) := by decide +kernel
  have := H ⟨x / 64, by omega⟩ ⟨x % 64, by omega⟩
  simp only at this
  rwa [show x / 64 * 64 + x % 64 = x by omega] at this
theorem and3' (x : Nat) (h : x < 1024) : bits .and .i64 (x : Int) 3 = ((x % 4 : Nat) : Int) := by
  have H : ∀ (a : Fin 16) (b : Fin 64), bits .and .i64 ((a.val * 64 + b.val : Nat) : Int) 3 = (((a.val * 64 + b.val) % 4 : Nat) : Int) := by decide +kernel
  have := H ⟨x / 64, by omega⟩ ⟨x % 64, by omega⟩
  simp only at this
  rwa [show x / 64 * 64 + x % 64 = x by omega] at this
theorem and0' (x : Nat) (h : x < 256) : bits .and .i64 (x : Int) 0 = 0 := by
  have H : ∀ (x : Fin 256), bits .and .i64 (x.val : Int) 0 = 0 := by decide +kernel
  exact H ⟨x, h⟩
theorem ofNat_small (x : Nat) (h : x < 256) : ((UInt8.ofNat x).toNat : Int) = (x : Int) := by
  simp
  omega
/-- What a text is forgiven as, and whether it is. -/
def txt (L : List UInt8) : List UInt8 := unp (unb L)
def dOk (L : List UInt8) : Bool := decide ((txt L).length % 4 ≠ 1 ∧ ∀ c ∈ txt L, 0 ≤ num c)
def dB (L : List UInt8) : List UInt8 := if dOk L = true then (runs (txt L)).1 else []
theorem strip_len (L : List UInt8) : (strip L).length ≤ L.length := by
  obtain ⟨m, _, h⟩ := strip_take L
  rw [h, List.length_take]
  omega
theorem txt_len (L : List UInt8) : (txt L).length ≤ L.length := by
  have := unb_len L
  have h1 := strip_len (unb L)
  have h2 := strip_len (strip (unb L))
  unfold txt unp
  split <;> omega
theorem dB_len (L : List UInt8) : (dB L).length ≤ L.length := by
  unfold dB
  split
  · rename_i h
    have := of_decide_eq_true h
    have h2 := (runs_good (txt L) this.2).2
    have := txt_len L
    omega
  · simp
set_option maxHeartbeats 2000000 in
set_option maxRecDepth 100000 in
theorem decode_any (s : ByteArray) (w : World) (hm : s.size ≤ 1073741824) :
    Calls Try.prog 10 #[.string s] w fun e w' => ∃ v, e = .returned (.tuple #[v, .bool (dOk s.data.toList)]) ∧ w'.ownsRow w.heap.size 5 1 v (dB s.data.toList).length (bcells (dB s.data.toList)) ∧ Below w.heap.size w w' := by
  have hl : s.data.toList.length = s.size := Array.length_toList
  obtain ⟨i0, hi, hz0, hz1, hz2⟩ := info_parts info_u8
  obtain ⟨L, hL⟩ : ∃ L, L = s.data.toList := ⟨_, rfl⟩
  have HLL := hid hL
  have hul : (unb s.data.toList).length ≤ 1073741824 := by have := unb_len s.data.toList; omega
  have htl : (txt L).length ≤ 1073741824 := by have := txt_len L; rw [hL] at this ⊢; omega
  rw [← hL] at hl hul ⊢
  clear hL hl
  have HUL := hid hul
  clear hul
  go_enter Try.func10, Try.ntmps10
  go_wp2_with fail
  refine (unblank_any s _ hm).mono ?_
  rintro e w1 ⟨v1, rfl, hown1, hb1⟩
  rw [← HLL.out] at hown1
  obtain ⟨A1, c1, rfl, hc1, hm1, hr1⟩ := owns_form hown1
  have HR1 := hid hr1
  clear hown1 hr1
  go_wp2_with fail
  refine (unpad_any A1 _ c1 (unb L) _ HR1.out hc1 HUL.out).mono ?_
  rintro e w2 ⟨rfl, hr2, hb2⟩
  have hr2' : Rds w1 A1 (txt L).length (bcells (txt L)) := hr2
  have HR2 := hid (hr2'.below hb2)
  clear hr2 hr2' HR1
  rw [show unp (unb L) = txt L from rfl]
  obtain ⟨T, hT⟩ : ∃ T, T = txt L := ⟨_, rfl⟩
  have HT := hid hT
  rw [← hT] at HR2 htl ⊢
  clear hT
  obtain ⟨m, hm2⟩ : ∃ m, m = T.length := ⟨_, rfl⟩
  have HM := hid hm2
  rw [← hm2] at HR2 htl ⊢
  clear hm2
  have hbel2 : Below w.heap.size w w2 := bel hb1 hb2
  by_cases h4 : m % 4 = 1
  · have HN : Hid (dOk L = false) := by
      show dOk L = false
      unfold dOk
      rw [← HT.out, ← HM.out]
      simp [h4]
    have HB : Hid (dB L = []) := by
      show dB L = []
      unfold dB
      rw [HN.out]
      rfl
    have h4' : ((m : Int).tmod 4) = 1 := by rw [Int.tmod_eq_emod_of_nonneg (by omega)]; omega
    have h4'' : (m : Int) % 4 = 1 := by omega
    go_wp2
    go_ret2
    exact ⟨_, ret2 rfl (bool_eq HN.out.symm), by rw [HB.out]; exact World.ownsRow_nil _ _ _ _, hbel2⟩
  · have h4' : ¬ ((m : Int).tmod 4) = 1 := by rw [Int.tmod_eq_emod_of_nonneg (by omega)]; omega
    have h4'' : ¬ (m : Int) % 4 = 1 := by omega
    have hq : ((m : Int).tdiv 4) = ((m / 4 : Nat) : Int) := by rw [Int.tdiv_eq_ediv_of_nonneg (by omega)]; omega
    have hq2 : (m : Int) / 4 = ((m / 4 : Nat) : Int) := by omega
    have hq3 : m / 4 ≤ 268435456 := by omega
    obtain ⟨q, hqq⟩ : ∃ q, q = m / 4 := ⟨_, rfl⟩
    rw [← hqq] at hq hq2 hq3
    clear hqq
    go_wp2_with (at_make; refine wpList_make_own _ rfl _ _ 22 rfl w2.heap.size 5 i0 (.int .u8 0) 1 Try.underlying22 hi hz0 hz1 .i64 .i64 _ (q * 3 + 2) rfl rfl rfl (by rw [hz2]; omega) (by unfold maxLen; omega) (Nat.le_refl _) ?_)
    intro w3 hown3 hg3
    have hbel3 : Below w2.heap.size w2 w3 := (Below.refl _ _).grown hg3 (Nat.le_refl _) (by intro k h; cases h)
    clear hg3 hq hq2 hq3 h4' h4''
    go_wp2
    go_loopw [5, 6, 7, 9, 10, 26] (fun v vb vh _ _ vk wr => ∃ (j b d : Nat) (X : List UInt8), j ≤ m ∧ vk = .int .i64 j ∧ vb = .int .i64 b ∧ vh = .int .i64 d ∧ (d = 0 ∧ b = 0 ∨ d = 6 ∧ b < 64 ∨ d = 4 ∧ b < 16 ∨ d = 2 ∧ b < 4) ∧ X.length ≤ j ∧ Hid (runs (T.take j) = (X, b, d)) ∧ Hid (∀ c ∈ T.take j, 0 ≤ num c) ∧ wr.ownsRow w2.heap.size 5 1 v X.length (bcells X) ∧ Below w2.heap.size w2 wr) (fun _ _ _ _ _ vk _ => m - (intOf vk).toNat)
    case atStart => exact ⟨0, 0, 0, [], Nat.zero_le _, rfl, rfl, rfl, Or.inl ⟨rfl, rfl⟩, Nat.le_refl _, rfl, (fun c hc => by simp at hc), hown3, hbel3⟩
    case round =>
      clear hown3 hbel3
      obtain ⟨j, b, d, X, hj, rfl, rfl, rfl, hd, hX, HRU, HZ, hown, hbel⟩ := hrel
      by_cases hlt : j < m
      · obtain ⟨g, off, rfl, hg, _⟩ := (HR2.out).spot (by omega)
        obtain ⟨c, hx⟩ : ∃ c, c = T[j]'(by rw [← HM.out]; exact hlt) := ⟨_, rfl⟩
        have hcell : wr.cell? ⟨g, off + j, none⟩ = some (.int .u8 (c.toNat : Int)) := by
          rw [hx, ← HR2.out.byte j (by rw [← HM.out]; exact hlt)]
          exact hbel.cell (p := ⟨g, off + j, none⟩) hg
        have HS : Hid (T.take (j + 1) = T.take j ++ [c]) := by
          rw [hx]
          exact List.take_succ_eq_append_getElem (by rw [← HM.out]; exact hlt)
        have HIN : Hid (c ∈ T) := by rw [hx]; exact List.getElem_mem _
        clear hx
        have hrg := num_range c
        by_cases hn : num c < 0
        · have hn' : num c = -1 := by omega
          have HNN := hid hn'
          have HN : Hid (dOk L = false) := by
            show dOk L = false
            unfold dOk
            rw [decide_eq_false_iff_not]
            rintro ⟨_, h⟩
            have := h c (by rw [← HT.out]; exact HIN.out)
            omega
          have HB : Hid (dB L = []) := by
            show dB L = []
            unfold dB
            rw [HN.out]
            rfl
          clear hn hn' hrg
          go_wp2_with fail
          refine (number_any c _).mono ?_
          rintro e w4 ⟨rfl, rfl⟩
          rw [HNN.out]
          go_wp2
          go_ret2
          exact ⟨_, ret2 rfl (bool_eq HN.out.symm), by rw [HB.out]; exact World.ownsRow_nil _ _ _ _, bel hbel2 hbel⟩
        · obtain ⟨z, hz⟩ : ∃ z : Nat, num c = (z : Int) := ⟨(num c).toNat, by omega⟩
          have hz64 : z < 64 := by omega
          have HNZ := hid hz
          have HZ2 : Hid (∀ x ∈ T.take (j + 1), 0 ≤ num x) := by
            intro x hx
            rw [HS.out, List.mem_append] at hx
            rcases hx with hx | hx
            · exact HZ.out x hx
            · simp at hx
              subst hx
              omega
          have HF : Hid (runs (T.take (j + 1)) = feed (X, b, d) z) := by
            show runs _ = _
            rw [HS.out, runs_snoc, HRU.out, hz]
            rfl
          clear hn hrg hz
          have hor := or6 b z (by omega) hz64
          obtain ⟨x, hxx⟩ : ∃ x, x = b * 64 + z := ⟨_, rfl⟩
          rw [← hxx] at hor
          have HXX := hid hxx
          have hx1 : x < 4096 := by omega
          have hxd : (d = 4 → x < 1024) ∧ (d = 2 → x < 256) := by omega
          clear hxx
          go_wp2_with fail
          refine (number_any c _).mono ?_
          rintro e w4 ⟨rfl, rfl⟩
          rw [HNZ.out]
          rcases hd with ⟨rfl, rfl⟩ | ⟨rfl, hb⟩ | ⟨rfl, hb⟩ | ⟨rfl, hb⟩
          · have hor0 : bits .or .i64 0 (z : Int) = (z : Int) := by
              have := or6 0 z (by omega) hz64
              simpa using this
            clear hor
            go_wp2
            go_roundw
            case rel => exact ⟨j + 1, z, 6, X, by omega, by go_num, by first | rfl | rw [hor0], rfl, Or.inr (Or.inl ⟨rfl, hz64⟩), by omega, by
              show runs _ = _
              rw [HF.out]
              simp [feed], HZ2, hown, hbel⟩
            case measure => simp [intOf]; omega
          · have hand := and15' x hx1
            have hb8 : x < 4096 := by omega
            go_wp2_with (at_builtin; refine wpList_app rfl _ _ 22 rfl w2.heap.size 5 i0 (.int .u8 0) 1 Try.underlying22 hi hz0 hz1 hz2 rfl _ X.length (bcells X) rfl hown hbel hbel.size [.int .u8 ((x : Int) / 16)] 1 rfl rfl (by intro u hu; simp at hu; subst hu; rfl) (by unfold maxLen; omega) (by omega) ?_)
            intro v' w5 hown5 hbel5
            clear hown hbel
            go_wp2
            go_roundw
            case rel => exact ⟨j + 1, x % 16, 4, X ++ [UInt8.ofNat (x / 16)], by omega, by go_num, by first | rfl | go_num | (rw [hand]), rfl, Or.inr (Or.inr (Or.inl ⟨rfl, by omega⟩)), by simp; omega, by
              show runs _ = _
              rw [HF.out]
              simp [feed, ← HXX.out], HZ2, by
              have e := ofNat_small (x / 16) (by omega)
              rw [bcells_append, List.length_append]
              simp only [bcells, List.map_cons, List.map_nil, e]
              exact hown5, hbel5⟩
            case measure => simp [intOf]; omega
          · have hand := and3' x (hxd.1 rfl)
            have hb8 : x < 1024 := by omega
            go_wp2_with (at_builtin; refine wpList_app rfl _ _ 22 rfl w2.heap.size 5 i0 (.int .u8 0) 1 Try.underlying22 hi hz0 hz1 hz2 rfl _ X.length (bcells X) rfl hown hbel hbel.size [.int .u8 ((x : Int) / 4)] 1 rfl rfl (by intro u hu; simp at hu; subst hu; rfl) (by unfold maxLen; omega) (by omega) ?_)
            intro v' w5 hown5 hbel5
            clear hown hbel
            go_wp2
            go_roundw
            case rel => exact ⟨j + 1, x % 4, 2, X ++ [UInt8.ofNat (x / 4)], by omega, by go_num, by first | rfl | go_num | (rw [hand]), rfl, Or.inr (Or.inr (Or.inr ⟨rfl, by omega⟩)), by simp; omega, by
              show runs _ = _
              rw [HF.out]
              simp [feed, ← HXX.out], HZ2, by
              have e := ofNat_small (x / 4) (by omega)
              rw [bcells_append, List.length_append]
              simp only [bcells, List.map_cons, List.map_nil, e]
              exact hown5, hbel5⟩
            case measure => simp [intOf]; omega
          · have hand := and0' x (hxd.2 rfl)
            have hb8 : x < 256 := hxd.2 rfl
            go_wp2_with (at_builtin; refine wpList_app rfl _ _ 22 rfl w2.heap.size 5 i0 (.int .u8 0) 1 Try.underlying22 hi hz0 hz1 hz2 rfl _ X.length (bcells X) rfl hown hbel hbel.size [.int .u8 ((x : Int))] 1 rfl rfl (by intro u hu; simp at hu; subst hu; rfl) (by unfold maxLen; omega) (by omega) ?_)
            intro v' w5 hown5 hbel5
            clear hown hbel
            go_wp2
            go_roundw
            case rel => exact ⟨j + 1, 0, 0, X ++ [UInt8.ofNat (x)], by omega, by go_num, by first | rfl | go_num | (rw [hand]), rfl, Or.inl ⟨rfl, rfl⟩, by simp; omega, by
              show runs _ = _
              rw [HF.out]
              simp [feed, ← HXX.out] ; omega, HZ2, by
              have e := ofNat_small (x) (by omega)
              rw [bcells_append, List.length_append]
              simp only [bcells, List.map_cons, List.map_nil, e]
              exact hown5, hbel5⟩
            case measure => simp [intOf]; omega
      · obtain rfl : j = m := by omega
        have HE : Hid (T.take j = T) := by rw [HM.out]; exact List.take_length
        rw [HE.out] at HRU HZ
        have HN : Hid (dOk L = true) := by
          show dOk L = true
          unfold dOk
          rw [← HT.out, decide_eq_true_iff]
          exact ⟨by rw [← HM.out]; exact h4, HZ.out⟩
        have HB : Hid (dB L = X) := by
          show dB L = X
          unfold dB
          rw [HN.out, if_pos rfl, ← HT.out, HRU.out]
        go_wp2
        go_ret2
        exact ⟨_, ret2 rfl (bool_eq HN.out.symm), by rw [HB.out]; exact owns_base hown hbel2.size, bel hbel2 hbel⟩
end Go.Proofs.Ytflklgcnjliipaa.B64D
