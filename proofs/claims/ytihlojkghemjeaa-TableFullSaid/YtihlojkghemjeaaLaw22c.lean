/- The law TableFull. -/
import Derived.Test.YtihlojkghemjeaaTbW
import Derived.Test.YtihlojkghemjeaaTbL
namespace Go.Proofs.Ytihlojkghemjeaa.Laws
open Go.RowKit Go.Proofs.Ytihlojkghemjeaa.Base Go.Proofs.Ytihlojkghemjeaa.Base2 Go.Proofs.Ytihlojkghemjeaa.TbG Go.Proofs.Ytihlojkghemjeaa.TbW

/-- Entries 1, 2, .. whose things are slices of one number, their place. -/
structure Fill (l : List (Nat × (Option Addr × Nat × Nat))) (w : World) : Prop where
  hd : ∀ k (hk : k < l.length), l[k].1 = k + 1
  th : ∀ k (hk : k < l.length), ∃ b, l[k].2 = (some ⟨b, 0, none⟩, 1, 1) ∧ w.heap[b]? = some (.cells #[.int .i64 (k : Int)] 3 (0, 0))
theorem Fill.kp {l : List (Nat × (Option Addr × Nat × Nat))} {w w' : World} (h : Fill l w) (hk : Kp 87 89 w w') : Fill l w' :=
  ⟨h.hd, fun k hk' => by obtain ⟨b, h1, h2⟩ := h.th k hk'; exact ⟨b, h1, hk _ _ _ _ h2 (by decide) (by decide)⟩⟩
theorem Fill.below {l : List (Nat × (Option Addr × Nat × Nat))} {w w' : World} (h : Fill l w) (hb : Below w.heap.size w w') : Fill l w' := h.kp (Kp.below hb)
theorem idx_at {α : Type} {l : List (Nat × α)} {k : Nat} (hk : k < l.length) (h : ∀ j (hj : j < l.length), l[j].1 = j + 1) : idx l ((k : Int) + 1) = some k := by
  unfold idx
  rw [List.findIdx?_eq_some_iff_getElem]
  refine ⟨hk, by rw [h k hk]; simp, fun j hj => ?_⟩
  have := h j (Nat.lt_trans hj hk)
  simp
  omega
theorem idx_new {α : Type} {l : List (Nat × α)} {q n : Nat} (x : α) (hl : l.length = n) (hq : q < n) (h : ∀ j (hj : j < l.length), l[j].1 = j + 1) : idx (l.eraseIdx q ++ [(n + 1, x)]) ((n : Int) + 1) = some (n - 1) := by
  have hle : (l.eraseIdx q).length = n - 1 := by rw [List.length_eraseIdx, if_pos (by omega), hl]
  unfold idx
  rw [List.findIdx?_eq_some_iff_getElem]
  refine ⟨by simp [hle], ?_, fun j hj => ?_⟩
  · rw [List.getElem_append_right (by omega)]
    simp
  · rw [List.getElem_append_left (by omega)]
    have hm : (l.eraseIdx q)[j]'(by omega) ∈ l := List.mem_of_mem_eraseIdx (List.getElem_mem _)
    obtain ⟨i, hi, e⟩ := List.mem_iff_getElem.1 hm
    rw [← e, h i hi]
    simp
    omega
set_option linter.unusedSimpArgs false in
set_option maxRecDepth 100000 in
set_option maxHeartbeats 8000000 in
/-- The walk of the law TableFull. -/
theorem TableFull_any (rm gn : Int) (w : World) (hrm : 0 ≤ rm ∧ rm ≤ 255) (hgn : 0 ≤ gn ∧ gn ≤ 255) :
    Calls Try.prog 5 #[.int .u8 rm, .int .u8 gn] w fun e w' => e = .returned (.bool true) ∧ Below w.heap.size w w' := by
  obtain ⟨rn, hrn⟩ : ∃ rn : Nat, rm = (rn : Int) := ⟨rm.toNat, by omega⟩
  subst hrn
  obtain ⟨gg, hgg⟩ : ∃ gg : Nat, gn = (gg : Int) := ⟨gn.toNat, by omega⟩
  subst hgg
  obtain ⟨q, hq⟩ : ∃ q, q = rn % 64 := ⟨_, rfl⟩
  have hqt : (rn : Int).tmod 64 = (q : Int) := by rw [Int.tmod_eq_emod_of_nonneg (by omega), hq]; simp
  obtain ⟨n, hn⟩ : ∃ n, n = 1 + q := ⟨_, rfl⟩
  have hnq : (1 : Int) + (q : Int) = (n : Int) := by omega
  have hn1 : 1 ≤ n := by omega
  have hn64 : n ≤ 64 := by omega
  obtain ⟨p, hp⟩ : ∃ p, p = gg % n := ⟨_, rfl⟩
  have hpn : p < n := by rw [hp]; exact Nat.mod_lt _ (by omega)
  have hpt : (gg : Int).tmod (n : Int) = (p : Int) := by rw [Int.tmod_eq_emod_of_nonneg (by omega), hp]; simp
  have hn0 : ¬ (n : Int) = 0 := by omega
  have hp64 : (p : Int) ≤ 64 := by omega
  have hni64 : (n : Int) ≤ 64 := by omega
  clear hq hn hp
  go_enter Try.func5, Try.ntmps5
  go_wp2_with fail
  refine (awake_any _).mono ?_
  rintro e w1 ⟨rfl, hb⟩
  have HB1 := hid hb
  have HW1 : Hid (w.heap.size ≤ w1.heap.size) := hb.size
  clear hb
  go_wp2_with fail
  refine (TbL.new_any n hn1 hn64 _).mono ?_
  rintro e w2 ⟨g, rfl, hT, hb⟩
  have HT2 := hid hT
  have HB2 := hid (bel HB1.out hb)
  have HF2 : Hid (Fill [] w2) := ⟨fun k hk => absurd hk (by simp), fun k hk => absurd hk (by simp)⟩
  clear hT hb
  go_wp2
  go_loopw [8, 9, 10, 32] (fun _ _ _ vk wr => ∃ (j : Nat) (l : List (Nat × (Option Addr × Nat × Nat))), j ≤ n ∧ vk = .int .i64 (j : Int) ∧ Hid (IsT 87 89 TbL.encL w1.heap.size g n j l wr) ∧ Hid (l.length = j) ∧ Hid (Fill l wr) ∧ Hid (Below w.heap.size w wr)) (fun _ _ _ vk _ => n - (intOf vk).toNat)
  case atStart => exact ⟨0, [], Nat.zero_le _, rfl, HT2.out, rfl, HF2.out, HB2.out⟩
  case round =>
    obtain ⟨j, l, hj, rfl, HT, HL, HF, HB⟩ := hrel
    have hj64 : (j : Int) ≤ 64 := by omega
    by_cases hlt : j < n
    · have hb0 : Below wr.heap.size wr (wr.alloc (.cells #[.int .i64 (j : Int)] 3)) := (Below.refl _ _).alloc (Nat.le_refl _) _
      have HTa := hid (HT.out.below hb0)
      have HBa := hid (bel HB.out hb0)
      have HFa := hid (HF.out.below hb0)
      have HNa : Hid ((wr.alloc (.cells #[.int .i64 (j : Int)] 3)).heap[wr.heap.size]? = some (.cells #[.int .i64 (j : Int)] 3 (0, 0))) := heap_alloc_new wr _
      clear hb0
      go_wp2_with fail
      refine (TbL.put_any _ g n j l (some ⟨wr.heap.size, 0, none⟩, 1, 1) _ HTa.out (by rw [HL.out]; exact hlt) hn64 (by omega)).mono ?_
      rintro e w3 ⟨rfl, hT, hb, hk⟩
      have HT3 := hid hT
      have HB3 : Hid (Below w.heap.size w w3) := HBa.out.trans (hb.mono HW1.out)
      have HL3 : Hid ((l ++ [(j + 1, ((some ⟨wr.heap.size, 0, none⟩ : Option Addr), 1, 1))]).length = j + 1) := by show _ = _; rw [List.length_append, HL.out]; rfl
      have HF3 : Hid (Fill (l ++ [(j + 1, ((some ⟨wr.heap.size, 0, none⟩ : Option Addr), 1, 1))]) w3) := by
        have hF := HFa.out.kp hk
        have hN := hk _ _ _ _ HNa.out (by decide) (by decide)
        refine ⟨fun k hk' => ?_, fun k hk' => ?_⟩
        · by_cases hkl : k < l.length
          · rw [List.getElem_append_left hkl]; exact hF.hd k hkl
          · have : k = l.length := by simp at hk'; omega
            subst this
            simp [HL.out]
        · by_cases hkl : k < l.length
          · rw [List.getElem_append_left hkl]; exact hF.th k hkl
          · have : k = l.length := by simp at hk'; omega
            subst this
            exact ⟨wr.heap.size, by simp, by rw [HL.out]; exact hN⟩
      clear hT hb hk
      go_wp2
      go_roundw
      case rel => exact ⟨j + 1, _, by omega, by go_num, HT3.out, HL3.out, HF3.out, HB3.out⟩
      case measure => simp [intOf]; omega
    · obtain rfl : j = n := by omega
      have hpl : p < l.length := by rw [HL.out]; exact hpn
      go_wp2_with fail
      refine (TbL.put_full _ g j j l (none, 0, 0) _ HT.out (by rw [HL.out]; exact Nat.le_refl _) (by rw [HL.out]; exact hn64)).mono ?_
      rintro e w3 ⟨rfl, hb⟩
      have HT3 := hid (HT.out.below hb)
      have HF3 := hid (HF.out.below hb)
      have HB3 := hid (bel HB.out hb)
      clear hb
      have HI : Hid (idx l ((p : Int) + 1) = some p) := idx_at hpl HF.out.hd
      obtain ⟨bp, hbp, _⟩ := HF.out.th p hpl
      have HG : Hid (TbL.got l ((p : Int) + 1) = .tuple #[.slice (some ⟨bp, 0, none⟩) 1 1, .bool true]) := by
        show _ = _
        unfold TbL.got
        rw [HI.out]
        simp only
        rw [List.getElem?_eq_getElem hpl]
        simp only [hbp]
        rfl
      have HGN : Hid (TbL.gone l ((p : Int) + 1) = l.eraseIdx p) := by show _ = _; unfold TbL.gone; rw [HI.out]
      have HBP := hid hbp
      clear hbp
      go_wp2_with fail
      refine (TbL.del_any _ g j j l ((p : Int) + 1) _ HT3.out (by rw [HL.out]; exact hn64)).mono ?_
      rw [HG.out, HGN.out]
      rintro e w4 ⟨rfl, hT, hb, hk⟩
      have HT4 := hid hT
      have HB4 : Hid (Below w.heap.size w w4) := HB3.out.trans (hb.mono HW1.out)
      have HF4 := hid (HF3.out.kp hk)
      have HLE : Hid ((l.eraseIdx p).length = j - 1) := by show _ = _; rw [List.length_eraseIdx, if_pos hpl, HL.out]
      clear hT hb hk
      have hb0 : Below w4.heap.size w4 (w4.alloc (.cells #[.int .i64 100] 3)) := (Below.refl _ _).alloc (Nat.le_refl _) _
      have HTa := hid (HT4.out.below hb0)
      have HBa := hid (bel HB4.out hb0)
      have HFa := hid (HF4.out.below hb0)
      have HNa : Hid ((w4.alloc (.cells #[.int .i64 100] 3)).heap[w4.heap.size]? = some (.cells #[.int .i64 100] 3 (0, 0))) := heap_alloc_new w4 _
      clear hb0
      go_wp2_with fail
      refine (TbL.put_any _ g j j (l.eraseIdx p) (some ⟨w4.heap.size, 0, none⟩, 1, 1) _ HTa.out (by rw [HLE.out]; omega) hn64 (by omega)).mono ?_
      rintro e w5 ⟨rfl, hT, hb, hk⟩
      have HT5 := hid hT
      have HB5 : Hid (Below w.heap.size w w5) := HBa.out.trans (hb.mono HW1.out)
      have HF5 := hid (HFa.out.kp hk)
      have HN5 := hid (hk _ _ _ _ HNa.out (by decide) (by decide))
      have HL5 : Hid ((l.eraseIdx p ++ [(j + 1, ((some ⟨w4.heap.size, 0, none⟩ : Option Addr), 1, 1))]).length = j) := by show _ = _; rw [List.length_append, HLE.out, List.length_singleton]; omega
      have HI5 : Hid (idx (l.eraseIdx p ++ [(j + 1, ((some ⟨w4.heap.size, 0, none⟩ : Option Addr), 1, 1))]) ((j : Int) + 1) = some (j - 1)) := idx_new _ HL.out hpn HF.out.hd
      have HG5 : Hid (TbL.got (l.eraseIdx p ++ [(j + 1, ((some ⟨w4.heap.size, 0, none⟩ : Option Addr), 1, 1))]) ((j : Int) + 1) = .tuple #[.slice (some ⟨w4.heap.size, 0, none⟩) 1 1, .bool true]) := by
        show _ = _
        unfold TbL.got
        rw [HI5.out]
        simp only
        rw [List.getElem?_append_right (by rw [HLE.out]; exact Nat.le_refl _), HLE.out, Nat.sub_self]
        rfl
      clear hT hb hk
      go_wp2_with fail
      refine (TbL.get_any _ g j (j + 1) _ ((j : Int) + 1) _ HT5.out (by rw [HL5.out]; exact hn64)).mono ?_
      rw [HG5.out]
      rintro e w6 ⟨rfl, hb⟩
      have HT6 := hid (HT5.out.below hb)
      have HB6 := hid (bel HB5.out hb)
      have hF6 := HF5.out.below hb
      have hn6 := (hb.block _ (Array.getElem?_eq_some_iff.1 HN5.out).1).trans HN5.out
      obtain ⟨bp', hbp', hcp⟩ := hF6.th p hpl
      have hbe : bp' = bp := by
        have := hbp'.symm.trans HBP.out
        simpa using this
      subst hbe
      have cx : w6.cell? ⟨bp', 0, none⟩ = some (.int .i64 (p : Int)) := (cell_of_row w6 bp' 0 _ _ _ hcp).trans rfl
      have cy : w6.cell? ⟨w4.heap.size, 0, none⟩ = some (.int .i64 100) := (cell_of_row w6 _ 0 _ _ _ hn6).trans rfl
      clear hb hF6 hn6 hbp' hcp
      go_wp2_with fail
      refine (TbL.len_any _ g _ _ _ _ HT6.out (by rw [HL5.out]; exact hn64)).mono ?_
      rw [HL5.out]
      rintro e w9 ⟨rfl, hw9⟩
      subst hw9
      go_wp2
      go_ret
      exact ⟨rfl, HB6.out⟩
end Go.Proofs.Ytihlojkghemjeaa.Laws
