/- The document's own Quotable. -/
import Derived.Test.YtlbgcibdpeaomaaDoorTokV
import Derived.Test.YtlbgcibdpeaomaaDoorTokT
import Derived.Test.YtlbgcibdpeaomaaDoorRefV
import Derived.Test.YtlbgcibdpeaomaaDoorBase2
namespace Go.Proofs.YtlbgcibdpeaomaaDoor.TokU
open Go.RowKit Go.Proofs.YtlbgcibdpeaomaaDoor.Base Go.Proofs.YtlbgcibdpeaomaaDoor.Base2 Go.Proofs.YtlbgcibdpeaomaaDoor.TokP Go.Proofs.YtlbgcibdpeaomaaDoor.TokQ Go.Proofs.YtlbgcibdpeaomaaDoor.TokA Go.Proofs.YtlbgcibdpeaomaaDoor.TokT Go.Proofs.YtlbgcibdpeaomaaDoor.UtfR Go.Proofs.YtlbgcibdpeaomaaDoor.TokV

set_option maxRecDepth 100000 in
set_option maxHeartbeats 2000000 in
theorem ref_quotable (s : ByteArray) (w : World) (hs : s.size ≤ 1073741824) :
    Calls Tryd.prog 35 #[.string s] w fun e w' => e = .returned (.bool (quotable s.data.toList)) ∧ Below w.heap.size w w' := by
  have hl : s.data.toList.length = s.size := Array.length_toList
  have HL := hid hl
  clear hl
  have hcv := fun (w : World) s => run_bytes_of_string (P := Tryd.prog) w 9 38 5 s Tryd.underlying9 Tryd.underlying38 Tryd.underlying5
  have Hcap : Hid (s.size ≤ grownCap w s.size 0 5) := grownCap_ge w s.size 0 5
  go_enter Tryd.func35, Tryd.ntmps35
  go_wp2_with fail
  refine (RefD.decode_any _ s.size _ s.data.toList _ (rds_made s _ w 5) hs Hcap.out).mono ?_
  rintro e w2 ⟨v, rfl, hown, hb2⟩
  have hbel : Below w.heap.size w w2 := ((Below.refl _ _).alloc (Nat.le_refl _) _).drew.trans (hb2.mono (by simp))
  clear hb2 hcv Hcap
  obtain ⟨n, hn⟩ : ∃ n, n = (dec s.data.toList).length := ⟨_, rfl⟩
  have hn2 : n ≤ 1073741824 := by rw [hn]; have := RefV.dec_len s.data.toList; have := HL.out; omega
  rw [← hn] at hown
  have HN := hid hn
  clear hn
  obtain ⟨A, cap, rfl, hc, _, hr⟩ := owns_form hown
  have HR := hid hr
  clear hown hr
  go_wp2_with fail
  go_loop [10] (fun vk => ∃ k : Nat, k ≤ n ∧ vk = .int .i64 k ∧ Hid ((dec s.data.toList).all qch = ((dec s.data.toList).drop k).all qch)) (fun vk => n - (intOf vk).toNat)
  case atStart => exact ⟨0, Nat.zero_le _, rfl, rfl⟩
  case round =>
    obtain ⟨k, hk, rfl, HQ⟩ := hrel
    by_cases hlt : k < n
    · have hlt' : k < (dec s.data.toList).length := by rw [← HN.out]; exact hlt
      obtain ⟨r, hrr⟩ : ∃ r, r = (dec s.data.toList)[k] := ⟨_, rfl⟩
      obtain ⟨b, off, rfl, hb, _⟩ := HR.out.spot (by omega)
      have hcell := HR.out.int k hlt'
      rw [← hrr] at hcell
      have HD : Hid ((dec s.data.toList).drop k = r :: (dec s.data.toList).drop (k + 1)) := by
        show _ = _
        rw [List.drop_eq_getElem_cons hlt', hrr]
      clear hrr
      by_cases hq : r = 9 ∨ 32 ≤ r ∧ r ≤ 126 ∨ 128 ≤ r ∧ r ≤ 255
      · have HQ2 : Hid ((dec s.data.toList).all qch = ((dec s.data.toList).drop (k + 1)).all qch) := by
          show _ = _
          rw [HQ.out, HD.out, List.all_cons, show qch r = true by unfold qch; rw [decide_eq_true_iff]; exact hq, Bool.true_and]
        rcases hq with h | ⟨h1, h2⟩ | ⟨h1, h2⟩
        · subst h
          go_wp2
          go_round
          case rel => exact ⟨k + 1, by omega, by go_num, HQ2⟩
          case measure => simp [intOf]; omega
        · have e1 : (r == 127) = false := by simp; omega
          by_cases h9 : r = 9
          · omega
          have e2 : (r != 9) = true := by simp; omega
          go_wp2
          go_round
          case rel => exact ⟨k + 1, by omega, by go_num, HQ2⟩
          case measure => simp [intOf]; omega
        · have e1 : (r == 127) = false := by simp; omega
          have e2 : (r != 9) = true := by simp; omega
          go_wp2
          go_round
          case rel => exact ⟨k + 1, by omega, by go_num, HQ2⟩
          case measure => simp [intOf]; omega
      · have HF : Hid (quotable s.data.toList = false) := by
          show _ = _
          rw [quotable, HQ.out, HD.out, List.all_cons, show qch r = false by unfold qch; rw [decide_eq_false_iff_not]; exact hq, Bool.false_and, Bool.and_false]
        have e2 : (r != 9) = true := by simp; omega
        have hcase : r < 32 ∨ (r == 127) = true ∧ ¬ r < 32 ∨ (r == 127) = false ∧ ¬ r < 32 ∧ 255 < r := by
          by_cases h127 : r = 127
          · exact .inr (.inl ⟨by simp [h127], by omega⟩)
          · by_cases h32 : r < 32
            · exact .inl h32
            · exact .inr (.inr ⟨by simp [h127], h32, by omega⟩)
        clear hq
        rcases hcase with h | ⟨h, h'⟩ | ⟨h, h', h''⟩
        all_goals
          go_wp2
          all_goals
            go_ret
            rw [HF.out]
            exact ⟨rfl, hbel⟩
    · obtain rfl : k = n := by omega
      have HF : Hid (quotable s.data.toList = val s.data.toList) := by
        show _ = _
        rw [quotable, HQ.out, HN.out, List.drop_length]
        simp
      have hcv := fun (w : World) s => run_bytes_of_string (P := Tryd.prog) w 9 38 5 s Tryd.underlying9 Tryd.underlying38 Tryd.underlying5
      have Hcap : Hid (s.size ≤ grownCap w2 s.size 0 5) := grownCap_ge w2 s.size 0 5
      go_wp2_with fail
      refine (RefV.valid_any _ s.size _ s.data.toList _ (rds_made s _ w2 5) hs Hcap.out).mono ?_
      rintro e w3 ⟨rfl, hb3⟩
      rw [← HF.out]
      clear hcv
      go_wp2_with fail
      go_ret
      exact ⟨rfl, ((hbel.alloc hbel.size _).drew).trans (hb3.mono (by have := hbel.size; simp; omega))⟩
end Go.Proofs.YtlbgcibdpeaomaaDoor.TokU
