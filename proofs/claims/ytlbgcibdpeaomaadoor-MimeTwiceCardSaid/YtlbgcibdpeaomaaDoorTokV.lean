/- Contracts of token.Quotable and of the document's own: valid, and quotable characters alone. -/
import Derived.Test.YtlbgcibdpeaomaaDoorTokT
import Derived.Test.YtlbgcibdpeaomaaDoorRefV
import Derived.Lib.TrimUEq
import Derived.Laws.RangeAny
namespace Go.Proofs.YtlbgcibdpeaomaaDoor.TokV
open Go.RowKit Go.Proofs.YtlbgcibdpeaomaaDoor.Base Go.Proofs.YtlbgcibdpeaomaaDoor.Base2 Go.Proofs.YtlbgcibdpeaomaaDoor.TokP Go.Proofs.YtlbgcibdpeaomaaDoor.TokQ Go.Proofs.YtlbgcibdpeaomaaDoor.UtfR Go.Proofs.YtlbgcibdpeaomaaDoor.UtfP

theorem un (x : Int) (h0 : 0 ≤ x) (h1 : x ≤ 255) : (u x).toNat = x.toNat := by have := u_nat x h0 h1; omega
set_option maxRecDepth 100000 in
theorem decodeN_enc (r : Int) (h : Chr r) (t : List UInt8) : Lib.decodeN (Lib.encodeRune r ++ t).length ((Lib.encodeRune r ++ t).getD 0 0).toNat ((Lib.encodeRune r ++ t).getD 1 0).toNat ((Lib.encodeRune r ++ t).getD 2 0).toNat ((Lib.encodeRune r ++ t).getD 3 0).toNat = (r.toNat, (Lib.encodeRune r).length) := by
  obtain ⟨h0, h1, h2⟩ := h
  by_cases a : r ≤ 127
  · rw [enc1 r h0 a]
    simp only [List.cons_append, List.nil_append, List.getD_cons_zero, un r h0 (by omega), Lib.decodeN]
    rw [if_pos (by omega)]
    rfl
  by_cases b : r ≤ 2047
  · rw [enc2 r (by omega) b]
    simp only [List.cons_append, List.nil_append, List.getD_cons_zero, List.getD_cons_succ, un (192 + r / 64) (by omega) (by omega), un (128 + r % 64) (by omega) (by omega), Lib.decodeN, List.length_cons, List.length_nil]
    rw [if_neg (by omega), if_pos (by omega), if_pos (by omega)]
    refine Prod.ext ?_ rfl
    simp only
    omega
  by_cases c : r ≤ 65535
  · rw [enc3 r (by omega)]
    simp only [List.cons_append, List.nil_append, List.getD_cons_zero, List.getD_cons_succ, un (224 + r / 4096) (by omega) (by omega), un (128 + r / 64 % 64) (by omega) (by omega), un (128 + r % 64) (by omega) (by omega), Lib.decodeN, List.length_cons, List.length_nil]
    rw [if_neg (by omega), if_neg (by omega), if_pos (by omega), if_pos (by omega)]
    refine Prod.ext ?_ rfl
    simp only
    omega
  · rw [enc4 r (by omega) h1]
    simp only [List.cons_append, List.nil_append, List.getD_cons_zero, List.getD_cons_succ, un (240 + r / 262144) (by omega) (by omega), un (128 + r / 4096 % 64) (by omega) (by omega), un (128 + r / 64 % 64) (by omega) (by omega), un (128 + r % 64) (by omega) (by omega), Lib.decodeN, List.length_cons, List.length_nil]
    rw [if_neg (by omega), if_neg (by omega), if_neg (by omega), if_pos (by omega), if_pos (by omega)]
    refine Prod.ext ?_ rfl
    simp only
    omega
/-- A character that is read whole is the one that the range takes. -/
theorem decode_rd (s : ByteArray) (pos : Nat) (h : pos < s.size) (hw : (rd (s.data.toList.drop pos)).2.2 = true) :
    ∃ c z : Nat, Utf8.decode s pos = (c, z) ∧ (c : Int) = (rd (s.data.toList.drop pos)).1 ∧ (z : Int) = (rd (s.data.toList.drop pos)).2.1 ∧ c ≤ 1114111 := by
  obtain ⟨x, t, hL⟩ : ∃ x t, s.data.toList.drop pos = x :: t := ⟨_, _, drop_at s pos h⟩
  obtain ⟨hC, hE⟩ := (rd_whole x t).1 (by rw [← hL]; exact hw)
  have hsz := rd_size x t
  have hpos : 1 ≤ (rd (x :: t)).2.1.toNat := by omega
  obtain ⟨r, hr⟩ : ∃ r, r = (rd (x :: t)).1 := ⟨_, rfl⟩
  obtain ⟨z, hz⟩ : ∃ z, z = (rd (x :: t)).2.1.toNat := ⟨_, rfl⟩
  rw [← hr] at hC hE
  rw [← hz] at hE
  have hsplit : x :: t = Lib.encodeRune r ++ (x :: t).drop z := by rw [hE, List.take_append_drop]
  have hlen : (Lib.encodeRune r).length = z := by
    rw [hE, List.length_take, List.length_cons]
    omega
  have hd := decodeN_enc r hC ((x :: t).drop z)
  rw [← hsplit, hlen] at hd
  have hg : ∀ k, (x :: t).getD k 0 = s.data.toList.getD (pos + k) 0 := fun k => by
    rw [← hL, List.getD_eq_getElem?_getD, List.getD_eq_getElem?_getD, List.getElem?_drop]
  have hl : (x :: t).length = s.data.toList.length - pos := by rw [← hL, List.length_drop]
  rw [hg, hg, hg, hg, hl, Nat.add_zero, ← Lib.decode_N] at hd
  refine ⟨r.toNat, z, hd, ?_, ?_, ?_⟩
  · rw [hL, ← hr]
    have := hC.1
    omega
  · rw [hL]
    omega
  · have := hC.2.1
    omega
/-- A quotable character. -/
def qch (r : Int) : Bool := decide (r = 9 ∨ 32 ≤ r ∧ r ≤ 126 ∨ 128 ≤ r ∧ r ≤ 255)
def quotable (L : List UInt8) : Bool := val L && (dec L).all qch

set_option maxRecDepth 100000 in
set_option maxHeartbeats 1000000 in
theorem quotable_any (s : ByteArray) (w : World) (hs : s.size ≤ 1073741824) :
    Calls Tryd.prog 37 #[.string s] w fun e w' => e = .returned (.bool (quotable s.data.toList)) ∧ Below w.heap.size w w' := by
  have hl : s.data.toList.length = s.size := Array.length_toList
  have HL := hid hl
  clear hl
  have hcv := fun (w : World) s => run_bytes_of_string (P := Tryd.prog) w 9 38 5 s Tryd.underlying9 Tryd.underlying38 Tryd.underlying5
  have Hcap : Hid (s.size ≤ grownCap w s.size 0 5) := grownCap_ge w s.size 0 5
  cases hv : val s.data.toList
  · have HV : Hid (quotable s.data.toList = false) := by show _ = _; rw [quotable, hv, Bool.false_and]
    have HVV := hid hv
    clear hv
    go_enter Tryd.func37, Tryd.ntmps37
    go_wp2_with fail
    refine (UtfR.valid_any _ s.size _ s.data.toList _ (rds_made s _ w 5) hs Hcap.out).mono ?_
    rintro e w2 ⟨rfl, hb2⟩
    rw [HVV.out]
    clear hcv
    go_wp2_with fail
    go_ret
    rw [HV.out]
    exact ⟨rfl, ((Below.refl _ _).alloc (Nat.le_refl _) _).drew.trans (hb2.mono (by simp))⟩
  · have HVV := hid hv
    clear hv
    go_enter Tryd.func37, Tryd.ntmps37
    go_wp2_with fail
    refine (UtfR.valid_any _ s.size _ s.data.toList _ (rds_made s _ w 5) hs Hcap.out).mono ?_
    rintro e w2 ⟨rfl, hb2⟩
    rw [HVV.out]
    clear hcv
    have hbel : Below w.heap.size w w2 := ((Below.refl _ _).alloc (Nat.le_refl _) _).drew.trans (hb2.mono (by simp))
    clear hb2
    go_wp2_with fail
    go_loopw [] (fun wr => ∃ pos : Nat, wr = w2.iter s pos ∧ pos ≤ s.size ∧ Hid (val (s.data.toList.drop pos) = true) ∧ Hid ((dec s.data.toList).all qch = (dec (s.data.toList.drop pos)).all qch)) (fun wr => s.size - wr.iterPos w2.heap.size)
    case atStart => exact ⟨0, rfl, Nat.zero_le _, HVV.out, rfl⟩
    case round =>
      obtain ⟨pos, rfl, hpos, HVL, HQ⟩ := hrel
      by_cases hlt : pos < s.size
      · have hvd := val_drop s.data.toList pos (by rw [HL.out]; exact hlt)
        rw [HVL.out] at hvd
        have hvd' := hvd.symm
        rw [Bool.and_eq_true] at hvd'
        obtain ⟨hw, hvn⟩ := hvd'
        obtain ⟨c, z, hdec, hc, hz, hcm⟩ := decode_rd s pos hlt hw
        obtain ⟨d1, d2, d3⟩ := dec_drop s.data.toList pos (by rw [HL.out]; exact hlt)
        rw [← hz] at hvn d1 d2 d3
        rw [← hc] at d1
        simp only [Int.toNat_natCast] at hvn d1
        rw [HL.out] at d3
        have hz1 : 1 ≤ z := by omega
        have hz2 : pos + z ≤ s.size := by omega
        have HVN := hid hvn
        have HD := hid d1
        have hnx : ∀ ty, (Instr.next (.pointer (some ⟨w2.heap.size, 0, none⟩)) true ty).run Tryd.prog (w2.iter s pos) = .ok (.tuple #[.bool true, .int .i64 pos, .int .i32 (c : Int)]) (w2.iter s (pos + z)) := fun ty => by
          have := run_next_any (P := Tryd.prog) w2 s pos ty hlt
          rw [hdec] at this
          exact this
        clear hvd hw hvn hdec hc hz d1 d2 d3
        by_cases hq : (c : Int) = 9 ∨ 32 ≤ (c : Int) ∧ (c : Int) ≤ 126 ∨ 128 ≤ (c : Int) ∧ (c : Int) ≤ 255
        · have HQ2 : Hid ((dec s.data.toList).all qch = (dec (s.data.toList.drop (pos + z))).all qch) := by
            show _ = _
            rw [HQ.out, HD.out, List.all_cons, show qch (c : Int) = true by unfold qch; rw [decide_eq_true_iff]; exact hq, Bool.true_and]
          rcases hq with h | ⟨h1, h2⟩ | ⟨h1, h2⟩
          · have e1 : ((c : Int) != 9) = false := by simp [h]
            clear h
            go_wp2
            all_goals
              go_roundw
              case rel => exact ⟨pos + z, rfl, hz2, HVN, HQ2⟩
              case measure => simp; omega
          · have e1 : ((c : Int) != 9) = true := by simp; omega
            go_wp2
            all_goals
              go_roundw
              case rel => exact ⟨pos + z, rfl, hz2, HVN, HQ2⟩
              case measure => simp; omega
          · have e1 : ((c : Int) != 9) = true := by simp; omega
            go_wp2
            all_goals
              go_roundw
              case rel => exact ⟨pos + z, rfl, hz2, HVN, HQ2⟩
              case measure => simp; omega
        · have HF : Hid (quotable s.data.toList = false) := by
            show _ = _
            rw [quotable, HQ.out, HD.out, List.all_cons, show qch (c : Int) = false by unfold qch; rw [decide_eq_false_iff_not]; exact hq, Bool.false_and, Bool.and_false]
          have e1 : ((c : Int) != 9) = true := by simp; omega
          have hcase : (c : Int) < 32 ∨ (c : Int) = 127 ∨ 255 < (c : Int) := by omega
          clear hq
          rcases hcase with h | h | h
          all_goals
            go_wp2
            all_goals
              go_ret
              rw [HF.out]
              exact ⟨rfl, hbel.alloc hbel.size _⟩
      · obtain rfl : pos = s.size := by omega
        have HF : Hid (quotable s.data.toList = true) := by
          show _ = _
          rw [quotable, HQ.out, ← HL.out, List.drop_length, HVV.out]
          rfl
        have hnx : ∀ ty, (Instr.next (.pointer (some ⟨w2.heap.size, 0, none⟩)) true ty).run Tryd.prog (w2.iter s s.size) = .ok (.tuple #[.bool false]) (w2.iter s s.size) := fun ty => run_next_end w2 s s.size ty hlt
        go_wp2
        go_ret
        rw [HF.out]
        exact ⟨rfl, hbel.alloc hbel.size _⟩
end Go.Proofs.YtlbgcibdpeaomaaDoor.TokV
