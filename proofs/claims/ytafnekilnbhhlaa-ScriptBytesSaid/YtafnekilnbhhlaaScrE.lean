/- Scripts: Encode. -/
import Derived.Test.YtafnekilnbhhlaaScrW
namespace Go.Proofs.Ytafnekilnbhhlaa.ScrE
open Go.RowKit Go.Proofs.Ytafnekilnbhhlaa.Base Go.Proofs.Ytafnekilnbhhlaa.Base2 Go.Proofs.Ytafnekilnbhhlaa.AnsP Go.Proofs.Ytafnekilnbhhlaa.AnsW Go.Proofs.Ytafnekilnbhhlaa.ScrP Go.Proofs.Ytafnekilnbhhlaa.ScrB Go.Proofs.Ytafnekilnbhhlaa.ScrW

theorem encs_small (l : List O) (h : ∀ o ∈ l, Small o) : (encs l).length ≤ 4000100 * l.length := by
  induction l with
  | nil => simp [encs]
  | cons o l ih =>
    have e : encs (o :: l) = enco o ++ encs l := rfl
    have h1 := h o (by simp)
    have := length_enco o h1.fits
    have := ih fun x hx => h x (by simp [hx])
    have := h1.s; have := h1.t; have := h1.c; have := h1.d
    rw [e, List.length_append, List.length_cons]
    omega
theorem new_writer (w : World) : IsW w.heap.size w.heap.size [] (w.alloc (.cells #[.slice none 0 0] 57)) := ⟨_, heap_alloc_new w _, World.ownsRow_nil _ _ _ _, Nat.le_refl _⟩
set_option maxRecDepth 100000 in
set_option maxHeartbeats 8000000 in
theorem encode_any (A : Option Addr) (n c : Nat) (l : List O) (w : World) (h : Ops w A n l) (hs : ∀ o ∈ l, Small o) (hn : n ≤ 100) :
    Calls Try.prog 9 #[.slice A n c] w fun e w' => ∃ v, e = .returned v ∧ w'.ownsRow w.heap.size 5 1 v (encs l).length (bcells (encs l)) ∧ Below w.heap.size w w' := by
  have hln := h.1
  have HLN := hid hln
  have HH := hid h
  have HS := hid hs
  have HLE : Hid ((encs l).length ≤ 400010000) := by have := encs_small l hs; rw [hln] at this; show _ ≤ _; omega
  clear h hs hln
  go_enter Try.func9, Try.ntmps9
  go_upto_region 3 with (fail)
  generalize hw : World.alloc w _ = W0
  have h1 : IsW w.heap.size w.heap.size [] W0 ∧ Below w.heap.size w W0 := by
    subst hw
    exact ⟨new_writer w, (Below.refl _ _).alloc (Nat.le_refl _) _⟩
  have HW0 := hid h1.1
  have HB0 := hid h1.2
  clear h1 hw
  go_loopw [5, 8] (fun _ vk wr => ∃ (k : Nat) (X : List UInt8), k ≤ n ∧ vk = .int .i64 (k : Int) ∧ Hid (X = encs (l.take k)) ∧ Hid (IsW w.heap.size w.heap.size X wr) ∧ Hid (Below w.heap.size w wr)) (fun _ vk _ => n - (intOf vk).toNat)
  case atStart => exact ⟨0, [], Nat.zero_le _, rfl, by show _ = _; rfl, HW0.out, HB0.out⟩
  case round =>
    obtain ⟨k, X, hk, rfl, HX, HW, HB⟩ := hrel
    by_cases hlt : k < n
    · have hkl : k < l.length := by rw [HLN.out]; exact hlt
      have HO := hid (HH.out.below HB.out)
      obtain ⟨b, off, rfl, hbl⟩ := HO.out.spot (by omega)
      have hld := HO.out.load k hkl (S := 37) Try.underlying37 (by kernel_rfl)
      obtain ⟨o, ho⟩ : ∃ o, o = l[k] := ⟨_, rfl⟩
      rw [← ho] at hld
      have HSO : Hid (Small o) := HS.out o (by rw [ho]; exact List.getElem_mem hkl)
      have HX2 : Hid (X ++ enco o = encs (l.take (k + 1))) := by show _ = _; rw [HX.out, ho, List.take_succ_eq_append_getElem hkl, encs_append]; simp [encs]
      have HXL : Hid (X.length ≤ 400010000) := by
        have h1 : encs l = encs (l.take k) ++ encs (l.drop k) := by rw [← encs_append, List.take_append_drop]
        have := congrArg List.length h1
        have := HLE.out
        rw [List.length_append, ← HX.out] at *
        show _ ≤ _
        omega
      have HLD := hid hld
      clear ho hkl hld
      go_upto_region 5 with (first | refine load_as HLD.out (.tmp 10) rfl rfl rfl ?_ | refine store_op (heap_alloc_new _ _) rfl o HSO.out.fits.r (.tmp 5) (.tmp 11) rfl rfl rfl rfl (by kernel_rfl) ?_)
      generalize hW : World.setRow _ _ _ = W1
      have h1 : OB 37 W1 wr.heap.size o ∧ Below wr.heap.size wr W1 := by
        subst hW
        exact fresh _ _ _ _
      have HO1 := hid h1.1
      have HW1 := hid (HW.out.below h1.2)
      have HB1 := hid (HB.out.trans (h1.2.mono HB.out.size))
      have HLD1 := hid (h1.1.load HSO.out.fits.r Try.underlying37 (by kernel_rfl))
      clear h1 hW HLD HW HB HO hbl
      go_wp2_with (first | refine load_as HLD1.out (.tmp 5) rfl rfl rfl ?_ | fail)
      refine (write_any w.heap.size w.heap.size X o _ HW1.out HSO.out (by have := HXL.out; omega)).mono ?_
      rintro e w2 ⟨rfl, hw, hb, hk2⟩
      have HW2 := hid hw
      have HB2 := hid (HB1.out.trans hb)
      clear hw hb hk2 HW1 HB1 HO1
      go_wp2
      go_roundw
      case rel => exact ⟨k + 1, _, by omega, by go_num, HX2.out, HW2.out, HB2.out⟩
      case measure => simp [intOf]; omega
    · obtain rfl : k = n := by omega
      have HX2 : Hid (X = encs l) := by show _ = _; rw [HX.out, ← HLN.out, List.take_length]
      go_wp2_with fail
      refine (bytesw_any w.heap.size w.heap.size X _ HW.out (by have := HLE.out; rw [HX2.out]; omega)).mono ?_
      rintro e w2 ⟨v, rfl, hown, hb⟩
      rw [HX2.out] at hown
      have HOW := hid (owns_base hown HB.out.size)
      have HB2 := hid (HB.out.trans (hb.mono HB.out.size))
      clear hown hb
      go_wp2
      go_ret
      exact ⟨_, rfl, HOW.out, HB2.out⟩
end Go.Proofs.Ytafnekilnbhhlaa.ScrE
