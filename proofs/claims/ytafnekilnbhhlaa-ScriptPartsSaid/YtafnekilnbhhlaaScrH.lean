/- Scripts: the document's Parse. -/
import Derived.Test.YtafnekilnbhhlaaScrG
import Derived.Test.YtafnekilnbhhlaaScrR
namespace Go.Proofs.Ytafnekilnbhhlaa.ScrH
open Go.RowKit Go.Proofs.Ytafnekilnbhhlaa.Base Go.Proofs.Ytafnekilnbhhlaa.Base2 Go.Proofs.Ytafnekilnbhhlaa.Base4 Go.Proofs.Ytafnekilnbhhlaa.AnsP Go.Proofs.Ytafnekilnbhhlaa.ScrP Go.Proofs.Ytafnekilnbhhlaa.ScrB Go.Proofs.Ytafnekilnbhhlaa.ScrR Go.Proofs.Ytafnekilnbhhlaa.ScrG

theorem info_rop : (Try.prog.info? 40).map (fun i => (i.zero.map (·.cells.size), i.size, i.bytes)) = some (some 27, 27, 128) := by kernel_rfl
def RPrs (L : List UInt8) (w : World) (e : Ending) (w' : World) : Prop := Below w.heap.size w w' ∧ match decAll L with
  | none => e = .returned (.tuple #[.slice none 0 0, .bool false])
  | some l => ∃ A c, e = .returned (.tuple #[.slice A l.length c, .bool true]) ∧ l.length ≤ c ∧ c ≤ maxLen ∧ Ops w' A l.length l
set_option maxRecDepth 100000 in
set_option maxHeartbeats 16000000 in
theorem parse_any (s : ByteArray) (w : World) (hs : s.size ≤ 1000000) :
    Calls Try.prog 13 #[.string s] w (RPrs s.data.toList w) := by
  have hsl : s.data.toList.length = s.size := Array.length_toList
  obtain ⟨L, hL⟩ : ∃ L, L = s.data.toList := ⟨_, rfl⟩
  rw [← hL] at hsl ⊢
  have hsL : s = strOf L := by rw [hL, strOf_toList]
  subst hsL
  clear hL
  have HLL : Hid (L.length ≤ 1000000) := by show _ ≤ _; omega
  clear hsl hs
  obtain ⟨i0, hi⟩ : ∃ i, Try.prog.info? 40 = some i := by
    have := info_rop
    cases hq : Try.prog.info? 40 with
    | none => simp [hq] at this
    | some i => exact ⟨i, rfl⟩
  have hii := info_rop
  rw [hi] at hii
  obtain ⟨z0, hz0⟩ : ∃ z, i0.zero = some z := by
    cases hq : i0.zero with
    | none => simp [hq] at hii
    | some z => exact ⟨z, rfl⟩
  simp only [hz0, Option.map_some, Option.some.injEq, Prod.mk.injEq] at hii
  have HI := hid hii
  clear hii
  go_enter Try.func13, Try.ntmps13
  go_wp2
  go_loopw [0, 4, 5, 6] (fun v0 v4 _ _ wr => ∃ (acc : List O) (M : List UInt8), v0 = .string (strOf M) ∧ Hid (Led L acc M) ∧ Hid (wr.ownsRow w.heap.size 40 27 v4 acc.length (acc.flatMap cells)) ∧ Hid (Below w.heap.size w wr)) (fun _ v4 _ _ _ => 1000001 - slen v4)
  case atStart => exact ⟨[], L, rfl, led_nil L, World.ownsRow_nil _ _ _ _, Below.refl _ _⟩
  case round =>
    obtain ⟨acc, M, rfl, HLD', HO, HB⟩ := hrel
    have HAL : Hid (acc.length + M.length ≤ 1000000) := by have := HLD'.out.2.1; have := HLL.out; show _ ≤ _; omega
    cases M with
    | nil =>
      have HDA := hid HLD'.out.done
      obtain ⟨A2, c2, rfl, hc2, hm2, hop⟩ := owns_ops HO.out HLD'.out.2.2
      have HOP := hid hop
      have HC := hid hc2
      have HM := hid hm2
      have z1 : (strOf []).toList = [] := by rw [strOf, ByteArray.toList_mk]
      clear hop hc2 hm2
      go_wp2
      go_ret2
      exact ⟨HB.out, by rw [HDA.out]; exact ⟨_, _, rfl, HC.out, HM.out, HOP.out⟩⟩
    | cons d D =>
      have z1 : (strOf (d :: D)).toList = d :: D := by rw [strOf, ByteArray.toList_mk]
      have z2 : ((strOf (d :: D)).toList == ([] : List UInt8)) = false := by rw [z1]; rfl
      obtain ⟨N, hN⟩ : ∃ N, N = d :: D := ⟨_, rfl⟩
      have HNE : Hid (N ≠ []) := by show _ ≠ _; rw [hN]; simp
      have HNS : Hid ((strOf N).size ≤ 1000000) := by have := HAL.out; rw [← hN] at this; show _ ≤ _; rw [size_strOf]; omega
      go_upto_region 5 with (fail)
      rw [← hN] at HLD' HAL ⊢
      clear z1 z2 hN
      have HFR := hid (OB.new 40 wr zro)
      generalize hW : World.alloc wr _ = W1
      have h1 : OB 40 W1 wr.heap.size zro ∧ Below wr.heap.size wr W1 := by
        subst hW
        exact ⟨HFR.out, (Below.refl _ _).alloc (Nat.le_refl _) _⟩
      have HX1 := hid h1.1
      have HC1 := hid h1.2
      have HWR := hid HB.out.size
      clear h1 hW HFR
      go_wp2_with fail
      refine (one_any (strOf N) _ HNS.out).mono ?_
      rw [show (strOf N).data.toList = N from rfl]
      rintro e w2 ⟨hb, hm⟩
      have HX2 := hid (HX1.out.below hb)
      have HC2 := hid (HC1.out.trans (hb.mono HC1.out.size))
      clear HX1 HC1 hb
      cases hd : dec1 N with
      | none =>
        rw [hd] at hm
        obtain rfl := hm
        have HDN := hid (HLD'.out.bad HNE.out hd)
        have HBR := hid (HB.out.trans ((below_row HC2.out (Nat.le_refl _) (cells zro).toArray).mono HWR.out))
        clear hd
        go_wp2_with (refine store_op HX2.out (size_cells (by rfl)) zro (by rfl) (.tmp 5) (.tmp 12) rfl rfl rfl rfl (by kernel_rfl) ?_)
        go_ret2
        exact ⟨HBR.out, by rw [HDN.out]; rfl⟩
      | some p =>
        obtain ⟨o, N2⟩ := p
        rw [hd] at hm
        obtain rfl := hm
        have HR16 := hid (dec1_r hd)
        have HLN := hid (HLD'.out.more HNE.out hd)
        clear hd
        go_upto_region 6 with (refine store_op HX2.out (size_cells (by rfl)) o HR16.out (.tmp 5) (.tmp 12) rfl rfl rfl rfl (by kernel_rfl) ?_)
        have h3 : OB 40 (w2.setRow wr.heap.size (cells o).toArray) wr.heap.size o := HX2.out.row o
        have hc3 : Below wr.heap.size wr (w2.setRow wr.heap.size (cells o).toArray) := below_row HC2.out (Nat.le_refl _) _
        generalize World.setRow w2 _ _ = W3 at h3 hc3 ⊢
        have HX3 := hid h3
        have HO3 := hid (owns_below HO.out hc3)
        have HB3 := hid (HB.out.trans (hc3.mono HWR.out))
        have HBB := hid HB3.out.size
        have HLD := hid (h3.load HR16.out Try.underlying40 (by kernel_rfl))
        clear h3 hc3
        go_wp2_with (first | refine load_as HLD.out (.tmp 5) rfl rfl rfl ?_ | refine build_one rfl (.tmp 18) rfl Try.underlying31 27 (by kernel_rfl) (by decide) (size_cells HR16.out) rfl ?_ | (at_builtin; refine wpList_appN 27 rfl _ _ 31 rfl w.heap.size 40 i0 z0 128 Try.underlying31 hi hz0 HI.out.2.1 HI.out.2.2 HI.out.1 (by decide) u4 acc.length (acc.flatMap cells) rfl HO3.out HB3.out HBB.out (cells o) 1 (length_cells HR16.out) rfl (cells_one o) (by unfold maxLen; have := HAL.out; omega) (by have := HAL.out; omega) ?_))
        intro v' w6 hown hb6 _
        have HB6 := hid hb6
        have HO6 : Hid (w6.ownsRow w.heap.size 40 27 v' (acc ++ [o]).length ((acc ++ [o]).flatMap cells)) := by show World.ownsRow _ _ _ _ _ _ _; rw [List.flatMap_append, List.length_append]; simpa using hown
        have HSL : Hid (slen v' = acc.length + 1 ∧ slen u4 = acc.length) := ⟨by rw [slen_owns HO6.out]; simp, slen_owns HO3.out⟩
        have hv : ∃ A6 c6, v' = .slice A6 (acc.length + 1) c6 := by
          obtain ⟨A6, c6, h, _⟩ := owns_ops HO6.out HLN.out.2.2
          exact ⟨A6, c6, by rw [h]; simp⟩
        obtain ⟨A6, c6, rfl⟩ := hv
        clear hown hb6
        go_wp2
        go_roundw
        case rel => exact ⟨acc ++ [o], N2, rfl, HLN.out, HO6.out, HB6.out⟩
        case measure => rw [HSL.out.1, HSL.out.2]; have := HAL.out; omega
end Go.Proofs.Ytafnekilnbhhlaa.ScrH
