/- Scripts: Parse. -/
import Derived.Test.YtafnekilnbhhlaaScrD
import Derived.Test.YtafnekilnbhhlaaScrE
namespace Go.Proofs.Ytafnekilnbhhlaa.ScrR
open Go.RowKit Go.Proofs.Ytafnekilnbhhlaa.Base Go.Proofs.Ytafnekilnbhhlaa.Base2 Go.Proofs.Ytafnekilnbhhlaa.Base4 Go.Proofs.Ytafnekilnbhhlaa.AnsP Go.Proofs.Ytafnekilnbhhlaa.AnsR Go.Proofs.Ytafnekilnbhhlaa.ScrP Go.Proofs.Ytafnekilnbhhlaa.ScrB Go.Proofs.Ytafnekilnbhhlaa.ScrD

theorem IsR.under {g : Nat} {L : List UInt8} {b : Bool} {w w' : World} (h : IsR g L b w) (hb : Below (g + 1) w w') : IsR g L b w' := by
  obtain ⟨A, n, c, h1, h2, h3, h4, h5⟩ := h
  refine ⟨A, n, c, (hb.block g (by omega)).trans h1, ⟨h2.1, fun j hj => ?_⟩, h3, h4, h5⟩
  obtain ⟨e, off, rfl, he, hc⟩ := h2.2 j hj
  have h6 : e < g := h5 _ rfl
  exact ⟨e, off, rfl, Nat.lt_of_lt_of_le he hb.size, (World.cell?_of_block (hb.block e (by omega))).trans hc⟩
theorem info_op : (Try.prog.info? 37).map (fun i => (i.zero.map (·.cells.size), i.size, i.bytes)) = some (some 27, 27, 128) := by kernel_rfl
theorem owns_ops {B : Nat} {T : TypeId} {v : Value} {w : World} {l : List O} (h : w.ownsRow B T 27 v l.length (l.flatMap cells)) (hr : ∀ o ∈ l, o.r.length = 16) : ∃ A c, v = .slice A l.length c ∧ l.length ≤ c ∧ c ≤ maxLen ∧ Ops w A l.length l := by
  obtain ⟨hl, h⟩ := h
  rcases h with ⟨rfl, hn⟩ | ⟨g, cap, cur, rfl, hb, hh, hc, hm, hs, ht⟩
  · obtain rfl : l = [] := List.eq_nil_of_length_eq_zero hn
    exact ⟨none, 0, rfl, Nat.le_refl _, Nat.zero_le _, rfl, Rds.nil _, by simp⟩
  · refine ⟨some ⟨g, 0, none⟩, cap, rfl, hc, hm, rfl, Rds.of_spot hl (Array.getElem?_eq_some_iff.1 hh).1 fun j hj => ?_, hr⟩
    rw [Nat.zero_add, cell_of_row w g j cur T (0, 0) hh]
    have : (cur.toList.take (l.length * 27))[j]? = some (l.flatMap cells)[j] := by rw [ht]; exact List.getElem?_eq_getElem hj
    rw [List.getElem?_take, if_pos (by omega)] at this
    simpa using this
def slen : Value → Nat
  | .slice _ n _ => n
  | _ => 0
theorem slen_owns {B : Nat} {T : TypeId} {k n : Nat} {v : Value} {w : World} {xs : List Value} (h : w.ownsRow B T k v n xs) : slen v = n := by
  rcases h.2 with ⟨rfl, hn⟩ | ⟨g, cap, cur, rfl, _⟩
  · exact hn.symm
  · rfl
def Prs (L : List UInt8) (w : World) (e : Ending) (w' : World) : Prop := Below w.heap.size w w' ∧ match decAll L with
  | none => e = .returned (.tuple #[.slice none 0 0, .int .i64 2])
  | some l => ∃ A c, e = .returned (.tuple #[.slice A l.length c, .int .i64 0]) ∧ l.length ≤ c ∧ c ≤ maxLen ∧ Ops w' A l.length l
set_option maxRecDepth 100000 in
set_option maxHeartbeats 16000000 in
theorem parse_any (A : Option Addr) (n c : Nat) (L : List UInt8) (w : World) (h : Rds w A n (bcells L)) (hn : n ≤ 1000000) :
    Calls Try.prog 10 #[.slice A n c] w (Prs L w) := by
  have HLL : Hid (L.length ≤ 1000000) := by have := h.1; rw [length_bcells] at this; show _ ≤ _; omega
  have HH := hid h
  obtain ⟨i0, hi⟩ : ∃ i, Try.prog.info? 37 = some i := by
    have := info_op
    cases hq : Try.prog.info? 37 with
    | none => simp [hq] at this
    | some i => exact ⟨i, rfl⟩
  have hii := info_op
  rw [hi] at hii
  obtain ⟨z0, hz0⟩ : ∃ z, i0.zero = some z := by
    cases hq : i0.zero with
    | none => simp [hq] at hii
    | some z => exact ⟨z, rfl⟩
  simp only [hz0, Option.map_some, Option.some.injEq, Prod.mk.injEq] at hii
  have HI := hid hii
  clear h hii
  go_enter Try.func10, Try.ntmps10
  go_wp2_with fail
  refine (newr_any A n c L _ HH.out (by omega)).mono ?_
  rintro e w1 ⟨g, rfl, hg, hR, hb⟩
  have HG : Hid (w.heap.size ≤ g) := hg
  have HR1 := hid hR
  have HB1 := hid hb
  clear hg hR hb
  go_wp2
  go_loopw [5, 6] (fun v5 _ wr => ∃ (acc : List O) (M : List UInt8), Hid (Led L acc M) ∧ Hid (IsR g M false wr) ∧ Hid (wr.ownsRow (g + 1) 37 27 v5 acc.length (acc.flatMap cells)) ∧ Hid (Below w.heap.size w wr)) (fun v5 _ _ => 1000001 - slen v5)
  case atStart => exact ⟨[], L, led_nil L, HR1.out, World.ownsRow_nil _ _ _ _, HB1.out⟩
  case round =>
    obtain ⟨acc, M, HLD', HR, HO, HB⟩ := hrel
    have HAL : Hid (acc.length + M.length ≤ 1000000) := by have := HLD'.out.2.1; have := HLL.out; show _ ≤ _; omega
    go_wp2_with fail
    refine (left_any g M false _ HR.out).mono ?_
    rintro e w2 ⟨rfl, hw⟩
    subst hw
    cases M with
    | nil =>
      have HDA := hid HLD'.out.done
      obtain ⟨A2, c2, rfl, hc2, hm2, hop⟩ := owns_ops HO.out HLD'.out.2.2
      have HOP := hid hop
      have HC := hid hc2
      have HM := hid hm2
      clear hop hc2 hm2
      go_wp2
      go_ret2
      exact ⟨HB.out, by rw [HDA.out]; exact ⟨_, _, rfl, HC.out, HM.out, HOP.out⟩⟩
    | cons d D =>
      have hlen : (0 : Int) < ((d :: D).length : Int) := by simp
      obtain ⟨m, hm⟩ : ∃ m, m = (d :: D).length := ⟨_, rfl⟩
      rw [← hm] at hlen ⊢
      obtain ⟨N, hN⟩ : ∃ N, N = d :: D := ⟨_, rfl⟩
      have HNE : Hid (N ≠ []) := by show _ ≠ _; rw [hN]; simp
      rw [← hN] at HR HLD' hm HAL
      clear hN hm
      go_wp2_with fail
      refine (read_any g N _ HR.out (by have := HAL.out; omega)).mono ?_
      rintro e w3 ⟨o, N2, b, rfl, hr16, hR, hbg, hkg, hyes, hno, hle⟩
      have HR16 := hid hr16
      have HB3 : Hid (Below w.heap.size w w3) := HB.out.trans (hbg.mono HG.out)
      have HO3 : Hid (w3.ownsRow (g + 1) 37 27 u5 acc.length (acc.flatMap cells)) := by
        refine ⟨HO.out.1, ?_⟩
        rcases HO.out.2 with hx | ⟨k, cap, cur, e, hk, hh, hrest⟩
        · exact .inl hx
        · refine .inr ⟨k, cap, cur, e, hk, (hkg k (Array.getElem?_eq_some_iff.1 hh).1 ?_).trans hh, hrest⟩
          omega
      have HR3 := hid hR
      have HYES := hid hyes
      have HNO := hid hno
      have HLE := hid hle
      clear hr16 hR hbg hkg hyes hno hle
      go_upto_region 5 with (refine store_op (heap_alloc_new _ _) rfl o HR16.out (.tmp 6) (.tmp 13) rfl rfl rfl rfl (by kernel_rfl) ?_)
      generalize hW : World.setRow _ _ _ = W1
      have h1 : OB 37 W1 w3.heap.size o ∧ Below w3.heap.size w3 W1 := by
        subst hW
        exact fresh _ _ _ _
      have HX1 := hid h1.1
      have HR4 := hid (HR3.out.below h1.2)
      have HB4 := hid (HB3.out.trans (h1.2.mono HB3.out.size))
      have HO4 := hid (owns_below HO3.out h1.2)
      have HLD := hid (h1.1.load HR16.out Try.underlying37 (by kernel_rfl))
      clear h1 hW HR3 HB3 HO3
      go_wp2_with fail
      refine (bad_any g N2 b _ HR4.out).mono ?_
      rintro e w5 ⟨rfl, hw⟩
      subst hw
      cases b with
      | true =>
        have HDN := hid (HLD'.out.bad HNE.out (HNO.out rfl))
        go_wp2
        go_ret2
        exact ⟨HB4.out, by rw [HDN.out]; rfl⟩
      | false =>
        have HLN := hid (HLD'.out.more HNE.out (HYES.out rfl))
        have HBB : Hid (g + 1 ≤ w5.heap.size) := HR4.out.lt
        go_wp2_with (first | refine load_as HLD.out (.tmp 6) rfl rfl rfl ?_ | refine build_one rfl (.tmp 17) rfl Try.underlying22 27 (by kernel_rfl) (by decide) (size_cells HR16.out) rfl ?_ | (at_builtin; refine wpList_appN 27 rfl _ _ 22 rfl (g + 1) 37 i0 z0 128 Try.underlying22 hi hz0 HI.out.2.1 HI.out.2.2 HI.out.1 (by decide) u5 acc.length (acc.flatMap cells) rfl HO4.out (Below.refl (g + 1) w5) HBB.out (cells o) 1 (length_cells HR16.out) rfl (cells_one o) (by unfold maxLen; have := HAL.out; omega) (by have := HAL.out; omega) ?_))
        intro v' w6 hown hb6 _
        have HR6 := hid (IsR.under HR4.out hb6)
        have HB6 := hid (HB4.out.trans (hb6.mono (by have := HG.out; omega)))
        have HO6 : Hid (w6.ownsRow (g + 1) 37 27 v' (acc ++ [o]).length ((acc ++ [o]).flatMap cells)) := by show World.ownsRow _ _ _ _ _ _ _; rw [List.flatMap_append, List.length_append]; simpa using hown
        have HSL : Hid (slen v' = acc.length + 1 ∧ slen u5 = acc.length) := ⟨by rw [slen_owns HO6.out]; simp, slen_owns HO4.out⟩
        have hv : ∃ A6 c6, v' = .slice A6 (acc.length + 1) c6 := by
          obtain ⟨A6, c6, h, _⟩ := owns_ops HO6.out HLN.out.2.2
          exact ⟨A6, c6, by rw [h]; simp⟩
        obtain ⟨A6, c6, rfl⟩ := hv
        clear hown hb6
        go_wp2
        go_roundw
        case rel => exact ⟨acc ++ [o], N2, HLN.out, HR6.out, HO6.out, HB6.out⟩
        case measure => rw [HSL.out.1, HSL.out.2]; have := HAL.out; omega
end Go.Proofs.Ytafnekilnbhhlaa.ScrR
