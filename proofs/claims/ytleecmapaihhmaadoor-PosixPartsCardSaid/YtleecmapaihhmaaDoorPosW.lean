/- What stage 15's laws need of each call; its own 'awake'. -/
import Derived.Test.YtleecmapaihhmaaDoorPosU
import Derived.Test.YtleecmapaihhmaaDoorPosV
import Derived.Test.YtleecmapaihhmaaDoorUrlC
import Derived.Test.YtleecmapaihhmaaDoorUrlG
set_option linter.unusedSimpArgs false
set_option linter.unusedVariables false
namespace Go.Proofs.YtleecmapaihhmaaDoor.PosW
open Go.RowKit Go.Proofs.YtleecmapaihhmaaDoor.Base Go.Proofs.YtleecmapaihhmaaDoor.Base2 Go.Proofs.YtleecmapaihhmaaDoor.SlsP Go.Proofs.YtleecmapaihhmaaDoor.PosQ Go.Proofs.YtleecmapaihhmaaDoor.PosU Go.Proofs.YtleecmapaihhmaaDoor.PosV
open Go.Proofs.YtleecmapaihhmaaDoor.PosS (seg)
open Go.Proofs.YtleecmapaihhmaaDoor.Spl (Max)

/-- A path's segments, by their slice. -/
structure Pt (w : World) (l : List (List UInt8)) (A : Option Addr) (n c : Nat) : Prop where
  rds : Rds w A n ((l.map strOf).map Value.string)
  nc : n ≤ c
  cm : c ≤ maxLen
theorem Pt.below {w w' : World} {l : List (List UInt8)} {A : Option Addr} {n c : Nat} (h : Pt w l A n c) (hb : Below w.heap.size w w') : Pt w' l A n c := ⟨h.rds.below hb, h.nc, h.cm⟩
theorem Pt.of {w : World} {l : List (List UInt8)} {B n : Nat} {A : Option Addr} {c : Nat} (h : w.ownsRow B 9 1 (.slice A n c) n ((l.map strOf).map Value.string)) : Pt w l A n c := by
  obtain ⟨A', c', e, h1, h2, h3⟩ := owns_form h
  cases e
  exact ⟨h3, h1, h2⟩
theorem Pt.nil (w : World) : Pt w [] none 0 0 := ⟨Rds.nil _, Nat.le_refl _, Nat.zero_le _⟩
structure Env (w : World) : Prop where
  pow : Tab.Pow w
  max : Max w
theorem Env.below {w w' : World} (h : Env w) (hb : Below w.heap.size w w') : Env w' := ⟨Tab.Pow.below h.pow hb, h.max.below hb⟩
theorem url_some {T : ByteArray} {l : List (List UInt8)} (ho : urlP T.data.toList = some l) (hs : T.size ≤ 900000) (w : World) (E : Env w) : Calls Tryd.prog 7 #[.string T] w fun e w' => ∃ A n c, e = .returned (.tuple #[.agg #[.string ⟨#[102, 105, 108, 101]⟩, .string ⟨#[]⟩, .string ⟨#[]⟩, .string (strOf []), .bool true, .int .i64 (-1), .bool false, .string ⟨#[]⟩, .slice A n c, .bool false, .bool false, .string ⟨#[]⟩, .string ⟨#[]⟩], .int .i64 0]) ∧ Pt w' l A n c ∧ Below w.heap.size w w' :=
  (url_any T w hs E.max).mono fun e w' h => by
    rw [ho] at h
    obtain ⟨hb, A, n, c, h1, h2⟩ := h
    exact ⟨A, n, c, h1, Pt.of h2, hb⟩
theorem url_none {T : ByteArray} (ho : urlP T.data.toList = none) (hs : T.size ≤ 900000) (w : World) (E : Env w) : Calls Tryd.prog 7 #[.string T] w fun e w' => e = .returned (.tuple #[.agg #[.string ⟨#[]⟩, .string ⟨#[]⟩, .string ⟨#[]⟩, .string ⟨#[]⟩, .bool false, .int .i64 0, .bool false, .string ⟨#[]⟩, .slice none 0 0, .bool false, .bool false, .string ⟨#[]⟩, .string ⟨#[]⟩], .int .i64 2]) ∧ Below w.heap.size w w' :=
  (url_any T w hs E.max).mono fun e w' h => by
    rw [ho] at h
    exact ⟨h.2, h.1⟩
theorem ref_some {T : ByteArray} {l : List (List UInt8)} (ho : urlP T.data.toList = some l) (hs : T.size ≤ 900000) (w : World) : Calls Tryd.prog 8 #[.string T] w fun e w' => ∃ A n c, e = .returned (.tuple #[.agg #[.string ⟨#[102, 105, 108, 101]⟩, .string ⟨#[]⟩, .string ⟨#[]⟩, .string (strOf []), .bool true, .int .i64 (-1), .bool false, .string ⟨#[]⟩, .slice A n c, .bool false, .bool false, .string ⟨#[]⟩, .string ⟨#[]⟩], .bool true]) ∧ Pt w' l A n c ∧ Below w.heap.size w w' :=
  (refUrl_any T w hs).mono fun e w' h => by
    rw [ho] at h
    obtain ⟨hb, A, n, c, h1, h2⟩ := h
    exact ⟨A, n, c, h1, Pt.of h2, hb⟩
theorem ref_none {T : ByteArray} (ho : urlP T.data.toList = none) (hs : T.size ≤ 900000) (w : World) : Calls Tryd.prog 8 #[.string T] w fun e w' => e = .returned (.tuple #[.agg #[.string ⟨#[]⟩, .string ⟨#[]⟩, .string ⟨#[]⟩, .string ⟨#[]⟩, .bool false, .int .i64 0, .bool false, .string ⟨#[]⟩, .slice none 0 0, .bool false, .bool false, .string ⟨#[]⟩, .string ⟨#[]⟩], .bool false]) ∧ Below w.heap.size w w' :=
  (refUrl_any T w hs).mono fun e w' h => by
    rw [ho] at h
    exact ⟨h.2, h.1⟩
theorem refSame_f (h : List UInt8) (l : List (List UInt8)) (A A2 : Option Addr) (n c n2 c2 : Nat) (w : World) (hP : Pt w l A n c) (hQ : Pt w l A2 n2 c2) : Calls Tryd.prog 11 #[.agg #[.string ⟨#[102, 105, 108, 101]⟩, .string ⟨#[]⟩, .string ⟨#[]⟩, .string (strOf h), .bool true, .int .i64 (-1), .bool false, .string ⟨#[]⟩, .slice A n c, .bool false, .bool false, .string ⟨#[]⟩, .string ⟨#[]⟩], .agg #[.string ⟨#[102, 105, 108, 101]⟩, .string ⟨#[]⟩, .string ⟨#[]⟩, .string (strOf h), .bool true, .int .i64 (-1), .bool false, .string ⟨#[]⟩, .slice A2 n2 c2, .bool false, .bool false, .string ⟨#[]⟩, .string ⟨#[]⟩]] w fun e w' => e = .returned (.bool true) ∧ Below w.heap.size w w' := by
  have hh := UrlG.refSame_any ⟨#[102, 105, 108, 101]⟩ ⟨#[]⟩ ⟨#[]⟩ (strOf h) true (-1) false ⟨#[]⟩ A n c (l.map strOf) false false ⟨#[]⟩ ⟨#[]⟩ ⟨#[102, 105, 108, 101]⟩ ⟨#[]⟩ ⟨#[]⟩ (strOf h) true (-1) false ⟨#[]⟩ A2 n2 c2 (l.map strOf) false false ⟨#[]⟩ ⟨#[]⟩ w hP.rds hP.nc hP.cm hQ.rds hQ.nc hQ.cm
  rw [decide_eq_true rfl] at hh
  exact hh
theorem refSame_z (w : World) : Calls Tryd.prog 11 #[.agg #[.string ⟨#[]⟩, .string ⟨#[]⟩, .string ⟨#[]⟩, .string ⟨#[]⟩, .bool false, .int .i64 0, .bool false, .string ⟨#[]⟩, .slice none 0 0, .bool false, .bool false, .string ⟨#[]⟩, .string ⟨#[]⟩], .agg #[.string ⟨#[]⟩, .string ⟨#[]⟩, .string ⟨#[]⟩, .string ⟨#[]⟩, .bool false, .int .i64 0, .bool false, .string ⟨#[]⟩, .slice none 0 0, .bool false, .bool false, .string ⟨#[]⟩, .string ⟨#[]⟩]] w fun e w' => e = .returned (.bool true) ∧ Below w.heap.size w w' := by
  have hh := UrlG.refSame_any ⟨#[]⟩ ⟨#[]⟩ ⟨#[]⟩ ⟨#[]⟩ false 0 false ⟨#[]⟩ none 0 0 [] false false ⟨#[]⟩ ⟨#[]⟩ ⟨#[]⟩ ⟨#[]⟩ ⟨#[]⟩ ⟨#[]⟩ false 0 false ⟨#[]⟩ none 0 0 [] false false ⟨#[]⟩ ⟨#[]⟩ w (Rds.nil _) (Nat.le_refl _) (Nat.zero_le _) (Rds.nil _) (Nat.le_refl _) (Nat.zero_le _)
  rw [decide_eq_true rfl] at hh
  exact hh
/-- What is written of a file's URL. -/
def printF (h : List UInt8) (l : List (List UInt8)) : List UInt8 := UrlP.printL ⟨#[102, 105, 108, 101]⟩ ⟨#[]⟩ ⟨#[]⟩ (strOf h) true (-1) false ⟨#[]⟩ (l.map strOf) false false ⟨#[]⟩ ⟨#[]⟩
theorem print_f (h : List UInt8) (hh : h.length ≤ 1000000) (l : List (List UInt8)) (A : Option Addr) (n c : Nat) (w : World) (hP : Pt w l A n c) (hl : (UrlP.pth (l.map strOf)).length ≤ 1073741824) (E : Env w) : Calls Tryd.prog 17 #[.agg #[.string ⟨#[102, 105, 108, 101]⟩, .string ⟨#[]⟩, .string ⟨#[]⟩, .string (strOf h), .bool true, .int .i64 (-1), .bool false, .string ⟨#[]⟩, .slice A n c, .bool false, .bool false, .string ⟨#[]⟩, .string ⟨#[]⟩]] w fun e w' => e = .returned (.string (strOf (printF h l))) ∧ Below w.heap.size w w' :=
  UrlC.print_any ⟨#[102, 105, 108, 101]⟩ ⟨#[]⟩ ⟨#[]⟩ (strOf h) true (-1) false ⟨#[]⟩ A n c (l.map strOf) false false ⟨#[]⟩ ⟨#[]⟩ w hP.rds hP.nc hP.cm (by decide) (by decide) (by decide) (by rw [size_strOf]; omega) (by decide) (by decide) (by decide) (by decide) (by decide) hl E.pow
theorem Bx.zfacts {w : World} {g : Nat} (hB : Bx w g zcells) : w.cell? ⟨g, 0, none⟩ = some (.string ⟨#[]⟩) ∧ w.cell? ⟨g, 1, none⟩ = some (.string ⟨#[]⟩) ∧ w.cell? ⟨g, 2, none⟩ = some (.string ⟨#[]⟩) ∧ w.cell? ⟨g, 3, none⟩ = some (.string ⟨#[]⟩) ∧ w.cell? ⟨g, 4, none⟩ = some (.bool false) ∧ w.cell? ⟨g, 5, none⟩ = some (.int .i64 0) ∧ w.cell? ⟨g, 6, none⟩ = some (.bool false) ∧ w.cell? ⟨g, 7, none⟩ = some (.string ⟨#[]⟩) ∧ w.cell? ⟨g, 8, none⟩ = some (.slice none 0 0) ∧ w.cell? ⟨g, 9, none⟩ = some (.bool false) ∧ w.cell? ⟨g, 10, none⟩ = some (.bool false) ∧ w.cell? ⟨g, 11, none⟩ = some (.string ⟨#[]⟩) ∧ w.cell? ⟨g, 12, none⟩ = some (.string ⟨#[]⟩) :=
  ⟨cell_of_row w g 0 _ _ _ hB, cell_of_row w g 1 _ _ _ hB, cell_of_row w g 2 _ _ _ hB, cell_of_row w g 3 _ _ _ hB, cell_of_row w g 4 _ _ _ hB, cell_of_row w g 5 _ _ _ hB, cell_of_row w g 6 _ _ _ hB, cell_of_row w g 7 _ _ _ hB, cell_of_row w g 8 _ _ _ hB, cell_of_row w g 9 _ _ _ hB, cell_of_row w g 10 _ _ _ hB, cell_of_row w g 11 _ _ _ hB, cell_of_row w g 12 _ _ _ hB⟩
set_option linter.unusedSimpArgs false in
set_option maxRecDepth 100000 in
set_option maxHeartbeats 8000000 in
theorem awake_any (w : World) (E : Env w) : Calls Tryd.prog 6 #[] w fun e w' => e = .returned (.bool true) ∧ Below w.heap.size w w' := by
  have hu : urlP [47, 97, 32, 98, 47, 99, 37] = some [[97, 37, 50, 48, 98], [99, 37, 50, 53]] := by decide +kernel
  have HU : Hid (∀ w : World, Env w → Calls Tryd.prog 7 #[.string ⟨#[47, 97, 32, 98, 47, 99, 37]⟩] w fun e w' => ∃ A n c, e = .returned (.tuple #[.agg #[.string ⟨#[102, 105, 108, 101]⟩, .string ⟨#[]⟩, .string ⟨#[]⟩, .string (strOf []), .bool true, .int .i64 (-1), .bool false, .string ⟨#[]⟩, .slice A n c, .bool false, .bool false, .string ⟨#[]⟩, .string ⟨#[]⟩], .int .i64 0]) ∧ Pt w' [[97, 37, 50, 48, 98], [99, 37, 50, 53]] A n c ∧ Below w.heap.size w w') := fun w E => url_some (T := ⟨#[47, 97, 32, 98, 47, 99, 37]⟩) hu (by decide) w E
  obtain ⟨pr, hpr⟩ : ∃ pr, pr = printF [] [[97, 37, 50, 48, 98], [99, 37, 50, 53]] := ⟨_, rfl⟩
  have HPR : Hid (∀ (A : Option Addr) (n c : Nat) (w : World), Pt w [[97, 37, 50, 48, 98], [99, 37, 50, 53]] A n c → Env w → Calls Tryd.prog 17 #[.agg #[.string ⟨#[102, 105, 108, 101]⟩, .string ⟨#[]⟩, .string ⟨#[]⟩, .string (strOf []), .bool true, .int .i64 (-1), .bool false, .string ⟨#[]⟩, .slice A n c, .bool false, .bool false, .string ⟨#[]⟩, .string ⟨#[]⟩]] w fun e w' => e = .returned (.string (strOf pr)) ∧ Below w.heap.size w w') := fun A n c w hP E => by rw [hpr]; exact print_f [] (by decide) _ A n c w hP (by decide +kernel) E
  have hq : ((strOf pr).toList == [102, 105, 108, 101, 58, 47, 47, 47, 97, 37, 50, 48, 98, 47, 99, 37, 50, 53]) = true := by rw [tl, hpr]; decide +kernel
  have HF : Hid (∀ w : World, Max w → Calls Tryd.prog 9 #[.string ⟨#[47]⟩] w fun e w' => e = .returned (.bool true) ∧ Below w.heap.size w w') := fun w h => by
    have hh := PosB.fine_any ⟨#[47]⟩ w (by decide) h
    rw [show fine (⟨#[47]⟩ : ByteArray).data.toList = true by decide +kernel] at hh
    exact hh
  have HE := hid E
  clear hu hpr E
  go_enter Tryd.func6, Tryd.ntmps6
  go_wp2_with fail
  refine (HU.out _ HE.out).mono ?_
  rintro e w1 ⟨A1, n1, c1, rfl, hP, hb1⟩
  have HB1 := hid hb1
  have HE1 := hid (HE.out.below hb1)
  have HP1 := hid hP
  clear hb1 hP
  go_upto_region 2 with (fail)
  generalize hw : World.alloc w1 _ = w2
  have h1 : Bx w2 w1.heap.size (fcells [] (.slice A1 n1 c1)) ∧ Below w1.heap.size w1 w2 := by
    subst hw
    exact laid w1 _ _
  clear hw
  have HB2 := hid (bel HB1.out h1.2)
  have HE2 := hid (HE1.out.below h1.2)
  have HP2 := hid (HP1.out.below h1.2)
  obtain ⟨d0, d1, d2, d3, d4, d5, d6, d7, d8, d9, d10, d11, d12⟩ := h1.1.facts
  clear h1
  go_wp2_with fail
  clear d0 d1 d2 d3 d4 d5 d6 d7 d8 d9 d10 d11 d12
  refine (HPR.out A1 n1 c1 _ HP2.out HE2.out).mono ?_
  rintro e w3 ⟨rfl, hb3⟩
  have HB3 := hid (bel HB2.out hb3)
  have HE3 := hid (HE2.out.below hb3)
  clear hb3
  go_wp2_with fail
  refine (HF.out _ HE3.out.max).mono ?_
  rintro e w4 ⟨rfl, hb4⟩
  have HB4 := hid (bel HB3.out hb4)
  clear hb4
  go_wp2
  go_ret
  exact ⟨by first | rfl | trivial, HB4.out⟩
end Go.Proofs.YtleecmapaihhmaaDoor.PosW
