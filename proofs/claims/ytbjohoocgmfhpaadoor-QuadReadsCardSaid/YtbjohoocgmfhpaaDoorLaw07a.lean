/- The walk of the law QuadReads: it returns true, whatever it is called with. -/
import Derived.Test.YtbjohoocgmfhpaaDoorQudH
namespace Go.Proofs.YtbjohoocgmfhpaaDoor.Laws
open Go.RowKit Go.Proofs.YtbjohoocgmfhpaaDoor.Base Go.Proofs.YtbjohoocgmfhpaaDoor.Base2 Go.Proofs.YtbjohoocgmfhpaaDoor.UtfA Go.Proofs.YtbjohoocgmfhpaaDoor.QudP Go.Proofs.YtbjohoocgmfhpaaDoor.QudA Go.Proofs.YtbjohoocgmfhpaaDoor.QudC Go.Proofs.YtbjohoocgmfhpaaDoor.QudD Go.Proofs.YtbjohoocgmfhpaaDoor.QudE Go.Proofs.YtbjohoocgmfhpaaDoor.QudF Go.Proofs.YtbjohoocgmfhpaaDoor.QudG Go.Proofs.YtbjohoocgmfhpaaDoor.QudH

set_option maxRecDepth 100000 in
set_option maxHeartbeats 4000000 in
theorem QuadReads_any (s : ByteArray) (w : World) (_hs : s.size ≤ 140737488351232) (hT : Tab.Pow w) (hM : Max w) :
    Calls Tryd.prog 3 #[.string s] w fun e w' => e = .returned (.bool true) ∧ Below w.heap.size w w' := by
  obtain ⟨o, ho⟩ : ∃ o, o = ends s.data.toList := ⟨_, rfl⟩
  have HE := hid ho
  have HT := hid hT
  have HM := hid hM
  have q1 : (o == o) = true := by simp
  clear ho hT hM
  go_enter Tryd.func3, Tryd.ntmps3
  go_wp2_with fail
  refine (awake_any _ HT.out HM.out).mono ?_
  rintro e w2 ⟨rfl, hb2⟩
  have HB2 := hid hb2
  clear hb2
  by_cases h300 : s.size ≤ 300
  · cases hp : prs s.data.toList with
    | some v =>
      have HP : Hid (PrsV (prs s.data.toList) = .tuple #[.int .u32 (v : Int), .bool true]) := prsV_some _ v hp
      have q2 : ((v : Int) == (v : Int)) = true := by simp
      clear hp
      generalize (v : Int) = V at HP q2
      go_wp2_with fail
      refine (parse_any s _ (by omega) (HM.out.below HB2.out)).mono ?_
      rw [HP.out]
      rintro e w3 ⟨rfl, hb3⟩
      have HB3 := hid (bel HB2.out hb3)
      clear hb3
      go_wp2_with fail
      refine (refParse_any s _ (by omega)).mono ?_
      rw [HP.out]
      rintro e w4 ⟨rfl, hb4⟩
      have HB4 := hid (bel HB3.out hb4)
      clear hb4
      go_wp2_with fail
      refine (ends_any s _ (by omega)).mono ?_
      rw [← HE.out]
      rintro e w5 ⟨rfl, hb5⟩
      have HB5 := hid (bel HB4.out hb5)
      clear hb5
      go_wp2_with fail
      refine (refEnds_any s _ (by omega)).mono ?_
      rw [← HE.out]
      rintro e w6 ⟨rfl, hb6⟩
      have HB6 := hid (bel HB5.out hb6)
      clear hb6
      go_wp2
      go_ret
      exact ⟨rfl, HB6.out⟩
    | none =>
      have HP : Hid (PrsV (prs s.data.toList) = .tuple #[.int .u32 0, .bool false]) := prsV_none _ hp
      clear hp
      go_wp2_with fail
      refine (parse_any s _ (by omega) (HM.out.below HB2.out)).mono ?_
      rw [HP.out]
      rintro e w3 ⟨rfl, hb3⟩
      have HB3 := hid (bel HB2.out hb3)
      clear hb3
      go_wp2_with fail
      refine (refParse_any s _ (by omega)).mono ?_
      rw [HP.out]
      rintro e w4 ⟨rfl, hb4⟩
      have HB4 := hid (bel HB3.out hb4)
      clear hb4
      go_wp2_with fail
      refine (ends_any s _ (by omega)).mono ?_
      rw [← HE.out]
      rintro e w5 ⟨rfl, hb5⟩
      have HB5 := hid (bel HB4.out hb5)
      clear hb5
      go_wp2_with fail
      refine (refEnds_any s _ (by omega)).mono ?_
      rw [← HE.out]
      rintro e w6 ⟨rfl, hb6⟩
      have HB6 := hid (bel HB5.out hb6)
      clear hb6
      go_wp2
      go_ret
      exact ⟨rfl, HB6.out⟩
  · go_wp2_with fail
    refine (awake_any _ (HT.out.below HB2.out) (HM.out.below HB2.out)).mono ?_
    rintro e w3 ⟨rfl, hb3⟩
    go_wp2
    go_ret
    exact ⟨rfl, bel HB2.out hb3⟩
end Go.Proofs.YtbjohoocgmfhpaaDoor.Laws
