/- Scripts: awake. -/
import Derived.Test.YtafnekilnbhhlaaScrO
namespace Go.Proofs.Ytafnekilnbhhlaa.ScrX
open Go.RowKit Go.Proofs.Ytafnekilnbhhlaa.Base Go.Proofs.Ytafnekilnbhhlaa.Base2 Go.Proofs.Ytafnekilnbhhlaa.AnsP Go.Proofs.Ytafnekilnbhhlaa.ScrP Go.Proofs.Ytafnekilnbhhlaa.ScrB Go.Proofs.Ytafnekilnbhhlaa.ScrR Go.Proofs.Ytafnekilnbhhlaa.ScrW Go.Proofs.Ytafnekilnbhhlaa.ScrO

def o3 : O := ⟨3, 0, 0, 0, 0, [], [], [], [], 0, 0, List.replicate 16 0⟩
theorem small3 : Small o3 := ⟨⟨by decide, by decide, by decide, by decide, by decide, by decide, by decide, by decide, by decide, by decide, by decide, by decide⟩, by decide, by decide, by decide, by decide⟩
theorem len3 : (encs [o3]).length = 74 := by
  have := length_enco o3 small3.fits
  show (enco o3 ++ []).length = 74
  rw [List.append_nil, this]
  rfl
theorem one3 (W : World) : Ops (W.alloc (.cells (cells o3).toArray 37)) (some ⟨W.heap.size, 0, none⟩) 1 [o3] :=
  ⟨rfl, Rds.of_spot rfl (by simp) (fun j hj => by rw [Nat.zero_add, World.cell?_alloc_mark, List.getElem?_toArray]; exact List.getElem?_eq_getElem hj), by simp; rfl⟩
set_option maxRecDepth 100000 in
set_option maxHeartbeats 8000000 in
theorem awake_any (w : World) : Calls Try.prog 7 #[] w fun e w' => e = .returned (.bool true) ∧ Below w.heap.size w w' := by
  have HD : Hid (decAll (encs [o3]) = some [o3]) := decAll_encs [o3] (by intro x hx; simp at hx; subst hx; exact small3.fits)
  have HOP := hid (one3 w)
  have HSM : Hid (∀ o ∈ [o3], Small o) := by intro x hx; simp at hx; subst hx; exact small3
  have HB0 : Hid (Below w.heap.size w (w.alloc (.cells (cells o3).toArray 37))) := (Below.refl _ _).alloc (Nat.le_refl _) _
  go_enter Try.func7, Try.ntmps7
  go_wp2_with fail
  refine (ScrE.encode_any _ 1 1 [o3] _ HOP.out HSM.out (by omega)).mono ?_
  rintro e w1 ⟨v, rfl, hown, hb⟩
  rw [len3] at hown
  obtain ⟨A, c, rfl, hnc, hcm, hr⟩ := owns_form hown
  have HR := hid hr
  have HB1 := hid (bel HB0.out hb)
  clear hown hr hb
  go_wp2_with fail
  refine (ScrR.parse_any A 74 c (encs [o3]) _ HR.out (by omega)).mono ?_
  rintro e w2 ⟨hb, hm⟩
  rw [HD.out] at hm
  obtain ⟨A2, c2, rfl, hc2, hm2, hop⟩ := hm
  have HB2 := hid (bel HB1.out hb)
  obtain ⟨b, off, rfl, hbl⟩ := hop.spot (by simp)
  have c0 : w2.cell? ⟨b, off, none⟩ = some (.int .u8 3) := by
    have := Ops.at hop 0 (by simp) 0 (by omega) (v := .int .u8 3) rfl
    simpa using this
  clear hb hop
  go_wp2
  go_ret
  exact ⟨rfl, HB2.out⟩
end Go.Proofs.Ytafnekilnbhhlaa.ScrX
