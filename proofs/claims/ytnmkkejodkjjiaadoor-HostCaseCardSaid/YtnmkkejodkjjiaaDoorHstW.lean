/- Hosts: awake; what a host's value is. -/
import Derived.Test.YtnmkkejodkjjiaaDoorHstC
namespace Go.Proofs.YtnmkkejodkjjiaaDoor.HstW
open Go.RowKit Go.Proofs.YtnmkkejodkjjiaaDoor.Base Go.Proofs.YtnmkkejodkjjiaaDoor.Base2 Go.Proofs.YtnmkkejodkjjiaaDoor.SixG Go.Proofs.YtnmkkejodkjjiaaDoor.HstP Go.Proofs.YtnmkkejodkjjiaaDoor.HstA Go.Proofs.YtnmkkejodkjjiaaDoor.HstB Go.Proofs.YtnmkkejodkjjiaaDoor.HstC Go.Proofs.YtnmkkejodkjjiaaDoor.Spl

theorem hv_form (o : Option (List UInt8)) : ∃ (X : ByteArray) (b : Bool), HV o = .tuple #[.string X, .bool b] := by
  cases o with
  | none => exact ⟨_, _, rfl⟩
  | some L => exact ⟨_, _, rfl⟩
theorem demo1 : hst [69, 88, 37, 52, 49, 77, 80, 76, 69] true = some [101, 120, 97, 109, 112, 108, 101] := by decide +kernel
theorem demo2 : hst [48, 120, 55, 102, 46, 49] true = some [49, 50, 55, 46, 48, 46, 48, 46, 49] := by decide +kernel
set_option maxHeartbeats 1000000 in
theorem awake_any (w : World) (hT : Tab.Pow w) (hL : Lad w) (hM : Max w) : Calls Tryd.prog 17 #[] w fun e w' => e = .returned (.bool true) ∧ Below w.heap.size w w' := by
  have h1 := fun w hL hT hM => parse_any ⟨#[69, 88, 37, 52, 49, 77, 80, 76, 69]⟩ true w (by decide) hL hT hM
  rw [show (⟨#[69, 88, 37, 52, 49, 77, 80, 76, 69]⟩ : ByteArray).data.toList = [69, 88, 37, 52, 49, 77, 80, 76, 69] from rfl, demo1] at h1
  have h2 := fun w hL hT hM => parse_any ⟨#[48, 120, 55, 102, 46, 49]⟩ true w (by decide) hL hT hM
  rw [show (⟨#[48, 120, 55, 102, 46, 49]⟩ : ByteArray).data.toList = [48, 120, 55, 102, 46, 49] from rfl, demo2] at h2
  rw [show HV (some [101, 120, 97, 109, 112, 108, 101]) = .tuple #[.string (strOf [101, 120, 97, 109, 112, 108, 101]), .bool true] from rfl] at h1
  rw [show HV (some [49, 50, 55, 46, 48, 46, 48, 46, 49]) = .tuple #[.string (strOf [49, 50, 55, 46, 48, 46, 48, 46, 49]), .bool true] from rfl] at h2
  have H1 := hid h1
  have H2 := hid h2
  have HT := hid hT
  have HL := hid hL
  have HM := hid hM
  have HF : Hid (∀ w : World, Calls Tryd.prog 20 #[.int .u8 47, .bool false] w fun e w' => e = .returned (.bool true) ∧ w = w') := fun w => forbidden_any 47 false w
  have q1 : ((strOf [101, 120, 97, 109, 112, 108, 101]).toList == [101, 120, 97, 109, 112, 108, 101]) = true := by rw [Lib.toList_data]; rfl
  have q2 : ((strOf [49, 50, 55, 46, 48, 46, 48, 46, 49]).toList == [49, 50, 55, 46, 48, 46, 48, 46, 49]) = true := by rw [Lib.toList_data]; rfl
  clear h1 h2 hT hL hM
  go_enter Tryd.func17, Tryd.ntmps17
  go_wp2_with fail
  refine (H1.out _ HL.out HT.out HM.out).mono ?_
  rintro e w2 ⟨rfl, hb2⟩
  have HB2 := hid hb2
  clear hb2
  go_wp2_with fail
  refine (H2.out _ (HL.out.below HB2.out) (pow_below HT.out HB2.out) (HM.out.below HB2.out)).mono ?_
  rintro e w3 ⟨rfl, hb3⟩
  have HB3 := hid (bel HB2.out hb3)
  clear hb3
  go_wp2_with fail
  refine (HF.out _).mono ?_
  rintro e w4 ⟨rfl, hw4⟩
  subst hw4
  go_wp2
  go_ret
  exact ⟨rfl, HB3.out⟩
end Go.Proofs.YtnmkkejodkjjiaaDoor.HstW
