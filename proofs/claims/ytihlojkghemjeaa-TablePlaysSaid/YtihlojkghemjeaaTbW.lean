/- Tables: the laws' 'awake'. -/
import Derived.Test.YtihlojkghemjeaaTbI
namespace Go.Proofs.Ytihlojkghemjeaa.TbW
open Go.RowKit Go.Proofs.Ytihlojkghemjeaa.Base Go.Proofs.Ytihlojkghemjeaa.Base2 Go.Proofs.Ytihlojkghemjeaa.TbG Go.Proofs.Ytihlojkghemjeaa.TbI

theorem got_one : got [(0 + 1, (5 : Int))] 1 = .tuple #[.int .i64 5, .bool true] := by rfl
theorem awake_any (w : World) : Calls Try.prog 9 #[] w fun e w' => e = .returned (.bool true) ∧ Below w.heap.size w w' := by
  go_enter Try.func9, Try.ntmps9
  go_wp2_with fail
  refine (new_any 2 (by omega) (by omega) _).mono ?_
  rintro e w1 ⟨g, rfl, hT, hb1⟩
  have HT := hid hT
  have HB1 := hid hb1
  clear hT hb1
  go_wp2_with fail
  refine (put_any _ g 2 0 [] 5 _ HT.out (by decide) (by omega) (by omega)).mono ?_
  rintro e w2 ⟨rfl, hT2, hb2, _⟩
  have HT2 := hid hT2
  have HB2 := hid (HB1.out.trans hb2)
  clear hT2 hb2
  go_wp2_with fail
  refine (get_any _ g 2 1 _ 1 _ HT2.out (by decide)).mono ?_
  rw [show ([] : List (Nat × Int)) ++ [(0 + 1, 5)] = [(0 + 1, 5)] from rfl, got_one]
  rintro e w3 ⟨rfl, hb3⟩
  have HB3 := hid (bel HB2.out hb3)
  clear hb3
  go_wp2
  go_ret
  exact ⟨rfl, HB3.out⟩
end Go.Proofs.Ytihlojkghemjeaa.TbW
