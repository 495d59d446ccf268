/- URLs: the laws' 'awake' of layer 11 answers true. -/
import Derived.Test.YtofjngfeclmneaaDoorUrlC
import Derived.Test.YtofjngfeclmneaaDoorUrlF
namespace Go.Proofs.YtofjngfeclmneaaDoor.UrlW
open Go.RowKit Go.Proofs.YtofjngfeclmneaaDoor.Base Go.Proofs.YtofjngfeclmneaaDoor.Base2 Go.Proofs.YtofjngfeclmneaaDoor.UrlP Go.Proofs.YtofjngfeclmneaaDoor.UrlA Go.Proofs.YtofjngfeclmneaaDoor.UrlC

theorem demo_list : printL ⟨#[119, 101, 98, 43, 100, 101, 109, 111]⟩ ⟨#[]⟩ ⟨#[]⟩ ⟨#[]⟩ false (-1) false ⟨#[]⟩ [⟨#[]⟩, ⟨#[97]⟩] false false ⟨#[]⟩ ⟨#[]⟩ = [119, 101, 98, 43, 100, 101, 109, 111, 58, 47, 46, 47, 47, 97] := by decide +kernel
theorem demo_path : (pth [⟨#[]⟩, ⟨#[97]⟩]).length ≤ 1073741824 := by decide +kernel
theorem demo_print (g : Nat) (w : World) (hR : Rds w (some ⟨g, 0, none⟩) 2 ([⟨#[]⟩, ⟨#[97]⟩].map Value.string)) (hT : Tab.Pow w) :
    Calls Tryd.prog 9 #[.agg #[.string ⟨#[119, 101, 98, 43, 100, 101, 109, 111]⟩, .string ⟨#[]⟩, .string ⟨#[]⟩, .string ⟨#[]⟩, .bool false, .int .i64 (-1), .bool false, .string ⟨#[]⟩, .slice (some ⟨g, 0, none⟩) 2 2, .bool false, .bool false, .string ⟨#[]⟩, .string ⟨#[]⟩]] w fun e w' => e = .returned (.string ⟨#[119, 101, 98, 43, 100, 101, 109, 111, 58, 47, 46, 47, 47, 97]⟩) ∧ Below w.heap.size w w' := by
  have h := print_any ⟨#[119, 101, 98, 43, 100, 101, 109, 111]⟩ ⟨#[]⟩ ⟨#[]⟩ ⟨#[]⟩ false (-1) false ⟨#[]⟩ (some ⟨g, 0, none⟩) 2 2 [⟨#[]⟩, ⟨#[97]⟩] false false ⟨#[]⟩ ⟨#[]⟩ w hR (by omega) (by decide) (by decide) (by decide) (by decide) (by decide) (by decide) (by decide) (by decide) (by decide) (by decide) demo_path hT
  rw [demo_list] at h
  exact h
theorem demo_same (g : Nat) (w : World) (hR : Rds w (some ⟨g, 0, none⟩) 2 ([⟨#[]⟩, ⟨#[97]⟩].map Value.string)) :
    Calls Tryd.prog 17 #[.agg #[.string ⟨#[119, 101, 98, 43, 100, 101, 109, 111]⟩, .string ⟨#[]⟩, .string ⟨#[]⟩, .string ⟨#[]⟩, .bool false, .int .i64 (-1), .bool false, .string ⟨#[]⟩, .slice (some ⟨g, 0, none⟩) 2 2, .bool false, .bool false, .string ⟨#[]⟩, .string ⟨#[]⟩], .agg #[.string ⟨#[119, 101, 98, 43, 100, 101, 109, 111]⟩, .string ⟨#[]⟩, .string ⟨#[]⟩, .string ⟨#[]⟩, .bool false, .int .i64 (-1), .bool false, .string ⟨#[]⟩, .slice (some ⟨g, 0, none⟩) 2 2, .bool false, .bool false, .string ⟨#[]⟩, .string ⟨#[]⟩]] w fun e w' => e = .returned (.bool true) ∧ Below w.heap.size w w' := by
  have h := UrlF.same_any ⟨#[119, 101, 98, 43, 100, 101, 109, 111]⟩ ⟨#[]⟩ ⟨#[]⟩ ⟨#[]⟩ false (-1) false ⟨#[]⟩ (some ⟨g, 0, none⟩) 2 2 [⟨#[]⟩, ⟨#[97]⟩] false false ⟨#[]⟩ ⟨#[]⟩ ⟨#[119, 101, 98, 43, 100, 101, 109, 111]⟩ ⟨#[]⟩ ⟨#[]⟩ ⟨#[]⟩ false (-1) false ⟨#[]⟩ (some ⟨g, 0, none⟩) 2 2 [⟨#[]⟩, ⟨#[97]⟩] false false ⟨#[]⟩ ⟨#[]⟩ w hR (by omega) (by decide) hR (by omega) (by decide)
  rw [decide_eq_true rfl] at h
  exact h
theorem special_http (w : World) : Calls Tryd.prog 15 #[.string ⟨#[104, 116, 116, 112]⟩] w fun e w' => e = .returned (.bool true) ∧ w' = w := special_any ⟨#[104, 116, 116, 112]⟩ w
theorem default_ftp (w : World) : Calls Tryd.prog 16 #[.string ⟨#[102, 116, 112]⟩] w fun e w' => e = .returned (.int .i64 21) ∧ w' = w := default_any ⟨#[102, 116, 112]⟩ w
set_option maxRecDepth 100000 in
set_option maxHeartbeats 4000000 in
theorem awake_any (w : World) (hT : Tab.Pow w) : Calls Tryd.prog 7 #[] w fun e w' => e = .returned (.bool true) ∧ Below w.heap.size w w' := by
  have HT := hid hT
  clear hT
  go_enter Tryd.func7, Tryd.ntmps7
  go_upto_region 2 with (fail)
  have HR0 : Hid (Rds (w.alloc (.cells #[.string ⟨#[]⟩, .string ⟨#[97]⟩] 9)) (some ⟨w.heap.size, 0, none⟩) 2 ([⟨#[]⟩, ⟨#[97]⟩].map Value.string)) :=
    Rds.of_spot rfl (by simp) (fun j hj => by
      rw [Nat.zero_add, World.cell?_alloc_mark]
      have : j = 0 ∨ j = 1 := by simp at hj; omega
      rcases this with rfl | rfl <;> rfl)
  generalize hw1 : w.alloc _ = w1 at HR0 ⊢
  have hb1 : Below w.heap.size w w1 := by rw [← hw1]; exact (Below.refl _ _).alloc (Nat.le_refl _) _
  have hs1 : w1.heap.size = w.heap.size + 1 := by rw [← hw1]; simp
  clear hw1
  generalize hw2 : w1.alloc _ = w2
  have hb2 : Below w1.heap.size w1 w2 := by rw [← hw2]; exact (Below.refl _ _).alloc (Nat.le_refl _) _
  have HBX : Hid (Box w2 (w.heap.size + 1) #[.string ⟨#[119, 101, 98, 43, 100, 101, 109, 111]⟩, .string ⟨#[]⟩, .string ⟨#[]⟩, .string ⟨#[]⟩, .bool false, .int .i64 (-1), .bool false, .string ⟨#[]⟩, .slice (some ⟨w.heap.size, 0, none⟩) 2 2, .bool false, .bool false, .string ⟨#[]⟩, .string ⟨#[]⟩]) := by
    show _ = _
    rw [← hw2, ← hs1]
    exact heap_alloc_new w1 _
  have hlt2 : w.heap.size + 1 < w2.heap.size := by rw [← hw2]; simp [hs1]
  have HR2 := hid (HR0.out.below hb2)
  have HB2 := hid (bel hb1 hb2)
  clear hw2 hs1 hb1 hb2
  obtain ⟨c0, c1, c2, c3, c4, c5, c6, c7, c8, c9, c10, c11, c12⟩ := cells13 HBX.out
  go_wp2_with fail
  refine (demo_print _ _ HR2.out (HT.out.below HB2.out)).mono ?_
  rintro e w3 ⟨rfl, hb3⟩
  clear c0 c1 c2 c3 c4 c5 c6 c7 c8 c9 c10 c11 c12
  have hbx := HBX.out.below hb3 hlt2
  obtain ⟨c0, c1, c2, c3, c4, c5, c6, c7, c8, c9, c10, c11, c12⟩ := cells13 hbx
  clear hbx
  go_wp2_with fail
  refine (special_http _).mono ?_
  rintro e w4 ⟨rfl, hw4⟩
  subst hw4
  go_wp2_with fail
  refine (default_ftp _).mono ?_
  rintro e w5 ⟨rfl, hw5⟩
  subst hw5
  go_wp2_with fail
  refine (demo_same _ _ (HR2.out.below hb3)).mono ?_
  rintro e w6 ⟨rfl, hb6⟩
  go_wp2
  go_ret
  exact ⟨rfl, bel (bel HB2.out hb3) hb6⟩
end Go.Proofs.YtofjngfeclmneaaDoor.UrlW
