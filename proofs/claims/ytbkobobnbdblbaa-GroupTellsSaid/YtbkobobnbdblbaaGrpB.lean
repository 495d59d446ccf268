/- Contract of group.In: what GrpP's plain function says, for every type and every number. -/
import Derived.Test.YtbkobobnbdblbaaGrpA
namespace Go.Proofs.Ytbkobobnbdblbaa.GrpB
open Go.RowKit Go.Proofs.Ytbkobobnbdblbaa.Base Go.Proofs.Ytbkobobnbdblbaa.Base2 Go.Proofs.Ytbkobobnbdblbaa.GrpP Go.Proofs.Ytbkobobnbdblbaa.GrpA

def Mim (w : World) (g : Nat) (T S : ByteArray) (v : Value) : Prop := w.heap[g]? = some (.cells #[.string T, .string S, v] 24 (0, 0))
theorem Mim.facts {w : World} {g : Nat} {T S : ByteArray} {v : Value} (h : Mim w g T S v) : w.cell? ⟨g, 0, none⟩ = some (.string T) ∧ w.cell? ⟨g, 1, none⟩ = some (.string S) ∧ w.cell? ⟨g, 2, none⟩ = some v :=
  ⟨(cell_of_row w g 0 _ _ _ h).trans rfl, (cell_of_row w g 1 _ _ _ h).trans rfl, (cell_of_row w g 2 _ _ _ h).trans rfl⟩
theorem Mim.below {w w' : World} {g : Nat} {T S : ByteArray} {v : Value} (h : Mim w g T S v) (hb : Below w.heap.size w w') : Mim w' g T S v := (hb.block g (Array.getElem?_eq_some_iff.1 h).1).trans h
theorem Mim.new (w : World) (T S : ByteArray) (v : Value) : Mim (w.alloc (.cells #[.string T, .string S, v] 24)) w.heap.size T S v := heap_alloc_new w _
theorem boxed {w w1 : World} {T S : ByteArray} {v : Value} (hb : Below (w.alloc (.cells #[.string T, .string S, v] 24)).heap.size (w.alloc (.cells #[.string T, .string S, v] 24)) w1) :
    Mim w1 w.heap.size T S v ∧ Below w.heap.size w w1 := ⟨(Mim.new w T S v).below hb, ((Below.refl _ _).alloc (Nat.le_refl _) _).trans (hb.mono (by simp))⟩
theorem flat (w : World) (o : Obj) : Below w.heap.size w (w.alloc o) := (Below.refl _ _).alloc (Nat.le_refl _) _
set_option maxRecDepth 100000 in
set_option maxHeartbeats 2000000 in
theorem in_0 (T S : ByteArray) (sa : Option Addr) (sn sc : Nat) (w : World) (hT : T.size ≤ 140737488351232) (hS : S.size ≤ 140737488351232) :
    Calls Try.prog 10 #[.int .i64 0, .agg #[.string T, .string S, .slice sa sn sc]] w fun e w' => e = .returned (.bool (gB 0 T.data.toList S.data.toList)) ∧ Below w.heap.size w w' := by
  obtain ⟨b0, hb0⟩ : ∃ b, (T.data.toList == [105, 109, 97, 103, 101]) = b := ⟨_, rfl⟩
  have q0 := (beq_data T [105, 109, 97, 103, 101]).trans hb0
  have HV : Hid (gB 0 T.data.toList S.data.toList = b0) := by show _ = _; unfold gB; rw [if_pos rfl]; exact hb0
  clear hb0
  go_enter Try.func10, Try.ntmps10
  go_wp2
  go_ret
  rw [HV.out]
  exact ⟨by first | rfl | simp, flat _ _⟩
set_option maxRecDepth 100000 in
set_option maxHeartbeats 2000000 in
theorem in_1 (T S : ByteArray) (sa : Option Addr) (sn sc : Nat) (w : World) (hT : T.size ≤ 140737488351232) (hS : S.size ≤ 140737488351232) :
    Calls Try.prog 10 #[.int .i64 1, .agg #[.string T, .string S, .slice sa sn sc]] w fun e w' => e = .returned (.bool (gB 1 T.data.toList S.data.toList)) ∧ Below w.heap.size w w' := by
  obtain ⟨b0, hb0⟩ : ∃ b, (T.data.toList == [97, 117, 100, 105, 111]) = b := ⟨_, rfl⟩
  have q0 := (beq_data T [97, 117, 100, 105, 111]).trans hb0
  obtain ⟨b1, hb1⟩ : ∃ b, (T.data.toList == [118, 105, 100, 101, 111]) = b := ⟨_, rfl⟩
  have q1 := (beq_data T [118, 105, 100, 101, 111]).trans hb1
  obtain ⟨E, hE⟩ : ∃ E, E = ess T.data.toList S.data.toList := ⟨_, rfl⟩
  obtain ⟨b2, hb2⟩ : ∃ b, (E == [97, 112, 112, 108, 105, 99, 97, 116, 105, 111, 110, 47, 111, 103, 103]) = b := ⟨_, rfl⟩
  have q2 := (beq_str (E) [97, 112, 112, 108, 105, 99, 97, 116, 105, 111, 110, 47, 111, 103, 103]).trans hb2
  have HV : Hid (gB 1 T.data.toList S.data.toList = (b0 || b1 || b2)) := by show _ = _; unfold gB; rw [if_neg (by decide), if_pos rfl, hb0, hb1, ← hE, hb2]
  have HE := hid hE
  clear hb0 hb1 hb2 hE
  cases b0
  · cases b1
    · go_enter Try.func10, Try.ntmps10
      go_wp2_with fail
      refine (essence_any T S _ _ hT hS).mono ?_
      rintro e w1 ⟨rfl, hbE⟩
      rw [← HE.out]
      obtain ⟨hM, hB⟩ := boxed hbE
      clear hbE
      go_wp2_with fail
      go_ret
      rw [HV.out]
      exact ⟨by simp, hB⟩
    · go_enter Try.func10, Try.ntmps10
      go_wp2_with fail
      go_ret
      rw [HV.out]
      exact ⟨by simp, flat _ _⟩
  · go_enter Try.func10, Try.ntmps10
    go_wp2_with fail
    go_ret
    rw [HV.out]
    exact ⟨by simp, flat _ _⟩
set_option maxRecDepth 100000 in
set_option maxHeartbeats 2000000 in
theorem in_2 (T S : ByteArray) (sa : Option Addr) (sn sc : Nat) (w : World) (hT : T.size ≤ 140737488351232) (hS : S.size ≤ 140737488351232) :
    Calls Try.prog 10 #[.int .i64 2, .agg #[.string T, .string S, .slice sa sn sc]] w fun e w' => e = .returned (.bool (gB 2 T.data.toList S.data.toList)) ∧ Below w.heap.size w w' := by
  obtain ⟨b0, hb0⟩ : ∃ b, (T.data.toList == [102, 111, 110, 116]) = b := ⟨_, rfl⟩
  have q0 := (beq_data T [102, 111, 110, 116]).trans hb0
  obtain ⟨E, hE⟩ : ∃ E, E = ess T.data.toList S.data.toList := ⟨_, rfl⟩
  obtain ⟨b1, hb1⟩ : ∃ b, fontsB E = b := ⟨_, rfl⟩
  have HV : Hid (gB 2 T.data.toList S.data.toList = (b0 || b1)) := by show _ = _; unfold gB; rw [if_neg (by decide), if_neg (by decide), if_pos rfl, hb0, ← hE, hb1]
  have HE := hid hE
  have H1 := hid hb1
  clear hb0 hb1 hE
  cases b0
  · go_enter Try.func10, Try.ntmps10
    go_wp2_with fail
    refine (essence_any T S _ _ hT hS).mono ?_
    rintro e w1 ⟨rfl, hbE⟩
    rw [← HE.out]
    obtain ⟨hM, hB⟩ := boxed hbE
    clear hbE
    go_wp2_with fail
    refine (fonts_any E _).mono ?_
    rintro e w2 ⟨rfl, rfl⟩
    rw [H1.out]
    go_wp2_with fail
    go_ret
    rw [HV.out]
    exact ⟨by simp, hB⟩
  · go_enter Try.func10, Try.ntmps10
    go_wp2_with fail
    go_ret
    rw [HV.out]
    exact ⟨by simp, flat _ _⟩
set_option maxRecDepth 100000 in
set_option maxHeartbeats 2000000 in
theorem in_3 (T S : ByteArray) (sa : Option Addr) (sn sc : Nat) (w : World) (hT : T.size ≤ 140737488351232) (hS : S.size ≤ 140737488351232) :
    Calls Try.prog 10 #[.int .i64 3, .agg #[.string T, .string S, .slice sa sn sc]] w fun e w' => e = .returned (.bool (gB 3 T.data.toList S.data.toList)) ∧ Below w.heap.size w w' := by
  obtain ⟨b0, hb0⟩ : ∃ b, suf [43, 122, 105, 112] S.data.toList = b := ⟨_, rfl⟩
  have H0 := hid hb0
  obtain ⟨E, hE⟩ : ∃ E, E = ess T.data.toList S.data.toList := ⟨_, rfl⟩
  obtain ⟨b1, hb1⟩ : ∃ b, (E == [97, 112, 112, 108, 105, 99, 97, 116, 105, 111, 110, 47, 122, 105, 112]) = b := ⟨_, rfl⟩
  have q1 := (beq_str (E) [97, 112, 112, 108, 105, 99, 97, 116, 105, 111, 110, 47, 122, 105, 112]).trans hb1
  have HV : Hid (gB 3 T.data.toList S.data.toList = (b0 || b1)) := by show _ = _; unfold gB; rw [if_neg (by decide), if_neg (by decide), if_neg (by decide), if_pos rfl, hb0, ← hE, hb1]
  have HE := hid hE
  clear hb0 hb1 hE
  cases b0
  · go_enter Try.func10, Try.ntmps10
    go_wp2_with fail
    refine (suffix_any S [43, 122, 105, 112] _ hS).mono ?_
    rintro e w2 ⟨rfl, rfl⟩
    rw [H0.out]
    go_wp2_with fail
    refine (essence_any T S _ _ hT hS).mono ?_
    rintro e w1 ⟨rfl, hbE⟩
    rw [← HE.out]
    obtain ⟨hM, hB⟩ := boxed hbE
    clear hbE
    go_wp2_with fail
    go_ret
    rw [HV.out]
    exact ⟨by simp, hB⟩
  · go_enter Try.func10, Try.ntmps10
    go_wp2_with fail
    refine (suffix_any S [43, 122, 105, 112] _ hS).mono ?_
    rintro e w2 ⟨rfl, rfl⟩
    rw [H0.out]
    go_wp2_with fail
    go_ret
    rw [HV.out]
    exact ⟨by simp, flat _ _⟩
set_option maxRecDepth 100000 in
set_option maxHeartbeats 2000000 in
theorem in_4 (T S : ByteArray) (sa : Option Addr) (sn sc : Nat) (w : World) (hT : T.size ≤ 140737488351232) (hS : S.size ≤ 140737488351232) :
    Calls Try.prog 10 #[.int .i64 4, .agg #[.string T, .string S, .slice sa sn sc]] w fun e w' => e = .returned (.bool (gB 4 T.data.toList S.data.toList)) ∧ Below w.heap.size w w' := by
  obtain ⟨E, hE⟩ : ∃ E, E = ess T.data.toList S.data.toList := ⟨_, rfl⟩
  obtain ⟨b1, hb1⟩ : ∃ b, archsB E = b := ⟨_, rfl⟩
  have HV : Hid (gB 4 T.data.toList S.data.toList = b1) := by show _ = _; unfold gB; rw [if_neg (by decide), if_neg (by decide), if_neg (by decide), if_neg (by decide), if_pos rfl, ← hE, hb1]
  have HE := hid hE
  have H1 := hid hb1
  clear hb1 hE
  go_enter Try.func10, Try.ntmps10
  go_wp2_with fail
  refine (essence_any T S _ _ hT hS).mono ?_
  rintro e w1 ⟨rfl, hbE⟩
  rw [← HE.out]
  obtain ⟨hM, hB⟩ := boxed hbE
  clear hbE
  go_wp2_with fail
  refine (archs_any E _).mono ?_
  rintro e w2 ⟨rfl, rfl⟩
  rw [H1.out]
  go_wp2_with fail
  go_ret
  rw [HV.out]
  exact ⟨by first | rfl | simp, hB⟩
set_option maxRecDepth 100000 in
set_option maxHeartbeats 2000000 in
theorem in_9 (T S : ByteArray) (sa : Option Addr) (sn sc : Nat) (w : World) (hT : T.size ≤ 140737488351232) (hS : S.size ≤ 140737488351232) :
    Calls Try.prog 10 #[.int .i64 9, .agg #[.string T, .string S, .slice sa sn sc]] w fun e w' => e = .returned (.bool (gB 9 T.data.toList S.data.toList)) ∧ Below w.heap.size w w' := by
  obtain ⟨E, hE⟩ : ∃ E, E = ess T.data.toList S.data.toList := ⟨_, rfl⟩
  obtain ⟨b1, hb1⟩ : ∃ b, jssB E = b := ⟨_, rfl⟩
  have HV : Hid (gB 9 T.data.toList S.data.toList = b1) := by show _ = _; unfold gB; rw [if_neg (by decide), if_neg (by decide), if_neg (by decide), if_neg (by decide), if_neg (by decide), if_neg (by decide), if_neg (by decide), if_neg (by decide), if_neg (by decide), if_pos rfl, ← hE, hb1]
  have HE := hid hE
  have H1 := hid hb1
  clear hb1 hE
  go_enter Try.func10, Try.ntmps10
  go_wp2_with fail
  refine (essence_any T S _ _ hT hS).mono ?_
  rintro e w1 ⟨rfl, hbE⟩
  rw [← HE.out]
  obtain ⟨hM, hB⟩ := boxed hbE
  clear hbE
  go_wp2_with fail
  refine (jss_any E _).mono ?_
  rintro e w2 ⟨rfl, rfl⟩
  rw [H1.out]
  go_wp2_with fail
  go_ret
  rw [HV.out]
  exact ⟨by first | rfl | simp, hB⟩
set_option maxRecDepth 100000 in
set_option maxHeartbeats 2000000 in
theorem in_5 (T S : ByteArray) (sa : Option Addr) (sn sc : Nat) (w : World) (hT : T.size ≤ 140737488351232) (hS : S.size ≤ 140737488351232) :
    Calls Try.prog 10 #[.int .i64 5, .agg #[.string T, .string S, .slice sa sn sc]] w fun e w' => e = .returned (.bool (gB 5 T.data.toList S.data.toList)) ∧ Below w.heap.size w w' := by
  obtain ⟨b0, hb0⟩ : ∃ b, suf [43, 120, 109, 108] S.data.toList = b := ⟨_, rfl⟩
  have H0 := hid hb0
  obtain ⟨E, hE⟩ : ∃ E, E = ess T.data.toList S.data.toList := ⟨_, rfl⟩
  obtain ⟨b1, hb1⟩ : ∃ b, xmlsB E = b := ⟨_, rfl⟩
  have HV : Hid (gB 5 T.data.toList S.data.toList = (b0 || b1)) := by show _ = _; unfold gB; rw [if_neg (by decide), if_neg (by decide), if_neg (by decide), if_neg (by decide), if_neg (by decide), if_pos rfl, hb0, ← hE, hb1]
  have HE := hid hE
  have H1 := hid hb1
  clear hb0 hb1 hE
  cases b0
  · go_enter Try.func10, Try.ntmps10
    go_wp2_with fail
    refine (suffix_any S [43, 120, 109, 108] _ hS).mono ?_
    rintro e w2 ⟨rfl, rfl⟩
    rw [H0.out]
    go_wp2_with fail
    refine (essence_any T S _ _ hT hS).mono ?_
    rintro e w1 ⟨rfl, hbE⟩
    rw [← HE.out]
    obtain ⟨hM, hB⟩ := boxed hbE
    clear hbE
    go_wp2_with fail
    refine (xmls_any E _).mono ?_
    rintro e w2 ⟨rfl, rfl⟩
    rw [H1.out]
    go_wp2_with fail
    go_ret
    rw [HV.out]
    exact ⟨by simp, hB⟩
  · go_enter Try.func10, Try.ntmps10
    go_wp2_with fail
    refine (suffix_any S [43, 120, 109, 108] _ hS).mono ?_
    rintro e w2 ⟨rfl, rfl⟩
    rw [H0.out]
    go_wp2_with fail
    go_ret
    rw [HV.out]
    exact ⟨by simp, flat _ _⟩
set_option maxRecDepth 100000 in
set_option maxHeartbeats 2000000 in
theorem in_8 (T S : ByteArray) (sa : Option Addr) (sn sc : Nat) (w : World) (hT : T.size ≤ 140737488351232) (hS : S.size ≤ 140737488351232) :
    Calls Try.prog 10 #[.int .i64 8, .agg #[.string T, .string S, .slice sa sn sc]] w fun e w' => e = .returned (.bool (gB 8 T.data.toList S.data.toList)) ∧ Below w.heap.size w w' := by
  obtain ⟨b0, hb0⟩ : ∃ b, suf [43, 106, 115, 111, 110] S.data.toList = b := ⟨_, rfl⟩
  have H0 := hid hb0
  obtain ⟨E, hE⟩ : ∃ E, E = ess T.data.toList S.data.toList := ⟨_, rfl⟩
  obtain ⟨b1, hb1⟩ : ∃ b, jsonsB E = b := ⟨_, rfl⟩
  have HV : Hid (gB 8 T.data.toList S.data.toList = (b0 || b1)) := by show _ = _; unfold gB; rw [if_neg (by decide), if_neg (by decide), if_neg (by decide), if_neg (by decide), if_neg (by decide), if_neg (by decide), if_neg (by decide), if_neg (by decide), if_pos rfl, hb0, ← hE, hb1]
  have HE := hid hE
  have H1 := hid hb1
  clear hb0 hb1 hE
  cases b0
  · go_enter Try.func10, Try.ntmps10
    go_wp2_with fail
    refine (suffix_any S [43, 106, 115, 111, 110] _ hS).mono ?_
    rintro e w2 ⟨rfl, rfl⟩
    rw [H0.out]
    go_wp2_with fail
    refine (essence_any T S _ _ hT hS).mono ?_
    rintro e w1 ⟨rfl, hbE⟩
    rw [← HE.out]
    obtain ⟨hM, hB⟩ := boxed hbE
    clear hbE
    go_wp2_with fail
    refine (jsons_any E _).mono ?_
    rintro e w2 ⟨rfl, rfl⟩
    rw [H1.out]
    go_wp2_with fail
    go_ret
    rw [HV.out]
    exact ⟨by simp, hB⟩
  · go_enter Try.func10, Try.ntmps10
    go_wp2_with fail
    refine (suffix_any S [43, 106, 115, 111, 110] _ hS).mono ?_
    rintro e w2 ⟨rfl, rfl⟩
    rw [H0.out]
    go_wp2_with fail
    go_ret
    rw [HV.out]
    exact ⟨by simp, flat _ _⟩
set_option maxRecDepth 100000 in
set_option maxHeartbeats 2000000 in
theorem in_6 (T S : ByteArray) (sa : Option Addr) (sn sc : Nat) (w : World) (hT : T.size ≤ 140737488351232) (hS : S.size ≤ 140737488351232) :
    Calls Try.prog 10 #[.int .i64 6, .agg #[.string T, .string S, .slice sa sn sc]] w fun e w' => e = .returned (.bool (gB 6 T.data.toList S.data.toList)) ∧ Below w.heap.size w w' := by
  obtain ⟨E, hE⟩ : ∃ E, E = ess T.data.toList S.data.toList := ⟨_, rfl⟩
  obtain ⟨b1, hb1⟩ : ∃ b, (E == [116, 101, 120, 116, 47, 104, 116, 109, 108]) = b := ⟨_, rfl⟩
  have q1 := (beq_str (E) [116, 101, 120, 116, 47, 104, 116, 109, 108]).trans hb1
  have HV : Hid (gB 6 T.data.toList S.data.toList = b1) := by show _ = _; unfold gB; rw [if_neg (by decide), if_neg (by decide), if_neg (by decide), if_neg (by decide), if_neg (by decide), if_neg (by decide), if_pos rfl, ← hE, hb1]
  have HE := hid hE
  clear hb1 hE
  go_enter Try.func10, Try.ntmps10
  go_wp2_with fail
  refine (essence_any T S _ _ hT hS).mono ?_
  rintro e w1 ⟨rfl, hbE⟩
  rw [← HE.out]
  obtain ⟨hM, hB⟩ := boxed hbE
  clear hbE
  go_wp2_with fail
  go_ret
  rw [HV.out]
  exact ⟨by first | rfl | simp, hB⟩
set_option maxRecDepth 100000 in
set_option maxHeartbeats 2000000 in
theorem in_7 (T S : ByteArray) (sa : Option Addr) (sn sc : Nat) (w : World) (hT : T.size ≤ 140737488351232) (hS : S.size ≤ 140737488351232) :
    Calls Try.prog 10 #[.int .i64 7, .agg #[.string T, .string S, .slice sa sn sc]] w fun e w' => e = .returned (.bool (gB 7 T.data.toList S.data.toList)) ∧ Below w.heap.size w w' := by
  obtain ⟨E, hE⟩ : ∃ E, E = ess T.data.toList S.data.toList := ⟨_, rfl⟩
  obtain ⟨b2, hb2⟩ : ∃ b, (E == [97, 112, 112, 108, 105, 99, 97, 116, 105, 111, 110, 47, 112, 100, 102]) = b := ⟨_, rfl⟩
  have q2 := (beq_str (E) [97, 112, 112, 108, 105, 99, 97, 116, 105, 111, 110, 47, 112, 100, 102]).trans hb2
  obtain ⟨b0, hb0⟩ : ∃ b, gB 5 T.data.toList S.data.toList = b := ⟨_, rfl⟩
  obtain ⟨b1, hb1⟩ : ∃ b, gB 6 T.data.toList S.data.toList = b := ⟨_, rfl⟩
  have HV : Hid (gB 7 T.data.toList S.data.toList = (b0 || b1 || b2)) := by
    show _ = _
    rw [← hb0, ← hb1, ← hb2, hE]
    unfold gB
    rw [if_neg (by decide), if_neg (by decide), if_neg (by decide), if_neg (by decide), if_neg (by decide), if_neg (by decide), if_neg (by decide), if_pos rfl, if_neg (by decide), if_neg (by decide), if_neg (by decide), if_neg (by decide), if_neg (by decide), if_pos rfl, if_neg (by decide), if_neg (by decide), if_neg (by decide), if_neg (by decide), if_neg (by decide), if_neg (by decide), if_pos rfl]
  have HE := hid hE
  have H0 := hid hb0
  have H1 := hid hb1
  clear hb0 hb1 hb2 hE
  cases b0
  · cases b1
    · go_enter Try.func10, Try.ntmps10
      go_wp2_with fail
      refine (in_5 T S _ _ _ _ hT hS).mono ?_
      rintro e w1 ⟨rfl, hb5⟩
      rw [H0.out]
      obtain ⟨hM, hB⟩ := boxed hb5
      clear hb5
      obtain ⟨c0, c1, c2⟩ := hM.facts
      go_wp2_with fail
      refine (in_6 T S _ _ _ _ hT hS).mono ?_
      rintro e w2 ⟨rfl, hb6⟩
      rw [H1.out]
      have hM2 := hM.below hb6
      have hB2 := bel hB hb6
      clear hb6 hM hB c0 c1 c2
      obtain ⟨c0, c1, c2⟩ := hM2.facts
      go_wp2_with fail
      refine (essence_any T S _ _ hT hS).mono ?_
      rintro e w3 ⟨rfl, hbE⟩
      rw [← HE.out]
      have hB3 := bel hB2 hbE
      go_wp2_with fail
      go_ret
      rw [HV.out]
      exact ⟨by simp, hB3⟩
    · go_enter Try.func10, Try.ntmps10
      go_wp2_with fail
      refine (in_5 T S _ _ _ _ hT hS).mono ?_
      rintro e w1 ⟨rfl, hb5⟩
      rw [H0.out]
      obtain ⟨hM, hB⟩ := boxed hb5
      clear hb5
      obtain ⟨c0, c1, c2⟩ := hM.facts
      go_wp2_with fail
      refine (in_6 T S _ _ _ _ hT hS).mono ?_
      rintro e w2 ⟨rfl, hb6⟩
      rw [H1.out]
      have hM2 := hM.below hb6
      have hB2 := bel hB hb6
      clear hb6 hM hB c0 c1 c2
      obtain ⟨c0, c1, c2⟩ := hM2.facts
      go_wp2_with fail
      go_ret
      rw [HV.out]
      exact ⟨by simp, hB2⟩
  · go_enter Try.func10, Try.ntmps10
    go_wp2_with fail
    refine (in_5 T S _ _ _ _ hT hS).mono ?_
    rintro e w1 ⟨rfl, hb5⟩
    rw [H0.out]
    obtain ⟨hM, hB⟩ := boxed hb5
    clear hb5
    obtain ⟨c0, c1, c2⟩ := hM.facts
    go_wp2_with fail
    go_ret
    rw [HV.out]
    exact ⟨by simp, hB⟩
theorem gB_out (g : Int) (T S : List UInt8) (h : g < 0 ∨ 9 < g) : gB g T S = false := by
  unfold gB
  rw [if_neg (by omega), if_neg (by omega), if_neg (by omega), if_neg (by omega), if_neg (by omega), if_neg (by omega), if_neg (by omega), if_neg (by omega), if_neg (by omega), if_neg (by omega)]
set_option maxRecDepth 100000 in
set_option maxHeartbeats 2000000 in
theorem in_out (g : Int) (T S : ByteArray) (sa : Option Addr) (sn sc : Nat) (w : World) (h : g < 0 ∨ 9 < g) :
    Calls Try.prog 10 #[.int .i64 g, .agg #[.string T, .string S, .slice sa sn sc]] w fun e w' => e = .returned (.bool (gB g T.data.toList S.data.toList)) ∧ Below w.heap.size w w' := by
  have HV := hid (gB_out g T.data.toList S.data.toList h)
  have e0 : (g == 0) = false := by simp; omega
  have e1 : (g == 1) = false := by simp; omega
  have e2 : (g == 2) = false := by simp; omega
  have e3 : (g == 3) = false := by simp; omega
  have e4 : (g == 4) = false := by simp; omega
  have e5 : (g == 5) = false := by simp; omega
  have e6 : (g == 6) = false := by simp; omega
  have e7 : (g == 7) = false := by simp; omega
  have e8 : (g == 8) = false := by simp; omega
  have e9 : (g == 9) = false := by simp; omega
  clear h
  go_enter Try.func10, Try.ntmps10
  go_wp2
  go_ret
  rw [HV.out]
  exact ⟨rfl, flat _ _⟩
theorem in_any (g : Int) (T S : ByteArray) (sa : Option Addr) (sn sc : Nat) (w : World) (hT : T.size ≤ 140737488351232) (hS : S.size ≤ 140737488351232) :
    Calls Try.prog 10 #[.int .i64 g, .agg #[.string T, .string S, .slice sa sn sc]] w fun e w' => e = .returned (.bool (gB g T.data.toList S.data.toList)) ∧ Below w.heap.size w w' := by
  have hcase : g < 0 ∨ 9 < g ∨ g = 0 ∨ g = 1 ∨ g = 2 ∨ g = 3 ∨ g = 4 ∨ g = 5 ∨ g = 6 ∨ g = 7 ∨ g = 8 ∨ g = 9 := by omega
  rcases hcase with h | h | rfl | rfl | rfl | rfl | rfl | rfl | rfl | rfl | rfl | rfl
  · exact in_out g T S sa sn sc w (.inl h)
  · exact in_out g T S sa sn sc w (.inr h)
  · exact in_0 T S sa sn sc w hT hS
  · exact in_1 T S sa sn sc w hT hS
  · exact in_2 T S sa sn sc w hT hS
  · exact in_3 T S sa sn sc w hT hS
  · exact in_4 T S sa sn sc w hT hS
  · exact in_5 T S sa sn sc w hT hS
  · exact in_6 T S sa sn sc w hT hS
  · exact in_7 T S sa sn sc w hT hS
  · exact in_8 T S sa sn sc w hT hS
  · exact in_9 T S sa sn sc w hT hS
end Go.Proofs.Ytbkobobnbdblbaa.GrpB
