/- Answers: the document's Decode. -/
import Derived.Test.YthbpjkgbnmllkaaAnsG
namespace Go.Proofs.Ythbpjkgbnmllkaa.AnsH
open Go.RowKit Go.Proofs.Ythbpjkgbnmllkaa.Base Go.Proofs.Ythbpjkgbnmllkaa.Base2 Go.Proofs.Ythbpjkgbnmllkaa.Base3 Go.Proofs.Ythbpjkgbnmllkaa.AnsP Go.Proofs.Ythbpjkgbnmllkaa.AnsB

/-- What the document's Decode has laid: its answer (nothing yet), the numbers read so far, how long they are. -/
structure St (w wr : World) (n1 n2 n3 n4 : Nat) : Prop where
  res : B6 33 wr w.heap.size (.int .i64 0) (.int .i64 0) (.int .i64 0) (.int .i64 0) (.string ⟨#[]⟩) (.string ⟨#[]⟩)
  num : wr.heap[w.heap.size + 1]? = some (.cells #[.int .u64 (n1 : Int), .int .u64 (n2 : Int), .int .u64 (n3 : Int), .int .u64 (n4 : Int)] 67 (0, 0))
  long : wr.heap[w.heap.size + 2]? = some (.cells #[.int .i64 1, .int .i64 4, .int .i64 8, .int .i64 8] 3 (0, 0))
  below : Below w.heap.size w wr
theorem St.go {w wr w1 : World} {n1 n2 n3 n4 : Nat} (h : St w wr n1 n2 n3 n4) (hb : Below wr.heap.size wr w1) : St w w1 n1 n2 n3 n4 :=
  ⟨h.res.below hb h.res.lt, (hb.block _ (Array.getElem?_eq_some_iff.1 h.num).1).trans h.num, (hb.block _ (Array.getElem?_eq_some_iff.1 h.long).1).trans h.long, h.below.trans (hb.mono h.below.size)⟩
theorem St.lens {w wr : World} {n1 n2 n3 n4 : Nat} (h : St w wr n1 n2 n3 n4) : wr.cell? ⟨w.heap.size + 2, 0, none⟩ = some (.int .i64 1) ∧ wr.cell? ⟨w.heap.size + 2, 1, none⟩ = some (.int .i64 4) ∧ wr.cell? ⟨w.heap.size + 2, 2, none⟩ = some (.int .i64 8) ∧ wr.cell? ⟨w.heap.size + 2, 3, none⟩ = some (.int .i64 8) :=
  ⟨(cell_of_row wr _ 0 _ _ _ h.long).trans rfl, (cell_of_row wr _ 1 _ _ _ h.long).trans rfl, (cell_of_row wr _ 2 _ _ _ h.long).trans rfl, (cell_of_row wr _ 3 _ _ _ h.long).trans rfl⟩
theorem St.nums {w wr : World} {n1 n2 n3 n4 : Nat} (h : St w wr n1 n2 n3 n4) : wr.cell? ⟨w.heap.size + 1, 0, none⟩ = some (.int .u64 n1) ∧ wr.cell? ⟨w.heap.size + 1, 1, none⟩ = some (.int .u64 n2) ∧ wr.cell? ⟨w.heap.size + 1, 2, none⟩ = some (.int .u64 n3) ∧ wr.cell? ⟨w.heap.size + 1, 3, none⟩ = some (.int .u64 n4) :=
  ⟨(cell_of_row wr _ 0 _ _ _ h.num).trans rfl, (cell_of_row wr _ 1 _ _ _ h.num).trans rfl, (cell_of_row wr _ 2 _ _ _ h.num).trans rfl, (cell_of_row wr _ 3 _ _ _ h.num).trans rfl⟩
theorem St.thaw {w wr : World} {n1 n2 n3 n4 : Nat} (h : St w wr n1 n2 n3 n4) (k : Nat) : wr.frozen? ⟨w.heap.size + 1, k, none⟩ = false := frozen_of_row wr _ k _ _ h.num
theorem St.set0 {w wr : World} {n1 n2 n3 n4 : Nat} (h : St w wr n1 n2 n3 n4) (x : Nat) : St w (wr.setCell ⟨w.heap.size + 1, 0, none⟩ (.int .u64 (x : Int))) x n2 n3 n4 :=
  ⟨h.res.other (by omega) _ _, heap_setCell_same wr _ 0 _ _ _ h.num, (heap_setCell_other wr _ _ _ (by show w.heap.size + 2 ≠ w.heap.size + 1; omega)).trans h.long, h.below.setCell (p := ⟨w.heap.size + 1, 0, none⟩) (Nat.le_succ _) _⟩
theorem St.set1 {w wr : World} {n1 n2 n3 n4 : Nat} (h : St w wr n1 n2 n3 n4) (x : Nat) : St w (wr.setCell ⟨w.heap.size + 1, 1, none⟩ (.int .u64 (x : Int))) n1 x n3 n4 :=
  ⟨h.res.other (by omega) _ _, heap_setCell_same wr _ 1 _ _ _ h.num, (heap_setCell_other wr _ _ _ (by show w.heap.size + 2 ≠ w.heap.size + 1; omega)).trans h.long, h.below.setCell (p := ⟨w.heap.size + 1, 1, none⟩) (Nat.le_succ _) _⟩
theorem St.set2 {w wr : World} {n1 n2 n3 n4 : Nat} (h : St w wr n1 n2 n3 n4) (x : Nat) : St w (wr.setCell ⟨w.heap.size + 1, 2, none⟩ (.int .u64 (x : Int))) n1 n2 x n4 :=
  ⟨h.res.other (by omega) _ _, heap_setCell_same wr _ 2 _ _ _ h.num, (heap_setCell_other wr _ _ _ (by show w.heap.size + 2 ≠ w.heap.size + 1; omega)).trans h.long, h.below.setCell (p := ⟨w.heap.size + 1, 2, none⟩) (Nat.le_succ _) _⟩
theorem St.set3 {w wr : World} {n1 n2 n3 n4 : Nat} (h : St w wr n1 n2 n3 n4) (x : Nat) : St w (wr.setCell ⟨w.heap.size + 1, 3, none⟩ (.int .u64 (x : Int))) n1 n2 n3 x :=
  ⟨h.res.other (by omega) _ _, heap_setCell_same wr _ 3 _ _ _ h.num, (heap_setCell_other wr _ _ _ (by show w.heap.size + 2 ≠ w.heap.size + 1; omega)).trans h.long, h.below.setCell (p := ⟨w.heap.size + 1, 3, none⟩) (Nat.le_succ _) _⟩
/-- What was read in k rounds. -/
def Tr (L : List UInt8) (n1 n2 n3 n4 : Nat) (M : List UInt8) : Nat → Prop
  | 0 => M = L
  | 1 => rd 1 L = some (n1, M)
  | 2 => ∃ L1, rd 1 L = some (n1, L1) ∧ rd 4 L1 = some (n2, M)
  | 3 => ∃ L1 L2, rd 1 L = some (n1, L1) ∧ rd 4 L1 = some (n2, L2) ∧ rd 8 L2 = some (n3, M)
  | _ => ∃ L1 L2 L3, rd 1 L = some (n1, L1) ∧ rd 4 L1 = some (n2, L2) ∧ rd 8 L2 = some (n3, L3) ∧ rd 8 L3 = some (n4, M)
theorem tr_no0 {L M : List UInt8} {n1 n2 n3 n4 : Nat} (h : Tr L n1 n2 n3 n4 M 0) (hr : rd 1 M = none) : dec L = none := by
  have h : M = L := h
  subst h
  unfold dec; rw [hr]
theorem tr_no1 {L M : List UInt8} {n1 n2 n3 n4 : Nat} (h : Tr L n1 n2 n3 n4 M 1) (hr : rd 4 M = none) : dec L = none := by
  have h : rd 1 L = some (n1, M) := h
  unfold dec; rw [h]; simp only; rw [hr]
theorem tr_no2 {L M : List UInt8} {n1 n2 n3 n4 : Nat} (h : Tr L n1 n2 n3 n4 M 2) (hr : rd 8 M = none) : dec L = none := by
  obtain ⟨L1, h1, h2⟩ := h
  unfold dec; rw [h1]; simp only; rw [h2]; simp only; rw [hr]
theorem tr_no3 {L M : List UInt8} {n1 n2 n3 n4 : Nat} (h : Tr L n1 n2 n3 n4 M 3) (hr : rd 8 M = none) : dec L = none := by
  obtain ⟨L1, L2, h1, h2, h3⟩ := h
  unfold dec; rw [h1]; simp only; rw [h2]; simp only; rw [h3]; simp only; rw [hr]
theorem tr_len {L M : List UInt8} {n1 n2 n3 n4 k : Nat} (h : Tr L n1 n2 n3 n4 M k) : M.length ≤ L.length := by
  have H : ∀ m n (A B : List UInt8), rd m A = some (n, B) → B.length ≤ A.length := fun m n A B h => by
    obtain ⟨rfl, _⟩ := rd_some h
    simp
  match k, h with
  | 0, h => obtain rfl := h; exact Nat.le_refl _
  | 1, h => exact H _ _ _ _ h
  | 2, ⟨L1, h1, h2⟩ => exact Nat.le_trans (H _ _ _ _ h2) (H _ _ _ _ h1)
  | 3, ⟨L1, L2, h1, h2, h3⟩ => exact Nat.le_trans (H _ _ _ _ h3) (Nat.le_trans (H _ _ _ _ h2) (H _ _ _ _ h1))
  | k + 4, ⟨L1, L2, L3, h1, h2, h3, h4⟩ => exact Nat.le_trans (H _ _ _ _ h4) (Nat.le_trans (H _ _ _ _ h3) (Nat.le_trans (H _ _ _ _ h2) (H _ _ _ _ h1)))
theorem res_rdec {w : World} {g : Nat} {a b c d e f : Value} (h : B6 33 w g a b c d e f) (z : Bool) (tmps : Array Value) (h2 : tmps.getD 2 undef = .pointer (some ⟨g, 0, none⟩)) (h3 : tmps.getD 3 undef = .bool z) :
    (results Try.f15 tmps).run Try.prog w = .ok (.tuple #[.agg #[a, b, c, d, e, f], .bool z]) w := by
  have hp' : tmps[2]?.getD undef = .pointer (some ⟨g, 0, none⟩) := by simpa using h2
  have hq' : tmps[3]?.getD undef = .bool z := by simpa using h3
  simp [results, Try.results15, hp', hq', asAddr, h.load33]
def RDec (w : World) (L : List UInt8) (e : Ending) (w' : World) : Prop := Below w.heap.size w w' ∧ match dec L with
  | none => e = .returned (.tuple #[.agg #[.int .i64 0, .int .i64 0, .int .i64 0, .int .i64 0, .string ⟨#[]⟩, .string ⟨#[]⟩], .bool false])
  | some a => e = .returned (.tuple #[.agg #[.int .i64 (a.sort : Int), .int .i64 (a.status : Int), .int .i64 (AnsW.sg a.first), .int .i64 (AnsW.sg a.total), .string (strOf a.kind), .string (strOf a.body)], .bool true])
set_option maxRecDepth 100000 in
set_option maxHeartbeats 16000000 in
theorem decode_any (s : ByteArray) (w : World) (hs : s.size ≤ 1000000) : Calls Try.prog 15 #[.string s] w (RDec w s.data.toList) := by
  have hsl : s.data.toList.length = s.size := Array.length_toList
  obtain ⟨L, hL⟩ : ∃ L, L = s.data.toList := ⟨_, rfl⟩
  rw [← hL] at hsl ⊢
  have hsL : s = strOf L := by rw [hL, strOf_toList]
  subst hsL
  clear hL
  have HSL : Hid (L.length ≤ 1000000) := by show _ ≤ _; omega
  clear hsl hs
  have hA : St w (((w.alloc (.cells #[.int .i64 0, .int .i64 0, .int .i64 0, .int .i64 0, .string ⟨#[]⟩, .string ⟨#[]⟩] 33)).alloc (.cells #[.int .u64 0, .int .u64 0, .int .u64 0, .int .u64 0] 67)).alloc (.cells #[.int .i64 1, .int .i64 4, .int .i64 8, .int .i64 8] 3)) 0 0 0 0 := by
    have s1 : (w.alloc (.cells #[.int .i64 0, .int .i64 0, .int .i64 0, .int .i64 0, .string ⟨#[]⟩, .string ⟨#[]⟩] 33)).heap.size = w.heap.size + 1 := by simp
    have s2 : ((w.alloc (.cells #[.int .i64 0, .int .i64 0, .int .i64 0, .int .i64 0, .string ⟨#[]⟩, .string ⟨#[]⟩] 33)).alloc (.cells #[.int .u64 0, .int .u64 0, .int .u64 0, .int .u64 0] 67)).heap.size = w.heap.size + 2 := by simp
    refine ⟨?_, ?_, ?_, (((Below.refl _ _).alloc (Nat.le_refl _) _).alloc (by simp <;> omega) _).alloc (by simp <;> omega) _⟩
    · exact B6.below (B := w.heap.size + 1) (heap_alloc_new w _) (((Below.refl _ _).alloc (by simp) _).alloc (by simp) _) (by omega)
    · exact (((Below.refl (w.heap.size + 2) ((w.alloc (.cells #[.int .i64 0, .int .i64 0, .int .i64 0, .int .i64 0, .string ⟨#[]⟩, .string ⟨#[]⟩] 33)).alloc (.cells #[.int .u64 0, .int .u64 0, .int .u64 0, .int .u64 0] 67))).alloc (by simp) _).block _ (by omega)).trans (by have h := heap_alloc_new (w.alloc (.cells #[.int .i64 0, .int .i64 0, .int .i64 0, .int .i64 0, .string ⟨#[]⟩, .string ⟨#[]⟩] 33)) (.cells #[.int .u64 0, .int .u64 0, .int .u64 0, .int .u64 0] 67); rw [s1] at h; exact h)
    · have h := heap_alloc_new ((w.alloc (.cells #[.int .i64 0, .int .i64 0, .int .i64 0, .int .i64 0, .string ⟨#[]⟩, .string ⟨#[]⟩] 33)).alloc (.cells #[.int .u64 0, .int .u64 0, .int .u64 0, .int .u64 0] 67)) (.cells #[.int .i64 1, .int .i64 4, .int .i64 8, .int .i64 8] 3)
      rw [s2] at h
      exact h
  have HA := hid hA
  clear hA
  go_enter Try.func15, Try.ntmps15
  go_wp2
  go_loopw [0, 5, 7, 11] (fun v0 _ _ vk wr => ∃ (k n1 n2 n3 n4 : Nat) (M : List UInt8), k ≤ 4 ∧ vk = .int .i64 (k : Int) ∧ v0 = .string (strOf M) ∧ Hid (Tr L n1 n2 n3 n4 M k) ∧ Hid (St w wr n1 n2 n3 n4)) (fun _ _ _ vk _ => 4 - (intOf vk).toNat)
  case atStart => exact ⟨0, 0, 0, 0, 0, L, by omega, rfl, rfl, rfl, HA.out⟩
  case round =>
    obtain ⟨k, n1, n2, n3, n4, M, hk, rfl, rfl, HT, HS⟩ := hrel
    have HML : Hid ((strOf M).size ≤ 1073741824) := by have := tr_len HT.out; have := HSL.out; show _ ≤ _; rw [size_strOf]; omega
    by_cases hk4 : k < 4
    · obtain ⟨l0, l1, l2, l3⟩ := HS.out.lens
      rcases (show k = 0 ∨ 0 < k by omega) with hk0 | hk0
      · subst hk0
        have s0 : HS.out.lens = HS.out.lens := rfl
        clear s0
        go_wp2_with fail
        refine (AnsF.take_any (strOf M) 1 _ HML.out (by omega)).mono ?_
        rw [show (strOf M).data.toList = M from rfl]
        cases hr : rd 1 M with
        | none =>
          rintro e w1 ⟨rfl, hb⟩
          have HD := hid (tr_no0 HT.out hr)
          have HS1 := hid (HS.out.go hb)
          have HSX := hid (HS1.out.set0 0)
          obtain ⟨p0, p1, p2, p3⟩ := HS1.out.nums
          have z0 := HS1.out.thaw 0
          clear hb hr
          obtain ⟨f0, f1, f2, f3, f4, f5⟩ := HS1.out.res.thaw
          obtain ⟨c0, c1, c2, c3, c4, c5⟩ := HS1.out.res.facts
          go_wp2_with fail
          try simp only [Exit.inBlock, Exit.then]
          exact bodyPost_ret (w := put6 _ w.heap.size _ _ _ _ _ _) (res_rdec (HSX.out.res.put _ _ _ _ _ _) false _ rfl rfl) rfl ⟨below_put6 HSX.out.below (Nat.le_refl _) _ _ _ _ _ _, by rw [HD.out]⟩
        | some p =>
          obtain ⟨x, M2⟩ := p
          rintro e w1 ⟨rfl, hb⟩
          have HT2 : Hid (Tr L x n2 n3 n4 M2 1) := (by have h : M = L := HT.out; show rd 1 L = _; rw [← h]; exact hr)
          have HS1 := hid (HS.out.go hb)
          have HSX := hid (HS1.out.set0 x)
          obtain ⟨p0, p1, p2, p3⟩ := HS1.out.nums
          have z0 := HS1.out.thaw 0
          clear hb hr
          go_wp2
          go_roundw
          case rel => exact ⟨1, x, n2, n3, n4, M2, by omega, rfl, rfl, HT2.out, HSX.out⟩
          case measure => simp [intOf]
      rcases (show k = 1 ∨ 1 < k by omega) with hk1 | hk1
      · subst hk1
        have s1 : HS.out.lens = HS.out.lens := rfl
        clear s1
        go_wp2_with fail
        refine (AnsF.take_any (strOf M) 4 _ HML.out (by omega)).mono ?_
        rw [show (strOf M).data.toList = M from rfl]
        cases hr : rd 4 M with
        | none =>
          rintro e w1 ⟨rfl, hb⟩
          have HD := hid (tr_no1 HT.out hr)
          have HS1 := hid (HS.out.go hb)
          have HSX := hid (HS1.out.set1 0)
          obtain ⟨p0, p1, p2, p3⟩ := HS1.out.nums
          have z0 := HS1.out.thaw 1
          clear hb hr
          obtain ⟨f0, f1, f2, f3, f4, f5⟩ := HS1.out.res.thaw
          obtain ⟨c0, c1, c2, c3, c4, c5⟩ := HS1.out.res.facts
          go_wp2_with fail
          try simp only [Exit.inBlock, Exit.then]
          exact bodyPost_ret (w := put6 _ w.heap.size _ _ _ _ _ _) (res_rdec (HSX.out.res.put _ _ _ _ _ _) false _ rfl rfl) rfl ⟨below_put6 HSX.out.below (Nat.le_refl _) _ _ _ _ _ _, by rw [HD.out]⟩
        | some p =>
          obtain ⟨x, M2⟩ := p
          rintro e w1 ⟨rfl, hb⟩
          have HT2 : Hid (Tr L n1 x n3 n4 M2 2) := ⟨_, HT.out, hr⟩
          have HS1 := hid (HS.out.go hb)
          have HSX := hid (HS1.out.set1 x)
          obtain ⟨p0, p1, p2, p3⟩ := HS1.out.nums
          have z0 := HS1.out.thaw 1
          clear hb hr
          go_wp2
          go_roundw
          case rel => exact ⟨2, n1, x, n3, n4, M2, by omega, rfl, rfl, HT2.out, HSX.out⟩
          case measure => simp [intOf]
      rcases (show k = 2 ∨ 2 < k by omega) with hk2 | hk2
      · subst hk2
        have s2 : HS.out.lens = HS.out.lens := rfl
        clear s2
        go_wp2_with fail
        refine (AnsF.take_any (strOf M) 8 _ HML.out (by omega)).mono ?_
        rw [show (strOf M).data.toList = M from rfl]
        cases hr : rd 8 M with
        | none =>
          rintro e w1 ⟨rfl, hb⟩
          have HD := hid (tr_no2 HT.out hr)
          have HS1 := hid (HS.out.go hb)
          have HSX := hid (HS1.out.set2 0)
          obtain ⟨p0, p1, p2, p3⟩ := HS1.out.nums
          have z0 := HS1.out.thaw 2
          clear hb hr
          obtain ⟨f0, f1, f2, f3, f4, f5⟩ := HS1.out.res.thaw
          obtain ⟨c0, c1, c2, c3, c4, c5⟩ := HS1.out.res.facts
          go_wp2_with fail
          try simp only [Exit.inBlock, Exit.then]
          exact bodyPost_ret (w := put6 _ w.heap.size _ _ _ _ _ _) (res_rdec (HSX.out.res.put _ _ _ _ _ _) false _ rfl rfl) rfl ⟨below_put6 HSX.out.below (Nat.le_refl _) _ _ _ _ _ _, by rw [HD.out]⟩
        | some p =>
          obtain ⟨x, M2⟩ := p
          rintro e w1 ⟨rfl, hb⟩
          have HT2 : Hid (Tr L n1 n2 x n4 M2 3) := let ⟨a, b, c⟩ := HT.out; ⟨a, _, b, c, hr⟩
          have HS1 := hid (HS.out.go hb)
          have HSX := hid (HS1.out.set2 x)
          obtain ⟨p0, p1, p2, p3⟩ := HS1.out.nums
          have z0 := HS1.out.thaw 2
          clear hb hr
          go_wp2
          go_roundw
          case rel => exact ⟨3, n1, n2, x, n4, M2, by omega, rfl, rfl, HT2.out, HSX.out⟩
          case measure => simp [intOf]
      rcases (show k = 3 ∨ 3 < k by omega) with hk3 | hk3
      · subst hk3
        have s3 : HS.out.lens = HS.out.lens := rfl
        clear s3
        go_wp2_with fail
        refine (AnsF.take_any (strOf M) 8 _ HML.out (by omega)).mono ?_
        rw [show (strOf M).data.toList = M from rfl]
        cases hr : rd 8 M with
        | none =>
          rintro e w1 ⟨rfl, hb⟩
          have HD := hid (tr_no3 HT.out hr)
          have HS1 := hid (HS.out.go hb)
          have HSX := hid (HS1.out.set3 0)
          obtain ⟨p0, p1, p2, p3⟩ := HS1.out.nums
          have z0 := HS1.out.thaw 3
          clear hb hr
          obtain ⟨f0, f1, f2, f3, f4, f5⟩ := HS1.out.res.thaw
          obtain ⟨c0, c1, c2, c3, c4, c5⟩ := HS1.out.res.facts
          go_wp2_with fail
          try simp only [Exit.inBlock, Exit.then]
          exact bodyPost_ret (w := put6 _ w.heap.size _ _ _ _ _ _) (res_rdec (HSX.out.res.put _ _ _ _ _ _) false _ rfl rfl) rfl ⟨below_put6 HSX.out.below (Nat.le_refl _) _ _ _ _ _ _, by rw [HD.out]⟩
        | some p =>
          obtain ⟨x, M2⟩ := p
          rintro e w1 ⟨rfl, hb⟩
          have HT2 : Hid (Tr L n1 n2 n3 x M2 4) := let ⟨a, b, c, d, e⟩ := HT.out; ⟨a, b, _, c, d, e, hr⟩
          have HS1 := hid (HS.out.go hb)
          have HSX := hid (HS1.out.set3 x)
          obtain ⟨p0, p1, p2, p3⟩ := HS1.out.nums
          have z0 := HS1.out.thaw 3
          clear hb hr
          go_wp2
          go_roundw
          case rel => exact ⟨4, n1, n2, n3, x, M2, by omega, rfl, rfl, HT2.out, HSX.out⟩
          case measure => simp [intOf]
      omega
    · obtain rfl : k = 4 := by omega
      have HM : Hid (dec L = (match txt M with | none => none | some (kk, M2) => match txt M2 with | none => none | some (xx, M3) => if M3 = [] then some ⟨n1, n2, n3, n4, kk, xx⟩ else none)) := by
        obtain ⟨L1, L2, L3, h1, h2, h3, h4⟩ := HT.out
        show _ = _
        unfold dec; rw [h1]; simp only; rw [h2]; simp only; rw [h3]; simp only; rw [h4]
        simp only
        cases txt M with
        | none => rfl
        | some p => obtain ⟨kk, M2⟩ := p; simp only; cases txt M2 <;> rfl
      have HNB : Hid (n1 < 256 ∧ n2 < 4294967296 ∧ n3 < 18446744073709551616 ∧ n4 < 18446744073709551616) := by
        obtain ⟨L1, L2, L3, h1, h2, h3, h4⟩ := HT.out
        exact ⟨by simpa using (rd_some h1).2, by simpa using (rd_some h2).2, by simpa using (rd_some h3).2, by simpa using (rd_some h4).2⟩
      clear HT
      go_wp2_with fail
      refine (AnsF.text_any (strOf M) _ HML.out).mono ?_
      rw [show (strOf M).data.toList = M from rfl]
      cases ht : txt M with
      | none =>
        rintro e w1 ⟨rfl, hb⟩
        have HD : Hid (dec L = none) := by show _ = _; rw [HM.out, ht]
        have HS1 := hid (HS.out.go hb)
        clear hb ht
        obtain ⟨f0, f1, f2, f3, f4, f5⟩ := HS1.out.res.thaw
        obtain ⟨c0, c1, c2, c3, c4, c5⟩ := HS1.out.res.facts
        go_wp2_with fail
        try simp only [Exit.inBlock, Exit.then]
        exact bodyPost_ret (w := put6 _ w.heap.size _ _ _ _ _ _) (res_rdec (HS1.out.res.put _ _ _ _ _ _) false _ rfl rfl) rfl ⟨below_put6 HS1.out.below (Nat.le_refl _) _ _ _ _ _ _, by rw [HD.out]⟩
      | some p =>
        obtain ⟨kk, M2⟩ := p
        rintro e w1 ⟨rfl, hb⟩
        have HM2 : Hid (dec L = (match txt M2 with | none => none | some (xx, M3) => if M3 = [] then some ⟨n1, n2, n3, n4, kk, xx⟩ else none)) := by show _ = _; rw [HM.out, ht]
        have HS1 := hid (HS.out.go hb)
        have HML2 : Hid ((strOf M2).size ≤ 1073741824) := by
          obtain ⟨h1, _⟩ := txt_some ht
          have := HML.out
          rw [size_strOf, h1, List.length_append] at this
          show _ ≤ _
          rw [size_strOf]
          omega
        clear hb ht
        go_wp2_with fail
        refine (AnsF.text_any (strOf M2) _ HML2.out).mono ?_
        rw [show (strOf M2).data.toList = M2 from rfl]
        cases ht : txt M2 with
        | none =>
          rintro e w2 ⟨rfl, hb⟩
          have HD : Hid (dec L = none) := by show _ = _; rw [HM2.out, ht]
          have HS2 := hid (HS1.out.go hb)
          clear hb ht
          obtain ⟨f0, f1, f2, f3, f4, f5⟩ := HS2.out.res.thaw
          obtain ⟨c0, c1, c2, c3, c4, c5⟩ := HS2.out.res.facts
          go_wp2_with fail
          try simp only [Exit.inBlock, Exit.then]
          exact bodyPost_ret (w := put6 _ w.heap.size _ _ _ _ _ _) (res_rdec (HS2.out.res.put _ _ _ _ _ _) false _ rfl rfl) rfl ⟨below_put6 HS2.out.below (Nat.le_refl _) _ _ _ _ _ _, by rw [HD.out]⟩
        | some p =>
          obtain ⟨xx, M3⟩ := p
          rintro e w2 ⟨rfl, hb⟩
          have HM3 : Hid (dec L = if M3 = [] then some ⟨n1, n2, n3, n4, kk, xx⟩ else none) := by show _ = _; rw [HM2.out, ht]
          have HS2 := hid (HS1.out.go hb)
          clear hb ht
          cases M3 with
          | nil =>
            have HD : Hid (dec L = some ⟨n1, n2, n3, n4, kk, xx⟩) := by show _ = _; rw [HM3.out, if_pos rfl]
            have z1 : (strOf []).toList = [] := by rw [strOf, ByteArray.toList_mk]
            obtain ⟨p0, p1, p2, p3⟩ := HS2.out.nums
            have q1 : wrap64 (n1 : Int) = (n1 : Int) := by unfold wrap64; have := HNB.out.1; omega
            have q2 : wrap64 (n2 : Int) = (n2 : Int) := by unfold wrap64; have := HNB.out.2.1; omega
            have q3 : wrap64 (n3 : Int) = AnsW.sg n3 := AnsR.wrap_i64 n3 HNB.out.2.2.1
            have q4 : wrap64 (n4 : Int) = AnsW.sg n4 := AnsR.wrap_i64 n4 HNB.out.2.2.2
            have c1i : (n1 : Int) ≤ 255 := by have := HNB.out.1; omega
            have c2i : (n2 : Int) ≤ 4294967295 := by have := HNB.out.2.1; omega
            have c3i : (n3 : Int) ≤ 18446744073709551615 := by have := HNB.out.2.2.1; omega
            have c4i : (n4 : Int) ≤ 18446744073709551615 := by have := HNB.out.2.2.2; omega
            obtain ⟨f0, f1, f2, f3, f4, f5⟩ := HS2.out.res.thaw
            obtain ⟨c0, c1, c2, c3, c4, c5⟩ := HS2.out.res.facts
            go_wp2_with fail
            try simp only [Exit.inBlock, Exit.then]
            exact bodyPost_ret (w := put6 _ w.heap.size _ _ _ _ _ _) (res_rdec (HS2.out.res.put _ _ _ _ _ _) true _ rfl rfl) rfl ⟨below_put6 HS2.out.below (Nat.le_refl _) _ _ _ _ _ _, by rw [HD.out]⟩
          | cons y ys =>
            have HD : Hid (dec L = none) := by show _ = _; rw [HM3.out, if_neg (by simp)]
            have z1 : (strOf (y :: ys)).toList = y :: ys := by rw [strOf, ByteArray.toList_mk]
            obtain ⟨f0, f1, f2, f3, f4, f5⟩ := HS2.out.res.thaw
            obtain ⟨c0, c1, c2, c3, c4, c5⟩ := HS2.out.res.facts
            go_wp2_with fail
            try simp only [Exit.inBlock, Exit.then]
            exact bodyPost_ret (w := put6 _ w.heap.size _ _ _ _ _ _) (res_rdec (HS2.out.res.put _ _ _ _ _ _) false _ rfl rfl) rfl ⟨below_put6 HS2.out.below (Nat.le_refl _) _ _ _ _ _ _, by rw [HD.out]⟩
end Go.Proofs.Ythbpjkgbnmllkaa.AnsH
