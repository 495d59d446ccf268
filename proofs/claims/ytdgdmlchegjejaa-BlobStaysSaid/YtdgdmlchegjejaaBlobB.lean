/- Blobs: what a pointer to one says; New, Bytes, Kind, Len. -/
import Derived.Test.YtdgdmlchegjejaaBlobA
namespace Go.Proofs.Ytdgdmlchegjejaa.BlobB
open Go.RowKit Go.Proofs.Ytdgdmlchegjejaa.Base Go.Proofs.Ytdgdmlchegjejaa.Base2 Go.Proofs.Ytdgdmlchegjejaa.Base3 Go.Proofs.Ytdgdmlchegjejaa.UtfL Go.Proofs.Ytdgdmlchegjejaa.BlobA

/-- The block g is a blob of the bytes L (a slice of n of them) and of the kind K. -/
def BlobAt (w : World) (g n : Nat) (L K : List UInt8) : Prop :=
  ∃ A c, g < w.heap.size ∧ w.cell? ⟨g, 0, none⟩ = some (.slice A n c) ∧ w.cell? ⟨g, 1, none⟩ = some (.string (strOf K)) ∧ n ≤ c ∧ c ≤ maxLen ∧ Rds w A n (bcells L)
theorem BlobAt.below {w w' : World} {g n : Nat} {L K : List UInt8} (h : BlobAt w g n L K) (hb : Below w.heap.size w w') : BlobAt w' g n L K := by
  obtain ⟨A, c, h1, h2, h3, h4, h5, h6⟩ := h
  exact ⟨A, c, Nat.lt_of_lt_of_le h1 hb.size, (hb.cell (p := ⟨g, 0, none⟩) h1).trans h2, (hb.cell (p := ⟨g, 1, none⟩) h1).trans h3, h4, h5, h6.below hb⟩
theorem new_any (A : Option Addr) (n cap : Nat) (L : List UInt8) (s : ByteArray) (w : World) (h : Rds w A n (bcells L)) (hm : n ≤ 1073741824) (hs : s.size ≤ maxLen) :
    Calls Try.prog 14 #[.slice A n cap, .string s] w fun e w' => ∃ g, e = .returned (.pointer (some ⟨g, 0, none⟩)) ∧ w.heap.size ≤ g ∧ BlobAt w' g n L (kd s.data.toList) ∧ Below w.heap.size w w' := by
  have HH := hid h
  clear h
  go_enter Try.func14, Try.ntmps14
  go_wp2_with fail
  refine (clone_any A n cap L _ HH.out hm).mono ?_
  rintro e w1 ⟨v, rfl, hown, hb1⟩
  obtain ⟨A1, c1, rfl, hc1, hm1, hr1⟩ := owns_form hown
  have HR1 := hid hr1
  clear hown hr1
  go_wp2_with fail
  refine (kind_any s _ hs).mono ?_
  rintro e w2 ⟨rfl, hb2⟩
  have HR2 := hid (HR1.out.below hb2)
  go_wp2
  go_ret
  refine ⟨w2.heap.size, rfl, Nat.le_trans hb1.size hb2.size, ⟨A1, c1, by simp, ?_, ?_, hc1, hm1, HR2.out.below ((Below.refl _ _).alloc (Nat.le_refl _) _)⟩, (bel hb1 hb2).alloc (Nat.le_trans hb1.size hb2.size) _⟩
  · rw [World.cell?_alloc_mark]; rfl
  · rw [World.cell?_alloc_mark]; rfl
theorem bytes_any (g n : Nat) (L K : List UInt8) (w : World) (h : BlobAt w g n L K) (hm : n ≤ 1073741824) :
    Calls Try.prog 17 #[.pointer (some ⟨g, 0, none⟩)] w fun e w' => ∃ v, e = .returned v ∧ w'.ownsRow w.heap.size 5 1 v n (bcells L) ∧ Below w.heap.size w w' := by
  obtain ⟨A, c, h1, h2, h3, h4, h5, h6⟩ := h
  have HH := hid h6
  clear h6
  go_enter Try.func17, Try.ntmps17
  go_wp2_with fail
  refine (clone_any A n c L _ HH.out hm).mono ?_
  rintro e w1 ⟨v, rfl, hown, hb1⟩
  go_wp2
  go_ret
  exact ⟨_, rfl, hown, hb1⟩
theorem kindm_any (g n : Nat) (L K : List UInt8) (w : World) (h : BlobAt w g n L K) :
    Calls Try.prog 18 #[.pointer (some ⟨g, 0, none⟩)] w fun e w' => e = .returned (.string (strOf K)) ∧ Below w.heap.size w w' := by
  obtain ⟨A, c, h1, h2, h3, h4, h5, h6⟩ := h
  clear h6
  go_enter Try.func18, Try.ntmps18
  go_wp2
  go_ret
  exact ⟨rfl, Below.refl _ _⟩
theorem len_any (g n : Nat) (L K : List UInt8) (w : World) (h : BlobAt w g n L K) :
    Calls Try.prog 20 #[.pointer (some ⟨g, 0, none⟩)] w fun e w' => e = .returned (.int .i64 (n : Int)) ∧ Below w.heap.size w w' := by
  obtain ⟨A, c, h1, h2, h3, h4, h5, h6⟩ := h
  clear h6
  unfold maxLen at h5
  have hn : n ≤ 9223372036854775807 := Nat.le_trans h4 h5
  go_enter Try.func20, Try.ntmps20
  go_wp2
  go_ret
  exact ⟨rfl, Below.refl _ _⟩
theorem bytes_nil (w : World) : Calls Try.prog 17 #[.pointer none] w fun e w' => e = .returned (.slice none 0 0) ∧ Below w.heap.size w w' := by
  go_enter Try.func17, Try.ntmps17
  go_wp2
  go_ret
  exact ⟨rfl, Below.refl _ _⟩
theorem kindm_nil (w : World) : Calls Try.prog 18 #[.pointer none] w fun e w' => e = .returned (.string ⟨#[]⟩) ∧ Below w.heap.size w w' := by
  go_enter Try.func18, Try.ntmps18
  go_wp2
  go_ret
  exact ⟨rfl, Below.refl _ _⟩
theorem len_nil (w : World) : Calls Try.prog 20 #[.pointer none] w fun e w' => e = .returned (.int .i64 0) ∧ Below w.heap.size w w' := by
  go_enter Try.func20, Try.ntmps20
  go_wp2
  go_ret
  exact ⟨rfl, Below.refl _ _⟩
theorem slice_nil (p q : Value) (s : ByteArray) (w : World) : Calls Try.prog 15 #[.pointer none, p, q, .string s] w fun e w' => e = .returned (.pointer none) ∧ Below w.heap.size w w' := by
  go_enter Try.func15, Try.ntmps15
  go_wp2
  go_ret
  exact ⟨rfl, Below.refl _ _⟩
/-- Where a place lies. -/
def plc (z : Int) (n : Nat) : Nat := if z < 0 then ((n : Int) + z).toNat else min z.toNat n
theorem place_nil (g n : Nat) (L K : List UInt8) (l : Int) (w : World) (_h : BlobAt w g n L K) :
    Calls Try.prog 38 #[.pointer (some ⟨g, 0, none⟩), .pointer none, .int .i64 l] w fun e w' => e = .returned (.int .i64 l) ∧ Below w.heap.size w w' := by
  go_enter Try.func38, Try.ntmps38
  go_wp2
  go_ret
  exact ⟨rfl, Below.refl _ _⟩
end Go.Proofs.Ytdgdmlchegjejaa.BlobB
