/- utf.Encode at any characters (up to a number of them that the law's own bound keeps): their bytes, one behind the other. -/
import Derived.Test.YtnkdejeapgichaaBase
import Derived.Test.YtnkdejeapgichaaShelf
import Derived.Lib.RuneBytes
namespace Go.Proofs.Ytnkdejeapgichaa.UtfE
open Go.RowKit Go.Proofs.Ytnkdejeapgichaa.Base

def enc (l : List Int) : List UInt8 := l.flatMap Lib.encodeRune
theorem cells_rune (r : Int) : Lib.runeCells r = bcells (Lib.encodeRune r) := (Lib.byteCells_encodeRune r).symm
theorem enc_snoc (l : List Int) (r : Int) : enc (l ++ [r]) = enc l ++ Lib.encodeRune r := by simp [enc]
theorem rune_len (r : Int) : 1 ≤ (Lib.encodeRune r).length ∧ (Lib.encodeRune r).length ≤ 4 := by
  have := Lib.runeCells_le r
  rw [Lib.runeCells_length] at this
  exact this
theorem enc_len (l : List Int) : (enc l).length ≤ 4 * l.length ∧ l.length ≤ (enc l).length := by
  induction l with
  | nil => simp [enc]
  | cons r l ih =>
    have h := rune_len r
    have e : enc (r :: l) = Lib.encodeRune r ++ enc l := by simp [enc]
    rw [e, List.length_append, List.length_cons]
    omega
def Rune (r : Int) : Prop := -2147483648 ≤ r ∧ r ≤ 2147483647
theorem encode_any (A : Option Addr) (n cap : Nat) (l : List Int) (w : World) (h : Rds w A n (icells .i32 l)) (hr : ∀ r ∈ l, Rune r) (hm : n ≤ 1073741824) :
    Calls Try.prog 16 #[.slice A n cap] w fun e w' => ∃ v, e = .returned v ∧ w'.ownsRow w.heap.size 5 1 v (enc l).length (bcells (enc l)) ∧ Below w.heap.size w w' := by
  have hl : l.length = n := by rw [← length_icells .i32]; exact h.1
  have HL := hid hl
  clear hl
  have HH := hid h
  clear h
  have HR := hid hr
  clear hr
  go_enter Try.func16, Try.ntmps16
  go_wp2
  go_loopw [3, 8] (fun v vk wr => ∃ (k : Nat), k ≤ n ∧ vk = .int .i64 k ∧ wr.ownsRow w.heap.size 5 1 v (enc (l.take k)).length (bcells (enc (l.take k))) ∧ Below w.heap.size w wr) (fun _ vk _ => n - (intOf vk).toNat)
  case atStart => exact ⟨0, Nat.zero_le _, rfl, World.ownsRow_nil _ _ _ _, Below.refl _ _⟩
  case round =>
    obtain ⟨k, hk, rfl, hown, hbel⟩ := hrel
    by_cases hlt : k < n
    · obtain ⟨b, off, rfl, hb, _⟩ := (HH.out).spot (by omega)
      obtain ⟨r, hx⟩ : ∃ r, r = l[k]'(by rw [HL.out]; exact hlt) := ⟨_, rfl⟩
      have hcell : wr.cell? ⟨b, off + k, none⟩ = some (.int .i32 r) := by
        rw [hx, ← HH.out.int k (by rw [HL.out]; exact hlt)]
        exact hbel.cell (p := ⟨b, off + k, none⟩) hb
      have hRr : Rune r := by rw [hx]; exact HR.out _ (List.getElem_mem _)
      obtain ⟨hr1, hr2⟩ := hRr
      have HS : Hid (l.take (k + 1) = l.take k ++ [r]) := by
        rw [hx]
        exact List.take_succ_eq_append_getElem (by rw [HL.out]; exact hlt)
      clear hx
      have hle := (enc_len (l.take k)).1
      have hle2 : (l.take k).length ≤ k := List.length_take_le _ _
      obtain ⟨m, hmm⟩ : ∃ m, m = (enc (l.take k)).length := ⟨_, rfl⟩
      rw [← hmm] at hle hown
      have HM := hid hmm
      clear hmm
      go_wp2_with fail
      refine (Try.utf8_AppendRune_plain w.heap.size _ _ _ r hr1 hr2 _ hown (by omega) hbel.size).mono ?_
      rintro e w1 ⟨v', rfl, hown1, o, hg⟩
      have hbel1 : Below w.heap.size w w1 := (hbel.alloc hbel.size o).grown hg (by have := hbel.size; simp; omega) (fun g hg => (hown.lt g hg).1)
      clear hown hbel
      go_wp2
      go_roundw
      case rel => exact ⟨k + 1, by omega, by go_num, by
          rw [HS.out, enc_snoc, List.length_append, bcells_append, ← cells_rune, ← Lib.runeCells_length, ← HM.out]
          exact hown1, hbel1⟩
      case measure => simp [intOf]; omega
    · obtain rfl : k = n := by omega
      have HE : Hid (l.take k = l) := by
        rw [← HL.out]; exact List.take_length
      go_wp2
      go_ret
      exact ⟨_, rfl, by rw [HE.out] at hown; exact hown, hbel⟩
end Go.Proofs.Ytnkdejeapgichaa.UtfE
