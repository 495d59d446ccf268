/- Texts that belong together: SlsP, PosQ, Sls, PosA, PosB, PosS, PosC, PosP. -/
import Derived.Test.YtmdofbccebkbiaaGreatDoorMA
import Derived.Test.YtmdofbccebkbiaaGreatDoorShelf
import Derived.Test.YtmdofbccebkbiaaGreatDoorMB
import Derived.Test.YtmdofbccebkbiaaGreatDoorMU
import Derived.Test.YtmdofbccebkbiaaGreatDoorME
import Derived.Test.YtmdofbccebkbiaaGreatDoorMP
import Derived.Laws.IdiomStrings
import Derived.Test.YtmdofbccebkbiaaGreatDoorMR
set_option linter.unusedSimpArgs false
set_option linter.unusedVariables false
namespace Go.Proofs.YtmdofbccebkbiaaGreatDoor.SlsP
open Go.RowKit Base
def spl (b : UInt8) : List UInt8 → List (List UInt8)
 | [] => [[]]
 | c :: L => if c = b then [] :: spl b L else match spl b L with
  | [] => [[c]]
  | x :: r => (c :: x) :: r
theorem spl_ne (b : UInt8) : ∀ L : List UInt8, spl b L ≠ []
 | [] => by simp [spl]
 | c :: L => by
  unfold spl
  split
  ·simp
  ·split <;> simp
theorem spl_at (b : UInt8) (L : List UInt8) : spl b (b :: L) = [] :: spl b L := by rw [spl, if_pos rfl]
theorem spl_not (b c : UInt8) (L : List UInt8) (h : c ≠ b) : spl b (c :: L) = match spl b L with
  | [] => [[c]]
  | x :: r => (c :: x) :: r := by rw [spl, if_neg h]
theorem spl_snoc_at (b : UInt8) : ∀ L : List UInt8, spl b (L ++ [b]) = spl b L ++ [[]]
 | [] => by simp [spl]
 | c :: L => by
  rw [List.cons_append, spl, spl, spl_snoc_at b L]
  split
  ·rfl
  ·have := spl_ne b L
   cases h : spl b L with
   | nil => exact absurd h this
   | cons x r => rfl
theorem spl_snoc_other (b d : UInt8) (hd : d ≠ b) : ∀ L : List UInt8, ∃ xs x, spl b L = xs ++ [x] ∧ spl b (L ++ [d]) = xs ++ [x ++ [d]]
 | [] => ⟨[], [], rfl, by simp [spl, hd]⟩
 | c :: L => by
  obtain ⟨xs, x, h1, h2⟩ := spl_snoc_other b d hd L
  rw [List.cons_append, spl, spl, h1, h2]
  split
  ·exact ⟨[] :: xs, x, rfl, rfl⟩
  ·cases xs with
   | nil => exact ⟨[], c :: x, rfl, rfl⟩
   | cons y ys => exact ⟨(c :: y) :: ys, x, rfl, rfl⟩
theorem length_spl (b : UInt8) : ∀ L : List UInt8, (spl b L).length ≤ L.length + 1
 | [] => by simp [spl]
 | c :: L => by
  have ih := length_spl b L
  unfold spl
  split
  ·simp; omega
  ·split
   ·simp
   ·rename_i h
    rw [h] at ih
    simp at ih ⊢
    omega
theorem spl_len (b : UInt8) : ∀ (L : List UInt8), ∀ x ∈ spl b L, x.length ≤ L.length
 | [] => by simp [spl]
 | c :: L => by
  have ih := spl_len b L
  intro x hx
  unfold spl at hx
  split at hx
  ·rcases List.mem_cons.1 hx with rfl | hx
   ·simp
   ·have := ih x hx; simp; omega
  ·split at hx
   ·rename_i h
    simp at hx
    subst hx
    simp
   ·rename_i y r h
    rcases List.mem_cons.1 hx with rfl | hx
    ·have := ih y (by rw [h]; simp); simp; omega
    ·have := ih x (by rw [h]; simp [hx]); simp; omega
theorem spl_out (b : UInt8) : ∀ (L : List UInt8), ∀ x ∈ spl b L, ∀ d ∈ x, d ∈ L ∧ d ≠ b
 | [] => by simp [spl]
 | c :: L => by
  have ih := spl_out b L
  intro x hx d hd
  unfold spl at hx
  split at hx
  ·rcases List.mem_cons.1 hx with rfl | hx
   ·simp at hd
   ·have := ih x hx d hd; exact ⟨List.mem_cons_of_mem _ this.1, this.2⟩
  ·rename_i hc
   split at hx
   ·simp at hx
    subst hx
    simp at hd
    subst hd
    exact ⟨List.mem_cons_self, hc⟩
   ·rename_i y r h
    rcases List.mem_cons.1 hx with rfl | hx
    ·rcases List.mem_cons.1 hd with rfl | hd
     ·exact ⟨List.mem_cons_self, hc⟩
     ·have := ih y (by rw [h]; simp) d hd; exact ⟨List.mem_cons_of_mem _ this.1, this.2⟩
    ·have := ih x (by rw [h]; simp [hx]) d hd; exact ⟨List.mem_cons_of_mem _ this.1, this.2⟩
def glue (b : UInt8) (l : List (List UInt8)) : List UInt8 := l.flatMap fun x => b :: x
theorem glue_spl (b : UInt8) : ∀ L : List UInt8, glue b (spl b L) = b :: L
 | [] => by simp [spl, glue]
 | c :: L => by
  have ih := glue_spl b L
  unfold spl
  split
  ·rename_i h
   subst h
   rw [glue, List.flatMap_cons]
   show _ ++ glue c (spl c L) = _
   rw [ih]
   rfl
  ·split
   ·rename_i h
    exact absurd h (spl_ne b L)
   ·rename_i y r h
    rw [h] at ih
    simp only [glue, List.flatMap_cons, List.cons_append, List.cons.injEq, true_and] at ih ⊢
    rw [ih]
end Go.Proofs.YtmdofbccebkbiaaGreatDoor.SlsP
namespace Go.Proofs.YtmdofbccebkbiaaGreatDoor.PosQ
open Go.RowKit Base SlsP UtfR
def okOne (x : List UInt8) (last : Bool) : Bool := decide (x ≠ [46]) && decide (x ≠ [46, 46]) && (decide (x ≠ []) || last)
def okRow : List (List UInt8) → Bool
 | [] => true
 | x :: r => okOne x r.isEmpty && okRow r
def fine (L : List UInt8) : Bool := val L && decide (L.head? = some 47) && !L.contains 0 && okRow (spl 47 (L.drop 1))
theorem fine_iff (L : List UInt8) : fine L = true ↔ val L = true ∧ L.head? = some 47 ∧ L.contains 0 = false ∧ okRow (spl 47 (L.drop 1)) = true := by
 unfold fine
 simp only [Bool.and_eq_true, decide_eq_true_eq, Bool.not_eq_true', and_assoc]
theorem okRow_drop : ∀ (l : List (List UInt8)) (k : Nat) (h : k < l.length), okRow (l.drop k) = (okOne l[k] (decide (k + 1 = l.length)) && okRow (l.drop (k + 1))) := by
 intro l k h
 rw [List.drop_eq_getElem_cons h, okRow]
 congr 2
 rw [Bool.eq_iff_iff]
 simp only [List.isEmpty_iff, List.drop_eq_nil_iff, decide_eq_true_eq]
 omega
theorem okRow_mem : ∀ {l : List (List UInt8)}, okRow l = true → ∀ x ∈ l, x ≠ [46] ∧ x ≠ [46, 46]
 | [], _ => by simp
 | y :: r, h => by
  simp only [okRow, okOne, Bool.and_eq_true, Bool.or_eq_true, decide_eq_true_eq] at h
  intro x hx
  rcases List.mem_cons.1 hx with rfl | hx
  ·exact h.1.1
  ·exact okRow_mem h.2 x hx
end Go.Proofs.YtmdofbccebkbiaaGreatDoor.PosQ
namespace Go.Proofs.YtmdofbccebkbiaaGreatDoor.Sls
open Go.RowKit Base Base2 Base3 SlsP
open Go.Proofs.YtmdofbccebkbiaaGreatDoor.Spl (Max split_gen)
theorem take_snoc {α : Type} (l : List α) (k : Nat) (h : k < l.length) : l.take (k + 1) = l.take k ++ [l[k]] := List.take_succ_eq_append_getElem h
theorem ne_u8 {c d : UInt8} (h : c ≠ d) : ((c.toNat : Int) == (d.toNat : Int)) = false := by
 have : c.toNat ≠ d.toNat := fun e => h (UInt8.toNat_inj.1 e)
 simp; omega
theorem info_str : (Tryz.prog.info? 9).map (fun i => (i.zero, i.size, i.bytes)) = some (some (.string ByteArray.empty), 1, 16) := by kernel_rfl
theorem ext_mid (s : ByteArray) (a b : Nat) : s.extract a b = strOf ((s.data.toList.take b).drop a) := by
 apply ByteArray.ext
 apply Array.ext'
 rw [ByteArray.data_extract]
 simp only [strOf, Array.toList_extract, List.extract_eq_take_drop]
 rw [List.drop_take]
def OwnedL (w : World) (l : List (List UInt8)) (e : Ending) (w' : World) : Prop := ∃ v, e = .returned v ∧ w'.ownsRow w.heap.size 9 1 v l.length ((l.map strOf).map Value.string) ∧ Below w.heap.size w w'
theorem split47_any (s : ByteArray) (w : World) (hs : s.size ≤ 1073741824) (hM : Max w) : Calls Tryz.prog 67 #[.string s, .string ⟨#[47]⟩] w (Spl.Read w (spl 47 s.data.toList)) :=
 split_gen 47 (spl 47) rfl (spl_at 47) (spl_not 47) s w hs hM
theorem has1 (b : UInt8) (L : List UInt8) : decide (0 ≤ Lib.indexByte L b) = L.contains b := by
 have hge := Lib.indexByte_ge L b
 by_cases h : Lib.indexByte L b = -1
 ·have hn := Lib.indexByte_none h
  rw [decide_eq_false (by omega)]
  cases e : L.contains b with
  | false => rfl
  | true =>
   have hm : b ∈ L := by simpa using e
   obtain ⟨j, hj, he⟩ := List.getElem_of_mem hm
   exact absurd (List.getElem?_eq_some_iff.2 ⟨hj, he⟩) (hn j)
 ·obtain ⟨o, ho⟩ : ∃ o : Nat, Lib.indexByte L b = o := ⟨(Lib.indexByte L b).toNat, by omega⟩
  have hs := (Lib.indexByte_some ho).1
  rw [decide_eq_true (by omega)]
  obtain ⟨hj, he⟩ := List.getElem?_eq_some_iff.1 hs
  symm
  simpa using (show b ∈ L by rw [← he]; exact List.getElem_mem _)
theorem contains1_any (b : UInt8) (s : ByteArray) (w : World) : Calls Tryz.prog 60 #[.string s, .string ⟨#[b]⟩] w fun e w' => e = .returned (.bool (s.data.toList.contains b)) ∧ w = w' := by
 refine (Tryz.strings_Contains_one s b w).mono ?_
 rintro e w' ⟨rfl, rfl⟩
 exact ⟨ret_bool (has1 b _), rfl⟩
set_option maxRecDepth 100000 in
set_option maxHeartbeats 4000000 in
theorem refParts47_any (s : ByteArray) (w : World) (hs : s.size ≤ 900000) :
  Calls Tryz.prog 70 #[.string s, .int .u8 47] w (OwnedL w (spl 47 s.data.toList)) := by
 have hsl : s.data.toList.length = s.size := Array.length_toList
 obtain ⟨i0, hi, hz0, hz1, hz2⟩ := info_parts info_str
 have HSL := hid hsl
 clear hsl
 obtain ⟨R, hR⟩ : ∃ R, R = spl 47 s.data.toList := ⟨_, rfl⟩
 have hrl : R.length ≤ s.size + 1 := by have := length_spl 47 s.data.toList; rw [← hR, HSL.out] at this; exact this
 rw [← hR]
 have HR := hid hR
 clear hR
 go_enter Tryz.func70, Tryz.ntmps70
 go_wp2
 go_loopw [5, 6, 7, 11] (fun vo vf _ vk wr => ∃ (k f : Nat) (xs : List (List UInt8)), k ≤ s.size + 1 ∧ f ≤ k ∧ xs.length ≤ k ∧ vk = .int .i64 (k : Int) ∧ vf = .int .i64 (f : Int) ∧ Hid (wr.ownsRow w.heap.size 9 1 vo xs.length ((xs.map strOf).map Value.string)) ∧ Hid (Below w.heap.size w wr) ∧ Hid (k ≤ s.size → spl 47 (s.data.toList.take k) = xs ++ [(s.data.toList.take k).drop f]) ∧ Hid (k = s.size + 1 → R = xs)) (fun _ _ _ vk _ => s.size + 1 - (intOf vk).toNat)
 case atStart => exact ⟨0, 0, [], Nat.zero_le _, Nat.le_refl _, Nat.le_refl _, rfl, rfl, World.ownsRow_nil _ _ _ _, Below.refl _ _, fun _ => rfl, fun h => absurd h (by omega)⟩
 case round =>
  obtain ⟨k, f, xs, hk1, hfk, hxk, rfl, rfl, HO, HB, HW, HE⟩ := hrel
  obtain ⟨m, hm⟩ : ∃ m, m = xs.length := ⟨_, rfl⟩
  rw [← hm] at hxk
  have HM := hid hm
  clear hm
  by_cases hlt : k < s.size + 1
  ·have HW2 : Hid (spl 47 (s.data.toList.take k) = xs ++ [(s.data.toList.take k).drop f]) := HW.out (by omega)
   clear HW HE
   obtain ⟨X, hX⟩ : ∃ X, X = s.extract f k := ⟨_, rfl⟩
   have hxe : s.extract f k = X := hX.symm
   have HX : Hid (X = strOf ((s.data.toList.take k).drop f)) := by show _ = _; rw [hX, ext_mid]
   have hfi : (f : Int) ≤ (k : Int) := by omega
   clear hX
   by_cases hks : k < s.size
   ·obtain ⟨c, hc⟩ : ∃ c, s[k] = c := ⟨_, rfl⟩
    have hkl : k < s.data.toList.length := by rw [HSL.out]; exact hks
    have hcl : s.data.toList[k] = c := hc
    have HS : Hid (s.data.toList.take (k + 1) = s.data.toList.take k ++ [c]) := by rw [← hcl]; exact take_snoc _ k hkl
    have HTL : Hid ((s.data.toList.take k).length = k) := by show _ = _; rw [List.length_take, HSL.out]; omega
    have q1 : ((k : Int) == (s.size : Int)) = false := by simp; omega
    have hki : (k : Int) ≤ (s.size : Int) := by omega
    clear hkl hcl
    by_cases h47 : c = 47
    ·have q2 : ((c.toNat : Int) == 47) = true := by rw [h47]; rfl
     have HN : Hid (spl 47 (s.data.toList.take (k + 1)) = (xs ++ [(s.data.toList.take k).drop f]) ++ [(s.data.toList.take (k + 1)).drop (k + 1)]) := by
      show _ = _
      rw [HS.out, h47, spl_snoc_at 47, HW2.out]
      congr 2
      rw [List.drop_eq_nil_of_le]
      rw [List.length_append, HTL.out]
      exact Nat.le_refl _
     have HFE : Hid (k + 1 = s.size + 1 → R = xs ++ [(s.data.toList.take k).drop f]) := fun h => absurd h (by omega)
     have hown := HO.out
     have hbel := HB.out
     rw [← HM.out] at hown
     clear h47
     go_wp2_with (at_builtin; refine wpList_app rfl _ _ 23 rfl w.heap.size 9 i0 (.string ByteArray.empty) 16 Tryz.underlying23 hi hz0 hz1 hz2 rfl _ m _ rfl hown hbel hbel.size [.string X] 1 rfl rfl (by intro u hu; simp at hu; subst hu; rfl) (by unfold maxLen; omega) (by omega) ?_)
     intro v7 w7 hown7 hbel7
     have HX7 : Hid (w7.ownsRow w.heap.size 9 1 v7 (xs ++ [(s.data.toList.take k).drop f]).length (((xs ++ [(s.data.toList.take k).drop f]).map strOf).map Value.string)) := by
      show World.ownsRow _ _ _ _ _ _ _
      rw [List.length_append, List.map_append, List.map_append, ← HM.out]
      show World.ownsRow _ _ _ _ _ (m + 1) (_ ++ [Value.string (strOf ((s.data.toList.take k).drop f))])
      rw [← HX.out]
      simpa using hown7
     have HY := hid hbel7
     clear hown hbel hown7 hbel7
     go_wp2
     go_roundw
     case rel => exact ⟨k + 1, k + 1, xs ++ [(s.data.toList.take k).drop f], by omega, Nat.le_refl _, by rw [List.length_append, ← HM.out]; show m + 1 ≤ _; omega, by go_num, by go_num, HX7, HY, fun _ => HN.out, HFE⟩
     case measure => simp [intOf]; omega
    ·have q2 : ((c.toNat : Int) == 47) = false := ne_u8 (d := 47) h47
     have HN : Hid (spl 47 (s.data.toList.take (k + 1)) = xs ++ [(s.data.toList.take (k + 1)).drop f]) := by
      show _ = _
      obtain ⟨xs', x', e1, e2⟩ := spl_snoc_other 47 c h47 (s.data.toList.take k)
      have h3 := HW2.out.symm.trans e1
      obtain ⟨h4, h5⟩ := List.append_inj' h3 rfl
      have h5 : (s.data.toList.take k).drop f = x' := by simpa using h5
      rw [HS.out, e2, ← h4, ← h5, List.drop_append_of_le_length (by rw [HTL.out]; exact hfk)]
     have HFE : Hid (k + 1 = s.size + 1 → R = xs) := fun h => absurd h (by omega)
     clear h47
     go_wp2
     go_roundw
     case rel => exact ⟨k + 1, f, xs, by omega, by omega, by rw [← HM.out]; omega, by go_num, rfl, HO, HB, fun _ => HN.out, HFE⟩
     case measure => simp [intOf]; omega
   ·have hke : k = s.size := by omega
    have q1 : ((k : Int) == (s.size : Int)) = true := by simp; omega
    have hki : (k : Int) ≤ (s.size : Int) := by omega
    have HFE : Hid (k + 1 = s.size + 1 → R = xs ++ [(s.data.toList.take k).drop f]) := by
     intro _
     rw [← HW2.out, HR.out, List.take_of_length_le (by rw [HSL.out, hke]; exact Nat.le_refl _)]
    have HFW : Hid (k + 1 ≤ s.size → spl 47 (s.data.toList.take (k + 1)) = (xs ++ [(s.data.toList.take k).drop f]) ++ [(s.data.toList.take (k + 1)).drop (k + 1)]) := fun h => absurd h (by omega)
    have hown := HO.out
    have hbel := HB.out
    rw [← HM.out] at hown
    clear hke
    go_wp2_with (at_builtin; refine wpList_app rfl _ _ 23 rfl w.heap.size 9 i0 (.string ByteArray.empty) 16 Tryz.underlying23 hi hz0 hz1 hz2 rfl _ m _ rfl hown hbel hbel.size [.string X] 1 rfl rfl (by intro u hu; simp at hu; subst hu; rfl) (by unfold maxLen; omega) (by omega) ?_)
    intro v7 w7 hown7 hbel7
    have HX7 : Hid (w7.ownsRow w.heap.size 9 1 v7 (xs ++ [(s.data.toList.take k).drop f]).length (((xs ++ [(s.data.toList.take k).drop f]).map strOf).map Value.string)) := by
     show World.ownsRow _ _ _ _ _ _ _
     rw [List.length_append, List.map_append, List.map_append, ← HM.out]
     show World.ownsRow _ _ _ _ _ (m + 1) (_ ++ [Value.string (strOf ((s.data.toList.take k).drop f))])
     rw [← HX.out]
     simpa using hown7
    have HY := hid hbel7
    clear hown hbel hown7 hbel7
    go_wp2
    go_roundw
    case rel => exact ⟨k + 1, k + 1, xs ++ [(s.data.toList.take k).drop f], by omega, Nat.le_refl _, by rw [List.length_append, ← HM.out]; show m + 1 ≤ _; omega, by go_num, by go_num, HX7, HY, HFW, HFE⟩
    case measure => simp [intOf]; omega
  ·obtain rfl : k = s.size + 1 := by omega
   obtain ⟨vA, vc, rfl, _, _, _⟩ := owns_form HO.out
   have HXX : Hid (OwnedL w R (.returned (.slice vA xs.length vc)) wr) := by
    rw [HE.out rfl]
    exact ⟨_, rfl, HO.out, HB.out⟩
   go_wp2
   go_ret
   exact HXX.out
end Go.Proofs.YtmdofbccebkbiaaGreatDoor.Sls
namespace Go.Proofs.YtmdofbccebkbiaaGreatDoor.PosA
open Go.RowKit Base Base2 Base3 SlsP PosQ Sls
open Go.Proofs.YtmdofbccebkbiaaGreatDoor.Spl (Max)
open Go.Proofs.YtmdofbccebkbiaaGreatDoor.UtfR (val)
theorem tl (s : ByteArray) : s.toList = s.data.toList := Lib.toList_data s
theorem cell_at {w : World} {A : Option Addr} {n : Nat} {l : List (List UInt8)} (h : Rds w A n ((l.map strOf).map Value.string)) (k : Nat) (hk : k < n) (hl : l.length = n) : ∃ g off, A = some ⟨g, off, none⟩ ∧ g < w.heap.size ∧ w.cell? ⟨g, off + k, none⟩ = some (.string (strOf (l[k]'(by omega)))) := by
 obtain ⟨g, off, e, hg, hcell⟩ := h.spot (by omega)
 have hc := hcell k (by rw [List.length_map, List.length_map]; omega)
 simp only [List.getElem_map] at hc
 exact ⟨g, off, e, hg, hc⟩
set_option maxRecDepth 100000 in
set_option maxHeartbeats 8000000 in
theorem rows_any (A : Option Addr) (n cap : Nat) (l : List (List UInt8)) (w : World) (hR : Rds w A n ((l.map strOf).map Value.string)) (hm : n ≤ 1073741824) :
  Calls Tryz.prog 69 #[.slice A n cap] w fun e w' => e = .returned (.bool (okRow l && decide (0 < l.length))) ∧ w = w' := by
 have hl : l.length = n := by rw [← hR.1, List.length_map, List.length_map]
 obtain ⟨E, hE⟩ : ∃ E, E = okRow l := ⟨_, rfl⟩
 have HN := hid hl
 have HR := hid hR
 have HZ : Hid ((okRow l && decide (0 < l.length)) = (E && decide (0 < n))) := by show _ = _; rw [hE, hl]
 have HE0 : Hid (E = okRow (l.drop 0)) := hE
 clear hl hR hE
 go_enter Tryz.func69, Tryz.ntmps69
 go_wp2
 go_loopw [3, 6] (fun _ vk wr => ∃ k : Nat, k ≤ n ∧ vk = .int .i64 (k : Int) ∧ wr = w ∧ Hid (E = okRow (l.drop k))) (fun _ vk _ => n - (intOf vk).toNat)
 case atStart => exact ⟨0, Nat.zero_le _, rfl, rfl, HE0⟩
 case round =>
  clear HE0
  obtain ⟨k, hk, rfl, rfl, HE⟩ := hrel
  by_cases hlt : k < n
  ·obtain ⟨g, off, rfl, hg, hc⟩ := cell_at HR.out k hlt HN.out
   obtain ⟨x, hx⟩ : ∃ x, x = l[k]'(by rw [HN.out]; exact hlt) := ⟨_, rfl⟩
   rw [← hx] at hc
   have hok := okRow_drop l k (by rw [HN.out]; exact hlt)
   rw [show l[k]'(by rw [HN.out]; exact hlt) = x from hx.symm, HN.out] at hok
   by_cases h1 : x = [46]
   ·have f1 : ((strOf x).toList == [46]) = true := by rw [tl, h1]; rfl
    have HE2 : Hid (E = false) := by show _ = _; rw [HE.out, hok]; simp [okOne, h1]
    clear hok hx h1
    go_wp2
    go_ret
    exact ⟨by rw [HZ.out, HE2.out]; rfl, rfl⟩
   ·have f1 : ((strOf x).toList == [46]) = false := by rw [tl, beq_eq_false_iff_ne]; exact h1
    by_cases h2 : x = [46, 46]
    ·have f2 : ((strOf x).toList == [46, 46]) = true := by rw [tl, h2]; rfl
     have HE2 : Hid (E = false) := by show _ = _; rw [HE.out, hok]; simp [okOne, h2]
     clear hok hx h1 h2
     go_wp2
     go_ret
     exact ⟨by rw [HZ.out, HE2.out]; rfl, rfl⟩
    ·have f2 : ((strOf x).toList == [46, 46]) = false := by rw [tl, beq_eq_false_iff_ne]; exact h2
     by_cases h3 : x = []
     ·have f3 : (strOf x).toList = [] := by rw [tl]; exact h3
      by_cases hla : k + 1 = n
      ·have hli : ¬ (k : Int) < (n : Int) - 1 := by omega
       have HE2 : Hid (E = okRow (l.drop (k + 1))) := by show _ = _; rw [HE.out, hok]; simp [okOne, h1, h2, h3, hla]
       clear hok hx h1 h2 h3 hla
       go_wp2
       go_roundw
       case rel => exact ⟨k + 1, by omega, by go_num, by first | rfl | trivial, HE2⟩
       case measure => simp [intOf]; omega
      ·have hli : (k : Int) < (n : Int) - 1 := by omega
       have HE2 : Hid (E = false) := by show _ = _; rw [HE.out, hok]; simp [okOne, h1, h2, h3, hla]
       clear hok hx h1 h2 h3 hla
       go_wp2
       go_ret
       exact ⟨by rw [HZ.out, HE2.out]; rfl, rfl⟩
     ·have f3 : ((strOf x).toList == []) = false := by rw [tl, beq_eq_false_iff_ne]; exact h3
      have f3' : (strOf x).toList.isEmpty = false := by rw [tl]; simpa [strOf] using h3
      have HE2 : Hid (E = okRow (l.drop (k + 1))) := by show _ = _; rw [HE.out, hok]; simp [okOne, h1, h2, h3]
      clear hok hx h1 h2 h3
      go_wp2
      go_roundw
      case rel => exact ⟨k + 1, by omega, by go_num, by first | rfl | trivial, HE2⟩
      case measure => simp [intOf]; omega
  ·obtain rfl : k = n := by omega
   have HE2 : Hid (E = true) := by show _ = _; rw [HE.out, List.drop_eq_nil_of_le (by rw [HN.out]; exact Nat.le_refl _)]; rfl
   by_cases h0 : 0 < k
   ·have h0i : (0 : Int) < (k : Int) := by omega
    go_wp2
    go_ret
    exact ⟨by rw [HZ.out, HE2.out]; simp [h0], rfl⟩
   ·obtain rfl : k = 0 := by omega
    go_wp2
    go_ret
    exact ⟨by rw [HZ.out, HE2.out]; rfl, rfl⟩
end Go.Proofs.YtmdofbccebkbiaaGreatDoor.PosA
namespace Go.Proofs.YtmdofbccebkbiaaGreatDoor.PosB
open Go.RowKit Base Base2 Base3 SlsP PosQ Sls PosA
open Go.Proofs.YtmdofbccebkbiaaGreatDoor.Spl (Max)
open Go.Proofs.YtmdofbccebkbiaaGreatDoor.UtfR (val)
theorem pre47 : ∀ L : List UInt8, Lib.hasPrefix L [47] = decide (L.head? = some 47)
 | [] => rfl
 | c :: L => by
  by_cases h : c = 47
  ·subst h
   rw [decide_eq_true (show (47 :: L).head? = some 47 from rfl)]
   simp [Lib.hasPrefix, List.isPrefixOf]
  ·rw [decide_eq_false (by simpa using h)]
   simp only [Lib.hasPrefix, List.isPrefixOf, Bool.and_true, beq_eq_false_iff_ne, ne_eq]
   exact fun e => h e.symm
theorem ext1 (s : ByteArray) : (s.extract 1 s.size).data.toList = s.data.toList.drop 1 := by
 rw [Regs.ext_drop s 1 s.size rfl]
 rfl
theorem ext1_size (s : ByteArray) : (s.extract 1 s.size).size ≤ s.size := by rw [ByteArray.size_extract]; omega
set_option maxRecDepth 100000 in
set_option maxHeartbeats 8000000 in
theorem refFine_any (s : ByteArray) (w : World) (hs : s.size ≤ 900000) :
  Calls Tryz.prog 29 #[.string s] w fun e w' => e = .returned (.bool (fine s.data.toList)) ∧ Below w.heap.size w w' := by
 have hl : s.data.toList.length = s.size := Array.length_toList
 obtain ⟨b, hb⟩ : ∃ b, b = fine s.data.toList := ⟨_, rfl⟩
 rw [← hb]
 obtain ⟨v, hv⟩ : ∃ v, v = val s.data.toList := ⟨_, rfl⟩
 obtain ⟨z, hz⟩ : ∃ z, z = s.data.toList.contains 0 := ⟨_, rfl⟩
 obtain ⟨l, hll⟩ : ∃ l, l = spl 47 (s.data.toList.drop 1) := ⟨_, rfl⟩
 obtain ⟨E, hE⟩ : ∃ E, E = okRow l := ⟨_, rfl⟩
 have hV : b = (v && decide (s.data.toList.head? = some 47) && !z && E) := by rw [hb, hv, hz, hE, hll]; rfl
 have HHA : Hid (∀ w : World, Calls Tryz.prog 64 #[.string s, .int .u8 0] w fun e w' => e = .returned (.bool z) ∧ w = w') := fun w => by rw [hz]; exact TokA.has_any s 0 w (by omega)
 have Hcap : ∀ w : World, s.size ≤ grownCap w s.size 0 5 := fun w => grownCap_ge w s.size 0 5
 have HCAP := hid Hcap
 have HVA : Hid (∀ (A : Option Addr) (n cap : Nat) (w : World), Rds w A n (bcells s.data.toList) → n ≤ 1073741824 → n ≤ cap → Calls Tryz.prog 68 #[.slice A n cap] w fun e w' => e = .returned (.bool v) ∧ Below w.heap.size w w') := fun A n cap w h1 h2 h3 => by rw [hv]; exact RefV.valid_any A n cap _ w h1 h2 h3
 have HPA : Hid (∀ w : World, Calls Tryz.prog 70 #[.string (s.extract 1 s.size), .int .u8 47] w (OwnedL w l)) := fun w => by rw [hll, ← ext1]; exact refParts47_any _ w (by have := ext1_size s; omega)
 have hcv := fun (w : World) s => run_bytes_of_string (P := Tryz.prog) w 9 61 5 s Tryz.underlying9 Tryz.underlying61 Tryz.underlying5
 have hlen : l ≠ [] := by rw [hll]; exact spl_ne 47 _
 have hlen2 : l.length ≤ 900001 := by rw [hll]; have := length_spl 47 (s.data.toList.drop 1); rw [List.length_drop, hl] at this; omega
 have HL0 := hid hlen
 have HL2 := hid hlen2
 have HEE := hid hE
 have HVL := hid hV
 have HS9 := hid hs
 clear Hcap hb hz hll hE hv hlen hlen2 hs
 by_cases e0 : s.data.toList = []
 ·have q0 : s.toList = [] := by rw [tl]; exact e0
  have HF : Hid (b = false) := by show _ = _; rw [hV, e0]; simp
  clear e0 hl hV
  go_enter Tryz.func29, Tryz.ntmps29
  go_wp2
  go_ret
  exact ⟨by rw [HF.out]; first | done | rfl, Below.refl _ _⟩
 ·have q0 : (s.toList == []) = false := by rw [tl, beq_eq_false_iff_ne]; exact e0
  have q0' : s.toList.isEmpty = false := by rw [tl]; simpa using e0
  have h0 : 0 < s.size := by rw [← hl]; exact List.length_pos_iff.2 e0
  obtain ⟨c, hc⟩ : ∃ c, s[0] = c := ⟨_, rfl⟩
  have hhd : s.data.toList.head? = some c := by
   rw [List.head?_eq_getElem?, List.getElem?_eq_getElem (by rw [hl]; exact h0)]
   exact congrArg some hc
  have h0i : (1 : Int) ≤ (s.size : Int) := by omega
  by_cases h47 : c = 47
  ·have q1 : ((c.toNat : Int) != 47) = false := by rw [h47]; rfl
   have hV2 : b = (v && !z && E) := by rw [hV, hhd, h47]; simp
   have HV2 := hid hV2
   clear e0 hl hV hhd h47 hV2
   cases z with
   | true =>
    have HF : Hid (b = false) := by show _ = _; rw [HV2.out]; simp
    go_enter Tryz.func29, Tryz.ntmps29
    go_wp2_with fail
    refine (HHA.out _).mono ?_
    rintro e w2 ⟨rfl, rfl⟩
    go_wp2
    go_ret
    exact ⟨by rw [HF.out]; first | done | rfl, Below.refl _ _⟩
   | false =>
    cases v with
    | false =>
     have HF : Hid (b = false) := by show _ = _; rw [HV2.out]; simp
     go_enter Tryz.func29, Tryz.ntmps29
     go_wp2_with fail
     refine (HHA.out _).mono ?_
     rintro e w2 ⟨rfl, hw2⟩
     subst hw2
     go_wp2_with fail
     refine (HVA.out _ s.size _ _ (rds_made s _ _ 5) (by have := HS9.out; omega) (HCAP.out _)).mono ?_
     rintro e w3 ⟨rfl, hb3⟩
     have HB := hid (((Below.refl w.heap.size w).alloc (Nat.le_refl _) _).drew.trans (hb3.mono (by simp)))
     clear hb3 hcv
     go_wp2
     go_ret
     exact ⟨by rw [HF.out]; first | done | rfl, HB.out⟩
    | true =>
     have HF : Hid (b = E) := by show _ = _; rw [HV2.out]; simp
     go_enter Tryz.func29, Tryz.ntmps29
     go_wp2_with fail
     refine (HHA.out _).mono ?_
     rintro e w2 ⟨rfl, hw2⟩
     subst hw2
     go_wp2_with fail
     refine (HVA.out _ s.size _ _ (rds_made s _ _ 5) (by have := HS9.out; omega) (HCAP.out _)).mono ?_
     rintro e w3 ⟨rfl, hb3⟩
     have HB := hid (((Below.refl w.heap.size w).alloc (Nat.le_refl _) _).drew.trans (hb3.mono (by simp)))
     clear hb3 hcv
     go_wp2_with fail
     refine (HPA.out _).mono ?_
     rintro e w4 ⟨v4, rfl, hown, hb4⟩
     obtain ⟨A4, c4, rfl, hc4, hm4, hr4⟩ := owns_form hown
     have HB4 := hid (bel HB.out hb4)
     have HR4 := hid hr4
     clear hown hb4 hr4
     go_wp2_with fail
     refine (rows_any A4 l.length c4 l _ HR4.out (by have := HL2.out; omega)).mono ?_
     rintro e w5 ⟨rfl, rfl⟩
     rw [← HEE.out, show decide (0 < l.length) = true from decide_eq_true (List.length_pos_iff.2 HL0.out), Bool.and_true]
     go_wp2
     go_ret
     exact ⟨by rw [HF.out]; first | done | rfl, HB4.out⟩
  ·have q1 : ((c.toNat : Int) != 47) = true := by have h := ne_u8 (d := 47) h47; unfold bne; rw [show ((c.toNat : Int) == 47) = false from h]; rfl
   have HF : Hid (b = false) := by show _ = _; rw [hV, hhd]; simp [h47]
   clear e0 hl hV hhd h47
   go_enter Tryz.func29, Tryz.ntmps29
   go_wp2
   go_ret
   exact ⟨by rw [HF.out]; first | done | rfl, Below.refl _ _⟩
set_option maxRecDepth 100000 in
set_option maxHeartbeats 8000000 in
theorem fine_any (s : ByteArray) (w : World) (hs : s.size ≤ 900000) (hM : Max w) :
  Calls Tryz.prog 28 #[.string s] w fun e w' => e = .returned (.bool (fine s.data.toList)) ∧ Below w.heap.size w w' := by
 have hl : s.data.toList.length = s.size := Array.length_toList
 obtain ⟨b, hb⟩ : ∃ b, b = fine s.data.toList := ⟨_, rfl⟩
 rw [← hb]
 obtain ⟨v, hv⟩ : ∃ v, v = val s.data.toList := ⟨_, rfl⟩
 obtain ⟨z, hz⟩ : ∃ z, z = s.data.toList.contains 0 := ⟨_, rfl⟩
 obtain ⟨l, hll⟩ : ∃ l, l = spl 47 (s.data.toList.drop 1) := ⟨_, rfl⟩
 obtain ⟨E, hE⟩ : ∃ E, E = okRow l := ⟨_, rfl⟩
 have hV : b = (v && decide (s.data.toList.head? = some 47) && !z && E) := by rw [hb, hv, hz, hE, hll]; rfl
 have HVA : Hid (∀ (A : Option Addr) (n cap : Nat) (w : World), Rds w A n (bcells s.data.toList) → n ≤ 1073741824 → n ≤ cap → Calls Tryz.prog 65 #[.slice A n cap] w fun e w' => e = .returned (.bool v) ∧ Below w.heap.size w w') := fun A n cap w h1 h2 h3 => by rw [hv]; exact UtfR.valid_any A n cap _ w h1 h2 h3
 obtain ⟨p, hp⟩ : ∃ p, p = decide (s.data.toList.head? = some 47) := ⟨_, rfl⟩
 have HPX : Hid (∀ w : World, Calls Tryz.prog 66 #[.string s, .string ⟨#[47]⟩] w fun e w' => e = .returned (.bool p) ∧ w' = w) := fun w => by rw [hp, ← pre47]; exact Tryz.strings_HasPrefix s ⟨#[47]⟩ w
 have HCT : Hid (∀ w : World, Calls Tryz.prog 60 #[.string s, .string ⟨#[0]⟩] w fun e w' => e = .returned (.bool z) ∧ w = w') := fun w => by rw [hz]; exact contains1_any 0 s w
 have HSP : Hid (∀ w : World, Max w → Calls Tryz.prog 67 #[.string (s.extract 1 s.size), .string ⟨#[47]⟩] w (Spl.Read w l)) := fun w h => by rw [hll, ← ext1]; exact split47_any _ w (by have := ext1_size s; omega) h
 have HCAP : Hid (∀ w : World, s.size ≤ grownCap w s.size 0 5) := fun w => grownCap_ge w s.size 0 5
 have hcv := fun (w : World) s => run_bytes_of_string (P := Tryz.prog) w 9 61 5 s Tryz.underlying9 Tryz.underlying61 Tryz.underlying5
 have hpos : p = true → 1 ≤ s.size := by
  intro h
  rw [hp, decide_eq_true_iff] at h
  rw [← hl]
  cases e : s.data.toList with
  | nil => rw [e] at h; cases h
  | cons a t => simp
 rw [← hp] at hV
 have HPO := hid hpos
 have HEE := hid hE
 have HVL := hid hV
 have HS9 := hid hs
 have HM := hid hM
 have hlen2 : l.length ≤ 900001 := by rw [hll]; have := length_spl 47 (s.data.toList.drop 1); rw [List.length_drop, hl] at this; omega
 clear hb hz hll hE hv hs hl hV hp hpos hM
 go_enter Tryz.func28, Tryz.ntmps28
 go_wp2_with fail
 refine (HVA.out _ s.size _ _ (rds_made s _ _ 5) (by have := HS9.out; omega) (HCAP.out _)).mono ?_
 rintro e w3 ⟨rfl, hb3⟩
 have HB := hid (((Below.refl w.heap.size w).alloc (Nat.le_refl _) _).drew.trans (hb3.mono (by simp)))
 clear hb3 hcv
 cases v with
 | false =>
  have HF : Hid (b = false) := by show _ = _; rw [HVL.out]; simp
  go_wp2
  go_ret
  exact ⟨by rw [HF.out]; first | done | rfl, HB.out⟩
 | true =>
  go_wp2_with fail
  refine (HPX.out _).mono ?_
  rintro e w4 ⟨rfl, hw4⟩
  subst hw4
  cases p with
  | false =>
   have HF : Hid (b = false) := by show _ = _; rw [HVL.out]; simp
   go_wp2
   go_ret
   exact ⟨by rw [HF.out]; first | done | rfl, HB.out⟩
  | true =>
   have h0i : (1 : Int) ≤ (s.size : Int) := by have := HPO.out rfl; omega
   go_wp2_with fail
   refine (HCT.out _).mono ?_
   rintro e w5 ⟨rfl, hw5⟩
   subst hw5
   cases z with
   | true =>
    have HF : Hid (b = false) := by show _ = _; rw [HVL.out]; simp
    go_wp2
    go_ret
    exact ⟨by rw [HF.out]; first | done | rfl, HB.out⟩
   | false =>
    have HF : Hid (b = E) := by show _ = _; rw [HVL.out]; simp
    go_wp2_with fail
    refine (HSP.out _ (HM.out.below HB.out)).mono ?_
    rintro e w6 ⟨A, n, cp, rfl, hn, hnc, hcm, hR, hb6⟩
    have HN : Hid (l.length = n) := hn.symm
    have HR := hid hR
    have HB6 := hid (bel HB.out hb6)
    have hm : n ≤ 900001 := by omega
    have HE0 : Hid (E = okRow (l.drop 0)) := HEE.out
    clear hn hR hb6 hcm hlen2
    go_wp2
    go_loopw [4, 5, 24] (fun _ _ vk wr => ∃ k : Nat, k ≤ n ∧ vk = .int .i64 (k : Int) ∧ wr = w6 ∧ Hid (E = okRow (l.drop k))) (fun _ _ vk _ => n - (intOf vk).toNat)
    case atStart => exact ⟨0, Nat.zero_le _, rfl, rfl, HE0⟩
    case round =>
     clear HE0
     obtain ⟨k, hk, rfl, rfl, HE⟩ := hrel
     by_cases hlt : k < n
     ·obtain ⟨g, off, rfl, hg, hc⟩ := cell_at HR.out k hlt HN.out
      obtain ⟨x, hx⟩ : ∃ x, x = l[k]'(by rw [HN.out]; exact hlt) := ⟨_, rfl⟩
      rw [← hx] at hc
      have hok := okRow_drop l k (by rw [HN.out]; exact hlt)
      rw [show l[k]'(by rw [HN.out]; exact hlt) = x from hx.symm, HN.out] at hok
      by_cases h1 : x = [46]
      ·have f1 : ((strOf x).toList == [46]) = true := by rw [tl, h1]; rfl
       have HE2 : Hid (E = false) := by show _ = _; rw [HE.out, hok]; simp [okOne, h1]
       clear hok hx h1
       go_wp2
       go_ret
       exact ⟨by rw [HF.out, HE2.out]; first | done | rfl, HB6.out⟩
      ·have f1 : ((strOf x).toList == [46]) = false := by rw [tl, beq_eq_false_iff_ne]; exact h1
       by_cases h2 : x = [46, 46]
       ·have f2 : ((strOf x).toList == [46, 46]) = true := by rw [tl, h2]; rfl
        have HE2 : Hid (E = false) := by show _ = _; rw [HE.out, hok]; simp [okOne, h2]
        clear hok hx h1 h2
        go_wp2
        go_ret
        exact ⟨by rw [HF.out, HE2.out]; first | done | rfl, HB6.out⟩
       ·have f2 : ((strOf x).toList == [46, 46]) = false := by rw [tl, beq_eq_false_iff_ne]; exact h2
        by_cases h3 : x = []
        ·have f3 : (strOf x).toList = [] := by rw [tl]; exact h3
         by_cases hla : k + 1 = n
         ·have hli : ¬ (k : Int) < (n : Int) - 1 := by omega
          have HE2 : Hid (E = okRow (l.drop (k + 1))) := by show _ = _; rw [HE.out, hok]; simp [okOne, h1, h2, h3, hla]
          clear hok hx h1 h2 h3 hla
          go_wp2
          go_roundw
          case rel => exact ⟨k + 1, by omega, by go_num, by first | rfl | trivial, HE2⟩
          case measure => simp [intOf]; omega
         ·have hli : (k : Int) < (n : Int) - 1 := by omega
          have HE2 : Hid (E = false) := by show _ = _; rw [HE.out, hok]; simp [okOne, h1, h2, h3, hla]
          clear hok hx h1 h2 h3 hla
          go_wp2
          go_ret
          exact ⟨by rw [HF.out, HE2.out]; first | done | rfl, HB6.out⟩
        ·have f3 : ((strOf x).toList == []) = false := by rw [tl, beq_eq_false_iff_ne]; exact h3
         have f3' : (strOf x).toList.isEmpty = false := by rw [tl]; simpa [strOf] using h3
         have HE2 : Hid (E = okRow (l.drop (k + 1))) := by show _ = _; rw [HE.out, hok]; simp [okOne, h1, h2, h3]
         clear hok hx h1 h2 h3
         go_wp2
         go_roundw
         case rel => exact ⟨k + 1, by omega, by go_num, by first | rfl | trivial, HE2⟩
         case measure => simp [intOf]; omega
     ·obtain rfl : k = n := by omega
      have HE2 : Hid (E = true) := by show _ = _; rw [HE.out, List.drop_eq_nil_of_le (by rw [HN.out]; exact Nat.le_refl _)]; rfl
      go_wp2
      go_ret
      exact ⟨by rw [HF.out, HE2.out]; first | done | rfl, HB6.out⟩
end Go.Proofs.YtmdofbccebkbiaaGreatDoor.PosB
namespace Go.Proofs.YtmdofbccebkbiaaGreatDoor.PosS
open Go.RowKit Base UtfA UtfL EscI
theorem byteAll {p : UInt8 → Prop} [∀ c, Decidable (p c)] (h : ∀ n : Fin 256, p (UInt8.ofNat n.val)) (c : UInt8) : p c := by
 have := h ⟨c.toNat, c.toNat_lt⟩
 simpa using this
theorem dig_hex (n : Nat) (h : n < 16) : hex (EscE.dig n).toNat = n := by
 have H : ∀ k : Fin 16, hex ((EscE.dig k.val).toNat : Int) = (k.val : Int) := by decide
 exact H ⟨n, h⟩
theorem esc_one (c : UInt8) (rest : List UInt8) : EscD.esc (37 :: EscE.dig (c.toNat / 16) :: EscE.dig (c.toNat % 16) :: rest) = some c := by
 have hc := c.toNat_lt
 have h1 := dig_hex (c.toNat / 16) (by omega)
 have h2 := dig_hex (c.toNat % 16) (by omega)
 rw [EscD.esc, if_pos ⟨rfl, by rw [h1]; omega, by rw [h2]; omega⟩, h1, h2]
 congr 1
 apply UInt8.toNat_inj.1
 simp
 omega
theorem esc_not (x : UInt8) (t : List UInt8) (h : x ≠ 37) : EscD.esc (x :: t) = none := by
 match t with
 | [] => rfl
 | [_] => rfl
 | _ :: _ :: _ => rw [EscD.esc, if_neg (fun e => h e.1)]
def odd (c : UInt8) : Bool := inS 4 c.toNat || (decide (c = 37) || (decide (c = 92) || decide (c = 124)))
def one (c : UInt8) : List UInt8 := if odd c = true then [37, EscE.dig (c.toNat / 16), EscE.dig (c.toNat % 16)] else [c]
def seg (L : List UInt8) : List UInt8 := L.flatMap one
theorem seg_cons (c : UInt8) (L : List UInt8) : seg (c :: L) = one c ++ seg L := by simp [seg]
theorem seg_app (a b : List UInt8) : seg (a ++ b) = seg a ++ seg b := by simp [seg]
theorem seg_len (L : List UInt8) : (seg L).length ≤ 3 * L.length := by
 induction L with
 | nil => simp [seg]
 | cons c L ih =>
  have h : (one c).length ≤ 3 := by unfold one; split <;> simp
  rw [seg_cons, List.length_append, List.length_cons]
  omega
theorem dec_seg (L : List UInt8) : EscD.dec (seg L) = L := by
 induction L with
 | nil => rfl
 | cons c L ih =>
  rw [seg_cons]
  unfold one
  split
  ·rw [List.cons_append, List.cons_append, List.cons_append, List.nil_append, EscD.dec_some _ _ _ (esc_one c _)]
   simp only [List.drop_succ_cons, List.drop_zero, ih]
  ·rename_i hn
   have hne : c ≠ 37 := by
    rintro rfl
    exact hn (by decide +kernel)
   rw [List.cons_append, List.nil_append, EscD.dec_none _ _ (esc_not c _ hne), ih]
theorem one_out (c : UInt8) (h : c ≠ 47) : ∀ d ∈ one c, inS 4 d.toNat = false ∧ d ≠ 47 ∧ d ≠ 92 ∧ d ≠ 124 :=
 byteAll (p := fun c => c ≠ 47 → ∀ d ∈ one c, inS 4 d.toNat = false ∧ d ≠ 47 ∧ d ≠ 92 ∧ d ≠ 124) (by decide +kernel) c h
theorem seg_out {L : List UInt8} (h : ∀ c ∈ L, c ≠ 47) : ∀ d ∈ seg L, inS 4 d.toNat = false ∧ d ≠ 47 ∧ d ≠ 92 ∧ d ≠ 124 := by
 intro d hd
 obtain ⟨c, hc, hm⟩ := List.mem_flatMap.1 hd
 exact one_out c (h c hc) d hm
end Go.Proofs.YtmdofbccebkbiaaGreatDoor.PosS
namespace Go.Proofs.YtmdofbccebkbiaaGreatDoor.PosC
open Go.RowKit Base Base2 Base3 BldA BldK SlsP Sls PosA
open Go.Proofs.YtmdofbccebkbiaaGreatDoor.PosS (byteAll seg seg_app seg_len)
def alike (c : UInt8) : Bool := [37, 92, 124].contains c
theorem seg1 (c : UInt8) : (alike c = true → EscE.enc 6 [c] = PosS.one c) ∧ (alike c = false → EscE.enc 4 [c] = PosS.one c) :=
 byteAll (p := fun c => (alike c = true → EscE.enc 6 [c] = PosS.one c) ∧ (alike c = false → EscE.enc 4 [c] = PosS.one c)) (by decide +kernel) c
theorem one_row (c : UInt8) (w : World) : Rds (w.alloc (.cells #[.int .u8 (c.toNat : Int)] 5)) (some ⟨w.heap.size, 0, none⟩) 1 (bcells [c]) := rds_const w [c] 5 (0, 0)
theorem seg_snoc (L : List UInt8) (c : UInt8) : seg (L ++ [c]) = seg L ++ PosS.one c := by rw [seg_app]; congr 1; simp [seg]
theorem one_len (c : UInt8) : (PosS.one c).length ≤ 3 := by unfold PosS.one; split <;> simp
set_option maxRecDepth 100000 in
set_option maxHeartbeats 8000000 in
theorem segment_any (s : ByteArray) (w : World) (hs : s.size ≤ 10000000) :
  Calls Tryz.prog 71 #[.string s] w fun e w' => e = .returned (.string (strOf (seg s.data.toList))) ∧ Below w.heap.size w w' := by
 have hl : s.data.toList.length = s.size := Array.length_toList
 have HL := hid hl
 clear hl
 have HB0 : Hid (IsB w.heap.size w.heap.size [] (w.alloc (.cells #[.pointer none, .slice none 0 0] 77))) := Lib.fresh_isBuilder 77 5 w
 go_enter Tryz.func71, Tryz.ntmps71
 go_wp2
 go_loopw [4, 5] (fun vk _ wr => ∃ k : Nat, k ≤ s.size ∧ vk = .int .i64 (k : Int) ∧ Hid (IsB w.heap.size w.heap.size (seg (s.data.toList.take k)) wr) ∧ Hid (Below w.heap.size w wr)) (fun vk _ _ => s.size - (intOf vk).toNat)
 case atStart => exact ⟨0, Nat.zero_le _, rfl, HB0.out, (Below.refl _ _).alloc (Nat.le_refl _) _⟩
 case round =>
  clear HB0
  obtain ⟨k, hk, rfl, HB, HBL⟩ := hrel
  have hsz : w.heap.size ≤ wr.heap.size := HBL.out.size
  by_cases hlt : k < s.size
  ·obtain ⟨c, hc⟩ : ∃ c, s[k] = c := ⟨_, rfl⟩
   have hkl : k < s.data.toList.length := by rw [HL.out]; exact hlt
   have hcl : s.data.toList[k] = c := hc
   have HS : Hid (seg (s.data.toList.take (k + 1)) = seg (s.data.toList.take k) ++ PosS.one c) := by
    show _ = _
    rw [take_snoc _ k hkl, hcl, seg_snoc]
   have hlen : (seg (s.data.toList.take k)).length ≤ 3 * k := by
    have := seg_len (s.data.toList.take k)
    rw [List.length_take, HL.out] at this
    omega
   obtain ⟨X, hX⟩ : ∃ X, X = seg (s.data.toList.take k) := ⟨_, rfl⟩
   rw [← hX] at HS HB hlen
   obtain ⟨a, ha⟩ : ∃ a, a = alike c := ⟨_, rfl⟩
   have HIX : Hid (∀ w : World, Calls Tryz.prog 136 #[.string ⟨#[37, 92, 124]⟩, .int .u8 (c.toNat : Int)] w fun e w' => ∃ z : Int, e = .returned (.int .i64 z) ∧ decide (0 ≤ z) = a ∧ w' = w) := fun w => by
    refine (Tryz.strings_IndexByte ⟨#[37, 92, 124]⟩ _ w).mono ?_
    rintro e w' ⟨rfl, rfl⟩
    refine ⟨_, rfl, ?_, rfl⟩
    rw [show ((c.toNat : Int).toNat.toUInt8) = c by simp, has1, ha]
    rfl
   have hone := one_len c
   cases a with
   | true =>
    have HEN : Hid (∀ (A : Option Addr) (n cap : Nat) (w : World), Rds w A n (bcells [c]) → n ≤ 1073741824 → Calls Tryz.prog 91 #[.int .i64 6, .slice A n cap] w fun e w' => e = .returned (.string (strOf (PosS.one c))) ∧ Below w.heap.size w w') := fun A n cap w h1 h2 => by rw [← (seg1 c).1 ha.symm]; exact EscE.encode_any 6 A n cap [c] w h1 h2
    clear ha hX hkl hcl
    go_wp2_with fail
    refine (HIX.out _).mono ?_
    rintro e w2 ⟨z, rfl, hz, hw2⟩
    subst hw2
    have hz1 : 0 ≤ z := by simpa using hz
    go_wp2_with fail
    refine (HEN.out _ 1 1 _ (one_row c _) (by omega)).mono ?_
    rintro e w3 ⟨rfl, hb3⟩
    have hbw := ((Below.refl w2.heap.size w2).alloc (Nat.le_refl _) (.cells #[.int .u8 (c.toNat : Int)] 5)).trans (hb3.mono (by simp))
    have HB3 := hid (isB_below HB.out hbw)
    have HBL3 : Hid (Below w.heap.size w w3) := HBL.out.trans (hbw.mono hsz)
    have hsz3 : w.heap.size ≤ w3.heap.size := HBL3.out.size
    clear hbw hb3 hz
    go_wp2_with fail
    refine (write_any _ _ _ _ _ HB3.out (by rw [size_strOf]; omega) hsz3).mono ?_
    rintro e w4 ⟨rfl, hb4, hb5⟩
    have HB4 : Hid (IsB w.heap.size w.heap.size (seg (s.data.toList.take (k + 1))) w4) := by show IsB _ _ _ _; rw [HS.out]; exact hb4
    have HBL4 := hid (HBL3.out.trans hb5)
    clear hb4 hb5 hlen hone
    go_wp2
    go_roundw
    case rel => exact ⟨k + 1, by omega, by go_num, HB4, HBL4⟩
    case measure => simp [intOf]; omega
   | false =>
    have HEN : Hid (∀ (A : Option Addr) (n cap : Nat) (w : World), Rds w A n (bcells [c]) → n ≤ 1073741824 → Calls Tryz.prog 91 #[.int .i64 4, .slice A n cap] w fun e w' => e = .returned (.string (strOf (PosS.one c))) ∧ Below w.heap.size w w') := fun A n cap w h1 h2 => by rw [← (seg1 c).2 ha.symm]; exact EscE.encode_any 4 A n cap [c] w h1 h2
    clear ha hX hkl hcl
    go_wp2_with fail
    refine (HIX.out _).mono ?_
    rintro e w2 ⟨z, rfl, hz, hw2⟩
    subst hw2
    have hz1 : ¬ 0 ≤ z := by simpa using hz
    go_wp2_with fail
    refine (HEN.out _ 1 1 _ (one_row c _) (by omega)).mono ?_
    rintro e w3 ⟨rfl, hb3⟩
    have hbw := ((Below.refl w2.heap.size w2).alloc (Nat.le_refl _) (.cells #[.int .u8 (c.toNat : Int)] 5)).trans (hb3.mono (by simp))
    have HB3 := hid (isB_below HB.out hbw)
    have HBL3 : Hid (Below w.heap.size w w3) := HBL.out.trans (hbw.mono hsz)
    have hsz3 : w.heap.size ≤ w3.heap.size := HBL3.out.size
    clear hbw hb3 hz
    go_wp2_with fail
    refine (write_any _ _ _ _ _ HB3.out (by rw [size_strOf]; omega) hsz3).mono ?_
    rintro e w4 ⟨rfl, hb4, hb5⟩
    have HB4 : Hid (IsB w.heap.size w.heap.size (seg (s.data.toList.take (k + 1))) w4) := by show IsB _ _ _ _; rw [HS.out]; exact hb4
    have HBL4 := hid (HBL3.out.trans hb5)
    clear hb4 hb5 hlen hone
    go_wp2
    go_roundw
    case rel => exact ⟨k + 1, by omega, by go_num, HB4, HBL4⟩
    case measure => simp [intOf]; omega
  ·obtain rfl : k = s.size := by omega
   have HT : Hid (seg (s.data.toList.take s.size) = seg s.data.toList) := by show _ = _; rw [List.take_of_length_le (by rw [HL.out]; exact Nat.le_refl _)]
   go_wp2_with fail
   refine (string_any _ _ _ _ HB.out hsz).mono ?_
   rintro e w3 ⟨rfl, hb3⟩
   have HB3 := hid (HBL.out.trans hb3)
   clear hb3
   go_wp2
   go_ret
   exact ⟨by rw [← HT.out]; first | done | rfl, HB3.out⟩
end Go.Proofs.YtmdofbccebkbiaaGreatDoor.PosC
namespace Go.Proofs.YtmdofbccebkbiaaGreatDoor.PosP
open Go.RowKit Base UtfA UtfL PthP PthF PthJ PthS HstQ PrsP PrsX PrsY EscI
open Go.Proofs.YtmdofbccebkbiaaGreatDoor.PosS (odd one seg seg_cons seg_app seg_len dec_seg one_out seg_out)
theorem inv46 (c : UInt8) : low c = 46 → c = 46 := byteAll (p := fun c => low c = 46 → c = 46) (by decide +kernel) c
theorem inv37 (c : UInt8) : low c = 37 → c = 37 := byteAll (p := fun c => low c = 37 → c = 37) (by decide +kernel) c
theorem inv50 (c : UInt8) : low c = 50 → c = 50 := byteAll (p := fun c => low c = 50 → c = 50) (by decide +kernel) c
theorem inv101 (c : UInt8) : low c = 101 → c = 101 ∨ c = 69 := byteAll (p := fun c => low c = 101 → c = 101 ∨ c = 69) (by decide +kernel) c
theorem list2 : ∀ {X : List UInt8}, X.length = 2 → ∃ a b, X = [a, b]
 | [a, b], _ => ⟨a, b, rfl⟩
theorem list3 : ∀ {X : List UInt8}, X.length = 3 → ∃ a b c, X = [a, b, c]
 | [a, b, c], _ => ⟨a, b, c, rfl⟩
theorem list4 : ∀ {X : List UInt8}, X.length = 4 → ∃ a b c d, X = [a, b, c, d]
 | [a, b, c, d], _ => ⟨a, b, c, d, rfl⟩
theorem list6 : ∀ {X : List UInt8}, X.length = 6 → ∃ a b c d e f, X = [a, b, c, d, e, f]
 | [a, b, c, d, e, f], _ => ⟨a, b, c, d, e, f, rfl⟩
theorem dots {X : List UInt8} (h : sgl X = true ∨ dbl X = true) : EscD.dec X = [46] ∨ EscD.dec X = [46, 46] := by
 have k1 : ∀ p, lower X = p → X.length = p.length := fun p e => by rw [← e]; simp [lower]
 unfold sgl dbl at h
 simp only [Bool.or_eq_true, decide_eq_true_eq] at h
 rcases h with (h | h) | (((h | h) | h) | h)
 ·left; rw [h]; decide +kernel
 ·obtain ⟨a, b, c, rfl⟩ := list3 (k1 _ h)
  simp only [lower, List.map_cons, List.map_nil, List.cons.injEq, and_true] at h
  obtain ⟨ha, hb, hc⟩ := h
  obtain rfl := inv37 _ ha
  obtain rfl := inv50 _ hb
  rcases inv101 _ hc with rfl | rfl <;> (left; decide +kernel)
 ·obtain ⟨a, b, rfl⟩ := list2 (k1 _ h)
  simp only [lower, List.map_cons, List.map_nil, List.cons.injEq, and_true] at h
  obtain ⟨ha, hb⟩ := h
  obtain rfl := inv46 _ ha
  obtain rfl := inv46 _ hb
  right; decide +kernel
 ·obtain ⟨a, b, c, d, rfl⟩ := list4 (k1 _ h)
  simp only [lower, List.map_cons, List.map_nil, List.cons.injEq, and_true] at h
  obtain ⟨ha, hb, hc, hd⟩ := h
  obtain rfl := inv46 _ ha
  obtain rfl := inv37 _ hb
  obtain rfl := inv50 _ hc
  rcases inv101 _ hd with rfl | rfl <;> (right; decide +kernel)
 ·obtain ⟨a, b, c, d, rfl⟩ := list4 (k1 _ h)
  simp only [lower, List.map_cons, List.map_nil, List.cons.injEq, and_true] at h
  obtain ⟨ha, hb, hc, hd⟩ := h
  obtain rfl := inv37 _ ha
  obtain rfl := inv50 _ hb
  obtain rfl := inv46 _ hd
  rcases inv101 _ hc with rfl | rfl <;> (right; decide +kernel)
 ·obtain ⟨a, b, c, d, e, f, rfl⟩ := list6 (k1 _ h)
  simp only [lower, List.map_cons, List.map_nil, List.cons.injEq, and_true] at h
  obtain ⟨ha, hb, hc, hd, he, hf⟩ := h
  obtain rfl := inv37 _ ha
  obtain rfl := inv50 _ hb
  obtain rfl := inv37 _ hd
  obtain rfl := inv50 _ he
  rcases inv101 _ hc with rfl | rfl <;> rcases inv101 _ hf with rfl | rfl <;> (right; decide +kernel)
def Comp (x : List UInt8) : Prop := (∀ c ∈ x, c ≠ 47) ∧ x ≠ [46] ∧ x ≠ [46, 46]
theorem seg_dots {x : List UInt8} (h : Comp x) : sgl (seg x) = false ∧ dbl (seg x) = false := by
 have hn : ¬ (sgl (seg x) = true ∨ dbl (seg x) = true) := fun e => by
  have := dots e
  rw [dec_seg] at this
  rcases this with e | e
  ·exact h.2.1 e
  ·exact h.2.2 e
 exact ⟨by cases e : sgl (seg x) with | false => rfl | true => exact absurd (.inl e) hn, by cases e : dbl (seg x) with | false => rfl | true => exact absurd (.inr e) hn⟩
theorem seg_same (f : Bool) {x : List UInt8} (h : ∀ d ∈ x, inS 4 d.toNat = false ∧ d ≠ 47 ∧ d ≠ 92 ∧ d ≠ 124) : wr f x = x := by
 have e4 : EscE.enc 4 x = x := EscP.enc_fix 4 _ fun c hc => (h c hc).1
 unfold wr
 split
 ·rename_i hv
  rw [Bool.and_eq_true] at hv
  have hv := hv.2
  match x, hv, h with
  | [a, b], hv, h =>
   simp only [drv, Bool.and_eq_true, Bool.or_eq_true, decide_eq_true_eq] at hv
   rcases hv.2 with rfl | rfl
   ·rfl
   ·exact absurd rfl (h 124 (by simp)).2.2.2
 ·exact e4
theorem seg_seg (i : Nat) {x : List UInt8} (h : Comp x) : Seg FILE i (seg x) := by
 have ho := seg_out h.1
 exact ⟨⟨fun c hc => hc_stop _ _ (ho c hc).2.1 (ho c hc).2.2.1, (seg_dots h).2, (seg_dots h).1, seg_same _ ho⟩, fun c hc => (ho c hc).1⟩
def posU (l : List (List UInt8)) : U := { uF with pth := l.map fun x => strOf (seg x) }
theorem posU_ok {l : List (List UInt8)} (hn : l ≠ []) (h : ∀ x ∈ l, Comp x) : Ok (posU l) := by
 have hp : PathOk FILE (l.map fun x => strOf (seg x)) := by
  intro i hi
  rw [List.getElem_map]
  rw [List.length_map] at hi
  exact seg_seg i (h _ (List.getElem_mem hi))
 exact uF_ok hp (by intro e; exact hn (List.map_eq_nil_iff.1 e)) (H := []) (.inl rfl)
theorem pos_again {l : List (List UInt8)} (hn : l ≠ []) (h : ∀ x ∈ l, Comp x) : PrsP.url (printU (posU l)) none = some (posU l) := url_again (posU_ok hn h)
end Go.Proofs.YtmdofbccebkbiaaGreatDoor.PosP
