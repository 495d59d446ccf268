/- Texts that belong together: rJ, xJ, Rk, FT, PosB, rF, PosC. -/
import Derived.Test.YtmdofbccebkbiaaGreatDoorMA
import Derived.Test.YtmdofbccebkbiaaGreatDoorShelf
import Derived.Test.YtmdofbccebkbiaaGreatDoorMB
import Derived.Test.YtmdofbccebkbiaaGreatDoorMU
import Derived.Test.YtmdofbccebkbiaaGreatDoorME
import Derived.Test.YtmdofbccebkbiaaGreatDoorMP
set_option linter.unusedSimpArgs false
set_option linter.unusedVariables false
set_option maxRecDepth 100000
set_option maxHeartbeats 64000000
namespace Go.Proofs.YtmdofbccebkbiaaGreatDoor.rJ
open Go.RowKit Base
def spl (b : UInt8) : List UInt8 → List (List UInt8)
 | [] => [[]]
 | c :: L => if c = b then [] :: spl b L else match spl b L with
  | [] => [[c]]
  | x :: r => (c :: x) :: r
theorem BR (b : UInt8) : ∀ L : List UInt8, spl b L ≠ []
 | [] => by simp [spl]
 | c :: L => by
  unfold spl
  split
  ·simp
  ·split <;> simp
theorem Jb (b : UInt8) (L : List UInt8) : spl b (b :: L) = [] :: spl b L := by rw [spl, if_pos rfl]
theorem DU (b c : UInt8) (L : List UInt8) (h : c ≠ b) : spl b (c :: L) = match spl b L with
  | [] => [[c]]
  | x :: r => (c :: x) :: r := by rw [spl, if_neg h]
theorem FC (b : UInt8) : ∀ L : List UInt8, spl b (L ++ [b]) = spl b L ++ [[]]
 | [] => by simp [spl]
 | c :: L => by
  rw [List.cons_append, spl, spl, FC b L]
  split
  ·rfl
  ·have := BR b L
   cases h : spl b L with
   | nil => exact absurd h this
   | cons x r => rfl
theorem yP (b d : UInt8) (hd : d ≠ b) : ∀ L : List UInt8, ∃ xs x, spl b L = xs ++ [x] ∧ spl b (L ++ [d]) = xs ++ [x ++ [d]]
 | [] => ⟨[], [], rfl, by simp [spl, hd]⟩
 | c :: L => by
  obtain ⟨xs, x, h1, h2⟩ := yP b d hd L
  rw [List.cons_append, spl, spl, h1, h2]
  split
  ·exact ⟨[] :: xs, x, rfl, rfl⟩
  ·cases xs with
   | nil => exact ⟨[], c :: x, rfl, rfl⟩
   | cons y ys => exact ⟨(c :: y) :: ys, x, rfl, rfl⟩
theorem jy (b : UInt8) : ∀ L : List UInt8, (spl b L).length ≤ L.length + 1
 | [] => by simp [spl]
 | c :: L => by
  have ih := jy b L
  unfold spl
  split
  ·simp; omega
  ·split
   ·simp
   ·rename_i h
    rw [h] at ih
    simp at ih ⊢
    omega
theorem wu (b : UInt8) : ∀ (L : List UInt8), ∀ x ∈ spl b L, x.length ≤ L.length
 | [] => by simp [spl]
 | c :: L => by
  have ih := wu b L
  intro x hx
  unfold spl at hx
  split at hx
  ·rcases List.mem_cons.1 hx with rfl | hx
   ·simp
   ·have := ih x hx; simp; omega
  ·split at hx
   ·rename_i h
    simp at hx
    subst hx
    simp
   ·rename_i y r h
    rcases List.mem_cons.1 hx with rfl | hx
    ·have := ih y (by rw [h]; simp); simp; omega
    ·have := ih x (by rw [h]; simp [hx]); simp; omega
theorem NJ (b : UInt8) : ∀ (L : List UInt8), ∀ x ∈ spl b L, ∀ d ∈ x, d ∈ L ∧ d ≠ b
 | [] => by simp [spl]
 | c :: L => by
  have ih := NJ b L
  intro x hx d hd
  unfold spl at hx
  split at hx
  ·rcases List.mem_cons.1 hx with rfl | hx
   ·simp at hd
   ·have := ih x hx d hd; exact ⟨List.mem_cons_of_mem _ this.1, this.2⟩
  ·rename_i hc
   split at hx
   ·simp at hx
    subst hx
    simp at hd
    subst hd
    exact ⟨List.mem_cons_self, hc⟩
   ·rename_i y r h
    rcases List.mem_cons.1 hx with rfl | hx
    ·rcases List.mem_cons.1 hd with rfl | hd
     ·exact ⟨List.mem_cons_self, hc⟩
     ·have := ih y (by rw [h]; simp) d hd; exact ⟨List.mem_cons_of_mem _ this.1, this.2⟩
    ·have := ih x (by rw [h]; simp [hx]) d hd; exact ⟨List.mem_cons_of_mem _ this.1, this.2⟩
def glue (b : UInt8) (l : List (List UInt8)) : List UInt8 := l.flatMap fun x => b :: x
theorem yt (b : UInt8) : ∀ L : List UInt8, glue b (spl b L) = b :: L
 | [] => by simp [spl, glue]
 | c :: L => by
  have ih := yt b L
  unfold spl
  split
  ·rename_i h
   subst h
   rw [glue, List.flatMap_cons]
   show _ ++ glue c (spl c L) = _
   rw [ih]
   rfl
  ·split
   ·rename_i h
    exact absurd h (BR b L)
   ·rename_i y r h
    rw [h] at ih
    simp only [glue, List.flatMap_cons, List.cons_append, List.cons.injEq, true_and] at ih ⊢
    rw [ih]
theorem Vp (a b : UInt8) (f : UInt8 → UInt8) : ∀ L : List UInt8, (∀ c ∈ L, f c = b ↔ c = a) → spl b (L.map f) = (spl a L).map (List.map f)
 | [], _ => by simp [spl]
 | c :: L, h => by
  have ih := Vp a b f L (fun d hd => h d (List.mem_cons_of_mem _ hd))
  have hc := h c List.mem_cons_self
  rw [List.map_cons]
  unfold spl
  by_cases e : c = a
  ·rw [if_pos (hc.2 e), if_pos e, ih]
   rfl
  ·rw [if_neg (fun x => e (hc.1 x)), if_neg e, ih]
   cases spl a L <;> rfl
end Go.Proofs.YtmdofbccebkbiaaGreatDoor.rJ
namespace Go.Proofs.YtmdofbccebkbiaaGreatDoor.xJ
open Go.RowKit Base rJ qK
def qc (x : List UInt8) (last : Bool) : Bool := decide (x ≠ [46]) && decide (x ≠ [46, 46]) && (decide (x ≠ []) || last)
def jh : List (List UInt8) → Bool
 | [] => true
 | x :: r => qc x r.isEmpty && jh r
theorem Iy : ∀ (l : List (List UInt8)) (k : Nat) (h : k < l.length), jh (l.drop k) = (qc l[k] (decide (k + 1 = l.length)) && jh (l.drop (k + 1))) := by
 intro l k h
 rw [List.drop_eq_getElem_cons h, jh]
 congr 2
 rw [Bool.eq_iff_iff]
 simp only [List.isEmpty_iff, List.drop_eq_nil_iff, decide_eq_true_eq]
 omega
end Go.Proofs.YtmdofbccebkbiaaGreatDoor.xJ
namespace Go.Proofs.YtmdofbccebkbiaaGreatDoor.Rk
open Go.RowKit Base aT kW rJ
open Go.Proofs.YtmdofbccebkbiaaGreatDoor.uT (Max uS)
theorem take_snoc {α : Type} (l : List α) (k : Nat) (h : k < l.length) : l.take (k + 1) = l.take k ++ [l[k]] := List.take_succ_eq_append_getElem h
theorem uq {c d : UInt8} (h : c ≠ d) : ((c.toNat : Int) == (d.toNat : Int)) = false := by
 have : c.toNat ≠ d.toNat := fun e => h (UInt8.toNat_inj.1 e)
 simp; omega
theorem nC : (Tryz.prog.info? 9).map (fun i => (i.zero, i.size, i.bytes)) = some (some (.string ByteArray.empty), 1, 16) := by kernel_rfl
theorem ext_mid (s : ByteArray) (a b : Nat) : s.extract a b = strOf ((s.data.toList.take b).drop a) := by
 apply ByteArray.ext
 apply Array.ext'
 rw [ByteArray.data_extract]
 simp only [strOf, Array.toList_extract, List.extract_eq_take_drop]
 rw [List.drop_take]
def AY (w : World) (l : List (List UInt8)) (e : Ending) (w' : World) : Prop := ∃ v, e = .returned v ∧ w'.ownsRow w.heap.size 9 1 v l.length ((l.map strOf).map Value.string) ∧ Below w.heap.size w w'
theorem has1 (b : UInt8) (L : List UInt8) : decide (0 ≤ Lib.indexByte L b) = L.contains b := by
 have hge := Lib.indexByte_ge L b
 by_cases h : Lib.indexByte L b = -1
 ·have hn := Lib.indexByte_none h
  rw [decide_eq_false (by omega)]
  cases e : L.contains b with
  | false => rfl
  | true =>
   have hm : b ∈ L := by simpa using e
   obtain ⟨j, hj, he⟩ := List.getElem_of_mem hm
   exact absurd (List.getElem?_eq_some_iff.2 ⟨hj, he⟩) (hn j)
 ·obtain ⟨o, ho⟩ : ∃ o : Nat, Lib.indexByte L b = o := ⟨(Lib.indexByte L b).toNat, by omega⟩
  have hs := (Lib.indexByte_some ho).1
  rw [decide_eq_true (by omega)]
  obtain ⟨hj, he⟩ := List.getElem?_eq_some_iff.1 hs
  symm
  simpa using (show b ∈ L by rw [← he]; exact List.getElem_mem _)
theorem qY (s : ByteArray) (w : World) (hs : s.size ≤ 900000) :
  Calls Tryz.prog 70 #[.string s, .int .u8 47] w (AY w (spl 47 s.data.toList)) := by
 have hsl : s.data.toList.length = s.size := Array.length_toList
 obtain ⟨i0, hi, hz0, hz1, hz2⟩ := info_parts nC
 have HSL := hid hsl
 clear hsl
 obtain ⟨R, hR⟩ : ∃ R, R = spl 47 s.data.toList := ⟨_, rfl⟩
 have hrl : R.length ≤ s.size + 1 := by have := jy 47 s.data.toList; rw [← hR, HSL.out] at this; exact this
 rw [← hR]
 have HR := hid hR
 clear hR
 go_enter Tryz.func70, Tryz.ntmps70
 go_wp2
 go_loopw [5, 6, 7, 11] (fun vo vf _ vk wr => ∃ (k f : Nat) (xs : List (List UInt8)), k ≤ s.size + 1 ∧ f ≤ k ∧ xs.length ≤ k ∧ vk = .int .i64 (k : Int) ∧ vf = .int .i64 (f : Int) ∧ Hid (wr.ownsRow w.heap.size 9 1 vo xs.length ((xs.map strOf).map Value.string)) ∧ Hid (Below w.heap.size w wr) ∧ Hid (k ≤ s.size → spl 47 (s.data.toList.take k) = xs ++ [(s.data.toList.take k).drop f]) ∧ Hid (k = s.size + 1 → R = xs)) (fun _ _ _ vk _ => s.size + 1 - (intOf vk).toNat)
 case atStart => exact ⟨0, 0, [], Nat.zero_le _, Nat.le_refl _, Nat.le_refl _, rfl, rfl, World.ownsRow_nil _ _ _ _, Below.refl _ _, fun _ => rfl, fun h => absurd h (by omega)⟩
 case round =>
  obtain ⟨k, f, xs, hk1, hfk, hxk, rfl, rfl, HO, HB, HW, HE⟩ := hrel
  obtain ⟨m, hm⟩ : ∃ m, m = xs.length := ⟨_, rfl⟩
  rw [← hm] at hxk
  have HM := hid hm
  clear hm
  by_cases hlt : k < s.size + 1
  ·have HW2 : Hid (spl 47 (s.data.toList.take k) = xs ++ [(s.data.toList.take k).drop f]) := HW.out (by omega)
   clear HW HE
   obtain ⟨X, hX⟩ : ∃ X, X = s.extract f k := ⟨_, rfl⟩
   have hxe : s.extract f k = X := hX.symm
   have HX : Hid (X = strOf ((s.data.toList.take k).drop f)) := by show _ = _; rw [hX, ext_mid]
   have hfi : (f : Int) ≤ (k : Int) := by omega
   clear hX
   by_cases hks : k < s.size
   ·obtain ⟨c, hc⟩ : ∃ c, s[k] = c := ⟨_, rfl⟩
    have hkl : k < s.data.toList.length := by rw [HSL.out]; exact hks
    have hcl : s.data.toList[k] = c := hc
    have HS : Hid (s.data.toList.take (k + 1) = s.data.toList.take k ++ [c]) := by rw [← hcl]; exact take_snoc _ k hkl
    have HTL : Hid ((s.data.toList.take k).length = k) := by show _ = _; rw [List.length_take, HSL.out]; omega
    have q1 : ((k : Int) == (s.size : Int)) = false := by simp; omega
    have hki : (k : Int) ≤ (s.size : Int) := by omega
    clear hkl hcl
    by_cases h47 : c = 47
    ·have q2 : ((c.toNat : Int) == 47) = true := by rw [h47]; rfl
     have HN : Hid (spl 47 (s.data.toList.take (k + 1)) = (xs ++ [(s.data.toList.take k).drop f]) ++ [(s.data.toList.take (k + 1)).drop (k + 1)]) := by
      show _ = _
      rw [HS.out, h47, FC 47, HW2.out]
      congr 2
      rw [List.drop_eq_nil_of_le]
      rw [List.length_append, HTL.out]
      exact Nat.le_refl _
     have XP : Hid (k + 1 = s.size + 1 → R = xs ++ [(s.data.toList.take k).drop f]) := fun h => absurd h (by omega)
     have hown := HO.out
     have hbel := HB.out
     rw [← HM.out] at hown
     clear h47
     go_wp2_with (at_builtin; refine bC rfl _ _ 23 rfl w.heap.size 9 i0 (.string ByteArray.empty) 16 Tryz.underlying23 hi hz0 hz1 hz2 rfl _ m _ rfl hown hbel hbel.size [.string X] 1 rfl rfl (by intro u hu; simp at hu; subst hu; rfl) (by unfold maxLen; omega) (by omega) ?_)
     intro v7 w7 dF dh
     have HX7 : Hid (w7.ownsRow w.heap.size 9 1 v7 (xs ++ [(s.data.toList.take k).drop f]).length (((xs ++ [(s.data.toList.take k).drop f]).map strOf).map Value.string)) := by
      show World.ownsRow _ _ _ _ _ _ _
      rw [List.length_append, List.map_append, List.map_append, ← HM.out]
      show World.ownsRow _ _ _ _ _ (m + 1) (_ ++ [Value.string (strOf ((s.data.toList.take k).drop f))])
      rw [← HX.out]
      simpa using dF
     have HY := hid dh
     clear hown hbel dF dh
     go_wp2
     go_roundw
     case rel => exact ⟨k + 1, k + 1, xs ++ [(s.data.toList.take k).drop f], by omega, Nat.le_refl _, by rw [List.length_append, ← HM.out]; show m + 1 ≤ _; omega, by go_num, by go_num, HX7, HY, fun _ => HN.out, XP⟩
     case measure => simp [intOf]; omega
    ·have q2 : ((c.toNat : Int) == 47) = false := uq (d := 47) h47
     have HN : Hid (spl 47 (s.data.toList.take (k + 1)) = xs ++ [(s.data.toList.take (k + 1)).drop f]) := by
      show _ = _
      obtain ⟨xs', x', e1, e2⟩ := yP 47 c h47 (s.data.toList.take k)
      have h3 := HW2.out.symm.trans e1
      obtain ⟨h4, h5⟩ := List.append_inj' h3 rfl
      have h5 : (s.data.toList.take k).drop f = x' := by simpa using h5
      rw [HS.out, e2, ← h4, ← h5, List.drop_append_of_le_length (by rw [HTL.out]; exact hfk)]
     have XP : Hid (k + 1 = s.size + 1 → R = xs) := fun h => absurd h (by omega)
     clear h47
     go_wp2
     go_roundw
     case rel => exact ⟨k + 1, f, xs, by omega, by omega, by rw [← HM.out]; omega, by go_num, rfl, HO, HB, fun _ => HN.out, XP⟩
     case measure => simp [intOf]; omega
   ·have hke : k = s.size := by omega
    have q1 : ((k : Int) == (s.size : Int)) = true := by simp; omega
    have hki : (k : Int) ≤ (s.size : Int) := by omega
    have XP : Hid (k + 1 = s.size + 1 → R = xs ++ [(s.data.toList.take k).drop f]) := by
     intro _
     rw [← HW2.out, HR.out, List.take_of_length_le (by rw [HSL.out, hke]; exact Nat.le_refl _)]
    have HFW : Hid (k + 1 ≤ s.size → spl 47 (s.data.toList.take (k + 1)) = (xs ++ [(s.data.toList.take k).drop f]) ++ [(s.data.toList.take (k + 1)).drop (k + 1)]) := fun h => absurd h (by omega)
    have hown := HO.out
    have hbel := HB.out
    rw [← HM.out] at hown
    clear hke
    go_wp2_with (at_builtin; refine bC rfl _ _ 23 rfl w.heap.size 9 i0 (.string ByteArray.empty) 16 Tryz.underlying23 hi hz0 hz1 hz2 rfl _ m _ rfl hown hbel hbel.size [.string X] 1 rfl rfl (by intro u hu; simp at hu; subst hu; rfl) (by unfold maxLen; omega) (by omega) ?_)
    intro v7 w7 dF dh
    have HX7 : Hid (w7.ownsRow w.heap.size 9 1 v7 (xs ++ [(s.data.toList.take k).drop f]).length (((xs ++ [(s.data.toList.take k).drop f]).map strOf).map Value.string)) := by
     show World.ownsRow _ _ _ _ _ _ _
     rw [List.length_append, List.map_append, List.map_append, ← HM.out]
     show World.ownsRow _ _ _ _ _ (m + 1) (_ ++ [Value.string (strOf ((s.data.toList.take k).drop f))])
     rw [← HX.out]
     simpa using dF
    have HY := hid dh
    clear hown hbel dF dh
    go_wp2
    go_roundw
    case rel => exact ⟨k + 1, k + 1, xs ++ [(s.data.toList.take k).drop f], by omega, Nat.le_refl _, by rw [List.length_append, ← HM.out]; show m + 1 ≤ _; omega, by go_num, by go_num, HX7, HY, HFW, XP⟩
    case measure => simp [intOf]; omega
  ·obtain rfl : k = s.size + 1 := by omega
   obtain ⟨vA, vc, rfl, _, _, _⟩ := aU HO.out
   have HXX : Hid (AY w R (.returned (.slice vA xs.length vc)) wr) := by
    rw [HE.out rfl]
    exact ⟨_, rfl, HO.out, HB.out⟩
   go_wp2
   go_ret
   exact HXX.out
end Go.Proofs.YtmdofbccebkbiaaGreatDoor.Rk
namespace Go.Proofs.YtmdofbccebkbiaaGreatDoor.FT
open Go.RowKit Base aT kW rJ xJ Rk
open Go.Proofs.YtmdofbccebkbiaaGreatDoor.uT (Max)
open Go.Proofs.YtmdofbccebkbiaaGreatDoor.qK (val)
theorem tl (s : ByteArray) : s.toList = s.data.toList := Lib.toList_data s
theorem vF {w : World} {A : Option Addr} {n : Nat} {l : List (List UInt8)} (h : bK w A n ((l.map strOf).map Value.string)) (k : Nat) (hk : k < n) (hl : l.length = n) : ∃ g off, A = some ⟨g, off, none⟩ ∧ g < w.heap.size ∧ w.cell? ⟨g, off + k, none⟩ = some (.string (strOf (l[k]'(by omega)))) := by
 obtain ⟨g, off, e, hg, hcell⟩ := h.spot (by omega)
 have hc := hcell k (by rw [List.length_map, List.length_map]; omega)
 simp only [List.getElem_map] at hc
 exact ⟨g, off, e, hg, hc⟩
theorem Qd (A : Option Addr) (n cap : Nat) (l : List (List UInt8)) (w : World) (hR : bK w A n ((l.map strOf).map Value.string)) (hm : n ≤ 1073741824) :
  Calls Tryz.prog 69 #[.slice A n cap] w fun e w' => e = .returned (.bool (jh l && decide (0 < l.length))) ∧ w = w' := by
 have hl : l.length = n := by rw [← hR.1, List.length_map, List.length_map]
 obtain ⟨E, hE⟩ : ∃ E, E = jh l := ⟨_, rfl⟩
 have HN := hid hl
 have HR := hid hR
 have HZ : Hid ((jh l && decide (0 < l.length)) = (E && decide (0 < n))) := by show _ = _; rw [hE, hl]
 have JU : Hid (E = jh (l.drop 0)) := hE
 clear hl hR hE
 go_enter Tryz.func69, Tryz.ntmps69
 go_wp2
 go_loopw [3, 6] (fun _ vk wr => ∃ k : Nat, k ≤ n ∧ vk = .int .i64 (k : Int) ∧ wr = w ∧ Hid (E = jh (l.drop k))) (fun _ vk _ => n - (intOf vk).toNat)
 case atStart => exact ⟨0, Nat.zero_le _, rfl, rfl, JU⟩
 case round =>
  clear JU
  obtain ⟨k, hk, rfl, rfl, HE⟩ := hrel
  by_cases hlt : k < n
  ·obtain ⟨g, off, rfl, hg, hc⟩ := vF HR.out k hlt HN.out
   obtain ⟨x, hx⟩ : ∃ x, x = l[k]'(by rw [HN.out]; exact hlt) := ⟨_, rfl⟩
   rw [← hx] at hc
   have hok := Iy l k (by rw [HN.out]; exact hlt)
   rw [show l[k]'(by rw [HN.out]; exact hlt) = x from hx.symm, HN.out] at hok
   by_cases h1 : x = [46]
   ·have f1 : ((strOf x).toList == [46]) = true := by rw [tl, h1]; rfl
    have HE2 : Hid (E = false) := by show _ = _; rw [HE.out, hok]; simp [qc, h1]
    clear hok hx h1
    go_wp2
    go_ret
    exact ⟨by rw [HZ.out, HE2.out]; rfl, rfl⟩
   ·have f1 : ((strOf x).toList == [46]) = false := by rw [tl, beq_eq_false_iff_ne]; exact h1
    by_cases h2 : x = [46, 46]
    ·have f2 : ((strOf x).toList == [46, 46]) = true := by rw [tl, h2]; rfl
     have HE2 : Hid (E = false) := by show _ = _; rw [HE.out, hok]; simp [qc, h2]
     clear hok hx h1 h2
     go_wp2
     go_ret
     exact ⟨by rw [HZ.out, HE2.out]; rfl, rfl⟩
    ·have f2 : ((strOf x).toList == [46, 46]) = false := by rw [tl, beq_eq_false_iff_ne]; exact h2
     by_cases h3 : x = []
     ·have f3 : (strOf x).toList = [] := by rw [tl]; exact h3
      by_cases hla : k + 1 = n
      ·have hli : ¬ (k : Int) < (n : Int) - 1 := by omega
       have HE2 : Hid (E = jh (l.drop (k + 1))) := by show _ = _; rw [HE.out, hok]; simp [qc, h1, h2, h3, hla]
       clear hok hx h1 h2 h3 hla
       go_wp2
       go_roundw
       case rel => exact ⟨k + 1, by omega, by go_num, by first | rfl | trivial, HE2⟩
       case measure => simp [intOf]; omega
      ·have hli : (k : Int) < (n : Int) - 1 := by omega
       have HE2 : Hid (E = false) := by show _ = _; rw [HE.out, hok]; simp [qc, h1, h2, h3, hla]
       clear hok hx h1 h2 h3 hla
       go_wp2
       go_ret
       exact ⟨by rw [HZ.out, HE2.out]; rfl, rfl⟩
     ·have f3 : ((strOf x).toList == []) = false := by rw [tl, beq_eq_false_iff_ne]; exact h3
      have f3' : (strOf x).toList.isEmpty = false := by rw [tl]; simpa [strOf] using h3
      have HE2 : Hid (E = jh (l.drop (k + 1))) := by show _ = _; rw [HE.out, hok]; simp [qc, h1, h2, h3]
      clear hok hx h1 h2 h3
      go_wp2
      go_roundw
      case rel => exact ⟨k + 1, by omega, by go_num, by first | rfl | trivial, HE2⟩
      case measure => simp [intOf]; omega
  ·obtain rfl : k = n := by omega
   have HE2 : Hid (E = true) := by show _ = _; rw [HE.out, List.drop_eq_nil_of_le (by rw [HN.out]; exact Nat.le_refl _)]; rfl
   by_cases h0 : 0 < k
   ·have h0i : (0 : Int) < (k : Int) := by omega
    go_wp2
    go_ret
    exact ⟨by rw [HZ.out, HE2.out]; simp [h0], rfl⟩
   ·obtain rfl : k = 0 := by omega
    go_wp2
    go_ret
    exact ⟨by rw [HZ.out, HE2.out]; rfl, rfl⟩
end Go.Proofs.YtmdofbccebkbiaaGreatDoor.FT
namespace Go.Proofs.YtmdofbccebkbiaaGreatDoor.rF
open Go.RowKit Base dM iT zN
theorem dW {p : UInt8 → Prop} [∀ c, Decidable (p c)] (h : ∀ n : Fin 256, p (UInt8.ofNat n.val)) (c : UInt8) : p c := by
 have := h ⟨c.toNat, c.toNat_lt⟩
 simpa using this
theorem CP (n : Nat) (h : n < 16) : hex (aH.kV n).toNat = n := by
 have H : ∀ k : Fin 16, hex ((aH.kV k.val).toNat : Int) = (k.val : Int) := by decide
 exact H ⟨n, h⟩
theorem MW (c : UInt8) (rest : List UInt8) : fA.esc (37 :: aH.kV (c.toNat / 16) :: aH.kV (c.toNat % 16) :: rest) = some c := by
 have hc := c.toNat_lt
 have h1 := CP (c.toNat / 16) (by omega)
 have h2 := CP (c.toNat % 16) (by omega)
 rw [fA.esc, if_pos ⟨rfl, by rw [h1]; omega, by rw [h2]; omega⟩, h1, h2]
 congr 1
 apply UInt8.toNat_inj.1
 simp
 omega
theorem CW (x : UInt8) (t : List UInt8) (h : x ≠ 37) : fA.esc (x :: t) = none := by
 match t with
 | [] => rfl
 | [_] => rfl
 | _ :: _ :: _ => rw [fA.esc, if_neg (fun e => h e.1)]
def odd (c : UInt8) : Bool := iU 4 c.toNat || (decide (c = 37) || (decide (c = 92) || decide (c = 124)))
def one (c : UInt8) : List UInt8 := if odd c = true then [37, aH.kV (c.toNat / 16), aH.kV (c.toNat % 16)] else [c]
def seg (L : List UInt8) : List UInt8 := L.flatMap one
theorem I4 (c : UInt8) (L : List UInt8) : seg (c :: L) = one c ++ seg L := by simp [seg]
theorem NG (a b : List UInt8) : seg (a ++ b) = seg a ++ seg b := by simp [seg]
theorem Gq (L : List UInt8) : (seg L).length ≤ 3 * L.length := by
 induction L with
 | nil => simp [seg]
 | cons c L ih =>
  have h : (one c).length ≤ 3 := by unfold one; split <;> simp
  rw [I4, List.length_append, List.length_cons]
  omega
theorem zA (L : List UInt8) : fA.dec (seg L) = L := by
 induction L with
 | nil => rfl
 | cons c L ih =>
  rw [I4]
  unfold one
  split
  ·rw [List.cons_append, List.cons_append, List.cons_append, List.nil_append, fA.tX _ _ _ (MW c _)]
   simp only [List.drop_succ_cons, List.drop_zero, ih]
  ·rename_i hn
   have hne : c ≠ 37 := by
    rintro rfl
    exact hn (by decide +kernel)
   rw [List.cons_append, List.nil_append, fA.lu _ _ (CW c _ hne), ih]
theorem vV (c : UInt8) (h : c ≠ 47) : ∀ d ∈ one c, iU 4 d.toNat = false ∧ d ≠ 47 ∧ d ≠ 92 ∧ d ≠ 124 :=
 dW (p := fun c => c ≠ 47 → ∀ d ∈ one c, iU 4 d.toNat = false ∧ d ≠ 47 ∧ d ≠ 92 ∧ d ≠ 124) (by decide +kernel) c h
theorem Vl {L : List UInt8} (h : ∀ c ∈ L, c ≠ 47) : ∀ d ∈ seg L, iU 4 d.toNat = false ∧ d ≠ 47 ∧ d ≠ 92 ∧ d ≠ 124 := by
 intro d hd
 obtain ⟨c, hc, hm⟩ := List.mem_flatMap.1 hd
 exact vV c (h c hc) d hm
end Go.Proofs.YtmdofbccebkbiaaGreatDoor.rF
namespace Go.Proofs.YtmdofbccebkbiaaGreatDoor.PosC
open Go.RowKit Base aT kW Oa XI rJ Rk FT
open Go.Proofs.YtmdofbccebkbiaaGreatDoor.rF (dW seg NG Gq)
open Go.Proofs.YtmdofbccebkbiaaGreatDoor.EscR (Vs)
def alike (c : UInt8) : Bool := [37, 92, 124].contains c
theorem seg1 (c : UInt8) : (alike c = true → aH.enc 6 [c] = rF.one c) ∧ (alike c = false → aH.enc 4 [c] = rF.one c) :=
 dW (p := fun c => (alike c = true → aH.enc 6 [c] = rF.one c) ∧ (alike c = false → aH.enc 4 [c] = rF.one c)) (by decide +kernel) c
theorem one_row (c : UInt8) (w : World) : bK (w.alloc (.cells #[.int .u8 (c.toNat : Int)] 5)) (some ⟨w.heap.size, 0, none⟩) 1 (aJ [c]) := EO w [c] 5 (0, 0)
theorem aat (L : List UInt8) (c : UInt8) : seg (L ++ [c]) = seg L ++ rF.one c := by rw [NG]; congr 1; simp [seg]
theorem Gj (c : UInt8) : (rF.one c).length ≤ 3 := by unfold rF.one; split <;> simp
theorem yN (s : ByteArray) (w : World) (hs : s.size ≤ 10000000) :
  Calls Tryz.prog 71 #[.string s] w fun e w' => e = .returned (.string (strOf (seg s.data.toList))) ∧ Below w.heap.size w w' := by
 have hl : s.data.toList.length = s.size := Array.length_toList
 have HL := hid hl
 clear hl
 have HB0 : Hid (mg w.heap.size w.heap.size [] (w.alloc (.cells #[.pointer none, .slice none 0 0] 77))) := Lib.fresh_isBuilder 77 5 w
 go_enter Tryz.func71, Tryz.ntmps71
 go_wp2
 go_loopw [4, 5] (fun vk _ wr => ∃ k : Nat, k ≤ s.size ∧ vk = .int .i64 (k : Int) ∧ Hid (mg w.heap.size w.heap.size (seg (s.data.toList.take k)) wr) ∧ Hid (Below w.heap.size w wr)) (fun vk _ _ => s.size - (intOf vk).toNat)
 case atStart => exact ⟨0, Nat.zero_le _, rfl, HB0.out, (Below.refl _ _).alloc (Nat.le_refl _) _⟩
 case round =>
  clear HB0
  obtain ⟨k, hk, rfl, HB, eP⟩ := hrel
  have hsz : w.heap.size ≤ wr.heap.size := eP.out.size
  by_cases hlt : k < s.size
  ·obtain ⟨c, hc⟩ : ∃ c, s[k] = c := ⟨_, rfl⟩
   have hkl : k < s.data.toList.length := by rw [HL.out]; exact hlt
   have hcl : s.data.toList[k] = c := hc
   have HS : Hid (seg (s.data.toList.take (k + 1)) = seg (s.data.toList.take k) ++ rF.one c) := by
    show _ = _
    rw [take_snoc _ k hkl, hcl, aat]
   have hlen : (seg (s.data.toList.take k)).length ≤ 3 * k := by
    have := Gq (s.data.toList.take k)
    rw [List.length_take, HL.out] at this
    omega
   obtain ⟨X, hX⟩ : ∃ X, X = seg (s.data.toList.take k) := ⟨_, rfl⟩
   rw [← hX] at HS HB hlen
   obtain ⟨a, ha⟩ : ∃ a, a = alike c := ⟨_, rfl⟩
   have QE : Hid (∀ w : World, Calls Tryz.prog 136 #[.string ⟨#[37, 92, 124]⟩, .int .u8 (c.toNat : Int)] w fun e w' => ∃ z : Int, e = .returned (.int .i64 z) ∧ decide (0 ≤ z) = a ∧ w' = w) := fun w => by
    refine (Tryz.strings_IndexByte ⟨#[37, 92, 124]⟩ _ w).mono ?_
    rintro e w' ⟨rfl, rfl⟩
    refine ⟨_, rfl, ?_, rfl⟩
    rw [show ((c.toNat : Int).toNat.toUInt8) = c by simp, has1, ha]
    rfl
   have hone := Gj c
   cases a with
   | true =>
    have JB : Hid (∀ (A : Option Addr) (n cap : Nat) (w : World), bK w A n (aJ [c]) → n ≤ 1073741824 → Calls Tryz.prog 91 #[.int .i64 6, .slice A n cap] w fun e w' => e = .returned (.string (strOf (rF.one c))) ∧ Below w.heap.size w w') := fun A n cap w h1 h2 => by rw [← (seg1 c).1 ha.symm]; exact aH.eU 6 A n cap [c] w h1 h2
    clear ha hX hkl hcl
    go_wp2_with fail
    refine (QE.out _).mono ?_
    rintro e w2 ⟨z, rfl, hz, hw2⟩
    subst hw2
    have hz1 : 0 ≤ z := by simpa using hz
    go_wp2_with fail
    refine (JB.out _ 1 1 _ (one_row c _) (by omega)).mono ?_
    rintro e w3 ⟨rfl, hb3⟩
    have hbw := ((Below.refl w2.heap.size w2).alloc (Nat.le_refl _) (.cells #[.int .u8 (c.toNat : Int)] 5)).trans (hb3.mono (by simp))
    have HB3 := hid (iw HB.out hbw)
    have kL : Hid (Below w.heap.size w w3) := eP.out.trans (hbw.mono hsz)
    have hsz3 : w.heap.size ≤ w3.heap.size := kL.out.size
    clear hbw hb3 hz
    go_wp2_with fail
    refine (write_any _ _ _ _ _ HB3.out (by rw [ah]; omega) hsz3).mono ?_
    rintro e w4 ⟨rfl, hb4, hb5⟩
    have HB4 : Hid (mg w.heap.size w.heap.size (seg (s.data.toList.take (k + 1))) w4) := by show mg _ _ _ _; rw [HS.out]; exact hb4
    have AP := hid (kL.out.trans hb5)
    clear hb4 hb5 hlen hone
    go_wp2
    go_roundw
    case rel => exact ⟨k + 1, by omega, by go_num, HB4, AP⟩
    case measure => simp [intOf]; omega
   | false =>
    have JB : Hid (∀ (A : Option Addr) (n cap : Nat) (w : World), bK w A n (aJ [c]) → n ≤ 1073741824 → Calls Tryz.prog 91 #[.int .i64 4, .slice A n cap] w fun e w' => e = .returned (.string (strOf (rF.one c))) ∧ Below w.heap.size w w') := fun A n cap w h1 h2 => by rw [← (seg1 c).2 ha.symm]; exact aH.eU 4 A n cap [c] w h1 h2
    clear ha hX hkl hcl
    go_wp2_with fail
    refine (QE.out _).mono ?_
    rintro e w2 ⟨z, rfl, hz, hw2⟩
    subst hw2
    have hz1 : ¬ 0 ≤ z := by simpa using hz
    go_wp2_with fail
    refine (JB.out _ 1 1 _ (one_row c _) (by omega)).mono ?_
    rintro e w3 ⟨rfl, hb3⟩
    have hbw := ((Below.refl w2.heap.size w2).alloc (Nat.le_refl _) (.cells #[.int .u8 (c.toNat : Int)] 5)).trans (hb3.mono (by simp))
    have HB3 := hid (iw HB.out hbw)
    have kL : Hid (Below w.heap.size w w3) := eP.out.trans (hbw.mono hsz)
    have hsz3 : w.heap.size ≤ w3.heap.size := kL.out.size
    clear hbw hb3 hz
    go_wp2_with fail
    refine (write_any _ _ _ _ _ HB3.out (by rw [ah]; omega) hsz3).mono ?_
    rintro e w4 ⟨rfl, hb4, hb5⟩
    have HB4 : Hid (mg w.heap.size w.heap.size (seg (s.data.toList.take (k + 1))) w4) := by show mg _ _ _ _; rw [HS.out]; exact hb4
    have AP := hid (kL.out.trans hb5)
    clear hb4 hb5 hlen hone
    go_wp2
    go_roundw
    case rel => exact ⟨k + 1, by omega, by go_num, HB4, AP⟩
    case measure => simp [intOf]; omega
  ·obtain rfl : k = s.size := by omega
   have HT : Hid (seg (s.data.toList.take s.size) = seg s.data.toList) := by show _ = _; rw [List.take_of_length_le (by rw [HL.out]; exact Nat.le_refl _)]
   go_wp2_with fail
   refine (rD _ _ _ _ HB.out hsz).mono ?_
   rintro e w3 ⟨rfl, hb3⟩
   have HB3 := hid (eP.out.trans hb3)
   clear hb3
   go_wp2
   go_ret
   exact ⟨by rw [← HT.out]; first | done | rfl, HB3.out⟩
end Go.Proofs.YtmdofbccebkbiaaGreatDoor.PosC
