/- Texts that belong together: SlsP, PosQ, Sls, PosA, PosB, PosS, PosC, PosU. -/
import Derived.Test.YtleecmapaihhmaaGreatDoorMA
import Derived.Test.YtleecmapaihhmaaGreatDoorShelf
import Derived.Test.YtleecmapaihhmaaGreatDoorMB
import Derived.Test.YtleecmapaihhmaaGreatDoorMU
import Derived.Test.YtleecmapaihhmaaGreatDoorME
import Derived.Test.YtleecmapaihhmaaGreatDoorMP
set_option linter.unusedSimpArgs false
set_option linter.unusedVariables false
namespace Go.Proofs.YtleecmapaihhmaaGreatDoor.SlsP
open Go.RowKit Go.Proofs.YtleecmapaihhmaaGreatDoor.Base
/-- The parts of a text, between bytes b. -/
def spl (b : UInt8) : List UInt8 → List (List UInt8)
  | [] => [[]]
  | c :: L => if c = b then [] :: spl b L else match spl b L with
    | [] => [[c]]
    | x :: r => (c :: x) :: r
theorem spl_ne (b : UInt8) : ∀ L : List UInt8, spl b L ≠ []
  | [] => by simp [spl]
  | c :: L => by
    unfold spl
    split
    · simp
    · split <;> simp
theorem spl_at (b : UInt8) (L : List UInt8) : spl b (b :: L) = [] :: spl b L := by rw [spl, if_pos rfl]
theorem spl_not (b c : UInt8) (L : List UInt8) (h : c ≠ b) : spl b (c :: L) = match spl b L with
    | [] => [[c]]
    | x :: r => (c :: x) :: r := by rw [spl, if_neg h]
theorem spl_snoc_at (b : UInt8) : ∀ L : List UInt8, spl b (L ++ [b]) = spl b L ++ [[]]
  | [] => by simp [spl]
  | c :: L => by
    rw [List.cons_append, spl, spl, spl_snoc_at b L]
    split
    · rfl
    · have := spl_ne b L
      cases h : spl b L with
      | nil => exact absurd h this
      | cons x r => rfl
theorem spl_snoc_other (b d : UInt8) (hd : d ≠ b) : ∀ L : List UInt8, ∃ xs x, spl b L = xs ++ [x] ∧ spl b (L ++ [d]) = xs ++ [x ++ [d]]
  | [] => ⟨[], [], rfl, by simp [spl, hd]⟩
  | c :: L => by
    obtain ⟨xs, x, h1, h2⟩ := spl_snoc_other b d hd L
    rw [List.cons_append, spl, spl, h1, h2]
    split
    · exact ⟨[] :: xs, x, rfl, rfl⟩
    · cases xs with
      | nil => exact ⟨[], c :: x, rfl, rfl⟩
      | cons y ys => exact ⟨(c :: y) :: ys, x, rfl, rfl⟩
theorem length_spl (b : UInt8) : ∀ L : List UInt8, (spl b L).length ≤ L.length + 1
  | [] => by simp [spl]
  | c :: L => by
    have ih := length_spl b L
    unfold spl
    split
    · simp; omega
    · split
      · simp
      · rename_i h
        rw [h] at ih
        simp at ih ⊢
        omega
theorem spl_len (b : UInt8) : ∀ (L : List UInt8), ∀ x ∈ spl b L, x.length ≤ L.length
  | [] => by simp [spl]
  | c :: L => by
    have ih := spl_len b L
    intro x hx
    unfold spl at hx
    split at hx
    · rcases List.mem_cons.1 hx with rfl | hx
      · simp
      · have := ih x hx; simp; omega
    · split at hx
      · rename_i h
        simp at hx
        subst hx
        simp
      · rename_i y r h
        rcases List.mem_cons.1 hx with rfl | hx
        · have := ih y (by rw [h]; simp); simp; omega
        · have := ih x (by rw [h]; simp [hx]); simp; omega
theorem spl_out (b : UInt8) : ∀ (L : List UInt8), ∀ x ∈ spl b L, ∀ d ∈ x, d ∈ L ∧ d ≠ b
  | [] => by simp [spl]
  | c :: L => by
    have ih := spl_out b L
    intro x hx d hd
    unfold spl at hx
    split at hx
    · rcases List.mem_cons.1 hx with rfl | hx
      · simp at hd
      · have := ih x hx d hd; exact ⟨List.mem_cons_of_mem _ this.1, this.2⟩
    · rename_i hc
      split at hx
      · simp at hx
        subst hx
        simp at hd
        subst hd
        exact ⟨List.mem_cons_self, hc⟩
      · rename_i y r h
        rcases List.mem_cons.1 hx with rfl | hx
        · rcases List.mem_cons.1 hd with rfl | hd
          · exact ⟨List.mem_cons_self, hc⟩
          · have := ih y (by rw [h]; simp) d hd; exact ⟨List.mem_cons_of_mem _ this.1, this.2⟩
        · have := ih x (by rw [h]; simp [hx]) d hd; exact ⟨List.mem_cons_of_mem _ this.1, this.2⟩
/-- What was parted, put together again. -/
def glue (b : UInt8) (l : List (List UInt8)) : List UInt8 := l.flatMap fun x => b :: x
theorem glue_spl (b : UInt8) : ∀ L : List UInt8, glue b (spl b L) = b :: L
  | [] => by simp [spl, glue]
  | c :: L => by
    have ih := glue_spl b L
    unfold spl
    split
    · rename_i h
      subst h
      rw [glue, List.flatMap_cons]
      show _ ++ glue c (spl c L) = _
      rw [ih]
      rfl
    · split
      · rename_i h
        exact absurd h (spl_ne b L)
      · rename_i y r h
        rw [h] at ih
        simp only [glue, List.flatMap_cons, List.cons_append, List.cons.injEq, true_and] at ih ⊢
        rw [ih]
theorem spl_glue (b : UInt8) : ∀ (x : List UInt8) (r : List (List UInt8)), (∀ y ∈ x :: r, ∀ d ∈ y, d ≠ b) → spl b (x ++ glue b r) = x :: r
  | [], [], _ => by simp [glue, spl]
  | [], y :: r, h => by
    have := spl_glue b y r (fun z hz => h z (List.mem_cons_of_mem _ hz))
    rw [List.nil_append, glue, List.flatMap_cons, List.cons_append, spl_at]
    show _ :: spl b (y ++ glue b r) = _
    rw [this]
  | c :: x, r, h => by
    have hc : c ≠ b := h (c :: x) List.mem_cons_self c List.mem_cons_self
    have := spl_glue b x r (fun z hz d hd => by
      rcases List.mem_cons.1 hz with rfl | hz
      · exact h (c :: z) List.mem_cons_self d (List.mem_cons_of_mem _ hd)
      · exact h z (List.mem_cons_of_mem _ hz) d hd)
    rw [List.cons_append, spl_not b c _ hc, this]
theorem spl_inj {b : UInt8} {L M : List UInt8} (h : spl b L = spl b M) : L = M := by
  have := glue_spl b L
  rw [h, glue_spl] at this
  simpa using this.symm
theorem spl_count (b : UInt8) : ∀ L : List UInt8, (spl b L).length = L.count b + 1
  | [] => by simp [spl]
  | c :: L => by
    have ih := spl_count b L
    unfold spl
    split
    · rename_i h
      subst h
      rw [List.count_cons_self, List.length_cons, ih]
    · rename_i h
      rw [List.count_cons_of_ne (by simpa using h)]
      split
      · rename_i h
        exact absurd h (spl_ne b L)
      · rename_i y r h
        rw [h] at ih
        exact ih
theorem spl_map (a b : UInt8) (f : UInt8 → UInt8) : ∀ L : List UInt8, (∀ c ∈ L, f c = b ↔ c = a) → spl b (L.map f) = (spl a L).map (List.map f)
  | [], _ => by simp [spl]
  | c :: L, h => by
    have ih := spl_map a b f L (fun d hd => h d (List.mem_cons_of_mem _ hd))
    have hc := h c List.mem_cons_self
    rw [List.map_cons]
    unfold spl
    by_cases e : c = a
    · rw [if_pos (hc.2 e), if_pos e, ih]
      rfl
    · rw [if_neg (fun x => e (hc.1 x)), if_neg e, ih]
      cases spl a L <;> rfl
end Go.Proofs.YtleecmapaihhmaaGreatDoor.SlsP
namespace Go.Proofs.YtleecmapaihhmaaGreatDoor.PosQ
open Go.RowKit Go.Proofs.YtleecmapaihhmaaGreatDoor.Base Go.Proofs.YtleecmapaihhmaaGreatDoor.SlsP Go.Proofs.YtleecmapaihhmaaGreatDoor.UtfR
/-- May a component stand there? The last one may be nothing. -/
def okOne (x : List UInt8) (last : Bool) : Bool := decide (x ≠ [46]) && decide (x ≠ [46, 46]) && (decide (x ≠ []) || last)
def okRow : List (List UInt8) → Bool
  | [] => true
  | x :: r => okOne x r.isEmpty && okRow r
def fine (L : List UInt8) : Bool := val L && decide (L.head? = some 47) && !L.contains 0 && okRow (spl 47 (L.drop 1))
theorem fine_iff (L : List UInt8) : fine L = true ↔ val L = true ∧ L.head? = some 47 ∧ L.contains 0 = false ∧ okRow (spl 47 (L.drop 1)) = true := by
  unfold fine
  simp only [Bool.and_eq_true, decide_eq_true_eq, Bool.not_eq_true', and_assoc]
theorem okRow_drop : ∀ (l : List (List UInt8)) (k : Nat) (h : k < l.length), okRow (l.drop k) = (okOne l[k] (decide (k + 1 = l.length)) && okRow (l.drop (k + 1))) := by
  intro l k h
  rw [List.drop_eq_getElem_cons h, okRow]
  congr 2
  rw [Bool.eq_iff_iff]
  simp only [List.isEmpty_iff, List.drop_eq_nil_iff, decide_eq_true_eq]
  omega
theorem okRow_mem : ∀ {l : List (List UInt8)}, okRow l = true → ∀ x ∈ l, x ≠ [46] ∧ x ≠ [46, 46]
  | [], _ => by simp
  | y :: r, h => by
    simp only [okRow, okOne, Bool.and_eq_true, Bool.or_eq_true, decide_eq_true_eq] at h
    intro x hx
    rcases List.mem_cons.1 hx with rfl | hx
    · exact h.1.1
    · exact okRow_mem h.2 x hx
end Go.Proofs.YtleecmapaihhmaaGreatDoor.PosQ
namespace Go.Proofs.YtleecmapaihhmaaGreatDoor.Sls
open Go.RowKit Go.Proofs.YtleecmapaihhmaaGreatDoor.Base Go.Proofs.YtleecmapaihhmaaGreatDoor.Base2 Go.Proofs.YtleecmapaihhmaaGreatDoor.Base3 Go.Proofs.YtleecmapaihhmaaGreatDoor.SlsP
open Go.Proofs.YtleecmapaihhmaaGreatDoor.Spl (Max split_gen)
theorem take_snoc {α : Type} (l : List α) (k : Nat) (h : k < l.length) : l.take (k + 1) = l.take k ++ [l[k]] := List.take_succ_eq_append_getElem h
theorem ne_u8 {c d : UInt8} (h : c ≠ d) : ((c.toNat : Int) == (d.toNat : Int)) = false := by
  have : c.toNat ≠ d.toNat := fun e => h (UInt8.toNat_inj.1 e)
  simp; omega
theorem info_str : (Tryz.prog.info? 9).map (fun i => (i.zero, i.size, i.bytes)) = some (some (.string ByteArray.empty), 1, 16) := by kernel_rfl
theorem ext_mid (s : ByteArray) (a b : Nat) : s.extract a b = strOf ((s.data.toList.take b).drop a) := by
  apply ByteArray.ext
  apply Array.ext'
  rw [ByteArray.data_extract]
  simp only [strOf, Array.toList_extract, List.extract_eq_take_drop]
  rw [List.drop_take]
/-- The call's own slice of these texts. -/
def OwnedL (w : World) (l : List (List UInt8)) (e : Ending) (w' : World) : Prop := ∃ v, e = .returned v ∧ w'.ownsRow w.heap.size 9 1 v l.length ((l.map strOf).map Value.string) ∧ Below w.heap.size w w'
theorem split47_any (s : ByteArray) (w : World) (hs : s.size ≤ 1073741824) (hM : Max w) : Calls Tryz.prog 20 #[.string s, .string ⟨#[47]⟩] w (Spl.Read w (spl 47 s.data.toList)) :=
  split_gen 47 (spl 47) rfl (spl_at 47) (spl_not 47) s w hs hM
theorem split92_any (s : ByteArray) (w : World) (hs : s.size ≤ 1073741824) (hM : Max w) : Calls Tryz.prog 20 #[.string s, .string ⟨#[92]⟩] w (Spl.Read w (spl 92 s.data.toList)) :=
  split_gen 92 (spl 92) rfl (spl_at 92) (spl_not 92) s w hs hM
theorem has1 (b : UInt8) (L : List UInt8) : decide (0 ≤ Lib.indexByte L b) = L.contains b := by
  have hge := Lib.indexByte_ge L b
  by_cases h : Lib.indexByte L b = -1
  · have hn := Lib.indexByte_none h
    rw [decide_eq_false (by omega)]
    cases e : L.contains b with
    | false => rfl
    | true =>
      have hm : b ∈ L := by simpa using e
      obtain ⟨j, hj, he⟩ := List.getElem_of_mem hm
      exact absurd (List.getElem?_eq_some_iff.2 ⟨hj, he⟩) (hn j)
  · obtain ⟨o, ho⟩ : ∃ o : Nat, Lib.indexByte L b = o := ⟨(Lib.indexByte L b).toNat, by omega⟩
    have hs := (Lib.indexByte_some ho).1
    rw [decide_eq_true (by omega)]
    obtain ⟨hj, he⟩ := List.getElem?_eq_some_iff.1 hs
    symm
    simpa using (show b ∈ L by rw [← he]; exact List.getElem_mem _)
theorem contains1_any (b : UInt8) (s : ByteArray) (w : World) : Calls Tryz.prog 137 #[.string s, .string ⟨#[b]⟩] w fun e w' => e = .returned (.bool (s.data.toList.contains b)) ∧ w = w' := by
  refine (Tryz.strings_Contains_one s b w).mono ?_
  rintro e w' ⟨rfl, rfl⟩
  exact ⟨ret_bool (has1 b _), rfl⟩
set_option maxRecDepth 100000 in
set_option maxHeartbeats 4000000 in
theorem refParts47_any (s : ByteArray) (w : World) (hs : s.size ≤ 900000) :
    Calls Tryz.prog 29 #[.string s, .int .u8 47] w (OwnedL w (spl 47 s.data.toList)) := by
  have hsl : s.data.toList.length = s.size := Array.length_toList
  obtain ⟨i0, hi, hz0, hz1, hz2⟩ := info_parts info_str
  have HSL := hid hsl
  clear hsl
  obtain ⟨R, hR⟩ : ∃ R, R = spl 47 s.data.toList := ⟨_, rfl⟩
  have hrl : R.length ≤ s.size + 1 := by have := length_spl 47 s.data.toList; rw [← hR, HSL.out] at this; exact this
  rw [← hR]
  have HR := hid hR
  clear hR
  go_enter Tryz.func29, Tryz.ntmps29
  go_wp2
  go_loopw [5, 6, 7, 11] (fun vo vf _ vk wr => ∃ (k f : Nat) (xs : List (List UInt8)), k ≤ s.size + 1 ∧ f ≤ k ∧ xs.length ≤ k ∧ vk = .int .i64 (k : Int) ∧ vf = .int .i64 (f : Int) ∧ Hid (wr.ownsRow w.heap.size 9 1 vo xs.length ((xs.map strOf).map Value.string)) ∧ Hid (Below w.heap.size w wr) ∧ Hid (k ≤ s.size → spl 47 (s.data.toList.take k) = xs ++ [(s.data.toList.take k).drop f]) ∧ Hid (k = s.size + 1 → R = xs)) (fun _ _ _ vk _ => s.size + 1 - (intOf vk).toNat)
  case atStart => exact ⟨0, 0, [], Nat.zero_le _, Nat.le_refl _, Nat.le_refl _, rfl, rfl, World.ownsRow_nil _ _ _ _, Below.refl _ _, fun _ => rfl, fun h => absurd h (by omega)⟩
  case round =>
    obtain ⟨k, f, xs, hk1, hfk, hxk, rfl, rfl, HO, HB, HW, HE⟩ := hrel
    obtain ⟨m, hm⟩ : ∃ m, m = xs.length := ⟨_, rfl⟩
    rw [← hm] at hxk
    have HM := hid hm
    clear hm
    by_cases hlt : k < s.size + 1
    · have HW2 : Hid (spl 47 (s.data.toList.take k) = xs ++ [(s.data.toList.take k).drop f]) := HW.out (by omega)
      clear HW HE
      obtain ⟨X, hX⟩ : ∃ X, X = s.extract f k := ⟨_, rfl⟩
      have hxe : s.extract f k = X := hX.symm
      have HX : Hid (X = strOf ((s.data.toList.take k).drop f)) := by show _ = _; rw [hX, ext_mid]
      have hfi : (f : Int) ≤ (k : Int) := by omega
      clear hX
      by_cases hks : k < s.size
      · obtain ⟨c, hc⟩ : ∃ c, s[k] = c := ⟨_, rfl⟩
        have hkl : k < s.data.toList.length := by rw [HSL.out]; exact hks
        have hcl : s.data.toList[k] = c := hc
        have HS : Hid (s.data.toList.take (k + 1) = s.data.toList.take k ++ [c]) := by rw [← hcl]; exact take_snoc _ k hkl
        have HTL : Hid ((s.data.toList.take k).length = k) := by show _ = _; rw [List.length_take, HSL.out]; omega
        have q1 : ((k : Int) == (s.size : Int)) = false := by simp; omega
        have hki : (k : Int) ≤ (s.size : Int) := by omega
        clear hkl hcl
        by_cases h47 : c = 47
        · have q2 : ((c.toNat : Int) == 47) = true := by rw [h47]; rfl
          have HN : Hid (spl 47 (s.data.toList.take (k + 1)) = (xs ++ [(s.data.toList.take k).drop f]) ++ [(s.data.toList.take (k + 1)).drop (k + 1)]) := by
            show _ = _
            rw [HS.out, h47, spl_snoc_at 47, HW2.out]
            congr 2
            rw [List.drop_eq_nil_of_le]
            rw [List.length_append, HTL.out]
            exact Nat.le_refl _
          have HFE : Hid (k + 1 = s.size + 1 → R = xs ++ [(s.data.toList.take k).drop f]) := fun h => absurd h (by omega)
          have hown := HO.out
          have hbel := HB.out
          rw [← HM.out] at hown
          clear h47
          go_wp2_with (at_builtin; refine wpList_app rfl _ _ 23 rfl w.heap.size 9 i0 (.string ByteArray.empty) 16 Tryz.underlying23 hi hz0 hz1 hz2 rfl _ m _ rfl hown hbel hbel.size [.string X] 1 rfl rfl (by intro u hu; simp at hu; subst hu; rfl) (by unfold maxLen; omega) (by omega) ?_)
          intro v7 w7 hown7 hbel7
          have HX7 : Hid (w7.ownsRow w.heap.size 9 1 v7 (xs ++ [(s.data.toList.take k).drop f]).length (((xs ++ [(s.data.toList.take k).drop f]).map strOf).map Value.string)) := by
            show World.ownsRow _ _ _ _ _ _ _
            rw [List.length_append, List.map_append, List.map_append, ← HM.out]
            show World.ownsRow _ _ _ _ _ (m + 1) (_ ++ [Value.string (strOf ((s.data.toList.take k).drop f))])
            rw [← HX.out]
            simpa using hown7
          have HY := hid hbel7
          clear hown hbel hown7 hbel7
          go_wp2
          go_roundw
          case rel => exact ⟨k + 1, k + 1, xs ++ [(s.data.toList.take k).drop f], by omega, Nat.le_refl _, by rw [List.length_append, ← HM.out]; show m + 1 ≤ _; omega, by go_num, by go_num, HX7, HY, fun _ => HN.out, HFE⟩
          case measure => simp [intOf]; omega
        · have q2 : ((c.toNat : Int) == 47) = false := ne_u8 (d := 47) h47
          have HN : Hid (spl 47 (s.data.toList.take (k + 1)) = xs ++ [(s.data.toList.take (k + 1)).drop f]) := by
            show _ = _
            obtain ⟨xs', x', e1, e2⟩ := spl_snoc_other 47 c h47 (s.data.toList.take k)
            have h3 := HW2.out.symm.trans e1
            obtain ⟨h4, h5⟩ := List.append_inj' h3 rfl
            have h5 : (s.data.toList.take k).drop f = x' := by simpa using h5
            rw [HS.out, e2, ← h4, ← h5, List.drop_append_of_le_length (by rw [HTL.out]; exact hfk)]
          have HFE : Hid (k + 1 = s.size + 1 → R = xs) := fun h => absurd h (by omega)
          clear h47
          go_wp2
          go_roundw
          case rel => exact ⟨k + 1, f, xs, by omega, by omega, by rw [← HM.out]; omega, by go_num, rfl, HO, HB, fun _ => HN.out, HFE⟩
          case measure => simp [intOf]; omega
      · have hke : k = s.size := by omega
        have q1 : ((k : Int) == (s.size : Int)) = true := by simp; omega
        have hki : (k : Int) ≤ (s.size : Int) := by omega
        have HFE : Hid (k + 1 = s.size + 1 → R = xs ++ [(s.data.toList.take k).drop f]) := by
          intro _
          rw [← HW2.out, HR.out, List.take_of_length_le (by rw [HSL.out, hke]; exact Nat.le_refl _)]
        have HFW : Hid (k + 1 ≤ s.size → spl 47 (s.data.toList.take (k + 1)) = (xs ++ [(s.data.toList.take k).drop f]) ++ [(s.data.toList.take (k + 1)).drop (k + 1)]) := fun h => absurd h (by omega)
        have hown := HO.out
        have hbel := HB.out
        rw [← HM.out] at hown
        clear hke
        go_wp2_with (at_builtin; refine wpList_app rfl _ _ 23 rfl w.heap.size 9 i0 (.string ByteArray.empty) 16 Tryz.underlying23 hi hz0 hz1 hz2 rfl _ m _ rfl hown hbel hbel.size [.string X] 1 rfl rfl (by intro u hu; simp at hu; subst hu; rfl) (by unfold maxLen; omega) (by omega) ?_)
        intro v7 w7 hown7 hbel7
        have HX7 : Hid (w7.ownsRow w.heap.size 9 1 v7 (xs ++ [(s.data.toList.take k).drop f]).length (((xs ++ [(s.data.toList.take k).drop f]).map strOf).map Value.string)) := by
          show World.ownsRow _ _ _ _ _ _ _
          rw [List.length_append, List.map_append, List.map_append, ← HM.out]
          show World.ownsRow _ _ _ _ _ (m + 1) (_ ++ [Value.string (strOf ((s.data.toList.take k).drop f))])
          rw [← HX.out]
          simpa using hown7
        have HY := hid hbel7
        clear hown hbel hown7 hbel7
        go_wp2
        go_roundw
        case rel => exact ⟨k + 1, k + 1, xs ++ [(s.data.toList.take k).drop f], by omega, Nat.le_refl _, by rw [List.length_append, ← HM.out]; show m + 1 ≤ _; omega, by go_num, by go_num, HX7, HY, HFW, HFE⟩
        case measure => simp [intOf]; omega
    · obtain rfl : k = s.size + 1 := by omega
      obtain ⟨vA, vc, rfl, _, _, _⟩ := owns_form HO.out
      have HXX : Hid (OwnedL w R (.returned (.slice vA xs.length vc)) wr) := by
        rw [HE.out rfl]
        exact ⟨_, rfl, HO.out, HB.out⟩
      go_wp2
      go_ret
      exact HXX.out
end Go.Proofs.YtleecmapaihhmaaGreatDoor.Sls
namespace Go.Proofs.YtleecmapaihhmaaGreatDoor.PosA
open Go.RowKit Go.Proofs.YtleecmapaihhmaaGreatDoor.Base Go.Proofs.YtleecmapaihhmaaGreatDoor.Base2 Go.Proofs.YtleecmapaihhmaaGreatDoor.Base3 Go.Proofs.YtleecmapaihhmaaGreatDoor.SlsP Go.Proofs.YtleecmapaihhmaaGreatDoor.PosQ Go.Proofs.YtleecmapaihhmaaGreatDoor.Sls
open Go.Proofs.YtleecmapaihhmaaGreatDoor.Spl (Max)
open Go.Proofs.YtleecmapaihhmaaGreatDoor.UtfR (val)

theorem tl (s : ByteArray) : s.toList = s.data.toList := Lib.toList_data s
theorem cell_at {w : World} {A : Option Addr} {n : Nat} {l : List (List UInt8)} (h : Rds w A n ((l.map strOf).map Value.string)) (k : Nat) (hk : k < n) (hl : l.length = n) : ∃ g off, A = some ⟨g, off, none⟩ ∧ g < w.heap.size ∧ w.cell? ⟨g, off + k, none⟩ = some (.string (strOf (l[k]'(by omega)))) := by
  obtain ⟨g, off, e, hg, hcell⟩ := h.spot (by omega)
  have hc := hcell k (by rw [List.length_map, List.length_map]; omega)
  simp only [List.getElem_map] at hc
  exact ⟨g, off, e, hg, hc⟩
theorem okRow_nil : okRow [] = true := rfl
set_option linter.unusedSimpArgs false in
set_option maxRecDepth 100000 in
set_option maxHeartbeats 8000000 in
theorem rows_any (A : Option Addr) (n cap : Nat) (l : List (List UInt8)) (w : World) (hR : Rds w A n ((l.map strOf).map Value.string)) (hm : n ≤ 1073741824) :
    Calls Tryz.prog 52 #[.slice A n cap] w fun e w' => e = .returned (.bool (okRow l && decide (0 < l.length))) ∧ w = w' := by
  have hl : l.length = n := by rw [← hR.1, List.length_map, List.length_map]
  obtain ⟨E, hE⟩ : ∃ E, E = okRow l := ⟨_, rfl⟩
  have HN := hid hl
  have HR := hid hR
  have HZ : Hid ((okRow l && decide (0 < l.length)) = (E && decide (0 < n))) := by show _ = _; rw [hE, hl]
  have HE0 : Hid (E = okRow (l.drop 0)) := hE
  clear hl hR hE
  go_enter Tryz.func52, Tryz.ntmps52
  go_wp2
  go_loopw [3, 6] (fun _ vk wr => ∃ k : Nat, k ≤ n ∧ vk = .int .i64 (k : Int) ∧ wr = w ∧ Hid (E = okRow (l.drop k))) (fun _ vk _ => n - (intOf vk).toNat)
  case atStart => exact ⟨0, Nat.zero_le _, rfl, rfl, HE0⟩
  case round =>
    clear HE0
    obtain ⟨k, hk, rfl, rfl, HE⟩ := hrel
    by_cases hlt : k < n
    · obtain ⟨g, off, rfl, hg, hc⟩ := cell_at HR.out k hlt HN.out
      obtain ⟨x, hx⟩ : ∃ x, x = l[k]'(by rw [HN.out]; exact hlt) := ⟨_, rfl⟩
      rw [← hx] at hc
      have hok := okRow_drop l k (by rw [HN.out]; exact hlt)
      rw [show l[k]'(by rw [HN.out]; exact hlt) = x from hx.symm, HN.out] at hok
      by_cases h1 : x = [46]
      · have f1 : ((strOf x).toList == [46]) = true := by rw [tl, h1]; rfl
        have HE2 : Hid (E = false) := by show _ = _; rw [HE.out, hok]; simp [okOne, h1]
        clear hok hx h1
        go_wp2
        go_ret
        exact ⟨by rw [HZ.out, HE2.out]; rfl, rfl⟩
      · have f1 : ((strOf x).toList == [46]) = false := by rw [tl, beq_eq_false_iff_ne]; exact h1
        by_cases h2 : x = [46, 46]
        · have f2 : ((strOf x).toList == [46, 46]) = true := by rw [tl, h2]; rfl
          have HE2 : Hid (E = false) := by show _ = _; rw [HE.out, hok]; simp [okOne, h2]
          clear hok hx h1 h2
          go_wp2
          go_ret
          exact ⟨by rw [HZ.out, HE2.out]; rfl, rfl⟩
        · have f2 : ((strOf x).toList == [46, 46]) = false := by rw [tl, beq_eq_false_iff_ne]; exact h2
          by_cases h3 : x = []
          · have f3 : (strOf x).toList = [] := by rw [tl]; exact h3
            by_cases hla : k + 1 = n
            · have hli : ¬ (k : Int) < (n : Int) - 1 := by omega
              have HE2 : Hid (E = okRow (l.drop (k + 1))) := by show _ = _; rw [HE.out, hok]; simp [okOne, h1, h2, h3, hla]
              clear hok hx h1 h2 h3 hla
              go_wp2
              go_roundw
              case rel => exact ⟨k + 1, by omega, by go_num, by first | rfl | trivial, HE2⟩
              case measure => simp [intOf]; omega
            · have hli : (k : Int) < (n : Int) - 1 := by omega
              have HE2 : Hid (E = false) := by show _ = _; rw [HE.out, hok]; simp [okOne, h1, h2, h3, hla]
              clear hok hx h1 h2 h3 hla
              go_wp2
              go_ret
              exact ⟨by rw [HZ.out, HE2.out]; rfl, rfl⟩
          · have f3 : ((strOf x).toList == []) = false := by rw [tl, beq_eq_false_iff_ne]; exact h3
            have f3' : (strOf x).toList.isEmpty = false := by rw [tl]; simpa [strOf] using h3
            have HE2 : Hid (E = okRow (l.drop (k + 1))) := by show _ = _; rw [HE.out, hok]; simp [okOne, h1, h2, h3]
            clear hok hx h1 h2 h3
            go_wp2
            go_roundw
            case rel => exact ⟨k + 1, by omega, by go_num, by first | rfl | trivial, HE2⟩
            case measure => simp [intOf]; omega
    · obtain rfl : k = n := by omega
      have HE2 : Hid (E = true) := by show _ = _; rw [HE.out, List.drop_eq_nil_of_le (by rw [HN.out]; exact Nat.le_refl _)]; rfl
      by_cases h0 : 0 < k
      · have h0i : (0 : Int) < (k : Int) := by omega
        go_wp2
        go_ret
        exact ⟨by rw [HZ.out, HE2.out]; simp [h0], rfl⟩
      · obtain rfl : k = 0 := by omega
        go_wp2
        go_ret
        exact ⟨by rw [HZ.out, HE2.out]; rfl, rfl⟩
end Go.Proofs.YtleecmapaihhmaaGreatDoor.PosA
namespace Go.Proofs.YtleecmapaihhmaaGreatDoor.PosB
open Go.RowKit Go.Proofs.YtleecmapaihhmaaGreatDoor.Base Go.Proofs.YtleecmapaihhmaaGreatDoor.Base2 Go.Proofs.YtleecmapaihhmaaGreatDoor.Base3 Go.Proofs.YtleecmapaihhmaaGreatDoor.SlsP Go.Proofs.YtleecmapaihhmaaGreatDoor.PosQ Go.Proofs.YtleecmapaihhmaaGreatDoor.Sls Go.Proofs.YtleecmapaihhmaaGreatDoor.PosA
open Go.Proofs.YtleecmapaihhmaaGreatDoor.Spl (Max)
open Go.Proofs.YtleecmapaihhmaaGreatDoor.UtfR (val)

theorem pre47 : ∀ L : List UInt8, Lib.hasPrefix L [47] = decide (L.head? = some 47)
  | [] => rfl
  | c :: L => by
    by_cases h : c = 47
    · subst h
      rw [decide_eq_true (show (47 :: L).head? = some 47 from rfl)]
      simp [Lib.hasPrefix, List.isPrefixOf]
    · rw [decide_eq_false (by simpa using h)]
      simp only [Lib.hasPrefix, List.isPrefixOf, Bool.and_true, beq_eq_false_iff_ne, ne_eq]
      exact fun e => h e.symm
theorem ext1 (s : ByteArray) : (s.extract 1 s.size).data.toList = s.data.toList.drop 1 := by
  rw [Regs.ext_drop s 1 s.size rfl]
  rfl
theorem ext1_size (s : ByteArray) : (s.extract 1 s.size).size ≤ s.size := by rw [ByteArray.size_extract]; omega
end Go.Proofs.YtleecmapaihhmaaGreatDoor.PosB
namespace Go.Proofs.YtleecmapaihhmaaGreatDoor.PosS
open Go.RowKit Go.Proofs.YtleecmapaihhmaaGreatDoor.Base Go.Proofs.YtleecmapaihhmaaGreatDoor.UtfA Go.Proofs.YtleecmapaihhmaaGreatDoor.UtfL Go.Proofs.YtleecmapaihhmaaGreatDoor.EscI

theorem byteAll {p : UInt8 → Prop} [∀ c, Decidable (p c)] (h : ∀ n : Fin 256, p (UInt8.ofNat n.val)) (c : UInt8) : p c := by
  have := h ⟨c.toNat, c.toNat_lt⟩
  simpa using this
theorem dig_hex (n : Nat) (h : n < 16) : hex (EscE.dig n).toNat = n := by
  have H : ∀ k : Fin 16, hex ((EscE.dig k.val).toNat : Int) = (k.val : Int) := by decide
  exact H ⟨n, h⟩
theorem esc_one (c : UInt8) (rest : List UInt8) : EscD.esc (37 :: EscE.dig (c.toNat / 16) :: EscE.dig (c.toNat % 16) :: rest) = some c := by
  have hc := c.toNat_lt
  have h1 := dig_hex (c.toNat / 16) (by omega)
  have h2 := dig_hex (c.toNat % 16) (by omega)
  rw [EscD.esc, if_pos ⟨rfl, by rw [h1]; omega, by rw [h2]; omega⟩, h1, h2]
  congr 1
  apply UInt8.toNat_inj.1
  simp
  omega
theorem esc_not (x : UInt8) (t : List UInt8) (h : x ≠ 37) : EscD.esc (x :: t) = none := by
  match t with
  | [] => rfl
  | [_] => rfl
  | _ :: _ :: _ => rw [EscD.esc, if_neg (fun e => h e.1)]
/-- Is such a byte escaped in a component? -/
def odd (c : UInt8) : Bool := inS 4 c.toNat || (decide (c = 37) || (decide (c = 92) || decide (c = 124)))
def one (c : UInt8) : List UInt8 := if odd c = true then [37, EscE.dig (c.toNat / 16), EscE.dig (c.toNat % 16)] else [c]
def seg (L : List UInt8) : List UInt8 := L.flatMap one
theorem seg_cons (c : UInt8) (L : List UInt8) : seg (c :: L) = one c ++ seg L := by simp [seg]
theorem seg_app (a b : List UInt8) : seg (a ++ b) = seg a ++ seg b := by simp [seg]
theorem seg_len (L : List UInt8) : (seg L).length ≤ 3 * L.length := by
  induction L with
  | nil => simp [seg]
  | cons c L ih =>
    have h : (one c).length ≤ 3 := by unfold one; split <;> simp
    rw [seg_cons, List.length_append, List.length_cons]
    omega
theorem dec_seg (L : List UInt8) : EscD.dec (seg L) = L := by
  induction L with
  | nil => rfl
  | cons c L ih =>
    rw [seg_cons]
    unfold one
    split
    · rw [List.cons_append, List.cons_append, List.cons_append, List.nil_append, EscD.dec_some _ _ _ (esc_one c _)]
      simp only [List.drop_succ_cons, List.drop_zero, ih]
    · rename_i hn
      have hne : c ≠ 37 := by
        rintro rfl
        exact hn (by decide +kernel)
      rw [List.cons_append, List.nil_append, EscD.dec_none _ _ (esc_not c _ hne), ih]
theorem one_out (c : UInt8) (h : c ≠ 47) : ∀ d ∈ one c, inS 4 d.toNat = false ∧ d ≠ 47 ∧ d ≠ 92 ∧ d ≠ 124 :=
  byteAll (p := fun c => c ≠ 47 → ∀ d ∈ one c, inS 4 d.toNat = false ∧ d ≠ 47 ∧ d ≠ 92 ∧ d ≠ 124) (by decide +kernel) c h
theorem seg_out {L : List UInt8} (h : ∀ c ∈ L, c ≠ 47) : ∀ d ∈ seg L, inS 4 d.toNat = false ∧ d ≠ 47 ∧ d ≠ 92 ∧ d ≠ 124 := by
  intro d hd
  obtain ⟨c, hc, hm⟩ := List.mem_flatMap.1 hd
  exact one_out c (h c hc) d hm
end Go.Proofs.YtleecmapaihhmaaGreatDoor.PosS
namespace Go.Proofs.YtleecmapaihhmaaGreatDoor.PosC
open Go.RowKit Go.Proofs.YtleecmapaihhmaaGreatDoor.Base Go.Proofs.YtleecmapaihhmaaGreatDoor.Base2 Go.Proofs.YtleecmapaihhmaaGreatDoor.Base3 Go.Proofs.YtleecmapaihhmaaGreatDoor.BldA Go.Proofs.YtleecmapaihhmaaGreatDoor.BldK Go.Proofs.YtleecmapaihhmaaGreatDoor.SlsP Go.Proofs.YtleecmapaihhmaaGreatDoor.Sls Go.Proofs.YtleecmapaihhmaaGreatDoor.PosA
open Go.Proofs.YtleecmapaihhmaaGreatDoor.PosS (byteAll seg seg_app seg_len)
open Go.Proofs.YtleecmapaihhmaaGreatDoor.EscR (str_cut)

theorem in4 (c : UInt8) (w : World) : Calls Tryz.prog 53 #[.int .i64 4, .int .u8 (c.toNat : Int)] w fun e w' => e = .returned (.bool (EscI.inS 4 c.toNat)) ∧ w = w' := by
  by_cases h : 32 ≤ (c.toNat : Int) ∧ (c.toNat : Int) ≤ 126
  · exact EscI.ref_4 _ w h.1 h.2
  · exact EscI.ref_far 4 _ w (by omega) (by omega) (by omega)
/-- The bytes that a path has as they are, but that would be read otherwise. -/
def alike (c : UInt8) : Bool := [37, 92, 124].contains c
theorem seg1 (c : UInt8) : (alike c = true → EscE.enc 6 [c] = PosS.one c) ∧ (alike c = false → EscE.enc 4 [c] = PosS.one c) :=
  byteAll (p := fun c => (alike c = true → EscE.enc 6 [c] = PosS.one c) ∧ (alike c = false → EscE.enc 4 [c] = PosS.one c)) (by decide +kernel) c
theorem one_row (c : UInt8) (w : World) : Rds (w.alloc (.cells #[.int .u8 (c.toNat : Int)] 5)) (some ⟨w.heap.size, 0, none⟩) 1 (bcells [c]) := rds_const w [c] 5 (0, 0)
theorem seg_snoc (L : List UInt8) (c : UInt8) : seg (L ++ [c]) = seg L ++ PosS.one c := by rw [seg_app]; congr 1; simp [seg]
theorem one_len (c : UInt8) : (PosS.one c).length ≤ 3 := by unfold PosS.one; split <;> simp
set_option linter.unusedSimpArgs false in
set_option maxRecDepth 100000 in
set_option maxHeartbeats 8000000 in
theorem segment_any (s : ByteArray) (w : World) (hs : s.size ≤ 10000000) :
    Calls Tryz.prog 14 #[.string s] w fun e w' => e = .returned (.string (strOf (seg s.data.toList))) ∧ Below w.heap.size w w' := by
  have hl : s.data.toList.length = s.size := Array.length_toList
  have HL := hid hl
  clear hl
  have HB0 : Hid (IsB w.heap.size w.heap.size [] (w.alloc (.cells #[.pointer none, .slice none 0 0] 50))) := Lib.fresh_isBuilder 50 5 w
  go_enter Tryz.func14, Tryz.ntmps14
  go_wp2
  go_loopw [4, 5] (fun vk _ wr => ∃ k : Nat, k ≤ s.size ∧ vk = .int .i64 (k : Int) ∧ Hid (IsB w.heap.size w.heap.size (seg (s.data.toList.take k)) wr) ∧ Hid (Below w.heap.size w wr)) (fun vk _ _ => s.size - (intOf vk).toNat)
  case atStart => exact ⟨0, Nat.zero_le _, rfl, HB0.out, (Below.refl _ _).alloc (Nat.le_refl _) _⟩
  case round =>
    clear HB0
    obtain ⟨k, hk, rfl, HB, HBL⟩ := hrel
    have hsz : w.heap.size ≤ wr.heap.size := HBL.out.size
    by_cases hlt : k < s.size
    · obtain ⟨c, hc⟩ : ∃ c, s[k] = c := ⟨_, rfl⟩
      have hkl : k < s.data.toList.length := by rw [HL.out]; exact hlt
      have hcl : s.data.toList[k] = c := hc
      have HS : Hid (seg (s.data.toList.take (k + 1)) = seg (s.data.toList.take k) ++ PosS.one c) := by
        show _ = _
        rw [take_snoc _ k hkl, hcl, seg_snoc]
      have hlen : (seg (s.data.toList.take k)).length ≤ 3 * k := by
        have := seg_len (s.data.toList.take k)
        rw [List.length_take, HL.out] at this
        omega
      obtain ⟨X, hX⟩ : ∃ X, X = seg (s.data.toList.take k) := ⟨_, rfl⟩
      rw [← hX] at HS HB hlen
      obtain ⟨a, ha⟩ : ∃ a, a = alike c := ⟨_, rfl⟩
      have HIX : Hid (∀ w : World, Calls Tryz.prog 25 #[.string ⟨#[37, 92, 124]⟩, .int .u8 (c.toNat : Int)] w fun e w' => ∃ z : Int, e = .returned (.int .i64 z) ∧ decide (0 ≤ z) = a ∧ w' = w) := fun w => by
        refine (Tryz.strings_IndexByte ⟨#[37, 92, 124]⟩ _ w).mono ?_
        rintro e w' ⟨rfl, rfl⟩
        refine ⟨_, rfl, ?_, rfl⟩
        rw [show ((c.toNat : Int).toNat.toUInt8) = c by simp, has1, ha]
        rfl
      have hone := one_len c
      cases a with
      | true =>
        have HEN : Hid (∀ (A : Option Addr) (n cap : Nat) (w : World), Rds w A n (bcells [c]) → n ≤ 1073741824 → Calls Tryz.prog 27 #[.int .i64 6, .slice A n cap] w fun e w' => e = .returned (.string (strOf (PosS.one c))) ∧ Below w.heap.size w w') := fun A n cap w h1 h2 => by rw [← (seg1 c).1 ha.symm]; exact EscE.encode_any 6 A n cap [c] w h1 h2
        clear ha hX hkl hcl
        go_wp2_with fail
        refine (HIX.out _).mono ?_
        rintro e w2 ⟨z, rfl, hz, hw2⟩
        subst hw2
        have hz1 : 0 ≤ z := by simpa using hz
        go_wp2_with fail
        refine (HEN.out _ 1 1 _ (one_row c _) (by omega)).mono ?_
        rintro e w3 ⟨rfl, hb3⟩
        have hbw := ((Below.refl w2.heap.size w2).alloc (Nat.le_refl _) (.cells #[.int .u8 (c.toNat : Int)] 5)).trans (hb3.mono (by simp))
        have HB3 := hid (isB_below HB.out hbw)
        have HBL3 : Hid (Below w.heap.size w w3) := HBL.out.trans (hbw.mono hsz)
        have hsz3 : w.heap.size ≤ w3.heap.size := HBL3.out.size
        clear hbw hb3 hz
        go_wp2_with fail
        refine (write_any _ _ _ _ _ HB3.out (by rw [size_strOf]; omega) hsz3).mono ?_
        rintro e w4 ⟨rfl, hb4, hb5⟩
        have HB4 : Hid (IsB w.heap.size w.heap.size (seg (s.data.toList.take (k + 1))) w4) := by show IsB _ _ _ _; rw [HS.out]; exact hb4
        have HBL4 := hid (HBL3.out.trans hb5)
        clear hb4 hb5 hlen hone
        go_wp2
        go_roundw
        case rel => exact ⟨k + 1, by omega, by go_num, HB4, HBL4⟩
        case measure => simp [intOf]; omega
      | false =>
        have HEN : Hid (∀ (A : Option Addr) (n cap : Nat) (w : World), Rds w A n (bcells [c]) → n ≤ 1073741824 → Calls Tryz.prog 27 #[.int .i64 4, .slice A n cap] w fun e w' => e = .returned (.string (strOf (PosS.one c))) ∧ Below w.heap.size w w') := fun A n cap w h1 h2 => by rw [← (seg1 c).2 ha.symm]; exact EscE.encode_any 4 A n cap [c] w h1 h2
        clear ha hX hkl hcl
        go_wp2_with fail
        refine (HIX.out _).mono ?_
        rintro e w2 ⟨z, rfl, hz, hw2⟩
        subst hw2
        have hz1 : ¬ 0 ≤ z := by simpa using hz
        go_wp2_with fail
        refine (HEN.out _ 1 1 _ (one_row c _) (by omega)).mono ?_
        rintro e w3 ⟨rfl, hb3⟩
        have hbw := ((Below.refl w2.heap.size w2).alloc (Nat.le_refl _) (.cells #[.int .u8 (c.toNat : Int)] 5)).trans (hb3.mono (by simp))
        have HB3 := hid (isB_below HB.out hbw)
        have HBL3 : Hid (Below w.heap.size w w3) := HBL.out.trans (hbw.mono hsz)
        have hsz3 : w.heap.size ≤ w3.heap.size := HBL3.out.size
        clear hbw hb3 hz
        go_wp2_with fail
        refine (write_any _ _ _ _ _ HB3.out (by rw [size_strOf]; omega) hsz3).mono ?_
        rintro e w4 ⟨rfl, hb4, hb5⟩
        have HB4 : Hid (IsB w.heap.size w.heap.size (seg (s.data.toList.take (k + 1))) w4) := by show IsB _ _ _ _; rw [HS.out]; exact hb4
        have HBL4 := hid (HBL3.out.trans hb5)
        clear hb4 hb5 hlen hone
        go_wp2
        go_roundw
        case rel => exact ⟨k + 1, by omega, by go_num, HB4, HBL4⟩
        case measure => simp [intOf]; omega
    · obtain rfl : k = s.size := by omega
      have HT : Hid (seg (s.data.toList.take s.size) = seg s.data.toList) := by show _ = _; rw [List.take_of_length_le (by rw [HL.out]; exact Nat.le_refl _)]
      go_wp2_with fail
      refine (string_any _ _ _ _ HB.out hsz).mono ?_
      rintro e w3 ⟨rfl, hb3⟩
      have HB3 := hid (HBL.out.trans hb3)
      clear hb3
      go_wp2
      go_ret
      exact ⟨by rw [← HT.out]; first | done | rfl, HB3.out⟩
set_option linter.unusedSimpArgs false in
set_option maxRecDepth 100000 in
set_option maxHeartbeats 8000000 in
theorem refSegment_any (s : ByteArray) (w : World) (hs : s.size ≤ 10000000) :
    Calls Tryz.prog 32 #[.string s] w fun e w' => e = .returned (.string (strOf (seg s.data.toList))) ∧ Below w.heap.size w w' := by
  have hl : s.data.toList.length = s.size := Array.length_toList
  have HL := hid hl
  clear hl
  go_enter Tryz.func32, Tryz.ntmps32
  go_wp2
  go_loopw [3, 4, 7] (fun vo _ vk wr => ∃ (k : Nat) (X : List UInt8), k ≤ s.size ∧ vo = .string (strOf X) ∧ vk = .int .i64 (k : Int) ∧ Hid (X = seg (s.data.toList.take k)) ∧ Hid (Below w.heap.size w wr)) (fun _ _ vk _ => s.size - (intOf vk).toNat)
  case atStart => exact ⟨0, [], Nat.zero_le _, rfl, rfl, rfl, Below.refl _ _⟩
  case round =>
    obtain ⟨k, X, hk, rfl, rfl, HX, HBL⟩ := hrel
    by_cases hlt : k < s.size
    · obtain ⟨c, hc⟩ : ∃ c, s[k] = c := ⟨_, rfl⟩
      have hkl : k < s.data.toList.length := by rw [HL.out]; exact hlt
      have hcl : s.data.toList[k] = c := hc
      obtain ⟨Y, hY⟩ : ∃ Y, Y = seg (s.data.toList.take (k + 1)) := ⟨_, rfl⟩
      have HY := hid hY
      have HS : Hid (Y = X ++ PosS.one c) := by
        show _ = _
        rw [hY, take_snoc _ k hkl, hcl, seg_snoc, HX.out]
      have hXl : X.length ≤ 3 * k := by
        have := seg_len (s.data.toList.take k)
        rw [List.length_take, HL.out, ← HX.out] at this
        omega
      obtain ⟨q, hq⟩ : ∃ q, q = EscI.inS 4 c.toNat := ⟨_, rfl⟩
      have HIN : Hid (∀ w : World, Calls Tryz.prog 53 #[.int .i64 4, .int .u8 (c.toNat : Int)] w fun e w' => e = .returned (.bool q) ∧ w = w') := fun w => by rw [hq]; exact in4 c w
      have HON := hid (fun w => EscR.one_any c w)
      have HQ := hid hq
      clear hq hkl hcl hY
      cases q with
      | true =>
        have HO : Hid (PosS.one c = [37, EscE.dig (c.toNat / 16), EscE.dig (c.toNat % 16)]) := by show _ = _; unfold PosS.one; rw [if_pos (by unfold PosS.odd; rw [← HQ.out]; simp)]
        have hadd : ∀ W : World, (Op.stringOp .add (strOf X) (strOf [37, EscE.dig (c.toNat / 16), EscE.dig (c.toNat % 16)])).run Tryz.prog W = .ok (.string (strOf Y)) W := fun W => by rw [str_add X _ W (by simp; omega), ← HO.out, ← HS.out]
        clear hXl
        go_wp2_with fail
        refine (HIN.out _).mono ?_
        rintro e w2 ⟨rfl, hw2⟩
        subst hw2
        go_wp2_with fail
        refine (HON.out _).mono ?_
        rintro e w3 ⟨rfl, hb3⟩
        have HB3 := hid (bel HBL.out hb3)
        clear hb3
        go_wp2
        go_roundw
        case rel => exact ⟨k + 1, Y, by omega, rfl, by go_num, HY, HB3⟩
        case measure => simp [intOf]; omega
      | false =>
        by_cases e37 : c = 37
        · have q37 : ((c.toNat : Int) == 37) = true := by rw [e37]; rfl
          have HO : Hid (PosS.one c = [37, EscE.dig (c.toNat / 16), EscE.dig (c.toNat % 16)]) := by show _ = _; unfold PosS.one; rw [if_pos (by unfold PosS.odd; simp [e37])]
          have hadd : ∀ W : World, (Op.stringOp .add (strOf X) (strOf [37, EscE.dig (c.toNat / 16), EscE.dig (c.toNat % 16)])).run Tryz.prog W = .ok (.string (strOf Y)) W := fun W => by rw [str_add X _ W (by simp; omega), ← HO.out, ← HS.out]
          clear hXl e37
          go_wp2_with fail
          refine (HIN.out _).mono ?_
          rintro e w2 ⟨rfl, hw2⟩
          subst hw2
          go_wp2_with fail
          refine (HON.out _).mono ?_
          rintro e w3 ⟨rfl, hb3⟩
          have HB3 := hid (bel HBL.out hb3)
          clear hb3
          go_wp2
          go_roundw
          case rel => exact ⟨k + 1, Y, by omega, rfl, by go_num, HY, HB3⟩
          case measure => simp [intOf]; omega
        · have q37 : ((c.toNat : Int) == 37) = false := ne_u8 (d := 37) e37
          by_cases e92 : c = 92
          · have q92 : ((c.toNat : Int) == 92) = true := by rw [e92]; rfl
            have HO : Hid (PosS.one c = [37, EscE.dig (c.toNat / 16), EscE.dig (c.toNat % 16)]) := by show _ = _; unfold PosS.one; rw [if_pos (by unfold PosS.odd; simp [e92])]
            have hadd : ∀ W : World, (Op.stringOp .add (strOf X) (strOf [37, EscE.dig (c.toNat / 16), EscE.dig (c.toNat % 16)])).run Tryz.prog W = .ok (.string (strOf Y)) W := fun W => by rw [str_add X _ W (by simp; omega), ← HO.out, ← HS.out]
            clear hXl e37 e92
            go_wp2_with fail
            refine (HIN.out _).mono ?_
            rintro e w2 ⟨rfl, hw2⟩
            subst hw2
            go_wp2_with fail
            refine (HON.out _).mono ?_
            rintro e w3 ⟨rfl, hb3⟩
            have HB3 := hid (bel HBL.out hb3)
            clear hb3
            go_wp2
            go_roundw
            case rel => exact ⟨k + 1, Y, by omega, rfl, by go_num, HY, HB3⟩
            case measure => simp [intOf]; omega
          · have q92 : ((c.toNat : Int) == 92) = false := ne_u8 (d := 92) e92
            by_cases e124 : c = 124
            · have q124 : ((c.toNat : Int) == 124) = true := by rw [e124]; rfl
              have HO : Hid (PosS.one c = [37, EscE.dig (c.toNat / 16), EscE.dig (c.toNat % 16)]) := by show _ = _; unfold PosS.one; rw [if_pos (by unfold PosS.odd; simp [e124])]
              have hadd : ∀ W : World, (Op.stringOp .add (strOf X) (strOf [37, EscE.dig (c.toNat / 16), EscE.dig (c.toNat % 16)])).run Tryz.prog W = .ok (.string (strOf Y)) W := fun W => by rw [str_add X _ W (by simp; omega), ← HO.out, ← HS.out]
              clear hXl e37 e92 e124
              go_wp2_with fail
              refine (HIN.out _).mono ?_
              rintro e w2 ⟨rfl, hw2⟩
              subst hw2
              go_wp2_with fail
              refine (HON.out _).mono ?_
              rintro e w3 ⟨rfl, hb3⟩
              have HB3 := hid (bel HBL.out hb3)
              clear hb3
              go_wp2
              go_roundw
              case rel => exact ⟨k + 1, Y, by omega, rfl, by go_num, HY, HB3⟩
              case measure => simp [intOf]; omega
            · have q124 : ((c.toNat : Int) == 124) = false := ne_u8 (d := 124) e124
              have HO : Hid (PosS.one c = [c]) := by show _ = _; unfold PosS.one; rw [if_neg (by unfold PosS.odd; rw [← HQ.out]; simp [e37, e92, e124])]
              have hadd : ∀ W : World, (Op.stringOp .add (strOf X) (strOf [c])).run Tryz.prog W = .ok (.string (strOf Y)) W := fun W => by rw [str_add X _ W (by simp; omega), ← HO.out, ← HS.out]
              have hct := str_cut s k hlt
              rw [hc] at hct
              have hk1 : (k : Int) + 1 ≤ (s.size : Int) := by omega
              clear hXl e37 e92 e124
              go_wp2_with fail
              refine (HIN.out _).mono ?_
              rintro e w2 ⟨rfl, hw2⟩
              subst hw2
              go_wp2
              go_roundw
              case rel => exact ⟨k + 1, Y, by omega, rfl, by go_num, HY, HBL⟩
              case measure => simp [intOf]; omega
    · obtain rfl : k = s.size := by omega
      have HT : Hid (X = seg s.data.toList) := by show _ = _; rw [HX.out, List.take_of_length_le (by rw [HL.out]; exact Nat.le_refl _)]
      go_wp2
      go_ret
      exact ⟨by rw [← HT.out]; first | done | rfl, HBL.out⟩
/-- What a row of components is as segments. -/
def segs (l : List (List UInt8)) : List (List UInt8) := l.map seg
set_option linter.unusedSimpArgs false in
set_option maxRecDepth 100000 in
set_option maxHeartbeats 8000000 in
theorem segments_any (A : Option Addr) (n cap : Nat) (l : List (List UInt8)) (w : World) (hR : Rds w A n ((l.map strOf).map Value.string)) (hm : n ≤ 1000000) (hx : ∀ x ∈ l, x.length ≤ 1000000) :
    Calls Tryz.prog 16 #[.slice A n cap] w (OwnedL w (l.map seg)) := by
  have hl : l.length = n := by rw [← hR.1, List.length_map, List.length_map]
  obtain ⟨i0, hi, hz0, hz1, hz2⟩ := info_parts info_str
  have HN := hid hl
  have HR := hid hR
  have HXX := hid hx
  clear hl hR hx
  go_enter Tryz.func16, Tryz.ntmps16
  go_wp2
  go_loopw [3, 4, 7] (fun vo _ vk wr => ∃ k : Nat, k ≤ n ∧ vk = .int .i64 (k : Int) ∧ Hid (wr.ownsRow w.heap.size 9 1 vo k ((((l.take k).map seg).map strOf).map Value.string)) ∧ Hid (Below w.heap.size w wr)) (fun _ _ vk _ => n - (intOf vk).toNat)
  case atStart => exact ⟨0, Nat.zero_le _, rfl, World.ownsRow_nil _ _ _ _, Below.refl _ _⟩
  case round =>
    obtain ⟨k, hk, rfl, HO, HB⟩ := hrel
    by_cases hlt : k < n
    · obtain ⟨g, off, rfl, hg, hc⟩ := cell_at (HR.out.below HB.out) k hlt HN.out
      obtain ⟨x, hxd⟩ : ∃ x, x = l[k]'(by rw [HN.out]; exact hlt) := ⟨_, rfl⟩
      have hxs : x.length ≤ 1000000 := by rw [hxd]; exact HXX.out _ (List.getElem_mem _)
      have HT : Hid (l.take (k + 1) = l.take k ++ [x]) := by show _ = _; rw [take_snoc l k (by rw [HN.out]; exact hlt), ← hxd]
      rw [← hxd] at hc
      have HXS := hid hxs
      clear hxd hxs
      go_wp2_with fail
      refine (refSegment_any (strOf x) _ (by rw [size_strOf]; have := HXS.out; omega)).mono ?_
      rintro e w3 ⟨rfl, hb3⟩
      rw [show (strOf x).data.toList = x from rfl]
      have hown0 := owns_below HO.out hb3
      obtain ⟨R, hRd⟩ : ∃ R, R = (((l.take k).map seg).map strOf).map Value.string := ⟨_, rfl⟩
      have hown : w3.ownsRow w.heap.size 9 1 u3 k R := by rw [hRd]; exact hown0
      have HRD := hid hRd
      clear hown0 hRd
      have hbel := bel HB.out hb3
      obtain ⟨sx, hsx⟩ : ∃ sx, sx = strOf (seg x) := ⟨_, rfl⟩
      rw [← hsx]
      have HSX := hid hsx
      clear hb3 hsx
      go_wp2_with (at_builtin; refine wpList_app rfl _ _ 23 rfl w.heap.size 9 i0 (.string ByteArray.empty) 16 Tryz.underlying23 hi hz0 hz1 hz2 rfl _ k _ rfl hown hbel hbel.size [.string sx] 1 rfl rfl (by intro u hu; simp at hu; subst hu; rfl) (by unfold maxLen; omega) (by omega) ?_)
      intro v7 w7 hown7 hbel7
      have HX7 : Hid (w7.ownsRow w.heap.size 9 1 v7 (k + 1) ((((l.take (k + 1)).map seg).map strOf).map Value.string)) := by
        show World.ownsRow _ _ _ _ _ _ _
        rw [HT.out, List.map_append, List.map_append, List.map_append, ← HRD.out]
        show World.ownsRow _ _ _ _ _ _ (R ++ [Value.string (strOf (seg x))])
        rw [← HSX.out]
        exact hown7
      have HY := hid hbel7
      clear hown hbel hown7 hbel7
      go_wp2
      go_roundw
      case rel => exact ⟨k + 1, by omega, by go_num, HX7, HY⟩
      case measure => simp [intOf]; omega
    · obtain rfl : k = n := by omega
      have HX : Hid (OwnedL w (l.map seg) (.returned u3) wr) := ⟨u3, rfl, by have h := HO.out; rw [List.take_of_length_le (by rw [HN.out]; exact Nat.le_refl _)] at h; rw [List.length_map, HN.out]; exact h, HB.out⟩
      go_wp2
      go_ret
      exact HX.out
end Go.Proofs.YtleecmapaihhmaaGreatDoor.PosC
namespace Go.Proofs.YtleecmapaihhmaaGreatDoor.PosU
open Go.RowKit Go.Proofs.YtleecmapaihhmaaGreatDoor.Base Go.Proofs.YtleecmapaihhmaaGreatDoor.Regs Go.Proofs.YtleecmapaihhmaaGreatDoor.Base2 Go.Proofs.YtleecmapaihhmaaGreatDoor.Base3 Go.Proofs.YtleecmapaihhmaaGreatDoor.SlsP Go.Proofs.YtleecmapaihhmaaGreatDoor.PosQ Go.Proofs.YtleecmapaihhmaaGreatDoor.Sls Go.Proofs.YtleecmapaihhmaaGreatDoor.PosA Go.Proofs.YtleecmapaihhmaaGreatDoor.PosB Go.Proofs.YtleecmapaihhmaaGreatDoor.PosC
open Go.Proofs.YtleecmapaihhmaaGreatDoor.PosS (seg)
open Go.Proofs.YtleecmapaihhmaaGreatDoor.Spl (Max)

/-- A file's URL's cells: its host, its path's slice. -/
def fcells (h : List UInt8) (p : Value) : Array Value := #[.string ⟨#[102, 105, 108, 101]⟩, .string ⟨#[]⟩, .string ⟨#[]⟩, .string (strOf h), .bool true, .int .i64 (-1), .bool false, .string ⟨#[]⟩, p, .bool false, .bool false, .string ⟨#[]⟩, .string ⟨#[]⟩]
def zcells : Array Value := #[.string ⟨#[]⟩, .string ⟨#[]⟩, .string ⟨#[]⟩, .string ⟨#[]⟩, .bool false, .int .i64 0, .bool false, .string ⟨#[]⟩, .slice none 0 0, .bool false, .bool false, .string ⟨#[]⟩, .string ⟨#[]⟩]
def Bx (w : World) (g : Nat) (cs : Array Value) : Prop := w.heap[g]? = some (.cells cs 25 (0, 0))
variable {w w' : World} {g : Nat} {cs ds : Array Value}
theorem Bx.lt (h : Bx w g cs) : g < w.heap.size := (Array.getElem?_eq_some_iff.1 h).1
theorem Bx.below (h : Bx w g cs) (hb : Below w.heap.size w w') : Bx w' g cs := (hb.block g h.lt).trans h
theorem Bx.under {B : Nat} (h : Bx w g cs) (hb : Below B w w') (hg : g < B) : Bx w' g cs := (hb.block g hg).trans h
theorem Bx.load (h : Bx w g cs) (hs : cs.size = 13) : (loadVar 25 ⟨g, 0, none⟩).run Tryz.prog w = .ok (.agg cs) w :=
  run_loadVar_row w g _ _ cs (0, 0) _ h Tryz.underlying25 rfl (by rw [hs]; kernel_rfl)
theorem Bx.path {h : List UInt8} {p : Value} (hB : Bx w g (fcells h p)) (q : Value) : Bx (w.setCell ⟨g, 8, none⟩ q) g (fcells h q) := heap_setCell_same w g 8 _ _ _ hB
theorem Bx.set {k i : Nat} (h : Bx w g cs) (x : Value) (hk : g ≠ k) : Bx (w.setCell ⟨k, i, none⟩ x) g cs := (heap_setCell_other w ⟨k, i, none⟩ g x hk).trans h
theorem Bx.cell8 {h : List UInt8} {p : Value} (hB : Bx w g (fcells h p)) : w.cell? ⟨g, 8, none⟩ = some p ∧ w.frozen? ⟨g, 8, none⟩ = false := ⟨cell_of_row w g 8 _ _ _ hB, frozen_of_row w g 8 _ _ hB⟩
theorem Bx.facts {h : List UInt8} {p : Value} (hB : Bx w g (fcells h p)) : w.cell? ⟨g, 0, none⟩ = some (.string ⟨#[102, 105, 108, 101]⟩) ∧ w.cell? ⟨g, 1, none⟩ = some (.string ⟨#[]⟩) ∧ w.cell? ⟨g, 2, none⟩ = some (.string ⟨#[]⟩) ∧ w.cell? ⟨g, 3, none⟩ = some (.string (strOf h)) ∧ w.cell? ⟨g, 4, none⟩ = some (.bool true) ∧ w.cell? ⟨g, 5, none⟩ = some (.int .i64 (-1)) ∧ w.cell? ⟨g, 6, none⟩ = some (.bool false) ∧ w.cell? ⟨g, 7, none⟩ = some (.string ⟨#[]⟩) ∧ w.cell? ⟨g, 8, none⟩ = some (p) ∧ w.cell? ⟨g, 9, none⟩ = some (.bool false) ∧ w.cell? ⟨g, 10, none⟩ = some (.bool false) ∧ w.cell? ⟨g, 11, none⟩ = some (.string ⟨#[]⟩) ∧ w.cell? ⟨g, 12, none⟩ = some (.string ⟨#[]⟩) :=
  ⟨cell_of_row w g 0 _ _ _ hB, cell_of_row w g 1 _ _ _ hB, cell_of_row w g 2 _ _ _ hB, cell_of_row w g 3 _ _ _ hB, cell_of_row w g 4 _ _ _ hB, cell_of_row w g 5 _ _ _ hB, cell_of_row w g 6 _ _ _ hB, cell_of_row w g 7 _ _ _ hB, cell_of_row w g 8 _ _ _ hB, cell_of_row w g 9 _ _ _ hB, cell_of_row w g 10 _ _ _ hB, cell_of_row w g 11 _ _ _ hB, cell_of_row w g 12 _ _ _ hB⟩
theorem Bx.row (h : Bx w g cs) (ds : Array Value) : Bx (w.setRow g ds) g ds := setRow_heap w g cs ds _ (0, 0) h
theorem laid (w : World) (a : Array Value) (T : TypeId) : (w.alloc (.cells a T)).heap[w.heap.size]? = some (.cells a T (0, 0)) ∧ Below w.heap.size w (w.alloc (.cells a T)) :=
  ⟨heap_alloc_new w _, (Below.refl _ _).alloc (Nat.le_refl _) _⟩
/-- A whole URL is stored into a box. -/
theorem store_cs {ops : Array Oper} {rest : List Oper} {o : Oper} {a : Act} {Q : Exit → Act → World → Prop} (hU : Bx w g cs) (ds : Array Value) (hs : cs.size = 13) (hs2 : ds.size = 13) (h1 : ds.all (·.oneCell') = true) (x y : Operand) (ho : o.op = .store 25 x y) (hgd : o.guard = none)
    (hx : a.eval x = .pointer (some ⟨g, 0, none⟩)) (hy : a.eval y = .agg ds)
    (h : wpList Tryz.prog ops Q rest (a.put o.dst undef) (w.setRow g ds)) : wpList Tryz.prog ops Q (o :: rest) a w :=
  wpList_store_row hgd 25 x y ho g ds hx hy 25 cs hU (by rw [hs2]; kernel_rfl) (by rw [hs, hs2]) h1 h
theorem size_f (h : List UInt8) (p : Value) : (fcells h p).size = 13 := rfl
theorem one_f (h : List UInt8) (A : Option Addr) (n c : Nat) : (fcells h (.slice A n c)).all (·.oneCell') = true := by simp [fcells, Value.oneCell']
theorem one_z : zcells.all (·.oneCell') = true := by simp [zcells, Value.oneCell']
/-- What is answered: a box and a number, or a box and a word. -/
theorem res {fn : Func} {a b : Tmp} (h : fn.results = #[.cell a 25, .tmp b]) (hU : Bx w g cs) (hs : cs.size = 13) (v : Value) (tmps : Array Value) (h2 : tmps.getD a undef = .pointer (some ⟨g, 0, none⟩)) (h3 : tmps.getD b undef = v) :
    (results fn tmps).run Tryz.prog w = .ok (.tuple #[.agg cs, v]) w := by
  have hp' : tmps[a]?.getD undef = .pointer (some ⟨g, 0, none⟩) := by simpa using h2
  have hq' : tmps[b]?.getD undef = v := by simpa using h3
  simp [results, h, hp', hq', asAddr, hU.load hs]
theorem below_setRow {B : Nat} {w0 : World} (h : Below B w0 w) (hg : B ≤ g) (ds : Array Value) : Below B w0 (w.setRow g ds) := by
  refine ⟨h.os, h.tape, h.output, ?_, fun k hk => (setRow_other w g k ds (by omega)).trans (h.block k hk)⟩
  simpa [World.setRow] using h.size
theorem below_row {B : Nat} {w0 : World} (h : Below B w0 w) (hg : B ≤ g) (ds : Array Value) : Below B w0 (w.setRow g ds) := below_setRow h hg ds
/-- A file's URL of these segments, beside what says that all is well; or none. -/
def AnsF (yes no : Value) (hst : List UInt8) (w : World) (o : Option (List (List UInt8))) (e : Ending) (w' : World) : Prop := Below w.heap.size w w' ∧ match o with
  | none => e = .returned (.tuple #[.agg zcells, no])
  | some l => ∃ A n c, e = .returned (.tuple #[.agg (fcells hst (.slice A n c)), yes]) ∧ w'.ownsRow w.heap.size 9 1 (.slice A n c) n ((l.map strOf).map Value.string)
theorem ansf_none {yes no : Value} {hst : List UInt8} {o : Option (List (List UInt8))} (ho : o = none) (hb : Below w.heap.size w w') : AnsF yes no hst w o (.returned (.tuple #[.agg zcells, no])) w' := by
  subst ho
  exact ⟨hb, rfl⟩
theorem ansf_some {yes no : Value} {hst : List UInt8} {o : Option (List (List UInt8))} {l : List (List UInt8)} (ho : o = some l) (hb : Below w.heap.size w w') {A : Option Addr} {n c : Nat} (hown : w'.ownsRow w.heap.size 9 1 (.slice A n c) n ((l.map strOf).map Value.string)) : AnsF yes no hst w o (.returned (.tuple #[.agg (fcells hst (.slice A n c)), yes])) w' := by
  subst ho
  exact ⟨hb, A, n, c, rfl, hown⟩
theorem owns_set {B n : Nat} {e : TypeId} {v x : Value} {xs : List Value} {i : Nat} (h : w.ownsRow B e 1 v n xs) (hg : g < B) : (w.setCell ⟨g, i, none⟩ x).ownsRow B e 1 v n xs := by
  refine ⟨h.1, ?_⟩
  rcases h.2 with hn | ⟨k, cap, cur, rfl, hb, hh, rest⟩
  · exact .inl hn
  · exact .inr ⟨k, cap, cur, rfl, hb, (heap_setCell_other _ _ _ _ (show k ≠ g by omega)).trans hh, rest⟩
theorem owns_row {B n : Nat} {e : TypeId} {v : Value} {xs : List Value} (h : w.ownsRow B e 1 v n xs) (hg : g < B) (ds : Array Value) : (w.setRow g ds).ownsRow B e 1 v n xs := by
  refine ⟨h.1, ?_⟩
  rcases h.2 with hn | ⟨k, cap, cur, rfl, hb, hh, rest⟩
  · exact .inl hn
  · exact .inr ⟨k, cap, cur, rfl, hb, (setRow_other _ _ _ _ (show k ≠ g by omega)).trans hh, rest⟩
/-- What the code's parts of a text lie in. -/
def RowAt (w : World) (b : Nat) (l : List (List UInt8)) : Prop := w.heap[b]? = some (.cells ((l.map strOf).map Value.string).toArray 9 (0, 0))
theorem RowAt.lt {b : Nat} {l : List (List UInt8)} (h : RowAt w b l) : b < w.heap.size := (Array.getElem?_eq_some_iff.1 h).1
theorem RowAt.cell {b : Nat} {l : List (List UInt8)} (h : RowAt w b l) (k : Nat) (hk : k < l.length) : w.cell? ⟨b, k, none⟩ = some (.string (strOf l[k])) := (cell_of_row w b k _ _ _ h).trans (by simp [hk])
theorem RowAt.rds {b : Nat} {l : List (List UInt8)} (h : RowAt w b l) : Rds w (some ⟨b, 0, none⟩) l.length ((l.map strOf).map Value.string) :=
  Rds.of_spot (by simp) h.lt (fun j hj => by
    have hj' : j < l.length := by simpa using hj
    rw [Nat.zero_add, cell_of_row w b j _ _ _ h]
    simp [hj'])
theorem split_row (b : UInt8) (s : ByteArray) (w : World) (hs : s.size ≤ 1073741824) (hM : Max w) : Calls Tryz.prog 20 #[.string s, .string ⟨#[b]⟩] w fun e w' => e = .returned (.slice (some ⟨w.heap.size, 0, none⟩) (spl b s.data.toList).length (spl b s.data.toList).length) ∧ RowAt w' w.heap.size (spl b s.data.toList) ∧ Below w.heap.size w w' := by
  obtain ⟨m, hm⟩ := hM
  refine (Tryz.strings_Split s ⟨#[b]⟩ m w (by omega) hm (Nat.le_refl _)).mono ?_
  rintro e w' ⟨rfl, rfl⟩
  have hd := Lib.splitB_data ⟨#[b]⟩ 0 (Lib.countB s ⟨#[b]⟩) s
  rw [show (⟨#[b]⟩ : ByteArray).data.toList = [b] from rfl, Spl.splitK_gen b (spl b) rfl (spl_at b) (spl_not b) _ _ (by rw [← Lib.count_one]; exact Nat.le_refl _)] at hd
  have hl := Lib.splitB_all ⟨#[b]⟩ (Nat.le_refl _) 0 _ s rfl
  generalize Lib.splitB ⟨#[b]⟩ 0 (Lib.countB s ⟨#[b]⟩) s = B at hd hl ⊢
  have hB : B = (spl b s.data.toList).map strOf := by
    rw [← hd, List.map_map]
    conv => lhs; rw [← List.map_id B]
    exact List.map_congr_left fun x _ => (strOf_toList x).symm
  have hn : Lib.countB s ⟨#[b]⟩ + 1 = (spl b s.data.toList).length := by rw [← hl, hB, List.length_map]
  refine ⟨by rw [hn], ?_, (Below.refl _ _).alloc (Nat.le_refl _) _⟩
  unfold RowAt
  rw [← hB]
  exact heap_alloc_new w _
theorem one_cell (w : World) (x : Value) (T : TypeId) : Rds (w.alloc (.cells #[x] T)) (some ⟨w.heap.size, 0, none⟩) 1 [x] :=
  Rds.of_spot rfl (by simp) (fun j hj => by
    simp at hj
    subst hj
    rw [Nat.zero_add, World.cell?_alloc_mark]
    rfl)
theorem one_str (s : ByteArray) : ∀ u ∈ [Value.string s], u.oneCell' = true := by
  intro u hu
  simp at hu
  subst hu
  rfl
/-- What a path's URL's segments are. -/
def urlP (L : List UInt8) : Option (List (List UInt8)) := if fine L = true then some ((spl 47 (L.drop 1)).map seg) else none
end Go.Proofs.YtleecmapaihhmaaGreatDoor.PosU
