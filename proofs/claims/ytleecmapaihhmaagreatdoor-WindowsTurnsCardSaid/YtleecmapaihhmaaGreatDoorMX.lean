/- Texts that belong together: WinC. -/
import Derived.Test.YtleecmapaihhmaaGreatDoorMW
import Derived.Test.YtleecmapaihhmaaGreatDoorME
import Derived.Test.YtleecmapaihhmaaGreatDoorMA
set_option linter.unusedSimpArgs false
set_option linter.unusedVariables false
namespace Go.Proofs.YtleecmapaihhmaaGreatDoor.WinC
open Go.RowKit Go.Proofs.YtleecmapaihhmaaGreatDoor.Base Go.Proofs.YtleecmapaihhmaaGreatDoor.Base2 Go.Proofs.YtleecmapaihhmaaGreatDoor.SlsP Go.Proofs.YtleecmapaihhmaaGreatDoor.PosQ Go.Proofs.YtleecmapaihhmaaGreatDoor.Sls Go.Proofs.YtleecmapaihhmaaGreatDoor.PosA Go.Proofs.YtleecmapaihhmaaGreatDoor.WinP Go.Proofs.YtleecmapaihhmaaGreatDoor.WinA Go.Proofs.YtleecmapaihhmaaGreatDoor.WinB Go.Proofs.YtleecmapaihhmaaGreatDoor.WinR Go.Proofs.YtleecmapaihhmaaGreatDoor.Regs
open Go.Proofs.YtleecmapaihhmaaGreatDoor.PthP (nrm)
open Go.Proofs.YtleecmapaihhmaaGreatDoor.SixG (Lad)
open Go.Proofs.YtleecmapaihhmaaGreatDoor.Spl (Max)

structure Env (w : World) : Prop where
  pow : Tab.Pow w
  lad : Lad w
  max : Max w
theorem Env.below {w w' : World} (h : Env w) (hb : Below w.heap.size w w') : Env w' := ⟨Tab.Pow.below h.pow hb, h.lad.below hb, h.max.below hb⟩
/-- A box of parts. -/
def PX (w : World) (g : Nat) (d h : ByteArray) (v : Value) : Prop := w.heap[g]? = some (.cells #[.string d, .string h, v] 36 (0, 0))
section
variable {w w' : World} {g : Nat} {d h : ByteArray} {v : Value}
theorem PX.lt (x : PX w g d h v) : g < w.heap.size := (Array.getElem?_eq_some_iff.1 x).1
theorem PX.below (x : PX w g d h v) (hb : Below w.heap.size w w') : PX w' g d h v := (hb.block g x.lt).trans x
theorem PX.row (x : PX w g d h v) (d' h' : ByteArray) (v' : Value) : PX (w.setRow g #[.string d', .string h', v']) g d' h' v' := setRow_heap w g _ _ _ (0, 0) x
theorem PX.facts (x : PX w g d h v) : w.cell? ⟨g, 0, none⟩ = some (.string d) ∧ w.cell? ⟨g, 1, none⟩ = some (.string h) ∧ w.cell? ⟨g, 2, none⟩ = some v := ⟨cell_of_row w g 0 _ _ _ x, cell_of_row w g 1 _ _ _ x, cell_of_row w g 2 _ _ _ x⟩
end
theorem res2p {w : World} {g : Nat} {d h : ByteArray} {v : Value} {fn : Func} {a b : Tmp} (hr : fn.results = #[.cell a 36, .tmp b]) (hU : PX w g d h v) (ok : Bool) (tmps : Array Value) (h2 : tmps.getD a undef = .pointer (some ⟨g, 0, none⟩)) (h3 : tmps.getD b undef = .bool ok) :
    (results fn tmps).run Tryz.prog w = .ok (.tuple #[.agg #[.string d, .string h, v], .bool ok]) w := by
  have hp' : tmps[a]?.getD undef = .pointer (some ⟨g, 0, none⟩) := by simpa using h2
  have hq' : tmps[b]?.getD undef = .bool ok := by simpa using h3
  have hl : (loadVar 36 ⟨g, 0, none⟩).run Tryz.prog w = .ok (.agg #[.string d, .string h, v]) w := run_loadVar_row w g _ _ #[.string d, .string h, v] (0, 0) _ hU Tryz.underlying36 rfl (by kernel_rfl)
  simp [results, hr, hp', hq', asAddr, hl]
theorem store_px {w : World} {g : Nat} {d h : ByteArray} {v : Value} {ops : Array Oper} {rest : List Oper} {o : Oper} {a : Act} {Q : Exit → Act → World → Prop} (hU : PX w g d h v) (d' h' : ByteArray) (A : Option Addr) (n c : Nat) (x y : Operand) (ho : o.op = .store 36 x y) (hgd : o.guard = none)
    (hx : a.eval x = .pointer (some ⟨g, 0, none⟩)) (hy : a.eval y = .agg #[.string d', .string h', .slice A n c])
    (hh : wpList Tryz.prog ops Q rest (a.put o.dst undef) (w.setRow g #[.string d', .string h', .slice A n c])) : wpList Tryz.prog ops Q (o :: rest) a w :=
  wpList_store_row hgd 36 x y ho g #[.string d', .string h', .slice A n c] hx hy 36 #[.string d, .string h, v] hU (by kernel_rfl) rfl (by simp [Value.oneCell']) hh
/-- The pieces: a slice of its own. -/
def Fresh (w : World) (l : List (List UInt8)) (e : Ending) (w' : World) : Prop := ∃ n c, e = .returned (.slice (some ⟨w.heap.size, 0, none⟩) n c) ∧ l.length = n ∧ n ≤ c ∧ c ≤ maxLen ∧ Rds w' (some ⟨w.heap.size, 0, none⟩) n ((l.map strOf).map Value.string) ∧ Below w.heap.size w w'
theorem fresh92 (s : ByteArray) (w : World) (hs : s.size ≤ 1073741824) (hM : Max w) : Calls Tryz.prog 20 #[.string s, .string ⟨#[92]⟩] w (Fresh w (spl 92 s.data.toList)) := by
  obtain ⟨m, hm⟩ := hM
  refine (Tryz.strings_Split s ⟨#[92]⟩ m w (by omega) hm (Nat.le_refl _)).mono ?_
  rintro e w' ⟨rfl, rfl⟩
  have hd := Lib.splitB_data ⟨#[92]⟩ 0 (Lib.countB s ⟨#[92]⟩) s
  rw [show (⟨#[92]⟩ : ByteArray).data.toList = [92] from rfl, Spl.splitK_gen 92 (spl 92) rfl (spl_at 92) (spl_not 92) _ _ (by rw [← Lib.count_one]; exact Nat.le_refl _)] at hd
  have hl := Lib.splitB_all ⟨#[92]⟩ (Nat.le_refl _) 0 _ s rfl
  have hc := Lib.countB_le ⟨#[92]⟩ (Nat.le_refl _) s.size s (Nat.le_refl _)
  generalize Lib.splitB ⟨#[92]⟩ 0 (Lib.countB s ⟨#[92]⟩) s = B at hd hl ⊢
  have hB : B = (spl 92 s.data.toList).map strOf := by
    rw [← hd, List.map_map]
    conv => lhs; rw [← List.map_id B]
    exact List.map_congr_left fun x _ => (strOf_toList x).symm
  have hlen : (spl 92 s.data.toList).length = B.length := by rw [hB, List.length_map]
  unfold Fresh
  rw [← hB, hlen]
  refine ⟨_, _, rfl, hl, Nat.le_refl _, by unfold maxLen; omega, ?_, (Below.refl _ _).alloc (Nat.le_refl _) _⟩
  exact Rds.of_spot (by rw [List.length_map, hl]) (by simp) (fun j hj => by
    rw [Nat.zero_add, World.cell?_alloc_mark]
    simp)
theorem rds_row {w : World} {b off n g : Nat} {xs : List Value} (h : Rds w (some ⟨b, off, none⟩) n xs) (hg : b ≠ g) (c : Array Value) : Rds (w.setRow g c) (some ⟨b, off, none⟩) n xs := by
  refine ⟨h.1, fun j hj => ?_⟩
  obtain ⟨b', off', e, hlt, hc⟩ := h.2 j hj
  injection e with e
  injection e with e1 e2
  subst e1 e2
  refine ⟨b, off, rfl, Nat.lt_of_lt_of_le hlt (below_setRow (Below.refl g w) (Nat.le_refl _) c).size, ?_⟩
  rw [← hc]
  unfold World.cell?
  rw [setRow_other w g b c hg]
/-- A drawn region that stores the parts: what is kept. -/
structure Qi (w0 : World) (g b n : Nat) (xs : List Value) (d h : ByteArray) (v : Value) (k : Nat) (L : Nat → Bool) (w : World) : Prop where
  no : L k = false → PX w g ⟨#[]⟩ ⟨#[]⟩ (.slice none 0 0)
  yes : L k = true → PX w g d h v
  bel : Below w0.heap.size w0 w
  le : w0.heap.size ≤ g
  rds : Rds w (some ⟨b, 0, none⟩) n xs
  ne : b ≠ g
theorem qs {w0 : World} {g b n : Nat} {xs : List Value} {d h : ByteArray} {v : Value} {k : Nat} {L : Nat → Bool} {w w' : World} (i : Nat) (hi : (i == k) = false) (hb : Below w.heap.size w w') (hG : Qi w0 g b n xs d h v k L w) : Qi w0 g b n xs d h v k (did L i) w' := by
  rw [beq_eq_false_iff_ne] at hi
  have e := did_ne L (Ne.symm hi)
  exact ⟨fun x => (hG.no (e ▸ x)).below hb, fun x => (hG.yes (e ▸ x)).below hb, hG.bel.trans (hb.mono hG.bel.size), hG.le, hG.rds.below hb, hG.ne⟩
theorem qk {w0 : World} {g b n : Nat} {xs : List Value} {d h : ByteArray} {A : Option Addr} {m c : Nat} {k : Nat} {L : Nat → Bool} {w : World} (hL : L k = false) (hG : Qi w0 g b n xs d h (.slice A m c) k L w) : Qi w0 g b n xs d h (.slice A m c) k (did L k) (w.setRow g #[.string d, .string h, .slice A m c]) := by
  have e := did_self L k
  exact ⟨fun x => by (rw [e] at x; cases x), fun _ => (hG.no hL).row _ _ _, below_setRow hG.bel hG.le _, hG.le, rds_row hG.rds hG.ne _, hG.ne⟩
/-- What is answered: the parts, if it is fine. -/
def AnsA (w : World) (o : Option W3) (e : Ending) (w' : World) : Prop := Below w.heap.size w w' ∧ match o with
  | none => ∃ d h A n c, e = .returned (.tuple #[.agg #[.string d, .string h, .slice A n c], .bool false])
  | some (d, h, l) => ∃ A c, e = .returned (.tuple #[.agg #[.string (strOf d), .string (strOf h), .slice A l.length c], .bool true]) ∧ l.length ≤ c ∧ c ≤ maxLen ∧ Rds w' A l.length ((l.map strOf).map Value.string)
theorem near_eq : ∀ l : List (List UInt8), near l = (decide (2 ≤ l.length) && nrm (l.getD 0 []) && wrow (l.drop 1))
  | [] => rfl
  | [a] => by simp [near]
  | a :: b :: r => by simp [near]
theorem far_eq : ∀ l : List (List UInt8), far l = (decide (4 ≤ l.length) && decide (l.getD 0 [] = []) && decide (l.getD 1 [] = []) && who (l.getD 2 []) && decide (l.getD 3 [] ≠ []) && wrow (l.drop 3))
  | [] => rfl
  | [a] => rfl
  | [a, b] => rfl
  | [a, b, c] => rfl
  | a :: b :: c :: x :: r => by simp [far]
theorem wap_near (l : List (List UInt8)) (h1 : 2 ≤ l.length) (h2 : nrm (l.getD 0 []) = true) : wap l = if wrow (l.drop 1) = true then some (l.getD 0 [], [], l.drop 1) else none := by
  have hn := near_eq l
  rw [decide_eq_true h1, h2] at hn
  have hf : far l = false := by
    rw [far_eq]
    have : l.getD 0 [] ≠ [] := by intro e; rw [e] at h2; exact absurd h2 (by decide)
    rw [decide_eq_false this]
    simp
  unfold wap three
  rw [hf, hn]
  cases wrow (l.drop 1) <;> rfl
theorem wap_far (l : List (List UInt8)) (h : ¬ (2 ≤ l.length ∧ nrm (l.getD 0 []) = true)) : wap l = if (4 ≤ l.length ∧ l.getD 0 [] = [] ∧ l.getD 1 [] = [] ∧ who (l.getD 2 []) = true ∧ l.getD 3 [] ≠ [] ∧ wrow (l.drop 3) = true) then some ([], l.getD 2 [], l.drop 3) else none := by
  have hn : near l = false := by
    rw [near_eq]
    by_cases h1 : 2 ≤ l.length
    · have : nrm (l.getD 0 []) = false := by
        cases e : nrm (l.getD 0 []) with
        | false => rfl
        | true => exact absurd ⟨h1, e⟩ h
      rw [this]
      simp
    · rw [decide_eq_false h1]; rfl
  have hf := far_eq l
  unfold wap three
  rw [hn]
  by_cases c : 4 ≤ l.length ∧ l.getD 0 [] = [] ∧ l.getD 1 [] = [] ∧ who (l.getD 2 []) = true ∧ l.getD 3 [] ≠ [] ∧ wrow (l.drop 3) = true
  · obtain ⟨c1, c2, c3, c4, c5, c6⟩ := c
    rw [decide_eq_true c1, decide_eq_true c2, decide_eq_true c3, c4, decide_eq_true c5, c6] at hf
    rw [if_pos (.inr hf), if_neg (by decide), if_pos ⟨c1, c2, c3, c4, c5, c6⟩]
  · rw [if_neg c, if_neg]
    rintro (e | e)
    · cases e
    · rw [hf] at e
      simp only [Bool.and_eq_true, decide_eq_true_eq] at e
      exact c ⟨e.1.1.1.1.1, e.1.1.1.1.2, e.1.1.1.2, e.1.1.2, e.1.2, e.2⟩
theorem at_k {w : World} {g n : Nat} {l : List (List UInt8)} (h : Rds w (some ⟨g, 0, none⟩) n ((l.map strOf).map Value.string)) (k : Nat) (hk : k < n) : w.cell? ⟨g, k, none⟩ = some (.string (strOf (l.getD k []))) := by
  have hl : l.length = n := by rw [← h.1, List.length_map, List.length_map]
  obtain ⟨g', off, e, _, hc⟩ := cell_at h k hk hl
  injection e with e
  injection e with e1 e2
  subst e1 e2
  rw [Nat.zero_add] at hc
  rw [hc, List.getD_eq_getElem?_getD, List.getElem?_eq_getElem (by omega)]
  rfl
theorem ansA_of {w w' : World} {O : Option W3} {W : Bool} {d h : List UInt8} {l : List (List UInt8)} {A : Option Addr} {n c : Nat} (hO : O = if W = true then some (d, h, l) else none) (hb : Below w.heap.size w w') (hn : l.length = n) (hc : n ≤ c) (hm : c ≤ maxLen) (hR : Rds w' A n ((l.map strOf).map Value.string)) : AnsA w O (.returned (.tuple #[.agg #[.string (strOf d), .string (strOf h), .slice A n c], .bool W])) w' := by
  subst hO
  refine ⟨hb, ?_⟩
  cases W with
  | true => subst hn; exact ⟨A, c, rfl, hc, hm, hR⟩
  | false => exact ⟨_, _, _, _, _, rfl⟩
theorem ansA_no {w w' : World} {O : Option W3} {d h : ByteArray} {A : Option Addr} {n c : Nat} (hO : O = none) (hb : Below w.heap.size w w') : AnsA w O (.returned (.tuple #[.agg #[.string d, .string h, .slice A n c], .bool false])) w' := by
  subst hO
  exact ⟨hb, _, _, _, _, _, rfl⟩
set_option linter.unusedSimpArgs false in
set_option maxRecDepth 100000 in
set_option maxHeartbeats 8000000 in
theorem apart_any (s : ByteArray) (w : World) (hs : s.size ≤ 900000) (hE : Env w) : Calls Tryz.prog 13 #[.string s] w (AnsA w (wapart s.data.toList)) := by
  have hl : s.data.toList.length = s.size := Array.length_toList
  obtain ⟨O, hO⟩ : ∃ O, O = wapart s.data.toList := ⟨_, rfl⟩
  rw [← hO]
  obtain ⟨l, hll⟩ : ∃ l, l = pcs s.data.toList := ⟨_, rfl⟩
  have hO2 : O = wap l := by rw [hO, hll]; rfl
  have hne : l ≠ [] := by rw [hll]; exact spl_ne 92 _
  have hlen : l.length ≤ 900001 := by rw [hll]; have := length_spl 92 (s.data.toList.map bs); rw [List.length_map, hl] at this; exact Nat.le_trans this (by omega)
  have hz : ∀ x ∈ l, x.length ≤ 900000 := by
    intro x hx
    rw [hll] at hx
    have := (spl_len 92 _ x hx)
    rw [List.length_map, hl] at this
    omega
  obtain ⟨R, hR⟩ : ∃ R, R = s.data.toList.map bs := ⟨_, rfl⟩
  have HRE : Hid (∀ w : World, Max w → Calls Tryz.prog 21 #[.string s, .string ⟨#[47]⟩, .string ⟨#[92]⟩] w fun e w' => e = .returned (.string (strOf R)) ∧ Below w.heap.size w w') := fun w h => by rw [hR]; exact replace_any s w (by omega) h
  have HSP : Hid (∀ w : World, Max w → Calls Tryz.prog 20 #[.string (strOf R), .string ⟨#[92]⟩] w (Fresh w l)) := fun w h => by
    have e : l = spl 92 (strOf R).data.toList := by rw [hll, hR]; rfl
    rw [e]
    exact fresh92 (strOf R) w (by rw [size_strOf, hR, List.length_map]; omega) h
  have hon := fun h1 h2 => wap_near l h1 h2
  have hof := fun h => wap_far l h
  rw [← hO2] at hon hof
  have hz1 : ∀ x ∈ l.drop 1, x.length ≤ 900000 := fun x hx => hz x (List.mem_of_mem_drop hx)
  have hz3 : ∀ x ∈ l.drop 3, x.length ≤ 900000 := fun x hx => hz x (List.mem_of_mem_drop hx)
  have hz2 : (l.getD 2 []).length ≤ 900000 := by
    rw [List.getD_eq_getElem?_getD]
    cases e : l[2]? with
    | none => exact Nat.zero_le _
    | some y => exact hz y (List.mem_of_getElem? e)
  obtain ⟨a, ha⟩ : ∃ a, a = l.getD 0 [] := ⟨_, rfl⟩
  obtain ⟨b, hb⟩ : ∃ b, b = l.getD 1 [] := ⟨_, rfl⟩
  obtain ⟨h, hh⟩ : ∃ h, h = l.getD 2 [] := ⟨_, rfl⟩
  obtain ⟨x, hx⟩ : ∃ x, x = l.getD 3 [] := ⟨_, rfl⟩
  obtain ⟨L1, hL1⟩ : ∃ L, L = l.drop 1 := ⟨_, rfl⟩
  obtain ⟨L3, hL3⟩ : ∃ L, L = l.drop 3 := ⟨_, rfl⟩
  rw [← ha, ← hL1] at hon
  rw [← ha, ← hb, ← hh, ← hx, ← hL3] at hof
  rw [← hL1] at hz1
  rw [← hL3] at hz3
  rw [← hh] at hz2
  obtain ⟨nr, hnr⟩ : ∃ nr, nr = nrm a := ⟨_, rfl⟩
  obtain ⟨W1, hW1⟩ : ∃ W, W = wrow L1 := ⟨_, rfl⟩
  obtain ⟨W3, hW3⟩ : ∃ W, W = wrow L3 := ⟨_, rfl⟩
  obtain ⟨wh, hwh⟩ : ∃ W, W = who h := ⟨_, rfl⟩
  rw [← hnr, ← hW1] at hon
  rw [← hnr, ← hW3, ← hwh] at hof
  have HNR : Hid (∀ w : World, Calls Tryz.prog 22 #[.string (strOf a)] w fun e w' => e = .returned (.bool nr) ∧ w = w') := fun w => by rw [hnr]; exact PthB.normal_any (strOf a) w
  have HWH : Hid (∀ w : World, Env w → Calls Tryz.prog 24 #[.string (strOf h)] w fun e w' => e = .returned (.bool wh) ∧ Below w.heap.size w w') := fun w E => by rw [hwh]; exact host_any (strOf h) w (by rw [size_strOf]; exact hz2) E.lad E.pow E.max
  have HF1 : Hid (∀ (A : Option Addr) (n cap : Nat) (w : World), Rds w A n ((L1.map strOf).map Value.string) → n ≤ 1073741824 → Calls Tryz.prog 23 #[.slice A n cap] w fun e w' => e = .returned (.bool W1) ∧ Below w.heap.size w w') := fun A n cap w hR hn => by rw [hW1]; exact allFree_any A n cap L1 w hR hn hz1
  have HF3 : Hid (∀ (A : Option Addr) (n cap : Nat) (w : World), Rds w A n ((L3.map strOf).map Value.string) → n ≤ 1073741824 → Calls Tryz.prog 23 #[.slice A n cap] w fun e w' => e = .returned (.bool W3) ∧ Below w.heap.size w w') := fun A n cap w hR hn => by rw [hW3]; exact allFree_any A n cap L3 w hR hn hz3
  obtain ⟨n, hn⟩ : ∃ n, l.length = n := ⟨_, rfl⟩
  rw [hn] at hon hof hlen
  have hn0 : 0 < n := by rw [← hn]; exact List.length_pos_iff.2 hne
  have HC : Hid (∀ (w : World) (g m : Nat), Rds w (some ⟨g, 0, none⟩) m ((l.map strOf).map Value.string) → m = n → w.cell? ⟨g, 0, none⟩ = some (.string (strOf a)) ∧ (1 < n → w.cell? ⟨g, 1, none⟩ = some (.string (strOf b))) ∧ (2 < n → w.cell? ⟨g, 2, none⟩ = some (.string (strOf h))) ∧ (3 < n → w.cell? ⟨g, 3, none⟩ = some (.string (strOf x)))) := fun w g m hR e => by
    subst e
    exact ⟨by rw [ha]; exact at_k hR 0 hn0, fun k => by rw [hb]; exact at_k hR 1 k, fun k => by rw [hh]; exact at_k hR 2 k, fun k => by rw [hx]; exact at_k hR 3 k⟩
  have HD1 : Hid (∀ (w : World) (g : Nat), Rds w (some ⟨g, 0, none⟩) n ((l.map strOf).map Value.string) → Rds w (some ⟨g, 1, none⟩) (n - 1) ((L1.map strOf).map Value.string)) := fun w g hR => by
    have := hR.cut 1 (by omega)
    rw [hL1, List.map_drop, List.map_drop]
    exact this
  have HD3 : Hid (3 ≤ n → ∀ (w : World) (g : Nat), Rds w (some ⟨g, 0, none⟩) n ((l.map strOf).map Value.string) → Rds w (some ⟨g, 3, none⟩) (n - 3) ((L3.map strOf).map Value.string)) := fun hk w g hR => by
    have := hR.cut 3 hk
    rw [hL3, List.map_drop, List.map_drop]
    exact this
  have HON := hid hon
  have HOF := hid hof
  have HE := hid hE
  have HN := hid hn
  have HLE := hid hlen
  have HLL1 : Hid (L1.length = n - 1) := by show _ = _; rw [hL1, List.length_drop, hn]
  have HLL3 : Hid (L3.length = n - 3) := by show _ = _; rw [hL3, List.length_drop, hn]
  clear hl hO hll hO2 hne hlen hz hR hE hs hon hof hz1 hz2 hz3 ha hb hh hx hL1 hL3 hnr hW1 hW3 hwh hn
  go_enter Tryz.func13, Tryz.ntmps13
  go_upto_region 1 with (fail)
  generalize hwa : World.alloc w _ = v1
  have hxa : PX v1 w.heap.size ⟨#[]⟩ ⟨#[]⟩ (.slice none 0 0) := by rw [← hwa]; exact heap_alloc_new _ _
  have hb : Below w.heap.size w v1 := by rw [← hwa]; exact (Below.refl _ _).alloc (Nat.le_refl _) _
  have HX1 := hid hxa
  have HB1 := hid hb
  have E1 := hid (HE.out.below hb)
  clear hwa hxa hb
  go_wp2_with fail
  refine (HRE.out _ E1.out.max).mono ?_
  rintro e w2 ⟨rfl, hb⟩
  have HB2 := hid (bel HB1.out hb)
  have HX2 := hid (HX1.out.below hb)
  have E2 := hid (E1.out.below hb)
  clear hb
  go_wp2_with fail
  refine (HSP.out _ E2.out.max).mono ?_
  rintro e w3 ⟨n3, c3, rfl, hn3, hnc, hcm, hR, hb⟩
  have HB3 := hid (bel HB2.out hb)
  have HX3 := hid (HX2.out.below hb)
  have E3 := hid (E2.out.below hb)
  obtain rfl : n3 = n := by rw [← hn3]; exact HN.out
  have HR3 := hid hR
  have HNB : Hid (w2.heap.size ≠ w.heap.size) := by show _ ≠ _; have := HX2.out.lt; omega
  have HLW : Hid (w.heap.size ≤ w2.heap.size) := HB2.out.size
  have HC3 := hid (HC.out w3 _ _ hR rfl)
  clear hb hR hn3
  obtain ⟨hc0, hc1, hc2, hc3⟩ := HC3.out
  have hl9 := HLE.out
  unfold maxLen at hcm
  by_cases h2 : 2 ≤ n3
  · have hnI : (1 : Int) < (n3 : Int) := by omega
    replace hc1 := hc1 (by omega)
    cases nr with
    | true =>
      go_wp2_with fail
      refine (HNR.out _).mono ?_
      rintro e w4 ⟨rfl, hw4⟩
      subst hw4
      go_upto_region 4 with (fail)
      refine wp_region_rel_tail (by kernel_rfl) 7 [is (.slice (some ⟨w2.heap.size, 0, none⟩) n3 c3), is (.pointer (some ⟨w2.heap.size, 0, none⟩)), is (.string (strOf a)), is (.slice (some ⟨w2.heap.size, 1, none⟩) (n3 - 1) (c3 - 1)), is (.agg #[.string (strOf a), .string ⟨#[]⟩, .slice (some ⟨w2.heap.size, 1, none⟩) (n3 - 1) (c3 - 1)]), is (.slice (some ⟨w2.heap.size, 1, none⟩) (n3 - 1) (c3 - 1)), is (.bool W1)] [[], [0], [0, 1], [], [0, 1, 2, 3], [], [5], [0, 1, 2, 3, 4, 5, 6]] (by kernel_rfl) ?_ ?_
      · refine ⟨?_, ?_, ?_, ?_, ?_, ?_, ?_, trivial⟩
        · intro t wq hbq hh K hK
          clear hh
          simp only [filled, filledN, upd, Have, is, any, row, pick, Act.put, List.setIfInBounds_toArray, List.set_cons_zero, List.set_cons_succ, Nat.reduceAdd, Nat.reduceEqDiff, reduceIte] at hK ⊢
          go_simp
          exact hK _ _ (Below.refl _ _) rfl
        · intro t wq hbq hh K hK
          have e0 := hh.1
          simp only [pick] at e0
          replace e0 : t 0 = (.slice (some ⟨w2.heap.size, 0, none⟩) n3 c3) := e0
          clear hh
          simp only [filled, filledN, upd, Have, is, any, row, pick, Act.put, List.setIfInBounds_toArray, List.set_cons_zero, List.set_cons_succ, Nat.reduceAdd, Nat.reduceEqDiff, reduceIte] at hK ⊢
          simp only [e0] at hK ⊢
          go_simp
          exact hK _ _ (Below.refl _ _) rfl
        · intro t wq hbq hh K hK
          have e1 := hh.2.1
          simp only [pick] at e1
          replace e1 : t 1 = (.pointer (some ⟨w2.heap.size, 0, none⟩)) := e1
          clear hh
          simp only [filled, filledN, upd, Have, is, any, row, pick, Act.put, List.setIfInBounds_toArray, List.set_cons_zero, List.set_cons_succ, Nat.reduceAdd, Nat.reduceEqDiff, reduceIte] at hK ⊢
          simp only [e1] at hK ⊢
          obtain ⟨hd0, hd1, hd2, hd3⟩ := HC.out wq _ _ (HR3.out.below hbq) rfl
          go_simp
          exact hK _ _ (Below.refl _ _) rfl
        · intro t wq hbq hh K hK
          clear hh
          simp only [filled, filledN, upd, Have, is, any, row, pick, Act.put, List.setIfInBounds_toArray, List.set_cons_zero, List.set_cons_succ, Nat.reduceAdd, Nat.reduceEqDiff, reduceIte] at hK ⊢
          go_simp
          exact hK _ _ (Below.refl _ _) rfl
        · intro t wq hbq hh K hK
          have e2 := hh.2.2.1
          simp only [pick] at e2
          replace e2 : t 2 = (.string (strOf a)) := e2
          have e3 := hh.2.2.2.1
          simp only [pick] at e3
          replace e3 : t 3 = (.slice (some ⟨w2.heap.size, 1, none⟩) (n3 - 1) (c3 - 1)) := e3
          clear hh
          simp only [filled, filledN, upd, Have, is, any, row, pick, Act.put, List.setIfInBounds_toArray, List.set_cons_zero, List.set_cons_succ, Nat.reduceAdd, Nat.reduceEqDiff, reduceIte] at hK ⊢
          simp only [e2, e3] at hK ⊢
          go_simp
          exact hK _ _ (Below.refl _ _) rfl
        · intro t wq hbq hh K hK
          clear hh
          simp only [filled, filledN, upd, Have, is, any, row, pick, Act.put, List.setIfInBounds_toArray, List.set_cons_zero, List.set_cons_succ, Nat.reduceAdd, Nat.reduceEqDiff, reduceIte] at hK ⊢
          go_simp
          exact hK _ _ (Below.refl _ _) rfl
        · intro t wq hbq hh K hK
          have e5 := hh.1
          simp only [pick] at e5
          replace e5 : t 5 = (.slice (some ⟨w2.heap.size, 1, none⟩) (n3 - 1) (c3 - 1)) := e5
          clear hh
          simp only [filled, filledN, upd, Have, is, any, row, pick, Act.put, List.setIfInBounds_toArray, List.set_cons_zero, List.set_cons_succ, Nat.reduceAdd, Nat.reduceEqDiff, reduceIte] at hK ⊢
          simp only [e5] at hK ⊢
          go_simp
          refine (HF1.out _ _ _ _ (HD1.out _ _ (HR3.out.below hbq)) (by omega)).mono ?_
          rintro e w9 ⟨rfl, hb9⟩
          exact hK _ _ hb9 rfl
      · intro t wq hbq hh
        have f4 := have_get hh 4 (by decide)
        simp only [pick] at f4
        replace f4 : t 4 = (.agg #[.string (strOf a), .string ⟨#[]⟩, .slice (some ⟨w2.heap.size, 1, none⟩) (n3 - 1) (c3 - 1)]) := f4
        have f6 := have_get hh 6 (by decide)
        simp only [pick] at f6
        replace f6 : t 6 = (.bool W1) := f6
        clear hh
        simp only [filled, filledN, upd, Have, is, any, row, pick, Act.put, List.setIfInBounds_toArray, List.set_cons_zero, List.set_cons_succ, Nat.reduceAdd, Nat.reduceEqDiff, reduceIte]
        simp only [f4, f6]
        have HBq := hid (bel HB3.out hbq)
        have HXq := hid (HX3.out.below hbq)
        have HRq := hid (HR3.out.below hbq)
        clear hbq
        refine store_px HXq.out (strOf a) ⟨#[]⟩ _ _ _ (.tmp 2) (.tmp 26) rfl rfl rfl rfl ?_
        go_wp2
        try simp only [Exit.inBlock, Exit.then]
        exact bodyPost_ret (w := World.setRow wq w.heap.size #[.string (strOf a), .string ⟨#[]⟩, .slice (some ⟨w2.heap.size, 1, none⟩) (n3 - 1) (c3 - 1)]) (res2p rfl (HXq.out.row _ _ _) W1 _ rfl rfl) rfl (ansA_of (h := []) (HON.out h2 (by trivial)) (below_setRow HBq.out (Nat.le_refl _) _) HLL1.out (by omega) (by unfold maxLen; omega) (HD1.out _ _ (rds_row HRq.out HNB.out _)))
    | false =>
      by_cases h4 : 4 ≤ n3
      · have h4I : (3 : Int) < (n3 : Int) := by omega
        replace hc2 := hc2 (by omega)
        replace hc3 := hc3 (by omega)
        have h0J : (0 : Int) < (n3 : Int) := by omega
        have h2J : (2 : Int) < (n3 : Int) := by omega
        have h3J : 0 < n3 - 3 := by omega
        by_cases ha : a = []
        · have q0 : (strOf a).toList = [] := by rw [tl]; exact ha
          have q0' : ((strOf a).toList == []) = true := by rw [q0]; rfl
          by_cases hb : b = []
          · have q1 : (strOf b).toList = [] := by rw [tl]; exact hb
            have q1' : ((strOf b).toList == []) = true := by rw [q1]; rfl
            cases wh with
            | false =>
              have HOX : Hid (O = none) := by show _ = _; rw [HOF.out (by rintro ⟨_, e⟩; cases e), if_neg]; rintro ⟨_, _, _, e, _⟩; cases e
              clear ha hb
              go_wp2_with fail
              refine (HNR.out _).mono ?_
              rintro e w4 ⟨rfl, hw4⟩
              subst hw4
              go_upto_region 7 with (fail)
              refine wp_region_inv (by kernel_rfl) (fun L _ wq => Qi w w.heap.size w2.heap.size n3 ((l.map strOf).map Value.string) ⟨#[]⟩ (strOf h) (.slice (some ⟨w2.heap.size, 3, none⟩) (n3 - 3) (c3 - 3)) 19 L wq) [is (.slice (some ⟨w2.heap.size, 0, none⟩) n3 c3), is (.pointer (some ⟨w2.heap.size, 2, none⟩)), is (.string (strOf h)), is (.slice (some ⟨w2.heap.size, 3, none⟩) (n3 - 3) (c3 - 3)), is (.agg #[.string ⟨#[]⟩, .string (strOf h), .slice (some ⟨w2.heap.size, 3, none⟩) (n3 - 3) (c3 - 3)]), is (.slice (some ⟨w2.heap.size, 0, none⟩) n3 c3), is (.pointer (some ⟨w2.heap.size, 2, none⟩)), is (.string (strOf h)), is (.bool false), is (.bool false), any, any, any, any, is (.bool false), is (.bool false), any, any, is (.bool false), any, is (.bool false)] [[], [0], [1], [], [2, 3], [], [5], [6], [7], [8], [9], [9, 10], [9, 11], [9, 12], [9, 13], [14], [15], [15, 16], [15, 17], [4, 17], [18]] (by kernel_rfl) (by repeat (first | exact free_nil | refine free_is _ ?_ | refine free_any ?_)) ?_ ?_ ?_
              · exact fun t => ⟨fun _ => HX3.out, fun e => (by cases e), HB3.out.drew, Nat.le_refl _, HR3.out, HNB.out⟩
              · refine ⟨?_, ?_, ?_, ?_, ?_, ?_, ?_, ?_, ?_, ?_, ?_, ?_, ?_, ?_, ?_, ?_, ?_, ?_, ?_, ?_, ?_, trivial⟩
                · intro L t wq hG hL hC hN hh K hK
                  clear hh
                  simp only [filled, upd, Have, is, any, row, pick, Act.put, List.setIfInBounds_toArray, List.set_cons_zero, List.set_cons_succ, Nat.reduceAdd, Nat.reduceEqDiff, reduceIte] at hK ⊢
                  go_simp
                  exact hK _ _ rfl (qs 0 (by decide) (Below.refl _ _) hG)
                · intro L t wq hG hL hC hN hh K hK
                  have e0 := hh.1
                  simp only [pick] at e0
                  replace e0 : t 0 = (.slice (some ⟨w2.heap.size, 0, none⟩) n3 c3) := e0
                  clear hh
                  simp only [filled, upd, Have, is, any, row, pick, Act.put, List.setIfInBounds_toArray, List.set_cons_zero, List.set_cons_succ, Nat.reduceAdd, Nat.reduceEqDiff, reduceIte] at hK ⊢
                  simp only [e0] at hK ⊢
                  go_simp
                  exact hK _ _ rfl (qs 1 (by decide) (Below.refl _ _) hG)
                · intro L t wq hG hL hC hN hh K hK
                  have e1 := hh.1
                  simp only [pick] at e1
                  replace e1 : t 1 = (.pointer (some ⟨w2.heap.size, 2, none⟩)) := e1
                  clear hh
                  simp only [filled, upd, Have, is, any, row, pick, Act.put, List.setIfInBounds_toArray, List.set_cons_zero, List.set_cons_succ, Nat.reduceAdd, Nat.reduceEqDiff, reduceIte] at hK ⊢
                  simp only [e1] at hK ⊢
                  obtain ⟨hd0, hd1, hd2, hd3⟩ := HC.out wq _ _ hG.rds rfl
                  replace hd1 := hd1 (by omega)
                  replace hd2 := hd2 (by omega)
                  replace hd3 := hd3 (by omega)
                  go_simp
                  exact hK _ _ rfl (qs 2 (by decide) (Below.refl _ _) hG)
                · intro L t wq hG hL hC hN hh K hK
                  clear hh
                  simp only [filled, upd, Have, is, any, row, pick, Act.put, List.setIfInBounds_toArray, List.set_cons_zero, List.set_cons_succ, Nat.reduceAdd, Nat.reduceEqDiff, reduceIte] at hK ⊢
                  go_simp
                  exact hK _ _ rfl (qs 3 (by decide) (Below.refl _ _) hG)
                · intro L t wq hG hL hC hN hh K hK
                  have e2 := hh.1
                  simp only [pick] at e2
                  replace e2 : t 2 = (.string (strOf h)) := e2
                  have e3 := hh.2.1
                  simp only [pick] at e3
                  replace e3 : t 3 = (.slice (some ⟨w2.heap.size, 3, none⟩) (n3 - 3) (c3 - 3)) := e3
                  clear hh
                  simp only [filled, upd, Have, is, any, row, pick, Act.put, List.setIfInBounds_toArray, List.set_cons_zero, List.set_cons_succ, Nat.reduceAdd, Nat.reduceEqDiff, reduceIte] at hK ⊢
                  simp only [e2, e3] at hK ⊢
                  go_simp
                  exact hK _ _ rfl (qs 4 (by decide) (Below.refl _ _) hG)
                · intro L t wq hG hL hC hN hh K hK
                  clear hh
                  simp only [filled, upd, Have, is, any, row, pick, Act.put, List.setIfInBounds_toArray, List.set_cons_zero, List.set_cons_succ, Nat.reduceAdd, Nat.reduceEqDiff, reduceIte] at hK ⊢
                  go_simp
                  exact hK _ _ rfl (qs 5 (by decide) (Below.refl _ _) hG)
                · intro L t wq hG hL hC hN hh K hK
                  have e5 := hh.1
                  simp only [pick] at e5
                  replace e5 : t 5 = (.slice (some ⟨w2.heap.size, 0, none⟩) n3 c3) := e5
                  clear hh
                  simp only [filled, upd, Have, is, any, row, pick, Act.put, List.setIfInBounds_toArray, List.set_cons_zero, List.set_cons_succ, Nat.reduceAdd, Nat.reduceEqDiff, reduceIte] at hK ⊢
                  simp only [e5] at hK ⊢
                  go_simp
                  exact hK _ _ rfl (qs 6 (by decide) (Below.refl _ _) hG)
                · intro L t wq hG hL hC hN hh K hK
                  have e6 := hh.1
                  simp only [pick] at e6
                  replace e6 : t 6 = (.pointer (some ⟨w2.heap.size, 2, none⟩)) := e6
                  clear hh
                  simp only [filled, upd, Have, is, any, row, pick, Act.put, List.setIfInBounds_toArray, List.set_cons_zero, List.set_cons_succ, Nat.reduceAdd, Nat.reduceEqDiff, reduceIte] at hK ⊢
                  simp only [e6] at hK ⊢
                  obtain ⟨hd0, hd1, hd2, hd3⟩ := HC.out wq _ _ hG.rds rfl
                  replace hd1 := hd1 (by omega)
                  replace hd2 := hd2 (by omega)
                  replace hd3 := hd3 (by omega)
                  go_simp
                  exact hK _ _ rfl (qs 7 (by decide) (Below.refl _ _) hG)
                · intro L t wq hG hL hC hN hh K hK
                  have e7 := hh.1
                  simp only [pick] at e7
                  replace e7 : t 7 = (.string (strOf h)) := e7
                  clear hh
                  simp only [filled, upd, Have, is, any, row, pick, Act.put, List.setIfInBounds_toArray, List.set_cons_zero, List.set_cons_succ, Nat.reduceAdd, Nat.reduceEqDiff, reduceIte] at hK ⊢
                  simp only [e7] at hK ⊢
                  go_simp
                  refine (HWH.out _ (HE.out.below hG.bel)).mono ?_
                  rintro e w9 ⟨rfl, hb9⟩
                  exact hK _ _ rfl (qs 8 (by decide) hb9 hG)
                · intro L t wq hG hL hC hN hh K hK
                  have e8 := hh.1
                  simp only [pick] at e8
                  replace e8 : t 8 = (.bool false) := e8
                  clear hh
                  simp only [filled, upd, Have, is, any, row, pick, Act.put, List.setIfInBounds_toArray, List.set_cons_zero, List.set_cons_succ, Nat.reduceAdd, Nat.reduceEqDiff, reduceIte] at hK ⊢
                  simp only [e8] at hK ⊢
                  go_simp
                  exact hK _ _ rfl (qs 9 (by decide) (Below.refl _ _) hG)
                · intro L t wq hG hL hC hN hh K hK
                  have e9 := hh.1
                  simp only [pick] at e9
                  replace e9 : t 9 = (.bool false) := e9
                  clear hh
                  simp only [filled, upd, Have, is, any, row, pick, Act.put, List.setIfInBounds_toArray, List.set_cons_zero, List.set_cons_succ, Nat.reduceAdd, Nat.reduceEqDiff, reduceIte] at hK ⊢
                  simp only [e9] at hK ⊢
                  go_simp
                  first | exact hK _ _ trivial (qs 10 (by decide) (Below.refl _ _) hG) | exact hK _ _ rfl (qs 10 (by decide) (Below.refl _ _) hG)
                · intro L t wq hG hL hC hN hh K hK
                  have e9 := hh.1
                  simp only [pick] at e9
                  replace e9 : t 9 = (.bool false) := e9
                  clear hh
                  simp only [filled, upd, Have, is, any, row, pick, Act.put, List.setIfInBounds_toArray, List.set_cons_zero, List.set_cons_succ, Nat.reduceAdd, Nat.reduceEqDiff, reduceIte] at hK ⊢
                  simp only [e9] at hK ⊢
                  go_simp
                  first | exact hK _ _ trivial (qs 11 (by decide) (Below.refl _ _) hG) | exact hK _ _ rfl (qs 11 (by decide) (Below.refl _ _) hG)
                · intro L t wq hG hL hC hN hh K hK
                  have e9 := hh.1
                  simp only [pick] at e9
                  replace e9 : t 9 = (.bool false) := e9
                  clear hh
                  simp only [filled, upd, Have, is, any, row, pick, Act.put, List.setIfInBounds_toArray, List.set_cons_zero, List.set_cons_succ, Nat.reduceAdd, Nat.reduceEqDiff, reduceIte] at hK ⊢
                  simp only [e9] at hK ⊢
                  go_simp
                  first | exact hK _ _ trivial (qs 12 (by decide) (Below.refl _ _) hG) | exact hK _ _ rfl (qs 12 (by decide) (Below.refl _ _) hG)
                · intro L t wq hG hL hC hN hh K hK
                  have e9 := hh.1
                  simp only [pick] at e9
                  replace e9 : t 9 = (.bool false) := e9
                  clear hh
                  simp only [filled, upd, Have, is, any, row, pick, Act.put, List.setIfInBounds_toArray, List.set_cons_zero, List.set_cons_succ, Nat.reduceAdd, Nat.reduceEqDiff, reduceIte] at hK ⊢
                  simp only [e9] at hK ⊢
                  go_simp
                  first | exact hK _ _ trivial (qs 13 (by decide) (Below.refl _ _) hG) | exact hK _ _ rfl (qs 13 (by decide) (Below.refl _ _) hG)
                · intro L t wq hG hL hC hN hh K hK
                  have e9 := hh.1
                  simp only [pick] at e9
                  replace e9 : t 9 = (.bool false) := e9
                  clear hh
                  simp only [filled, upd, Have, is, any, row, pick, Act.put, List.setIfInBounds_toArray, List.set_cons_zero, List.set_cons_succ, Nat.reduceAdd, Nat.reduceEqDiff, reduceIte] at hK ⊢
                  simp only [e9] at hK ⊢
                  go_simp
                  exact hK _ _ rfl (qs 14 (by decide) (Below.refl _ _) hG)
                · intro L t wq hG hL hC hN hh K hK
                  have e14 := hh.1
                  simp only [pick] at e14
                  replace e14 : t 14 = (.bool false) := e14
                  clear hh
                  simp only [filled, upd, Have, is, any, row, pick, Act.put, List.setIfInBounds_toArray, List.set_cons_zero, List.set_cons_succ, Nat.reduceAdd, Nat.reduceEqDiff, reduceIte] at hK ⊢
                  simp only [e14] at hK ⊢
                  go_simp
                  exact hK _ _ rfl (qs 15 (by decide) (Below.refl _ _) hG)
                · intro L t wq hG hL hC hN hh K hK
                  have e15 := hh.1
                  simp only [pick] at e15
                  replace e15 : t 15 = (.bool false) := e15
                  clear hh
                  simp only [filled, upd, Have, is, any, row, pick, Act.put, List.setIfInBounds_toArray, List.set_cons_zero, List.set_cons_succ, Nat.reduceAdd, Nat.reduceEqDiff, reduceIte] at hK ⊢
                  simp only [e15] at hK ⊢
                  go_simp
                  first | exact hK _ _ trivial (qs 16 (by decide) (Below.refl _ _) hG) | exact hK _ _ rfl (qs 16 (by decide) (Below.refl _ _) hG)
                · intro L t wq hG hL hC hN hh K hK
                  have e15 := hh.1
                  simp only [pick] at e15
                  replace e15 : t 15 = (.bool false) := e15
                  clear hh
                  simp only [filled, upd, Have, is, any, row, pick, Act.put, List.setIfInBounds_toArray, List.set_cons_zero, List.set_cons_succ, Nat.reduceAdd, Nat.reduceEqDiff, reduceIte] at hK ⊢
                  simp only [e15] at hK ⊢
                  go_simp
                  first | exact hK _ _ trivial (qs 17 (by decide) (Below.refl _ _) hG) | exact hK _ _ rfl (qs 17 (by decide) (Below.refl _ _) hG)
                · intro L t wq hG hL hC hN hh K hK
                  have e15 := hh.1
                  simp only [pick] at e15
                  replace e15 : t 15 = (.bool false) := e15
                  clear hh
                  simp only [filled, upd, Have, is, any, row, pick, Act.put, List.setIfInBounds_toArray, List.set_cons_zero, List.set_cons_succ, Nat.reduceAdd, Nat.reduceEqDiff, reduceIte] at hK ⊢
                  simp only [e15] at hK ⊢
                  go_simp
                  exact hK _ _ rfl (qs 18 (by decide) (Below.refl _ _) hG)
                · intro L t wq hG hL hC hN hh K hK
                  have e4 := hh.1
                  simp only [pick] at e4
                  replace e4 : t 4 = (.agg #[.string ⟨#[]⟩, .string (strOf h), .slice (some ⟨w2.heap.size, 3, none⟩) (n3 - 3) (c3 - 3)]) := e4
                  clear hh
                  simp only [filled, upd, Have, is, any, row, pick, Act.put, List.setIfInBounds_toArray, List.set_cons_zero, List.set_cons_succ, Nat.reduceAdd, Nat.reduceEqDiff, reduceIte] at hK ⊢
                  simp only [e4] at hK ⊢
                  refine wp_store_row 36 (.tmp 2) (.tmp 51) rfl w.heap.size #[.string ⟨#[]⟩, .string (strOf h), .slice (some ⟨w2.heap.size, 3, none⟩) (n3 - 3) (c3 - 3)] rfl rfl 36 _ (hG.no hL) (by kernel_rfl) rfl (by simp [Value.oneCell']) ?_
                  exact hK undef _ trivial (qk hL hG)
                · intro L t wq hG hL hC hN hh K hK
                  have e18 := hh.1
                  simp only [pick] at e18
                  replace e18 : t 18 = (.bool false) := e18
                  clear hh
                  simp only [filled, upd, Have, is, any, row, pick, Act.put, List.setIfInBounds_toArray, List.set_cons_zero, List.set_cons_succ, Nat.reduceAdd, Nat.reduceEqDiff, reduceIte] at hK ⊢
                  simp only [e18] at hK ⊢
                  go_simp
                  exact hK _ _ rfl (qs 20 (by decide) (Below.refl _ _) hG)
              · intro Lz t wq hG hall hh
                have f20 := have_get hh 20 (by decide)
                simp only [pick] at f20
                replace f20 : t 20 = (.bool false) := f20
                clear hh
                simp only [filled, upd, Have, is, any, row, pick, Act.put, List.setIfInBounds_toArray, List.set_cons_zero, List.set_cons_succ, Nat.reduceAdd, Nat.reduceEqDiff, reduceIte]
                simp only [f20]
                have HXq := hid (hG.yes (hall 19 (by decide)))
                have HBq := hid hG.bel
                have HRq := hid hG.rds
                clear hG hall
                go_wp2
                try simp only [Exit.inBlock, Exit.then]
                exact bodyPost_ret (w := wq) (res2p rfl HXq.out false _ rfl rfl) rfl (ansA_no HOX.out HBq.out)
            | true =>
              by_cases hx : x = []
              · have q3 : (strOf x).toList = [] := by rw [tl]; exact hx
                have q3' : ((strOf x).toList == []) = true := by rw [q3]; rfl
                have HOX : Hid (O = none) := by show _ = _; rw [HOF.out (by rintro ⟨_, e⟩; cases e), if_neg]; rintro ⟨_, _, _, _, e, _⟩; exact e hx
                clear ha hb hx
                go_wp2_with fail
                refine (HNR.out _).mono ?_
                rintro e w4 ⟨rfl, hw4⟩
                subst hw4
                go_upto_region 7 with (fail)
                refine wp_region_inv (by kernel_rfl) (fun L _ wq => Qi w w.heap.size w2.heap.size n3 ((l.map strOf).map Value.string) ⟨#[]⟩ (strOf h) (.slice (some ⟨w2.heap.size, 3, none⟩) (n3 - 3) (c3 - 3)) 19 L wq) [is (.slice (some ⟨w2.heap.size, 0, none⟩) n3 c3), is (.pointer (some ⟨w2.heap.size, 2, none⟩)), is (.string (strOf h)), is (.slice (some ⟨w2.heap.size, 3, none⟩) (n3 - 3) (c3 - 3)), is (.agg #[.string ⟨#[]⟩, .string (strOf h), .slice (some ⟨w2.heap.size, 3, none⟩) (n3 - 3) (c3 - 3)]), is (.slice (some ⟨w2.heap.size, 0, none⟩) n3 c3), is (.pointer (some ⟨w2.heap.size, 2, none⟩)), is (.string (strOf h)), is (.bool true), is (.bool true), is (.slice (some ⟨w2.heap.size, 3, none⟩) (n3 - 3) (c3 - 3)), is (.pointer (some ⟨w2.heap.size, 3, none⟩)), is (.string (strOf x)), is (.bool false), is (.bool false), is (.bool false), any, any, is (.bool false), any, is (.bool false)] [[], [0], [1], [], [2, 3], [], [5], [6], [7], [8], [9], [9, 10], [9, 11], [9, 12], [9, 13], [14], [15], [15, 16], [15, 17], [4, 17], [18]] (by kernel_rfl) (by repeat (first | exact free_nil | refine free_is _ ?_ | refine free_any ?_)) ?_ ?_ ?_
                · exact fun t => ⟨fun _ => HX3.out, fun e => (by cases e), HB3.out.drew, Nat.le_refl _, HR3.out, HNB.out⟩
                · refine ⟨?_, ?_, ?_, ?_, ?_, ?_, ?_, ?_, ?_, ?_, ?_, ?_, ?_, ?_, ?_, ?_, ?_, ?_, ?_, ?_, ?_, trivial⟩
                  · intro L t wq hG hL hC hN hh K hK
                    clear hh
                    simp only [filled, upd, Have, is, any, row, pick, Act.put, List.setIfInBounds_toArray, List.set_cons_zero, List.set_cons_succ, Nat.reduceAdd, Nat.reduceEqDiff, reduceIte] at hK ⊢
                    go_simp
                    exact hK _ _ rfl (qs 0 (by decide) (Below.refl _ _) hG)
                  · intro L t wq hG hL hC hN hh K hK
                    have e0 := hh.1
                    simp only [pick] at e0
                    replace e0 : t 0 = (.slice (some ⟨w2.heap.size, 0, none⟩) n3 c3) := e0
                    clear hh
                    simp only [filled, upd, Have, is, any, row, pick, Act.put, List.setIfInBounds_toArray, List.set_cons_zero, List.set_cons_succ, Nat.reduceAdd, Nat.reduceEqDiff, reduceIte] at hK ⊢
                    simp only [e0] at hK ⊢
                    go_simp
                    exact hK _ _ rfl (qs 1 (by decide) (Below.refl _ _) hG)
                  · intro L t wq hG hL hC hN hh K hK
                    have e1 := hh.1
                    simp only [pick] at e1
                    replace e1 : t 1 = (.pointer (some ⟨w2.heap.size, 2, none⟩)) := e1
                    clear hh
                    simp only [filled, upd, Have, is, any, row, pick, Act.put, List.setIfInBounds_toArray, List.set_cons_zero, List.set_cons_succ, Nat.reduceAdd, Nat.reduceEqDiff, reduceIte] at hK ⊢
                    simp only [e1] at hK ⊢
                    obtain ⟨hd0, hd1, hd2, hd3⟩ := HC.out wq _ _ hG.rds rfl
                    replace hd1 := hd1 (by omega)
                    replace hd2 := hd2 (by omega)
                    replace hd3 := hd3 (by omega)
                    go_simp
                    exact hK _ _ rfl (qs 2 (by decide) (Below.refl _ _) hG)
                  · intro L t wq hG hL hC hN hh K hK
                    clear hh
                    simp only [filled, upd, Have, is, any, row, pick, Act.put, List.setIfInBounds_toArray, List.set_cons_zero, List.set_cons_succ, Nat.reduceAdd, Nat.reduceEqDiff, reduceIte] at hK ⊢
                    go_simp
                    exact hK _ _ rfl (qs 3 (by decide) (Below.refl _ _) hG)
                  · intro L t wq hG hL hC hN hh K hK
                    have e2 := hh.1
                    simp only [pick] at e2
                    replace e2 : t 2 = (.string (strOf h)) := e2
                    have e3 := hh.2.1
                    simp only [pick] at e3
                    replace e3 : t 3 = (.slice (some ⟨w2.heap.size, 3, none⟩) (n3 - 3) (c3 - 3)) := e3
                    clear hh
                    simp only [filled, upd, Have, is, any, row, pick, Act.put, List.setIfInBounds_toArray, List.set_cons_zero, List.set_cons_succ, Nat.reduceAdd, Nat.reduceEqDiff, reduceIte] at hK ⊢
                    simp only [e2, e3] at hK ⊢
                    go_simp
                    exact hK _ _ rfl (qs 4 (by decide) (Below.refl _ _) hG)
                  · intro L t wq hG hL hC hN hh K hK
                    clear hh
                    simp only [filled, upd, Have, is, any, row, pick, Act.put, List.setIfInBounds_toArray, List.set_cons_zero, List.set_cons_succ, Nat.reduceAdd, Nat.reduceEqDiff, reduceIte] at hK ⊢
                    go_simp
                    exact hK _ _ rfl (qs 5 (by decide) (Below.refl _ _) hG)
                  · intro L t wq hG hL hC hN hh K hK
                    have e5 := hh.1
                    simp only [pick] at e5
                    replace e5 : t 5 = (.slice (some ⟨w2.heap.size, 0, none⟩) n3 c3) := e5
                    clear hh
                    simp only [filled, upd, Have, is, any, row, pick, Act.put, List.setIfInBounds_toArray, List.set_cons_zero, List.set_cons_succ, Nat.reduceAdd, Nat.reduceEqDiff, reduceIte] at hK ⊢
                    simp only [e5] at hK ⊢
                    go_simp
                    exact hK _ _ rfl (qs 6 (by decide) (Below.refl _ _) hG)
                  · intro L t wq hG hL hC hN hh K hK
                    have e6 := hh.1
                    simp only [pick] at e6
                    replace e6 : t 6 = (.pointer (some ⟨w2.heap.size, 2, none⟩)) := e6
                    clear hh
                    simp only [filled, upd, Have, is, any, row, pick, Act.put, List.setIfInBounds_toArray, List.set_cons_zero, List.set_cons_succ, Nat.reduceAdd, Nat.reduceEqDiff, reduceIte] at hK ⊢
                    simp only [e6] at hK ⊢
                    obtain ⟨hd0, hd1, hd2, hd3⟩ := HC.out wq _ _ hG.rds rfl
                    replace hd1 := hd1 (by omega)
                    replace hd2 := hd2 (by omega)
                    replace hd3 := hd3 (by omega)
                    go_simp
                    exact hK _ _ rfl (qs 7 (by decide) (Below.refl _ _) hG)
                  · intro L t wq hG hL hC hN hh K hK
                    have e7 := hh.1
                    simp only [pick] at e7
                    replace e7 : t 7 = (.string (strOf h)) := e7
                    clear hh
                    simp only [filled, upd, Have, is, any, row, pick, Act.put, List.setIfInBounds_toArray, List.set_cons_zero, List.set_cons_succ, Nat.reduceAdd, Nat.reduceEqDiff, reduceIte] at hK ⊢
                    simp only [e7] at hK ⊢
                    go_simp
                    refine (HWH.out _ (HE.out.below hG.bel)).mono ?_
                    rintro e w9 ⟨rfl, hb9⟩
                    exact hK _ _ rfl (qs 8 (by decide) hb9 hG)
                  · intro L t wq hG hL hC hN hh K hK
                    have e8 := hh.1
                    simp only [pick] at e8
                    replace e8 : t 8 = (.bool true) := e8
                    clear hh
                    simp only [filled, upd, Have, is, any, row, pick, Act.put, List.setIfInBounds_toArray, List.set_cons_zero, List.set_cons_succ, Nat.reduceAdd, Nat.reduceEqDiff, reduceIte] at hK ⊢
                    simp only [e8] at hK ⊢
                    go_simp
                    exact hK _ _ rfl (qs 9 (by decide) (Below.refl _ _) hG)
                  · intro L t wq hG hL hC hN hh K hK
                    have e9 := hh.1
                    simp only [pick] at e9
                    replace e9 : t 9 = (.bool true) := e9
                    clear hh
                    simp only [filled, upd, Have, is, any, row, pick, Act.put, List.setIfInBounds_toArray, List.set_cons_zero, List.set_cons_succ, Nat.reduceAdd, Nat.reduceEqDiff, reduceIte] at hK ⊢
                    simp only [e9] at hK ⊢
                    go_simp
                    exact hK _ _ rfl (qs 10 (by decide) (Below.refl _ _) hG)
                  · intro L t wq hG hL hC hN hh K hK
                    have e9 := hh.1
                    simp only [pick] at e9
                    replace e9 : t 9 = (.bool true) := e9
                    have e10 := hh.2.1
                    simp only [pick] at e10
                    replace e10 : t 10 = (.slice (some ⟨w2.heap.size, 3, none⟩) (n3 - 3) (c3 - 3)) := e10
                    clear hh
                    simp only [filled, upd, Have, is, any, row, pick, Act.put, List.setIfInBounds_toArray, List.set_cons_zero, List.set_cons_succ, Nat.reduceAdd, Nat.reduceEqDiff, reduceIte] at hK ⊢
                    simp only [e9, e10] at hK ⊢
                    go_simp
                    exact hK _ _ rfl (qs 11 (by decide) (Below.refl _ _) hG)
                  · intro L t wq hG hL hC hN hh K hK
                    have e9 := hh.1
                    simp only [pick] at e9
                    replace e9 : t 9 = (.bool true) := e9
                    have e11 := hh.2.1
                    simp only [pick] at e11
                    replace e11 : t 11 = (.pointer (some ⟨w2.heap.size, 3, none⟩)) := e11
                    clear hh
                    simp only [filled, upd, Have, is, any, row, pick, Act.put, List.setIfInBounds_toArray, List.set_cons_zero, List.set_cons_succ, Nat.reduceAdd, Nat.reduceEqDiff, reduceIte] at hK ⊢
                    simp only [e9, e11] at hK ⊢
                    obtain ⟨hd0, hd1, hd2, hd3⟩ := HC.out wq _ _ hG.rds rfl
                    replace hd1 := hd1 (by omega)
                    replace hd2 := hd2 (by omega)
                    replace hd3 := hd3 (by omega)
                    go_simp
                    exact hK _ _ rfl (qs 12 (by decide) (Below.refl _ _) hG)
                  · intro L t wq hG hL hC hN hh K hK
                    have e9 := hh.1
                    simp only [pick] at e9
                    replace e9 : t 9 = (.bool true) := e9
                    have e12 := hh.2.1
                    simp only [pick] at e12
                    replace e12 : t 12 = (.string (strOf x)) := e12
                    clear hh
                    simp only [filled, upd, Have, is, any, row, pick, Act.put, List.setIfInBounds_toArray, List.set_cons_zero, List.set_cons_succ, Nat.reduceAdd, Nat.reduceEqDiff, reduceIte] at hK ⊢
                    simp only [e9, e12] at hK ⊢
                    go_simp
                    exact hK _ _ rfl (qs 13 (by decide) (Below.refl _ _) hG)
                  · intro L t wq hG hL hC hN hh K hK
                    have e9 := hh.1
                    simp only [pick] at e9
                    replace e9 : t 9 = (.bool true) := e9
                    have e13 := hh.2.1
                    simp only [pick] at e13
                    replace e13 : t 13 = (.bool false) := e13
                    clear hh
                    simp only [filled, upd, Have, is, any, row, pick, Act.put, List.setIfInBounds_toArray, List.set_cons_zero, List.set_cons_succ, Nat.reduceAdd, Nat.reduceEqDiff, reduceIte] at hK ⊢
                    simp only [e9, e13] at hK ⊢
                    go_simp
                    exact hK _ _ rfl (qs 14 (by decide) (Below.refl _ _) hG)
                  · intro L t wq hG hL hC hN hh K hK
                    have e14 := hh.1
                    simp only [pick] at e14
                    replace e14 : t 14 = (.bool false) := e14
                    clear hh
                    simp only [filled, upd, Have, is, any, row, pick, Act.put, List.setIfInBounds_toArray, List.set_cons_zero, List.set_cons_succ, Nat.reduceAdd, Nat.reduceEqDiff, reduceIte] at hK ⊢
                    simp only [e14] at hK ⊢
                    go_simp
                    exact hK _ _ rfl (qs 15 (by decide) (Below.refl _ _) hG)
                  · intro L t wq hG hL hC hN hh K hK
                    have e15 := hh.1
                    simp only [pick] at e15
                    replace e15 : t 15 = (.bool false) := e15
                    clear hh
                    simp only [filled, upd, Have, is, any, row, pick, Act.put, List.setIfInBounds_toArray, List.set_cons_zero, List.set_cons_succ, Nat.reduceAdd, Nat.reduceEqDiff, reduceIte] at hK ⊢
                    simp only [e15] at hK ⊢
                    go_simp
                    first | exact hK _ _ trivial (qs 16 (by decide) (Below.refl _ _) hG) | exact hK _ _ rfl (qs 16 (by decide) (Below.refl _ _) hG)
                  · intro L t wq hG hL hC hN hh K hK
                    have e15 := hh.1
                    simp only [pick] at e15
                    replace e15 : t 15 = (.bool false) := e15
                    clear hh
                    simp only [filled, upd, Have, is, any, row, pick, Act.put, List.setIfInBounds_toArray, List.set_cons_zero, List.set_cons_succ, Nat.reduceAdd, Nat.reduceEqDiff, reduceIte] at hK ⊢
                    simp only [e15] at hK ⊢
                    go_simp
                    first | exact hK _ _ trivial (qs 17 (by decide) (Below.refl _ _) hG) | exact hK _ _ rfl (qs 17 (by decide) (Below.refl _ _) hG)
                  · intro L t wq hG hL hC hN hh K hK
                    have e15 := hh.1
                    simp only [pick] at e15
                    replace e15 : t 15 = (.bool false) := e15
                    clear hh
                    simp only [filled, upd, Have, is, any, row, pick, Act.put, List.setIfInBounds_toArray, List.set_cons_zero, List.set_cons_succ, Nat.reduceAdd, Nat.reduceEqDiff, reduceIte] at hK ⊢
                    simp only [e15] at hK ⊢
                    go_simp
                    exact hK _ _ rfl (qs 18 (by decide) (Below.refl _ _) hG)
                  · intro L t wq hG hL hC hN hh K hK
                    have e4 := hh.1
                    simp only [pick] at e4
                    replace e4 : t 4 = (.agg #[.string ⟨#[]⟩, .string (strOf h), .slice (some ⟨w2.heap.size, 3, none⟩) (n3 - 3) (c3 - 3)]) := e4
                    clear hh
                    simp only [filled, upd, Have, is, any, row, pick, Act.put, List.setIfInBounds_toArray, List.set_cons_zero, List.set_cons_succ, Nat.reduceAdd, Nat.reduceEqDiff, reduceIte] at hK ⊢
                    simp only [e4] at hK ⊢
                    refine wp_store_row 36 (.tmp 2) (.tmp 51) rfl w.heap.size #[.string ⟨#[]⟩, .string (strOf h), .slice (some ⟨w2.heap.size, 3, none⟩) (n3 - 3) (c3 - 3)] rfl rfl 36 _ (hG.no hL) (by kernel_rfl) rfl (by simp [Value.oneCell']) ?_
                    exact hK undef _ trivial (qk hL hG)
                  · intro L t wq hG hL hC hN hh K hK
                    have e18 := hh.1
                    simp only [pick] at e18
                    replace e18 : t 18 = (.bool false) := e18
                    clear hh
                    simp only [filled, upd, Have, is, any, row, pick, Act.put, List.setIfInBounds_toArray, List.set_cons_zero, List.set_cons_succ, Nat.reduceAdd, Nat.reduceEqDiff, reduceIte] at hK ⊢
                    simp only [e18] at hK ⊢
                    go_simp
                    exact hK _ _ rfl (qs 20 (by decide) (Below.refl _ _) hG)
                · intro Lz t wq hG hall hh
                  have f20 := have_get hh 20 (by decide)
                  simp only [pick] at f20
                  replace f20 : t 20 = (.bool false) := f20
                  clear hh
                  simp only [filled, upd, Have, is, any, row, pick, Act.put, List.setIfInBounds_toArray, List.set_cons_zero, List.set_cons_succ, Nat.reduceAdd, Nat.reduceEqDiff, reduceIte]
                  simp only [f20]
                  have HXq := hid (hG.yes (hall 19 (by decide)))
                  have HBq := hid hG.bel
                  have HRq := hid hG.rds
                  clear hG hall
                  go_wp2
                  try simp only [Exit.inBlock, Exit.then]
                  exact bodyPost_ret (w := wq) (res2p rfl HXq.out false _ rfl rfl) rfl (ansA_no HOX.out HBq.out)
              · have q3 : ((strOf x).toList == []) = false := by rw [tl, beq_eq_false_iff_ne]; exact hx
                have q3' : (strOf x).toList.isEmpty = false := by rw [tl]; simpa [strOf] using hx
                have q3'' : ¬ (strOf x).toList = [] := by rw [tl]; exact hx
                have HOX : Hid (O = if W3 = true then some ([], h, L3) else none) := by
                  show _ = _
                  rw [HOF.out (by rintro ⟨_, e⟩; cases e)]
                  cases W3 with
                  | true => rw [if_pos ⟨h4, ha, hb, rfl, hx, rfl⟩, if_pos rfl]
                  | false => rw [if_neg (by rintro ⟨_, _, _, _, _, e⟩; cases e), if_neg (by decide)]
                clear ha hb hx
                go_wp2_with fail
                refine (HNR.out _).mono ?_
                rintro e w4 ⟨rfl, hw4⟩
                subst hw4
                go_upto_region 7 with (fail)
                refine wp_region_inv (by kernel_rfl) (fun L _ wq => Qi w w.heap.size w2.heap.size n3 ((l.map strOf).map Value.string) ⟨#[]⟩ (strOf h) (.slice (some ⟨w2.heap.size, 3, none⟩) (n3 - 3) (c3 - 3)) 19 L wq) [is (.slice (some ⟨w2.heap.size, 0, none⟩) n3 c3), is (.pointer (some ⟨w2.heap.size, 2, none⟩)), is (.string (strOf h)), is (.slice (some ⟨w2.heap.size, 3, none⟩) (n3 - 3) (c3 - 3)), is (.agg #[.string ⟨#[]⟩, .string (strOf h), .slice (some ⟨w2.heap.size, 3, none⟩) (n3 - 3) (c3 - 3)]), is (.slice (some ⟨w2.heap.size, 0, none⟩) n3 c3), is (.pointer (some ⟨w2.heap.size, 2, none⟩)), is (.string (strOf h)), is (.bool true), is (.bool true), is (.slice (some ⟨w2.heap.size, 3, none⟩) (n3 - 3) (c3 - 3)), is (.pointer (some ⟨w2.heap.size, 3, none⟩)), is (.string (strOf x)), is (.bool true), is (.bool true), is (.bool true), is (.slice (some ⟨w2.heap.size, 3, none⟩) (n3 - 3) (c3 - 3)), is (.bool W3), is (.bool W3), any, is (.bool W3)] [[], [0], [1], [], [2, 3], [], [5], [6], [7], [8], [9], [9, 10], [9, 11], [9, 12], [9, 13], [14], [15], [15, 16], [15, 17], [4, 17], [18]] (by kernel_rfl) (by repeat (first | exact free_nil | refine free_is _ ?_ | refine free_any ?_)) ?_ ?_ ?_
                · exact fun t => ⟨fun _ => HX3.out, fun e => (by cases e), HB3.out.drew, Nat.le_refl _, HR3.out, HNB.out⟩
                · refine ⟨?_, ?_, ?_, ?_, ?_, ?_, ?_, ?_, ?_, ?_, ?_, ?_, ?_, ?_, ?_, ?_, ?_, ?_, ?_, ?_, ?_, trivial⟩
                  · intro L t wq hG hL hC hN hh K hK
                    clear hh
                    simp only [filled, upd, Have, is, any, row, pick, Act.put, List.setIfInBounds_toArray, List.set_cons_zero, List.set_cons_succ, Nat.reduceAdd, Nat.reduceEqDiff, reduceIte] at hK ⊢
                    go_simp
                    exact hK _ _ rfl (qs 0 (by decide) (Below.refl _ _) hG)
                  · intro L t wq hG hL hC hN hh K hK
                    have e0 := hh.1
                    simp only [pick] at e0
                    replace e0 : t 0 = (.slice (some ⟨w2.heap.size, 0, none⟩) n3 c3) := e0
                    clear hh
                    simp only [filled, upd, Have, is, any, row, pick, Act.put, List.setIfInBounds_toArray, List.set_cons_zero, List.set_cons_succ, Nat.reduceAdd, Nat.reduceEqDiff, reduceIte] at hK ⊢
                    simp only [e0] at hK ⊢
                    go_simp
                    exact hK _ _ rfl (qs 1 (by decide) (Below.refl _ _) hG)
                  · intro L t wq hG hL hC hN hh K hK
                    have e1 := hh.1
                    simp only [pick] at e1
                    replace e1 : t 1 = (.pointer (some ⟨w2.heap.size, 2, none⟩)) := e1
                    clear hh
                    simp only [filled, upd, Have, is, any, row, pick, Act.put, List.setIfInBounds_toArray, List.set_cons_zero, List.set_cons_succ, Nat.reduceAdd, Nat.reduceEqDiff, reduceIte] at hK ⊢
                    simp only [e1] at hK ⊢
                    obtain ⟨hd0, hd1, hd2, hd3⟩ := HC.out wq _ _ hG.rds rfl
                    replace hd1 := hd1 (by omega)
                    replace hd2 := hd2 (by omega)
                    replace hd3 := hd3 (by omega)
                    go_simp
                    exact hK _ _ rfl (qs 2 (by decide) (Below.refl _ _) hG)
                  · intro L t wq hG hL hC hN hh K hK
                    clear hh
                    simp only [filled, upd, Have, is, any, row, pick, Act.put, List.setIfInBounds_toArray, List.set_cons_zero, List.set_cons_succ, Nat.reduceAdd, Nat.reduceEqDiff, reduceIte] at hK ⊢
                    go_simp
                    exact hK _ _ rfl (qs 3 (by decide) (Below.refl _ _) hG)
                  · intro L t wq hG hL hC hN hh K hK
                    have e2 := hh.1
                    simp only [pick] at e2
                    replace e2 : t 2 = (.string (strOf h)) := e2
                    have e3 := hh.2.1
                    simp only [pick] at e3
                    replace e3 : t 3 = (.slice (some ⟨w2.heap.size, 3, none⟩) (n3 - 3) (c3 - 3)) := e3
                    clear hh
                    simp only [filled, upd, Have, is, any, row, pick, Act.put, List.setIfInBounds_toArray, List.set_cons_zero, List.set_cons_succ, Nat.reduceAdd, Nat.reduceEqDiff, reduceIte] at hK ⊢
                    simp only [e2, e3] at hK ⊢
                    go_simp
                    exact hK _ _ rfl (qs 4 (by decide) (Below.refl _ _) hG)
                  · intro L t wq hG hL hC hN hh K hK
                    clear hh
                    simp only [filled, upd, Have, is, any, row, pick, Act.put, List.setIfInBounds_toArray, List.set_cons_zero, List.set_cons_succ, Nat.reduceAdd, Nat.reduceEqDiff, reduceIte] at hK ⊢
                    go_simp
                    exact hK _ _ rfl (qs 5 (by decide) (Below.refl _ _) hG)
                  · intro L t wq hG hL hC hN hh K hK
                    have e5 := hh.1
                    simp only [pick] at e5
                    replace e5 : t 5 = (.slice (some ⟨w2.heap.size, 0, none⟩) n3 c3) := e5
                    clear hh
                    simp only [filled, upd, Have, is, any, row, pick, Act.put, List.setIfInBounds_toArray, List.set_cons_zero, List.set_cons_succ, Nat.reduceAdd, Nat.reduceEqDiff, reduceIte] at hK ⊢
                    simp only [e5] at hK ⊢
                    go_simp
                    exact hK _ _ rfl (qs 6 (by decide) (Below.refl _ _) hG)
                  · intro L t wq hG hL hC hN hh K hK
                    have e6 := hh.1
                    simp only [pick] at e6
                    replace e6 : t 6 = (.pointer (some ⟨w2.heap.size, 2, none⟩)) := e6
                    clear hh
                    simp only [filled, upd, Have, is, any, row, pick, Act.put, List.setIfInBounds_toArray, List.set_cons_zero, List.set_cons_succ, Nat.reduceAdd, Nat.reduceEqDiff, reduceIte] at hK ⊢
                    simp only [e6] at hK ⊢
                    obtain ⟨hd0, hd1, hd2, hd3⟩ := HC.out wq _ _ hG.rds rfl
                    replace hd1 := hd1 (by omega)
                    replace hd2 := hd2 (by omega)
                    replace hd3 := hd3 (by omega)
                    go_simp
                    exact hK _ _ rfl (qs 7 (by decide) (Below.refl _ _) hG)
                  · intro L t wq hG hL hC hN hh K hK
                    have e7 := hh.1
                    simp only [pick] at e7
                    replace e7 : t 7 = (.string (strOf h)) := e7
                    clear hh
                    simp only [filled, upd, Have, is, any, row, pick, Act.put, List.setIfInBounds_toArray, List.set_cons_zero, List.set_cons_succ, Nat.reduceAdd, Nat.reduceEqDiff, reduceIte] at hK ⊢
                    simp only [e7] at hK ⊢
                    go_simp
                    refine (HWH.out _ (HE.out.below hG.bel)).mono ?_
                    rintro e w9 ⟨rfl, hb9⟩
                    exact hK _ _ rfl (qs 8 (by decide) hb9 hG)
                  · intro L t wq hG hL hC hN hh K hK
                    have e8 := hh.1
                    simp only [pick] at e8
                    replace e8 : t 8 = (.bool true) := e8
                    clear hh
                    simp only [filled, upd, Have, is, any, row, pick, Act.put, List.setIfInBounds_toArray, List.set_cons_zero, List.set_cons_succ, Nat.reduceAdd, Nat.reduceEqDiff, reduceIte] at hK ⊢
                    simp only [e8] at hK ⊢
                    go_simp
                    exact hK _ _ rfl (qs 9 (by decide) (Below.refl _ _) hG)
                  · intro L t wq hG hL hC hN hh K hK
                    have e9 := hh.1
                    simp only [pick] at e9
                    replace e9 : t 9 = (.bool true) := e9
                    clear hh
                    simp only [filled, upd, Have, is, any, row, pick, Act.put, List.setIfInBounds_toArray, List.set_cons_zero, List.set_cons_succ, Nat.reduceAdd, Nat.reduceEqDiff, reduceIte] at hK ⊢
                    simp only [e9] at hK ⊢
                    go_simp
                    exact hK _ _ rfl (qs 10 (by decide) (Below.refl _ _) hG)
                  · intro L t wq hG hL hC hN hh K hK
                    have e9 := hh.1
                    simp only [pick] at e9
                    replace e9 : t 9 = (.bool true) := e9
                    have e10 := hh.2.1
                    simp only [pick] at e10
                    replace e10 : t 10 = (.slice (some ⟨w2.heap.size, 3, none⟩) (n3 - 3) (c3 - 3)) := e10
                    clear hh
                    simp only [filled, upd, Have, is, any, row, pick, Act.put, List.setIfInBounds_toArray, List.set_cons_zero, List.set_cons_succ, Nat.reduceAdd, Nat.reduceEqDiff, reduceIte] at hK ⊢
                    simp only [e9, e10] at hK ⊢
                    go_simp
                    exact hK _ _ rfl (qs 11 (by decide) (Below.refl _ _) hG)
                  · intro L t wq hG hL hC hN hh K hK
                    have e9 := hh.1
                    simp only [pick] at e9
                    replace e9 : t 9 = (.bool true) := e9
                    have e11 := hh.2.1
                    simp only [pick] at e11
                    replace e11 : t 11 = (.pointer (some ⟨w2.heap.size, 3, none⟩)) := e11
                    clear hh
                    simp only [filled, upd, Have, is, any, row, pick, Act.put, List.setIfInBounds_toArray, List.set_cons_zero, List.set_cons_succ, Nat.reduceAdd, Nat.reduceEqDiff, reduceIte] at hK ⊢
                    simp only [e9, e11] at hK ⊢
                    obtain ⟨hd0, hd1, hd2, hd3⟩ := HC.out wq _ _ hG.rds rfl
                    replace hd1 := hd1 (by omega)
                    replace hd2 := hd2 (by omega)
                    replace hd3 := hd3 (by omega)
                    go_simp
                    exact hK _ _ rfl (qs 12 (by decide) (Below.refl _ _) hG)
                  · intro L t wq hG hL hC hN hh K hK
                    have e9 := hh.1
                    simp only [pick] at e9
                    replace e9 : t 9 = (.bool true) := e9
                    have e12 := hh.2.1
                    simp only [pick] at e12
                    replace e12 : t 12 = (.string (strOf x)) := e12
                    clear hh
                    simp only [filled, upd, Have, is, any, row, pick, Act.put, List.setIfInBounds_toArray, List.set_cons_zero, List.set_cons_succ, Nat.reduceAdd, Nat.reduceEqDiff, reduceIte] at hK ⊢
                    simp only [e9, e12] at hK ⊢
                    go_simp
                    exact hK _ _ rfl (qs 13 (by decide) (Below.refl _ _) hG)
                  · intro L t wq hG hL hC hN hh K hK
                    have e9 := hh.1
                    simp only [pick] at e9
                    replace e9 : t 9 = (.bool true) := e9
                    have e13 := hh.2.1
                    simp only [pick] at e13
                    replace e13 : t 13 = (.bool true) := e13
                    clear hh
                    simp only [filled, upd, Have, is, any, row, pick, Act.put, List.setIfInBounds_toArray, List.set_cons_zero, List.set_cons_succ, Nat.reduceAdd, Nat.reduceEqDiff, reduceIte] at hK ⊢
                    simp only [e9, e13] at hK ⊢
                    go_simp
                    exact hK _ _ rfl (qs 14 (by decide) (Below.refl _ _) hG)
                  · intro L t wq hG hL hC hN hh K hK
                    have e14 := hh.1
                    simp only [pick] at e14
                    replace e14 : t 14 = (.bool true) := e14
                    clear hh
                    simp only [filled, upd, Have, is, any, row, pick, Act.put, List.setIfInBounds_toArray, List.set_cons_zero, List.set_cons_succ, Nat.reduceAdd, Nat.reduceEqDiff, reduceIte] at hK ⊢
                    simp only [e14] at hK ⊢
                    go_simp
                    exact hK _ _ rfl (qs 15 (by decide) (Below.refl _ _) hG)
                  · intro L t wq hG hL hC hN hh K hK
                    have e15 := hh.1
                    simp only [pick] at e15
                    replace e15 : t 15 = (.bool true) := e15
                    clear hh
                    simp only [filled, upd, Have, is, any, row, pick, Act.put, List.setIfInBounds_toArray, List.set_cons_zero, List.set_cons_succ, Nat.reduceAdd, Nat.reduceEqDiff, reduceIte] at hK ⊢
                    simp only [e15] at hK ⊢
                    go_simp
                    exact hK _ _ rfl (qs 16 (by decide) (Below.refl _ _) hG)
                  · intro L t wq hG hL hC hN hh K hK
                    have e15 := hh.1
                    simp only [pick] at e15
                    replace e15 : t 15 = (.bool true) := e15
                    have e16 := hh.2.1
                    simp only [pick] at e16
                    replace e16 : t 16 = (.slice (some ⟨w2.heap.size, 3, none⟩) (n3 - 3) (c3 - 3)) := e16
                    clear hh
                    simp only [filled, upd, Have, is, any, row, pick, Act.put, List.setIfInBounds_toArray, List.set_cons_zero, List.set_cons_succ, Nat.reduceAdd, Nat.reduceEqDiff, reduceIte] at hK ⊢
                    simp only [e15, e16] at hK ⊢
                    go_simp
                    refine (HF3.out _ _ _ _ (HD3.out (by omega) _ _ hG.rds) (by omega)).mono ?_
                    rintro e w9 ⟨rfl, hb9⟩
                    exact hK _ _ rfl (qs 17 (by decide) hb9 hG)
                  · intro L t wq hG hL hC hN hh K hK
                    have e15 := hh.1
                    simp only [pick] at e15
                    replace e15 : t 15 = (.bool true) := e15
                    have e17 := hh.2.1
                    simp only [pick] at e17
                    replace e17 : t 17 = (.bool W3) := e17
                    clear hh
                    simp only [filled, upd, Have, is, any, row, pick, Act.put, List.setIfInBounds_toArray, List.set_cons_zero, List.set_cons_succ, Nat.reduceAdd, Nat.reduceEqDiff, reduceIte] at hK ⊢
                    simp only [e15, e17] at hK ⊢
                    go_simp
                    exact hK _ _ rfl (qs 18 (by decide) (Below.refl _ _) hG)
                  · intro L t wq hG hL hC hN hh K hK
                    have e4 := hh.1
                    simp only [pick] at e4
                    replace e4 : t 4 = (.agg #[.string ⟨#[]⟩, .string (strOf h), .slice (some ⟨w2.heap.size, 3, none⟩) (n3 - 3) (c3 - 3)]) := e4
                    have e17 := hh.2.1
                    simp only [pick] at e17
                    replace e17 : t 17 = (.bool W3) := e17
                    clear hh
                    simp only [filled, upd, Have, is, any, row, pick, Act.put, List.setIfInBounds_toArray, List.set_cons_zero, List.set_cons_succ, Nat.reduceAdd, Nat.reduceEqDiff, reduceIte] at hK ⊢
                    simp only [e4, e17] at hK ⊢
                    refine wp_store_row 36 (.tmp 2) (.tmp 51) rfl w.heap.size #[.string ⟨#[]⟩, .string (strOf h), .slice (some ⟨w2.heap.size, 3, none⟩) (n3 - 3) (c3 - 3)] rfl rfl 36 _ (hG.no hL) (by kernel_rfl) rfl (by simp [Value.oneCell']) ?_
                    exact hK undef _ trivial (qk hL hG)
                  · intro L t wq hG hL hC hN hh K hK
                    have e18 := hh.1
                    simp only [pick] at e18
                    replace e18 : t 18 = (.bool W3) := e18
                    clear hh
                    simp only [filled, upd, Have, is, any, row, pick, Act.put, List.setIfInBounds_toArray, List.set_cons_zero, List.set_cons_succ, Nat.reduceAdd, Nat.reduceEqDiff, reduceIte] at hK ⊢
                    simp only [e18] at hK ⊢
                    go_simp
                    exact hK _ _ rfl (qs 20 (by decide) (Below.refl _ _) hG)
                · intro Lz t wq hG hall hh
                  have f20 := have_get hh 20 (by decide)
                  simp only [pick] at f20
                  replace f20 : t 20 = (.bool W3) := f20
                  clear hh
                  simp only [filled, upd, Have, is, any, row, pick, Act.put, List.setIfInBounds_toArray, List.set_cons_zero, List.set_cons_succ, Nat.reduceAdd, Nat.reduceEqDiff, reduceIte]
                  simp only [f20]
                  have HXq := hid (hG.yes (hall 19 (by decide)))
                  have HBq := hid hG.bel
                  have HRq := hid hG.rds
                  clear hG hall
                  go_wp2
                  try simp only [Exit.inBlock, Exit.then]
                  exact bodyPost_ret (w := wq) (res2p rfl HXq.out W3 _ rfl rfl) rfl (ansA_of (d := []) HOX.out HBq.out HLL3.out (by omega) (by unfold maxLen; omega) (HD3.out (by omega) _ _ HRq.out))
          · have q1 : ((strOf b).toList == []) = false := by rw [tl, beq_eq_false_iff_ne]; exact hb
            have q1' : (strOf b).toList.isEmpty = false := by rw [tl]; simpa [strOf] using hb
            have HOX : Hid (O = none) := by show _ = _; rw [HOF.out (by rintro ⟨_, e⟩; cases e), if_neg]; rintro ⟨_, _, e, _⟩; exact hb e
            clear ha hb
            go_wp2_with fail
            refine (HNR.out _).mono ?_
            rintro e w4 ⟨rfl, hw4⟩
            subst hw4
            go_wp2_with (refine store_px HX3.out ⟨#[]⟩ ⟨#[]⟩ none 0 0 (.tmp 2) (.tmp 66) rfl rfl rfl rfl ?_)
            try simp only [Exit.inBlock, Exit.then]
            exact bodyPost_ret (w := World.setRow w3 w.heap.size #[.string ⟨#[]⟩, .string ⟨#[]⟩, .slice none 0 0]) (res2p rfl (HX3.out.row _ _ _) false _ rfl rfl) rfl (ansA_no HOX.out (below_setRow HB3.out (Nat.le_refl _) _))
        · have q0 : ((strOf a).toList == []) = false := by rw [tl, beq_eq_false_iff_ne]; exact ha
          have q0' : (strOf a).toList.isEmpty = false := by rw [tl]; simpa [strOf] using ha
          have HOX : Hid (O = none) := by show _ = _; rw [HOF.out (by rintro ⟨_, e⟩; cases e), if_neg]; rintro ⟨_, e, _⟩; exact ha e
          clear ha
          go_wp2_with fail
          refine (HNR.out _).mono ?_
          rintro e w4 ⟨rfl, hw4⟩
          subst hw4
          go_wp2_with (refine store_px HX3.out ⟨#[]⟩ ⟨#[]⟩ none 0 0 (.tmp 2) (.tmp 66) rfl rfl rfl rfl ?_)
          try simp only [Exit.inBlock, Exit.then]
          exact bodyPost_ret (w := World.setRow w3 w.heap.size #[.string ⟨#[]⟩, .string ⟨#[]⟩, .slice none 0 0]) (res2p rfl (HX3.out.row _ _ _) false _ rfl rfl) rfl (ansA_no HOX.out (below_setRow HB3.out (Nat.le_refl _) _))
      · have h4I : ¬ (3 : Int) < (n3 : Int) := by omega
        have HOX : Hid (O = none) := by show _ = _; rw [HOF.out (by rintro ⟨_, e⟩; cases e), if_neg]; rintro ⟨e, _⟩; exact h4 e
        go_wp2_with fail
        refine (HNR.out _).mono ?_
        rintro e w4 ⟨rfl, hw4⟩
        subst hw4
        go_wp2_with (refine store_px HX3.out ⟨#[]⟩ ⟨#[]⟩ none 0 0 (.tmp 2) (.tmp 66) rfl rfl rfl rfl ?_)
        try simp only [Exit.inBlock, Exit.then]
        exact bodyPost_ret (w := World.setRow w3 w.heap.size #[.string ⟨#[]⟩, .string ⟨#[]⟩, .slice none 0 0]) (res2p rfl (HX3.out.row _ _ _) false _ rfl rfl) rfl (ansA_no HOX.out (below_setRow HB3.out (Nat.le_refl _) _))
  · have hnI : ¬ (1 : Int) < (n3 : Int) := by omega
    have h4I : ¬ (3 : Int) < (n3 : Int) := by omega
    have HOX : Hid (O = none) := by show _ = _; rw [HOF.out (by rintro ⟨e, _⟩; exact h2 e), if_neg]; rintro ⟨e, _⟩; omega
    go_wp2_with (refine store_px HX3.out ⟨#[]⟩ ⟨#[]⟩ none 0 0 (.tmp 2) (.tmp 66) rfl rfl rfl rfl ?_)
    try simp only [Exit.inBlock, Exit.then]
    exact bodyPost_ret (w := World.setRow w3 w.heap.size #[.string ⟨#[]⟩, .string ⟨#[]⟩, .slice none 0 0]) (res2p rfl (HX3.out.row _ _ _) false _ rfl rfl) rfl (ansA_no HOX.out (below_setRow HB3.out (Nat.le_refl _) _))
set_option linter.unusedSimpArgs false in
set_option maxRecDepth 100000 in
set_option maxHeartbeats 8000000 in
theorem fine_any (s : ByteArray) (w : World) (hs : s.size ≤ 900000) (hE : Env w) : Calls Tryz.prog 8 #[.string s] w fun e w' => e = .returned (.bool (wfine s.data.toList)) ∧ Below w.heap.size w w' := by
  obtain ⟨O, hO⟩ : ∃ O, O = wapart s.data.toList := ⟨_, rfl⟩
  have HAP : Hid (Calls Tryz.prog 13 #[.string s] w (AnsA w O)) := by rw [hO]; exact apart_any s w hs hE
  rw [← wapart_some, ← hO]
  clear hO hE
  go_enter Tryz.func8, Tryz.ntmps8
  go_wp2_with fail
  refine HAP.out.mono ?_
  rintro e w2 ⟨hb, hA⟩
  have HB := hid hb
  clear hb
  cases O with
  | none =>
    obtain ⟨d, h, A, n, c, rfl⟩ := hA
    go_wp2
    go_ret
    exact ⟨rfl, HB.out.alloc HB.out.size _⟩
  | some v =>
    obtain ⟨d, h, l⟩ := v
    obtain ⟨A, c, rfl, hc, hm, hR⟩ := hA
    clear hR
    go_wp2
    go_ret
    exact ⟨rfl, HB.out.alloc HB.out.size _⟩
end Go.Proofs.YtleecmapaihhmaaGreatDoor.WinC
