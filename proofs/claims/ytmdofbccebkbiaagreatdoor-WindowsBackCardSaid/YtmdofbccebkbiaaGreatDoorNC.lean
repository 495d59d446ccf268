/- Texts that belong together: zW. -/
import Derived.Test.YtmdofbccebkbiaaGreatDoorNB
import Derived.Test.YtmdofbccebkbiaaGreatDoorME
import Derived.Test.YtmdofbccebkbiaaGreatDoorMA
set_option linter.unusedSimpArgs false
set_option linter.unusedVariables false
set_option maxRecDepth 100000
set_option maxHeartbeats 64000000
namespace Go.Proofs.YtmdofbccebkbiaaGreatDoor.zW
open Go.RowKit Base aT rJ xJ Rk FT zX VW WinB WinR eH
open Go.Proofs.YtmdofbccebkbiaaGreatDoor.kX (nrm)
open Go.Proofs.YtmdofbccebkbiaaGreatDoor.lI (nP)
open Go.Proofs.YtmdofbccebkbiaaGreatDoor.uT (Max)
structure Env (w : World) : Prop where
 pow : Tab.Pow w
 QG : nP w
 max : Max w
theorem Env.below {w w' : World} (h : Env w) (hb : Below w.heap.size w w') : Env w' := ⟨Tab.Pow.below h.pow hb, h.QG.below hb, h.max.below hb⟩
def PX (w : World) (g : Nat) (d h : ByteArray) (v : Value) : Prop := w.heap[g]? = some (.cells #[.string d, .string h, v] 91 (0, 0))
section
variable {w w' : World} {g : Nat} {d h : ByteArray} {v : Value}
theorem PX.lt (x : PX w g d h v) : g < w.heap.size := (Array.getElem?_eq_some_iff.1 x).1
theorem PX.below (x : PX w g d h v) (hb : Below w.heap.size w w') : PX w' g d h v := (hb.block g x.lt).trans x
theorem PX.row (x : PX w g d h v) (d' h' : ByteArray) (v' : Value) : PX (w.setRow g #[.string d', .string h', v']) g d' h' v' := setRow_heap w g _ _ _ (0, 0) x
theorem PX.facts (x : PX w g d h v) : w.cell? ⟨g, 0, none⟩ = some (.string d) ∧ w.cell? ⟨g, 1, none⟩ = some (.string h) ∧ w.cell? ⟨g, 2, none⟩ = some v := ⟨cell_of_row w g 0 _ _ _ x, cell_of_row w g 1 _ _ _ x, cell_of_row w g 2 _ _ _ x⟩
end
theorem Fz {w : World} {g : Nat} {d h : ByteArray} {v : Value} {fn : Func} {a b : Tmp} (hr : fn.results = #[.cell a 91, .tmp b]) (hU : PX w g d h v) (ok : Bool) (tmps : Array Value) (h2 : tmps.getD a undef = .pointer (some ⟨g, 0, none⟩)) (h3 : tmps.getD b undef = .bool ok) :
  (results fn tmps).run Tryz.prog w = .ok (.tuple #[.agg #[.string d, .string h, v], .bool ok]) w := by
 have hp' : tmps[a]?.getD undef = .pointer (some ⟨g, 0, none⟩) := by simpa using h2
 have hq' : tmps[b]?.getD undef = .bool ok := by simpa using h3
 have hl : (loadVar 91 ⟨g, 0, none⟩).run Tryz.prog w = .ok (.agg #[.string d, .string h, v]) w := run_loadVar_row w g _ _ #[.string d, .string h, v] (0, 0) _ hU Tryz.underlying91 rfl (by kernel_rfl)
 simp [results, hr, hp', hq', asAddr, hl]
theorem yT {w : World} {g : Nat} {d h : ByteArray} {v : Value} {ops : Array Oper} {rest : List Oper} {o : Oper} {a : Act} {Q : Exit → Act → World → Prop} (hU : PX w g d h v) (d' h' : ByteArray) (A : Option Addr) (n c : Nat) (x y : Operand) (ho : o.op = .store 91 x y) (hgd : o.guard = none)
  (hx : a.eval x = .pointer (some ⟨g, 0, none⟩)) (hy : a.eval y = .agg #[.string d', .string h', .slice A n c])
  (hh : wpList Tryz.prog ops Q rest (a.put o.dst undef) (w.setRow g #[.string d', .string h', .slice A n c])) : wpList Tryz.prog ops Q (o :: rest) a w :=
 wpList_store_row hgd 91 x y ho g #[.string d', .string h', .slice A n c] hx hy 91 #[.string d, .string h, v] hU (by kernel_rfl) rfl (by simp [Value.oneCell']) hh
def XL (w : World) (l : List (List UInt8)) (e : Ending) (w' : World) : Prop := ∃ n c, e = .returned (.slice (some ⟨w.heap.size, 0, none⟩) n c) ∧ l.length = n ∧ n ≤ c ∧ c ≤ maxLen ∧ bK w' (some ⟨w.heap.size, 0, none⟩) n ((l.map strOf).map Value.string) ∧ Below w.heap.size w w'
theorem fresh92 (s : ByteArray) (w : World) (hs : s.size ≤ 1073741824) (hM : Max w) : Calls Tryz.prog 67 #[.string s, .string ⟨#[92]⟩] w (XL w (spl 92 s.data.toList)) := by
 obtain ⟨m, hm⟩ := hM
 refine (Tryz.strings_Split s ⟨#[92]⟩ m w (by omega) hm (Nat.le_refl _)).mono ?_
 rintro e w' ⟨rfl, rfl⟩
 have hd := Lib.splitB_data ⟨#[92]⟩ 0 (Lib.countB s ⟨#[92]⟩) s
 rw [show (⟨#[92]⟩ : ByteArray).data.toList = [92] from rfl, uT.ou 92 (spl 92) rfl (Jb 92) (DU 92) _ _ (by rw [← Lib.count_one]; exact Nat.le_refl _)] at hd
 have hl := Lib.splitB_all ⟨#[92]⟩ (Nat.le_refl _) 0 _ s rfl
 have hc := Lib.countB_le ⟨#[92]⟩ (Nat.le_refl _) s.size s (Nat.le_refl _)
 generalize Lib.splitB ⟨#[92]⟩ 0 (Lib.countB s ⟨#[92]⟩) s = B at hd hl ⊢
 have hB : B = (spl 92 s.data.toList).map strOf := by
  rw [← hd, List.map_map]
  conv => lhs; rw [← List.map_id B]
  exact List.map_congr_left fun x _ => (aS x).symm
 have hlen : (spl 92 s.data.toList).length = B.length := by rw [hB, List.length_map]
 unfold XL
 rw [← hB, hlen]
 refine ⟨_, _, rfl, hl, Nat.le_refl _, by unfold maxLen; omega, ?_, (Below.refl _ _).alloc (Nat.le_refl _) _⟩
 exact bK.kG (by rw [List.length_map, hl]) (by simp) (fun j hj => by
  rw [Nat.zero_add, World.cell?_alloc_mark]
  simp)
theorem Vh {w : World} {b off n g : Nat} {xs : List Value} (h : bK w (some ⟨b, off, none⟩) n xs) (hg : b ≠ g) (c : Array Value) : bK (w.setRow g c) (some ⟨b, off, none⟩) n xs := by
 refine ⟨h.1, fun j hj => ?_⟩
 obtain ⟨b', off', e, hlt, hc⟩ := h.2 j hj
 injection e with e
 injection e with e1 e2
 subst e1 e2
 refine ⟨b, off, rfl, Nat.lt_of_lt_of_le hlt (below_setRow (Below.refl g w) (Nat.le_refl _) c).size, ?_⟩
 rw [← hc]
 unfold World.cell?
 rw [setRow_other w g b c hg]
structure Qi (w0 : World) (g b n : Nat) (xs : List Value) (d h : ByteArray) (v : Value) (k : Nat) (L : Nat → Bool) (w : World) : Prop where
 no : L k = false → PX w g ⟨#[]⟩ ⟨#[]⟩ (.slice none 0 0)
 yes : L k = true → PX w g d h v
 bel : Below w0.heap.size w0 w
 le : w0.heap.size ≤ g
 IW : bK w (some ⟨b, 0, none⟩) n xs
 ne : b ≠ g
theorem qs {w0 : World} {g b n : Nat} {xs : List Value} {d h : ByteArray} {v : Value} {k : Nat} {L : Nat → Bool} {w w' : World} (i : Nat) (hi : (i == k) = false) (hb : Below w.heap.size w w') (hG : Qi w0 g b n xs d h v k L w) : Qi w0 g b n xs d h v k (did L i) w' := by
 rw [beq_eq_false_iff_ne] at hi
 have e := Bj L (Ne.symm hi)
 exact ⟨fun x => (hG.no (e ▸ x)).below hb, fun x => (hG.yes (e ▸ x)).below hb, hG.bel.trans (hb.mono hG.bel.size), hG.le, hG.IW.below hb, hG.ne⟩
theorem qk {w0 : World} {g b n : Nat} {xs : List Value} {d h : ByteArray} {A : Option Addr} {m c : Nat} {k : Nat} {L : Nat → Bool} {w : World} (hL : L k = false) (hG : Qi w0 g b n xs d h (.slice A m c) k L w) : Qi w0 g b n xs d h (.slice A m c) k (did L k) (w.setRow g #[.string d, .string h, .slice A m c]) := by
 have e := x9 L k
 exact ⟨fun x => by (rw [e] at x; cases x), fun _ => (hG.no hL).row _ _ _, below_setRow hG.bel hG.le _, hG.le, Vh hG.IW hG.ne _, hG.ne⟩
def Vz (w : World) (o : Option W3) (e : Ending) (w' : World) : Prop := Below w.heap.size w w' ∧ match o with
 | none => ∃ d h A n c, e = .returned (.tuple #[.agg #[.string d, .string h, .slice A n c], .bool false])
 | some (d, h, l) => ∃ A c, e = .returned (.tuple #[.agg #[.string (strOf d), .string (strOf h), .slice A l.length c], .bool true]) ∧ l.length ≤ c ∧ c ≤ maxLen ∧ bK w' A l.length ((l.map strOf).map Value.string)
theorem vP : ∀ l : List (List UInt8), near l = (decide (2 ≤ l.length) && nrm (l.getD 0 []) && lS (l.drop 1))
 | [] => rfl
 | [a] => by simp [near]
 | a :: b :: r => by simp [near]
theorem Ey : ∀ l : List (List UInt8), far l = (decide (4 ≤ l.length) && decide (l.getD 0 [] = []) && decide (l.getD 1 [] = []) && who (l.getD 2 []) && decide (l.getD 3 [] ≠ []) && lS (l.drop 3))
 | [] => rfl
 | [a] => rfl
 | [a, b] => rfl
 | [a, b, c] => rfl
 | a :: b :: c :: x :: r => by simp [far]
theorem aaJ (l : List (List UInt8)) (h1 : 2 ≤ l.length) (h2 : nrm (l.getD 0 []) = true) : NV l = if lS (l.drop 1) = true then some (l.getD 0 [], [], l.drop 1) else none := by
 have hn := vP l
 rw [decide_eq_true h1, h2] at hn
 have hf : far l = false := by
  rw [Ey]
  have : l.getD 0 [] ≠ [] := by intro e; rw [e] at h2; exact absurd h2 (by decide)
  rw [decide_eq_false this]
  simp
 unfold NV three
 rw [hf, hn]
 cases lS (l.drop 1) <;> rfl
theorem wap_far (l : List (List UInt8)) (h : ¬ (2 ≤ l.length ∧ nrm (l.getD 0 []) = true)) : NV l = if (4 ≤ l.length ∧ l.getD 0 [] = [] ∧ l.getD 1 [] = [] ∧ who (l.getD 2 []) = true ∧ l.getD 3 [] ≠ [] ∧ lS (l.drop 3) = true) then some ([], l.getD 2 [], l.drop 3) else none := by
 have hn : near l = false := by
  rw [vP]
  by_cases h1 : 2 ≤ l.length
  ·have : nrm (l.getD 0 []) = false := by
    cases e : nrm (l.getD 0 []) with
    | false => rfl
    | true => exact absurd ⟨h1, e⟩ h
   rw [this]
   simp
  ·rw [decide_eq_false h1]; rfl
 have hf := Ey l
 unfold NV three
 rw [hn]
 by_cases c : 4 ≤ l.length ∧ l.getD 0 [] = [] ∧ l.getD 1 [] = [] ∧ who (l.getD 2 []) = true ∧ l.getD 3 [] ≠ [] ∧ lS (l.drop 3) = true
 ·obtain ⟨c1, c2, c3, c4, c5, c6⟩ := c
  rw [decide_eq_true c1, decide_eq_true c2, decide_eq_true c3, c4, decide_eq_true c5, c6] at hf
  rw [if_pos (.inr hf), if_neg (by decide), if_pos ⟨c1, c2, c3, c4, c5, c6⟩]
 ·rw [if_neg c, if_neg]
  rintro (e | e)
  ·cases e
  ·rw [hf] at e
   simp only [Bool.and_eq_true, decide_eq_true_eq] at e
   exact c ⟨e.1.1.1.1.1, e.1.1.1.1.2, e.1.1.1.2, e.1.1.2, e.1.2, e.2⟩
theorem at_k {w : World} {g n : Nat} {l : List (List UInt8)} (h : bK w (some ⟨g, 0, none⟩) n ((l.map strOf).map Value.string)) (k : Nat) (hk : k < n) : w.cell? ⟨g, k, none⟩ = some (.string (strOf (l.getD k []))) := by
 have hl : l.length = n := by rw [← h.1, List.length_map, List.length_map]
 obtain ⟨g', off, e, _, hc⟩ := vF h k hk hl
 injection e with e
 injection e with e1 e2
 subst e1 e2
 rw [Nat.zero_add] at hc
 rw [hc, List.getD_eq_getElem?_getD, List.getElem?_eq_getElem (by omega)]
 rfl
theorem Uh {w w' : World} {O : Option W3} {W : Bool} {d h : List UInt8} {l : List (List UInt8)} {A : Option Addr} {n c : Nat} (hO : O = if W = true then some (d, h, l) else none) (hb : Below w.heap.size w w') (hn : l.length = n) (hc : n ≤ c) (hm : c ≤ maxLen) (hR : bK w' A n ((l.map strOf).map Value.string)) : Vz w O (.returned (.tuple #[.agg #[.string (strOf d), .string (strOf h), .slice A n c], .bool W])) w' := by
 subst hO
 refine ⟨hb, ?_⟩
 cases W with
 | true => subst hn; exact ⟨A, c, rfl, hc, hm, hR⟩
 | false => exact ⟨_, _, _, _, _, rfl⟩
theorem yY {w w' : World} {O : Option W3} {d h : ByteArray} {A : Option Addr} {n c : Nat} (hO : O = none) (hb : Below w.heap.size w w') : Vz w O (.returned (.tuple #[.agg #[.string d, .string h, .slice A n c], .bool false])) w' := by
 subst hO
 exact ⟨hb, _, _, _, _, _, rfl⟩
theorem qy (s : ByteArray) (w : World) (hs : s.size ≤ 900000) (hE : Env w) : Calls Tryz.prog 76 #[.string s] w (Vz w (iI s.data.toList)) := by
 have hl : s.data.toList.length = s.size := Array.length_toList
 obtain ⟨O, hO⟩ : ∃ O, O = iI s.data.toList := ⟨_, rfl⟩
 rw [← hO]
 obtain ⟨l, hll⟩ : ∃ l, l = gJ s.data.toList := ⟨_, rfl⟩
 have hO2 : O = NV l := by rw [hO, hll]; rfl
 have hne : l ≠ [] := by rw [hll]; exact BR 92 _
 have hlen : l.length ≤ 900001 := by rw [hll]; have := jy 92 (s.data.toList.map bs); rw [List.length_map, hl] at this; exact Nat.le_trans this (by omega)
 have hz : ∀ x ∈ l, x.length ≤ 900000 := by
  intro x hx
  rw [hll] at hx
  have := (wu 92 _ x hx)
  rw [List.length_map, hl] at this
  omega
 obtain ⟨R, hR⟩ : ∃ R, R = s.data.toList.map bs := ⟨_, rfl⟩
 have HRE : Hid (∀ w : World, Max w → Calls Tryz.prog 140 #[.string s, .string ⟨#[47]⟩, .string ⟨#[92]⟩] w fun e w' => e = .returned (.string (strOf R)) ∧ Below w.heap.size w w') := fun w h => by rw [hR]; exact Qb s w (by omega) h
 have zQ : Hid (∀ w : World, Max w → Calls Tryz.prog 67 #[.string (strOf R), .string ⟨#[92]⟩] w (XL w l)) := fun w h => by
  have e : l = spl 92 (strOf R).data.toList := by rw [hll, hR]; rfl
  rw [e]
  exact fresh92 (strOf R) w (by rw [ah, hR, List.length_map]; omega) h
 have hon := fun h1 h2 => aaJ l h1 h2
 have hof := fun h => wap_far l h
 rw [← hO2] at hon hof
 have hz1 : ∀ x ∈ l.drop 1, x.length ≤ 900000 := fun x hx => hz x (List.mem_of_mem_drop hx)
 have hz3 : ∀ x ∈ l.drop 3, x.length ≤ 900000 := fun x hx => hz x (List.mem_of_mem_drop hx)
 have hz2 : (l.getD 2 []).length ≤ 900000 := by
  rw [List.getD_eq_getElem?_getD]
  cases e : l[2]? with
  | none => exact Nat.zero_le _
  | some y => exact hz y (List.mem_of_getElem? e)
 obtain ⟨a, ha⟩ : ∃ a, a = l.getD 0 [] := ⟨_, rfl⟩
 obtain ⟨b, hb⟩ : ∃ b, b = l.getD 1 [] := ⟨_, rfl⟩
 obtain ⟨h, hh⟩ : ∃ h, h = l.getD 2 [] := ⟨_, rfl⟩
 obtain ⟨x, hx⟩ : ∃ x, x = l.getD 3 [] := ⟨_, rfl⟩
 obtain ⟨L1, hL1⟩ : ∃ L, L = l.drop 1 := ⟨_, rfl⟩
 obtain ⟨L3, hL3⟩ : ∃ L, L = l.drop 3 := ⟨_, rfl⟩
 rw [← ha, ← hL1] at hon
 rw [← ha, ← hb, ← hh, ← hx, ← hL3] at hof
 rw [← hL1] at hz1
 rw [← hL3] at hz3
 rw [← hh] at hz2
 obtain ⟨nr, hnr⟩ : ∃ nr, nr = nrm a := ⟨_, rfl⟩
 obtain ⟨W1, hW1⟩ : ∃ W, W = lS L1 := ⟨_, rfl⟩
 obtain ⟨W3, hW3⟩ : ∃ W, W = lS L3 := ⟨_, rfl⟩
 obtain ⟨wh, hwh⟩ : ∃ W, W = who h := ⟨_, rfl⟩
 rw [← hnr, ← hW1] at hon
 rw [← hnr, ← hW3, ← hwh] at hof
 have N8 : Hid (∀ w : World, Calls Tryz.prog 141 #[.string (strOf a)] w fun e w' => e = .returned (.bool nr) ∧ w = w') := fun w => by rw [hnr]; exact Ei.vT (strOf a) w
 have HWH : Hid (∀ w : World, Env w → Calls Tryz.prog 143 #[.string (strOf h)] w fun e w' => e = .returned (.bool wh) ∧ Below w.heap.size w w') := fun w E => by rw [hwh]; exact Zg (strOf h) w (by rw [ah]; exact hz2) E.QG E.pow E.max
 have HF1 : Hid (∀ (A : Option Addr) (n cap : Nat) (w : World), bK w A n ((L1.map strOf).map Value.string) → n ≤ 1073741824 → Calls Tryz.prog 142 #[.slice A n cap] w fun e w' => e = .returned (.bool W1) ∧ Below w.heap.size w w') := fun A n cap w hR hn => by rw [hW1]; exact EY A n cap L1 w hR hn hz1
 have HF3 : Hid (∀ (A : Option Addr) (n cap : Nat) (w : World), bK w A n ((L3.map strOf).map Value.string) → n ≤ 1073741824 → Calls Tryz.prog 142 #[.slice A n cap] w fun e w' => e = .returned (.bool W3) ∧ Below w.heap.size w w') := fun A n cap w hR hn => by rw [hW3]; exact EY A n cap L3 w hR hn hz3
 obtain ⟨n, hn⟩ : ∃ n, l.length = n := ⟨_, rfl⟩
 rw [hn] at hon hof hlen
 have hn0 : 0 < n := by rw [← hn]; exact List.length_pos_iff.2 hne
 have HC : Hid (∀ (w : World) (g m : Nat), bK w (some ⟨g, 0, none⟩) m ((l.map strOf).map Value.string) → m = n → w.cell? ⟨g, 0, none⟩ = some (.string (strOf a)) ∧ (1 < n → w.cell? ⟨g, 1, none⟩ = some (.string (strOf b))) ∧ (2 < n → w.cell? ⟨g, 2, none⟩ = some (.string (strOf h))) ∧ (3 < n → w.cell? ⟨g, 3, none⟩ = some (.string (strOf x)))) := fun w g m hR e => by
  subst e
  exact ⟨by rw [ha]; exact at_k hR 0 hn0, fun k => by rw [hb]; exact at_k hR 1 k, fun k => by rw [hh]; exact at_k hR 2 k, fun k => by rw [hx]; exact at_k hR 3 k⟩
 have HD1 : Hid (∀ (w : World) (g : Nat), bK w (some ⟨g, 0, none⟩) n ((l.map strOf).map Value.string) → bK w (some ⟨g, 1, none⟩) (n - 1) ((L1.map strOf).map Value.string)) := fun w g hR => by
  have := hR.cut 1 (by omega)
  rw [hL1, List.map_drop, List.map_drop]
  exact this
 have HD3 : Hid (3 ≤ n → ∀ (w : World) (g : Nat), bK w (some ⟨g, 0, none⟩) n ((l.map strOf).map Value.string) → bK w (some ⟨g, 3, none⟩) (n - 3) ((L3.map strOf).map Value.string)) := fun hk w g hR => by
  have := hR.cut 3 hk
  rw [hL3, List.map_drop, List.map_drop]
  exact this
 have HON := hid hon
 have HOF := hid hof
 have HE := hid hE
 have HN := hid hn
 have zO := hid hlen
 have HLL1 : Hid (L1.length = n - 1) := by show _ = _; rw [hL1, List.length_drop, hn]
 have HLL3 : Hid (L3.length = n - 3) := by show _ = _; rw [hL3, List.length_drop, hn]
 clear hl hO hll hO2 hne hlen hz hR hE hs hon hof hz1 hz2 hz3 ha hb hh hx hL1 hL3 hnr hW1 hW3 hwh hn
 go_enter Tryz.func76, Tryz.ntmps76
 go_upto_region 1 with (fail)
 generalize lG : World.alloc w _ = v1
 have hxa : PX v1 w.heap.size ⟨#[]⟩ ⟨#[]⟩ (.slice none 0 0) := by rw [← lG]; exact heap_alloc_new _ _
 have hb : Below w.heap.size w v1 := by rw [← lG]; exact (Below.refl _ _).alloc (Nat.le_refl _) _
 have wZ := hid hxa
 have HB1 := hid hb
 have E1 := hid (HE.out.below hb)
 clear lG hxa hb
 go_wp2_with fail
 refine (HRE.out _ E1.out.max).mono ?_
 rintro e w2 ⟨rfl, hb⟩
 have HB2 := hid (bel HB1.out hb)
 have mD := hid (wZ.out.below hb)
 have E2 := hid (E1.out.below hb)
 clear hb
 go_wp2_with fail
 refine (zQ.out _ E2.out.max).mono ?_
 rintro e w3 ⟨n3, c3, rfl, hn3, hnc, hcm, hR, hb⟩
 have HB3 := hid (bel HB2.out hb)
 have xE := hid (mD.out.below hb)
 have E3 := hid (E2.out.below hb)
 obtain rfl : n3 = n := by rw [← hn3]; exact HN.out
 have HR3 := hid hR
 have VG : Hid (w2.heap.size ≠ w.heap.size) := by show _ ≠ _; have := mD.out.lt; omega
 have XB : Hid (w.heap.size ≤ w2.heap.size) := HB2.out.size
 have HC3 := hid (HC.out w3 _ _ hR rfl)
 clear hb hR hn3
 obtain ⟨hc0, hc1, hc2, hc3⟩ := HC3.out
 have hl9 := zO.out
 unfold maxLen at hcm
 by_cases h2 : 2 ≤ n3
 ·have hnI : (1 : Int) < (n3 : Int) := by omega
  replace hc1 := hc1 (by omega)
  cases nr with
  | true =>
   go_wp2_with fail
   refine (N8.out _).mono ?_
   rintro e w4 ⟨rfl, hw4⟩
   subst hw4
   go_upto_region 4 with (fail)
   refine aZ (by kernel_rfl) 7 [is (.slice (some ⟨w2.heap.size, 0, none⟩) n3 c3), is (.pointer (some ⟨w2.heap.size, 0, none⟩)), is (.string (strOf a)), is (.slice (some ⟨w2.heap.size, 1, none⟩) (n3 - 1) (c3 - 1)), is (.agg #[.string (strOf a), .string ⟨#[]⟩, .slice (some ⟨w2.heap.size, 1, none⟩) (n3 - 1) (c3 - 1)]), is (.slice (some ⟨w2.heap.size, 1, none⟩) (n3 - 1) (c3 - 1)), is (.bool W1)] [[], [0], [0, 1], [], [0, 1, 2, 3], [], [5], [0, 1, 2, 3, 4, 5, 6]] (by kernel_rfl) ?_ ?_
   ·refine ⟨?_, ?_, ?_, ?_, ?_, ?_, ?_, trivial⟩
    all_goals (intro t wq hbq hh K hK; simp only [filled, aQ, upd, Have, is, any, row, pick, Act.put, List.setIfInBounds_toArray, List.set_cons_zero, List.set_cons_succ, Nat.reduceAdd, Nat.reduceEqDiff, reduceIte, List.tail_cons, List.headD_cons] at hh hK ⊢; (try simp only [hh] at hK ⊢); try clear hh)
    iterate 2 · go_simp; exact hK _ _ (Below.refl _ _) rfl
    ·obtain ⟨hd0, hd1, hd2, hd3⟩ := HC.out wq _ _ (HR3.out.below hbq) rfl; go_simp; exact hK _ _ (Below.refl _ _) rfl
    iterate 3 · go_simp; exact hK _ _ (Below.refl _ _) rfl
    ·go_simp; refine (HF1.out _ _ _ _ (HD1.out _ _ (HR3.out.below hbq)) (by omega)).mono ?_; rintro e w9 ⟨rfl, uh⟩; exact hK _ _ uh rfl
   ·intro t wq hbq hh
    have f4 := aG hh 4 (by decide)
    simp only [pick] at f4
    replace f4 : t 4 = (.agg #[.string (strOf a), .string ⟨#[]⟩, .slice (some ⟨w2.heap.size, 1, none⟩) (n3 - 1) (c3 - 1)]) := f4
    have f6 := aG hh 6 (by decide)
    simp only [pick] at f6
    replace f6 : t 6 = (.bool W1) := f6
    clear hh
    simp only [filled, aQ, upd, Have, is, any, row, pick, Act.put, List.setIfInBounds_toArray, List.set_cons_zero, List.set_cons_succ, Nat.reduceAdd, Nat.reduceEqDiff, reduceIte]
    simp only [f4, f6]
    have AU := hid (bel HB3.out hbq)
    have HXq := hid (xE.out.below hbq)
    have X4 := hid (HR3.out.below hbq)
    clear hbq
    refine yT HXq.out (strOf a) ⟨#[]⟩ _ _ _ (.tmp 2) (.tmp 26) rfl rfl rfl rfl ?_
    go_wp2
    try simp only [Exit.inBlock, Exit.then]
    exact bodyPost_ret (w := World.setRow wq w.heap.size #[.string (strOf a), .string ⟨#[]⟩, .slice (some ⟨w2.heap.size, 1, none⟩) (n3 - 1) (c3 - 1)]) (Fz rfl (HXq.out.row _ _ _) W1 _ rfl rfl) rfl (Uh (h := []) (HON.out h2 (by trivial)) (below_setRow AU.out (Nat.le_refl _) _) HLL1.out (by omega) (by unfold maxLen; omega) (HD1.out _ _ (Vh X4.out VG.out _)))
  | false =>
   by_cases h4 : 4 ≤ n3
   ·have h4I : (3 : Int) < (n3 : Int) := by omega
    replace hc2 := hc2 (by omega)
    replace hc3 := hc3 (by omega)
    have h0J : (0 : Int) < (n3 : Int) := by omega
    have h2J : (2 : Int) < (n3 : Int) := by omega
    have h3J : 0 < n3 - 3 := by omega
    by_cases ha : a = []
    ·have q0 : (strOf a).toList = [] := by rw [tl]; exact ha
     have q0' : ((strOf a).toList == []) = true := by rw [q0]; rfl
     by_cases hb : b = []
     ·have q1 : (strOf b).toList = [] := by rw [tl]; exact hb
      have q1' : ((strOf b).toList == []) = true := by rw [q1]; rfl
      cases wh with
      | false =>
       have xC : Hid (O = none) := by show _ = _; rw [HOF.out (by rintro ⟨_, e⟩; cases e), if_neg]; rintro ⟨_, _, _, e, _⟩; cases e
       clear ha hb
       go_wp2_with fail
       refine (N8.out _).mono ?_
       rintro e w4 ⟨rfl, hw4⟩
       subst hw4
       go_upto_region 7 with (fail)
       refine jH (by kernel_rfl) (fun L _ wq => Qi w w.heap.size w2.heap.size n3 ((l.map strOf).map Value.string) ⟨#[]⟩ (strOf h) (.slice (some ⟨w2.heap.size, 3, none⟩) (n3 - 3) (c3 - 3)) 19 L wq) [is (.slice (some ⟨w2.heap.size, 0, none⟩) n3 c3), is (.pointer (some ⟨w2.heap.size, 2, none⟩)), is (.string (strOf h)), is (.slice (some ⟨w2.heap.size, 3, none⟩) (n3 - 3) (c3 - 3)), is (.agg #[.string ⟨#[]⟩, .string (strOf h), .slice (some ⟨w2.heap.size, 3, none⟩) (n3 - 3) (c3 - 3)]), is (.slice (some ⟨w2.heap.size, 0, none⟩) n3 c3), is (.pointer (some ⟨w2.heap.size, 2, none⟩)), is (.string (strOf h)), is (.bool false), is (.bool false), any, any, any, any, is (.bool false), is (.bool false), any, any, is (.bool false), any, is (.bool false)] [[], [0], [1], [], [2, 3], [], [5], [6], [7], [8], [9], [9, 10], [9, 11], [9, 12], [9, 13], [14], [15], [15, 16], [15, 17], [4, 17], [18]] (by kernel_rfl) (by repeat (first | exact ug | refine zB _ ?_ | refine o9 ?_)) ?_ ?_ ?_
       ·exact fun t => ⟨fun _ => xE.out, fun e => (by cases e), HB3.out.drew, Nat.le_refl _, HR3.out, VG.out⟩
       ·refine ⟨?_, ?_, ?_, ?_, ?_, ?_, ?_, ?_, ?_, ?_, ?_, ?_, ?_, ?_, ?_, ?_, ?_, ?_, ?_, ?_, ?_, trivial⟩
        all_goals (intro L t wq hG hL hC hN hh K hK; simp only [filled, upd, Have, is, any, row, pick, Act.put, List.setIfInBounds_toArray, List.set_cons_zero, List.set_cons_succ, Nat.reduceAdd, Nat.reduceEqDiff, reduceIte, List.tail_cons, List.headD_cons] at hh hK ⊢; (try simp only [hh] at hK ⊢); try clear hh)
        ·go_simp; exact hK _ _ rfl (qs 0 (by decide) (Below.refl _ _) hG)
        ·go_simp; exact hK _ _ rfl (qs 1 (by decide) (Below.refl _ _) hG)
        ·obtain ⟨hd0, hd1, hd2, hd3⟩ := HC.out wq _ _ hG.IW rfl; replace hd1 := hd1 (by omega); replace hd2 := hd2 (by omega); replace hd3 := hd3 (by omega); go_simp; exact hK _ _ rfl (qs 2 (by decide) (Below.refl _ _) hG)
        ·go_simp; exact hK _ _ rfl (qs 3 (by decide) (Below.refl _ _) hG)
        ·go_simp; exact hK _ _ rfl (qs 4 (by decide) (Below.refl _ _) hG)
        ·go_simp; exact hK _ _ rfl (qs 5 (by decide) (Below.refl _ _) hG)
        ·go_simp; exact hK _ _ rfl (qs 6 (by decide) (Below.refl _ _) hG)
        ·obtain ⟨hd0, hd1, hd2, hd3⟩ := HC.out wq _ _ hG.IW rfl; replace hd1 := hd1 (by omega); replace hd2 := hd2 (by omega); replace hd3 := hd3 (by omega); go_simp; exact hK _ _ rfl (qs 7 (by decide) (Below.refl _ _) hG)
        ·go_simp; refine (HWH.out _ (HE.out.below hG.bel)).mono ?_; rintro e w9 ⟨rfl, uh⟩; exact hK _ _ rfl (qs 8 (by decide) uh hG)
        ·go_simp; exact hK _ _ rfl (qs 9 (by decide) (Below.refl _ _) hG)
        ·go_simp; first | exact hK _ _ trivial (qs 10 (by decide) (Below.refl _ _) hG) | exact hK _ _ rfl (qs 10 (by decide) (Below.refl _ _) hG)
        ·go_simp; first | exact hK _ _ trivial (qs 11 (by decide) (Below.refl _ _) hG) | exact hK _ _ rfl (qs 11 (by decide) (Below.refl _ _) hG)
        ·go_simp; first | exact hK _ _ trivial (qs 12 (by decide) (Below.refl _ _) hG) | exact hK _ _ rfl (qs 12 (by decide) (Below.refl _ _) hG)
        ·go_simp; first | exact hK _ _ trivial (qs 13 (by decide) (Below.refl _ _) hG) | exact hK _ _ rfl (qs 13 (by decide) (Below.refl _ _) hG)
        ·go_simp; exact hK _ _ rfl (qs 14 (by decide) (Below.refl _ _) hG)
        ·go_simp; exact hK _ _ rfl (qs 15 (by decide) (Below.refl _ _) hG)
        ·go_simp; first | exact hK _ _ trivial (qs 16 (by decide) (Below.refl _ _) hG) | exact hK _ _ rfl (qs 16 (by decide) (Below.refl _ _) hG)
        ·go_simp; first | exact hK _ _ trivial (qs 17 (by decide) (Below.refl _ _) hG) | exact hK _ _ rfl (qs 17 (by decide) (Below.refl _ _) hG)
        ·go_simp; exact hK _ _ rfl (qs 18 (by decide) (Below.refl _ _) hG)
        ·refine wp_store_row 91 (.tmp 2) (.tmp 51) rfl w.heap.size #[.string ⟨#[]⟩, .string (strOf h), .slice (some ⟨w2.heap.size, 3, none⟩) (n3 - 3) (c3 - 3)] rfl rfl 91 _ (hG.no hL) (by kernel_rfl) rfl (by simp [Value.oneCell']) ?_; exact hK undef _ trivial (qk hL hG)
        ·go_simp; exact hK _ _ rfl (qs 20 (by decide) (Below.refl _ _) hG)
       ·intro Lz t wq hG hall hh
        have f20 := aG hh 20 (by decide)
        simp only [pick] at f20
        replace f20 : t 20 = (.bool false) := f20
        clear hh
        simp only [filled, upd, Have, is, any, row, pick, Act.put, List.setIfInBounds_toArray, List.set_cons_zero, List.set_cons_succ, Nat.reduceAdd, Nat.reduceEqDiff, reduceIte]
        simp only [f20]
        have HXq := hid (hG.yes (hall 19 (by decide)))
        have AU := hid hG.bel
        have X4 := hid hG.IW
        clear hG hall
        go_wp2
        try simp only [Exit.inBlock, Exit.then]
        exact bodyPost_ret (w := wq) (Fz rfl HXq.out false _ rfl rfl) rfl (yY xC.out AU.out)
      | true =>
       by_cases hx : x = []
       ·have q3 : (strOf x).toList = [] := by rw [tl]; exact hx
        have q3' : ((strOf x).toList == []) = true := by rw [q3]; rfl
        have xC : Hid (O = none) := by show _ = _; rw [HOF.out (by rintro ⟨_, e⟩; cases e), if_neg]; rintro ⟨_, _, _, _, e, _⟩; exact e hx
        clear ha hb hx
        go_wp2_with fail
        refine (N8.out _).mono ?_
        rintro e w4 ⟨rfl, hw4⟩
        subst hw4
        go_upto_region 7 with (fail)
        refine jH (by kernel_rfl) (fun L _ wq => Qi w w.heap.size w2.heap.size n3 ((l.map strOf).map Value.string) ⟨#[]⟩ (strOf h) (.slice (some ⟨w2.heap.size, 3, none⟩) (n3 - 3) (c3 - 3)) 19 L wq) [is (.slice (some ⟨w2.heap.size, 0, none⟩) n3 c3), is (.pointer (some ⟨w2.heap.size, 2, none⟩)), is (.string (strOf h)), is (.slice (some ⟨w2.heap.size, 3, none⟩) (n3 - 3) (c3 - 3)), is (.agg #[.string ⟨#[]⟩, .string (strOf h), .slice (some ⟨w2.heap.size, 3, none⟩) (n3 - 3) (c3 - 3)]), is (.slice (some ⟨w2.heap.size, 0, none⟩) n3 c3), is (.pointer (some ⟨w2.heap.size, 2, none⟩)), is (.string (strOf h)), is (.bool true), is (.bool true), is (.slice (some ⟨w2.heap.size, 3, none⟩) (n3 - 3) (c3 - 3)), is (.pointer (some ⟨w2.heap.size, 3, none⟩)), is (.string (strOf x)), is (.bool false), is (.bool false), is (.bool false), any, any, is (.bool false), any, is (.bool false)] [[], [0], [1], [], [2, 3], [], [5], [6], [7], [8], [9], [9, 10], [9, 11], [9, 12], [9, 13], [14], [15], [15, 16], [15, 17], [4, 17], [18]] (by kernel_rfl) (by repeat (first | exact ug | refine zB _ ?_ | refine o9 ?_)) ?_ ?_ ?_
        ·exact fun t => ⟨fun _ => xE.out, fun e => (by cases e), HB3.out.drew, Nat.le_refl _, HR3.out, VG.out⟩
        ·refine ⟨?_, ?_, ?_, ?_, ?_, ?_, ?_, ?_, ?_, ?_, ?_, ?_, ?_, ?_, ?_, ?_, ?_, ?_, ?_, ?_, ?_, trivial⟩
         all_goals (intro L t wq hG hL hC hN hh K hK; simp only [filled, upd, Have, is, any, row, pick, Act.put, List.setIfInBounds_toArray, List.set_cons_zero, List.set_cons_succ, Nat.reduceAdd, Nat.reduceEqDiff, reduceIte, List.tail_cons, List.headD_cons] at hh hK ⊢; (try simp only [hh] at hK ⊢); try clear hh)
         ·go_simp; exact hK _ _ rfl (qs 0 (by decide) (Below.refl _ _) hG)
         ·go_simp; exact hK _ _ rfl (qs 1 (by decide) (Below.refl _ _) hG)
         ·obtain ⟨hd0, hd1, hd2, hd3⟩ := HC.out wq _ _ hG.IW rfl; replace hd1 := hd1 (by omega); replace hd2 := hd2 (by omega); replace hd3 := hd3 (by omega); go_simp; exact hK _ _ rfl (qs 2 (by decide) (Below.refl _ _) hG)
         ·go_simp; exact hK _ _ rfl (qs 3 (by decide) (Below.refl _ _) hG)
         ·go_simp; exact hK _ _ rfl (qs 4 (by decide) (Below.refl _ _) hG)
         ·go_simp; exact hK _ _ rfl (qs 5 (by decide) (Below.refl _ _) hG)
         ·go_simp; exact hK _ _ rfl (qs 6 (by decide) (Below.refl _ _) hG)
         ·obtain ⟨hd0, hd1, hd2, hd3⟩ := HC.out wq _ _ hG.IW rfl; replace hd1 := hd1 (by omega); replace hd2 := hd2 (by omega); replace hd3 := hd3 (by omega); go_simp; exact hK _ _ rfl (qs 7 (by decide) (Below.refl _ _) hG)
         ·go_simp; refine (HWH.out _ (HE.out.below hG.bel)).mono ?_; rintro e w9 ⟨rfl, uh⟩; exact hK _ _ rfl (qs 8 (by decide) uh hG)
         ·go_simp; exact hK _ _ rfl (qs 9 (by decide) (Below.refl _ _) hG)
         ·go_simp; exact hK _ _ rfl (qs 10 (by decide) (Below.refl _ _) hG)
         ·go_simp; exact hK _ _ rfl (qs 11 (by decide) (Below.refl _ _) hG)
         ·obtain ⟨hd0, hd1, hd2, hd3⟩ := HC.out wq _ _ hG.IW rfl; replace hd1 := hd1 (by omega); replace hd2 := hd2 (by omega); replace hd3 := hd3 (by omega); go_simp; exact hK _ _ rfl (qs 12 (by decide) (Below.refl _ _) hG)
         ·go_simp; exact hK _ _ rfl (qs 13 (by decide) (Below.refl _ _) hG)
         ·go_simp; exact hK _ _ rfl (qs 14 (by decide) (Below.refl _ _) hG)
         ·go_simp; exact hK _ _ rfl (qs 15 (by decide) (Below.refl _ _) hG)
         ·go_simp; first | exact hK _ _ trivial (qs 16 (by decide) (Below.refl _ _) hG) | exact hK _ _ rfl (qs 16 (by decide) (Below.refl _ _) hG)
         ·go_simp; first | exact hK _ _ trivial (qs 17 (by decide) (Below.refl _ _) hG) | exact hK _ _ rfl (qs 17 (by decide) (Below.refl _ _) hG)
         ·go_simp; exact hK _ _ rfl (qs 18 (by decide) (Below.refl _ _) hG)
         ·refine wp_store_row 91 (.tmp 2) (.tmp 51) rfl w.heap.size #[.string ⟨#[]⟩, .string (strOf h), .slice (some ⟨w2.heap.size, 3, none⟩) (n3 - 3) (c3 - 3)] rfl rfl 91 _ (hG.no hL) (by kernel_rfl) rfl (by simp [Value.oneCell']) ?_; exact hK undef _ trivial (qk hL hG)
         ·go_simp; exact hK _ _ rfl (qs 20 (by decide) (Below.refl _ _) hG)
        ·intro Lz t wq hG hall hh
         have f20 := aG hh 20 (by decide)
         simp only [pick] at f20
         replace f20 : t 20 = (.bool false) := f20
         clear hh
         simp only [filled, upd, Have, is, any, row, pick, Act.put, List.setIfInBounds_toArray, List.set_cons_zero, List.set_cons_succ, Nat.reduceAdd, Nat.reduceEqDiff, reduceIte]
         simp only [f20]
         have HXq := hid (hG.yes (hall 19 (by decide)))
         have AU := hid hG.bel
         have X4 := hid hG.IW
         clear hG hall
         go_wp2
         try simp only [Exit.inBlock, Exit.then]
         exact bodyPost_ret (w := wq) (Fz rfl HXq.out false _ rfl rfl) rfl (yY xC.out AU.out)
       ·have q3 : ((strOf x).toList == []) = false := by rw [tl, beq_eq_false_iff_ne]; exact hx
        have q3' : (strOf x).toList.isEmpty = false := by rw [tl]; simpa [strOf] using hx
        have q3'' : ¬ (strOf x).toList = [] := by rw [tl]; exact hx
        have xC : Hid (O = if W3 = true then some ([], h, L3) else none) := by
         show _ = _
         rw [HOF.out (by rintro ⟨_, e⟩; cases e)]
         cases W3 with
         | true => rw [if_pos ⟨h4, ha, hb, rfl, hx, rfl⟩, if_pos rfl]
         | false => rw [if_neg (by rintro ⟨_, _, _, _, _, e⟩; cases e), if_neg (by decide)]
        clear ha hb hx
        go_wp2_with fail
        refine (N8.out _).mono ?_
        rintro e w4 ⟨rfl, hw4⟩
        subst hw4
        go_upto_region 7 with (fail)
        refine jH (by kernel_rfl) (fun L _ wq => Qi w w.heap.size w2.heap.size n3 ((l.map strOf).map Value.string) ⟨#[]⟩ (strOf h) (.slice (some ⟨w2.heap.size, 3, none⟩) (n3 - 3) (c3 - 3)) 19 L wq) [is (.slice (some ⟨w2.heap.size, 0, none⟩) n3 c3), is (.pointer (some ⟨w2.heap.size, 2, none⟩)), is (.string (strOf h)), is (.slice (some ⟨w2.heap.size, 3, none⟩) (n3 - 3) (c3 - 3)), is (.agg #[.string ⟨#[]⟩, .string (strOf h), .slice (some ⟨w2.heap.size, 3, none⟩) (n3 - 3) (c3 - 3)]), is (.slice (some ⟨w2.heap.size, 0, none⟩) n3 c3), is (.pointer (some ⟨w2.heap.size, 2, none⟩)), is (.string (strOf h)), is (.bool true), is (.bool true), is (.slice (some ⟨w2.heap.size, 3, none⟩) (n3 - 3) (c3 - 3)), is (.pointer (some ⟨w2.heap.size, 3, none⟩)), is (.string (strOf x)), is (.bool true), is (.bool true), is (.bool true), is (.slice (some ⟨w2.heap.size, 3, none⟩) (n3 - 3) (c3 - 3)), is (.bool W3), is (.bool W3), any, is (.bool W3)] [[], [0], [1], [], [2, 3], [], [5], [6], [7], [8], [9], [9, 10], [9, 11], [9, 12], [9, 13], [14], [15], [15, 16], [15, 17], [4, 17], [18]] (by kernel_rfl) (by repeat (first | exact ug | refine zB _ ?_ | refine o9 ?_)) ?_ ?_ ?_
        ·exact fun t => ⟨fun _ => xE.out, fun e => (by cases e), HB3.out.drew, Nat.le_refl _, HR3.out, VG.out⟩
        ·refine ⟨?_, ?_, ?_, ?_, ?_, ?_, ?_, ?_, ?_, ?_, ?_, ?_, ?_, ?_, ?_, ?_, ?_, ?_, ?_, ?_, ?_, trivial⟩
         all_goals (intro L t wq hG hL hC hN hh K hK; simp only [filled, upd, Have, is, any, row, pick, Act.put, List.setIfInBounds_toArray, List.set_cons_zero, List.set_cons_succ, Nat.reduceAdd, Nat.reduceEqDiff, reduceIte, List.tail_cons, List.headD_cons] at hh hK ⊢; (try simp only [hh] at hK ⊢); try clear hh)
         ·go_simp; exact hK _ _ rfl (qs 0 (by decide) (Below.refl _ _) hG)
         ·go_simp; exact hK _ _ rfl (qs 1 (by decide) (Below.refl _ _) hG)
         ·obtain ⟨hd0, hd1, hd2, hd3⟩ := HC.out wq _ _ hG.IW rfl; replace hd1 := hd1 (by omega); replace hd2 := hd2 (by omega); replace hd3 := hd3 (by omega); go_simp; exact hK _ _ rfl (qs 2 (by decide) (Below.refl _ _) hG)
         ·go_simp; exact hK _ _ rfl (qs 3 (by decide) (Below.refl _ _) hG)
         ·go_simp; exact hK _ _ rfl (qs 4 (by decide) (Below.refl _ _) hG)
         ·go_simp; exact hK _ _ rfl (qs 5 (by decide) (Below.refl _ _) hG)
         ·go_simp; exact hK _ _ rfl (qs 6 (by decide) (Below.refl _ _) hG)
         ·obtain ⟨hd0, hd1, hd2, hd3⟩ := HC.out wq _ _ hG.IW rfl; replace hd1 := hd1 (by omega); replace hd2 := hd2 (by omega); replace hd3 := hd3 (by omega); go_simp; exact hK _ _ rfl (qs 7 (by decide) (Below.refl _ _) hG)
         ·go_simp; refine (HWH.out _ (HE.out.below hG.bel)).mono ?_; rintro e w9 ⟨rfl, uh⟩; exact hK _ _ rfl (qs 8 (by decide) uh hG)
         ·go_simp; exact hK _ _ rfl (qs 9 (by decide) (Below.refl _ _) hG)
         ·go_simp; exact hK _ _ rfl (qs 10 (by decide) (Below.refl _ _) hG)
         ·go_simp; exact hK _ _ rfl (qs 11 (by decide) (Below.refl _ _) hG)
         ·obtain ⟨hd0, hd1, hd2, hd3⟩ := HC.out wq _ _ hG.IW rfl; replace hd1 := hd1 (by omega); replace hd2 := hd2 (by omega); replace hd3 := hd3 (by omega); go_simp; exact hK _ _ rfl (qs 12 (by decide) (Below.refl _ _) hG)
         ·go_simp; exact hK _ _ rfl (qs 13 (by decide) (Below.refl _ _) hG)
         ·go_simp; exact hK _ _ rfl (qs 14 (by decide) (Below.refl _ _) hG)
         ·go_simp; exact hK _ _ rfl (qs 15 (by decide) (Below.refl _ _) hG)
         ·go_simp; exact hK _ _ rfl (qs 16 (by decide) (Below.refl _ _) hG)
         ·go_simp; refine (HF3.out _ _ _ _ (HD3.out (by omega) _ _ hG.IW) (by omega)).mono ?_; rintro e w9 ⟨rfl, uh⟩; exact hK _ _ rfl (qs 17 (by decide) uh hG)
         ·go_simp; exact hK _ _ rfl (qs 18 (by decide) (Below.refl _ _) hG)
         ·refine wp_store_row 91 (.tmp 2) (.tmp 51) rfl w.heap.size #[.string ⟨#[]⟩, .string (strOf h), .slice (some ⟨w2.heap.size, 3, none⟩) (n3 - 3) (c3 - 3)] rfl rfl 91 _ (hG.no hL) (by kernel_rfl) rfl (by simp [Value.oneCell']) ?_; exact hK undef _ trivial (qk hL hG)
         ·go_simp; exact hK _ _ rfl (qs 20 (by decide) (Below.refl _ _) hG)
        ·intro Lz t wq hG hall hh
         have f20 := aG hh 20 (by decide)
         simp only [pick] at f20
         replace f20 : t 20 = (.bool W3) := f20
         clear hh
         simp only [filled, upd, Have, is, any, row, pick, Act.put, List.setIfInBounds_toArray, List.set_cons_zero, List.set_cons_succ, Nat.reduceAdd, Nat.reduceEqDiff, reduceIte]
         simp only [f20]
         have HXq := hid (hG.yes (hall 19 (by decide)))
         have AU := hid hG.bel
         have X4 := hid hG.IW
         clear hG hall
         go_wp2
         try simp only [Exit.inBlock, Exit.then]
         exact bodyPost_ret (w := wq) (Fz rfl HXq.out W3 _ rfl rfl) rfl (Uh (d := []) xC.out AU.out HLL3.out (by omega) (by unfold maxLen; omega) (HD3.out (by omega) _ _ X4.out))
     ·have q1 : ((strOf b).toList == []) = false := by rw [tl, beq_eq_false_iff_ne]; exact hb
      have q1' : (strOf b).toList.isEmpty = false := by rw [tl]; simpa [strOf] using hb
      have xC : Hid (O = none) := by show _ = _; rw [HOF.out (by rintro ⟨_, e⟩; cases e), if_neg]; rintro ⟨_, _, e, _⟩; exact hb e
      clear ha hb
      go_wp2_with fail
      refine (N8.out _).mono ?_
      rintro e w4 ⟨rfl, hw4⟩
      subst hw4
      go_wp2_with (refine yT xE.out ⟨#[]⟩ ⟨#[]⟩ none 0 0 (.tmp 2) (.tmp 66) rfl rfl rfl rfl ?_)
      try simp only [Exit.inBlock, Exit.then]
      exact bodyPost_ret (w := World.setRow w3 w.heap.size #[.string ⟨#[]⟩, .string ⟨#[]⟩, .slice none 0 0]) (Fz rfl (xE.out.row _ _ _) false _ rfl rfl) rfl (yY xC.out (below_setRow HB3.out (Nat.le_refl _) _))
    ·have q0 : ((strOf a).toList == []) = false := by rw [tl, beq_eq_false_iff_ne]; exact ha
     have q0' : (strOf a).toList.isEmpty = false := by rw [tl]; simpa [strOf] using ha
     have xC : Hid (O = none) := by show _ = _; rw [HOF.out (by rintro ⟨_, e⟩; cases e), if_neg]; rintro ⟨_, e, _⟩; exact ha e
     clear ha
     go_wp2_with fail
     refine (N8.out _).mono ?_
     rintro e w4 ⟨rfl, hw4⟩
     subst hw4
     go_wp2_with (refine yT xE.out ⟨#[]⟩ ⟨#[]⟩ none 0 0 (.tmp 2) (.tmp 66) rfl rfl rfl rfl ?_)
     try simp only [Exit.inBlock, Exit.then]
     exact bodyPost_ret (w := World.setRow w3 w.heap.size #[.string ⟨#[]⟩, .string ⟨#[]⟩, .slice none 0 0]) (Fz rfl (xE.out.row _ _ _) false _ rfl rfl) rfl (yY xC.out (below_setRow HB3.out (Nat.le_refl _) _))
   ·have h4I : ¬ (3 : Int) < (n3 : Int) := by omega
    have xC : Hid (O = none) := by show _ = _; rw [HOF.out (by rintro ⟨_, e⟩; cases e), if_neg]; rintro ⟨e, _⟩; exact h4 e
    go_wp2_with fail
    refine (N8.out _).mono ?_
    rintro e w4 ⟨rfl, hw4⟩
    subst hw4
    go_wp2_with (refine yT xE.out ⟨#[]⟩ ⟨#[]⟩ none 0 0 (.tmp 2) (.tmp 66) rfl rfl rfl rfl ?_)
    try simp only [Exit.inBlock, Exit.then]
    exact bodyPost_ret (w := World.setRow w3 w.heap.size #[.string ⟨#[]⟩, .string ⟨#[]⟩, .slice none 0 0]) (Fz rfl (xE.out.row _ _ _) false _ rfl rfl) rfl (yY xC.out (below_setRow HB3.out (Nat.le_refl _) _))
 ·have hnI : ¬ (1 : Int) < (n3 : Int) := by omega
  have h4I : ¬ (3 : Int) < (n3 : Int) := by omega
  have xC : Hid (O = none) := by show _ = _; rw [HOF.out (by rintro ⟨e, _⟩; exact h2 e), if_neg]; rintro ⟨e, _⟩; omega
  go_wp2_with (refine yT xE.out ⟨#[]⟩ ⟨#[]⟩ none 0 0 (.tmp 2) (.tmp 66) rfl rfl rfl rfl ?_)
  try simp only [Exit.inBlock, Exit.then]
  exact bodyPost_ret (w := World.setRow w3 w.heap.size #[.string ⟨#[]⟩, .string ⟨#[]⟩, .slice none 0 0]) (Fz rfl (xE.out.row _ _ _) false _ rfl rfl) rfl (yY xC.out (below_setRow HB3.out (Nat.le_refl _) _))
theorem ni (s : ByteArray) (w : World) (hs : s.size ≤ 900000) (hE : Env w) : Calls Tryz.prog 36 #[.string s] w fun e w' => e = .returned (.bool (jc s.data.toList)) ∧ Below w.heap.size w w' := by
 obtain ⟨O, hO⟩ : ∃ O, O = iI s.data.toList := ⟨_, rfl⟩
 have HAP : Hid (Calls Tryz.prog 76 #[.string s] w (Vz w O)) := by rw [hO]; exact qy s w hs hE
 rw [← sG, ← hO]
 clear hO hE
 go_enter Tryz.func36, Tryz.ntmps36
 go_wp2_with fail
 refine HAP.out.mono ?_
 rintro e w2 ⟨hb, hA⟩
 have HB := hid hb
 clear hb
 cases O with
 | none =>
  obtain ⟨d, h, A, n, c, rfl⟩ := hA
  go_wp2
  go_ret
  exact ⟨rfl, HB.out.alloc HB.out.size _⟩
 | some v =>
  obtain ⟨d, h, l⟩ := v
  obtain ⟨A, c, rfl, hc, hm, hR⟩ := hA
  clear hR
  go_wp2
  go_ret
  exact ⟨rfl, HB.out.alloc HB.out.size _⟩
end Go.Proofs.YtmdofbccebkbiaaGreatDoor.zW
