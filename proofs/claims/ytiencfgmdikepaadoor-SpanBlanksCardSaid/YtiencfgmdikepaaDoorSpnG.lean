/- Plain facts: blanks around = and around - make no difference; the law's own digits. -/
import Derived.Test.YtiencfgmdikepaaDoorSpnF
namespace Go.Proofs.YtiencfgmdikepaaDoor.SpnG
open Go.RowKit Go.Proofs.YtiencfgmdikepaaDoor.Base Go.Proofs.YtiencfgmdikepaaDoor.Base2 Go.Proofs.YtiencfgmdikepaaDoor.UtfA Go.Proofs.YtiencfgmdikepaaDoor.SpnP Go.Proofs.YtiencfgmdikepaaDoor.SpnA Go.Proofs.YtiencfgmdikepaaDoor.SpnF

/-- Blanks alone. -/
def Bl (x : List UInt8) : Prop := ∀ c ∈ x, c ∈ sp
theorem pass_bl (x L : List UInt8) (h : Bl x) : pass (x ++ L) = pass L := by
  induction x with
  | nil => rfl
  | cons c x ih =>
    rw [List.cons_append, pass_cons, if_pos (List.contains_iff_mem.2 (h c (by simp)))]
    exact ih fun y hy => h y (by simp [hy])
theorem p_eq (c : UInt8) (t : List UInt8) (h : sp.contains c = false) : pass (c :: t) = c :: t := by rw [pass_cons, if_neg (by rw [h]; decide)]
theorem num_bl (z : Int) (x : List UInt8) (t : List UInt8) (h : Bl x) : num z (x ++ 45 :: t) = (z, x ++ 45 :: t) := by
  cases x with
  | nil => exact num_stop' z t
  | cons c x =>
    have hc := h c (by simp)
    have : digit c.toNat = false := by
      simp [sp] at hc
      rcases hc with rfl | rfl <;> decide
    rw [List.cons_append, num, if_neg (by rw [this]; decide)]
def text (x0 x1 x2 x3 A B Z : List UInt8) : List UInt8 := [98, 89, 116, 69, 115] ++ x0 ++ [61] ++ x1 ++ A ++ x2 ++ [45] ++ x3 ++ B ++ Z
theorem has_of (h : Bool) (n : Nat) (R : List UInt8) (L : List UInt8) (hL : L = if h = true then Lib.decDigits n ++ R else R) (e : (num 0 L).2 = R) : hasNum L = h := by
  unfold hasNum
  rw [e, hL]
  cases h
  · simp
  · obtain ⟨c, u, e', _⟩ := dd_head n
    simp [e']
    omega
/-- The parts of such a text, with Z behind, which is nothing or a byte that is neither a digit nor a blank. -/
theorem parts (x0 x1 x2 x3 Z : List UInt8) (F T : Nat) (hf ht : Bool) (h0 : Bl x0) (h1 : Bl x1) (h2 : Bl x2) (h3 : Bl x3) (hF : F ≤ 65535) (hT : T ≤ 65535) (f0 : hf = false → F = 0) (t0 : ht = false → T = 0) (hZ : Z = [] ∨ Z = [120]) :
    is 61 (pass ((text x0 x1 x2 x3 (dg hf F) (dg ht T) Z).drop 5)) = true ∧ (num 0 (from_ (text x0 x1 x2 x3 (dg hf F) (dg ht T) Z))).1 = (F : Int) ∧ hasNum (from_ (text x0 x1 x2 x3 (dg hf F) (dg ht T) Z)) = hf ∧
      is 45 (pass (num 0 (from_ (text x0 x1 x2 x3 (dg hf F) (dg ht T) Z))).2) = true ∧ (num 0 (to_ (text x0 x1 x2 x3 (dg hf F) (dg ht T) Z))) = ((T : Int), Z) ∧ hasNum (to_ (text x0 x1 x2 x3 (dg hf F) (dg ht T) Z)) = ht := by
  obtain ⟨L, hL⟩ : ∃ L, L = text x0 x1 x2 x3 (dg hf F) (dg ht T) Z := ⟨_, rfl⟩
  rw [← hL]
  have e0 : pass (L.drop 5) = 61 :: (x1 ++ (dg hf F ++ (x2 ++ 45 :: (x3 ++ (dg ht T ++ Z))))) := by
    have : L.drop 5 = x0 ++ 61 :: (x1 ++ (dg hf F ++ (x2 ++ 45 :: (x3 ++ (dg ht T ++ Z))))) := by rw [hL]; simp [text]
    rw [this, pass_bl _ _ h0, p_eq _ _ (by decide)]
  have ef : from_ L = if hf = true then Lib.decDigits F ++ (x2 ++ 45 :: (x3 ++ (dg ht T ++ Z))) else 45 :: (x3 ++ (dg ht T ++ Z)) := by
    unfold from_
    rw [e0, cut, if_pos rfl, pass_bl _ _ h1]
    cases hf
    · show pass ([] ++ (x2 ++ 45 :: (x3 ++ (dg ht T ++ Z)))) = 45 :: (x3 ++ (dg ht T ++ Z))
      rw [List.nil_append, pass_bl _ _ h2, p_eq _ _ (by decide)]
    · show pass (Lib.decDigits F ++ (x2 ++ 45 :: (x3 ++ (dg ht T ++ Z)))) = Lib.decDigits F ++ (x2 ++ 45 :: (x3 ++ (dg ht T ++ Z)))
      obtain ⟨c, u, e, hc⟩ := dd_head F
      rw [e]
      exact pass_dig c _ hc
  have en : num 0 (from_ L) = ((F : Int), if hf = true then x2 ++ 45 :: (x3 ++ (dg ht T ++ Z)) else 45 :: (x3 ++ (dg ht T ++ Z))) := by
    rw [ef]
    cases hf
    · rw [f0 rfl]
      exact num_stop' 0 _
    · show num 0 (Lib.decDigits F ++ (x2 ++ 45 :: (x3 ++ (dg ht T ++ Z)))) = _
      rw [num_dec (F + 1) F (by omega) (by omega), num_bl _ _ _ h2]
      rfl
  have ep : pass (num 0 (from_ L)).2 = 45 :: (x3 ++ (dg ht T ++ Z)) := by
    rw [en]
    cases hf
    · exact p_eq _ _ (by decide)
    · show pass (x2 ++ 45 :: (x3 ++ (dg ht T ++ Z))) = _
      rw [pass_bl _ _ h2, p_eq _ _ (by decide)]
  have pz : pass Z = Z := by rcases hZ with rfl | rfl <;> rfl
  have nz : ∀ z, num z Z = (z, Z) := fun z => by rcases hZ with rfl | rfl <;> rfl
  have et : to_ L = dg ht T ++ Z := by
    unfold to_
    rw [ep, cut, if_pos rfl, pass_bl _ _ h3]
    exact pass_dg ht T Z pz
  have em : num 0 (to_ L) = ((T : Int), Z) := by rw [et, num_dg ht T (by omega) Z t0, nz]
  refine ⟨by rw [e0]; rfl, by rw [en], ?_, by rw [ep]; rfl, em, ?_⟩
  · cases hf
    · unfold hasNum
      rw [en, ef]
      simp
    · exact has_of true F _ _ ef (by rw [en]; rfl)
  · refine has_of ht T Z _ ?_ (by rw [em])
    rw [et]
    unfold dg
    cases ht <;> simp
theorem low5 (x0 x1 x2 x3 A B Z : List UInt8) : UtfL.lower ((text x0 x1 x2 x3 A B Z).take 5) = bytesL := by
  have : (text x0 x1 x2 x3 A B Z).take 5 = [98, 89, 116, 69, 115] := by simp [text]
  rw [this]
  decide
theorem len5 (x0 x1 x2 x3 A B Z : List UInt8) : decide (5 ≤ (text x0 x1 x2 x3 A B Z).length) = true := by simp [text] <;> omega
theorem says_text (x0 x1 x2 x3 : List UInt8) (F T : Nat) (hf ht : Bool) (h0 : Bl x0) (h1 : Bl x1) (h2 : Bl x2) (h3 : Bl x3) (hF : F ≤ 65535) (hT : T ≤ 65535) (f0 : hf = false → F = 0) (t0 : ht = false → T = 0) (hor : hf = true ∨ ht = true) (hle : hf = true → ht = true → F ≤ T) :
    says (text x0 x1 x2 x3 (dg hf F) (dg ht T) []) = ((F : Int), (T : Int), hf, ht, true) ∧ (says (text x0 x1 x2 x3 (dg hf F) (dg ht T) [120])).2.2.2.2 = false := by
  constructor
  · obtain ⟨p1, p2, p3, p4, p5, p6⟩ := parts x0 x1 x2 x3 [] F T hf ht h0 h1 h2 h3 hF hT f0 t0 (.inl rfl)
    have hok : okB (text x0 x1 x2 x3 (dg hf F) (dg ht T) []) = true := by
      unfold okB
      rw [len5, low5, p1, p2, p3, p4, p5, p6]
      simp
      refine ⟨hor, ?_⟩
      cases hf <;> cases ht <;> simp_all
    unfold says
    rw [if_pos hok, p2, p3, p5, p6]
  · obtain ⟨p1, p2, p3, p4, p5, p6⟩ := parts x0 x1 x2 x3 [120] F T hf ht h0 h1 h2 h3 hF hT f0 t0 (.inr rfl)
    have hok : okB (text x0 x1 x2 x3 (dg hf F) (dg ht T) [120]) = false := by
      unfold okB
      rw [p5]
      simp
    unfold says
    rw [hok]
    rfl
theorem says_ahead (L : List UInt8) : (says (32 :: L)).2.2.2.2 = false := by
  have hok : okB (32 :: L) = false := by
    unfold okB
    have : decide (UtfL.lower ((32 :: L).take 5) = bytesL) = false := by
      rw [decide_eq_false_iff_not]
      intro h
      simp only [List.take_succ_cons, UtfL.lower, List.map_cons, bytesL, List.cons.injEq] at h
      exact absurd h.1 (by decide)
    rw [this]
    simp
  unfold says
  rw [hok]
  rfl
set_option maxRecDepth 100000 in
theorem digits_any : ∀ (k n : Nat), n < k → n ≤ 65535 → ∀ w : World, Calls Tryd.prog 15 #[.int .u16 (n : Int)] w fun e w' => e = .returned (.string (strOf (Lib.decDigits n))) ∧ Below w.heap.size w w'
  | 0, _, h, _, _ => absurd h (by omega)
  | k + 1, n, h, hm, w => by
    have ih := digits_any k (n / 10) 
    have hrow : ∀ w : World, (convert 53 9 (.slice (some ⟨w.heap.size, 0, none⟩) 1 1)).run Tryd.prog (w.alloc (.cells (bcells [UInt8.ofNat (48 + n % 10)]).toArray 5)) = .ok (.string (strOf [UInt8.ofNat (48 + n % 10)])) (w.alloc (.cells (bcells [UInt8.ofNat (48 + n % 10)]).toArray 5)) := fun w =>
      run_string_of 53 9 5 Tryd.underlying53 Tryd.underlying5 Tryd.underlying9 [UInt8.ofNat (48 + n % 10)] 1 (rds_const w [UInt8.ofNat (48 + n % 10)] 5 (0, 0))
    have hb : (bcells [UInt8.ofNat (48 + n % 10)]).toArray = #[.int .u8 (48 + ((n : Int) % 10))] := by
      simp [bcells]
      omega
    rw [hb] at hrow
    have hrow' := hrow w
    obtain ⟨C, hC⟩ : ∃ C, C = strOf [UInt8.ofNat (48 + n % 10)] := ⟨_, rfl⟩
    rw [← hC] at hrow'
    have hq0 : 0 ≤ (n : Int) % 10 := by omega
    have hq1 : (n : Int) % 10 < 10 := by omega
    have hmod : (n : Int).tmod 10 = (n : Int) % 10 := Int.tmod_eq_emod_of_nonneg (by omega)
    have hdiv : (n : Int).tdiv 10 = (n : Int) / 10 := Int.tdiv_eq_ediv_of_nonneg (by omega)
    by_cases h10 : n < 10
    · have h9 : ¬ (9 : Int) < (n : Int) := by omega
      have HV : Hid (strOf (Lib.decDigits n) = C) := by
        show _ = _
        rw [hC, dd, if_pos h10, show n % 10 = n by omega]
      clear ih hC hrow hb
      go_enter Tryd.func15, Tryd.ntmps15
      go_wp2

      go_ret
      rw [HV.out]
      exact ⟨rfl, (Below.refl _ _).alloc (Nat.le_refl _) _⟩
    · have h9 : (9 : Int) < (n : Int) := by omega
      have HV : Hid (strOf (Lib.decDigits n) = strOf (Lib.decDigits (n / 10) ++ [UInt8.ofNat (48 + n % 10)])) := by
        show _ = _
        rw [dd n, if_neg h10]
      have hln : (Lib.decDigits (n / 10)).length ≤ 19 := dd_len (n / 10 + 1) (n / 10) (by omega) (by omega)
      have hadd : ∀ w, (Op.stringOp .add (strOf (Lib.decDigits (n / 10))) C).run Tryd.prog w = .ok (.string (strOf (Lib.decDigits n))) w := fun w => by rw [HV.out, hC]; exact str_add _ _ w (by simp; omega)
      have HI := hid (ih (by omega) (by omega))
      have hnd : ((n / 10 : Nat) : Int) = (n : Int) / 10 := by omega
      have HND := hid hnd
      clear ih hC hrow hb hnd
      go_enter Tryd.func15, Tryd.ntmps15
      go_wp2_with fail
      rw [← HND.out]
      refine (HI.out _).mono ?_
      rintro e w2 ⟨rfl, hb2⟩
      go_wp2_with fail
      go_ret
      exact ⟨rfl, ((Below.refl _ _).alloc (Nat.le_refl _) _).trans (hb2.mono (by simp))⟩
end Go.Proofs.YtiencfgmdikepaaDoor.SpnG
