/- IPv6 addresses: six.Parse. -/
import Derived.Test.YtnmkkejodkjjiaaDoorSixB
import Derived.Laws.CopyOwn
namespace Go.Proofs.YtnmkkejodkjjiaaDoor.SixC
open Go.RowKit Go.Proofs.YtnmkkejodkjjiaaDoor.Base Go.Proofs.YtnmkkejodkjjiaaDoor.Base2 Go.Proofs.YtnmkkejodkjjiaaDoor.Base3 Go.Proofs.YtnmkkejodkjjiaaDoor.UtfA Go.Proofs.YtnmkkejodkjjiaaDoor.QudP Go.Proofs.YtnmkkejodkjjiaaDoor.SixP Go.Proofs.YtnmkkejodkjjiaaDoor.SixQ Go.Proofs.YtnmkkejodkjjiaaDoor.SixA Go.Proofs.YtnmkkejodkjjiaaDoor.SixB Go.Proofs.YtnmkkejodkjjiaaDoor.Spl

def zer : List Nat := [0, 0, 0, 0, 0, 0, 0, 0]
def SixV (o : Option (List Nat)) : Value := match o with
  | some V => .tuple #[.agg (ncells V).toArray, .bool true]
  | none => .tuple #[.agg (ncells zer).toArray, .bool false]
theorem sixv_none {o : Option (List Nat)} (h : o = none) : SixV o = .tuple #[.agg (ncells zer).toArray, .bool false] := by rw [h]; rfl
theorem sixv_some {o : Option (List Nat)} {V : List Nat} (h : o = some V) : SixV o = .tuple #[.agg (ncells V).toArray, .bool true] := by rw [h]; rfl
theorem cells8 {w : World} {g : Nat} {t : TypeId} {L : List Nat} (h : Box w g t L) (f : Nat → Nat) (hL : L = [f 0, f 1, f 2, f 3, f 4, f 5, f 6, f 7]) :
    w.cell? ⟨g, 0, none⟩ = some (.int .u16 (f 0 : Int)) ∧ w.cell? ⟨g, 1, none⟩ = some (.int .u16 (f 1 : Int)) ∧ w.cell? ⟨g, 2, none⟩ = some (.int .u16 (f 2 : Int)) ∧ w.cell? ⟨g, 3, none⟩ = some (.int .u16 (f 3 : Int)) ∧ w.cell? ⟨g, 4, none⟩ = some (.int .u16 (f 4 : Int)) ∧ w.cell? ⟨g, 5, none⟩ = some (.int .u16 (f 5 : Int)) ∧ w.cell? ⟨g, 6, none⟩ = some (.int .u16 (f 6 : Int)) ∧ w.cell? ⟨g, 7, none⟩ = some (.int .u16 (f 7 : Int)) := by
  subst hL
  refine ⟨h.cell 0 (by simp), h.cell 1 (by simp), h.cell 2 (by simp), h.cell 3 (by simp), h.cell 4 (by simp), h.cell 5 (by simp), h.cell 6 (by simp), h.cell 7 (by simp)⟩
theorem frozen8 {w : World} {g : Nat} {t : TypeId} {L : List Nat} (h : Box w g t L) : w.frozen? ⟨g, 0, none⟩ = false ∧ w.frozen? ⟨g, 1, none⟩ = false ∧ w.frozen? ⟨g, 2, none⟩ = false ∧ w.frozen? ⟨g, 3, none⟩ = false ∧ w.frozen? ⟨g, 4, none⟩ = false ∧ w.frozen? ⟨g, 5, none⟩ = false ∧ w.frozen? ⟨g, 6, none⟩ = false ∧ w.frozen? ⟨g, 7, none⟩ = false :=
  ⟨h.frozen 0, h.frozen 1, h.frozen 2, h.frozen 3, h.frozen 4, h.frozen 5, h.frozen 6, h.frozen 7⟩
def put8 (w : World) (g : Nat) (f : Nat → Nat) : World := (((((((w.setCell ⟨g, 0, none⟩ (.int .u16 (f 0 : Int))).setCell ⟨g, 1, none⟩ (.int .u16 (f 1 : Int))).setCell ⟨g, 2, none⟩ (.int .u16 (f 2 : Int))).setCell ⟨g, 3, none⟩ (.int .u16 (f 3 : Int))).setCell ⟨g, 4, none⟩ (.int .u16 (f 4 : Int))).setCell ⟨g, 5, none⟩ (.int .u16 (f 5 : Int))).setCell ⟨g, 6, none⟩ (.int .u16 (f 6 : Int))).setCell ⟨g, 7, none⟩ (.int .u16 (f 7 : Int))
theorem box_put {w : World} {g : Nat} {t : TypeId} (h : Box w g t zer) (f : Nat → Nat) : Box (put8 w g f) g t [f 0, f 1, f 2, f 3, f 4, f 5, f 6, f 7] :=
  (((((((h.set 0 (f 0)).set 1 (f 1)).set 2 (f 2)).set 3 (f 3)).set 4 (f 4)).set 5 (f 5)).set 6 (f 6)).set 7 (f 7)
theorem below_put8 {w0 w : World} {B g : Nat} (h : Below B w0 w) (hg : B ≤ g) (f : Nat → Nat) : Below B w0 (put8 w g f) := (((((((h.setCell hg _).setCell hg _).setCell hg _).setCell hg _).setCell hg _).setCell hg _).setCell hg _).setCell hg _
theorem load8 {w : World} {g : Nat} {L : List Nat} (h : Box w g 24 L) (hl : L.length = 8) : (loadVar 24 ⟨g, 0, none⟩).run Tryd.prog w = .ok (.agg (ncells L).toArray) w :=
  run_loadVar_row w g _ _ (ncells L).toArray (0, 0) _ h Tryd.underlying24 rfl (by
    rw [show (Tryd.prog.info? 24).map (·.size) = some 8 by kernel_rfl]
    simp [ncells, hl])
theorem res_end {w : World} {g : Nat} {L : List Nat} (h : Box w g 24 L) (hl : L.length = 8) (ok : Bool) (tmps : Array Value) (h2 : tmps.getD 2 undef = .pointer (some ⟨g, 0, none⟩)) (h3 : tmps.getD 3 undef = .bool ok) :
    (results Tryd.f12 tmps).run Tryd.prog w = .ok (.tuple #[.agg (ncells L).toArray, .bool ok]) w := by
  have hp' : tmps[2]?.getD undef = .pointer (some ⟨g, 0, none⟩) := by simpa using h2
  have hq' : tmps[3]?.getD undef = .bool ok := by simpa using h3
  simp [results, Tryd.results12, hp', hq', asAddr, load8 h hl]
theorem owns_other {w w' : World} {base gb : Nat} {e : TypeId} {size n : Nat} {v : Value} {xs : List Value} (h : w.ownsRow base e size v n xs) (ho : ∀ k, k ≠ gb → w'.heap[k]? = w.heap[k]?) (hg : gb < base) : w'.ownsRow base e size v n xs := by
  refine ⟨h.1, ?_⟩
  rcases h.2 with hn | ⟨g, cap, cur, rfl, hb, hh, rest⟩
  · exact .inl hn
  · exact .inr ⟨g, cap, cur, rfl, hb, (ho g (by omega)).trans hh, rest⟩
theorem ncells_splice (L : List Nat) (off : Nat) (cs : List Nat) : splice (ncells L) off (ncells cs) = ncells (splice L off cs) := by simp [splice, ncells]
/-- 'copy(box[off:], v)': the box holds it, and all else is as it was. -/
theorem copy_box {P : Program} {w : World} {ops : Array Oper} {rest : List Oper} {o : Oper} {a : Act} {Q : Exit → Act → World → Prop} (hgd : o.guard = none) (d s : Operand) (dT sT : TypeId)
    (ho : o.op = .call { callee := .builtin .copy, args := #[d, s], argTypes := #[dT, sT] }) (elem : TypeId) (hu : P.underlying dT = some (.slice elem)) (hsz : (P.info? elem).map (·.size) = some 1)
    (dp : Option Addr) (dLen dCap : Nat) (A : Option Addr) (n c : Nat) (hd : a.eval d = .slice dp dLen dCap) (hs : a.eval s = .slice A n c)
    (g off : Nat) (L : List Nat) (t : TypeId) (hg : Box w g t L) (cs : List Nat) (hr : Rds w A n (ncells cs)) (hn : n ≤ dLen) (hpos : 0 < n → dp = some ⟨g, off, none⟩) (hfit : off + cs.length ≤ L.length)
    (h : ∀ w', Hid (Box w' g t (splice L off cs)) → (∀ k, k ≠ g → w'.heap[k]? = w.heap[k]?) → Below g w w' → wpList P ops Q rest (a.put o.dst (goInt (ncells cs).length)) w') :
    wpList P ops Q (o :: rest) a w := by
  have hl : cs.length = n := by rw [← length_ncells]; exact hr.1
  by_cases h0 : n = 0
  · subst h0
    obtain rfl : cs = [] := List.eq_nil_of_length_eq_zero hl
    refine wpList_copy_nothing hgd d s dT sT ho elem hu hsz dp A dLen dCap 0 c hd hs (by simp) ?_
    exact h w (show Box _ _ _ _ by simpa [splice] using hg) (fun _ _ => rfl) (Below.refl _ _)
  · obtain rfl := hpos (by omega)
    obtain ⟨b, bo, rfl, _, hc⟩ := hr.spot (by omega)
    refine wpList_copy_own hgd d s dT sT ho elem hu hsz g off dLen dCap ⟨b, bo, none⟩ n c hd hs (ncells L).toArray t hg (ncells cs) (by rw [length_ncells, hl]; exact (Nat.min_eq_left hn).symm) (fun j v hj => ?_) (by simpa [ncells] using hfit) (ncells_one cs) ?_
    · obtain ⟨hj', e⟩ := List.getElem?_eq_some_iff.1 hj
      have ha : (⟨b, bo, none⟩ : Addr).add j = ⟨b, bo + j, none⟩ := by
        unfold Addr.add
        split <;> simp_all
      rw [ha, hc j hj', e]
    · refine h _ ?_ (fun k hk => setRow_other w g k _ hk) (below_setRow (Below.refl _ _) (Nat.le_refl _) _)
      have := setRow_heap w g (ncells L).toArray ((ncells L).take off ++ (ncells cs ++ (ncells L).drop (off + (ncells cs).length))).toArray t (0, 0) hg
      show Box _ _ _ _
      unfold Box
      rw [← ncells_splice]
      exact this
theorem cut2_len : ∀ {s : List UInt8} {p : List UInt8 × List UInt8}, cut2 s = some p → p.1.length ≤ s.length ∧ p.2.length ≤ s.length
  | [], _, h => by cases h
  | [_], _, h => by cases h
  | a :: b :: r, p, h => by
    rw [cut2] at h
    split at h
    · injection h with h; subst h; simp; omega
    · cases e : cut2 (b :: r) with
      | none => rw [e] at h; cases h
      | some q =>
        rw [e] at h
        injection h with h
        subst h
        have := cut2_len e
        simp at this ⊢
        omega
theorem pcs_le (e : Bool) : ∀ {ps : List (List UInt8)} {l : List Nat}, pcs e ps = some l → l.length ≤ ps.length + 1
  | [], l, h => by injection h with h; subst h; simp
  | p :: r, l, h => by
    rw [pcs] at h
    split at h
    · have := quad_len h; simp; omega
    · split at h
      · cases h
      · split at h
        · cases h
        · rename_i x e2
          injection h with h
          subst h
          have := pcs_le e e2
          simp
          omega
theorem sideP_le {e : Bool} {ps : List (List UInt8)} {l : List Nat} (h : sideP e ps = some l) : l.length ≤ ps.length + 1 := by
  unfold sideP at h
  split at h
  · injection h with h; subst h; simp
  · exact pcs_le e h
theorem list8 {V : List Nat} (h : V.length = 8) : V = [V.getD 0 0, V.getD 1 0, V.getD 2 0, V.getD 3 0, V.getD 4 0, V.getD 5 0, V.getD 6 0, V.getD 7 0] := by
  match V, h with
  | [a, b, c, d, e, f, g, i], _ => rfl
theorem splice_all {l : List Nat} (h : l.length = 8) : splice zer 0 l = l := by
  unfold splice
  rw [h]
  simp [zer]
theorem splice_fill (a b : List Nat) (h : a.length + b.length < 8) : splice (splice zer 0 a) (8 - b.length) b = fill a b := by
  have h1 : splice zer 0 a = a ++ List.replicate (8 - a.length) 0 := by
    unfold splice
    rw [show zer = List.replicate 8 0 from rfl, List.take_zero, List.nil_append, List.drop_replicate, Nat.zero_add]
  rw [h1]
  unfold splice fill
  rw [List.take_append, List.take_of_length_le (show a.length ≤ 8 - b.length by omega), List.take_replicate, List.drop_eq_nil_of_le (by simp; omega), List.append_nil]
  rw [show min (8 - b.length - a.length) (8 - a.length) = 8 - (a.length + b.length) by omega]
set_option maxRecDepth 100000 in
set_option maxHeartbeats 4000000 in
theorem parse_any (s : ByteArray) (w : World) (hs : s.size ≤ 1048576) (hM : Max w) : Calls Tryd.prog 12 #[.string s] w fun e w' => e = .returned (SixV (six s.data.toList)) ∧ Below w.heap.size w w' := by
  have HMX := hid hM
  clear hM
  go_enter Tryd.func12, Tryd.ntmps12
  go_wp2_with fail
  generalize hw1 : ((w.alloc _).alloc _).alloc _ = w1
  have HB1 : Hid (Below w.heap.size w w1) := by
    show Below _ _ _
    rw [← hw1]
    exact (((Below.refl _ _).alloc (Nat.le_refl _) _).alloc (by simp) _).alloc (by simp; omega) _
  have HA : Hid (Box w1 w.heap.size 24 zer) := by
    show Box _ _ _ _
    rw [← hw1]
    unfold Box
    rw [heap_alloc_old _ _ (by simp; omega), heap_alloc_old _ _ (by simp)]
    exact heap_alloc_new _ _
  have HN : Hid (Box w1 (w.heap.size + 1) 24 zer) := by
    show Box _ _ _ _
    rw [← hw1]
    unfold Box
    rw [heap_alloc_old _ _ (by simp)]
    have := heap_alloc_new (w.alloc (.cells (ncells zer).toArray 24)) (.cells (ncells zer).toArray 24)
    rw [show (w.alloc (.cells (ncells zer).toArray 24)).heap.size = w.heap.size + 1 by simp] at this
    exact this
  have HV : Hid (Box w1 (w.heap.size + 1 + 1) 24 zer) := by
    show Box _ _ _ _
    rw [← hw1]
    unfold Box
    have := heap_alloc_new ((w.alloc (.cells (ncells zer).toArray 24)).alloc (.cells (ncells zer).toArray 24)) (.cells (ncells zer).toArray 24)
    rw [show ((w.alloc (.cells (ncells zer).toArray 24)).alloc (.cells (ncells zer).toArray 24)).heap.size = w.heap.size + 1 + 1 by simp] at this
    exact this
  clear hw1
  refine (cut_any s _ (by omega) (HMX.out.below HB1.out)).mono ?_
  rintro e wc ⟨rfl, m, rfl⟩
  have HB2 : Hid (Below w.heap.size w (w1.drewN m)) := below_drewN HB1.out m
  have HA2 : Hid (Box (w1.drewN m) w.heap.size 24 zer) := HA
  have HN2 : Hid (Box (w1.drewN m) (w.heap.size + 1) 24 zer) := HN
  have HV2 : Hid (Box (w1.drewN m) (w.heap.size + 1 + 1) 24 zer) := HV
  generalize w1.drewN m = w2 at HB2 HA2 HN2 HV2
  clear HB1 HA HN HV
  cases hc : cut2 s.data.toList with
  | none =>
    have HC : Hid (six s.data.toList = eight (pcs true (splc s.data.toList)) []) := by show _ = _; unfold six; rw [hc]
    have HCV : Hid (cutV s = .tuple #[.string s, .string (strOf []), .bool false]) := by show _ = _; unfold cutV; rw [hc]
    rw [HCV.out]
    clear hc
    go_wp2_with fail
    refine (pieces_any s true _ hs (HMX.out.below HB2.out)).mono ?_
    rintro e w3 ⟨hp, hb3⟩
    have HB3 := hid (bel HB2.out hb3)
    have HA3 := hid (HA2.out.below hb3)
    have HN3 := hid (HN2.out.below hb3)
    have HV3 := hid (HV2.out.below hb3)
    have HG3 := hid HV2.out.lt
    obtain ⟨S, hS⟩ : ∃ S, S = pcs true (splc s.data.toList) := ⟨_, rfl⟩
    rw [← hS] at hp HC
    clear hS hb3
    cases S with
    | none =>
      obtain ⟨v, rfl⟩ := hp
      have HE := hid (sixv_none HC.out)
      obtain ⟨c0, c1, c2, c3, c4, c5, c6, c7⟩ := cells8 HN3.out (fun _ => 0) rfl
      obtain ⟨a0, a1, a2, a3, a4, a5, a6, a7⟩ := cells8 HA3.out (fun _ => 0) rfl
      obtain ⟨f0, f1, f2, f3, f4, f5, f6, f7⟩ := frozen8 HA3.out
      go_wp2
      exact bodyPost_ret (w := put8 _ w.heap.size (fun _ => 0)) (res_end (L := zer) (box_put HA3.out (fun _ => 0)) rfl false _ rfl rfl) rfl ⟨by rw [HE.out], below_put8 HB3.out (Nat.le_refl _) _⟩
    | some l =>
      obtain ⟨v, rfl, ho⟩ := hp
      obtain ⟨A, c, rfl, hlc, hcm, hr⟩ := owns_form ho
      have HR := hid hr
      clear ho hr
      by_cases h8 : l.length = 8
      · have HL8 := hid h8
        have h8i : ((l.length : Int) == 8) = true := by simp; omega
        have h8n : (l.length : Int) = 8 := by omega
        rw [h8] at HR
        obtain ⟨n8, hn8⟩ : ∃ n8, n8 = l.length := ⟨_, rfl⟩
        rw [← hn8] at h8i h8n h8 hlc ⊢
        subst h8
        clear hn8
        go_wp2_with (refine copy_box rfl _ _ 45 45 rfl 23 Tryd.underlying45 (by kernel_rfl) _ _ _ A _ _ (by rfl) (by rfl) (w.heap.size + 1 + 1) 0 zer 24 HV3.out l HR.out (Nat.le_refl _) (fun _ => rfl) (by rw [HL8.out]; exact Nat.le_refl _) ?_)
        intro w4 hv4 ho4 hb4
        have HV4 : Hid (Box w4 (w.heap.size + 1 + 1) 24 l) := by have := hv4.out; rw [splice_all HL8.out] at this; exact this
        have HA4 : Hid (Box w4 w.heap.size 24 zer) := (ho4 _ (by omega)).trans HA3.out
        have HB4 : Hid (Below w.heap.size w w4) := HB3.out.trans (hb4.mono (by omega))
        clear hv4 ho4 hb4
        have HE := hid (sixv_some (show six s.data.toList = some l by rw [HC.out]; unfold eight; simp only []; rw [if_pos (by rw [HL8.out]; rfl)]; rfl))
        obtain ⟨c0, c1, c2, c3, c4, c5, c6, c7⟩ := cells8 HV4.out (fun i => (l).getD i 0) (list8 HL8.out)
        obtain ⟨a0, a1, a2, a3, a4, a5, a6, a7⟩ := cells8 HA4.out (fun _ => 0) rfl
        obtain ⟨f0, f1, f2, f3, f4, f5, f6, f7⟩ := frozen8 HA4.out
        go_wp2
        exact bodyPost_ret (w := put8 _ w.heap.size (fun i => (l).getD i 0)) (res_end (box_put HA4.out (fun i => (l).getD i 0)) rfl true _ rfl rfl) rfl ⟨(congrArg (fun z => Ending.returned (.tuple #[.agg (ncells z).toArray, .bool true])) (list8 HL8.out).symm).trans (by rw [HE.out]), below_put8 HB4.out (Nat.le_refl _) _⟩
      · have h8i : ((l.length : Int) == 8) = false := by simp; omega
        have HL8 := hid h8
        have HE := hid (sixv_none (show six s.data.toList = none by rw [HC.out]; unfold eight; simp only []; rw [if_neg (by simpa using HL8.out)]))
        obtain ⟨c0, c1, c2, c3, c4, c5, c6, c7⟩ := cells8 HN3.out (fun _ => 0) rfl
        obtain ⟨a0, a1, a2, a3, a4, a5, a6, a7⟩ := cells8 HA3.out (fun _ => 0) rfl
        obtain ⟨f0, f1, f2, f3, f4, f5, f6, f7⟩ := frozen8 HA3.out
        go_wp2
        exact bodyPost_ret (w := put8 _ w.heap.size (fun _ => 0)) (res_end (L := zer) (box_put HA3.out (fun _ => 0)) rfl false _ rfl rfl) rfl ⟨by rw [HE.out], below_put8 HB3.out (Nat.le_refl _) _⟩
  | some p =>
    have HC : Hid (six s.data.toList = both (sideP false (splc p.1)) (sideP true (splc p.2)) []) := by show _ = _; unfold six; rw [hc]
    have HCV : Hid (cutV s = .tuple #[.string (strOf p.1), .string (strOf p.2), .bool true]) := by show _ = _; unfold cutV; rw [hc]
    have hlen := cut2_len hc
    have hsl : s.data.toList.length = s.size := Array.length_toList
    rw [HCV.out]
    clear hc
    obtain ⟨X, hXe⟩ : ∃ X, X = strOf p.1 := ⟨_, rfl⟩
    obtain ⟨Y, hYe⟩ : ∃ Y, Y = strOf p.2 := ⟨_, rfl⟩
    have hX : X.size ≤ 1048576 := by rw [hXe, size_strOf]; omega
    have hY : Y.size ≤ 1048576 := by rw [hYe, size_strOf]; omega
    obtain ⟨S1, hS1⟩ : ∃ S1, S1 = sideP false (splc p.1) := ⟨_, rfl⟩
    obtain ⟨S2, hS2⟩ : ∃ S2, S2 = sideP true (splc p.2) := ⟨_, rfl⟩
    have HS1 : Hid (S1 = sideP false (splc X.data.toList)) := by show _ = _; rw [hXe, hS1]; rfl
    have HS2 : Hid (S2 = sideP true (splc Y.data.toList)) := by show _ = _; rw [hYe, hS2]; rfl
    have HLS1 : Hid (∀ l, S1 = some l → l.length ≤ 1048578) := by
      intro l hl
      have h1 := sideP_le (hS1.symm.trans hl)
      have h2 := length_splc p.1
      omega
    have HLS2 : Hid (∀ l, S2 = some l → l.length ≤ 1048578) := by
      intro l hl
      have h1 := sideP_le (hS2.symm.trans hl)
      have h2 := length_splc p.2
      omega
    rw [← hXe, ← hYe]
    rw [← hS1, ← hS2] at HC
    clear hXe hYe hS1 hS2 hlen hsl HCV
    go_wp2_with fail
    refine (side_any X false _ hX (HMX.out.below HB2.out)).mono ?_
    rw [← HS1.out]
    rintro e w3 ⟨hp1, hb3⟩
    have HB3 := hid (bel HB2.out hb3)
    have HA3 := hid (HA2.out.below hb3)
    have HN3 := hid (HN2.out.below hb3)
    have HV3 := hid (HV2.out.below hb3)
    have hG2 := HV2.out.lt
    cases S1 with
    | none =>
      obtain ⟨v1, rfl⟩ := hp1
      clear hb3 hG2
      go_wp2_with fail
      refine (side_any Y true _ hY (HMX.out.below HB3.out)).mono ?_
      rw [← HS2.out]
      rintro e w4 ⟨hp2, hb4⟩
      have HB4 := hid (bel HB3.out hb4)
      have HA4 := hid (HA3.out.below hb4)
      have HN4 := hid (HN3.out.below hb4)
      have HV4 := hid (HV3.out.below hb4)
      clear hb4
      cases S2 with
      | none =>
        obtain ⟨v2, rfl⟩ := hp2
        have HE := hid (sixv_none (show six s.data.toList = none by rw [HC.out]; rfl))
        obtain ⟨c0, c1, c2, c3, c4, c5, c6, c7⟩ := cells8 HN4.out (fun _ => 0) rfl
        obtain ⟨a0, a1, a2, a3, a4, a5, a6, a7⟩ := cells8 HA4.out (fun _ => 0) rfl
        obtain ⟨f0, f1, f2, f3, f4, f5, f6, f7⟩ := frozen8 HA4.out
        go_wp2
        exact bodyPost_ret (w := put8 _ w.heap.size (fun _ => 0)) (res_end (L := zer) (box_put HA4.out (fun _ => 0)) rfl false _ rfl rfl) rfl ⟨by rw [HE.out], below_put8 HB4.out (Nat.le_refl _) _⟩
      | some b =>
        obtain ⟨v2, rfl, _⟩ := hp2
        have HE := hid (sixv_none (show six s.data.toList = none by rw [HC.out]; rfl))
        obtain ⟨c0, c1, c2, c3, c4, c5, c6, c7⟩ := cells8 HN4.out (fun _ => 0) rfl
        obtain ⟨a0, a1, a2, a3, a4, a5, a6, a7⟩ := cells8 HA4.out (fun _ => 0) rfl
        obtain ⟨f0, f1, f2, f3, f4, f5, f6, f7⟩ := frozen8 HA4.out
        go_wp2
        exact bodyPost_ret (w := put8 _ w.heap.size (fun _ => 0)) (res_end (L := zer) (box_put HA4.out (fun _ => 0)) rfl false _ rfl rfl) rfl ⟨by rw [HE.out], below_put8 HB4.out (Nat.le_refl _) _⟩
    | some a =>
      obtain ⟨v1, rfl, ho1⟩ := hp1
      have hG3 := HV3.out.lt
      go_wp2_with fail
      refine (side_any Y true _ hY (HMX.out.below HB3.out)).mono ?_
      rw [← HS2.out]
      rintro e w4 ⟨hp2, hb4⟩
      have HB4 := hid (bel HB3.out hb4)
      have HA4 := hid (HA3.out.below hb4)
      have HN4 := hid (HN3.out.below hb4)
      have HV4 := hid (HV3.out.below hb4)
      cases S2 with
      | none =>
        obtain ⟨v2, rfl⟩ := hp2
        clear hb4 hb3 ho1 hG2 hG3
        have HE := hid (sixv_none (show six s.data.toList = none by rw [HC.out]; rfl))
        obtain ⟨c0, c1, c2, c3, c4, c5, c6, c7⟩ := cells8 HN4.out (fun _ => 0) rfl
        obtain ⟨a0, a1, a2, a3, a4, a5, a6, a7⟩ := cells8 HA4.out (fun _ => 0) rfl
        obtain ⟨f0, f1, f2, f3, f4, f5, f6, f7⟩ := frozen8 HA4.out
        go_wp2
        exact bodyPost_ret (w := put8 _ w.heap.size (fun _ => 0)) (res_end (L := zer) (box_put HA4.out (fun _ => 0)) rfl false _ rfl rfl) rfl ⟨by rw [HE.out], below_put8 HB4.out (Nat.le_refl _) _⟩
      | some b =>
        obtain ⟨v2, rfl, ho2⟩ := hp2
        obtain ⟨A1, c1, rfl, hlc1, hcm1, hr1⟩ := owns_form (owns_below ho1 hb4)
        obtain ⟨A2, c2, rfl, hlc2, hcm2, hr2⟩ := owns_form ho2
        have HO2 := hid ho2
        have hla1 := HLS1.out a rfl
        have hlb1 := HLS2.out b rfl
        obtain ⟨la, hla⟩ : ∃ la, la = a.length := ⟨_, rfl⟩
        obtain ⟨lb, hlb⟩ : ∃ lb, lb = b.length := ⟨_, rfl⟩
        have HLA := hid hla
        have HLB := hid hlb
        rw [← hla] at hr1 hla1 hlc1 ⊢
        rw [← hlb] at hr2 hlb1 hlc2 ⊢
        have HR1 := hid hr1
        have HR2 := hid hr2
        have HGB : Hid (w.heap.size + 1 + 1 < w3.heap.size) := hG3
        clear hla hlb hr1 hr2 ho1 ho2 hb3 hb4 hG2 hG3
        by_cases hsum : la + lb < 8
        · have HSUM : Hid (a.length + b.length < 8) := by show _ < _; rw [← HLA.out, ← HLB.out]; exact hsum
          have HCS : Hid (six s.data.toList = some (fill a b)) := by
            show _ = _
            rw [HC.out]
            unfold both
            simp only [List.length_nil, Nat.zero_add]
            rw [if_pos HSUM.out]
            rfl
          have hsi : ¬ (8 : Int) ≤ (la : Int) + (lb : Int) := by omega
          have hla8 : la ≤ 8 := by omega
          have hlb8 : lb ≤ 8 := by omega
          clear hcm1 hcm2 hla1 hlb1
          by_cases hz : lb = 0
          · obtain rfl : lb = 0 := by omega
            go_wp2_with (refine copy_box rfl _ _ 45 45 rfl 23 Tryd.underlying45 (by kernel_rfl) _ _ _ A1 _ _ (by rfl) (by rfl) (w.heap.size + 1 + 1) 0 zer 24 HV4.out a HR1.out (by omega) (fun _ => rfl) (by rw [← HLA.out]; show 0 + la ≤ 8; omega) ?_)
            intro w5 hv5 ho5 hb5
            have HV5 : Hid (Box w5 (w.heap.size + 1 + 1) 24 (splice zer 0 a)) := hv5
            have HA5 : Hid (Box w5 w.heap.size 24 zer) := (ho5 _ (by omega)).trans HA4.out
            have HB5 : Hid (Below w.heap.size w w5) := HB4.out.trans (hb5.mono (by omega))
            have HR5 : Hid (Rds w5 A2 0 (ncells b)) := by
              obtain ⟨A', c', e1, _, _, h⟩ := owns_form (owns_other HO2.out ho5 HGB.out)
              injection e1 with e2 e3 e4
              subst e2
              subst e4
              rw [← HLB.out] at h
              exact h
            clear hv5 ho5 hb5
            have HFIT : Hid (8 - b.length + b.length ≤ (splice zer 0 a).length) := by
              show _ ≤ _
              have := HSUM.out
              rw [length_splice _ _ _ (by show 0 + a.length ≤ 8; omega)]
              show _ ≤ 8
              omega
            go_wp2_with (refine copy_box rfl _ _ 45 45 rfl 23 Tryd.underlying45 (by kernel_rfl) _ _ _ A2 _ _ (by rfl) (by rfl) (w.heap.size + 1 + 1) (8 - b.length) (splice zer 0 a) 24 HV5.out b HR5.out (by omega) (fun h0 => absurd h0 (by omega)) HFIT.out ?_)
            intro w6 hv6 ho6 hb6
            have HV6 : Hid (Box w6 (w.heap.size + 1 + 1) 24 (fill a b)) := by have := hv6.out; rw [splice_fill a b HSUM.out] at this; exact this
            have HA6 : Hid (Box w6 w.heap.size 24 zer) := (ho6 _ (by omega)).trans HA5.out
            have HB6 : Hid (Below w.heap.size w w6) := HB5.out.trans (hb6.mono (by omega))
            have HL8 : Hid ((fill a b).length = 8) := by show _ = _; have := HSUM.out; unfold fill; rw [List.length_append, List.length_append, List.length_replicate]; omega
            clear hv6 ho6 hb6
            obtain ⟨V, hV⟩ : ∃ V, V = fill a b := ⟨_, rfl⟩
            rw [← hV] at HV6 HL8 HCS
            clear hV
            have HE := hid (sixv_some HCS.out)
            obtain ⟨c0, c1, c2, c3, c4, c5, c6, c7⟩ := cells8 HV6.out (fun i => V.getD i 0) (list8 HL8.out)
            obtain ⟨a0, a1, a2, a3, a4, a5, a6, a7⟩ := cells8 HA6.out (fun _ => 0) rfl
            obtain ⟨f0, f1, f2, f3, f4, f5, f6, f7⟩ := frozen8 HA6.out
            go_wp2
            exact bodyPost_ret (w := put8 _ w.heap.size (fun i => V.getD i 0)) (res_end (box_put HA6.out (fun i => V.getD i 0)) rfl true _ rfl rfl) rfl ⟨(congrArg (fun z => Ending.returned (.tuple #[.agg (ncells z).toArray, .bool true])) (list8 HL8.out).symm).trans (by rw [HE.out]), below_put8 HB6.out (Nat.le_refl _) _⟩
          · have hj0 : (0 : Int) < (lb : Int) := by omega
            have hj1 : (8 : Int) - (lb : Int) = ((8 - lb : Nat) : Int) := by omega
            obtain ⟨j, hj⟩ : ∃ j, j = 8 - lb := ⟨_, rfl⟩
            rw [← hj] at hj1
            have hj2 : j < 8 := by omega
            have hj3 : lb + j = 8 := by omega
            have hj4 : (j : Int) < 8 := by omega
            have hj5 : (j : Int) ≤ 8 := by omega
            have hj6 : (0 : Int) ≤ (j : Int) := by omega
            have hj7 : ¬ 8 - j = 0 := by omega
            have hj8 : j ≤ 8 := by omega
            have HJ := hid hj
            clear hj
            go_wp2_with (refine copy_box rfl _ _ 45 45 rfl 23 Tryd.underlying45 (by kernel_rfl) _ _ _ A1 _ _ (by rfl) (by rfl) (w.heap.size + 1 + 1) 0 zer 24 HV4.out a HR1.out (by omega) (fun _ => rfl) (by rw [← HLA.out]; show 0 + la ≤ 8; omega) ?_)
            intro w5 hv5 ho5 hb5
            have HV5 : Hid (Box w5 (w.heap.size + 1 + 1) 24 (splice zer 0 a)) := hv5
            have HA5 : Hid (Box w5 w.heap.size 24 zer) := (ho5 _ (by omega)).trans HA4.out
            have HB5 : Hid (Below w.heap.size w w5) := HB4.out.trans (hb5.mono (by omega))
            have HR5 : Hid (Rds w5 A2 lb (ncells b)) := by
              obtain ⟨A', c', e1, _, _, h⟩ := owns_form (owns_other HO2.out ho5 HGB.out)
              injection e1 with e2 e3 e4
              subst e2
              subst e4
              rw [← HLB.out] at h
              exact h
            clear hv5 ho5 hb5
            have HFIT : Hid (8 - b.length + b.length ≤ (splice zer 0 a).length) := by
              show _ ≤ _
              have := HSUM.out
              rw [length_splice _ _ _ (by show 0 + a.length ≤ 8; omega)]
              show _ ≤ 8
              omega
            have HOFF : Hid (8 - b.length = j) := by show _ = _; rw [← HLB.out, ← HJ.out]
            go_wp2_with (refine copy_box rfl _ _ 45 45 rfl 23 Tryd.underlying45 (by kernel_rfl) _ _ _ A2 _ _ (by rfl) (by rfl) (w.heap.size + 1 + 1) (8 - b.length) (splice zer 0 a) 24 HV5.out b HR5.out (by omega) (fun h0 => by rw [HOFF.out]) HFIT.out ?_)
            intro w6 hv6 ho6 hb6
            have HV6 : Hid (Box w6 (w.heap.size + 1 + 1) 24 (fill a b)) := by have := hv6.out; rw [splice_fill a b HSUM.out] at this; exact this
            have HA6 : Hid (Box w6 w.heap.size 24 zer) := (ho6 _ (by omega)).trans HA5.out
            have HB6 : Hid (Below w.heap.size w w6) := HB5.out.trans (hb6.mono (by omega))
            have HL8 : Hid ((fill a b).length = 8) := by show _ = _; have := HSUM.out; unfold fill; rw [List.length_append, List.length_append, List.length_replicate]; omega
            clear hv6 ho6 hb6
            obtain ⟨V, hV⟩ : ∃ V, V = fill a b := ⟨_, rfl⟩
            rw [← hV] at HV6 HL8 HCS
            clear hV
            have HE := hid (sixv_some HCS.out)
            obtain ⟨c0, c1, c2, c3, c4, c5, c6, c7⟩ := cells8 HV6.out (fun i => V.getD i 0) (list8 HL8.out)
            obtain ⟨a0, a1, a2, a3, a4, a5, a6, a7⟩ := cells8 HA6.out (fun _ => 0) rfl
            obtain ⟨f0, f1, f2, f3, f4, f5, f6, f7⟩ := frozen8 HA6.out
            go_wp2
            exact bodyPost_ret (w := put8 _ w.heap.size (fun i => V.getD i 0)) (res_end (box_put HA6.out (fun i => V.getD i 0)) rfl true _ rfl rfl) rfl ⟨(congrArg (fun z => Ending.returned (.tuple #[.agg (ncells z).toArray, .bool true])) (list8 HL8.out).symm).trans (by rw [HE.out]), below_put8 HB6.out (Nat.le_refl _) _⟩
        · have hsi : (8 : Int) ≤ (la : Int) + (lb : Int) := by omega
          have HNS : Hid (¬ ([] : List Nat).length + a.length + b.length < 8) := by show ¬ _; rw [← HLA.out, ← HLB.out]; simp; omega
          have HE := hid (sixv_none (show six s.data.toList = none by rw [HC.out]; unfold both; simp only []; exact if_neg HNS.out))
          obtain ⟨c0, c1, c2, c3, c4, c5, c6, c7⟩ := cells8 HN4.out (fun _ => 0) rfl
          obtain ⟨a0, a1, a2, a3, a4, a5, a6, a7⟩ := cells8 HA4.out (fun _ => 0) rfl
          obtain ⟨f0, f1, f2, f3, f4, f5, f6, f7⟩ := frozen8 HA4.out
          go_wp2
          exact bodyPost_ret (w := put8 _ w.heap.size (fun _ => 0)) (res_end (L := zer) (box_put HA4.out (fun _ => 0)) rfl false _ rfl rfl) rfl ⟨by rw [HE.out], below_put8 HB4.out (Nat.le_refl _) _⟩
end Go.Proofs.YtnmkkejodkjjiaaDoor.SixC
