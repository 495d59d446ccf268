/- Texts that belong together: zN, Uk, Qu, AA. -/
import Derived.Test.YtcfgioklgmlclaaGreatDoorMC
import Derived.Test.YtcfgioklgmlclaaGreatDoorMD
import Derived.Test.YtcfgioklgmlclaaGreatDoorME
import Derived.Test.YtcfgioklgmlclaaGreatDoorMA
import Derived.Test.YtcfgioklgmlclaaGreatDoorShelf
import Derived.Laws.StructEq
set_option linter.unusedSimpArgs false
set_option linter.unusedVariables false
set_option maxRecDepth 100000
set_option maxHeartbeats 64000000
namespace Go.Proofs.YtcfgioklgmlclaaGreatDoor.zN
open Go.RowKit Base fE nO tC QA
def FRB : List UInt8 := [0, 9, 10, 13, 32, 35, 47, 58, 60, 62, 63, 64, 91, 92, 93, 94, 124]
def frb (c : UInt8) : Bool := FRB.contains c
def QZ (d : Bool) (c : UInt8) : Bool := frb c || (d && (decide (c.toNat < 32) || (c == 127 || c == 37)))
theorem Lh (c : UInt8) : QZ false c = frb c := by simp [QZ]
def okb (d : Bool) (c : UInt8) : Bool := !(QZ d c) && (!d || decide (c.toNat ≤ 126))
def oks (d : Bool) (L : List UInt8) : Bool := L.all (okb d)
def adz (V : List Nat) : List UInt8 := mD.prt fun i => V.getD i 0
def addr (M : List UInt8) : Option (List UInt8) := match six M with
 | none => none
 | some V => some (91 :: (adz V ++ [93]))
def hbr (M : List UInt8) : Option (List UInt8) := if Lib.hasSuffix M [93] = true then addr (Lib.trimSuffix M [93]) else none
def dm2 (M : List UInt8) : Option (List UInt8) := if M = [] then none else if ends M = true then (OM M).map G8.pr else some M
def WZ (L : List UInt8) : Option (List UInt8) := if oks true L = true then dm2 (lower L) else none
def plc (s : List UInt8) : Option (List UInt8) := if oks false s = true then some (aJ.enc 0 s) else none
def hst (s : List UInt8) (sp : Bool) : Option (List UInt8) := if s.head? = some 91 then hbr s.tail else if sp = true then WZ (pO.dec s) else plc s
def HV (o : Option (List UInt8)) : Value := match o with
 | none => .tuple #[.string (strOf []), .bool false]
 | some L => .tuple #[.string (strOf L), .bool true]
theorem Ll (c : UInt8) : decide (0 ≤ Lib.indexByte FRB c) = frb c := by
 have H : ∀ n : Fin 256, decide (0 ≤ Lib.indexByte FRB (UInt8.ofNat n.val)) = frb (UInt8.ofNat n.val) := by decide +kernel
 have := H ⟨c.toNat, c.toNat_lt⟩
 simpa using this
theorem IW (c : UInt8) : okb true c = (!(QZ true c) && decide (c.toNat ≤ 126)) := by simp [okb]
theorem Ae (d : Bool) (L : List UInt8) (k : Nat) (h : k < L.length) : oks d (L.take (k + 1)) = (oks d (L.take k) && okb d L[k]) := by
 unfold oks
 rw [List.take_succ_eq_append_getElem h, List.all_append]
 simp
theorem Vo (d : Bool) (L : List UInt8) (k : Nat) (h : k < L.length) (hn : okb d L[k] = false) : oks d L = false := by
 unfold oks
 rw [List.all_eq_false]
 exact ⟨L[k], List.getElem_mem h, by rw [hn]; exact Bool.false_ne_true⟩
end Go.Proofs.YtcfgioklgmlclaaGreatDoor.zN
namespace Go.Proofs.YtcfgioklgmlclaaGreatDoor.Uk
open Go.RowKit Base zN
theorem oL (c : UInt8) (d : Bool) (w : World) : Calls Tryz.prog 190 #[.int .u8 (c.toNat : Int), .bool d] w fun e w' => e = .returned (.bool (QZ d c)) ∧ w = w' := by
 cases d with
 | false =>
  go_enter Tryz.func190, Tryz.ntmps190
  go_wp2_with fail
  refine (Tryz.strings_IndexByte _ _ _).mono ?_
  rintro e w1 ⟨rfl, rfl⟩
  rw [show (⟨#[0, 9, 10, 13, 32, 35, 47, 58, 60, 62, 63, 64, 91, 92, 93, 94, 124]⟩ : ByteArray).data.toList = FRB from rfl, show ((c.toNat : Int).toNat).toUInt8 = c by simp]
  go_wp2_with fail
  go_ret
  exact ⟨aB (by rw [Lh, ← Ll]), rfl⟩
 | true =>
  by_cases h : c.toNat < 32 ∨ c = 127 ∨ c = 37
  ·have HE : Hid (QZ true c = true) := by
    show _ = _
    rcases h with h | rfl | rfl
    ·simp [QZ, h]
    ·rfl
    ·rfl
   rcases h with h | rfl | rfl
   ·have h1 : (c.toNat : Int) < 32 := by omega
    clear h
    go_enter Tryz.func190, Tryz.ntmps190
    go_wp2
    go_ret
    exact ⟨by rw [HE.out]; rfl, rfl⟩
   ·go_enter Tryz.func190, Tryz.ntmps190
    go_wp2
    go_ret
    exact ⟨by rw [HE.out]; rfl, rfl⟩
   ·go_enter Tryz.func190, Tryz.ntmps190
    go_wp2
    go_ret
    exact ⟨by rw [HE.out]; rfl, rfl⟩
  ·have h1 : ¬ (c.toNat : Int) < 32 := by omega
   have h2 : ((c.toNat : Int) == 127) = false := by
    rw [beq_eq_false_iff_ne]
    intro e
    exact h (.inr (.inl (UInt8.toNat_inj.1 (by show _ = 127; omega))))
   have h3 : ((c.toNat : Int) == 37) = false := by
    rw [beq_eq_false_iff_ne]
    intro e
    exact h (.inr (.inr (UInt8.toNat_inj.1 (by show _ = 37; omega))))
   have HE : Hid (QZ true c = frb c) := by
    show _ = _
    have e1 : decide (c.toNat < 32) = false := by simp; omega
    have e2 : (c == 127) = false := by rw [beq_eq_false_iff_ne]; exact fun e => h (.inr (.inl e))
    have e3 : (c == 37) = false := by rw [beq_eq_false_iff_ne]; exact fun e => h (.inr (.inr e))
    simp [QZ, e1, e2, e3]
   clear h
   go_enter Tryz.func190, Tryz.ntmps190
   go_wp2_with fail
   refine (Tryz.strings_IndexByte _ _ _).mono ?_
   rintro e w1 ⟨rfl, rfl⟩
   rw [show (⟨#[0, 9, 10, 13, 32, 35, 47, 58, 60, 62, 63, 64, 91, 92, 93, 94, 124]⟩ : ByteArray).data.toList = FRB from rfl, show ((c.toNat : Int).toNat).toUInt8 = c by simp]
   go_wp2_with fail
   go_ret
   exact ⟨aB (by rw [HE.out, ← Ll]), rfl⟩
end Go.Proofs.YtcfgioklgmlclaaGreatDoor.Uk
namespace Go.Proofs.YtcfgioklgmlclaaGreatDoor.Qu
open Go.RowKit Base aP fE nO tC Kq fH kX QA mD aaW zN Uk Fh
theorem Gt (f : Nat → Nat) : adz (V8 f) = mD.prt f := by
 unfold adz mD.prt zs
 rfl
theorem aa8 (M : Nat) : ∀ (ps : List (List UInt8)) (most acc n : Nat), ps ≠ [] → uz most acc ps = some n → acc + most ≤ M → n < M
 | [], _, _, _, h, _, _ => absurd rfl h
 | [p], most, acc, n, _, h, hM => by
  unfold uz at h
  split at h
  ·split at h
   ·injection h with h; omega
   ·cases h
  ·cases h
 | p :: q :: r, most, acc, n, _, h, hM => by
  unfold uz at h
  split at h
  ·rename_i v _
   split at h
   ·refine aa8 M (q :: r) (most / 256) (acc + v * (most / 256)) n (by simp) h ?_
    have h1 : v * (most / 256) ≤ 255 * (most / 256) := Nat.mul_le_mul_right _ (by omega)
    have h2 : 256 * (most / 256) ≤ most := Nat.mul_div_le most 256
    omega
   ·cases h
  ·cases h
theorem VA {L : List UInt8} {n : Nat} (h : OM L = some n) : n < 4294967296 := by
 unfold OM at h
 split at h
 ·exact aa8 4294967296 _ _ _ _ (wQ _) h (by omega)
 ·cases h
theorem JG (L : List UInt8) : (Lib.trimSuffix L [93]).length ≤ L.length := by
 unfold Lib.trimSuffix
 split
 ·rw [List.length_take]; omega
 ·exact Nat.le_refl _
theorem XD (f : Nat → Nat) : (mD.prt f).length ≤ 100 := by
 unfold mD.prt
 have h1 := EG (V8 f)
 have h2 := EG ((V8 f).take (wY (zs f)).1)
 have h3 := EG ((V8 f).drop (wY (zs f)).2)
 have h8 : (V8 f).length = 8 := rfl
 rw [List.length_take] at h2
 rw [List.length_drop] at h3
 split
 ·omega
 ·simp only [List.length_append, List.length_cons, List.length_nil]
  omega
theorem Vs (e : Bool) : ∀ {ps : List (List UInt8)} {l : List Nat}, lD e ps = some l → ∀ x ∈ l, x < 65536
 | [], l, h => by injection h with h; subst h; intro x hx; simp at hx
 | p :: r, l, h => by
  rw [lD] at h
  split at h
  ·obtain ⟨a, b, rfl⟩ := XG h
   have := SixF.VL h
   intro x hx
   simp at hx
   rcases hx with rfl | rfl
   ·exact this.1
   ·exact this.2
  ·split at h
   ·cases h
   ·rename_i n hn
    split at h
    ·cases h
    ·rename_i x e2
     injection h with h
     subst h
     intro y hy
     rcases List.mem_cons.1 hy with rfl | hy
     ·exact ado hn
     ·exact Vs e e2 y hy
theorem six_lt {s : List UInt8} {V : List Nat} (h : six s = some V) : ∀ x ∈ V, x < 65536 := by
 have hside : ∀ (e : Bool) (ps : List (List UInt8)) (l : List Nat), fJ e ps = some l → ∀ x ∈ l, x < 65536 := by
  intro e ps l h
  unfold fJ at h
  split at h
  ·injection h with h; subst h; intro x hx; simp at hx
  ·exact Vs e h
 unfold six at h
 split at h
 ·unfold tC.eight at h
  split at h
  ·rename_i a ha
   split at h
   ·injection h with h
    subst h
    rw [List.nil_append]
    exact Vs true ha
   ·cases h
  ·cases h
 ·unfold both at h
  split at h
  ·rename_i a b ha hb
   split at h
   ·injection h with h
    subst h
    intro x hx
    unfold fill at hx
    simp only [List.nil_append, List.mem_append, List.mem_replicate] at hx
    rcases hx with (hx | hx) | hx
    ·exact hside _ _ _ ha x hx
    ·omega
    ·exact hside _ _ _ hb x hx
   ·cases h
  ·cases h
theorem O6 {s : List UInt8} {V : List Nat} (h : six s = some V) : ∃ f : Nat → Nat, V = V8 f ∧ ∀ i, f i < 65536 := by
 refine ⟨fun i => V.getD i 0, FD (six_len h), fun i => ?_⟩
 rcases Nat.lt_or_ge i V.length with hi | hi
 ·show V.getD i 0 < _
  rw [List.getD_eq_getElem?_getD, List.getElem?_eq_getElem hi]
  exact six_lt h _ (List.getElem_mem hi)
 ·show V.getD i 0 < _
  rw [List.getD_eq_getElem?_getD, List.getElem?_eq_none hi]
  simp
theorem QD (s : ByteArray) (w : World) (hs : s.size ≤ 1048576) (hL : pR w) (hM : Max w) : Calls Tryz.prog 188 #[.string s] w fun e w' => e = .returned (HV (hbr s.data.toList)) ∧ Below w.heap.size w w' := by
 have HL := hid hL
 have HM := hid hM
 obtain ⟨I, hI⟩ : ∃ I : ByteArray, I = strOf (Lib.trimSuffix s.data.toList [93]) := ⟨_, rfl⟩
 have hIs : I.size ≤ 1048576 := by
  rw [hI, ah]
  have := JG s.data.toList
  have : s.data.toList.length = s.size := Array.length_toList
  omega
 have hcs := fun w => Tryz.strings_CutSuffix s ⟨#[93]⟩ w (by omega)
 rw [show (⟨#[93]⟩ : ByteArray).data.toList = [93] from rfl, show (⟨(Lib.trimSuffix s.data.toList [93]).toArray⟩ : ByteArray) = I from hI.symm] at hcs
 have hId : I.data.toList = Lib.trimSuffix s.data.toList [93] := by rw [hI]; rfl
 have hb : hbr s.data.toList = if Lib.hasSuffix s.data.toList [93] = true then addr I.data.toList else none := by rw [hId]; rfl
 obtain ⟨H, hH⟩ : ∃ H, H = HV (hbr s.data.toList) := ⟨_, rfl⟩
 rw [← hH]
 rw [hb] at hH
 clear hI hId hb hL hM
 cases hsf : Lib.hasSuffix s.data.toList [93] with
 | false =>
  rw [hsf] at hcs hH
  have HE : Hid (H = .tuple #[.string (strOf []), .bool false]) := by show _ = _; rw [hH]; rfl
  have HC := hid hcs
  clear hcs hH hsf
  go_enter Tryz.func188, Tryz.ntmps188
  go_wp2_with fail
  refine (HC.out _).mono ?_
  rintro e w1 ⟨rfl, hww⟩
  obtain rfl : w = w1 := hww.symm
  go_wp2
  go_ret2
  exact ⟨by rw [HE.out]; rfl, Below.refl _ _⟩
 | true =>
  rw [hsf] at hcs hH
  rw [if_pos rfl] at hH
  have HC := hid hcs
  clear hcs hsf
  have hpa := fun w hM => parse_any I w hIs hM
  cases hv : six I.data.toList with
  | none =>
   have HE : Hid (H = .tuple #[.string (strOf []), .bool false]) := by show _ = _; rw [hH]; unfold addr; rw [hv]; rfl
   rw [hv] at hpa
   obtain ⟨f, hf⟩ : ∃ f : Nat → Nat, V8 f = sV := ⟨fun _ => 0, rfl⟩
   have Ci : Hid (Yp none = .tuple #[.agg #[.int .u16 (f 0 : Int), .int .u16 (f 1 : Int), .int .u16 (f 2 : Int), .int .u16 (f 3 : Int), .int .u16 (f 4 : Int), .int .u16 (f 5 : Int), .int .u16 (f 6 : Int), .int .u16 (f 7 : Int)], .bool false]) := by
    show Yp none = .tuple #[.agg (aW (V8 f)).toArray, .bool false]
    rw [hf]
    rfl
   rw [Ci.out] at hpa
   have HP := hid hpa
   clear hpa hv hH hIs hf
   go_enter Tryz.func188, Tryz.ntmps188
   go_wp2_with fail
   refine (HC.out _).mono ?_
   rintro e w1 ⟨rfl, hww⟩
   obtain rfl : w = w1 := hww.symm
   go_wp2_with fail
   refine (HP.out _ HM.out).mono ?_
   rintro e w2 ⟨rfl, hb2⟩
   have HB2 := hid hb2
   clear hb2
   go_wp2
   go_ret2
   exact ⟨by rw [HE.out]; rfl, HB2.out.alloc HB2.out.size _⟩
  | some V =>
   obtain ⟨f, rfl, h6⟩ := O6 hv
   have hE : H = .tuple #[.string (strOf (91 :: (mD.prt f ++ [93]))), .bool true] := by rw [hH]; unfold addr; rw [hv, ← Gt]; rfl
   rw [hv] at hpa
   have Ci : Hid (Yp (some (V8 f)) = .tuple #[.agg #[.int .u16 (f 0 : Int), .int .u16 (f 1 : Int), .int .u16 (f 2 : Int), .int .u16 (f 3 : Int), .int .u16 (f 4 : Int), .int .u16 (f 5 : Int), .int .u16 (f 6 : Int), .int .u16 (f 7 : Int)], .bool true]) := rfl
   rw [Ci.out] at hpa
   have HP := hid hpa
   obtain ⟨P, hP⟩ : ∃ P, P = strOf (mD.prt f) := ⟨_, rfl⟩
   have je : Hid (∀ w, pR w → Calls Tryz.prog 205 #[A8 f] w fun e w' => e = .returned (.string P) ∧ Below w.heap.size w w') := by
    show ∀ w, _
    rw [hP]
    exact fun w hL => mD.print_any f h6 w hL
   obtain ⟨Y, hY⟩ : ∃ Y, Y = strOf (91 :: mD.prt f) := ⟨_, rfl⟩
   obtain ⟨Z, hZ⟩ : ∃ Z, Z = strOf (91 :: (mD.prt f ++ [93])) := ⟨_, rfl⟩
   rw [← hZ] at hE
   have hpl := XD f
   have a1 : ∀ w : World, (Op.stringOp .add ⟨#[91]⟩ P).run Tryz.prog w = .ok (.string Y) w := fun w => by
    rw [hY, hP]
    exact gK [91] _ w (by simp; omega)
   have a2 : ∀ w : World, (Op.stringOp .add Y ⟨#[93]⟩).run Tryz.prog w = .ok (.string Z) w := fun w => by
    rw [hZ, hY]
    exact gK (91 :: mD.prt f) [93] w (by simp; omega)
   have HE := hid hE
   clear hpa hv hH hIs hE hP hY hZ hpl h6 Ci
   go_enter Tryz.func188, Tryz.ntmps188
   go_wp2_with fail
   refine (HC.out _).mono ?_
   rintro e w1 ⟨rfl, hww⟩
   obtain rfl : w = w1 := hww.symm
   go_wp2_with fail
   refine (HP.out _ HM.out).mono ?_
   rintro e w2 ⟨rfl, hb2⟩
   have HB2 := hid hb2
   clear hb2
   go_upto_region 5 with (fail)
   generalize hw3 : w2.alloc _ = w3
   have HB3 : Hid (Below w.heap.size w w3) := by
    show Below _ _ _
    rw [← hw3]
    exact HB2.out.alloc HB2.out.size _
   have jd : Hid (Box w3 w2.heap.size 191 (V8 f)) := by
    show Box _ _ _ _
    rw [← hw3]
    exact NT f
   clear hw3
   obtain ⟨c0, c1, c2, c3, c4, c5, c6, c7⟩ := jg jd.out f rfl
   go_wp2_with fail
   clear c0 c1 c2 c3 c4 c5 c6 c7
   refine (je.out _ (HL.out.below HB3.out)).mono ?_
   rintro e w4 ⟨rfl, hb4⟩
   have HB4 := hid (bel HB3.out hb4)
   clear hb4
   go_wp2
   go_ret2
   exact ⟨by rw [HE.out]; rfl, HB4.out⟩
end Go.Proofs.YtcfgioklgmlclaaGreatDoor.Qu
namespace Go.Proofs.YtcfgioklgmlclaaGreatDoor.AA
open Go.RowKit Base aP fE nO kX zN Uk Qu Fh
theorem cO {w w' : World} (h : Tab.Pow w) (hb : Below w.heap.size w w') : Tab.Pow w' := Tab.Pow.below h hb
theorem Zl (L : List UInt8) : (lower L).length = L.length := by simp [lower]
theorem KI {L : List UInt8} (h : oks true L = false) : HV (WZ L) = .tuple #[.string (strOf []), .bool false] := by unfold WZ; rw [h]; rfl
theorem Ui {L : List UInt8} (h : oks true L = true) : HV (WZ L) = HV (dm2 (lower L)) := by unfold WZ; rw [if_pos h]
theorem UL (s : ByteArray) (w : World) (hs : s.size ≤ 900000) (hT : Tab.Pow w) (hM : Max w) : Calls Tryz.prog 189 #[.string s] w fun e w' => e = .returned (HV (WZ s.data.toList)) ∧ Below w.heap.size w w' := by
 have HT := hid hT
 have HM := hid hM
 have hl : s.data.toList.length = s.size := Array.length_toList
 have HL := hid hl
 obtain ⟨H, hH⟩ : ∃ H, H = HV (WZ s.data.toList) := ⟨_, rfl⟩
 rw [← hH]
 have HH := hid hH
 have HS9 := hid hs
 clear hT hM hl hH
 go_enter Tryz.func189, Tryz.ntmps189
 go_wp2
 go_loopw [4] (fun vk wr => ∃ k : Nat, k ≤ s.size ∧ vk = .int .i64 (k : Int) ∧ wr = w ∧ Hid (oks true (s.data.toList.take k) = true)) (fun vk _ => s.size - (intOf vk).toNat)
 case atStart => exact ⟨0, Nat.zero_le _, rfl, rfl, rfl⟩
 case round =>
  obtain ⟨k, hk, rfl, rfl, HO⟩ := hrel
  by_cases hlt : k < s.size
  ·obtain ⟨c, hc⟩ : ∃ c, s[k] = c := ⟨_, rfl⟩
   have hkl : k < s.data.toList.length := by rw [HL.out]; exact hlt
   have hcl : s.data.toList[k] = c := hc
   by_cases h126 : (126 : Int) < (c.toNat : Int)
   ·have HE : Hid (H = .tuple #[.string (strOf []), .bool false]) := by
     show _ = _
     rw [HH.out]
     refine KI (Vo true _ k hkl ?_)
     rw [hcl, IW, decide_eq_false (by omega), Bool.and_false]
    clear hkl hcl
    go_wp2
    go_ret2
    exact ⟨by rw [HE.out]; rfl, Below.refl _ _⟩
   ·cases hf : QZ true c with
    | true =>
     have HE : Hid (H = .tuple #[.string (strOf []), .bool false]) := by
      show _ = _
      rw [HH.out]
      refine KI (Vo true _ k hkl ?_)
      rw [hcl, IW, hf]
      rfl
     have hfc := fun w => oL c true w
     rw [hf] at hfc
     have HF := hid hfc
     clear hkl hcl hf hfc
     go_wp2_with fail
     refine (HF.out _).mono ?_
     rintro e w2 ⟨rfl, rfl⟩
     go_wp2
     go_ret2
     exact ⟨by rw [HE.out]; rfl, Below.refl _ _⟩
    | false =>
     have HN : Hid (oks true (s.data.toList.take (k + 1)) = true) := by
      show _ = _
      rw [Ae true _ k hkl, HO.out, hcl, IW, hf, decide_eq_true (by omega)]
      rfl
     have hfc := fun w => oL c true w
     rw [hf] at hfc
     have HF := hid hfc
     clear hkl hcl hf hfc
     go_wp2_with fail
     refine (HF.out _).mono ?_
     rintro e w2 ⟨rfl, rfl⟩
     go_wp2
     go_roundw
     case rel => exact ⟨k + 1, by omega, by go_num, by first | rfl | trivial, HN.out⟩
     case measure => simp [intOf]; omega
  ·have hO : oks true s.data.toList = true := by
    have := HO.out
    rw [List.take_of_length_le (by rw [HL.out]; omega)] at this
    exact this
   have hH2 : H = HV (dm2 (lower s.data.toList)) := by rw [HH.out]; exact Ui hO
   obtain ⟨M, hM⟩ : ∃ M : ByteArray, M = strOf (lower s.data.toList) := ⟨_, rfl⟩
   have hMd : lower s.data.toList = M.data.toList := by rw [hM]; rfl
   have hMs : M.size ≤ 900000 := by rw [hM, ah, Zl, HL.out]; omega
   have TJ : Hid (∀ w : World, Calls Tryz.prog 75 #[.string s] w fun e w' => e = .returned (.string M) ∧ Below w.heap.size w w') := by
    show ∀ w, _
    rw [hM]
    exact fun w => fE.gq s w (by unfold maxLen; omega)
   rw [hMd] at hH2
   have hend := fun w => aaR.abO M w hMs
   clear hM hMd hO HO HH
   cases he : ends M.data.toList with
   | false =>
    rw [he] at hend
    have HEN := hid hend
    by_cases hM0 : M.data.toList = []
    ·have hM1 : M = strOf [] := by rw [← ay M, hM0]
     have HE : Hid (H = .tuple #[.string (strOf []), .bool false]) := by show _ = _; rw [hH2, hM0]; rfl
     have hq : M.toList = [] := by rw [Lib.toList_data]; exact hM0
     have hq2 : (M.toList == []) = true := by rw [hq]; rfl
     have HM1 := hid hM1
     clear hend he hM0 hM1 hH2 hq
     go_wp2_with fail
     refine (TJ.out _).mono ?_
     rintro e w2 ⟨rfl, hb2⟩
     have HB2 := hid hb2
     clear hb2
     go_wp2_with fail
     refine (HEN.out _).mono ?_
     rintro e w3 ⟨rfl, hb3⟩
     have HB3 := hid (bel HB2.out hb3)
     clear hb3
     go_wp2
     go_ret2
     exact ⟨by rw [HE.out, ← HM1.out]; first | rfl | simp [hq2], HB3.out⟩
    ·have HE : Hid (H = .tuple #[.string M, .bool true]) := by
      show _ = _
      rw [hH2]
      unfold dm2
      rw [if_neg hM0, he, if_neg (by simp)]
      show Value.tuple #[.string (strOf M.data.toList), .bool true] = _
      rw [ay]
     have hq : (M.toList == []) = false := by
      rw [Lib.toList_data, beq_eq_false_iff_ne]
      exact hM0
     have hq2 : M.toList.isEmpty = false := by rw [Lib.toList_data]; simpa using hM0
     clear hend he hM0 hH2
     go_wp2_with fail
     refine (TJ.out _).mono ?_
     rintro e w2 ⟨rfl, hb2⟩
     have HB2 := hid hb2
     clear hb2
     go_wp2_with fail
     refine (HEN.out _).mono ?_
     rintro e w3 ⟨rfl, hb3⟩
     have HB3 := hid (bel HB2.out hb3)
     clear hb3
     go_wp2
     go_ret2
     exact ⟨by rw [HE.out]; rfl, HB3.out⟩
   | true =>
    rw [he] at hend
    have HEN := hid hend
    have hM0 : M.data.toList ≠ [] := by intro h; rw [h] at he; cases he
    have hH3 : H = HV ((OM M.data.toList).map G8.pr) := by rw [hH2]; unfold dm2; rw [if_neg hM0, he, if_pos rfl]
    have hpa := fun w hM => J9.parse_any M w hMs hM
    clear hend he hM0 hH2
    cases hp : OM M.data.toList with
    | none =>
     rw [hp] at hpa hH3
     have HE : Hid (H = .tuple #[.string (strOf []), .bool false]) := by show _ = _; rw [hH3]; rfl
     have Ci : Hid (J9.xY none = .tuple #[.int .u32 0, .bool false]) := J9.iF _ rfl
     rw [Ci.out] at hpa
     have HP := hid hpa
     clear hpa hH3 hp
     go_wp2_with fail
     refine (TJ.out _).mono ?_
     rintro e w2 ⟨rfl, hb2⟩
     have HB2 := hid hb2
     clear hb2
     go_wp2_with fail
     refine (HEN.out _).mono ?_
     rintro e w3 ⟨rfl, hb3⟩
     have HB3 := hid (bel HB2.out hb3)
     clear hb3
     go_wp2_with fail
     refine (HP.out _ (HM.out.below HB3.out)).mono ?_
     rintro e w4 ⟨rfl, hb4⟩
     have HB4 := hid (bel HB3.out hb4)
     clear hb4
     go_wp2
     go_ret2
     exact ⟨by rw [HE.out]; rfl, HB4.out⟩
    | some n =>
     have hn := VA hp
     rw [hp] at hpa hH3
     obtain ⟨R, hR⟩ : ∃ R : ByteArray, R = strOf (G8.pr n) := ⟨_, rfl⟩
     have HE : Hid (H = .tuple #[.string R, .bool true]) := by show _ = _; rw [hH3, hR]; rfl
     have Ci : Hid (J9.xY (some n) = .tuple #[.int .u32 (n : Int), .bool true]) := J9.Mc _ n rfl
     rw [Ci.out] at hpa
     have HP := hid hpa
     have je : Hid (∀ w, Tab.Pow w → Calls Tryz.prog 208 #[.int .u32 (n : Int)] w fun e w' => e = .returned (.string R) ∧ Below w.heap.size w w') := by
      show ∀ w, _
      rw [hR]
      exact fun w hT => G8.print_any n hn w hT
     clear hpa hH3 hp hn hR
     go_wp2_with fail
     refine (TJ.out _).mono ?_
     rintro e w2 ⟨rfl, hb2⟩
     have HB2 := hid hb2
     clear hb2
     go_wp2_with fail
     refine (HEN.out _).mono ?_
     rintro e w3 ⟨rfl, hb3⟩
     have HB3 := hid (bel HB2.out hb3)
     clear hb3
     go_wp2_with fail
     refine (HP.out _ (HM.out.below HB3.out)).mono ?_
     rintro e w4 ⟨rfl, hb4⟩
     have HB4 := hid (bel HB3.out hb4)
     clear hb4
     go_wp2_with fail
     refine (je.out _ (cO HT.out HB4.out)).mono ?_
     rintro e w5 ⟨rfl, hb5⟩
     have mO := hid (bel HB4.out hb5)
     clear hb5
     go_wp2
     go_ret2
     exact ⟨by rw [HE.out]; rfl, mO.out⟩
theorem Ri (L : List UInt8) : Lib.hasPrefix L [91] = decide (L.head? = some 91) := by
 cases L with
 | nil => rfl
 | cons c r =>
  unfold Lib.hasPrefix
  by_cases h : c = 91
  ·subst h; simp [List.isPrefixOf]
  ·have h2 : ¬ (91 : UInt8) = c := fun e => h e.symm
   simp [List.isPrefixOf, h, h2]
theorem parse_any (s : ByteArray) (sp : Bool) (w : World) (hs : s.size ≤ 900000) (hL : pR w) (hT : Tab.Pow w) (hM : Max w) : Calls Tryz.prog 158 #[.string s, .bool sp] w fun e w' => e = .returned (HV (hst s.data.toList sp)) ∧ Below w.heap.size w w' := by
 have HL := hid hL
 have HT := hid hT
 have HM := hid hM
 have hl : s.data.toList.length = s.size := Array.length_toList
 have TU := hid hl
 have hpx := fun w => Tryz.strings_HasPrefix s ⟨#[91]⟩ w
 rw [show (⟨#[91]⟩ : ByteArray).data.toList = [91] from rfl, Ri] at hpx
 obtain ⟨H, hH⟩ : ∃ H, H = HV (hst s.data.toList sp) := ⟨_, rfl⟩
 rw [← hH]
 have HS9 := hid hs
 clear hL hT hM hl
 by_cases hh : s.data.toList.head? = some 91
 ·have hH2 : H = HV (hbr s.data.toList.tail) := by rw [hH]; unfold hst; rw [if_pos hh]
  rw [decide_eq_true hh] at hpx
  have HPX := hid hpx
  have h1 : 1 ≤ s.size := by
   rw [← TU.out]
   cases e : s.data.toList with
   | nil => rw [e] at hh; cases hh
   | cons a r => simp
  have hX : (s.extract 1 s.size).data.toList = s.data.toList.tail := by rw [SixE.cut_str, List.drop_one]
  obtain ⟨X, hXe⟩ : ∃ X, X = s.extract 1 s.size := ⟨_, rfl⟩
  have Qd : X.size ≤ 1048576 := by rw [hXe, ByteArray.size_extract]; omega
  rw [← hXe] at hX
  rw [← hX] at hH2
  have HAD := hid (fun w hL hM => QD X w Qd hL hM)
  obtain ⟨a, b, hab⟩ : ∃ a b, HV (hbr X.data.toList) = .tuple #[a, b] := by
   cases hbr X.data.toList with
   | none => exact ⟨_, _, rfl⟩
   | some L => exact ⟨_, _, rfl⟩
  have HAB := hid hab
  have HE := hid (hH2.trans hab)
  have h1i : (1 : Int) ≤ (s.size : Int) := by omega
  have HXE := hid hXe
  clear hpx hh hH hH2 hX Qd hab hs hXe
  go_enter Tryz.func158, Tryz.ntmps158
  go_wp2_with fail
  refine (HPX.out _).mono ?_
  rintro e w2 ⟨rfl, hww⟩
  obtain rfl : w = w2 := hww.symm
  go_wp2_with fail
  rw [← HXE.out]
  refine (HAD.out _ HL.out HM.out).mono ?_
  rintro e w3 ⟨rfl, hb3⟩
  rw [HAB.out]
  have HB3 := hid hb3
  clear hb3
  go_wp2
  go_ret2
  exact ⟨by rw [HE.out]; rfl, HB3.out⟩
 ·rw [decide_eq_false hh] at hpx
  have HPX := hid hpx
  cases sp with
  | true =>
   have hH2 : H = HV (WZ (pO.dec s.data.toList)) := by rw [hH]; unfold hst; rw [if_neg hh, if_pos rfl]
   obtain ⟨X, hX⟩ : ∃ X : ByteArray, X = strOf (pO.dec s.data.toList) := ⟨_, rfl⟩
   have Gh : X.data.toList = pO.dec s.data.toList := by rw [hX]; rfl
   have Qd : X.size ≤ 900000 := by
    rw [hX, ah]
    have := pO.lu s.data.toList
    rw [TU.out] at this
    omega
   have HDC := hid (fun w => pO.decode_any s w (by omega))
   rw [← Gh] at HDC
   rw [← Gh] at hH2
   have HDO := hid (fun w hT hM => UL X w Qd hT hM)
   obtain ⟨a, b, hab⟩ : ∃ a b, HV (WZ X.data.toList) = .tuple #[a, b] := by
    cases WZ X.data.toList with
    | none => exact ⟨_, _, rfl⟩
    | some L => exact ⟨_, _, rfl⟩
   have HAB := hid hab
   have HE := hid (hH2.trans hab)
   clear hpx hh hH hH2 hX Gh Qd hab hs
   go_enter Tryz.func158, Tryz.ntmps158
   go_wp2_with fail
   refine (HPX.out _).mono ?_
   rintro e w2 ⟨rfl, hww⟩
   obtain rfl : w = w2 := hww.symm
   go_wp2_with fail
   refine (HDC.out _).mono ?_
   rintro e w3 ⟨v, rfl, hown, hb3⟩
   obtain ⟨A3, c3, rfl, _, _, hrd3⟩ := bZ hown
   have hs3 : (convert 30 9 (.slice A3 X.size c3)).run Tryz.prog w3 = .ok (.string X) w3 := by
    have h := aQ (P := Tryz.prog) 30 9 5 Tryz.underlying30 Tryz.underlying5 Tryz.underlying9 _ c3 hrd3
    rw [ay] at h
    exact h
   have HB3 := hid hb3
   clear hb3 hown hrd3
   go_wp2_with fail
   clear hs3
   refine (HDO.out _ (cO HT.out HB3.out) (HM.out.below HB3.out)).mono ?_
   rintro e w4 ⟨rfl, hb4⟩
   rw [HAB.out]
   have HB4 := hid (bel HB3.out hb4)
   clear hb4
   go_wp2
   go_ret2
   exact ⟨by rw [HE.out]; rfl, HB4.out⟩
  | false =>
   have HH : Hid (H = HV (plc s.data.toList)) := by show _ = _; rw [hH]; unfold hst; rw [if_neg hh, if_neg (by simp)]
   clear hpx hh hH
   go_enter Tryz.func158, Tryz.ntmps158
   go_wp2_with fail
   refine (HPX.out _).mono ?_
   rintro e w2 ⟨rfl, hww⟩
   obtain rfl : w = w2 := hww.symm
   go_wp2
   go_loopw [6] (fun vk wr => ∃ k : Nat, k ≤ s.size ∧ vk = .int .i64 (k : Int) ∧ wr = w ∧ Hid (oks false (s.data.toList.take k) = true)) (fun vk _ => s.size - (intOf vk).toNat)
   case atStart => exact ⟨0, Nat.zero_le _, rfl, rfl, rfl⟩
   case round =>
    obtain ⟨k, hk, rfl, rfl, HO⟩ := hrel
    by_cases hlt : k < s.size
    ·obtain ⟨c, hc⟩ : ∃ c, s[k] = c := ⟨_, rfl⟩
     have hkl : k < s.data.toList.length := by rw [TU.out]; exact hlt
     have hcl : s.data.toList[k] = c := hc
     cases hf : QZ false c with
     | true =>
      have HE : Hid (H = .tuple #[.string (strOf []), .bool false]) := by
       show _ = _
       rw [HH.out]
       unfold plc
       rw [Vo false _ k hkl (by rw [hcl]; unfold okb; rw [hf]; rfl)]
       rfl
      have hfc := fun w => oL c false w
      rw [hf] at hfc
      have HF := hid hfc
      clear hkl hcl hf hfc
      go_wp2_with fail
      refine (HF.out _).mono ?_
      rintro e w2 ⟨rfl, rfl⟩
      go_wp2
      go_ret2
      exact ⟨by rw [HE.out]; rfl, Below.refl _ _⟩
     | false =>
      have HN : Hid (oks false (s.data.toList.take (k + 1)) = true) := by
       show _ = _
       rw [Ae false _ k hkl, HO.out, hcl]
       unfold okb
       rw [hf]
       rfl
      have hfc := fun w => oL c false w
      rw [hf] at hfc
      have HF := hid hfc
      clear hkl hcl hf hfc
      go_wp2_with fail
      refine (HF.out _).mono ?_
      rintro e w2 ⟨rfl, rfl⟩
      go_wp2
      go_roundw
      case rel => exact ⟨k + 1, by omega, by go_num, by first | rfl | trivial, HN.out⟩
      case measure => simp [intOf]; omega
    ·have hO : oks false s.data.toList = true := by
      have := HO.out
      rw [List.take_of_length_le (by rw [TU.out]; omega)] at this
      exact this
     obtain ⟨R, hR⟩ : ∃ R : ByteArray, R = strOf (aJ.enc 0 s.data.toList) := ⟨_, rfl⟩
     have HE : Hid (H = .tuple #[.string R, .bool true]) := by
      show _ = _
      rw [HH.out]
      unfold plc
      rw [if_pos hO, hR]
      rfl
     have HR := hid hR
     have hcv := fun (w : World) s => run_bytes_of_string (P := Tryz.prog) w 9 30 5 s Tryz.underlying9 Tryz.underlying30 Tryz.underlying5
     clear hO HO HH hR
     go_wp2_with fail
     clear hcv
     refine (aJ.fM 0 _ _ _ s.data.toList _ (iy s _ wr _) (by omega)).mono ?_
     rintro e w3 ⟨rfl, hb3⟩
     rw [← HR.out]
     go_wp2
     go_ret2
     exact ⟨by rw [HE.out]; rfl, bel (((Below.refl wr.heap.size wr).alloc (Nat.le_refl _) _).drew) hb3⟩
end Go.Proofs.YtcfgioklgmlclaaGreatDoor.AA
