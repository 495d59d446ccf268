/- Texts that belong together: MV, rC, X7, aaE. -/
import Derived.Test.YtcfgioklgmlclaaGreatDoorPA
import Derived.Test.YtcfgioklgmlclaaGreatDoorPB
import Derived.Test.YtcfgioklgmlclaaGreatDoorPC
import Derived.Test.YtcfgioklgmlclaaGreatDoorME
import Derived.Test.YtcfgioklgmlclaaGreatDoorM1
import Derived.Test.YtcfgioklgmlclaaGreatDoorMG
import Derived.Test.YtcfgioklgmlclaaGreatDoorMA
import Derived.Test.YtcfgioklgmlclaaGreatDoorMB
import Derived.Test.YtcfgioklgmlclaaGreatDoorPI
import Derived.Test.YtcfgioklgmlclaaGreatDoorMO
import Derived.Test.YtcfgioklgmlclaaGreatDoorMR
set_option linter.unusedSimpArgs false
set_option linter.unusedVariables false
set_option maxRecDepth 100000
set_option maxHeartbeats 64000000
namespace Go.Proofs.YtcfgioklgmlclaaGreatDoor.MV
open Go.RowKit Base fE nV qL X9
def ws : List UInt8 := [9, 10, 12, 13, 32]
def ws2 : List UInt8 := [32, 9, 10, 12, 13]
def CQ : List UInt8 := [98, 97, 115, 101, 54, 52]
def ahd (H : List UInt8) : List UInt8 := Lib.trimRightS (H.take (H.length - 6)) [32]
def FY (H : List UInt8) : Bool := decide (6 ≤ H.length) && (decide (lower (H.drop (H.length - 6)) = CQ) && Lib.hasSuffix (ahd H) [59])
def JK (H : List UInt8) : List UInt8 := Lib.trimSuffix (ahd H) [59]
def tp : List UInt8 := [116, 101, 120, 116, 47, 112, 108, 97, 105, 110]
def fall : MT := ⟨[116, 101, 120, 116], [112, 108, 97, 105, 110], [([99, 104, 97, 114, 115, 101, 116], [85, 83, 45, 65, 83, 67, 73, 73])]⟩
def iK (H : List UInt8) : List UInt8 := if Lib.hasPrefix H [59] = true then tp ++ H else H
def typ (H : List UInt8) : MT := (mime (iK H)).getD fall
def proc (L : List UInt8) : Option (MT × List UInt8) :=
 if (aH.dV 44 L).2.2 = true then
  let H := Lib.trimS (aH.dV 44 L).1 ws
  let B := pO.dec (aH.dV 44 L).2.1
  if FY H = true then (if Aw.pY B = true then some (typ (JK H), Aw.dB B) else none) else some (typ H, B)
 else none
theorem F8 (b : UInt8) : ∀ L : List UInt8, (aH.dV b L).1.length ≤ L.length ∧ (aH.dV b L).2.1.length ≤ L.length
 | [] => by simp [aH.dV]
 | c :: L => by
  have h := F8 b L
  unfold aH.dV
  split
  ·simp
  ·simp only [List.length_cons]
   omega
theorem NK (H : List UInt8) : (ahd H).length ≤ H.length := by
 refine Nat.le_trans (XO [32] _) ?_
 rw [List.length_take]
 omega
theorem unB_len (H : List UInt8) : (JK H).length ≤ H.length := by
 refine Nat.le_trans ?_ (NK H)
 unfold JK Lib.trimSuffix
 split
 ·simp
 ·exact Nat.le_refl _
theorem qH (H : List UInt8) : (iK H).length ≤ H.length + 10 := by
 unfold iK
 split
 ·rw [List.length_append, show tp.length = 10 from rfl]; omega
 ·omega
theorem trim_ws (L : List UInt8) : Lib.trimS L ws2 = Lib.trimS L ws := by
 have h : ∀ c : UInt8, ws2.contains c = ws.contains c := xu.eH (p := fun c => ws2.contains c = ws.contains c) (by decide +kernel)
 unfold Lib.trimS Lib.trimLeftS Lib.trimRightS
 have e : (fun c => ws2.contains c) = fun c => ws.contains c := funext h
 rw [e]
def DATA : List UInt8 := [100, 97, 116, 97]
def xO : List UInt8 := [100, 97, 116, 97, 58]
def err (aj L : List UInt8) : Int := if aj = DATA then (if (proc L).isSome = true then 0 else 2) else 1
def ans (aj L : List UInt8) : MT × List UInt8 := if aj = DATA then (proc L).getD (lJ.xH, []) else (lJ.xH, [])
def X8 (M : MT) (B : List UInt8) (er : Int) (e : Ending) (w' : World) : Prop := ∃ A c A2 c2, e = .returned (.tuple #[.agg #[.string (strOf M.ty), .string (strOf M.sub), .slice A M.ps.length c], .slice A2 B.length c2, .int .i64 er]) ∧ M.ps.length ≤ c ∧ c ≤ maxLen ∧ uq.kV w' A M.ps.length (lJ.mF M.ps) ∧ B.length ≤ c2 ∧ c2 ≤ maxLen ∧ dS w' A2 B.length (ak B)
def kT (M : MT) (B : List UInt8) (er : Int) (e : Ending) (w' : World) : Prop := ∃ A c, e = .returned (.tuple #[.agg #[.string (strOf M.ty), .string (strOf M.sub), .slice A M.ps.length c], .string (strOf B), .int .i64 er]) ∧ M.ps.length ≤ c ∧ c ≤ maxLen ∧ uq.kV w' A M.ps.length (lJ.mF M.ps)
end Go.Proofs.YtcfgioklgmlclaaGreatDoor.MV
namespace Go.Proofs.YtcfgioklgmlclaaGreatDoor.rC
open Go.RowKit Base aP fE nV CG uq qL lJ X9 MV
theorem below_setRow {B g : Nat} {w0 w : World} (h : Below B w0 w) (hg : B ≤ g) (ds : Array Value) : Below B w0 (w.setRow g ds) := by
 refine ⟨h.os, h.tape, h.output, ?_, fun k hk => (setRow_other w g k ds (by omega)).trans (h.block k hk)⟩
 simpa [World.setRow] using h.size
theorem aK (L : List UInt8) : (strOf L).toList = L := by rw [Lib.toList_data]; rfl
theorem dl (s : ByteArray) : s.data.toList.length = s.size := Array.length_toList
def Z3 (T : TypeId) (w : World) (g : Nat) : Prop := B3 T w g (.string ⟨#[]⟩) (.string ⟨#[]⟩) (.slice none 0 0)
theorem Jo {w : World} {g b : Nat} (hne : b ≠ g) (ds : Array Value) (k : Nat) : (w.setRow g ds).cell? ⟨b, k, none⟩ = w.cell? ⟨b, k, none⟩ := by
 simp only [World.cell?, setRow_other w g b ds hne]
theorem bI {w : World} {A : Option Addr} {n p : Nat} {l : List (ByteArray × ByteArray)} {T : TypeId} (hne : ∀ q ∈ l, q.1.data.toList ≠ []) {a' : Option Addr} {b' c' : Nat} (h : kV w A n l) (hz : B3 T w p (.string ⟨#[]⟩) (.string ⟨#[]⟩) (.slice a' b' c')) (ds : Array Value) : kV (w.setRow p ds) A n l := by
 refine ⟨h.1, fun j hj => ?_⟩
 obtain ⟨g, off, e, hlt, h1, h2⟩ := h.2 j hj
 have hgp : g ≠ p := by
  rintro rfl
  have hc := cell_of_row w g (off + j * 2) _ _ _ hz
  rw [h1] at hc
  have hn := hne l[j] (List.getElem_mem hj)
  generalize off + j * 2 = i at hc
  match i, hc with
  | 0, hc =>
   simp at hc
   exact hn (by rw [hc])
  | 1, hc =>
   simp at hc
   exact hn (by rw [hc])
  | 2, hc => simp at hc
  | _ + 3, hc => simp at hc
 exact ⟨g, off, e, by simpa [World.setRow] using hlt, (Jo hgp ds _).trans h1, (Jo hgp ds _).trans h2⟩
theorem bV {T : TypeId} {w : World} {g : Nat} {a b c : Value} (h : B3 T w g a b c) (x y z : Value) : B3 T (w.setRow g #[x, y, z]) g x y z := setRow_heap w g #[a, b, c] #[x, y, z] _ (0, 0) h
theorem jy {T : TypeId} {w : World} {g k : Nat} {a b c : Value} (h : B3 T w g a b c) (hk : k ≠ g) (ds : Array Value) : B3 T (w.setRow k ds) g a b c := (setRow_other w k g ds (Ne.symm hk)).trans h
theorem aO {w : World} {g : Nat} {ops : Array Oper} {rest : List Oper} {o : Oper} {a : Act} {Q : Exit → Act → World → Prop} {p q r : Value} (hU : B3 29 w g p q r) (S1 S2 : ByteArray) (A : Option Addr) (n c : Nat) (x y : Operand) (ho : o.op = .store 29 x y) (hgd : o.guard = none)
  (hx : a.eval x = .pointer (some ⟨g, 0, none⟩)) (hy : a.eval y = .agg #[.string S1, .string S2, .slice A n c])
  (h : wpList Tryz.prog ops Q rest (a.put o.dst undef) (w.setRow g #[.string S1, .string S2, .slice A n c])) : wpList Tryz.prog ops Q (o :: rest) a w :=
 wpList_store_row hgd 29 x y ho g #[.string S1, .string S2, .slice A n c] hx hy 29 #[p, q, r] hU (by kernel_rfl) rfl (by simp [Value.oneCell']) h
def MtA (M : MT) (e : Ending) (w' : World) : Prop := ∃ A c, e = .returned (.agg #[.string (strOf M.ty), .string (strOf M.sub), .slice A M.ps.length c]) ∧ M.ps.length ≤ c ∧ c ≤ maxLen ∧ kV w' A M.ps.length (mF M.ps)
theorem MB {fn : Func} {a : Tmp} (hf : fn.results = #[.cell a 29]) {w : World} {g : Nat} {p q r : Value} (hU : B3 29 w g p q r) (tmps : Array Value) (h2 : tmps.getD a undef = .pointer (some ⟨g, 0, none⟩)) :
  (results fn tmps).run Tryz.prog w = .ok (.agg #[p, q, r]) w :=
 results_cell_row hf tmps w g _ _ _ _ h2 hU Tryz.underlying29 rfl (by
  rw [show (Tryz.prog.info? 29).map (·.size) = some 3 by kernel_rfl]
  rfl)
theorem XJ {w : World} {A : Option Addr} {n p : Nat} {L : List UInt8} {T : TypeId} (h : dS w A n (ak L)) (hz : Z3 T w p) (ds : Array Value) : dS (w.setRow p ds) A n (ak L) := by
 refine ⟨h.1, fun j hj => ?_⟩
 obtain ⟨g, off, e, hlt, h1⟩ := h.2 j hj
 have hgp : g ≠ p := by
  rintro rfl
  have hc := cell_of_row w g (off + j) _ _ _ hz
  rw [h1] at hc
  have hv : ∃ z : Int, (ak L)[j] = .int .u8 z := ⟨((L[j]'(by simpa [ak] using hj)).toNat : Int), by simp [ak]⟩
  obtain ⟨z, hv⟩ := hv
  rw [hv] at hc
  generalize off + j = i at hc
  match i, hc with
  | 0, hc => simp at hc
  | 1, hc => simp at hc
  | 2, hc => simp at hc
  | _ + 3, hc => simp at hc
 exact ⟨g, off, e, by simpa [World.setRow] using hlt, (Jo hgp ds _).trans h1⟩
theorem aY (M : MT) (h : xu.gy M.ty M.sub M.ps = true) : ∀ q ∈ mF M.ps, q.1.data.toList ≠ [] := by
 intro q hq
 unfold mF at hq
 obtain ⟨p, hp, rfl⟩ := List.mem_map.1 hq
 obtain ⟨k, hk, rfl⟩ := List.getElem_of_mem hp
 unfold xu.gy at h
 rw [Bool.and_eq_true, Bool.and_eq_true] at h
 have := xu.yT h.2.2 k hk
 unfold xu.xI at this
 rw [List.getElem?_eq_getElem hk] at this
 simp only [Bool.and_eq_true] at this
 exact xu.zh (xu.lH this.1).1
theorem bK : xu.gy fall.ty fall.sub fall.ps = true := by decide
theorem fD (H : List UInt8) : xu.gy (typ H).ty (typ H).sub (typ H).ps = true := by
 unfold typ
 cases h : mime (iK H) with
 | none => exact bK
 | some M => exact xu.Vk h
theorem Wi (s : ByteArray) (w : World) (hs : s.size ≤ 100000000) : Calls Tryz.prog 33 #[.string s] w fun e w' => (∃ X, e = .returned (.tuple #[.string X, .bool (FY s.data.toList)]) ∧ (FY s.data.toList = true → X = strOf (JK s.data.toList))) ∧ Below w.heap.size w w' := by
 obtain ⟨ob, hob⟩ : ∃ x, x = FY s.data.toList := ⟨_, rfl⟩
 obtain ⟨ox, hox⟩ : ∃ x, x = strOf (JK s.data.toList) := ⟨_, rfl⟩
 rw [← hob, ← hox]
 by_cases h6 : s.size < 6
 ·have HO : Hid (ob = false) := by
   show _ = _
   rw [hob]
   unfold FY
   rw [decide_eq_false (by rw [dl]; omega)]
   rfl
  have hi : (s.size : Int) - 6 < 0 := by omega
  clear hob hox
  go_enter Tryz.func33, Tryz.ntmps33
  go_wp2
  go_ret2
  exact ⟨⟨_, by rw [HO.out]; first | done | rfl, fun h => by rw [HO.out] at h; cases h⟩, Below.refl _ _⟩
 ·obtain ⟨k, hk⟩ : ∃ k, s.size = k + 6 := ⟨s.size - 6, by omega⟩
  have hsz : (s.size : Int) - 6 = (k : Int) := by omega
  have hk0 : ¬ (k : Int) < 0 := by omega
  have hk1 : (k : Int) ≤ (s.size : Int) := by omega
  have hk2 : k ≤ s.size := by omega
  have hx := ext_from s k s.size rfl
  have hy := ext_to s k
  obtain ⟨D, hD⟩ : ∃ D, D = strOf (s.data.toList.drop k) := ⟨_, rfl⟩
  obtain ⟨H, hH⟩ : ∃ H, H = strOf (s.data.toList.take k) := ⟨_, rfl⟩
  obtain ⟨X, hX⟩ : ∃ X, X = strOf (lower (s.data.toList.drop k)) := ⟨_, rfl⟩
  obtain ⟨V, hV⟩ : ∃ V, V = ahd s.data.toList := ⟨_, rfl⟩
  have hVl : V.length ≤ s.size := by rw [hV]; have := NK s.data.toList; rw [dl] at this; exact this
  have hVe : Lib.trimRightS (s.data.toList.take k) [32] = V := by rw [hV]; unfold ahd; rw [dl, show s.size - 6 = k by omega]
  have Yf : Hid (∀ w : World, Calls Tryz.prog 75 #[.string D] w fun e w' => e = .returned (.string X) ∧ Below w.heap.size w w') := fun w => by
   rw [hX, hD]
   exact gq _ w (by rw [ah, List.length_drop, dl]; unfold maxLen; omega)
  have KH : Hid (∀ w : World, Calls Tryz.prog 77 #[.string H, .string ⟨#[32]⟩] w fun e w' => e = .returned (.string (strOf V)) ∧ Below w.heap.size w w') := fun w => by
   have h := Tryz.strings_TrimRight_set H ⟨#[32]⟩ w (by rw [hH, ah, List.length_take, dl]; omega) (by decide) (ascii_of_all (by decide))
   rw [show H.data.toList = s.data.toList.take k by rw [hH]; rfl, show (⟨#[32]⟩ : ByteArray).data.toList = [32] from rfl, hVe] at h
   exact h
  have TR : Hid (∀ w : World, Calls Tryz.prog 76 #[.string (strOf V), .string ⟨#[59]⟩] w fun e w' => e = .returned (.tuple #[.string (strOf (Lib.trimSuffix V [59])), .bool (Lib.hasSuffix V [59])]) ∧ w' = w) := fun w =>
   Tryz.strings_CutSuffix (strOf V) ⟨#[59]⟩ w (by rw [ah]; omega)
  obtain ⟨R, hR⟩ : ∃ R, R = Lib.trimSuffix V [59] := ⟨_, rfl⟩
  obtain ⟨sb, hsb⟩ : ∃ x, x = Lib.hasSuffix V [59] := ⟨_, rfl⟩
  rw [← hR, ← hsb] at TR
  have hB : FY s.data.toList = (decide (lower (s.data.toList.drop k) = CQ) && sb) := by
   unfold FY
   rw [dl, decide_eq_true (by omega), show s.size - 6 = k by omega, ← hV, ← hsb]
   rfl
  have hxo : ox = strOf R := by rw [hox, hR, hV]; rfl
  rw [← hD] at hx
  rw [← hH] at hy
  by_cases hb : lower (s.data.toList.drop k) = CQ
  ·have q1 : (X.toList == [98, 97, 115, 101, 54, 52]) = true := by rw [hX, aK, hb]; rfl
   have q2 : X.toList = [98, 97, 115, 101, 54, 52] := by rw [hX, aK, hb]; rfl
   have HO : Hid (ob = sb ∧ ox = strOf R) := ⟨by rw [hob, hB, hb, decide_eq_true rfl]; rfl, hxo⟩
   clear hob hox hD hH hX hV hVl hVe hR hsb hB hxo hb h6 hk
   go_enter Tryz.func33, Tryz.ntmps33
   go_wp2_with fail
   refine (Yf.out _).mono ?_
   rintro e w1 ⟨rfl, hb1⟩
   have HB1 := hid hb1
   clear hb1
   go_wp2_with fail
   refine (KH.out _).mono ?_
   rintro e w2 ⟨rfl, hb2⟩
   have HB2 := hid (bel HB1.out hb2)
   clear hb2
   go_wp2_with fail
   refine (TR.out _).mono ?_
   rintro e w3 ⟨rfl, hw3⟩
   subst hw3
   go_wp2
   go_ret2
   exact ⟨⟨_, by rw [HO.out.1]; first | done | rfl, fun _ => HO.out.2.symm⟩, HB2.out⟩
  ·have q1 : (X.toList == [98, 97, 115, 101, 54, 52]) = false := by rw [hX, aK, beq_eq_false_iff_ne]; exact hb
   have q2 : ¬ X.toList = [98, 97, 115, 101, 54, 52] := by rw [hX, aK]; exact hb
   have HO : Hid (ob = false) := by show _ = _; rw [hob, hB, decide_eq_false hb]; rfl
   clear hob hox hD hH hX hV hVl hVe hR hsb hB hxo hb h6 hk
   go_enter Tryz.func33, Tryz.ntmps33
   go_wp2_with fail
   refine (Yf.out _).mono ?_
   rintro e w1 ⟨rfl, hb1⟩
   have HB1 := hid hb1
   clear hb1
   go_wp2
   go_ret2
   exact ⟨⟨_, by rw [HO.out]; first | done | rfl, fun h => by rw [HO.out] at h; cases h⟩, HB1.out⟩
theorem vZ (w : World) : Calls Tryz.prog 20 #[] w fun e w' => MtA fall e w' ∧ Below w.heap.size w w' := by
 go_enter Tryz.func20, Tryz.ntmps20
 go_wp2
 obtain ⟨h1, h2, h3⟩ := tZ.laid2 w #[.string ⟨#[116, 101, 120, 116]⟩, .string ⟨#[112, 108, 97, 105, 110]⟩, .slice (some ⟨w.heap.size + 1, 0, none⟩) 1 1] #[.string ⟨#[99, 104, 97, 114, 115, 101, 116]⟩, .string ⟨#[85, 83, 45, 65, 83, 67, 73, 73]⟩] 29 69
 have hlt := (Array.getElem?_eq_some_iff.1 h2).1
 refine bodyPost_ret (MB rfl h1 _ rfl) rfl ⟨⟨some ⟨w.heap.size + 1, 0, none⟩, 1, rfl, Nat.le_refl _, by decide, rfl, fun j hj => ?_⟩, h3⟩
 obtain rfl : j = 0 := by simp [mF, fall] at hj; omega
 exact ⟨w.heap.size + 1, 0, rfl, hlt, cell_of_row _ (w.heap.size + 1) 0 _ _ _ h2, cell_of_row _ (w.heap.size + 1) 1 _ _ _ h2⟩
theorem V9 (s : ByteArray) (w : World) (hs : s.size ≤ 1000000) : Calls Tryz.prog 35 #[.string s] w fun e w' => MtA (typ s.data.toList) e w' ∧ Below w.heap.size w w' := by
 obtain ⟨M, hM⟩ : ∃ M, M = typ s.data.toList := ⟨_, rfl⟩
 have qI := hid (aY M (by rw [hM]; exact fD _))
 rw [← hM]
 obtain ⟨o, ho⟩ : ∃ o, o = mime (iK s.data.toList) := ⟨_, rfl⟩
 have jX : Hid (M = o.getD fall) := by show _ = _; rw [hM, ho]; rfl
 obtain ⟨X, hX⟩ : ∃ X, X = strOf (iK s.data.toList) := ⟨_, rfl⟩
 have rH : Hid (∀ w : World, Calls Tryz.prog 82 #[.string X] w fun e w' => Yl o e w' ∧ Below w.heap.size w w') := fun w => by
  have h := lJ.parse_any X w (by rw [hX, ah]; have := qH s.data.toList; rw [dl] at this; omega)
  rw [show X.data.toList = iK s.data.toList by rw [hX]; rfl, ← ho] at h
  exact h
 obtain ⟨pb, hpb⟩ : ∃ x, x = Lib.hasPrefix s.data.toList [59] := ⟨_, rfl⟩
 have HHP : Hid (∀ w : World, Calls Tryz.prog 81 #[.string s, .string ⟨#[59]⟩] w fun e w' => e = .returned (.bool pb) ∧ w' = w) := fun w => by rw [hpb]; exact Tryz.strings_HasPrefix s ⟨#[59]⟩ w
 have HXT : Hid (pb = true → X = strOf (tp ++ s.data.toList)) := by
  show _ → _
  intro h
  rw [hX]
  unfold iK
  rw [← hpb, if_pos h]
 have HXF : Hid (pb = false → X = s) := by
  show _ → _
  intro h
  rw [hX]
  unfold iK
  rw [← hpb, h, if_neg (by decide), ay]
 have JW := hid hs
 clear hM ho hX hpb hs
 go_enter Tryz.func35, Tryz.ntmps35
 go_upto_region 1 with (fail)
 generalize hw : World.alloc w _ = w1
 have h1 : Z3 29 w1 w.heap.size ∧ Below w.heap.size w w1 := by
  subst hw
  exact ⟨heap_alloc_new _ _, (Below.refl _ _).alloc (Nat.le_refl _) _⟩
 clear hw
 have jr := hid h1.1
 have HB1 := hid h1.2
 clear h1
 go_wp2_with fail
 refine (HHP.out _).mono ?_
 rintro e wx ⟨rfl, hwx⟩
 obtain rfl : w1 = wx := by first | exact hwx | exact hwx.symm
 clear hwx
 cases pb
 focus
  obtain rfl : X = s := HXF.out rfl
  clear HXT HXF
  go_wp2_with fail
 rotate_left
 focus
  have a1 : ∀ w : World, (Op.stringOp .add ⟨#[116, 101, 120, 116, 47, 112, 108, 97, 105, 110]⟩ s).run Tryz.prog w = .ok (.string X) w := fun w => by
   rw [HXT.out rfl]
   exact bf ⟨#[116, 101, 120, 116, 47, 112, 108, 97, 105, 110]⟩ s w (by have := JW.out; show 10 + s.size ≤ _; omega)
  clear HXT HXF
  go_wp2_with fail
  clear a1
 rotate_left
 all_goals
  refine (rH.out _).mono ?_
  rintro e w2 ⟨⟨A, c, rfl, k1, k2, k3⟩, hb2⟩
  have iG : Hid (Z3 29 w2 w.heap.size) := B3.below jr.out hb2
  have HB2 := hid (bel HB1.out hb2)
  have HP2 := hid k3
  clear jr HB1 hb2 k3
  cases o with
  | none =>
   have HM : Hid (M = fall) := jX.out
   clear jX HP2
   go_upto_region 4 with (fail)
   generalize gI : World.alloc w2 _ = w3
   have hb3 : Below w2.heap.size w2 w3 := by rw [← gI]; exact (Below.refl _ _).alloc (Nat.le_refl _) _
   have jd : Hid (Z3 29 w3 w.heap.size) := B3.below iG.out hb3
   have HB3 := hid (bel HB2.out hb3)
   clear gI iG HB2 hb3
   go_wp2_with fail
   refine (vZ _).mono ?_
   rintro e w4 ⟨⟨A4, c4, rfl, j1, j2, j3⟩, hb4⟩
   have mQ : Hid (Z3 29 w4 w.heap.size) := B3.below jd.out hb4
   have HB4 := hid (bel HB3.out hb4)
   have HP4 := hid j3
   clear jd HB3 hb4 j3
   go_wp2_with (refine aO mQ.out (strOf fall.ty) (strOf fall.sub) A4 fall.ps.length c4 (.tmp 2) (.tmp 16) rfl rfl rfl rfl ?_)
   try simp only [Exit.inBlock, Exit.then]
   exact bodyPost_ret (w := World.setRow w4 w.heap.size #[.string (strOf fall.ty), .string (strOf fall.sub), .slice A4 fall.ps.length c4]) (MB rfl (bV mQ.out _ _ _) _ rfl) rfl ⟨by rw [HM.out]; exact ⟨A4, c4, rfl, j1, j2, bI (by rw [← HM.out]; exact qI.out) HP4.out mQ.out _⟩, below_setRow HB4.out (Nat.le_refl _) _⟩
  | some N =>
   obtain rfl : M = N := jX.out
   clear jX
   go_upto_region 4 with (fail)
   generalize gI : World.alloc w2 _ = w3
   have hxa : B3 29 w3 w2.heap.size (.string (strOf M.ty)) (.string (strOf M.sub)) (.slice A M.ps.length c) := by rw [← gI]; exact heap_alloc_new _ _
   have hb3 : Below w2.heap.size w2 w3 := by rw [← gI]; exact (Below.refl _ _).alloc (Nat.le_refl _) _
   have jd : Hid (Z3 29 w3 w.heap.size) := B3.below iG.out hb3
   have HB3 := hid (bel HB2.out hb3)
   have HP3 : Hid (kV w3 A M.ps.length (mF M.ps)) := kV.below HP2.out hb3
   clear gI iG HB2 HP2 hb3
   obtain ⟨d0, d1, d2⟩ := hxa.facts
   go_wp2_with (refine aO jd.out (strOf M.ty) (strOf M.sub) A M.ps.length c (.tmp 2) (.tmp 15) rfl rfl rfl rfl ?_)
   try simp only [Exit.inBlock, Exit.then]
   exact bodyPost_ret (w := World.setRow w3 w.heap.size #[.string (strOf M.ty), .string (strOf M.sub), .slice A M.ps.length c]) (MB rfl (bV jd.out _ _ _) _ rfl) rfl ⟨⟨A, c, rfl, k1, k2, bI qI.out HP3.out jd.out _⟩, below_setRow HB3.out (Nat.le_refl _) _⟩
end Go.Proofs.YtcfgioklgmlclaaGreatDoor.rC
namespace Go.Proofs.YtcfgioklgmlclaaGreatDoor.X7
open Go.RowKit Base aP fE nV CG uq qL lJ X9 MV rC aH tZ Fh
theorem fU {fn : Func} {a b d : Tmp} (hf : fn.results = #[.cell a 29, .tmp b, .tmp d]) {w : World} {g : Nat} {p q r : Value} (hU : B3 29 w g p q r) (v x : Value) (tmps : Array Value) (h2 : tmps.getD a undef = .pointer (some ⟨g, 0, none⟩)) (h3 : tmps.getD b undef = v) (h4 : tmps.getD d undef = x) :
  (results fn tmps).run Tryz.prog w = .ok (.tuple #[.agg #[p, q, r], v, x]) w := by
 have hp' : tmps[a]?.getD undef = .pointer (some ⟨g, 0, none⟩) := by simpa using h2
 have hq' : tmps[b]?.getD undef = v := by simpa using h3
 have hr' : tmps[d]?.getD undef = x := by simpa using h4
 simp [results, hf, hp', hq', hr', asAddr, hU.load]
theorem uX {L : List UInt8} (h : (dV 44 L).2.2 = false) : proc L = none := by
 unfold proc
 rw [h, if_neg (by decide)]
theorem L9 {L H0 R0 : List UInt8} (h : dV 44 L = (H0, R0, true)) : proc L = (if FY (Lib.trimS H0 ws) = true then (if Aw.pY (pO.dec R0) = true then some (typ (JK (Lib.trimS H0 ws)), Aw.dB (pO.dec R0)) else none) else some (typ (Lib.trimS H0 ws), pO.dec R0)) := by
 unfold proc
 rw [h, if_pos rfl]
theorem Eu {e : Ending} {w' : World} {er : Int} (he : e = .returned (.tuple #[.agg #[.string ⟨#[]⟩, .string ⟨#[]⟩, .slice none 0 0], .slice none 0 0, .int .i64 er])) : X8 lJ.xH [] er e w' :=
 ⟨none, 0, none, 0, he, Nat.le_refl _, Nat.zero_le _, ⟨rfl, fun j hj => by simp [mF, xH] at hj⟩, Nat.le_refl _, Nat.zero_le _, dS.nil _⟩
theorem RV (u : U) (A : Option Addr) (n c : Nat) (BL L : List UInt8) (w : World) (hB : ∀ w1 : World, Below w.heap.size w w1 → Calls Tryz.prog 30 #[.agg #[.string (strOf u.aj), .string (strOf u.usr), .string (strOf u.dR), .string (strOf u.hst), .bool u.hh, .int .i64 u.port, .bool u.opq, .string (strOf u.txt), .slice A n c, .bool u.hq, .bool u.hf, .string (strOf u.eF), .string (strOf u.fG)]] w1 fun e w' => e = .returned (.string (strOf BL)) ∧ Below w1.heap.size w1 w') (hL : Lib.trimPrefix BL xO = L) (hLs : L.length ≤ 500000) (hM : Max w) :
  Calls Tryz.prog 13 #[.agg #[.string (strOf u.aj), .string (strOf u.usr), .string (strOf u.dR), .string (strOf u.hst), .bool u.hh, .int .i64 u.port, .bool u.opq, .string (strOf u.txt), .slice A n c, .bool u.hq, .bool u.hf, .string (strOf u.eF), .string (strOf u.fG)]] w fun e w' => X8 (ans u.aj L).1 (ans u.aj L).2 (err u.aj L) e w' ∧ Below w.heap.size w w' := by
 have Qh := hid hB
 have HM := hid hM
 obtain ⟨P, hP⟩ : ∃ P, P = ans u.aj L := ⟨_, rfl⟩
 obtain ⟨er, her⟩ : ∃ x, x = err u.aj L := ⟨_, rfl⟩
 rw [← hP, ← her]
 clear hB hM
 by_cases hs : u.aj = DATA
 ·
  have q1 : ((strOf u.aj).toList == [100, 97, 116, 97]) = true := by rw [aK, hs]; rfl
  have q2 : (strOf u.aj).toList = [100, 97, 116, 97] := by rw [aK, hs]; rfl
  have hP1 : P = (proc L).getD (lJ.xH, []) := by rw [hP]; unfold ans; rw [if_pos hs]
  have kU : er = if (proc L).isSome = true then 0 else 2 := by rw [her]; unfold err; rw [if_pos hs]
  clear hP her hs
  obtain ⟨X, hX⟩ : ∃ X, X = strOf L := ⟨_, rfl⟩
  obtain ⟨Y, hY⟩ : ∃ Y, Y = strOf BL := ⟨_, rfl⟩
  rw [← hY] at Qh
  have HTP : Hid (∀ w : World, Calls Tryz.prog 29 #[.string Y, .string ⟨#[100, 97, 116, 97, 58]⟩] w fun e w' => e = .returned (.string X) ∧ w' = w) := fun w => by
   have h := Tryz.strings_TrimPrefix Y ⟨#[100, 97, 116, 97, 58]⟩ w
   rw [show Y.data.toList = BL by rw [hY]; rfl, show (⟨#[100, 97, 116, 97, 58]⟩ : ByteArray).data.toList = xO from rfl, hL] at h
   rw [hX]
   exact h
  obtain ⟨H0, R0, cb, hcut⟩ : ∃ a b c, dV 44 L = (a, b, c) := ⟨_, _, _, rfl⟩
  have hcl := F8 44 L
  rw [hcut] at hcl
  simp only at hcl
  have hX2 : X.data.toList = L := by rw [hX]; rfl
  have HCU : Hid (∀ w : World, Max w → Calls Tryz.prog 28 #[.string X, .string ⟨#[44]⟩] w fun e w' => e = .returned (.tuple #[.string (strOf H0), .string (strOf R0), .bool cb]) ∧ Below w.heap.size w w') := fun w ⟨m, hm⟩ => (Tryz.strings_Cut X ⟨#[44]⟩ m w (by rw [hX, ah]; omega) hm).mono fun e w' ⟨h1, q, h2⟩ => ⟨by rw [h1, hX2, show (⟨#[44]⟩ : ByteArray).data.toList = [44] from rfl, uH, hcut]; rfl, by rw [h2]; exact Base.below_drewN (Below.refl _ _) _⟩
  clear hX hY hX2 hL
  go_enter Tryz.func13, Tryz.ntmps13
  go_upto_region 1 with (fail)
  generalize hw : World.alloc (World.alloc w _) _ = w1
  have h1 : UB w1 w.heap.size u (.slice A n c) ∧ Z3 29 w1 (w.heap.size + 1) ∧ Below w.heap.size w w1 := by
   subst hw
   exact tZ.laid2 w _ _ _ _
  clear hw
  have HU1 := hid h1.1
  have jr := hid h1.2.1
  have HB1 := hid h1.2.2
  clear h1
  obtain ⟨d0, d1, d2, d3, d4, d5, d6, d7, d8, d9, d10, d11, d12⟩ := HU1.out.facts
  go_wp2_with fail
  clear q1 q2 d0 d1 d2 d3 d4 d5 d6 d7 d8 d9 d10 d11 d12
  refine (Qh.out _ HB1.out).mono ?_
  rintro e w2 ⟨rfl, hb2⟩
  have TW := hid (HM.out.below HB1.out)
  clear HU1 Qh HM
  have iG : Hid (Z3 29 w2 (w.heap.size + 1)) := B3.below jr.out hb2
  have HB2 := hid (bel HB1.out hb2)
  replace TW := hid (TW.out.below hb2)
  clear jr HB1 hb2
  go_wp2_with fail
  refine (HTP.out _).mono ?_
  rintro e wx ⟨rfl, hwx⟩
  obtain rfl : w2 = wx := by first | exact hwx | exact hwx.symm
  clear hwx HTP
  go_wp2_with fail
  refine (HCU.out _ TW.out).mono ?_
  rintro e w3 ⟨rfl, hb3⟩
  clear HCU TW
  have jd : Hid (Z3 29 w3 (w.heap.size + 1)) := B3.below iG.out hb3
  have HB3 := hid (bel HB2.out hb3)
  clear iG HB2 hb3 
  cases cb with
  | false =>
   have HP : Hid (P = (lJ.xH, [])) := by show _ = _; rw [hP1, uX (by rw [hcut])]; rfl
   have HR : Hid (er = 2) := by show _ = _; rw [kU, uX (by rw [hcut])]; rfl
   clear hP1 kU hcut hcl hLs
   go_wp2_with (refine aO jd.out ⟨#[]⟩ ⟨#[]⟩ none 0 0 (.tmp 2) (.tmp 27) rfl rfl rfl rfl ?_)
   try simp only [Exit.inBlock, Exit.then]
   exact bodyPost_ret (w := World.setRow w3 (w.heap.size + 1) #[.string ⟨#[]⟩, .string ⟨#[]⟩, .slice none 0 0]) (fU rfl (bV jd.out _ _ _) (.slice none 0 0) (.int .i64 2) _ rfl rfl rfl) rfl ⟨by rw [HP.out, HR.out]; exact Eu rfl, below_setRow HB3.out (by omega) _⟩
  | true =>
   rw [L9 hcut] at hP1 kU
   obtain ⟨H, hH⟩ : ∃ H, H = Lib.trimS H0 ws := ⟨_, rfl⟩
   obtain ⟨B, hB⟩ : ∃ B, B = pO.dec R0 := ⟨_, rfl⟩
   rw [← hH, ← hB] at hP1 kU
   have hHl : H.length ≤ 500000 := by rw [hH]; have := ML ws H0; omega
   have hBl : B.length ≤ 500000 := by rw [hB]; have := pO.lu R0; omega
   obtain ⟨SH, hSH⟩ : ∃ S, S = strOf H := ⟨_, rfl⟩
   have hSd : SH.data.toList = H := by rw [hSH]; rfl
   have hSs : SH.size ≤ 500000 := by rw [hSH, ah]; exact hHl
   have HTS : Hid (∀ w : World, Calls Tryz.prog 31 #[.string (strOf H0), .string ⟨#[9, 10, 12, 13, 32]⟩] w fun e w' => e = .returned (.string SH) ∧ Below w.heap.size w w') := fun w => by
    have h := Tryz.strings_Trim_set (strOf H0) ⟨#[9, 10, 12, 13, 32]⟩ w (by rw [ah]; omega) (by decide) (ascii_of_all (by decide))
    rw [show (strOf H0).data.toList = H0 from rfl, show (⟨#[9, 10, 12, 13, 32]⟩ : ByteArray).data.toList = ws from rfl, ← hH] at h
    rw [hSH]
    exact h
   have Yd : Hid (∀ w : World, Calls Tryz.prog 32 #[.string (strOf R0)] w fun e w' => ∃ v, e = .returned v ∧ w'.ownsRow w.heap.size 5 1 v B.length (ak B) ∧ Below w.heap.size w w') := fun w => by
    rw [hB]
    exact pO.decode_any (strOf R0) w (by rw [ah]; omega)
   have HUN : Hid (∀ w : World, Calls Tryz.prog 33 #[.string SH] w fun e w' => (∃ X, e = .returned (.tuple #[.string X, .bool (FY H)]) ∧ (FY H = true → X = strOf (JK H))) ∧ Below w.heap.size w w') := fun w => by
    have h := Wi SH w (by omega)
    rw [hSd] at h
    exact h
   obtain ⟨ib, hib⟩ : ∃ x, x = FY H := ⟨_, rfl⟩
   rw [← hib] at HUN hP1 kU
   have HTY : Hid (∀ (s : ByteArray) (w : World), s.size ≤ 1000000 → Calls Tryz.prog 35 #[.string s] w fun e w' => MtA (typ s.data.toList) e w' ∧ Below w.heap.size w w') := fun s w h => V9 s w h
   have hul : (JK H).length ≤ 500000 := by have := unB_len H; omega
   have iM := hid hBl
   clear hcut hcl hLs hH hB hSH hib hHl hBl
   go_wp2_with fail
   refine (HTS.out _).mono ?_
   rintro e w4 ⟨rfl, hb4⟩
   clear HTS
   have mQ : Hid (Z3 29 w4 (w.heap.size + 1)) := B3.below jd.out hb4
   have HB4 := hid (bel HB3.out hb4)
   clear jd HB3 hb4 
   go_wp2_with fail
   refine (Yd.out _).mono ?_
   rintro e w5 ⟨v5, rfl, hown, hb5⟩
   obtain ⟨A5, c5, rfl, m1, m2, hr5⟩ := bZ hown
   clear Yd hown
   have F5 : Hid (Z3 29 w5 (w.heap.size + 1)) := B3.below mQ.out hb5
   have mO := hid (bel HB4.out hb5)
   clear mQ HB4 hb5 
   have HD5 := hid hr5
   clear hr5
   go_wp2_with fail
   refine (HUN.out _).mono ?_
   rintro e w6 ⟨⟨X6, rfl, hX6⟩, hb6⟩
   have HX6e := hid hX6
   clear HUN hX6
   have Nh : Hid (Z3 29 w6 (w.heap.size + 1)) := B3.below F5.out hb6
   have sW := hid (bel mO.out hb6)
   have HD6 := hid (HD5.out.below hb6)
   clear F5 mO hb6 HD5
   cases ib with
   | true =>
    rw [if_pos rfl] at hP1 kU
    obtain rfl : X6 = strOf (JK H) := HX6e.out rfl
    clear HX6e
    have hs6 := aQ (P := Tryz.prog) 30 9 5 Tryz.underlying30 Tryz.underlying5 Tryz.underlying9 _ c5 HD6.out
    obtain ⟨SB, hSB⟩ : ∃ S, S = strOf B := ⟨_, rfl⟩
    rw [← hSB] at hs6
    obtain ⟨ok, hok⟩ : ∃ x, x = Aw.pY B := ⟨_, rfl⟩
    obtain ⟨D, hD⟩ : ∃ x, x = Aw.dB B := ⟨_, rfl⟩
    have HBD : Hid (∀ w : World, Calls Tryz.prog 34 #[.string SB] w fun e w' => ∃ v, e = .returned (.tuple #[v, .bool ok]) ∧ w'.ownsRow w.heap.size 5 1 v D.length (ak D) ∧ Below w.heap.size w w') := fun w => by
     have h := Aw.decode_any SB w (by rw [hSB, ah]; have := iM.out; omega)
     rw [show SB.data.toList = B by rw [hSB]; rfl, ← hok, ← hD] at h
     exact h
    rw [← hok, ← hD] at hP1
    rw [← hok] at kU
    clear hSB hok hD
    go_wp2_with fail
    clear hs6
    refine (HBD.out _).mono ?_
    rintro e w7 ⟨v7, rfl, hown, hb7⟩
    obtain ⟨A7, c7, rfl, l1, l2, hr7⟩ := bZ hown
    clear HBD hown HD6
    have xR : Hid (Z3 29 w7 (w.heap.size + 1)) := B3.below Nh.out hb7
    have rD := hid (bel sW.out hb7)
    clear Nh sW hb7 
    have HD7 := hid hr7
    clear hr7
    cases ok with
    | false =>
     have HP : Hid (P = (lJ.xH, [])) := by show _ = _; rw [hP1]; rfl
     have HR : Hid (er = 2) := by show _ = _; rw [kU]; rfl
     clear hP1 kU HTY
     go_wp2_with (refine aO xR.out ⟨#[]⟩ ⟨#[]⟩ none 0 0 (.tmp 2) (.tmp 46) rfl rfl rfl rfl ?_)
     try simp only [Exit.inBlock, Exit.then]
     exact bodyPost_ret (w := World.setRow w7 (w.heap.size + 1) #[.string ⟨#[]⟩, .string ⟨#[]⟩, .slice none 0 0]) (fU rfl (bV xR.out _ _ _) (.slice none 0 0) (.int .i64 2) _ rfl rfl rfl) rfl ⟨by rw [HP.out, HR.out]; exact Eu rfl, below_setRow rD.out (by omega) _⟩
    | true =>
     have HP : Hid (P = (typ (JK H), D)) := by show _ = _; rw [hP1]; rfl
     have HR : Hid (er = 0) := by show _ = _; rw [kU]; rfl
     clear hP1 kU
     have HT2 : Hid (∀ w : World, Calls Tryz.prog 35 #[.string (strOf (JK H))] w fun e w' => MtA (typ (JK H)) e w' ∧ Below w.heap.size w w') := fun w => HTY.out (strOf (JK H)) w (by rw [ah]; omega)
     clear HTY
     go_wp2_with fail
     refine (HT2.out _).mono ?_
     rintro e w8 ⟨⟨Am, cm, rfl, j1, j2, hpm⟩, hb8⟩
     have PW : Hid (Z3 29 w8 (w.heap.size + 1)) := B3.below xR.out hb8
     have PO := hid (bel rD.out hb8)
     have HD8 := hid (HD7.out.below hb8)
     clear xR rD hb8 HD7
     have Uc := hid hpm
     clear hpm HT2
     go_wp2_with (refine aO PW.out (strOf (typ (JK H)).ty) (strOf (typ (JK H)).sub) Am (typ (JK H)).ps.length cm (.tmp 2) (.tmp 50) rfl rfl rfl rfl ?_)
     try simp only [Exit.inBlock, Exit.then]
     exact bodyPost_ret (w := World.setRow w8 (w.heap.size + 1) #[.string (strOf (typ (JK H)).ty), .string (strOf (typ (JK H)).sub), .slice Am (typ (JK H)).ps.length cm]) (fU rfl (bV PW.out _ _ _) (.slice A7 D.length c7) (.int .i64 0) _ rfl rfl rfl) rfl ⟨by rw [HP.out, HR.out]; exact ⟨Am, cm, A7, c7, rfl, j1, j2, bI (aY _ (fD _)) Uc.out PW.out _, l1, l2, XJ HD8.out PW.out _⟩, below_setRow PO.out (by omega) _⟩
   | false =>
    rw [if_neg (show ¬ (false = true) by decide)] at hP1 kU
    clear HX6e
    have HP : Hid (P = (typ H, B)) := by show _ = _; rw [hP1]; rfl
    have HR : Hid (er = 0) := by show _ = _; rw [kU]; rfl
    clear hP1 kU
    have HT2 : Hid (∀ w : World, Calls Tryz.prog 35 #[.string SH] w fun e w' => MtA (typ H) e w' ∧ Below w.heap.size w w') := fun w => by
     have h := HTY.out SH w (by omega)
     rw [hSd] at h
     exact h
    clear HTY
    go_wp2_with fail
    refine (HT2.out _).mono ?_
    rintro e w7 ⟨⟨Am, cm, rfl, j1, j2, hpm⟩, hb7⟩
    have xR : Hid (Z3 29 w7 (w.heap.size + 1)) := B3.below Nh.out hb7
    have rD := hid (bel sW.out hb7)
    have HD7 := hid (HD6.out.below hb7)
    clear Nh sW hb7 HD6
    have Uc := hid hpm
    clear hpm HT2
    go_wp2_with (refine aO xR.out (strOf (typ H).ty) (strOf (typ H).sub) Am (typ H).ps.length cm (.tmp 2) (.tmp 50) rfl rfl rfl rfl ?_)
    try simp only [Exit.inBlock, Exit.then]
    exact bodyPost_ret (w := World.setRow w7 (w.heap.size + 1) #[.string (strOf (typ H).ty), .string (strOf (typ H).sub), .slice Am (typ H).ps.length cm]) (fU rfl (bV xR.out _ _ _) (.slice A5 B.length c5) (.int .i64 0) _ rfl rfl rfl) rfl ⟨by rw [HP.out, HR.out]; exact ⟨Am, cm, A5, c5, rfl, j1, j2, bI (aY _ (fD _)) Uc.out xR.out _, m1, m2, XJ HD7.out xR.out _⟩, below_setRow rD.out (by omega) _⟩
 ·
  have q1 : ((strOf u.aj).toList == [100, 97, 116, 97]) = false := by rw [aK, beq_eq_false_iff_ne]; exact hs
  have q2 : ¬ (strOf u.aj).toList = [100, 97, 116, 97] := by rw [aK]; exact hs
  have HP : Hid (P = (lJ.xH, [])) := by show _ = _; rw [hP]; unfold ans; rw [if_neg hs]
  have HR : Hid (er = 1) := by show _ = _; rw [her]; unfold err; rw [if_neg hs]
  clear hP her hs hL Qh HM
  go_enter Tryz.func13, Tryz.ntmps13
  go_upto_region 1 with (fail)
  generalize hw : World.alloc (World.alloc w _) _ = w1
  have h1 : UB w1 w.heap.size u (.slice A n c) ∧ Z3 29 w1 (w.heap.size + 1) ∧ Below w.heap.size w w1 := by
   subst hw
   exact tZ.laid2 w _ _ _ _
  clear hw
  have HU1 := hid h1.1
  have jr := hid h1.2.1
  have HB1 := hid h1.2.2
  clear h1
  obtain ⟨d0, d1, d2, d3, d4, d5, d6, d7, d8, d9, d10, d11, d12⟩ := HU1.out.facts
  go_wp2_with (refine aO jr.out ⟨#[]⟩ ⟨#[]⟩ none 0 0 (.tmp 2) (.tmp 16) rfl rfl rfl rfl ?_)
  try simp only [Exit.inBlock, Exit.then]
  exact bodyPost_ret (w := World.setRow w1 (w.heap.size + 1) #[.string ⟨#[]⟩, .string ⟨#[]⟩, .slice none 0 0]) (fU rfl (bV jr.out _ _ _) (.slice none 0 0) (.int .i64 1) _ rfl rfl rfl) rfl ⟨by rw [HP.out, HR.out]; exact Eu rfl, below_setRow HB1.out (by omega) _⟩
end Go.Proofs.YtcfgioklgmlclaaGreatDoor.X7
namespace Go.Proofs.YtcfgioklgmlclaaGreatDoor.aaE
open Go.RowKit Base eX fE MX aJ pO Gy nV qL xu aad Aw B64G X9 MV aaP
def unr (c : UInt8) : Bool := letter c.toNat || digit c.toNat || [45, 46, 95, 126].contains c
def e1 (c : UInt8) : List UInt8 := if unr c = true then [c] else [37, ru (c.toNat / 16), ru (c.toNat % 16)]
def FX (b : List UInt8) : List UInt8 := b.flatMap e1
def zO : List UInt8 := 59 :: CQ
def Ti (letters : Bool) (b : List UInt8) : List UInt8 := if letters = true then zO ++ 44 :: e64 b else 44 :: FX b
def Ag (letters : Bool) (ty sub : List UInt8) (ps : PL) (b : List UInt8) : List UInt8 := dX ty sub ps ++ Ti letters b
def made (letters : Bool) (ty sub : List UInt8) (ps : PL) (b : List UInt8) : List UInt8 := xO ++ Ag letters ty sub ps b
def vch (c : UInt8) : Bool := decide (32 ≤ c.toNat ∧ c.toNat ≤ 126 ∧ c ≠ 35 ∧ c ≠ 44 ∧ c ≠ 63)
def Zm (L : List UInt8) : Bool := L.all fun c => decide (c ≠ 35)
def Vw (ps : PL) : Bool := ps.all fun p => decide (p.1 ≠ CQ) && (Zm p.1 && p.2.all vch)
def BD (ty sub : List UInt8) (ps : PL) : Bool := gy ty sub ps && (Zm (ty ++ sub) && Vw ps)
theorem H9 : ∀ b : List UInt8, dec (FX b) = b
 | [] => kK
 | c :: b => by
  have e : FX (c :: b) = e1 c ++ FX b := by simp [FX]
  rw [e]
  unfold e1
  split
  ·rename_i h
   have hc : c ≠ 37 := by rintro rfl; revert h; decide
   rw [List.cons_append, List.nil_append, kC _ _ (Dk c _ hc), H9 b]
  ·show dec (37 :: ru (c.toNat / 16) :: ru (c.toNat % 16) :: FX b) = _
   rw [uI _ _ c (Xa c (FX b))]
   show c :: dec (FX b) = _
   rw [H9 b]
theorem abv : ∀ L : List UInt8, (∀ c ∈ L, c ≠ 37) → dec L = L
 | [], _ => kK
 | c :: L, h => by rw [kC _ _ (Dk c _ (h c (by simp))), abv L fun d hd => h d (by simp [hd])]
def Gd (c : UInt8) : Prop := 33 ≤ c.toNat ∧ c.toNat ≤ 126 ∧ c ≠ 35 ∧ c ≠ 44 ∧ c ≠ 63
instance (c : UInt8) : Decidable (Gd c) := by unfold Gd; infer_instance
theorem e1_good (c : UInt8) : ∀ d ∈ e1 c, Gd d := by
 have h := eH (p := fun c => ∀ d ∈ e1 c, Gd d) (by decide +kernel) c
 exact h
theorem YN (b : List UInt8) : ∀ d ∈ FX b, Gd d := by
 intro d hd
 obtain ⟨c, _, h⟩ := List.mem_flatMap.1 hd
 exact e1_good c d h
theorem QU (b : List UInt8) : ∀ d ∈ e64 b, Gd d ∧ d ≠ 37 := by
 intro d hd
 rw [(oq b).1] at hd
 rcases List.mem_append.1 hd with h | h
 ·obtain ⟨k, hk, rfl⟩ := CW b d h
  have H : ∀ k : Fin 64, Gd (aT k.val) ∧ aT k.val ≠ 37 := by decide +kernel
  exact H ⟨k, hk⟩
 ·rw [(List.mem_replicate.1 h).2]
  decide
theorem ZU (letters : Bool) (b : List UInt8) : ∃ X R, Ti letters b = X ++ 44 :: R ∧ (∀ d ∈ X, Gd d) ∧ ∀ d ∈ R, Gd d := by
 unfold Ti
 cases letters with
 | true => exact ⟨zO, e64 b, by simp, by decide, fun d hd => (QU b d hd).1⟩
 | false => exact ⟨[], FX b, by simp, by simp, YN b⟩
theorem tch_vch (c : UInt8) (h : xJ c = true) (h2 : c ≠ 35) : Gd c :=
 eH (p := fun c => xJ c = true → c ≠ 35 → Gd c) (by decide +kernel) c h h2
theorem gd_vch {c : UInt8} (h : Gd c) : vch c = true := by
 unfold vch
 rw [decide_eq_true_iff]
 exact ⟨by have := h.1; omega, h.2⟩
theorem Pj {L : List UInt8} (h : cZ L = true) (h2 : Zm L = true) : ∀ c ∈ L, vch c = true := fun c hc =>
 gd_vch (tch_vch c (kR h hc) (by simpa using List.all_eq_true.1 h2 c hc))
theorem adB {v : List UInt8} (h : v.all vch = true) : ∀ c ∈ wK v, vch c = true := by
 have hv := List.all_eq_true.1 h
 unfold wK
 split
 ·exact hv
 ·intro c hc
  unfold qq qt at hc
  rcases List.mem_cons.1 hc with rfl | hc
  ·decide
  ·rcases List.mem_append.1 hc with hc | hc
   ·obtain ⟨d, hd, hm⟩ := List.mem_flatMap.1 hc
    unfold qe at hm
    split at hm
    ·rcases List.mem_cons.1 hm with rfl | hm
     ·decide
     ·rw [List.mem_singleton.1 hm]; exact hv d hd
    ·rw [List.mem_singleton.1 hm]; exact hv d hd
   ·rw [List.mem_singleton.1 hc]; decide
theorem XB : ∀ ps : PL, (∀ p ∈ ps, cZ p.1 = true) → Vw ps = true → ∀ c ∈ pps ps, vch c = true
 | [], _, _, c, hc => by rw [Gq] at hc; cases hc
 | p :: ps, ht, h, c, hc => by
  unfold Vw at h
  rw [List.all_cons, Bool.and_eq_true, Bool.and_eq_true, Bool.and_eq_true] at h
  rw [DV] at hc
  rcases List.mem_append.1 hc with hc | hc
  ·unfold Ja at hc
   rcases List.mem_cons.1 hc with rfl | hc
   ·decide
   ·rcases List.mem_append.1 hc with hc | hc
    ·exact Pj (ht p (by simp)) h.1.2.1 c hc
    ·rcases List.mem_cons.1 hc with rfl | hc
     ·decide
     ·exact adB h.1.2.2 c hc
  ·exact XB ps (fun q hq => ht q (by simp [hq])) h.2 c hc
theorem BI {ty sub : List UInt8} {ps : PL} (h : gy ty sub ps = true) : cZ ty = true ∧ cZ sub = true ∧ ∀ p ∈ ps, cZ p.1 = true := by
 unfold gy at h
 rw [Bool.and_eq_true, Bool.and_eq_true] at h
 refine ⟨(lH h.1).1, (lH h.2.1).1, fun p hp => ?_⟩
 obtain ⟨k, hk, rfl⟩ := List.getElem_of_mem hp
 have := yT h.2.2 k hk
 unfold xI at this
 rw [List.getElem?_eq_getElem hk] at this
 simp only [Bool.and_eq_true] at this
 exact (lH this.1).1
theorem L8 {ty sub : List UInt8} {ps : PL} (h : BD ty sub ps = true) : ∀ c ∈ dX ty sub ps, vch c = true := by
 unfold BD at h
 rw [Bool.and_eq_true, Bool.and_eq_true] at h
 obtain ⟨h1, h2, h3⟩ := BI h.1
 have hn : Zm ty = true ∧ Zm sub = true := by
  have := h.2.1
  unfold Zm at this
  rw [List.all_append, Bool.and_eq_true] at this
  exact this
 intro c hc
 unfold dX ess at hc
 rcases List.mem_append.1 hc with hc | hc
 ·rcases List.mem_append.1 hc with hc | hc
  ·exact Pj h1 hn.1 c hc
  ·rcases List.mem_cons.1 hc with rfl | hc
   ·decide
   ·exact Pj h2 hn.2 c hc
 ·exact XB ps h3 h.2.2 c hc
theorem MQ {c : UInt8} (h : vch c = true) : 32 ≤ c.toNat ∧ c.toNat ≤ 126 ∧ c ≠ 35 ∧ c ≠ 44 ∧ c ≠ 63 := by unfold vch at h; exact decide_eq_true_iff.1 h
theorem L6 {ty sub : List UInt8} {ps : PL} (h : gy ty sub ps = true) : (∃ A, dX ty sub ps = A ++ [34]) ∨ ∃ A s z, dX ty sub ps = A ++ s :: z ∧ (s = 47 ∨ s = 61) ∧ cZ z = true := by
 obtain ⟨h1, h2, h3⟩ := BI h
 rcases List.eq_nil_or_concat ps with rfl | ⟨qs, p, rfl⟩
 ·refine Or.inr ⟨ty, 47, sub, ?_, Or.inl rfl, h2⟩
  unfold dX ess
  rw [Gq, List.append_nil]
 ·have e : dX ty sub (qs ++ [p]) = (dX ty sub qs ++ 59 :: p.1) ++ 61 :: wK p.2 := by
   unfold dX
   rw [Jc]
   unfold Ja
   simp
  rw [List.concat_eq_append, e]
  unfold wK
  split
  ·rename_i hv
   exact Or.inr ⟨_, 61, p.2, rfl, Or.inr rfl, hv⟩
  ·refine Or.inl ⟨dX ty sub qs ++ 59 :: p.1 ++ 61 :: 34 :: qt p.2, ?_⟩
   unfold qq
   simp
theorem FI {ty sub : List UInt8} {ps : PL} (h : gy ty sub ps = true) : ∃ c t, dX ty sub ps = c :: t ∧ xJ c = true := by
 obtain ⟨h1, -, -⟩ := BI h
 obtain ⟨c, t, rfl⟩ : ∃ c t, ty = c :: t := by
  cases ty with
  | nil => exact absurd rfl (zh h1)
  | cons c t => exact ⟨c, t, rfl⟩
 exact ⟨c, _, rfl, kR h1 (by simp)⟩
theorem acW (c : UInt8) (h : low c ∈ CQ) : xJ c = true ∧ c ≠ 34 ∧ c ≠ 47 ∧ c ≠ 61 := by
 have := eH (p := fun c => low c ∈ CQ → xJ c = true ∧ c ≠ 34 ∧ c ≠ 47 ∧ c ≠ 61) (by decide +kernel) c h
 exact this
theorem Xo {H : List UInt8} (h : FY H = true) : 6 ≤ H.length ∧ (∀ c ∈ H.drop (H.length - 6), low c ∈ CQ) ∧ Lib.hasSuffix (ahd H) [59] = true := by
 unfold FY at h
 rw [Bool.and_eq_true, Bool.and_eq_true, decide_eq_true_iff, decide_eq_true_iff] at h
 refine ⟨h.1, fun c hc => ?_, h.2.2⟩
 rw [← h.2.1]
 exact List.mem_map_of_mem hc
theorem ZT (L : List UInt8) (d c : UInt8) : Lib.hasSuffix (L ++ [d]) [c] = decide (d = c) := by
 rw [Bool.eq_iff_iff]
 unfold Lib.hasSuffix
 rw [List.isSuffixOf_iff_suffix, decide_eq_true_iff]
 constructor
 ·rintro ⟨t, e⟩
  exact (List.append_inj' e rfl).2 |> fun h => (List.cons.inj h).1.symm
 ·rintro rfl
  exact ⟨L, rfl⟩
theorem WI (A : List UInt8) (d : UInt8) (h1 : d ≠ 32) (h2 : d ≠ 59) : Lib.hasSuffix (Lib.trimRightS (A ++ [d]) [32]) [59] = false := by
 have : Lib.trimRightS (A ++ [d]) [32] = A ++ [d] := by
  show Pm [32] (A ++ [d]) = _
  rw [zi, if_neg (by simpa using h1)]
 rw [this, ZT]
 exact decide_eq_false h2
theorem Zd (A : List UInt8) : FY (A ++ [34]) = false := by
 rw [Bool.eq_false_iff]
 intro h
 obtain ⟨h1, h2, -⟩ := Xo h
 rw [List.length_append] at h1
 have hle : (A ++ [34]).length - 6 ≤ A.length := by
  have e : (A ++ [34]).length = A.length + 1 := by simp
  omega
 have hm : (34 : UInt8) ∈ (A ++ [34]).drop ((A ++ [34]).length - 6) := by
  rw [List.drop_append_of_le_length hle]
  exact List.mem_append_right _ (List.mem_singleton.2 rfl)
 exact (acW 34 (h2 34 hm)).2.1 rfl
theorem isB_sep (A z : List UInt8) (s : UInt8) (hs : s = 47 ∨ s = 61) (hz : cZ z = true) : FY (A ++ s :: z) = false := by
 rw [Bool.eq_false_iff]
 intro h
 obtain ⟨h1, h2, h3⟩ := Xo h
 have hl : (A ++ s :: z).length = A.length + (z.length + 1) := by simp
 by_cases h6 : 6 ≤ z.length
 ·unfold ahd at h3
  have ht : (A ++ s :: z).take ((A ++ s :: z).length - 6) = A ++ s :: z.take (z.length - 6) := by
   rw [hl, show A.length + (z.length + 1) - 6 = A.length + (z.length - 6 + 1) by omega, List.take_length_add_append, List.take_succ_cons]
  rw [ht] at h3
  rcases List.eq_nil_or_concat (z.take (z.length - 6)) with e | ⟨N, d, e⟩
  ·rw [e, WI A s (by rcases hs with rfl | rfl <;> decide) (by rcases hs with rfl | rfl <;> decide)] at h3
   cases h3
  ·rw [List.concat_eq_append] at e
   have hd : xJ d = true := kR hz (List.mem_of_mem_take (i := z.length - 6) (by rw [e]; simp))
   have hd2 := lI d hd
   have hd3 : d ≠ 32 := fun e => hd2.1 (by rw [e]; decide)
   rw [e, show A ++ s :: (N ++ [d]) = (A ++ s :: N) ++ [d] by simp, WI _ d hd3 hd2.2.2.2.1] at h3
   cases h3
 ·have hm : s ∈ (A ++ s :: z).drop ((A ++ s :: z).length - 6) := by
   rw [List.drop_append_of_le_length (by rw [hl]; omega)]
   simp
  have := acW s (h2 s hm)
  rcases hs with rfl | rfl
  ·exact this.2.2.1 rfl
  ·exact this.2.2.2 rfl
theorem Zc {ty sub : List UInt8} {ps : PL} (h : gy ty sub ps = true) : FY (dX ty sub ps) = false := by
 rcases L6 h with ⟨A, e⟩ | ⟨A, s, z, e, hs, hz⟩
 ·rw [e]; exact Zd A
 ·rw [e]; exact isB_sep A z s hs hz
theorem Xn (P : List UInt8) : FY (P ++ zO) = true ∧ JK (P ++ zO) = P := by
 have hl : (P ++ zO).length - 6 = (P ++ [59]).length := by simp [zO, CQ]
 have e : P ++ zO = (P ++ [59]) ++ CQ := by simp [zO]
 have ha : ahd (P ++ zO) = P ++ [59] := by
  unfold ahd
  rw [hl, e, List.take_left]
  show Pm [32] (P ++ [59]) = _
  rw [zi, if_neg (by decide)]
 constructor
 ·unfold FY
  rw [ha, ZT, hl, e, List.drop_left, decide_eq_true (by simp [CQ]), decide_eq_true (by decide)]
  rfl
 ·unfold JK
  rw [ha]
  unfold Lib.trimSuffix
  rw [ZT, decide_eq_true rfl, if_pos rfl]
  simp
theorem Tn (C L : List UInt8) (h1 : ∀ c t, L = c :: t → C.contains c = false) (h2 : ∀ M c, L = M ++ [c] → C.contains c = false) : Lib.trimS L C = L := by
 rw [JI]
 have e1 : tlS C L = L := by
  cases L with
  | nil => rfl
  | cons c t => rw [JF, h1 c t rfl]; rfl
 rw [e1]
 rcases List.eq_nil_or_concat L with rfl | ⟨M, c, rfl⟩
 ·rfl
 ·rw [List.concat_eq_append, zi, h2 M c (List.concat_eq_append)]
  rfl
theorem ad1 (c : UInt8) (h : xJ c = true) : ws.contains c = false := eH (p := fun c => xJ c = true → ws.contains c = false) (by decide +kernel) c h
theorem UO {A L M : List UInt8} {c d : UInt8} (e : A ++ [d] = M ++ [c]) : d = c := by
 have := List.append_inj_right' e rfl
 exact (List.cons.inj this).1
theorem aez (letters : Bool) {ty sub : List UInt8} {ps : PL} (b : List UInt8) (h : BD ty sub ps = true) : proc (Ag letters ty sub ps b) = some (⟨ty, sub, ps⟩, b) := by
 have hr : gy ty sub ps = true := by unfold BD at h; rw [Bool.and_eq_true] at h; exact h.1
 have hv := L8 h
 obtain ⟨c, t, hb, hc⟩ := FI hr
 obtain ⟨P, hP⟩ : ∃ P, P = dX ty sub ps := ⟨_, rfl⟩
 rw [← hP] at hv hb
 have hP44 : ∀ x ∈ P, x ≠ 44 := fun x hx => (MQ (hv x hx)).2.2.2.1
 have hty : typ P = ⟨ty, sub, ps⟩ := by
  have : iK P = P := by
   unfold iK
   rw [hb]
   have : Lib.hasPrefix (c :: t) [59] = false := by
    have := (lI c hc).2.2.2.1
    unfold Lib.hasPrefix
    simp [List.isPrefixOf, Ne.symm this]
   rw [this]
   rfl
  unfold typ
  rw [this, hP, Bl hr]
  rfl
 have hcw := ad1 c hc
 cases letters with
 | false =>
  have e : Ag false ty sub ps b = P ++ 44 :: FX b := by rw [hP]; rfl
  have et : Lib.trimS P ws = P := by
   refine Tn ws P (fun x y e => ?_) (fun M x e => ?_)
   ·rw [hb] at e
    rw [← (List.cons.inj e).1]
    exact hcw
   ·rcases L6 hr with ⟨A, e2⟩ | ⟨A, s, z, e2, hs, hz⟩
    ·rw [← hP] at e2
     rw [e2] at e
     rw [← UO (A := A) (L := []) e]
     decide
    ·rw [← hP] at e2
     rcases List.eq_nil_or_concat z with rfl | ⟨N, d, rfl⟩
     ·exact absurd rfl (zh hz)
     ·rw [List.concat_eq_append] at e2 hz
      rw [e2, show A ++ s :: (N ++ [d]) = (A ++ s :: N) ++ [d] by simp] at e
      rw [← UO (A := A ++ s :: N) (L := []) e]
      exact ad1 d (kR hz (by simp))
  unfold proc
  rw [e, oI 44 P (FX b) hP44, if_pos rfl]
  simp only
  rw [et, hP, Zc hr, ← hP, hty, H9]
  rfl
 | true =>
  have e : Ag true ty sub ps b = (P ++ zO) ++ 44 :: e64 b := by rw [hP]; simp [Ag, Ti]
  have hx : ∀ x ∈ P ++ zO, x ≠ 44 := by
   intro x hx
   rcases List.mem_append.1 hx with hx | hx
   ·exact hP44 x hx
   ·exact (by decide : ∀ x ∈ zO, x ≠ 44) x hx
  have et : Lib.trimS (P ++ zO) ws = P ++ zO := by
   refine Tn ws _ (fun x y e => ?_) (fun M x e => ?_)
   ·rw [hb] at e
    rw [← (List.cons.inj e).1]
    exact hcw
   ·rw [show P ++ zO = (P ++ [59, 98, 97, 115, 101, 54]) ++ [52] by simp [zO, CQ]] at e
    rw [← UO (A := P ++ [59, 98, 97, 115, 101, 54]) (L := []) e]
    decide
  have hd : dec (e64 b) = e64 b := abv _ fun x hx => (QU b x hx).2
  obtain ⟨k1, k2⟩ := back b (e64 b) (aaf b)
  unfold proc
  rw [e, oI 44 _ (e64 b) hx, if_pos rfl]
  simp only
  rw [et, (Xn P).1, (Xn P).2, if_pos rfl, hd, k1, if_pos rfl, k2, hty]
def uM (rest : List UInt8) : aH.U := { aH.U0 with aj := DATA, port := -1, opq := true, txt := rest }
theorem ZF (letters : Bool) {ty sub : List UInt8} {ps : PL} (b : List UInt8) (h : BD ty sub ps = true) : (∀ c ∈ Ag letters ty sub ps b, 32 ≤ c.toNat ∧ c.toNat ≤ 126 ∧ c ≠ 35 ∧ c ≠ 63) ∧ ∃ M d, Ag letters ty sub ps b = M ++ [d] ∧ d ≠ 32 := by
 obtain ⟨X, R, e, hX, hR⟩ := ZU letters b
 have hv := L8 h
 unfold Ag
 rw [e]
 constructor
 ·intro c hc
  rcases List.mem_append.1 hc with hc | hc
  ·have := MQ (hv c hc)
   exact ⟨this.1, this.2.1, this.2.2.1, this.2.2.2.2⟩
  ·rcases List.mem_append.1 hc with hc | hc
   ·have := hX c hc
    exact ⟨by have := this.1; omega, this.2.1, this.2.2.1, this.2.2.2.2⟩
   ·rcases List.mem_cons.1 hc with rfl | hc
    ·decide
    ·have := hR c hc
     exact ⟨by have := this.1; omega, this.2.1, this.2.2.1, this.2.2.2.2⟩
 ·rcases List.eq_nil_or_concat R with rfl | ⟨N, d, rfl⟩
  ·exact ⟨dX ty sub ps ++ X, 44, by simp, by decide⟩
  ·refine ⟨dX ty sub ps ++ X ++ 44 :: N, d, by simp, ?_⟩
   rintro rfl
   have := hR 32 (by simp)
   exact absurd this.1 (by decide)
theorem UH {T : List UInt8} (h : ∀ c ∈ T, 32 ≤ c.toNat ∧ c.toNat ≤ 126) (h1 : ∃ c t, T = c :: t ∧ c ≠ 32) (h2 : ∃ M d, T = M ++ [d] ∧ d ≠ 32) : aH.clean T = T := by
 have hl : ∀ c ∈ T, c ≠ 32 → aH.eU c = false := by
  intro c hc hn
  have := (h c hc).1
  unfold aH.eU
  rw [decide_eq_false_iff_not]
  intro h3
  exact hn (UInt8.toNat_inj.1 (by show c.toNat = 32; omega))
 have e : ED T = T := mM T fun c hc => by have := (h c hc).2; omega
 have et : aH.nI T = T := by
  obtain ⟨c, t, e1, hc⟩ := h1
  obtain ⟨M, d, e2, hd⟩ := h2
  have a1 : T.dropWhile aH.eU = T := by rw [e1, List.dropWhile_cons_of_neg (by rw [hl c (by rw [e1]; simp) hc]; simp)]
  have a2 : T.reverse.dropWhile aH.eU = T.reverse := by
   rw [e2, List.reverse_append]
   show (d :: M.reverse).dropWhile aH.eU = _
   rw [List.dropWhile_cons_of_neg (by rw [hl d (by rw [e2]; simp) hd]; simp)]
   rfl
  unfold aH.nI
  rw [a1, a2, List.reverse_reverse]
 rw [oZ, e, et, List.filter_eq_self.2 fun c hc => ?_]
 have := (h c hc).1
 unfold aH.brk
 have h9 : c ≠ 9 := by rintro rfl; revert this; decide
 have h10 : c ≠ 10 := by rintro rfl; revert this; decide
 have h13 : c ≠ 13 := by rintro rfl; revert this; decide
 simp [h9, h10, h13]
theorem inS0 (c : UInt8) (h : 32 ≤ c.toNat ∧ c.toNat ≤ 126) : jO 0 c.toNat = false := eH (p := fun c => 32 ≤ c.toNat ∧ c.toNat ≤ 126 → jO 0 c.toNat = false) (by decide +kernel) c h
theorem TD {R : List UInt8} (h : ∀ c ∈ R, 32 ≤ c.toNat ∧ c.toNat ≤ 126 ∧ c ≠ 35 ∧ c ≠ 63) (h1 : ∃ c t, R = c :: t ∧ c ≠ 47) (h2 : ∃ M d, R = M ++ [d] ∧ d ≠ 32) : aH.url (xO ++ R) none = some (uM R) := by
 have hT : ∀ c ∈ xO ++ R, 32 ≤ c.toNat ∧ c.toNat ≤ 126 ∧ c ≠ 35 ∧ c ≠ 63 := by
  intro c hc
  rcases List.mem_append.1 hc with hc | hc
  ·exact (by decide : ∀ c ∈ xO, 32 ≤ c.toNat ∧ c.toNat ≤ 126 ∧ c ≠ 35 ∧ c ≠ 63) c hc
  ·exact h c hc
 have ec : aH.clean (xO ++ R) = xO ++ R := by
  obtain ⟨M, d, e, hd⟩ := h2
  exact UH (fun c hc => ⟨(hT c hc).1, (hT c hc).2.1⟩) ⟨100, _, rfl, by decide⟩ ⟨xO ++ M, d, by rw [e]; simp, hd⟩
 have ea : aH.apart (xO ++ R) = ⟨DATA, R, [], [], false, false⟩ := by
  unfold aH.apart
  rw [kJ 35 _ fun c hc => (hT c hc).2.2.1]
  simp only
  rw [kJ 63 _ fun c hc => (hT c hc).2.2.2]
  simp only
  rw [show xO ++ R = DATA ++ 58 :: R from rfl, oI 58 DATA R (by decide)]
  rw [show (true && aH.kZ DATA) = true from by decide, if_pos rfl]
  rfl
 obtain ⟨c, t, e, hc⟩ := h1
 have p2 : Lib.hasPrefix R [47, 47] = false := by
  rw [e]
  unfold Lib.hasPrefix
  simp [List.isPrefixOf, Ne.symm hc]
 have p1 : Lib.hasPrefix R [47] = false := by
  rw [e]
  unfold Lib.hasPrefix
  simp [List.isPrefixOf, Ne.symm hc]
 have eo : aH.opq false R = R := by
  unfold aH.opq
  rw [oK 0 R fun c hc => inS0 c ⟨(h c hc).1, (h c hc).2.1⟩]
  simp
 unfold aH.url
 rw [ec, ea]
 unfold aH.resolve aH.plain
 dsimp only
 rw [if_neg (show ¬ DATA = aH.FILE by decide), if_neg (show ¬ ng.special DATA = true by decide), if_pos (show DATA ≠ [] by decide)]
 rw [p2, p1]
 simp only [Bool.false_eq_true, if_false, Bool.or_self, Option.map_some]
 rw [eo]
 rfl
theorem acI (letters : Bool) {ty sub : List UInt8} {ps : PL} (b : List UInt8) (h : BD ty sub ps = true) : aH.url (made letters ty sub ps b) none = some (uM (Ag letters ty sub ps b)) := by
 obtain ⟨g1, g2⟩ := ZF letters b h
 have hr : gy ty sub ps = true := by unfold BD at h; rw [Bool.and_eq_true] at h; exact h.1
 obtain ⟨c, t, hb, hc⟩ := FI hr
 refine TD g1 ⟨c, t ++ Ti letters b, by unfold Ag; rw [hb]; rfl, (lI c hc).2.2.1⟩ g2
end Go.Proofs.YtcfgioklgmlclaaGreatDoor.aaE
