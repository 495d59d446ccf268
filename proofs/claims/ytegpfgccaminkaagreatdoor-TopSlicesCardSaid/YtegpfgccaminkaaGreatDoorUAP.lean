/- Texts that belong together: StoI, StoK, FetA, SpnP, SpnA, SpnB, SpnC. -/
import Derived.Test.YtegpfgccaminkaaGreatDoorUAC
import Derived.Test.YtegpfgccaminkaaGreatDoorUAF
import Derived.BigQuiet
import Derived.Deep.QuietTactic
import Derived.Deep.WholeRow
import Derived.Defers
import Derived.Recover
import Derived.Lib.SlTrimSet
import Derived.Test.YtegpfgccaminkaaGreatDoorUAA
import Derived.Test.YtegpfgccaminkaaGreatDoorShelf
import Derived.Laws.Rows
set_option linter.unusedSimpArgs false
set_option linter.unusedVariables false
namespace Go.Proofs.YtegpfgccaminkaaGreatDoor.StoI
open Go.RowKit Base Base2 Base3 Regs TbK StoG OrgA Ubx LdA
set_option linter.unusedSimpArgs false
set_option linter.unusedVariables false
theorem ob_load {w : World} {g : Nat} {s h : ByteArray} {p n : Int} (x : OB w g s h p n) : (loadVar 32 ⟨g, 0, none⟩).run Tryz.prog w = .ok (.agg #[.string s, .string h, .int .i64 p, .int .i64 n]) w :=
 run_loadVar_row w g _ _ #[.string s, .string h, .int .i64 p, .int .i64 n] (0, 0) _ x Tryz.underlying32 rfl (by kernel_rfl)
end Go.Proofs.YtegpfgccaminkaaGreatDoor.StoI
namespace Go.Proofs.YtegpfgccaminkaaGreatDoor.StoK
open Go.RowKit Base Base2 Base3 Regs TbK StoG StoI OrgA Ubx LdA
set_option linter.unusedSimpArgs false
set_option linter.unusedVariables false
theorem uv_load {w : World} {g : Nat} {uv : Array Value} (hs : uv.size = 13) (x : w.heap[g]? = some (.cells uv 52 (0, 0))) : (loadVar 52 ⟨g, 0, none⟩).run Tryz.prog w = .ok (.agg uv) w :=
 run_loadVar_row w g _ _ uv (0, 0) _ x Tryz.underlying52 rfl (by rw [hs]; kernel_rfl)
end Go.Proofs.YtegpfgccaminkaaGreatDoor.StoK
namespace Go.Proofs.YtegpfgccaminkaaGreatDoor.FetA
open Go.RowKit Base Base2 OrgA Ubx LdA StoI StoK
set_option linter.unusedSimpArgs false
set_option linter.unusedVariables false
theorem idle (p q : Addr) (w : World) : CallsD Tryz.prog 83 #[.pointer (some p), .pointer (some q)] .returning w fun e u' w' => e = .returned (.tuple #[]) ∧ u' = .returning ∧ w' = w := by
 refine callsD_of_wpS Tryz.func83 rfl fun c₀ cs hu => ?_
 apply wpS_seq
 apply wpS_region
 simp [wpOpsS, go_sem, recoverD, hu, Tryz.ntmps83, Exit.thenS]
 refine wpS_cond (t := false) (by simp [Act.eval, Array.replicate]) ?_
 simp only [Bool.false_eq_true, if_false]
 refine wpS_of_wp (wp_skip ?_)
 cases c₀
 simp_all [bodyPostS, results, Tryz.results83]
theorem laid4 (w : World) (a b : Array Value) (x y : Value) (S1 S2 S3 S4 : TypeId) : ((((w.alloc (.cells a S1)).alloc (.cells b S2)).alloc (.cells #[x] S3)).alloc (.cells #[y] S4)).heap[w.heap.size]? = some (.cells a S1 (0, 0)) ∧ ((((w.alloc (.cells a S1)).alloc (.cells b S2)).alloc (.cells #[x] S3)).alloc (.cells #[y] S4)).heap[w.heap.size + 1]? = some (.cells b S2 (0, 0)) ∧ ((((w.alloc (.cells a S1)).alloc (.cells b S2)).alloc (.cells #[x] S3)).alloc (.cells #[y] S4)).heap[w.heap.size + 2]? = some (.cells #[x] S3 (0, 0)) ∧ ((((w.alloc (.cells a S1)).alloc (.cells b S2)).alloc (.cells #[x] S3)).alloc (.cells #[y] S4)).heap[w.heap.size + 3]? = some (.cells #[y] S4 (0, 0)) ∧ Below w.heap.size w ((((w.alloc (.cells a S1)).alloc (.cells b S2)).alloc (.cells #[x] S3)).alloc (.cells #[y] S4)) := by
 obtain ⟨w1, h1⟩ : ∃ x, x = w.alloc (.cells a S1) := ⟨_, rfl⟩
 obtain ⟨w2, h2⟩ : ∃ x, x = w1.alloc (.cells b S2) := ⟨_, rfl⟩
 obtain ⟨w3, h3⟩ : ∃ z, z = w2.alloc (.cells #[x] S3) := ⟨_, rfl⟩
 have s1 : w1.heap.size = w.heap.size + 1 := by rw [h1, World.size_alloc]
 have s2 : w2.heap.size = w.heap.size + 2 := by rw [h2, World.size_alloc, s1]
 have s3 : w3.heap.size = w.heap.size + 3 := by rw [h3, World.size_alloc, s2]
 have b1 : Below w.heap.size w w1 := by rw [h1]; exact (Below.refl _ _).alloc (Nat.le_refl _) _
 have b2 : Below w1.heap.size w1 w2 := by rw [h2]; exact (Below.refl _ _).alloc (Nat.le_refl _) _
 have b3 : Below w2.heap.size w2 w3 := by rw [h3]; exact (Below.refl _ _).alloc (Nat.le_refl _) _
 have b4 : Below w3.heap.size w3 (w3.alloc (.cells #[y] S4)) := (Below.refl _ _).alloc (Nat.le_refl _) _
 have e1 : w1.heap[w.heap.size]? = some (.cells a S1 (0, 0)) := by rw [h1]; exact heap_alloc_new w _
 have e2 : w2.heap[w.heap.size + 1]? = some (.cells b S2 (0, 0)) := by rw [h2, ← s1]; exact heap_alloc_new w1 _
 have e3 : w3.heap[w.heap.size + 2]? = some (.cells #[x] S3 (0, 0)) := by rw [h3, ← s2]; exact heap_alloc_new w2 _
 rw [← h1, ← h2, ← h3]
 refine ⟨?_, ?_, ?_, by rw [← s3]; exact heap_alloc_new w3 _, bel (bel (bel b1 b2) b3) b4⟩
 ·exact (b4.block _ (by omega)).trans ((b3.block _ (by omega)).trans ((b2.block _ (by omega)).trans e1))
 ·exact (b4.block _ (by omega)).trans ((b3.block _ (by omega)).trans e2)
 ·exact (b4.block _ (by omega)).trans e3
set_option maxRecDepth 100000 in
set_option maxHeartbeats 4000000 in
theorem find_stk (pv : Option Addr) (uv : Array Value) (huv : uv.size = 13) (s h : ByteArray) (p n : Int) (v : Option Addr) (b : Bool) (w : World)
  (HBL : Hid (∀ w', Below w.heap.size w w' → Calls Tryz.prog 18 #[.pointer pv, .agg uv, .agg #[.string s, .string h, .int .i64 p, .int .i64 n]] w' fun e w'' => e = .returned (.tuple #[.pointer v, .bool b]) ∧ Below w'.heap.size w' w'')) :
  Calls Tryz.prog 52 #[.iface 27 (.pointer pv), .agg uv, .agg #[.string s, .string h, .int .i64 p, .int .i64 n]] w fun e w' => e = .returned (.tuple #[.pointer v, .bool b]) ∧ Below w.heap.size w w' := by
 have hmf : ∀ (fn : Fn) (first cap : Array Value) (w : World), (Instr.makeFunc fn first cap).run Tryz.prog w = .ok (.func fn first cap) w := fun _ _ _ _ => rfl
 have HU := hid huv
 clear huv
 go_enter_defers Tryz.func52, Tryz.ntmps52
 go_upto_region 1 with (fail)
 generalize hwa : World.alloc (World.alloc (World.alloc (World.alloc w _) _) _) _ = v1
 have h1_ : v1.heap[w.heap.size]? = some (.cells uv 52 (0, 0)) ∧ OB v1 (w.heap.size + 1) s h p n ∧ v1.heap[w.heap.size + 2]? = some (.cells #[.pointer none] 47 (0, 0)) ∧ v1.heap[w.heap.size + 3]? = some (.cells #[.bool false] 4 (0, 0)) ∧ Below w.heap.size w v1 := by
  subst hwa
  exact laid4 w _ _ _ _ _ _ _ _
 clear hwa
 have HB1 := hid h1_.2.2.2.2
 have X3 := hid h1_.2.2.1
 have X4 := hid h1_.2.2.2.1
 have HLD : Hid ((loadVar 52 ⟨w.heap.size, 0, none⟩).run Tryz.prog v1 = .ok (.agg uv) v1) := uv_load HU.out h1_.1
 have HLE : Hid ((loadVar 32 ⟨w.heap.size + 1, 0, none⟩).run Tryz.prog v1 = .ok (.agg #[.string s, .string h, .int .i64 p, .int .i64 n]) v1) := ob_load h1_.2.1
 clear h1_
 go_wp2_with (first | refine load_as HLD.out (.tmp 4) rfl rfl rfl ?_ | refine load_as HLE.out (.tmp 5) rfl rfl rfl ?_)
 have hm : ∀ (k : Nat) (w : World), (method (k + 1) 27 (.pointer pv) "Blob").run Tryz.prog w = .ok (18, .pointer pv) w := fun k w => by kernel_rfl
 go_wp2_with fail
 refine (HBL.out _ HB1.out).mono ?_
 rintro e v2 ⟨rfl, hb2⟩
 have HB2 := hid (bel HB1.out hb2)
 have hx3 : v2.heap[w.heap.size + 1 + 1]? = some (.cells #[.pointer none] 47 (0, 0)) := (hb2.block _ (Array.getElem?_eq_some_iff.1 X3.out).1).trans X3.out
 have hx4 : v2.heap[w.heap.size + 1 + 1 + 1]? = some (.cells #[.bool false] 4 (0, 0)) := (hb2.block _ (Array.getElem?_eq_some_iff.1 X4.out).1).trans X4.out
 have c6 : v2.cell? ⟨w.heap.size + 1 + 1, 0, none⟩ = some (.pointer none) := cell_of_row v2 _ 0 _ _ _ hx3
 have c7 : v2.cell? ⟨w.heap.size + 1 + 1 + 1, 0, none⟩ = some (.bool false) := cell_of_row v2 _ 0 _ _ _ hx4
 have f6 : v2.frozen? ⟨w.heap.size + 1 + 1, 0, none⟩ = false := frozen_of_row v2 _ 0 _ _ hx3
 have f7 : v2.frozen? ⟨w.heap.size + 1 + 1 + 1, 0, none⟩ = false := frozen_of_row v2 _ 0 _ _ hx4
 have HB3 : Hid (Below w.heap.size w ((v2.setCell ⟨w.heap.size + 1 + 1, 0, none⟩ (.pointer v)).setCell ⟨w.heap.size + 1 + 1 + 1, 0, none⟩ (.bool b))) := (HB2.out.setCell (p := ⟨w.heap.size + 1 + 1, 0, none⟩) (by show w.heap.size ≤ w.heap.size + 1 + 1; omega) _).setCell (p := ⟨w.heap.size + 1 + 1 + 1, 0, none⟩) (by show w.heap.size ≤ w.heap.size + 1 + 1 + 1; omega) _
 have hne : ¬ w.heap.size + 1 + 1 = w.heap.size + 1 + 1 + 1 := by omega
 clear hb2 hx3 hx4 HLD HLE X3 X4
 go_wp2
 refine leaves_cons (f := 83) (args := #[.pointer (some ⟨w.heap.size + 1 + 1, 0, none⟩), .pointer (some ⟨w.heap.size + 1 + 1 + 1, 0, none⟩)]) (by simp) (by simp [go_sem]) ?_
 refine (idle _ _ _).mono ?_
 rintro e u' w'' ⟨rfl, rfl, rfl⟩
 simp [Leaves, settle, results, Tryz.results52, go_sem, c6, c7, f6, f7, hne]
 exact HB3.out
end Go.Proofs.YtegpfgccaminkaaGreatDoor.FetA
namespace Go.Proofs.YtegpfgccaminkaaGreatDoor.SpnP
open Go.RowKit Base UtfA
def sp : List UInt8 := [9, 32]
def pass (L : List UInt8) : List UInt8 := Lib.trimLeftS L sp
theorem pass_cons (c : UInt8) (L : List UInt8) : pass (c :: L) = if sp.contains c then pass L else c :: L := by
 unfold pass Lib.trimLeftS
 rw [List.dropWhile_cons]
theorem pass_len (L : List UInt8) : (pass L).length ≤ L.length := by
 unfold pass Lib.trimLeftS
 exact (List.dropWhile_sublist _).length_le
def nstep (n : Int) (c : UInt8) : Int := if 461168601842738790 < n then 4611686018427387904 else if 4611686018427387904 < n * 10 + ((c.toNat : Int) - 48) then 4611686018427387904 else n * 10 + ((c.toNat : Int) - 48)
def num (n : Int) : List UInt8 → Int × List UInt8
 | [] => (n, [])
 | c :: t => if digit c.toNat then num (nstep n c) t else (n, c :: t)
theorem digit_range (c : UInt8) (h : digit c.toNat = true) : 48 ≤ (c.toNat : Int) ∧ (c.toNat : Int) ≤ 57 := by
 unfold digit at h
 exact of_decide_eq_true h
theorem num_drop : ∀ (L : List UInt8) (n : Int), ∃ k, k ≤ L.length ∧ (num n L).2 = L.drop k
 | [], n => ⟨0, Nat.le_refl _, rfl⟩
 | c :: t, n => by
  rw [num]
  split
  ·obtain ⟨k, hk, e⟩ := num_drop t (nstep n c)
   exact ⟨k + 1, by simp; omega, by rw [e]; rfl⟩
  ·exact ⟨0, Nat.zero_le _, rfl⟩
theorem num_len (L : List UInt8) (n : Int) : (num n L).2.length ≤ L.length := by
 obtain ⟨k, _, e⟩ := num_drop L n
 rw [e, List.length_drop]
 omega
def cut (c : UInt8) : List UInt8 → List UInt8
 | [] => []
 | x :: t => if x = c then t else x :: t
def is (c : UInt8) : List UInt8 → Bool
 | [] => false
 | x :: _ => x == c
def bytesL : List UInt8 := [98, 121, 116, 101, 115]
def from_ (L : List UInt8) : List UInt8 := pass (cut 61 (pass (L.drop 5)))
def to_ (L : List UInt8) : List UInt8 := pass (cut 45 (pass (num 0 (from_ L)).2))
def hasNum (L : List UInt8) : Bool := decide ((num 0 L).2.length < L.length)
def okB (L : List UInt8) : Bool :=
 decide (5 ≤ L.length) && decide (UtfL.lower (L.take 5) = bytesL) && is 61 (pass (L.drop 5)) && is 45 (pass (num 0 (from_ L)).2) && (num 0 (to_ L)).2.isEmpty && (hasNum (from_ L) || hasNum (to_ L)) &&
  !(hasNum (from_ L) && hasNum (to_ L) && decide ((num 0 (to_ L)).1 < (num 0 (from_ L)).1))
def says (L : List UInt8) : Int × Int × Bool × Bool × Bool :=
 if okB L then ((num 0 (from_ L)).1, (num 0 (to_ L)).1, hasNum (from_ L), hasNum (to_ L), true) else (0, 0, false, false, false)
end Go.Proofs.YtegpfgccaminkaaGreatDoor.SpnP
namespace Go.Proofs.YtegpfgccaminkaaGreatDoor.SpnA
open Go.RowKit Base Base2 UtfA SpnP
theorem dlen (s : ByteArray) : s.data.toList.length = s.size := Array.length_toList
theorem drop_at (s : ByteArray) (k : Nat) (h : k < s.size) : s.data.toList.drop k = s[k] :: s.data.toList.drop (k + 1) := by
 have h' : k < s.data.toList.length := by rw [Array.length_toList]; exact h
 rw [List.drop_eq_getElem_cons h']
 rfl
theorem ext_from (s : ByteArray) (k n : Nat) (h : n = s.size) : s.extract k n = strOf (s.data.toList.drop k) := by
 subst h
 apply ByteArray.ext
 apply Array.ext'
 rw [ByteArray.data_extract]
 simp only [strOf, Array.toList_extract, List.extract_eq_take_drop]
 rw [List.take_of_length_le]
 rw [List.length_drop, Array.length_toList]
 exact Nat.le_refl _
theorem ext_to (s : ByteArray) (k : Nat) : s.extract 0 k = strOf (s.data.toList.take k) := by
 apply ByteArray.ext
 apply Array.ext'
 rw [ByteArray.data_extract]
 simp [strOf, Array.toList_extract, List.extract_eq_take_drop]
theorem pass_any (s : ByteArray) (w : World) (_hs : s.size ≤ 1073741824) :
  Calls Tryz.prog 139 #[.string s] w fun e w' => e = .returned (.string (strOf (pass s.data.toList))) ∧ Below w.heap.size w w' := by
 have hcon : Calls Tryz.prog 116 #[.string s, .string (strOf sp)] w fun e w' => e = .returned (.string (strOf (pass s.data.toList))) ∧ Below w.heap.size w w' :=
  Tryz.strings_TrimLeft_set s (strOf sp) w (by decide) (ascii_of_all (by decide))
 obtain ⟨r, hr⟩ : ∃ r, r = strOf (pass s.data.toList) := ⟨_, rfl⟩
 rw [← hr] at hcon ⊢
 clear hr
 go_enter Tryz.func139, Tryz.ntmps139
 go_wp2_with fail
 refine hcon.mono ?_
 rintro e w1 ⟨rfl, hb⟩
 go_wp2_with fail
 go_ret
 exact ⟨rfl, hb⟩
theorem num_step (z : Int) (c : UInt8) (t : List UInt8) (h : digit c.toNat = true) : num z (c :: t) = num (nstep z c) t := by rw [num, if_pos h]
theorem num_stop (z : Int) (c : UInt8) (t : List UInt8) (h : digit c.toNat = false) : num z (c :: t) = (z, c :: t) := by rw [num, if_neg (by rw [h]; decide)]
set_option maxRecDepth 100000 in
set_option maxHeartbeats 1000000 in
theorem number_any (s : ByteArray) (w : World) (hs : s.size ≤ 1073741824) :
  Calls Tryz.prog 140 #[.string s] w fun e w' => e = .returned (.tuple #[.int .i64 (num 0 s.data.toList).1, .bool (hasNum s.data.toList), .string (strOf (num 0 s.data.toList).2)]) ∧ Below w.heap.size w w' := by
 have HL := hid (dlen s)
 go_enter Tryz.func140, Tryz.ntmps140
 go_wp2
 go_loop [5, 6] (fun vn vk => ∃ (k : Nat) (z : Int), k ≤ s.size ∧ 0 ≤ z ∧ z ≤ 4611686018427387904 ∧ vn = .int .i64 z ∧ vk = .int .i64 k ∧ Hid (num 0 s.data.toList = num z (s.data.toList.drop k))) (fun _ vk => s.size - (intOf vk).toNat)
 case atStart => exact ⟨0, 0, Nat.zero_le _, by omega, by omega, rfl, rfl, rfl⟩
 case round =>
  obtain ⟨k, z, hk, hz0, hz1, rfl, rfl, HN⟩ := hrel
  have fin : ∀ (Y : List UInt8), num z (s.data.toList.drop k) = (z, s.data.toList.drop k) → Y = s.data.toList.drop k →
    Value.tuple #[.int .i64 z, .bool (decide (0 < k)), .string (strOf Y)] = Value.tuple #[.int .i64 (num 0 s.data.toList).1, .bool (hasNum s.data.toList), .string (strOf (num 0 s.data.toList).2)] := by
   intro Y h1 h2
   have e := HN.out
   rw [h1] at e
   have h3 : hasNum s.data.toList = decide (0 < k) := by
    unfold hasNum
    rw [e, Bool.eq_iff_iff, decide_eq_true_iff, decide_eq_true_iff, List.length_drop, HL.out]
    omega
   rw [h3, e, h2]
  have HF := hid fin
  clear fin
  have hx := ext_from s k s.size rfl
  obtain ⟨Y, hY⟩ : ∃ Y, Y = s.data.toList.drop k := ⟨_, rfl⟩
  rw [← hY] at hx
  have HY := hid hY
  clear hY
  by_cases hlt : k < s.size
  ·obtain ⟨c, hc⟩ : ∃ c, s[k] = c := ⟨_, rfl⟩
   have HC : Hid (s.data.toList.drop k = c :: s.data.toList.drop (k + 1)) := by
    have := drop_at s k hlt
    rw [hc] at this
    exact this
   cases hd : digit c.toNat
   ·have HE : Hid (num z (s.data.toList.drop k) = (z, s.data.toList.drop k)) := by
     show _ = _
     rw [HC.out, num_stop z c _ hd]
    have HD := hid hd
    clear hd
    go_wp2_with fail
    refine (digit_any _ _).mono ?_
    rintro e w2 ⟨rfl, rfl⟩
    rw [HD.out]
    go_wp2_with fail
    go_quiet (fail)
    go_wp2
    go_ret3
    exact ⟨congrArg Ending.returned (HF.out Y HE.out HY.out), Base.below_drewN (Below.refl _ _) _⟩
   ·obtain ⟨d0, d1⟩ := digit_range c hd
    have HNE : Hid (num 0 s.data.toList = num (nstep z c) (s.data.toList.drop (k + 1))) := by
     show _ = _
     rw [HN.out, HC.out, num_step z c _ hd]
    have HD := hid hd
    clear hd
    by_cases hbig : 461168601842738790 < z
    ·have HS : Hid (nstep z c = 4611686018427387904) := by
      show _ = _
      unfold nstep
      rw [if_pos hbig]
     rw [HS.out] at HNE
     go_wp2_with fail
     refine (digit_any _ _).mono ?_
     rintro e w2 ⟨rfl, rfl⟩
     rw [HD.out]
     go_wp2_with fail
     go_round
     case rel => exact ⟨k + 1, 4611686018427387904, by omega, by omega, by omega, rfl, by go_num, HNE⟩
     case measure => simp [intOf]; omega
    ·obtain ⟨q, hq⟩ : ∃ q : Int, nstep z c = q := ⟨_, rfl⟩
     have HS : Hid (q = min (z * 10 + ((c.toNat : Int) - 48)) 4611686018427387904 ∧ 0 ≤ q ∧ q ≤ 4611686018427387904) := by
      show _ ∧ _
      rw [← hq]
      unfold nstep
      rw [if_neg hbig]
      split <;> omega
     rw [hq] at HNE
     clear hq
     go_wp2_with fail
     refine (digit_any _ _).mono ?_
     rintro e w2 ⟨rfl, rfl⟩
     rw [HD.out]
     go_wp2_with fail
     all_goals
      go_round
      case rel => exact ⟨k + 1, q, by omega, HS.out.2.1, HS.out.2.2, by first | exact int_eq (by have := HS.out.1; omega) | exact int_eq (HS.out.1.symm), by go_num, HNE⟩
      case measure => simp [intOf]; omega
  ·obtain rfl : k = s.size := by omega
   have HE : Hid (num z (s.data.toList.drop s.size) = (z, s.data.toList.drop s.size)) := by
    show _ = _
    rw [← HL.out, List.drop_length]
    rfl
   go_wp2
   go_quiet (fail)
   go_wp2
   go_ret3
   exact ⟨congrArg Ending.returned (HF.out [] HE.out (by rw [← HL.out, List.drop_length])), Base.below_drewN (Below.refl _ _) _⟩
end Go.Proofs.YtegpfgccaminkaaGreatDoor.SpnA
namespace Go.Proofs.YtegpfgccaminkaaGreatDoor.SpnB
open Go.RowKit Base Base2 SpnP SpnA
def ofB (F T : Int) (hf ht : Bool) (n : Int) : Int × Int × Bool :=
 if n < 1 ∨ (hf = false ∧ ht = false) ∨ (hf = true ∧ F < 0) ∨ (ht = true ∧ T < 0) then (0, 0, false)
 else if hf = true then
  if ht = true ∧ T ≤ n - 1 then (if T < F then (0, 0, false) else (F, T, true)) else (if n - 1 < F then (0, 0, false) else (F, n - 1, true))
 else if T = 0 then (0, 0, false) else (if T ≤ n then (n - T, n - 1, true) else (0, n - 1, true))
set_option maxRecDepth 100000 in
set_option maxHeartbeats 4000000 in
theorem of_any (F T : Int) (hf ht : Bool) (n : Int) (w : World) (hF : -9223372036854775808 ≤ F ∧ F ≤ 9223372036854775807) (hT : -9223372036854775808 ≤ T ∧ T ≤ 9223372036854775807) (hn : -9223372036854775808 ≤ n ∧ n ≤ 9223372036854775807) :
  Calls Tryz.prog 87 #[.agg #[.int .i64 F, .int .i64 T, .bool hf, .bool ht], .int .i64 n] w fun e w' => e = .returned (.tuple #[.int .i64 (ofB F T hf ht n).1, .int .i64 (ofB F T hf ht n).2.1, .bool (ofB F T hf ht n).2.2]) ∧ Below w.heap.size w w' := by
 obtain ⟨hF0, hF1⟩ := hF
 obtain ⟨hT0, hT1⟩ := hT
 obtain ⟨hn0, hn1⟩ := hn
 by_cases h1 : n < 1
 ·cases hf <;> cases ht
  all_goals
   have HV : ∀ hf ht, Hid (ofB F T hf ht n = (0, 0, false)) := fun hf ht => by show _ = _; unfold ofB; rw [if_pos (.inl h1)]
   go_enter Tryz.func87, Tryz.ntmps87
   go_wp2
   go_ret3
   rw [(HV _ _).out]
   exact ⟨rfl, (Below.refl _ _).alloc (Nat.le_refl _) _⟩
 cases hf
 ·cases ht
  ·have HV : Hid (ofB F T false false n = (0, 0, false)) := by show _ = _; unfold ofB; rw [if_pos (by simp)]
   go_enter Tryz.func87, Tryz.ntmps87
   go_wp2
   go_ret3
   rw [HV.out]
   exact ⟨rfl, (Below.refl _ _).alloc (Nat.le_refl _) _⟩
  ·by_cases h2 : T < 0
   ·have HV : Hid (ofB F T false true n = (0, 0, false)) := by show _ = _; unfold ofB; rw [if_pos (.inr (.inr (.inr ⟨rfl, h2⟩)))]
    go_enter Tryz.func87, Tryz.ntmps87
    go_wp2
    go_ret3
    rw [HV.out]
    exact ⟨rfl, (Below.refl _ _).alloc (Nat.le_refl _) _⟩
   ·have q1 : ¬ (n < 1 ∨ (false = false ∧ true = false) ∨ (false = true ∧ F < 0) ∨ (true = true ∧ T < 0)) := by simp; omega
    by_cases h3 : T = 0
    ·subst h3
     have HV : Hid (ofB F 0 false true n = (0, 0, false)) := by show _ = _; unfold ofB; rw [if_neg q1, if_neg (by decide), if_pos rfl]
     have hmax : max n 0 = n := by omega
     have hmax2 : max (n - 0) 0 = n := by omega
     have hlt : n - 1 < n := by omega
     go_enter Tryz.func87, Tryz.ntmps87
     go_wp2
     go_ret3
     rw [HV.out]
     exact ⟨rfl, (Below.refl _ _).alloc (Nat.le_refl _) _⟩
    ·by_cases h4 : T ≤ n
     ·have HV : Hid (ofB F T false true n = (n - T, n - 1, true)) := by show _ = _; unfold ofB; rw [if_neg q1, if_neg (by decide), if_neg h3, if_pos h4]
      have hmax : max (n - T) 0 = n - T := by omega
      have hle : ¬ n - 1 < n - T := by omega
      go_enter Tryz.func87, Tryz.ntmps87
      go_wp2
      go_ret3
      rw [HV.out]
      exact ⟨rfl, (Below.refl _ _).alloc (Nat.le_refl _) _⟩
     ·have HV : Hid (ofB F T false true n = (0, n - 1, true)) := by show _ = _; unfold ofB; rw [if_neg q1, if_neg (by decide), if_neg h3, if_neg h4]
      have hmax : max (n - T) 0 = 0 := by omega
      have hle : ¬ n - 1 < 0 := by omega
      go_enter Tryz.func87, Tryz.ntmps87
      go_wp2
      go_ret3
      rw [HV.out]
      exact ⟨rfl, (Below.refl _ _).alloc (Nat.le_refl _) _⟩
 ·by_cases h2 : F < 0
  ·cases ht
   all_goals
    have HV : ∀ ht, Hid (ofB F T true ht n = (0, 0, false)) := fun ht => by show _ = _; unfold ofB; rw [if_pos (.inr (.inr (.inl ⟨rfl, h2⟩)))]
    go_enter Tryz.func87, Tryz.ntmps87
    go_wp2
    go_ret3
    rw [(HV _).out]
    exact ⟨rfl, (Below.refl _ _).alloc (Nat.le_refl _) _⟩
  ·cases ht
   ·have q1 : ¬ (n < 1 ∨ (true = false ∧ false = false) ∨ (true = true ∧ F < 0) ∨ (false = true ∧ T < 0)) := by simp; omega
    by_cases h3 : n - 1 < F
    ·have HV : Hid (ofB F T true false n = (0, 0, false)) := by show _ = _; unfold ofB; rw [if_neg q1, if_pos rfl, if_neg (by simp), if_pos h3]
     go_enter Tryz.func87, Tryz.ntmps87
     go_wp2
     go_ret3
     rw [HV.out]
     exact ⟨rfl, (Below.refl _ _).alloc (Nat.le_refl _) _⟩
    ·have HV : Hid (ofB F T true false n = (F, n - 1, true)) := by show _ = _; unfold ofB; rw [if_neg q1, if_pos rfl, if_neg (by simp), if_neg h3]
     go_enter Tryz.func87, Tryz.ntmps87
     go_wp2
     go_ret3
     rw [HV.out]
     exact ⟨rfl, (Below.refl _ _).alloc (Nat.le_refl _) _⟩
   ·by_cases h3 : T < 0
    ·have HV : Hid (ofB F T true true n = (0, 0, false)) := by show _ = _; unfold ofB; rw [if_pos (by simp; omega)]
     go_enter Tryz.func87, Tryz.ntmps87
     go_wp2
     go_ret3
     rw [HV.out]
     exact ⟨rfl, (Below.refl _ _).alloc (Nat.le_refl _) _⟩
    ·have q1 : ¬ (n < 1 ∨ (true = false ∧ true = false) ∨ (true = true ∧ F < 0) ∨ (true = true ∧ T < 0)) := by simp; omega
     by_cases h4 : T ≤ n - 1
     ·have hmin : min T (n - 1) = T := by omega
      by_cases h5 : T < F
      ·have HV : Hid (ofB F T true true n = (0, 0, false)) := by show _ = _; unfold ofB; rw [if_neg q1, if_pos rfl, if_pos ⟨rfl, h4⟩, if_pos h5]
       go_enter Tryz.func87, Tryz.ntmps87
       go_wp2
       go_ret3
       rw [HV.out]
       exact ⟨rfl, (Below.refl _ _).alloc (Nat.le_refl _) _⟩
      ·have HV : Hid (ofB F T true true n = (F, T, true)) := by show _ = _; unfold ofB; rw [if_neg q1, if_pos rfl, if_pos ⟨rfl, h4⟩, if_neg h5]
       go_enter Tryz.func87, Tryz.ntmps87
       go_wp2
       go_ret3
       rw [HV.out]
       exact ⟨rfl, (Below.refl _ _).alloc (Nat.le_refl _) _⟩
     ·have hmin : min T (n - 1) = n - 1 := by omega
      by_cases h5 : n - 1 < F
      ·have HV : Hid (ofB F T true true n = (0, 0, false)) := by show _ = _; unfold ofB; rw [if_neg q1, if_pos rfl, if_neg (by omega), if_pos h5]
       go_enter Tryz.func87, Tryz.ntmps87
       go_wp2
       go_ret3
       rw [HV.out]
       exact ⟨rfl, (Below.refl _ _).alloc (Nat.le_refl _) _⟩
      ·have HV : Hid (ofB F T true true n = (F, n - 1, true)) := by show _ = _; unfold ofB; rw [if_neg q1, if_pos rfl, if_neg (by omega), if_neg h5]
       go_enter Tryz.func87, Tryz.ntmps87
       go_wp2
       go_ret3
       rw [HV.out]
       exact ⟨rfl, (Below.refl _ _).alloc (Nat.le_refl _) _⟩
end Go.Proofs.YtegpfgccaminkaaGreatDoor.SpnB
namespace Go.Proofs.YtegpfgccaminkaaGreatDoor.SpnC
open Go.RowKit Base Base2 SpnP SpnA
theorem cut_eq (c : UInt8) (L : List UInt8) : Lib.trimPrefix L [c] = cut c L ∧ Lib.hasPrefix L [c] = is c L := by
 unfold Lib.trimPrefix Lib.hasPrefix
 cases L with
 | nil => exact ⟨by simp [cut], rfl⟩
 | cons x t =>
  by_cases h : c = x
  ·subst h
   exact ⟨by simp [cut], by simp [is]⟩
  ·have h' : ¬ x = c := fun e => h e.symm
   exact ⟨by simp [cut, h, h'], by simp only [is, List.isPrefixOf, Bool.and_true]; rw [Bool.eq_iff_iff, beq_iff_eq, beq_iff_eq]; exact eq_comm⟩
theorem cutp_any (L : List UInt8) (c : UInt8) (w : World) :
  Calls Tryz.prog 138 #[.string (strOf L), .string ⟨#[c]⟩] w fun e w' => e = .returned (.tuple #[.string (strOf (cut c L)), .bool (is c L)]) ∧ w' = w := by
 have h := Tryz.strings_CutPrefix (strOf L) ⟨#[c]⟩ w
 obtain ⟨h1, h2⟩ := cut_eq c L
 rw [show (strOf L).data.toList = L from rfl, show (⟨#[c]⟩ : ByteArray).data.toList = [c] from rfl, h1, h2] at h
 exact h
theorem cut_len (c : UInt8) (L : List UInt8) : (cut c L).length ≤ L.length := by
 unfold cut
 split
 ·simp
 ·split <;> simp
theorem row_cell {w : World} {g : Nat} {cs : Array Value} {t : TypeId} (h : w.heap[g]? = some (.cells cs t (0, 0))) (j : Nat) (v : Value) (hv : cs[j]? = some v) : w.cell? ⟨g, j, none⟩ = some v := (cell_of_row w g j cs t (0, 0) h).trans hv
def T4 (w : World) (g : Nat) (a b c d : Value) : Prop := w.heap[g]? = some (.cells #[a, b, c, d] 169 (0, 0))
theorem T4.facts {w : World} {g : Nat} {a b c d : Value} (h : T4 w g a b c d) : (w.cell? ⟨g, 0, none⟩ = some a ∧ w.cell? ⟨g, 1, none⟩ = some b ∧ w.cell? ⟨g, 2, none⟩ = some c ∧ w.cell? ⟨g, 3, none⟩ = some d) ∧ w.frozen? ⟨g, 0, none⟩ = false ∧ w.frozen? ⟨g, 1, none⟩ = false ∧ w.frozen? ⟨g, 2, none⟩ = false ∧ w.frozen? ⟨g, 3, none⟩ = false :=
 ⟨⟨row_cell h 0 _ rfl, row_cell h 1 _ rfl, row_cell h 2 _ rfl, row_cell h 3 _ rfl⟩, frozen_of_row w g 0 _ _ h, frozen_of_row w g 1 _ _ h, frozen_of_row w g 2 _ _ h, frozen_of_row w g 3 _ _ h⟩
theorem T4.below {w w' : World} {g : Nat} {a b c d : Value} (h : T4 w g a b c d) (hb : Below w.heap.size w w') : T4 w' g a b c d := (hb.block g (Array.getElem?_eq_some_iff.1 h).1).trans h
theorem T4.lt {w : World} {g : Nat} {a b c d : Value} (h : T4 w g a b c d) : g < w.heap.size := (Array.getElem?_eq_some_iff.1 h).1
theorem T4.set02 {w : World} {g : Nat} {a b c d : Value} (h : T4 w g a b c d) (x y : Value) : T4 ((w.setCell ⟨g, 0, none⟩ x).setCell ⟨g, 2, none⟩ y) g x b y d :=
 heap_setCell_same _ g 2 _ _ y (heap_setCell_same w g 0 _ _ x h)
theorem T4.set13 {w : World} {g : Nat} {a b c d : Value} (h : T4 w g a b c d) (x y : Value) : T4 ((w.setCell ⟨g, 1, none⟩ x).setCell ⟨g, 3, none⟩ y) g a x c y :=
 heap_setCell_same _ g 3 _ _ y (heap_setCell_same w g 1 _ _ x h)
theorem T4.other {w : World} {g k : Nat} {a b c d : Value} (h : T4 w g a b c d) (hk : g ≠ k) (i j : Nat) (x y : Value) : T4 ((w.setCell ⟨k, i, none⟩ x).setCell ⟨k, j, none⟩ y) g a b c d := by
 unfold T4
 rw [heap_setCell_other _ _ _ _ hk, heap_setCell_other _ _ _ _ hk]
 exact h
def put4 (w : World) (g : Nat) (a b c d : Value) : World := (((w.setCell ⟨g, 0, none⟩ a).setCell ⟨g, 1, none⟩ b).setCell ⟨g, 2, none⟩ c).setCell ⟨g, 3, none⟩ d
theorem T4.put {w : World} {g : Nat} {a b c d : Value} (h : T4 w g a b c d) (x y z u : Value) : T4 (put4 w g x y z u) g x y z u :=
 heap_setCell_same _ g 3 _ _ u (heap_setCell_same _ g 2 _ _ z (heap_setCell_same _ g 1 _ _ y (heap_setCell_same w g 0 _ _ x h)))
theorem below_put {w0 w : World} {B g : Nat} (h : Below B w0 w) (hg : B ≤ g) (x y z u : Value) : Below B w0 (put4 w g x y z u) := (((h.setCell hg _).setCell hg _).setCell hg _).setCell hg _
theorem T4.load {w : World} {g : Nat} {a b c d : Value} (h : T4 w g a b c d) : (loadVar 169 ⟨g, 0, none⟩).run Tryz.prog w = .ok (.agg #[a, b, c, d]) w :=
 run_loadVar_row w g _ _ #[a, b, c, d] (0, 0) _ h Tryz.underlying169 rfl (by kernel_rfl)
theorem res_end {w : World} {g : Nat} {a b c d : Value} (h : T4 w g a b c d) (ok : Bool) (tmps : Array Value) (h2 : tmps.getD 2 undef = .pointer (some ⟨g, 0, none⟩)) (h3 : tmps.getD 3 undef = .bool ok) :
  (results Tryz.f86 tmps).run Tryz.prog w = .ok (.tuple #[.agg #[a, b, c, d], .bool ok]) w := by
 have hp' : tmps[2]?.getD undef = .pointer (some ⟨g, 0, none⟩) := by simpa using h2
 have hq' : tmps[3]?.getD undef = .bool ok := by simpa using h3
 simp [results, Tryz.results86, hp', hq', asAddr, h.load]
theorem says_no (L : List UInt8) (h : okB L = false) : says L = (0, 0, false, false, false) := by unfold says; rw [h]; rfl
set_option maxRecDepth 100000 in
set_option maxHeartbeats 4000000 in
theorem parse_any (s : ByteArray) (w : World) (hs : s.size ≤ 1073741824) :
  Calls Tryz.prog 86 #[.string s] w fun e w' => e = .returned (.tuple #[.agg #[.int .i64 (says s.data.toList).1, .int .i64 (says s.data.toList).2.1, .bool (says s.data.toList).2.2.1, .bool (says s.data.toList).2.2.2.1], .bool (says s.data.toList).2.2.2.2]) ∧ Below w.heap.size w w' := by
 have HL := hid (dlen s)
 by_cases h5 : s.size < 5
 ·have p5 : (s.size : Int) < 5 := by omega
  have HV : Hid (says s.data.toList = (0, 0, false, false, false)) := by
   refine says_no _ ?_
   unfold okB
   rw [show decide (5 ≤ s.data.toList.length) = false by rw [dlen]; simp; omega]
   rfl
  go_enter Tryz.func86, Tryz.ntmps86
  go_wp2
  rw [HV.out]
  exact bodyPost_ret (v := .tuple #[.agg #[.int .i64 0, .int .i64 0, .bool false, .bool false], .bool false]) (by simp [results, Tryz.results86, go_sem]) rfl ⟨rfl, (Below.refl _ _).alloc (Nat.le_refl _) _⟩
 have p5 : (5 : Int) ≤ (s.size : Int) := by omega
 have hx5 := ext_to s 5
 have hx5' := ext_from s 5 s.size rfl
 obtain ⟨L5, hL5⟩ : ∃ X, X = s.data.toList.take 5 := ⟨_, rfl⟩
 obtain ⟨R5, hR5⟩ : ∃ X, X = s.data.toList.drop 5 := ⟨_, rfl⟩
 rw [← hL5] at hx5
 rw [← hR5] at hx5'
 have hl5 : L5.length ≤ 5 := by rw [hL5, List.length_take]; omega
 have hr5 : R5.length ≤ s.size := by rw [hR5, List.length_drop, dlen]; omega
 obtain ⟨W5, hW5⟩ : ∃ X, X = UtfL.lower L5 := ⟨_, rfl⟩
 have HL5 := hid hL5
 have HR5x := hid hR5
 have HW5 := hid hW5
 clear hL5 hR5 hW5
 by_cases hb : W5 = bytesL
 ·have e5 : ((strOf W5).toList == [98, 121, 116, 101, 115]) = true := by rw [hb, strOf, ByteArray.toList_mk]; decide
  have HB := hid hb
  clear hb
  go_enter Tryz.func86, Tryz.ntmps86
  go_wp2_with fail
  refine (UtfL.lower_any (strOf L5) _ (by rw [size_strOf]; unfold maxLen; omega)).mono ?_
  rintro e w1 ⟨rfl, hb1⟩
  rw [show UtfL.lower (strOf L5).data.toList = W5 from HW5.out.symm]
  go_wp2_with fail
  have hT1 : T4 w1 w.heap.size (.int .i64 0) (.int .i64 0) (.bool false) (.bool false) := (hb1.block w.heap.size (by simp)).trans (heap_alloc_new w _)
  have HT1 := hid hT1
  have hB1 : Below w.heap.size w w1 := ((Below.refl _ _).alloc (Nat.le_refl _) _).trans (hb1.mono (by simp))
  have HB1 := hid hB1
  clear hT1 hb1 hB1
  obtain ⟨M0, hM0⟩ : ∃ X, X = pass R5 := ⟨_, rfl⟩
  have lM0 : M0.length ≤ s.size := by rw [hM0]; exact Nat.le_trans (pass_len _) hr5
  have HM0 := hid hM0
  clear hM0
  go_wp2_with fail
  refine (pass_any (strOf R5) _ (by rw [size_strOf]; omega)).mono ?_
  rintro e w2 ⟨rfl, hb2⟩
  rw [show pass (strOf R5).data.toList = M0 from HM0.out.symm]
  have HB2 : Hid (Below w.heap.size w w2) := bel HB1.out hb2
  have HT2 : Hid (T4 w2 w.heap.size (.int .i64 0) (.int .i64 0) (.bool false) (.bool false)) := HT1.out.below hb2
  clear hb2 HB1 HT1
  obtain ⟨eqB, heq⟩ : ∃ X, X = is 61 M0 := ⟨_, rfl⟩
  obtain ⟨M1, hM1⟩ : ∃ X, X = cut 61 M0 := ⟨_, rfl⟩
  have lM1 : M1.length ≤ s.size := by rw [hM1]; exact Nat.le_trans (cut_len _ _) lM0
  have HEQ := hid heq
  have HM1 := hid hM1
  clear heq hM1
  go_wp2_with fail
  refine (cutp_any M0 61 _).mono ?_
  rintro e w3 ⟨rfl, rfl⟩
  rw [← HEQ.out, ← HM1.out]
  obtain ⟨N0, hN0⟩ : ∃ X, X = pass M1 := ⟨_, rfl⟩
  have lN0 : N0.length ≤ s.size := by rw [hN0]; exact Nat.le_trans (pass_len _) lM1
  have HN0 := hid hN0
  clear hN0
  go_wp2_with fail
  refine (pass_any (strOf M1) _ (by rw [size_strOf]; omega)).mono ?_
  rintro e w4 ⟨rfl, hb4⟩
  rw [show pass (strOf M1).data.toList = N0 from HN0.out.symm]
  have HB4 : Hid (Below w.heap.size w w4) := (HB2.out.alloc HB2.out.size _).trans (hb4.mono (by have := HB2.out.size; simp; omega))
  have HR4 : Hid (T4 w4 w.heap.size (.int .i64 0) (.int .i64 0) (.bool false) (.bool false)) := T4.below (w := w3.alloc (.cells #[.int .i64 0, .int .i64 0, .bool false, .bool false] 169)) ((((Below.refl _ _).alloc (Nat.le_refl _) _).block _ HT2.out.lt).trans HT2.out) hb4
  have HG4 : Hid (T4 w4 w3.heap.size (.int .i64 0) (.int .i64 0) (.bool false) (.bool false)) := T4.below (heap_alloc_new w3 _) hb4
  have HGB : Hid (w.heap.size < w3.heap.size) := HT2.out.lt
  clear hb4 HB2 HT2
  obtain ⟨F, hF⟩ : ∃ X, X = (num 0 N0).1 := ⟨_, rfl⟩
  obtain ⟨hf, hhf⟩ : ∃ X, X = hasNum N0 := ⟨_, rfl⟩
  obtain ⟨P0, hP0⟩ : ∃ X, X = (num 0 N0).2 := ⟨_, rfl⟩
  have lP0 : P0.length ≤ s.size := by rw [hP0]; exact Nat.le_trans (num_len _ _) lN0
  have HF := hid hF
  have HHF := hid hhf
  have HP0 := hid hP0
  clear hF hhf hP0
  go_wp2_with fail
  refine (number_any (strOf N0) _ (by rw [size_strOf]; omega)).mono ?_
  rintro e w5 ⟨rfl, hb5⟩
  rw [show (strOf N0).data.toList = N0 from rfl, ← HF.out, ← HHF.out, ← HP0.out]
  have HB5 : Hid (Below w.heap.size w w5) := bel HB4.out hb5
  have HR5 : Hid (T4 w5 w.heap.size (.int .i64 0) (.int .i64 0) (.bool false) (.bool false)) := HR4.out.below hb5
  have hG5 := HG4.out.below hb5
  have HG5 := hid hG5
  obtain ⟨⟨c0, c1, c2, c3⟩, f0, f1, f2, f3⟩ := hG5.facts
  clear hb5 HB4 HR4 HG4 hG5
  obtain ⟨P1, hP1⟩ : ∃ X, X = pass P0 := ⟨_, rfl⟩
  have lP1 : P1.length ≤ s.size := by rw [hP1]; exact Nat.le_trans (pass_len _) lP0
  have HP1 := hid hP1
  clear hP1
  go_wp2_with fail
  refine (pass_any (strOf P0) _ (by rw [size_strOf]; omega)).mono ?_
  rintro e w6 ⟨rfl, hb6⟩
  rw [show pass (strOf P0).data.toList = P1 from HP1.out.symm]
  have HB6 : Hid (Below w.heap.size w w6) := bel ((HB5.out.setCell (by show w.heap.size ≤ w3.heap.size; have := HGB.out; omega) _).setCell (by show w.heap.size ≤ w3.heap.size; have := HGB.out; omega) _) hb6
  have HR6 : Hid (T4 w6 w.heap.size (.int .i64 0) (.int .i64 0) (.bool false) (.bool false)) := T4.below (HR5.out.other (by have := HGB.out; omega) 0 2 _ _) hb6
  have HG6 : Hid (T4 w6 w3.heap.size (.int .i64 F) (.int .i64 0) (.bool hf) (.bool false)) := T4.below (HG5.out.set02 _ _) hb6
  clear hb6 HB5 HR5 HG5 c0 c1 c2 c3 f0 f1 f2 f3
  obtain ⟨daB, hda⟩ : ∃ X, X = is 45 P1 := ⟨_, rfl⟩
  obtain ⟨P2, hP2⟩ : ∃ X, X = cut 45 P1 := ⟨_, rfl⟩
  have lP2 : P2.length ≤ s.size := by rw [hP2]; exact Nat.le_trans (cut_len _ _) lP1
  have HDA := hid hda
  have HP2 := hid hP2
  clear hda hP2
  go_wp2_with fail
  refine (cutp_any P1 45 _).mono ?_
  rintro e w7 ⟨rfl, rfl⟩
  rw [← HDA.out, ← HP2.out]
  obtain ⟨Q0, hQ0⟩ : ∃ X, X = pass P2 := ⟨_, rfl⟩
  have lQ0 : Q0.length ≤ s.size := by rw [hQ0]; exact Nat.le_trans (pass_len _) lP2
  have HQ0 := hid hQ0
  clear hQ0
  go_wp2_with fail
  refine (pass_any (strOf P2) _ (by rw [size_strOf]; omega)).mono ?_
  rintro e w8 ⟨rfl, hb8⟩
  rw [show pass (strOf P2).data.toList = Q0 from HQ0.out.symm]
  have HB8 : Hid (Below w.heap.size w w8) := bel HB6.out hb8
  have HR8 : Hid (T4 w8 w.heap.size (.int .i64 0) (.int .i64 0) (.bool false) (.bool false)) := HR6.out.below hb8
  have HG8 : Hid (T4 w8 w3.heap.size (.int .i64 F) (.int .i64 0) (.bool hf) (.bool false)) := HG6.out.below hb8
  clear hb8 HB6 HR6 HG6
  obtain ⟨T, hT⟩ : ∃ X, X = (num 0 Q0).1 := ⟨_, rfl⟩
  obtain ⟨ht, hht⟩ : ∃ X, X = hasNum Q0 := ⟨_, rfl⟩
  obtain ⟨Z, hZ⟩ : ∃ X, X = (num 0 Q0).2 := ⟨_, rfl⟩
  have HT := hid hT
  have HHT := hid hht
  have HZ := hid hZ
  clear hT hht hZ
  go_wp2_with fail
  refine (number_any (strOf Q0) _ (by rw [size_strOf]; omega)).mono ?_
  rintro e w9 ⟨rfl, hb9⟩
  rw [show (strOf Q0).data.toList = Q0 from rfl, ← HT.out, ← HHT.out, ← HZ.out]
  have HB9 : Hid (Below w.heap.size w w9) := bel HB8.out hb9
  have HR9 : Hid (T4 w9 w.heap.size (.int .i64 0) (.int .i64 0) (.bool false) (.bool false)) := HR8.out.below hb9
  have hG9 := HG8.out.below hb9
  have HG9 := hid hG9
  obtain ⟨⟨c0, c1, c2, c3⟩, f0, f1, f2, f3⟩ := hG9.facts
  obtain ⟨⟨g0, g1, g2, g3⟩, k0, k1, k2, k3⟩ := HR9.out.facts
  clear hb9 HB8 HR8 HG8 hG9
  have HSAY : Hid (okB s.data.toList = (eqB && daB && Z.isEmpty && (hf || ht) && !(hf && ht && decide (T < F)))) := by
   show _ = _
   have e1 : pass (s.data.toList.drop 5) = M0 := by rw [HM0.out, HR5x.out]
   have e2 : from_ s.data.toList = N0 := by unfold from_; rw [e1, ← HM1.out, ← HN0.out]
   have e3 : to_ s.data.toList = Q0 := by unfold to_; rw [e2, ← HP0.out, ← HP1.out, ← HP2.out, ← HQ0.out]
   unfold okB
   rw [e1, e2, e3, ← HP0.out, ← HP1.out, ← HEQ.out, ← HDA.out, ← HZ.out, ← HHF.out, ← HHT.out, ← HF.out, ← HT.out, ← HL5.out, ← HW5.out, HB.out, dlen, show decide (5 ≤ s.size) = true by simp; omega]
   simp
  have HVAL : Hid (okB s.data.toList = true → says s.data.toList = (F, T, hf, ht, true)) := by
   intro hok
   have e1 : pass (s.data.toList.drop 5) = M0 := by rw [HM0.out, HR5x.out]
   have e2 : from_ s.data.toList = N0 := by unfold from_; rw [e1, ← HM1.out, ← HN0.out]
   have e3 : to_ s.data.toList = Q0 := by unfold to_; rw [e2, ← HP0.out, ← HP1.out, ← HP2.out, ← HQ0.out]
   unfold says
   rw [if_pos hok, e2, e3, ← HF.out, ← HT.out, ← HHF.out, ← HHT.out]
  have HGN : Hid (T4 ((w9.setCell ⟨w3.heap.size, 1, none⟩ (.int .i64 T)).setCell ⟨w3.heap.size, 3, none⟩ (.bool ht)) w3.heap.size (.int .i64 F) (.int .i64 T) (.bool hf) (.bool ht)) := HG9.out.set13 _ _
  have HRN : Hid (T4 ((w9.setCell ⟨w3.heap.size, 1, none⟩ (.int .i64 T)).setCell ⟨w3.heap.size, 3, none⟩ (.bool ht)) w.heap.size (.int .i64 0) (.int .i64 0) (.bool false) (.bool false)) := HR9.out.other (by have := HGB.out; omega) 1 3 _ _
  have HBN : Hid (Below w.heap.size w ((w9.setCell ⟨w3.heap.size, 1, none⟩ (.int .i64 T)).setCell ⟨w3.heap.size, 3, none⟩ (.bool ht))) := (HB9.out.setCell (by show w.heap.size ≤ w3.heap.size; have := HGB.out; omega) _).setCell (by show w.heap.size ≤ w3.heap.size; have := HGB.out; omega) _
  have hne : w3.heap.size ≠ w.heap.size := by have := HGB.out; omega
  have hne' : w.heap.size ≠ w3.heap.size := by have := HGB.out; omega
  have hcase : (eqB = false ∨ eqB = true ∧ daB = false ∨ eqB = true ∧ daB = true ∧ Z ≠ [] ∨ eqB = true ∧ daB = true ∧ Z = [] ∧ hf = false ∧ ht = false ∨ eqB = true ∧ daB = true ∧ Z = [] ∧ hf = true ∧ ht = true ∧ T < F) ∨
    (eqB = true ∧ daB = true ∧ Z = [] ∧ (hf = true ∧ ht = false ∨ hf = false ∧ ht = true ∨ hf = true ∧ ht = true ∧ ¬ T < F)) := by
   cases eqB <;> cases daB <;> cases hf <;> cases ht <;> by_cases h : Z = [] <;> by_cases h' : T < F <;> simp [h, h']
  rcases hcase with hbad | hgood
  ·have HV : Hid (says s.data.toList = (0, 0, false, false, false)) := by
    refine says_no _ ?_
    rw [HSAY.out]
    rcases hbad with h | ⟨h1, h⟩ | ⟨h1, h2, h⟩ | ⟨h1, h2, h3, h4, h5⟩ | ⟨h1, h2, h3, h4, h5, h6⟩
    ·simp [h]
    ·simp [h]
    ·have : Z.isEmpty = false := by cases Z; exact absurd rfl h; rfl
     simp [this]
    ·simp [h4, h5]
    ·simp [h4, h5, h6]
   rcases hbad with h | ⟨h1, h⟩ | ⟨h1, h2, h⟩ | ⟨h1, h2, h3, h4, h5⟩ | ⟨h1, h2, h3, h4, h5, h6⟩
   ·subst h
    go_wp2_with fail
    rw [HV.out]
    exact bodyPost_ret (w := put4 _ w.heap.size (.int .i64 0) (.int .i64 0) (.bool false) (.bool false)) (res_end (HRN.out.put _ _ _ _) false _ rfl rfl) rfl ⟨rfl, below_put HBN.out (Nat.le_refl _) _ _ _ _⟩
   ·subst h1 h
    go_wp2_with fail
    rw [HV.out]
    exact bodyPost_ret (w := put4 _ w.heap.size (.int .i64 0) (.int .i64 0) (.bool false) (.bool false)) (res_end (HRN.out.put _ _ _ _) false _ rfl rfl) rfl ⟨rfl, below_put HBN.out (Nat.le_refl _) _ _ _ _⟩
   ·subst h1 h2
    have z1 : (strOf Z).toList.isEmpty = false := by rw [strOf, ByteArray.toList_mk]; cases Z; exact absurd rfl h; rfl
    have z2 : ((strOf Z).toList == []) = false := by rw [strOf, ByteArray.toList_mk]; cases Z; exact absurd rfl h; rfl
    clear h
    go_wp2_with fail
    rw [HV.out]
    exact bodyPost_ret (w := put4 _ w.heap.size (.int .i64 0) (.int .i64 0) (.bool false) (.bool false)) (res_end (HRN.out.put _ _ _ _) false _ rfl rfl) rfl ⟨rfl, below_put HBN.out (Nat.le_refl _) _ _ _ _⟩
   ·subst h1 h2 h3 h4 h5
    have z1 : (strOf []).toList = [] := by rw [strOf, ByteArray.toList_mk]
    go_wp2_with fail
    rw [HV.out]
    exact bodyPost_ret (w := put4 _ w.heap.size (.int .i64 0) (.int .i64 0) (.bool false) (.bool false)) (res_end (HRN.out.put _ _ _ _) false _ rfl rfl) rfl ⟨rfl, below_put HBN.out (Nat.le_refl _) _ _ _ _⟩
   ·subst h1 h2 h3 h4 h5
    have z1 : (strOf []).toList = [] := by rw [strOf, ByteArray.toList_mk]
    go_wp2_with fail
    rw [HV.out]
    exact bodyPost_ret (w := put4 _ w.heap.size (.int .i64 0) (.int .i64 0) (.bool false) (.bool false)) (res_end (HRN.out.put _ _ _ _) false _ rfl rfl) rfl ⟨rfl, below_put HBN.out (Nat.le_refl _) _ _ _ _⟩
  ·have HV : Hid (says s.data.toList = (F, T, hf, ht, true)) := by
    refine HVAL.out ?_
    rw [HSAY.out]
    obtain ⟨h1, h2, h3, h4⟩ := hgood
    rcases h4 with ⟨a, b⟩ | ⟨a, b⟩ | ⟨a, b, c⟩
    ·simp [h1, h2, h3, a, b]
    ·simp [h1, h2, h3, a, b]
    ·simp [h1, h2, h3, a, b]; omega
   obtain ⟨h1, h2, h3, h4⟩ := hgood
   subst h1 h2 h3
   have z1 : (strOf []).toList = [] := by rw [strOf, ByteArray.toList_mk]
   rcases h4 with ⟨h4, h5⟩ | ⟨h4, h5⟩ | ⟨h4, h5, h6⟩
   all_goals
    subst h4 h5
    go_wp2_with fail
    rw [HV.out]
    exact bodyPost_ret (w := put4 _ w.heap.size (.int .i64 F) (.int .i64 T) (.bool _) (.bool _)) (res_end (HRN.out.put _ _ _ _) true _ rfl rfl) rfl ⟨rfl, below_put HBN.out (Nat.le_refl _) _ _ _ _⟩
 ·have e5 : ((strOf W5).toList == [98, 121, 116, 101, 115]) = false := by
   rw [strOf, ByteArray.toList_mk]
   simpa [bytesL] using hb
  have HV : Hid (says s.data.toList = (0, 0, false, false, false)) := by
   refine says_no _ ?_
   unfold okB
   rw [show decide (UtfL.lower (s.data.toList.take 5) = bytesL) = false by rw [← HL5.out, ← HW5.out]; simpa using hb]
   simp
  clear hb
  go_enter Tryz.func86, Tryz.ntmps86
  go_wp2_with fail
  refine (UtfL.lower_any (strOf L5) _ (by rw [size_strOf]; unfold maxLen; omega)).mono ?_
  rintro e w1 ⟨rfl, hb1⟩
  rw [show UtfL.lower (strOf L5).data.toList = W5 from HW5.out.symm]
  have hT1 : T4 w1 w.heap.size (.int .i64 0) (.int .i64 0) (.bool false) (.bool false) := (hb1.block w.heap.size (by simp)).trans (heap_alloc_new w _)
  obtain ⟨⟨c0, c1, c2, c3⟩, f0, f1, f2, f3⟩ := hT1.facts
  have HT := hid (hT1.put (.int .i64 0) (.int .i64 0) (.bool false) (.bool false))
  clear hT1
  go_wp2_with fail
  rw [HV.out]
  exact bodyPost_ret (w := put4 w1 w.heap.size (.int .i64 0) (.int .i64 0) (.bool false) (.bool false)) (res_end HT.out false _ rfl rfl) rfl ⟨rfl, below_put (((Below.refl _ _).alloc (Nat.le_refl _) _).trans (hb1.mono (by simp))) (Nat.le_refl _) _ _ _ _⟩
end Go.Proofs.YtegpfgccaminkaaGreatDoor.SpnC
