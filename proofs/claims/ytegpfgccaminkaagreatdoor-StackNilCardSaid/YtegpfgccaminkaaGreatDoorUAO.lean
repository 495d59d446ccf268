/- Texts that belong together: StoI, StoK, FetA, SpnP, SpnA, SpnB, SpnC, FetB, SrtA. -/
import Derived.Test.YtegpfgccaminkaaGreatDoorUAC
import Derived.Test.YtegpfgccaminkaaGreatDoorUAF
import Derived.BigQuiet
import Derived.Deep.QuietTactic
import Derived.Deep.WholeRow
import Derived.Defers
import Derived.Recover
import Derived.Test.YtegpfgccaminkaaGreatDoorUAH
import Derived.Lib.SlTrimSet
import Derived.Test.YtegpfgccaminkaaGreatDoorUAA
import Derived.Test.YtegpfgccaminkaaGreatDoorShelf
import Derived.Laws.Rows
import Derived.Test.YtegpfgccaminkaaGreatDoorUAI
import Derived.Test.YtegpfgccaminkaaGreatDoorUAJ
set_option linter.unusedSimpArgs false
set_option linter.unusedVariables false
namespace Go.Proofs.YtegpfgccaminkaaGreatDoor.StoI
open Go.RowKit Base Base2 Base3 Regs TbK StoG OrgA Ubx LdA
set_option linter.unusedSimpArgs false
set_option linter.unusedVariables false
theorem ob_load {w : World} {g : Nat} {s h : ByteArray} {p n : Int} (x : OB w g s h p n) : (loadVar 32 ⟨g, 0, none⟩).run Tryz.prog w = .ok (.agg #[.string s, .string h, .int .i64 p, .int .i64 n]) w :=
 run_loadVar_row w g _ _ #[.string s, .string h, .int .i64 p, .int .i64 n] (0, 0) _ x Tryz.underlying32 rfl (by kernel_rfl)
end Go.Proofs.YtegpfgccaminkaaGreatDoor.StoI
namespace Go.Proofs.YtegpfgccaminkaaGreatDoor.StoK
open Go.RowKit Base Base2 Base3 Regs TbK StoG StoI OrgA Ubx LdA
set_option linter.unusedSimpArgs false
set_option linter.unusedVariables false
theorem uv_load {w : World} {g : Nat} {uv : Array Value} (hs : uv.size = 13) (x : w.heap[g]? = some (.cells uv 52 (0, 0))) : (loadVar 52 ⟨g, 0, none⟩).run Tryz.prog w = .ok (.agg uv) w :=
 run_loadVar_row w g _ _ uv (0, 0) _ x Tryz.underlying52 rfl (by rw [hs]; kernel_rfl)
end Go.Proofs.YtegpfgccaminkaaGreatDoor.StoK
namespace Go.Proofs.YtegpfgccaminkaaGreatDoor.FetA
open Go.RowKit Base Base2 OrgA Ubx LdA StoI StoK
set_option linter.unusedSimpArgs false
set_option linter.unusedVariables false
theorem idle (p q : Addr) (w : World) : CallsD Tryz.prog 83 #[.pointer (some p), .pointer (some q)] .returning w fun e u' w' => e = .returned (.tuple #[]) ∧ u' = .returning ∧ w' = w := by
 refine callsD_of_wpS Tryz.func83 rfl fun c₀ cs hu => ?_
 apply wpS_seq
 apply wpS_region
 simp [wpOpsS, go_sem, recoverD, hu, Tryz.ntmps83, Exit.thenS]
 refine wpS_cond (t := false) (by simp [Act.eval, Array.replicate]) ?_
 simp only [Bool.false_eq_true, if_false]
 refine wpS_of_wp (wp_skip ?_)
 cases c₀
 simp_all [bodyPostS, results, Tryz.results83]
theorem laid4 (w : World) (a b : Array Value) (x y : Value) (S1 S2 S3 S4 : TypeId) : ((((w.alloc (.cells a S1)).alloc (.cells b S2)).alloc (.cells #[x] S3)).alloc (.cells #[y] S4)).heap[w.heap.size]? = some (.cells a S1 (0, 0)) ∧ ((((w.alloc (.cells a S1)).alloc (.cells b S2)).alloc (.cells #[x] S3)).alloc (.cells #[y] S4)).heap[w.heap.size + 1]? = some (.cells b S2 (0, 0)) ∧ ((((w.alloc (.cells a S1)).alloc (.cells b S2)).alloc (.cells #[x] S3)).alloc (.cells #[y] S4)).heap[w.heap.size + 2]? = some (.cells #[x] S3 (0, 0)) ∧ ((((w.alloc (.cells a S1)).alloc (.cells b S2)).alloc (.cells #[x] S3)).alloc (.cells #[y] S4)).heap[w.heap.size + 3]? = some (.cells #[y] S4 (0, 0)) ∧ Below w.heap.size w ((((w.alloc (.cells a S1)).alloc (.cells b S2)).alloc (.cells #[x] S3)).alloc (.cells #[y] S4)) := by
 obtain ⟨w1, h1⟩ : ∃ x, x = w.alloc (.cells a S1) := ⟨_, rfl⟩
 obtain ⟨w2, h2⟩ : ∃ x, x = w1.alloc (.cells b S2) := ⟨_, rfl⟩
 obtain ⟨w3, h3⟩ : ∃ z, z = w2.alloc (.cells #[x] S3) := ⟨_, rfl⟩
 have s1 : w1.heap.size = w.heap.size + 1 := by rw [h1, World.size_alloc]
 have s2 : w2.heap.size = w.heap.size + 2 := by rw [h2, World.size_alloc, s1]
 have s3 : w3.heap.size = w.heap.size + 3 := by rw [h3, World.size_alloc, s2]
 have b1 : Below w.heap.size w w1 := by rw [h1]; exact (Below.refl _ _).alloc (Nat.le_refl _) _
 have b2 : Below w1.heap.size w1 w2 := by rw [h2]; exact (Below.refl _ _).alloc (Nat.le_refl _) _
 have b3 : Below w2.heap.size w2 w3 := by rw [h3]; exact (Below.refl _ _).alloc (Nat.le_refl _) _
 have b4 : Below w3.heap.size w3 (w3.alloc (.cells #[y] S4)) := (Below.refl _ _).alloc (Nat.le_refl _) _
 have e1 : w1.heap[w.heap.size]? = some (.cells a S1 (0, 0)) := by rw [h1]; exact heap_alloc_new w _
 have e2 : w2.heap[w.heap.size + 1]? = some (.cells b S2 (0, 0)) := by rw [h2, ← s1]; exact heap_alloc_new w1 _
 have e3 : w3.heap[w.heap.size + 2]? = some (.cells #[x] S3 (0, 0)) := by rw [h3, ← s2]; exact heap_alloc_new w2 _
 rw [← h1, ← h2, ← h3]
 refine ⟨?_, ?_, ?_, by rw [← s3]; exact heap_alloc_new w3 _, bel (bel (bel b1 b2) b3) b4⟩
 ·exact (b4.block _ (by omega)).trans ((b3.block _ (by omega)).trans ((b2.block _ (by omega)).trans e1))
 ·exact (b4.block _ (by omega)).trans ((b3.block _ (by omega)).trans e2)
 ·exact (b4.block _ (by omega)).trans e3
set_option maxRecDepth 100000 in
set_option maxHeartbeats 4000000 in
theorem find_stk (pv : Option Addr) (uv : Array Value) (huv : uv.size = 13) (s h : ByteArray) (p n : Int) (v : Option Addr) (b : Bool) (w : World)
  (HBL : Hid (∀ w', Below w.heap.size w w' → Calls Tryz.prog 18 #[.pointer pv, .agg uv, .agg #[.string s, .string h, .int .i64 p, .int .i64 n]] w' fun e w'' => e = .returned (.tuple #[.pointer v, .bool b]) ∧ Below w'.heap.size w' w'')) :
  Calls Tryz.prog 52 #[.iface 27 (.pointer pv), .agg uv, .agg #[.string s, .string h, .int .i64 p, .int .i64 n]] w fun e w' => e = .returned (.tuple #[.pointer v, .bool b]) ∧ Below w.heap.size w w' := by
 have hmf : ∀ (fn : Fn) (first cap : Array Value) (w : World), (Instr.makeFunc fn first cap).run Tryz.prog w = .ok (.func fn first cap) w := fun _ _ _ _ => rfl
 have HU := hid huv
 clear huv
 go_enter_defers Tryz.func52, Tryz.ntmps52
 go_upto_region 1 with (fail)
 generalize hwa : World.alloc (World.alloc (World.alloc (World.alloc w _) _) _) _ = v1
 have h1_ : v1.heap[w.heap.size]? = some (.cells uv 52 (0, 0)) ∧ OB v1 (w.heap.size + 1) s h p n ∧ v1.heap[w.heap.size + 2]? = some (.cells #[.pointer none] 47 (0, 0)) ∧ v1.heap[w.heap.size + 3]? = some (.cells #[.bool false] 4 (0, 0)) ∧ Below w.heap.size w v1 := by
  subst hwa
  exact laid4 w _ _ _ _ _ _ _ _
 clear hwa
 have HB1 := hid h1_.2.2.2.2
 have X3 := hid h1_.2.2.1
 have X4 := hid h1_.2.2.2.1
 have HLD : Hid ((loadVar 52 ⟨w.heap.size, 0, none⟩).run Tryz.prog v1 = .ok (.agg uv) v1) := uv_load HU.out h1_.1
 have HLE : Hid ((loadVar 32 ⟨w.heap.size + 1, 0, none⟩).run Tryz.prog v1 = .ok (.agg #[.string s, .string h, .int .i64 p, .int .i64 n]) v1) := ob_load h1_.2.1
 clear h1_
 go_wp2_with (first | refine load_as HLD.out (.tmp 4) rfl rfl rfl ?_ | refine load_as HLE.out (.tmp 5) rfl rfl rfl ?_)
 have hm : ∀ (k : Nat) (w : World), (method (k + 1) 27 (.pointer pv) "Blob").run Tryz.prog w = .ok (18, .pointer pv) w := fun k w => by kernel_rfl
 go_wp2_with fail
 refine (HBL.out _ HB1.out).mono ?_
 rintro e v2 ⟨rfl, hb2⟩
 have HB2 := hid (bel HB1.out hb2)
 have hx3 : v2.heap[w.heap.size + 1 + 1]? = some (.cells #[.pointer none] 47 (0, 0)) := (hb2.block _ (Array.getElem?_eq_some_iff.1 X3.out).1).trans X3.out
 have hx4 : v2.heap[w.heap.size + 1 + 1 + 1]? = some (.cells #[.bool false] 4 (0, 0)) := (hb2.block _ (Array.getElem?_eq_some_iff.1 X4.out).1).trans X4.out
 have c6 : v2.cell? ⟨w.heap.size + 1 + 1, 0, none⟩ = some (.pointer none) := cell_of_row v2 _ 0 _ _ _ hx3
 have c7 : v2.cell? ⟨w.heap.size + 1 + 1 + 1, 0, none⟩ = some (.bool false) := cell_of_row v2 _ 0 _ _ _ hx4
 have f6 : v2.frozen? ⟨w.heap.size + 1 + 1, 0, none⟩ = false := frozen_of_row v2 _ 0 _ _ hx3
 have f7 : v2.frozen? ⟨w.heap.size + 1 + 1 + 1, 0, none⟩ = false := frozen_of_row v2 _ 0 _ _ hx4
 have HB3 : Hid (Below w.heap.size w ((v2.setCell ⟨w.heap.size + 1 + 1, 0, none⟩ (.pointer v)).setCell ⟨w.heap.size + 1 + 1 + 1, 0, none⟩ (.bool b))) := (HB2.out.setCell (p := ⟨w.heap.size + 1 + 1, 0, none⟩) (by show w.heap.size ≤ w.heap.size + 1 + 1; omega) _).setCell (p := ⟨w.heap.size + 1 + 1 + 1, 0, none⟩) (by show w.heap.size ≤ w.heap.size + 1 + 1 + 1; omega) _
 have hne : ¬ w.heap.size + 1 + 1 = w.heap.size + 1 + 1 + 1 := by omega
 clear hb2 hx3 hx4 HLD HLE X3 X4
 go_wp2
 refine leaves_cons (f := 83) (args := #[.pointer (some ⟨w.heap.size + 1 + 1, 0, none⟩), .pointer (some ⟨w.heap.size + 1 + 1 + 1, 0, none⟩)]) (by simp) (by simp [go_sem]) ?_
 refine (idle _ _ _).mono ?_
 rintro e u' w'' ⟨rfl, rfl, rfl⟩
 simp [Leaves, settle, results, Tryz.results52, go_sem, c6, c7, f6, f7, hne]
 exact HB3.out
end Go.Proofs.YtegpfgccaminkaaGreatDoor.FetA
namespace Go.Proofs.YtegpfgccaminkaaGreatDoor.FetB
open Go.RowKit Base Base2 Regs BlobA BlobB BlobC BlobD BlobK Ubx LdA
set_option linter.unusedSimpArgs false
set_option linter.unusedVariables false
def AB (w : World) (g : Nat) (cs : Array Value) : Prop := w.heap[g]? = some (.cells cs 56 (0, 0))
section
variable {w w' : World} {g : Nat} {cs : Array Value}
theorem AB.lt (h : AB w g cs) : g < w.heap.size := (Array.getElem?_eq_some_iff.1 h).1
theorem AB.below (h : AB w g cs) (hb : Below w.heap.size w w') : AB w' g cs := (hb.block g h.lt).trans h
theorem AB.load (h : AB w g cs) (hs : cs.size = 6) : (loadVar 56 ⟨g, 0, none⟩).run Tryz.prog w = .ok (.agg cs) w :=
 run_loadVar_row w g _ _ cs (0, 0) _ h Tryz.underlying56 rfl (by rw [hs]; kernel_rfl)
theorem AB.set (h : AB w g cs) (i : Nat) (x : Value) : AB (w.setCell ⟨g, i, none⟩ x) g (cs.setIfInBounds i x) := heap_setCell_same w g i _ _ x h
theorem AB.setO (h : AB w g cs) {k i : Nat} (x : Value) (hk : g ≠ k) : AB (w.setCell ⟨k, i, none⟩ x) g cs := (heap_setCell_other w ⟨k, i, none⟩ g x hk).trans h
theorem AB.row (h : AB w g cs) (ds : Array Value) : AB (w.setRow g ds) g ds := setRow_heap w g cs ds _ (0, 0) h
theorem AB.facts {a b c d e f : Value} (h : AB w g #[a, b, c, d, e, f]) : w.cell? ⟨g, 0, none⟩ = some a ∧ w.cell? ⟨g, 1, none⟩ = some b ∧ w.cell? ⟨g, 2, none⟩ = some c ∧ w.cell? ⟨g, 3, none⟩ = some d ∧ w.cell? ⟨g, 4, none⟩ = some e ∧ w.cell? ⟨g, 5, none⟩ = some f :=
 ⟨cell_of_row w g 0 _ _ _ h, cell_of_row w g 1 _ _ _ h, cell_of_row w g 2 _ _ _ h, cell_of_row w g 3 _ _ _ h, cell_of_row w g 4 _ _ _ h, cell_of_row w g 5 _ _ _ h⟩
theorem AB.thaw (h : AB w g cs) : w.frozen? ⟨g, 0, none⟩ = false ∧ w.frozen? ⟨g, 1, none⟩ = false ∧ w.frozen? ⟨g, 2, none⟩ = false ∧ w.frozen? ⟨g, 3, none⟩ = false ∧ w.frozen? ⟨g, 4, none⟩ = false ∧ w.frozen? ⟨g, 5, none⟩ = false :=
 ⟨frozen_of_row w g 0 _ _ h, frozen_of_row w g 1 _ _ h, frozen_of_row w g 2 _ _ h, frozen_of_row w g 3 _ _ h, frozen_of_row w g 4 _ _ h, frozen_of_row w g 5 _ _ h⟩
theorem store_ab {ops : Array Oper} {rest : List Oper} {o : Oper} {a : Act} {Q : Exit → Act → World → Prop} (hU : AB w g cs) (ds : Array Value) (hs : cs.size = 6) (hs2 : ds.size = 6) (h1 : ds.all (·.oneCell') = true) (x y : Operand) (ho : o.op = .store 56 x y) (hgd : o.guard = none)
  (hx : a.eval x = .pointer (some ⟨g, 0, none⟩)) (hy : a.eval y = .agg ds)
  (hh : wpList Tryz.prog ops Q rest (a.put o.dst undef) (w.setRow g ds)) : wpList Tryz.prog ops Q (o :: rest) a w :=
 wpList_store_row hgd 56 x y ho g ds hx hy 56 cs hU (by rw [hs2]; kernel_rfl) (by rw [hs, hs2]) h1 hh
theorem res6 {fn : Func} {a : Tmp} (h : fn.results = #[.cell a 56]) (hU : AB w g cs) (hs : cs.size = 6) (tmps : Array Value) (h2 : tmps.getD a undef = .pointer (some ⟨g, 0, none⟩)) :
  (results fn tmps).run Tryz.prog w = .ok (.agg cs) w :=
 results_cell_row h tmps w g _ cs (0, 0) _ h2 hU Tryz.underlying56 rfl (by rw [hs]; kernel_rfl)
end
theorem own_cell {w : World} {B n i g : Nat} {e : TypeId} {v x : Value} {xs : List Value} (h : w.ownsRow B e 1 v n xs) (hg : g < B) : (w.setCell ⟨g, i, none⟩ x).ownsRow B e 1 v n xs := by
 refine ⟨h.1, ?_⟩
 rcases h.2 with h' | ⟨b, cap, cur, rfl, hB, hb, r⟩
 ·exact .inl h'
 ·exact .inr ⟨b, cap, cur, rfl, hB, (heap_setCell_other w ⟨g, i, none⟩ b x (by show b ≠ g; omega)).trans hb, r⟩
theorem own_setRow {w : World} {B n g : Nat} {e : TypeId} {v : Value} {xs : List Value} (h : w.ownsRow B e 1 v n xs) (hg : g < B) (ds : Array Value) : (w.setRow g ds).ownsRow B e 1 v n xs := by
 refine ⟨h.1, ?_⟩
 rcases h.2 with h' | ⟨b, cap, cur, rfl, hB, hb, r⟩
 ·exact .inl h'
 ·exact .inr ⟨b, cap, cur, rfl, hB, (setRow_other w g b ds (by omega)).trans hb, r⟩
theorem whole_any (z : Int) (g n : Nat) (L K : List UInt8) (w : World) (hB : BlobAt w g n L K) (hn : n ≤ 100000000) : Calls Tryz.prog 53 #[.agg #[.int .i64 z, .int .i64 0, .int .i64 0, .int .i64 0, .string ⟨#[]⟩, .slice none 0 0], .pointer (some ⟨g, 0, none⟩), .pointer none] w fun e w' => ∃ A c, e = .returned (.agg #[.int .i64 z, .int .i64 200, .int .i64 0, .int .i64 (n : Int), .string (strOf K), .slice A n c]) ∧ w'.ownsRow w.heap.size 5 1 (.slice A n c) n (bcells L) ∧ Below w.heap.size w w' := by
 have hni : (n : Int) ≤ 100000000 := by omega
 go_enter Tryz.func53, Tryz.ntmps53
 go_upto_region 1 with (fail)
 generalize hwa : World.alloc (World.alloc w _) _ = v1
 have h1_ : AB v1 w.heap.size #[.int .i64 z, .int .i64 0, .int .i64 0, .int .i64 0, .string ⟨#[]⟩, .slice none 0 0] ∧ AB v1 (w.heap.size + 1) #[.int .i64 0, .int .i64 0, .int .i64 0, .int .i64 0, .string ⟨#[]⟩, .slice none 0 0] ∧ Below w.heap.size w v1 := by
  subst hwa
  exact laid2 w _ _ _ _
 clear hwa
 have XA1 := hid h1_.1
 have XR1 := hid h1_.2.1
 have HB1 := hid h1_.2.2
 have HS1 := hid (hB.below h1_.2.2)
 clear h1_ hB
 go_wp2_with fail
 refine (len_any g n _ _ _ HS1.out).mono ?_
 rintro e v2 ⟨rfl, hb2⟩
 have XA2 := hid (XA1.out.below hb2)
 have XR2 := hid (XR1.out.below hb2)
 have HS2 := hid (HS1.out.below hb2)
 have HB2 := hid (bel HB1.out hb2)
 clear XA1 XR1 HS1 HB1 hb2
 go_wp2_with fail
 refine (kindm_any g n L K _ HS2.out).mono ?_
 rintro e v3 ⟨rfl, hb3⟩
 have XA3 := hid (XA2.out.below hb3)
 have XR3 := hid (XR2.out.below hb3)
 have HS3 := hid (HS2.out.below hb3)
 have HB3 := hid (bel HB2.out hb3)
 clear XA2 XR2 HS2 HB2 hb3
 go_wp2_with fail
 refine (bytes_any g n L K _ HS3.out (by omega)).mono ?_
 rintro e v4 ⟨v, rfl, hown, hb4⟩
 have XA4 := hid (XA3.out.below hb4)
 have XR4 := hid (XR3.out.below hb4)
 have HB4 := hid (bel HB3.out hb4)
 have HS3' : Hid (w.heap.size + 1 < v3.heap.size) := XR3.out.lt
 obtain ⟨A, c, rfl, hc, hm, _⟩ := owns_form hown
 have HO4 := hid hown
 clear XA3 XR3 HB3 HS3 hown hb4
 obtain ⟨c0, c1, c2, c3, c4, c5⟩ := XA4.out.facts
 obtain ⟨f0, f1, f2, f3, f4, f5⟩ := XA4.out.thaw
 go_upto_region 4 with (fail)
 have hx : AB ((((v4.setCell ⟨w.heap.size, 1, none⟩ (.int .i64 200)).setCell ⟨w.heap.size, 4, none⟩ (.string (strOf K))).setCell ⟨w.heap.size, 5, none⟩ (.slice A n c)).setCell ⟨w.heap.size, 3, none⟩ (.int .i64 (n : Int))) w.heap.size #[.int .i64 z, .int .i64 200, .int .i64 0, .int .i64 (n : Int), .string (strOf K), .slice A n c] := (((XA4.out.set 1 _).set 4 _).set 5 _).set 3 _
 have hr : AB ((((v4.setCell ⟨w.heap.size, 1, none⟩ (.int .i64 200)).setCell ⟨w.heap.size, 4, none⟩ (.string (strOf K))).setCell ⟨w.heap.size, 5, none⟩ (.slice A n c)).setCell ⟨w.heap.size, 3, none⟩ (.int .i64 (n : Int))) (w.heap.size + 1) #[.int .i64 0, .int .i64 0, .int .i64 0, .int .i64 0, .string ⟨#[]⟩, .slice none 0 0] := (((XR4.out.setO _ (by omega)).setO _ (by omega)).setO _ (by omega)).setO _ (by omega)
 have hb : Below w.heap.size w ((((v4.setCell ⟨w.heap.size, 1, none⟩ (.int .i64 200)).setCell ⟨w.heap.size, 4, none⟩ (.string (strOf K))).setCell ⟨w.heap.size, 5, none⟩ (.slice A n c)).setCell ⟨w.heap.size, 3, none⟩ (.int .i64 (n : Int))) := (((HB4.out.setCell (p := ⟨w.heap.size, 1, none⟩) (Nat.le_refl _) _).setCell (p := ⟨w.heap.size, 4, none⟩) (Nat.le_refl _) _).setCell (p := ⟨w.heap.size, 5, none⟩) (Nat.le_refl _) _).setCell (p := ⟨w.heap.size, 3, none⟩) (Nat.le_refl _) _
 have ho : ((((v4.setCell ⟨w.heap.size, 1, none⟩ (.int .i64 200)).setCell ⟨w.heap.size, 4, none⟩ (.string (strOf K))).setCell ⟨w.heap.size, 5, none⟩ (.slice A n c)).setCell ⟨w.heap.size, 3, none⟩ (.int .i64 (n : Int))).ownsRow v3.heap.size 5 1 (.slice A n c) n (bcells L) := own_cell (own_cell (own_cell (own_cell HO4.out (by have := HS3'.out; omega)) (by have := HS3'.out; omega)) (by have := HS3'.out; omega)) (by have := HS3'.out; omega)
 generalize (((v4.setCell _ _).setCell _ _).setCell _ _).setCell _ _ = v5 at hx hr hb ho ⊢
 have XA5 := hid hx
 have XR5 := hid hr
 have HB5 := hid hb
 have HO5 := hid ho
 have HLD := hid (hx.load rfl)
 clear hx hr hb ho XA4 XR4 HO4 HB4 c0 c1 c2 c3 c4 c5 f0 f1 f2 f3 f4 f5
 go_wp2_with (first | refine load_as HLD.out (.tmp 3) rfl rfl rfl ?_ | refine store_ab XR5.out #[.int .i64 z, .int .i64 200, .int .i64 0, .int .i64 (n : Int), .string (strOf K), .slice A n c] rfl rfl (by simp [Value.oneCell']) (.tmp 6) (.tmp 26) rfl rfl rfl rfl ?_)
 try simp only [Exit.inBlock, Exit.then]
 have hr6 := XR5.out.row #[.int .i64 z, .int .i64 200, .int .i64 0, .int .i64 (n : Int), .string (strOf K), .slice A n c]
 have ho6 := own_setRow HO5.out (g := w.heap.size + 1) (by have := HS3'.out; omega) #[.int .i64 z, .int .i64 200, .int .i64 0, .int .i64 (n : Int), .string (strOf K), .slice A n c]
 have hb6 := below_setRow HB5.out (Nat.le_succ w.heap.size) #[.int .i64 z, .int .i64 200, .int .i64 0, .int .i64 (n : Int), .string (strOf K), .slice A n c]
 exact bodyPost_ret (w := World.setRow v5 (w.heap.size + 1) #[.int .i64 z, .int .i64 200, .int .i64 0, .int .i64 (n : Int), .string (strOf K), .slice A n c]) (res6 rfl hr6 rfl _ rfl) rfl ⟨A, c, rfl, owns_base ho6 (by have := HS3'.out; omega), hb6⟩
section
variable {z : Int} {n f l : Nat} {K : List UInt8} {w : World} {gf gl : Nat} {L : Nat → Bool} {t : Nat → Value} {wr wq : World} {x : Value}
end
end Go.Proofs.YtegpfgccaminkaaGreatDoor.FetB
namespace Go.Proofs.YtegpfgccaminkaaGreatDoor.SrtA
open Go.RowKit Base Base2 PrsP Ubx PrsC PrsD
def aboutOf (o : Bool) (t : List UInt8) : Int := if o = true ∧ t = [98, 108, 97, 110, 107] then 3 else if o = true ∧ t = [115, 114, 99, 100, 111, 99] then 4 else 5
def sortOf (u : U) : Int := if u.sch = [100, 97, 116, 97] then 0 else if u.sch = [98, 108, 111, 98] then 1 else if u.sch = [102, 105, 108, 101] then 2 else if u.sch = [97, 98, 111, 117, 116] then aboutOf u.opq u.txt else if u.sch = [106, 97, 118, 97, 115, 99, 114, 105, 112, 116] then 6 else 7
set_option maxRecDepth 100000 in
set_option maxHeartbeats 4000000 in
theorem about_any (u : U) (A : Option Addr) (n c : Nat) (w : World) : Calls Tryz.prog 80 #[.agg (cells u (.slice A n c))] w fun e w' => e = .returned (.int .i64 (aboutOf u.opq u.txt)) ∧ Below w.heap.size w w' := by
 obtain ⟨z, hz⟩ : ∃ z, z = aboutOf u.opq u.txt := ⟨_, rfl⟩
 rw [← hz]
 have HZ := hid hz
 clear hz
 cases ho : u.opq with
 | false =>
  have HE : Hid (z = 5) := by show _ = _; rw [HZ.out]; unfold aboutOf; simp [ho]
  go_enter Tryz.func80, Tryz.ntmps80
  go_upto_region 1 with (fail)
  generalize hw : World.alloc w _ = w1
  have h1 : UB w1 w.heap.size u (.slice A n c) ∧ Below w.heap.size w w1 := by
   subst hw
   exact laid1 w _ _
  clear hw
  obtain ⟨d0, d1, d2, d3, d4, d5, d6, d7, d8, d9, d10, d11, d12⟩ := h1.1.facts
  have HB := hid h1.2
  clear h1
  rw [ho] at d6
  clear ho
  go_wp2
  go_ret
  exact ⟨by rw [HE.out]; first | done | rfl, HB.out⟩
 | true =>
  by_cases h0 : u.txt = [98, 108, 97, 110, 107]
  ·
   have e0h0 : ((strOf u.txt).toList == [98, 108, 97, 110, 107]) = true := by rw [str_tl, h0]; first | done | rfl
   have e1h0 : (strOf u.txt).toList = [98, 108, 97, 110, 107] := by rw [str_tl, h0]; first | done | rfl
   have HE : Hid (z = 3) := by show _ = _; rw [HZ.out]; unfold aboutOf; simp [ho, h0]
   clear h0
   go_enter Tryz.func80, Tryz.ntmps80
   go_upto_region 1 with (fail)
   generalize hw : World.alloc w _ = w1
   have h1 : UB w1 w.heap.size u (.slice A n c) ∧ Below w.heap.size w w1 := by
    subst hw
    exact laid1 w _ _
   clear hw
   obtain ⟨d0, d1, d2, d3, d4, d5, d6, d7, d8, d9, d10, d11, d12⟩ := h1.1.facts
   have HB := hid h1.2
   clear h1
   rw [ho] at d6
   clear ho
   go_wp2
   go_ret
   exact ⟨by rw [HE.out]; first | done | rfl, HB.out⟩
  ·
   have e0h0 : ((strOf u.txt).toList == [98, 108, 97, 110, 107]) = false := by rw [str_tl, beq_eq_false_iff_ne]; exact h0
   have e1h0 : ¬ (strOf u.txt).toList = [98, 108, 97, 110, 107] := by rw [str_tl]; exact h0
   by_cases h1 : u.txt = [115, 114, 99, 100, 111, 99]
   ·
    have e0h1 : ((strOf u.txt).toList == [115, 114, 99, 100, 111, 99]) = true := by rw [str_tl, h1]; first | done | rfl
    have e1h1 : (strOf u.txt).toList = [115, 114, 99, 100, 111, 99] := by rw [str_tl, h1]; first | done | rfl
    have HE : Hid (z = 4) := by show _ = _; rw [HZ.out]; unfold aboutOf; simp [ho, h1]
    clear h0 h1
    go_enter Tryz.func80, Tryz.ntmps80
    go_upto_region 1 with (fail)
    generalize hw : World.alloc w _ = w1
    have h1 : UB w1 w.heap.size u (.slice A n c) ∧ Below w.heap.size w w1 := by
     subst hw
     exact laid1 w _ _
    clear hw
    obtain ⟨d0, d1, d2, d3, d4, d5, d6, d7, d8, d9, d10, d11, d12⟩ := h1.1.facts
    have HB := hid h1.2
    clear h1
    rw [ho] at d6
    clear ho
    go_wp2
    go_ret
    exact ⟨by rw [HE.out]; first | done | rfl, HB.out⟩
   ·
    have e0h1 : ((strOf u.txt).toList == [115, 114, 99, 100, 111, 99]) = false := by rw [str_tl, beq_eq_false_iff_ne]; exact h1
    have e1h1 : ¬ (strOf u.txt).toList = [115, 114, 99, 100, 111, 99] := by rw [str_tl]; exact h1
    have HE : Hid (z = 5) := by show _ = _; rw [HZ.out]; unfold aboutOf; simp [ho, h0, h1]
    clear h0 h1
    go_enter Tryz.func80, Tryz.ntmps80
    go_upto_region 1 with (fail)
    generalize hw : World.alloc w _ = w1
    have h1 : UB w1 w.heap.size u (.slice A n c) ∧ Below w.heap.size w w1 := by
     subst hw
     exact laid1 w _ _
    clear hw
    obtain ⟨d0, d1, d2, d3, d4, d5, d6, d7, d8, d9, d10, d11, d12⟩ := h1.1.facts
    have HB := hid h1.2
    clear h1
    rw [ho] at d6
    clear ho
    go_wp2
    go_ret
    exact ⟨by rw [HE.out]; first | done | rfl, HB.out⟩
set_option maxRecDepth 100000 in
set_option maxHeartbeats 4000000 in
theorem of_any (u : U) (A : Option Addr) (n c : Nat) (w : World) : Calls Tryz.prog 50 #[.agg (cells u (.slice A n c))] w fun e w' => e = .returned (.int .i64 (sortOf u)) ∧ Below w.heap.size w w' := by
 have HAB := hid (fun w => about_any u A n c w)
 obtain ⟨z, hz⟩ : ∃ z, z = sortOf u := ⟨_, rfl⟩
 rw [← hz]
 have HZ := hid hz
 clear hz
 by_cases h0 : u.sch = [100, 97, 116, 97]
 ·
  have e0h0 : ((strOf u.sch).toList == [100, 97, 116, 97]) = true := by rw [str_tl, h0]; first | done | rfl
  have e1h0 : (strOf u.sch).toList = [100, 97, 116, 97] := by rw [str_tl, h0]; first | done | rfl
  have HE : Hid (z = 0) := by show _ = _; rw [HZ.out]; unfold sortOf; simp [h0]
  clear h0
  go_enter Tryz.func50, Tryz.ntmps50
  go_upto_region 1 with (fail)
  generalize hw : World.alloc w _ = w1
  have h1 : UB w1 w.heap.size u (.slice A n c) ∧ Below w.heap.size w w1 := by
   subst hw
   exact laid1 w _ _
  clear hw
  obtain ⟨d0, d1, d2, d3, d4, d5, d6, d7, d8, d9, d10, d11, d12⟩ := h1.1.facts
  have HB := hid h1.2
  clear h1
  go_wp2
  go_ret
  exact ⟨by rw [HE.out]; first | done | rfl, HB.out⟩
 ·
  have e0h0 : ((strOf u.sch).toList == [100, 97, 116, 97]) = false := by rw [str_tl, beq_eq_false_iff_ne]; exact h0
  have e1h0 : ¬ (strOf u.sch).toList = [100, 97, 116, 97] := by rw [str_tl]; exact h0
  by_cases h1 : u.sch = [98, 108, 111, 98]
  ·
   have e0h1 : ((strOf u.sch).toList == [98, 108, 111, 98]) = true := by rw [str_tl, h1]; first | done | rfl
   have e1h1 : (strOf u.sch).toList = [98, 108, 111, 98] := by rw [str_tl, h1]; first | done | rfl
   have HE : Hid (z = 1) := by show _ = _; rw [HZ.out]; unfold sortOf; simp [h0, h1]
   clear h0 h1
   go_enter Tryz.func50, Tryz.ntmps50
   go_upto_region 1 with (fail)
   generalize hw : World.alloc w _ = w1
   have h1 : UB w1 w.heap.size u (.slice A n c) ∧ Below w.heap.size w w1 := by
    subst hw
    exact laid1 w _ _
   clear hw
   obtain ⟨d0, d1, d2, d3, d4, d5, d6, d7, d8, d9, d10, d11, d12⟩ := h1.1.facts
   have HB := hid h1.2
   clear h1
   go_wp2
   go_ret
   exact ⟨by rw [HE.out]; first | done | rfl, HB.out⟩
  ·
   have e0h1 : ((strOf u.sch).toList == [98, 108, 111, 98]) = false := by rw [str_tl, beq_eq_false_iff_ne]; exact h1
   have e1h1 : ¬ (strOf u.sch).toList = [98, 108, 111, 98] := by rw [str_tl]; exact h1
   by_cases h2 : u.sch = [102, 105, 108, 101]
   ·
    have e0h2 : ((strOf u.sch).toList == [102, 105, 108, 101]) = true := by rw [str_tl, h2]; first | done | rfl
    have e1h2 : (strOf u.sch).toList = [102, 105, 108, 101] := by rw [str_tl, h2]; first | done | rfl
    have HE : Hid (z = 2) := by show _ = _; rw [HZ.out]; unfold sortOf; simp [h0, h1, h2]
    clear h0 h1 h2
    go_enter Tryz.func50, Tryz.ntmps50
    go_upto_region 1 with (fail)
    generalize hw : World.alloc w _ = w1
    have h1 : UB w1 w.heap.size u (.slice A n c) ∧ Below w.heap.size w w1 := by
     subst hw
     exact laid1 w _ _
    clear hw
    obtain ⟨d0, d1, d2, d3, d4, d5, d6, d7, d8, d9, d10, d11, d12⟩ := h1.1.facts
    have HB := hid h1.2
    clear h1
    go_wp2
    go_ret
    exact ⟨by rw [HE.out]; first | done | rfl, HB.out⟩
   ·
    have e0h2 : ((strOf u.sch).toList == [102, 105, 108, 101]) = false := by rw [str_tl, beq_eq_false_iff_ne]; exact h2
    have e1h2 : ¬ (strOf u.sch).toList = [102, 105, 108, 101] := by rw [str_tl]; exact h2
    by_cases h3 : u.sch = [97, 98, 111, 117, 116]
    ·
     have e0h3 : ((strOf u.sch).toList == [97, 98, 111, 117, 116]) = true := by rw [str_tl, h3]; first | done | rfl
     have e1h3 : (strOf u.sch).toList = [97, 98, 111, 117, 116] := by rw [str_tl, h3]; first | done | rfl
     have HE : Hid (z = aboutOf u.opq u.txt) := by show _ = _; rw [HZ.out]; unfold sortOf; simp [h0, h1, h2, h3]
     clear h0 h1 h2 h3
     go_enter Tryz.func50, Tryz.ntmps50
     go_upto_region 1 with (fail)
     generalize hw : World.alloc w _ = w1
     have h1 : UB w1 w.heap.size u (.slice A n c) ∧ Below w.heap.size w w1 := by
      subst hw
      exact laid1 w _ _
     clear hw
     obtain ⟨d0, d1, d2, d3, d4, d5, d6, d7, d8, d9, d10, d11, d12⟩ := h1.1.facts
     have HB := hid h1.2
     clear h1
     go_wp2_with fail
     clear d0 d1 d2 d3 d4 d5 d6 d7 d8 d9 d10 d11 d12
     refine (HAB.out _).mono ?_
     rintro e w2 ⟨rfl, hb2⟩
     have HB2 := hid (bel HB.out hb2)
     clear hb2
     go_wp2
     go_ret
     exact ⟨by rw [HE.out]; first | done | rfl, HB2.out⟩
    ·
     have e0h3 : ((strOf u.sch).toList == [97, 98, 111, 117, 116]) = false := by rw [str_tl, beq_eq_false_iff_ne]; exact h3
     have e1h3 : ¬ (strOf u.sch).toList = [97, 98, 111, 117, 116] := by rw [str_tl]; exact h3
     by_cases h4 : u.sch = [106, 97, 118, 97, 115, 99, 114, 105, 112, 116]
     ·
      have e0h4 : ((strOf u.sch).toList == [106, 97, 118, 97, 115, 99, 114, 105, 112, 116]) = true := by rw [str_tl, h4]; first | done | rfl
      have e1h4 : (strOf u.sch).toList = [106, 97, 118, 97, 115, 99, 114, 105, 112, 116] := by rw [str_tl, h4]; first | done | rfl
      have HE : Hid (z = 6) := by show _ = _; rw [HZ.out]; unfold sortOf; simp [h0, h1, h2, h3, h4]
      clear h0 h1 h2 h3 h4
      go_enter Tryz.func50, Tryz.ntmps50
      go_upto_region 1 with (fail)
      generalize hw : World.alloc w _ = w1
      have h1 : UB w1 w.heap.size u (.slice A n c) ∧ Below w.heap.size w w1 := by
       subst hw
       exact laid1 w _ _
      clear hw
      obtain ⟨d0, d1, d2, d3, d4, d5, d6, d7, d8, d9, d10, d11, d12⟩ := h1.1.facts
      have HB := hid h1.2
      clear h1
      go_wp2
      go_ret
      exact ⟨by rw [HE.out]; first | done | rfl, HB.out⟩
     ·
      have e0h4 : ((strOf u.sch).toList == [106, 97, 118, 97, 115, 99, 114, 105, 112, 116]) = false := by rw [str_tl, beq_eq_false_iff_ne]; exact h4
      have e1h4 : ¬ (strOf u.sch).toList = [106, 97, 118, 97, 115, 99, 114, 105, 112, 116] := by rw [str_tl]; exact h4
      have HE : Hid (z = 7) := by show _ = _; rw [HZ.out]; unfold sortOf; simp [h0, h1, h2, h3, h4]
      clear h0 h1 h2 h3 h4
      go_enter Tryz.func50, Tryz.ntmps50
      go_upto_region 1 with (fail)
      generalize hw : World.alloc w _ = w1
      have h1 : UB w1 w.heap.size u (.slice A n c) ∧ Below w.heap.size w w1 := by
       subst hw
       exact laid1 w _ _
      clear hw
      obtain ⟨d0, d1, d2, d3, d4, d5, d6, d7, d8, d9, d10, d11, d12⟩ := h1.1.facts
      have HB := hid h1.2
      clear h1
      go_wp2
      go_ret
      exact ⟨by rw [HE.out]; first | done | rfl, HB.out⟩
end Go.Proofs.YtegpfgccaminkaaGreatDoor.SrtA
