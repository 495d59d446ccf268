/- Texts that belong together: FetB, SrtA. -/
import Derived.Test.YtegpfgccaminkaaGreatDoorUAH
import Derived.Test.YtegpfgccaminkaaGreatDoorUAP
import Derived.Test.YtegpfgccaminkaaGreatDoorUAF
import Derived.Test.YtegpfgccaminkaaGreatDoorUAI
import Derived.Test.YtegpfgccaminkaaGreatDoorUAK
set_option linter.unusedSimpArgs false
set_option linter.unusedVariables false
namespace Go.Proofs.YtegpfgccaminkaaGreatDoor.FetB
open Go.RowKit Base Base2 Regs BlobA BlobB BlobC BlobD BlobK Ubx LdA
set_option linter.unusedSimpArgs false
set_option linter.unusedVariables false
def AB (w : World) (g : Nat) (cs : Array Value) : Prop := w.heap[g]? = some (.cells cs 56 (0, 0))
section
variable {w w' : World} {g : Nat} {cs : Array Value}
theorem AB.lt (h : AB w g cs) : g < w.heap.size := (Array.getElem?_eq_some_iff.1 h).1
theorem AB.below (h : AB w g cs) (hb : Below w.heap.size w w') : AB w' g cs := (hb.block g h.lt).trans h
theorem AB.load (h : AB w g cs) (hs : cs.size = 6) : (loadVar 56 ⟨g, 0, none⟩).run Tryz.prog w = .ok (.agg cs) w :=
 run_loadVar_row w g _ _ cs (0, 0) _ h Tryz.underlying56 rfl (by rw [hs]; kernel_rfl)
theorem AB.set (h : AB w g cs) (i : Nat) (x : Value) : AB (w.setCell ⟨g, i, none⟩ x) g (cs.setIfInBounds i x) := heap_setCell_same w g i _ _ x h
theorem AB.setO (h : AB w g cs) {k i : Nat} (x : Value) (hk : g ≠ k) : AB (w.setCell ⟨k, i, none⟩ x) g cs := (heap_setCell_other w ⟨k, i, none⟩ g x hk).trans h
theorem AB.row (h : AB w g cs) (ds : Array Value) : AB (w.setRow g ds) g ds := setRow_heap w g cs ds _ (0, 0) h
theorem AB.facts {a b c d e f : Value} (h : AB w g #[a, b, c, d, e, f]) : w.cell? ⟨g, 0, none⟩ = some a ∧ w.cell? ⟨g, 1, none⟩ = some b ∧ w.cell? ⟨g, 2, none⟩ = some c ∧ w.cell? ⟨g, 3, none⟩ = some d ∧ w.cell? ⟨g, 4, none⟩ = some e ∧ w.cell? ⟨g, 5, none⟩ = some f :=
 ⟨cell_of_row w g 0 _ _ _ h, cell_of_row w g 1 _ _ _ h, cell_of_row w g 2 _ _ _ h, cell_of_row w g 3 _ _ _ h, cell_of_row w g 4 _ _ _ h, cell_of_row w g 5 _ _ _ h⟩
theorem AB.thaw (h : AB w g cs) : w.frozen? ⟨g, 0, none⟩ = false ∧ w.frozen? ⟨g, 1, none⟩ = false ∧ w.frozen? ⟨g, 2, none⟩ = false ∧ w.frozen? ⟨g, 3, none⟩ = false ∧ w.frozen? ⟨g, 4, none⟩ = false ∧ w.frozen? ⟨g, 5, none⟩ = false :=
 ⟨frozen_of_row w g 0 _ _ h, frozen_of_row w g 1 _ _ h, frozen_of_row w g 2 _ _ h, frozen_of_row w g 3 _ _ h, frozen_of_row w g 4 _ _ h, frozen_of_row w g 5 _ _ h⟩
theorem store_ab {ops : Array Oper} {rest : List Oper} {o : Oper} {a : Act} {Q : Exit → Act → World → Prop} (hU : AB w g cs) (ds : Array Value) (hs : cs.size = 6) (hs2 : ds.size = 6) (h1 : ds.all (·.oneCell') = true) (x y : Operand) (ho : o.op = .store 56 x y) (hgd : o.guard = none)
  (hx : a.eval x = .pointer (some ⟨g, 0, none⟩)) (hy : a.eval y = .agg ds)
  (hh : wpList Tryz.prog ops Q rest (a.put o.dst undef) (w.setRow g ds)) : wpList Tryz.prog ops Q (o :: rest) a w :=
 wpList_store_row hgd 56 x y ho g ds hx hy 56 cs hU (by rw [hs2]; kernel_rfl) (by rw [hs, hs2]) h1 hh
theorem res6 {fn : Func} {a : Tmp} (h : fn.results = #[.cell a 56]) (hU : AB w g cs) (hs : cs.size = 6) (tmps : Array Value) (h2 : tmps.getD a undef = .pointer (some ⟨g, 0, none⟩)) :
  (results fn tmps).run Tryz.prog w = .ok (.agg cs) w :=
 results_cell_row h tmps w g _ cs (0, 0) _ h2 hU Tryz.underlying56 rfl (by rw [hs]; kernel_rfl)
end
open Go.Proofs.YtegpfgccaminkaaGreatDoor.SpnP (says)
open Go.Proofs.YtegpfgccaminkaaGreatDoor.SpnB (ofB)
theorem own_cell {w : World} {B n i g : Nat} {e : TypeId} {v x : Value} {xs : List Value} (h : w.ownsRow B e 1 v n xs) (hg : g < B) : (w.setCell ⟨g, i, none⟩ x).ownsRow B e 1 v n xs := by
 refine ⟨h.1, ?_⟩
 rcases h.2 with h' | ⟨b, cap, cur, rfl, hB, hb, r⟩
 ·exact .inl h'
 ·exact .inr ⟨b, cap, cur, rfl, hB, (heap_setCell_other w ⟨g, i, none⟩ b x (by show b ≠ g; omega)).trans hb, r⟩
theorem own_setRow {w : World} {B n g : Nat} {e : TypeId} {v : Value} {xs : List Value} (h : w.ownsRow B e 1 v n xs) (hg : g < B) (ds : Array Value) : (w.setRow g ds).ownsRow B e 1 v n xs := by
 refine ⟨h.1, ?_⟩
 rcases h.2 with h' | ⟨b, cap, cur, rfl, hB, hb, r⟩
 ·exact .inl h'
 ·exact .inr ⟨b, cap, cur, rfl, hB, (setRow_other w g b ds (by omega)).trans hb, r⟩
theorem whole_any (z : Int) (g n : Nat) (L K : List UInt8) (w : World) (hB : BlobAt w g n L K) (hn : n ≤ 100000000) : Calls Tryz.prog 53 #[.agg #[.int .i64 z, .int .i64 0, .int .i64 0, .int .i64 0, .string ⟨#[]⟩, .slice none 0 0], .pointer (some ⟨g, 0, none⟩), .pointer none] w fun e w' => ∃ A c, e = .returned (.agg #[.int .i64 z, .int .i64 200, .int .i64 0, .int .i64 (n : Int), .string (strOf K), .slice A n c]) ∧ w'.ownsRow w.heap.size 5 1 (.slice A n c) n (bcells L) ∧ Below w.heap.size w w' := by
 have hni : (n : Int) ≤ 100000000 := by omega
 go_enter Tryz.func53, Tryz.ntmps53
 go_upto_region 1 with (fail)
 generalize hwa : World.alloc (World.alloc w _) _ = v1
 have h1_ : AB v1 w.heap.size #[.int .i64 z, .int .i64 0, .int .i64 0, .int .i64 0, .string ⟨#[]⟩, .slice none 0 0] ∧ AB v1 (w.heap.size + 1) #[.int .i64 0, .int .i64 0, .int .i64 0, .int .i64 0, .string ⟨#[]⟩, .slice none 0 0] ∧ Below w.heap.size w v1 := by
  subst hwa
  exact laid2 w _ _ _ _
 clear hwa
 have XA1 := hid h1_.1
 have XR1 := hid h1_.2.1
 have HB1 := hid h1_.2.2
 have HS1 := hid (hB.below h1_.2.2)
 clear h1_ hB
 go_wp2_with fail
 refine (len_any g n _ _ _ HS1.out).mono ?_
 rintro e v2 ⟨rfl, hb2⟩
 have XA2 := hid (XA1.out.below hb2)
 have XR2 := hid (XR1.out.below hb2)
 have HS2 := hid (HS1.out.below hb2)
 have HB2 := hid (bel HB1.out hb2)
 clear XA1 XR1 HS1 HB1 hb2
 go_wp2_with fail
 refine (kindm_any g n L K _ HS2.out).mono ?_
 rintro e v3 ⟨rfl, hb3⟩
 have XA3 := hid (XA2.out.below hb3)
 have XR3 := hid (XR2.out.below hb3)
 have HS3 := hid (HS2.out.below hb3)
 have HB3 := hid (bel HB2.out hb3)
 clear XA2 XR2 HS2 HB2 hb3
 go_wp2_with fail
 refine (bytes_any g n L K _ HS3.out (by omega)).mono ?_
 rintro e v4 ⟨v, rfl, hown, hb4⟩
 have XA4 := hid (XA3.out.below hb4)
 have XR4 := hid (XR3.out.below hb4)
 have HB4 := hid (bel HB3.out hb4)
 have HS3' : Hid (w.heap.size + 1 < v3.heap.size) := XR3.out.lt
 obtain ⟨A, c, rfl, hc, hm, _⟩ := owns_form hown
 have HO4 := hid hown
 clear XA3 XR3 HB3 HS3 hown hb4
 obtain ⟨c0, c1, c2, c3, c4, c5⟩ := XA4.out.facts
 obtain ⟨f0, f1, f2, f3, f4, f5⟩ := XA4.out.thaw
 go_upto_region 4 with (fail)
 have hx : AB ((((v4.setCell ⟨w.heap.size, 1, none⟩ (.int .i64 200)).setCell ⟨w.heap.size, 4, none⟩ (.string (strOf K))).setCell ⟨w.heap.size, 5, none⟩ (.slice A n c)).setCell ⟨w.heap.size, 3, none⟩ (.int .i64 (n : Int))) w.heap.size #[.int .i64 z, .int .i64 200, .int .i64 0, .int .i64 (n : Int), .string (strOf K), .slice A n c] := (((XA4.out.set 1 _).set 4 _).set 5 _).set 3 _
 have hr : AB ((((v4.setCell ⟨w.heap.size, 1, none⟩ (.int .i64 200)).setCell ⟨w.heap.size, 4, none⟩ (.string (strOf K))).setCell ⟨w.heap.size, 5, none⟩ (.slice A n c)).setCell ⟨w.heap.size, 3, none⟩ (.int .i64 (n : Int))) (w.heap.size + 1) #[.int .i64 0, .int .i64 0, .int .i64 0, .int .i64 0, .string ⟨#[]⟩, .slice none 0 0] := (((XR4.out.setO _ (by omega)).setO _ (by omega)).setO _ (by omega)).setO _ (by omega)
 have hb : Below w.heap.size w ((((v4.setCell ⟨w.heap.size, 1, none⟩ (.int .i64 200)).setCell ⟨w.heap.size, 4, none⟩ (.string (strOf K))).setCell ⟨w.heap.size, 5, none⟩ (.slice A n c)).setCell ⟨w.heap.size, 3, none⟩ (.int .i64 (n : Int))) := (((HB4.out.setCell (p := ⟨w.heap.size, 1, none⟩) (Nat.le_refl _) _).setCell (p := ⟨w.heap.size, 4, none⟩) (Nat.le_refl _) _).setCell (p := ⟨w.heap.size, 5, none⟩) (Nat.le_refl _) _).setCell (p := ⟨w.heap.size, 3, none⟩) (Nat.le_refl _) _
 have ho : ((((v4.setCell ⟨w.heap.size, 1, none⟩ (.int .i64 200)).setCell ⟨w.heap.size, 4, none⟩ (.string (strOf K))).setCell ⟨w.heap.size, 5, none⟩ (.slice A n c)).setCell ⟨w.heap.size, 3, none⟩ (.int .i64 (n : Int))).ownsRow v3.heap.size 5 1 (.slice A n c) n (bcells L) := own_cell (own_cell (own_cell (own_cell HO4.out (by have := HS3'.out; omega)) (by have := HS3'.out; omega)) (by have := HS3'.out; omega)) (by have := HS3'.out; omega)
 generalize (((v4.setCell _ _).setCell _ _).setCell _ _).setCell _ _ = v5 at hx hr hb ho ⊢
 have XA5 := hid hx
 have XR5 := hid hr
 have HB5 := hid hb
 have HO5 := hid ho
 have HLD := hid (hx.load rfl)
 clear hx hr hb ho XA4 XR4 HO4 HB4 c0 c1 c2 c3 c4 c5 f0 f1 f2 f3 f4 f5
 go_wp2_with (first | refine load_as HLD.out (.tmp 3) rfl rfl rfl ?_ | refine store_ab XR5.out #[.int .i64 z, .int .i64 200, .int .i64 0, .int .i64 (n : Int), .string (strOf K), .slice A n c] rfl rfl (by simp [Value.oneCell']) (.tmp 6) (.tmp 26) rfl rfl rfl rfl ?_)
 try simp only [Exit.inBlock, Exit.then]
 have hr6 := XR5.out.row #[.int .i64 z, .int .i64 200, .int .i64 0, .int .i64 (n : Int), .string (strOf K), .slice A n c]
 have ho6 := own_setRow HO5.out (g := w.heap.size + 1) (by have := HS3'.out; omega) #[.int .i64 z, .int .i64 200, .int .i64 0, .int .i64 (n : Int), .string (strOf K), .slice A n c]
 have hb6 := below_setRow HB5.out (Nat.le_succ w.heap.size) #[.int .i64 z, .int .i64 200, .int .i64 0, .int .i64 (n : Int), .string (strOf K), .slice A n c]
 exact bodyPost_ret (w := World.setRow v5 (w.heap.size + 1) #[.int .i64 z, .int .i64 200, .int .i64 0, .int .i64 (n : Int), .string (strOf K), .slice A n c]) (res6 rfl hr6 rfl _ rfl) rfl ⟨A, c, rfl, owns_base ho6 (by have := HS3'.out; omega), hb6⟩
structure GB (z : Int) (n f l : Nat) (K : List UInt8) (w : World) (gf gl : Nat) (L : Nat → Bool) (t : Nat → Value) (wr : World) : Prop where
 below : Below w.heap.size w wr
 box : AB wr w.heap.size #[.int .i64 z, .int .i64 (if L 4 = true then 206 else 0), .int .i64 (if L 8 = true then (f : Int) else 0), .int .i64 (n : Int), .string (if L 6 = true then strOf K else ⟨#[]⟩), .slice none 0 0]
 res : AB wr (w.heap.size + 1) #[.int .i64 0, .int .i64 0, .int .i64 0, .int .i64 0, .string ⟨#[]⟩, .slice none 0 0]
 fst : wr.heap[gf]? = some (.cells #[.int .i64 (f : Int)] 2 (0, 0))
 lst : wr.heap[gl]? = some (.cells #[.int .i64 ((l : Int) + 1)] 2 (0, 0))
section
variable {z : Int} {n f l : Nat} {K : List UInt8} {w : World} {gf gl : Nat} {L : Nat → Bool} {t : Nat → Value} {wr wq : World} {x : Value}
theorem gp_stab (i : Nat) (hi : (i == 4 || i == 6 || i == 8) = false) (hb : Below wr.heap.size wr wq) (h : GB z n f l K w gf gl L t wr) : GB z n f l K w gf gl (did L i) (upd t i x) wq := by
 simp only [Bool.or_eq_false_iff, beq_eq_false_iff_ne] at hi
 refine ⟨bel h.below hb, ?_, h.res.below hb, (hb.block _ (Array.getElem?_eq_some_iff.1 h.fst).1).trans h.fst, (hb.block _ (Array.getElem?_eq_some_iff.1 h.lst).1).trans h.lst⟩
 rw [did_ne L (Ne.symm hi.1.1), did_ne L (Ne.symm hi.1.2), did_ne L (Ne.symm hi.2)]
 exact h.box.below hb
theorem gp_put (i c : Nat) (v : Value) (h : GB z n f l K w gf gl L t wr) (hgf : gf ≠ w.heap.size) (hgl : gl ≠ w.heap.size)
  (hbx : AB (wr.setCell ⟨w.heap.size, c, none⟩ v) w.heap.size #[.int .i64 z, .int .i64 (if did L i 4 = true then 206 else 0), .int .i64 (if did L i 8 = true then (f : Int) else 0), .int .i64 (n : Int), .string (if did L i 6 = true then strOf K else ⟨#[]⟩), .slice none 0 0]) : GB z n f l K w gf gl (did L i) (upd t i x) (wr.setCell ⟨w.heap.size, c, none⟩ v) :=
 ⟨h.below.setCell (p := ⟨w.heap.size, c, none⟩) (Nat.le_refl _) _, hbx, h.res.setO _ (by omega), (heap_setCell_other wr ⟨w.heap.size, c, none⟩ _ _ hgf).trans h.fst, (heap_setCell_other wr ⟨w.heap.size, c, none⟩ _ _ hgl).trans h.lst⟩
theorem gp_put4 (h : GB z n f l K w gf gl L t wr) (hgf : gf ≠ w.heap.size) (hgl : gl ≠ w.heap.size) : GB z n f l K w gf gl (did L 4) (upd t 4 x) (wr.setCell ⟨w.heap.size, 1, none⟩ (.int .i64 206)) :=
 gp_put 4 1 _ h hgf hgl (by rw [did_self L 4, did_ne L (show 8 ≠ 4 by decide), did_ne L (show 6 ≠ 4 by decide)]; exact h.box.set 1 _)
theorem gp_put6 (h : GB z n f l K w gf gl L t wr) (hgf : gf ≠ w.heap.size) (hgl : gl ≠ w.heap.size) : GB z n f l K w gf gl (did L 6) (upd t 6 x) (wr.setCell ⟨w.heap.size, 4, none⟩ (.string (strOf K))) :=
 gp_put 6 4 _ h hgf hgl (by rw [did_self L 6, did_ne L (show 4 ≠ 6 by decide), did_ne L (show 8 ≠ 6 by decide)]; exact h.box.set 4 _)
theorem gp_put8 (h : GB z n f l K w gf gl L t wr) (hgf : gf ≠ w.heap.size) (hgl : gl ≠ w.heap.size) : GB z n f l K w gf gl (did L 8) (upd t 8 x) (wr.setCell ⟨w.heap.size, 2, none⟩ (.int .i64 (f : Int))) :=
 gp_put 8 2 _ h hgf hgl (by rw [did_self L 8, did_ne L (show 4 ≠ 8 by decide), did_ne L (show 6 ≠ 8 by decide)]; exact h.box.set 2 _)
end
set_option maxRecDepth 100000 in
set_option maxHeartbeats 4000000 in
theorem range_beyond (z : Int) (g n : Nat) (BL KD : List UInt8) (sp : Addr) (s : ByteArray) (w : World) (hB : BlobAt w g n BL KD) (hn : n ≤ 100000000) (hsp : w.cell? sp = some (.string s)) (hss : s.size ≤ 1073741824) (F T : Int) (hf ht : Bool) (ho : says s.data.toList = (F, T, hf, ht, true)) (hF : 0 ≤ F ∧ F ≤ 4611686018427387904) (hT : 0 ≤ T ∧ T ≤ 4611686018427387904) (hq : (ofB F T hf ht (n : Int)).2.2 = false) : Calls Tryz.prog 53 #[.agg #[.int .i64 z, .int .i64 0, .int .i64 0, .int .i64 0, .string ⟨#[]⟩, .slice none 0 0], .pointer (some ⟨g, 0, none⟩), .pointer (some sp)] w fun e w' => e = .returned (.agg #[.int .i64 z, .int .i64 416, .int .i64 0, .int .i64 (n : Int), .string ⟨#[]⟩, .slice none 0 0]) ∧ Below w.heap.size w w' := by
 have hni : (n : Int) ≤ 100000000 := by omega
 have HSP := hid hsp
 have hspl := World.block_lt_of_cell? w _ hsp
 clear hsp
 have HSY := hid ho
 clear ho
 go_enter Tryz.func53, Tryz.ntmps53
 go_upto_region 1 with (fail)
 generalize hwa : World.alloc (World.alloc w _) _ = v1
 have h1_ : AB v1 w.heap.size #[.int .i64 z, .int .i64 0, .int .i64 0, .int .i64 0, .string ⟨#[]⟩, .slice none 0 0] ∧ AB v1 (w.heap.size + 1) #[.int .i64 0, .int .i64 0, .int .i64 0, .int .i64 0, .string ⟨#[]⟩, .slice none 0 0] ∧ Below w.heap.size w v1 := by
  subst hwa
  exact laid2 w _ _ _ _
 clear hwa
 have XA1 := hid h1_.1
 have XR1 := hid h1_.2.1
 have HB1 := hid h1_.2.2
 have HS1 := hid (hB.below h1_.2.2)
 clear h1_ hB
 go_wp2_with fail
 refine (len_any g n _ _ _ HS1.out).mono ?_
 rintro e v2 ⟨rfl, hb2⟩
 have XA2 := hid (XA1.out.below hb2)
 have XR2 := hid (XR1.out.below hb2)
 have HS2 := hid (HS1.out.below hb2)
 have HB2 := hid (bel HB1.out hb2)
 clear XA1 XR1 HS1 HB1 hb2
 have HSP2 := hid ((HB2.out.cell hspl).trans HSP.out)
 have hsp2 := HSP2.out
 go_wp2_with fail
 refine (SpnC.parse_any s _ hss).mono ?_
 rw [HSY.out]
 rintro e v3 ⟨rfl, hb3⟩
 have XA3 := hid (XA2.out.below hb3)
 have XR3 := hid (XR2.out.below hb3)
 have HS3 := hid (HS2.out.below hb3)
 have HB3 := hid (bel HB2.out hb3)
 clear XA2 XR2 HS2 HB2 hb3 hsp2 HSP2 HSP
 dsimp only
 go_upto_region 6 with (fail)
 generalize hwb : World.alloc v3 _ = v4
 have h4_ : v4.heap[v3.heap.size]? = some (.cells #[.int .i64 F, .int .i64 T, .bool hf, .bool ht] 169 (0, 0)) ∧ Below v3.heap.size v3 v4 := by
  subst hwb
  exact laid1 v3 _ _
 clear hwb
 have XA4 := hid (XA3.out.below h4_.2)
 have XR4 := hid (XR3.out.below h4_.2)
 have HS4 := hid (HS3.out.below h4_.2)
 have HB4 := hid (bel HB3.out h4_.2)
 have XG4 := hid h4_.1
 have HV3 : Hid (w.heap.size + 1 < v3.heap.size) := XR3.out.lt
 clear h4_ XA3 XR3 HS3 HB3
 obtain ⟨c0, c1, c2, c3, c4, c5⟩ := XA4.out.facts
 obtain ⟨f0, f1, f2, f3, f4, f5⟩ := XA4.out.thaw
 go_upto_region 9 with (fail)
 have hx : AB (v4.setCell ⟨w.heap.size, 3, none⟩ (.int .i64 (n : Int))) w.heap.size #[.int .i64 z, .int .i64 0, .int .i64 0, .int .i64 (n : Int), .string ⟨#[]⟩, .slice none 0 0] := XA4.out.set 3 _
 have hr : AB (v4.setCell ⟨w.heap.size, 3, none⟩ (.int .i64 (n : Int))) (w.heap.size + 1) #[.int .i64 0, .int .i64 0, .int .i64 0, .int .i64 0, .string ⟨#[]⟩, .slice none 0 0] := XR4.out.setO _ (by omega)
 have hb : Below w.heap.size w (v4.setCell ⟨w.heap.size, 3, none⟩ (.int .i64 (n : Int))) := HB4.out.setCell (p := ⟨w.heap.size, 3, none⟩) (Nat.le_refl _) _
 have hg : (v4.setCell ⟨w.heap.size, 3, none⟩ (.int .i64 (n : Int))).heap[v3.heap.size]? = some (.cells #[.int .i64 F, .int .i64 T, .bool hf, .bool ht] 169 (0, 0)) := (heap_setCell_other v4 ⟨w.heap.size, 3, none⟩ _ _ (by have := HV3.out; show v3.heap.size ≠ w.heap.size; omega)).trans XG4.out
 generalize v4.setCell _ _ = v5 at hx hr hb hg ⊢
 have XA5 := hid hx
 have XR5 := hid hr
 have HB5 := hid hb
 have XG5 := hid hg
 clear hx hr hb hg XA4 XR4 HB4 XG4 c0 c1 c2 c3 c4 c5 f0 f1 f2 f3 f4 f5 HS4
 obtain ⟨g0, g1, g2, g3⟩ : v5.cell? ⟨v3.heap.size, 0, none⟩ = some (.int .i64 F) ∧ v5.cell? ⟨v3.heap.size, 1, none⟩ = some (.int .i64 T) ∧ v5.cell? ⟨v3.heap.size, 2, none⟩ = some (.bool hf) ∧ v5.cell? ⟨v3.heap.size, 3, none⟩ = some (.bool ht) := ⟨cell_of_row v5 _ 0 _ _ _ XG5.out, cell_of_row v5 _ 1 _ _ _ XG5.out, cell_of_row v5 _ 2 _ _ _ XG5.out, cell_of_row v5 _ 3 _ _ _ XG5.out⟩
 go_wp2_with fail
 refine (SpnB.of_any F T hf ht (n : Int) _ (by omega) (by omega) (by omega)).mono ?_
 obtain ⟨x1, x2, hx⟩ : ∃ x1 x2, ofB F T hf ht (n : Int) = (x1, x2, false) := ⟨_, _, by rw [← hq]⟩
 rw [hx]
 rintro e v6 ⟨rfl, hb6⟩
 have XA6 := hid (XA5.out.below hb6)
 have XR6 := hid (XR5.out.below hb6)
 have HB6 := hid (bel HB5.out hb6)
 clear XA5 XR5 HB5 XG5 hb6 g0 g1 g2 g3 hx hq
 dsimp only
 go_upto_region 10 with (fail)
 generalize hwb : World.alloc v6 _ = v7
 have h7_ : Below v6.heap.size v6 v7 := by
  subst hwb
  exact (Below.refl _ _).alloc (Nat.le_refl _) _
 clear hwb
 have XA7 := hid (XA6.out.below h7_)
 have XR7 := hid (XR6.out.below h7_)
 have HB7 := hid (bel HB6.out h7_)
 clear h7_ XA6 XR6 HB6
 obtain ⟨c0, c1, c2, c3, c4, c5⟩ := XA7.out.facts
 obtain ⟨f0, f1, f2, f3, f4, f5⟩ := XA7.out.thaw
 go_upto_region 12 with (fail)
 have hx : AB (v7.setCell ⟨w.heap.size, 1, none⟩ (.int .i64 416)) w.heap.size #[.int .i64 z, .int .i64 416, .int .i64 0, .int .i64 (n : Int), .string ⟨#[]⟩, .slice none 0 0] := XA7.out.set 1 _
 have hr : AB (v7.setCell ⟨w.heap.size, 1, none⟩ (.int .i64 416)) (w.heap.size + 1) #[.int .i64 0, .int .i64 0, .int .i64 0, .int .i64 0, .string ⟨#[]⟩, .slice none 0 0] := XR7.out.setO _ (by omega)
 have hb : Below w.heap.size w (v7.setCell ⟨w.heap.size, 1, none⟩ (.int .i64 416)) := HB7.out.setCell (p := ⟨w.heap.size, 1, none⟩) (Nat.le_refl _) _
 generalize v7.setCell _ _ = v8 at hx hr hb ⊢
 have XR8 := hid hr
 have HB8 := hid hb
 have HLD := hid (hx.load rfl)
 clear hx hr hb XA7 XR7 HB7 c0 c1 c2 c3 c4 c5 f0 f1 f2 f3 f4 f5
 go_wp2_with (first | refine load_as HLD.out (.tmp 3) rfl rfl rfl ?_ | refine store_ab XR8.out #[.int .i64 z, .int .i64 416, .int .i64 0, .int .i64 (n : Int), .string ⟨#[]⟩, .slice none 0 0] rfl rfl (by simp [Value.oneCell']) (.tmp 6) (.tmp 49) rfl rfl rfl rfl ?_)
 try simp only [Exit.inBlock, Exit.then]
 exact bodyPost_ret (w := World.setRow v8 (w.heap.size + 1) #[.int .i64 z, .int .i64 416, .int .i64 0, .int .i64 (n : Int), .string ⟨#[]⟩, .slice none 0 0]) (res6 rfl (XR8.out.row #[.int .i64 z, .int .i64 416, .int .i64 0, .int .i64 (n : Int), .string ⟨#[]⟩, .slice none 0 0]) rfl _ rfl) rfl ⟨rfl, below_setRow HB8.out (Nat.le_succ w.heap.size) _⟩
set_option maxRecDepth 100000 in
set_option maxHeartbeats 4000000 in
theorem range_part (z : Int) (g n : Nat) (BL KD : List UInt8) (sp : Addr) (s : ByteArray) (w : World) (hB : BlobAt w g n BL KD) (hn : n ≤ 100000000) (hsp : w.cell? sp = some (.string s)) (hss : s.size ≤ 1073741824) (F T : Int) (hf ht : Bool) (f l : Nat) (ho : says s.data.toList = (F, T, hf, ht, true)) (hF : 0 ≤ F ∧ F ≤ 4611686018427387904) (hT : 0 ≤ T ∧ T ≤ 4611686018427387904) (hq : ofB F T hf ht (n : Int) = ((f : Int), (l : Int), true)) (hfl : f ≤ l) (hln : l < n) : Calls Tryz.prog 53 #[.agg #[.int .i64 z, .int .i64 0, .int .i64 0, .int .i64 0, .string ⟨#[]⟩, .slice none 0 0], .pointer (some ⟨g, 0, none⟩), .pointer (some sp)] w fun e w' => ∃ A c, e = .returned (.agg #[.int .i64 z, .int .i64 206, .int .i64 (f : Int), .int .i64 (n : Int), .string (strOf KD), .slice A (l + 1 - f) c]) ∧ w'.ownsRow w.heap.size 5 1 (.slice A (l + 1 - f) c) (l + 1 - f) (bcells ((BL.drop f).take (l + 1 - f))) ∧ Below w.heap.size w w' := by
 have hni : (n : Int) ≤ 100000000 := by omega
 have HSP := hid hsp
 have hspl := World.block_lt_of_cell? w _ hsp
 clear hsp
 have HS0 := hid hB
 have HLL : Hid (BL.length = n) := by
  obtain ⟨_, _, _, _, _, _, _, h⟩ := hB
  show _ = _
  rw [← length_bcells]
  exact h.1
 have HSY := hid ho
 clear ho
 go_enter Tryz.func53, Tryz.ntmps53
 go_upto_region 1 with (fail)
 generalize hwa : World.alloc (World.alloc w _) _ = v1
 have h1_ : AB v1 w.heap.size #[.int .i64 z, .int .i64 0, .int .i64 0, .int .i64 0, .string ⟨#[]⟩, .slice none 0 0] ∧ AB v1 (w.heap.size + 1) #[.int .i64 0, .int .i64 0, .int .i64 0, .int .i64 0, .string ⟨#[]⟩, .slice none 0 0] ∧ Below w.heap.size w v1 := by
  subst hwa
  exact laid2 w _ _ _ _
 clear hwa
 have XA1 := hid h1_.1
 have XR1 := hid h1_.2.1
 have HB1 := hid h1_.2.2
 have HS1 := hid (hB.below h1_.2.2)
 clear h1_ hB
 go_wp2_with fail
 refine (len_any g n _ _ _ HS1.out).mono ?_
 rintro e v2 ⟨rfl, hb2⟩
 have XA2 := hid (XA1.out.below hb2)
 have XR2 := hid (XR1.out.below hb2)
 have HS2 := hid (HS1.out.below hb2)
 have HB2 := hid (bel HB1.out hb2)
 clear XA1 XR1 HS1 HB1 hb2
 have HSP2 := hid ((HB2.out.cell hspl).trans HSP.out)
 have hsp2 := HSP2.out
 go_wp2_with fail
 refine (SpnC.parse_any s _ hss).mono ?_
 rw [HSY.out]
 rintro e v3 ⟨rfl, hb3⟩
 have XA3 := hid (XA2.out.below hb3)
 have XR3 := hid (XR2.out.below hb3)
 have HS3 := hid (HS2.out.below hb3)
 have HB3 := hid (bel HB2.out hb3)
 clear XA2 XR2 HS2 HB2 hb3 hsp2 HSP2 HSP
 dsimp only
 go_upto_region 6 with (fail)
 generalize hwb : World.alloc v3 _ = v4
 have h4_ : v4.heap[v3.heap.size]? = some (.cells #[.int .i64 F, .int .i64 T, .bool hf, .bool ht] 169 (0, 0)) ∧ Below v3.heap.size v3 v4 := by
  subst hwb
  exact laid1 v3 _ _
 clear hwb
 have XA4 := hid (XA3.out.below h4_.2)
 have XR4 := hid (XR3.out.below h4_.2)
 have HS4 := hid (HS3.out.below h4_.2)
 have HB4 := hid (bel HB3.out h4_.2)
 have XG4 := hid h4_.1
 have HV3 : Hid (w.heap.size + 1 < v3.heap.size) := XR3.out.lt
 clear h4_ XA3 XR3 HS3 HB3
 obtain ⟨c0, c1, c2, c3, c4, c5⟩ := XA4.out.facts
 obtain ⟨f0, f1, f2, f3, f4, f5⟩ := XA4.out.thaw
 go_upto_region 9 with (fail)
 have hx : AB (v4.setCell ⟨w.heap.size, 3, none⟩ (.int .i64 (n : Int))) w.heap.size #[.int .i64 z, .int .i64 0, .int .i64 0, .int .i64 (n : Int), .string ⟨#[]⟩, .slice none 0 0] := XA4.out.set 3 _
 have hr : AB (v4.setCell ⟨w.heap.size, 3, none⟩ (.int .i64 (n : Int))) (w.heap.size + 1) #[.int .i64 0, .int .i64 0, .int .i64 0, .int .i64 0, .string ⟨#[]⟩, .slice none 0 0] := XR4.out.setO _ (by omega)
 have hb : Below w.heap.size w (v4.setCell ⟨w.heap.size, 3, none⟩ (.int .i64 (n : Int))) := HB4.out.setCell (p := ⟨w.heap.size, 3, none⟩) (Nat.le_refl _) _
 have hg : (v4.setCell ⟨w.heap.size, 3, none⟩ (.int .i64 (n : Int))).heap[v3.heap.size]? = some (.cells #[.int .i64 F, .int .i64 T, .bool hf, .bool ht] 169 (0, 0)) := (heap_setCell_other v4 ⟨w.heap.size, 3, none⟩ _ _ (by have := HV3.out; show v3.heap.size ≠ w.heap.size; omega)).trans XG4.out
 generalize v4.setCell _ _ = v5 at hx hr hb hg ⊢
 have XA5 := hid hx
 have XR5 := hid hr
 have HB5 := hid hb
 have XG5 := hid hg
 clear hx hr hb hg XA4 XR4 HB4 XG4 c0 c1 c2 c3 c4 c5 f0 f1 f2 f3 f4 f5 HS4
 obtain ⟨g0, g1, g2, g3⟩ : v5.cell? ⟨v3.heap.size, 0, none⟩ = some (.int .i64 F) ∧ v5.cell? ⟨v3.heap.size, 1, none⟩ = some (.int .i64 T) ∧ v5.cell? ⟨v3.heap.size, 2, none⟩ = some (.bool hf) ∧ v5.cell? ⟨v3.heap.size, 3, none⟩ = some (.bool ht) := ⟨cell_of_row v5 _ 0 _ _ _ XG5.out, cell_of_row v5 _ 1 _ _ _ XG5.out, cell_of_row v5 _ 2 _ _ _ XG5.out, cell_of_row v5 _ 3 _ _ _ XG5.out⟩
 go_wp2_with fail
 refine (SpnB.of_any F T hf ht (n : Int) _ (by omega) (by omega) (by omega)).mono ?_
 rw [hq]
 rintro e v6 ⟨rfl, hb6⟩
 have XA6 := hid (XA5.out.below hb6)
 have XR6 := hid (XR5.out.below hb6)
 have HB6 := hid (bel HB5.out hb6)
 have HV6 : Hid (w.heap.size + 1 < v6.heap.size) := XR6.out.lt
 clear XA5 XR5 HB5 XG5 hb6 g0 g1 g2 g3 hq
 dsimp only
 go_upto_region 10 with (fail)
 generalize hwb : World.alloc v6 _ = v7
 have h7_ : v7.heap[v6.heap.size]? = some (.cells #[.int .i64 (f : Int)] 2 (0, 0)) ∧ Below v6.heap.size v6 v7 := by
  subst hwb
  exact laid1 v6 _ _
 clear hwb
 have XA7 := hid (XA6.out.below h7_.2)
 have XR7 := hid (XR6.out.below h7_.2)
 have HB7 := hid (bel HB6.out h7_.2)
 have XF7 := hid h7_.1
 clear h7_ XA6 XR6 HB6
 have hli : (l : Int) < (n : Int) := by omega
 go_upto_region 14 with (fail)
 generalize hwb : World.alloc v7 _ = v8
 have h8_ : v8.heap[v7.heap.size]? = some (.cells #[.int .i64 ((l : Int) + 1)] 2 (0, 0)) ∧ Below v7.heap.size v7 v8 := by
  subst hwb
  exact laid1 v7 _ _
 clear hwb
 have XA8 := hid (XA7.out.below h8_.2)
 have XR8 := hid (XR7.out.below h8_.2)
 have HB8 := hid (bel HB7.out h8_.2)
 have XF8 : Hid (v8.heap[v6.heap.size]? = some (.cells #[.int .i64 (f : Int)] 2 (0, 0))) := (h8_.2.block _ (Array.getElem?_eq_some_iff.1 XF7.out).1).trans XF7.out
 have XL8 := hid h8_.1
 have HV7 : Hid (v6.heap.size < v7.heap.size) := (Array.getElem?_eq_some_iff.1 XF7.out).1
 have HS8 := hid (HS0.out.below HB8.out)
 clear h8_ XA7 XR7 HB7 XF7
 refine wp_region_inv (by kernel_rfl) (GB z n f l KD w v6.heap.size v7.heap.size) [is (.pointer (some ⟨g, 0, none⟩)), is (.string (strOf KD)), is (.int .i64 (f : Int)), is (.pointer (some ⟨w.heap.size, 1, none⟩)), any, is (.pointer (some ⟨w.heap.size, 4, none⟩)), any, is (.pointer (some ⟨w.heap.size, 2, none⟩)), any] [[], [0], [], [], [3], [], [1, 4, 5], [], [2, 4, 6, 7]] (by kernel_rfl) (by repeat (first | exact free_nil | refine free_is _ ?_ | refine free_any ?_)) ?_ ?_ ?_
 ·exact fun t => ⟨HB8.out.drew, XA8.out, XR8.out, XF8.out, XL8.out⟩
 ·refine ⟨?_, ?_, ?_, ?_, ?_, ?_, ?_, ?_, ?_, trivial⟩
  ·intro L t wq hG hL hC hN hh K hK
   clear hh
   simp only [filled, upd, Have, is, any, row, pick, Act.put, List.setIfInBounds_toArray, List.set_cons_zero, List.set_cons_succ, Nat.reduceAdd, Nat.reduceEqDiff, reduceIte] at hK ⊢
   go_simp
   exact hK _ _ rfl (gp_stab 0 (by decide) (Below.refl _ _) hG)
  ·intro L t wq hG hL hC hN hh K hK
   have e0 := hh.1
   simp only [pick] at e0
   replace e0 : t 0 = (.pointer (some ⟨g, 0, none⟩)) := e0
   clear hh
   simp only [filled, upd, Have, is, any, row, pick, Act.put, List.setIfInBounds_toArray, List.set_cons_zero, List.set_cons_succ, Nat.reduceAdd, Nat.reduceEqDiff, reduceIte] at hK ⊢
   simp only [e0] at hK ⊢
   go_simp
   refine (kindm_any g n BL KD _ (HS0.out.below hG.below)).mono ?_
   rintro e w9 ⟨rfl, hb9⟩
   exact hK _ _ rfl (gp_stab 1 (by decide) hb9 hG)
  ·intro L t wq hG hL hC hN hh K hK
   clear hh
   simp only [filled, upd, Have, is, any, row, pick, Act.put, List.setIfInBounds_toArray, List.set_cons_zero, List.set_cons_succ, Nat.reduceAdd, Nat.reduceEqDiff, reduceIte] at hK ⊢
   have hq := cell_of_row wq _ 0 _ _ _ hG.fst
   replace hq : wq.cell? ⟨v6.heap.size, 0, none⟩ = some (.int .i64 (f : Int)) := hq
   go_simp
   exact hK _ _ rfl (gp_stab 2 (by decide) (Below.refl _ _) hG)
  ·intro L t wq hG hL hC hN hh K hK
   clear hh
   simp only [filled, upd, Have, is, any, row, pick, Act.put, List.setIfInBounds_toArray, List.set_cons_zero, List.set_cons_succ, Nat.reduceAdd, Nat.reduceEqDiff, reduceIte] at hK ⊢
   go_simp
   exact hK _ _ rfl (gp_stab 3 (by decide) (Below.refl _ _) hG)
  ·intro L t wq hG hL hC hN hh K hK
   have e3 := hh.1
   simp only [pick] at e3
   replace e3 : t 3 = (.pointer (some ⟨w.heap.size, 1, none⟩)) := e3
   clear hh
   simp only [filled, upd, Have, is, any, row, pick, Act.put, List.setIfInBounds_toArray, List.set_cons_zero, List.set_cons_succ, Nat.reduceAdd, Nat.reduceEqDiff, reduceIte] at hK ⊢
   simp only [e3] at hK ⊢
   obtain ⟨k0, k1, k2, k3, k4, k5⟩ := hG.box.facts
   obtain ⟨z0, z1, z2, z3, z4, z5⟩ := hG.box.thaw
   go_simp
   exact hK undef _ trivial (gp_put4 hG (by have := HV6.out; omega) (by have h1 := HV6.out; have h2 := HV7.out; omega))
  ·intro L t wq hG hL hC hN hh K hK
   clear hh
   simp only [filled, upd, Have, is, any, row, pick, Act.put, List.setIfInBounds_toArray, List.set_cons_zero, List.set_cons_succ, Nat.reduceAdd, Nat.reduceEqDiff, reduceIte] at hK ⊢
   go_simp
   exact hK _ _ rfl (gp_stab 5 (by decide) (Below.refl _ _) hG)
  ·intro L t wq hG hL hC hN hh K hK
   have e1 := hh.1
   simp only [pick] at e1
   replace e1 : t 1 = (.string (strOf KD)) := e1
   have e5 := hh.2.2.1
   simp only [pick] at e5
   replace e5 : t 5 = (.pointer (some ⟨w.heap.size, 4, none⟩)) := e5
   clear hh
   simp only [filled, upd, Have, is, any, row, pick, Act.put, List.setIfInBounds_toArray, List.set_cons_zero, List.set_cons_succ, Nat.reduceAdd, Nat.reduceEqDiff, reduceIte] at hK ⊢
   simp only [e1, e5] at hK ⊢
   obtain ⟨k0, k1, k2, k3, k4, k5⟩ := hG.box.facts
   obtain ⟨z0, z1, z2, z3, z4, z5⟩ := hG.box.thaw
   go_simp
   exact hK undef _ trivial (gp_put6 hG (by have := HV6.out; omega) (by have h1 := HV6.out; have h2 := HV7.out; omega))
  ·intro L t wq hG hL hC hN hh K hK
   clear hh
   simp only [filled, upd, Have, is, any, row, pick, Act.put, List.setIfInBounds_toArray, List.set_cons_zero, List.set_cons_succ, Nat.reduceAdd, Nat.reduceEqDiff, reduceIte] at hK ⊢
   go_simp
   exact hK _ _ rfl (gp_stab 7 (by decide) (Below.refl _ _) hG)
  ·intro L t wq hG hL hC hN hh K hK
   have e2 := hh.1
   simp only [pick] at e2
   replace e2 : t 2 = (.int .i64 (f : Int)) := e2
   have e7 := hh.2.2.2.1
   simp only [pick] at e7
   replace e7 : t 7 = (.pointer (some ⟨w.heap.size, 2, none⟩)) := e7
   clear hh
   simp only [filled, upd, Have, is, any, row, pick, Act.put, List.setIfInBounds_toArray, List.set_cons_zero, List.set_cons_succ, Nat.reduceAdd, Nat.reduceEqDiff, reduceIte] at hK ⊢
   simp only [e2, e7] at hK ⊢
   obtain ⟨k0, k1, k2, k3, k4, k5⟩ := hG.box.facts
   obtain ⟨z0, z1, z2, z3, z4, z5⟩ := hG.box.thaw
   go_simp
   exact hK undef _ trivial (gp_put8 hG (by have := HV6.out; omega) (by have h1 := HV6.out; have h2 := HV7.out; omega))
 ·intro Lz t wq hG hall hh
  have f0 := have_get hh 0 (by decide)
  simp only [pick] at f0
  replace f0 : t 0 = (.pointer (some ⟨g, 0, none⟩)) := f0
  clear hh
  simp only [filled, upd, Have, is, any, row, pick, Act.put, List.setIfInBounds_toArray, List.set_cons_zero, List.set_cons_succ, Nat.reduceAdd, Nat.reduceEqDiff, reduceIte]
  simp only [f0]
  have hx := hG.box
  rw [hall 4 (by decide), hall 6 (by decide), hall 8 (by decide)] at hx
  simp only [if_true] at hx
  have XA9 := hid hx
  have HB9 := hid hG.below
  have XR9 := hid hG.res
  have XF9 := hid hG.fst
  have XL9 := hid hG.lst
  have HS9 := hid (HS0.out.below hG.below)
  have HWQ : Hid (w.heap.size + 1 < wq.heap.size) := XR9.out.lt
  clear hG hall hx XA8 XR8 HB8 XF8 XL8 HS8
  obtain ⟨c0, c1, c2, c3, c4, c5⟩ := XA9.out.facts
  obtain ⟨f0, f1, f2, f3, f4, f5⟩ := XA9.out.thaw
  have HPF : Hid (Ptr wq (.pointer (some ⟨v6.heap.size, 0, none⟩)) (some (f : Int))) := .inr ⟨_, _, rfl, (Array.getElem?_eq_some_iff.1 XF9.out).1, cell_of_row wq _ 0 _ _ _ XF9.out, by omega, by omega, rfl⟩
  have HPL : Hid (Ptr wq (.pointer (some ⟨v7.heap.size, 0, none⟩)) (some ((l : Int) + 1))) := .inr ⟨_, _, rfl, (Array.getElem?_eq_some_iff.1 XL9.out).1, cell_of_row wq _ 0 _ _ _ XL9.out, by omega, by omega, rfl⟩
  have HPL1 : Hid (pl (some (f : Int)) 0 n = f) := by show pl _ _ _ = _; unfold pl; simp only; unfold plc; rw [if_neg (by omega)]; simp; omega
  have HPL2 : Hid (pl (some ((l : Int) + 1)) n n = l + 1) := by show pl _ _ _ = _; unfold pl; simp only; unfold plc; rw [if_neg (by omega), show ((l : Int) + 1).toNat = l + 1 by omega]; omega
  go_wp2_with fail
  refine (slice_k g n BL KD _ _ _ _ ⟨#[]⟩ _ HS9.out (by omega) HPF.out HPL.out (by decide)).mono ?_
  rw [HPL1.out, HPL2.out, show max f (l + 1) - f = l + 1 - f by omega]
  rintro e v10 ⟨g2, rfl, hg2, hk, hb10⟩
  have XA10 := hid (XA9.out.below hb10)
  have XR10 := hid (XR9.out.below hb10)
  have HB10 := hid (bel HB9.out hb10)
  have HK10 := hid hk
  clear XA9 XR9 HB9 XF9 XL9 HS9 hk hb10 hg2 HPF HPL c0 c1 c2 c3 c4 c5 f0 f1 f2 f3 f4 f5
  have HLN : Hid (((BL.drop f).take (l + 1 - f)).length = l + 1 - f) := by
   show _ = _
   rw [List.length_take, List.length_drop, HLL.out]
   omega
  have hat := HK10.out.at
  rw [HLN.out] at hat
  have HAT := hid hat
  clear hat
  go_wp2_with fail
  refine (bytes_any g2 _ _ _ _ HAT.out (by omega)).mono ?_
  rintro e v11 ⟨v, rfl, hown, hb11⟩
  have XA11 := hid (XA10.out.below hb11)
  have XR11 := hid (XR10.out.below hb11)
  have HB11 := hid (bel HB10.out hb11)
  have HV11 : Hid (w.heap.size + 1 < v10.heap.size) := XR10.out.lt
  obtain ⟨A, c, rfl, hc, hm, _⟩ := owns_form hown
  have HO11 := hid hown
  clear XA10 XR10 HB10 HK10 HAT hown hb11
  obtain ⟨c0, c1, c2, c3, c4, c5⟩ := XA11.out.facts
  obtain ⟨f0, f1, f2, f3, f4, f5⟩ := XA11.out.thaw
  go_upto_region 16 with (fail)
  have hx : AB (v11.setCell ⟨w.heap.size, 5, none⟩ (.slice A (l + 1 - f) c)) w.heap.size #[.int .i64 z, .int .i64 206, .int .i64 (f : Int), .int .i64 (n : Int), .string (strOf KD), .slice A (l + 1 - f) c] := XA11.out.set 5 _
  have hr : AB (v11.setCell ⟨w.heap.size, 5, none⟩ (.slice A (l + 1 - f) c)) (w.heap.size + 1) #[.int .i64 0, .int .i64 0, .int .i64 0, .int .i64 0, .string ⟨#[]⟩, .slice none 0 0] := XR11.out.setO _ (by omega)
  have hb : Below w.heap.size w (v11.setCell ⟨w.heap.size, 5, none⟩ (.slice A (l + 1 - f) c)) := HB11.out.setCell (p := ⟨w.heap.size, 5, none⟩) (Nat.le_refl _) _
  have ho : (v11.setCell ⟨w.heap.size, 5, none⟩ (.slice A (l + 1 - f) c)).ownsRow v10.heap.size 5 1 (.slice A (l + 1 - f) c) (l + 1 - f) (bcells ((BL.drop f).take (l + 1 - f))) := own_cell HO11.out (by have := HV11.out; omega)
  generalize v11.setCell _ _ = v12 at hx hr hb ho ⊢
  have XA12 := hid hx
  have XR12 := hid hr
  have HB12 := hid hb
  have HO12 := hid ho
  have HLD := hid (hx.load rfl)
  clear hx hr hb ho XA11 XR11 HO11 HB11 c0 c1 c2 c3 c4 c5 f0 f1 f2 f3 f4 f5
  go_wp2_with (first | refine load_as HLD.out (.tmp 3) rfl rfl rfl ?_ | refine store_ab XR12.out #[.int .i64 z, .int .i64 206, .int .i64 (f : Int), .int .i64 (n : Int), .string (strOf KD), .slice A (l + 1 - f) c] rfl rfl (by simp [Value.oneCell']) (.tmp 6) (.tmp 62) rfl rfl rfl rfl ?_)
  try simp only [Exit.inBlock, Exit.then]
  have ho6 := own_setRow HO12.out (g := w.heap.size + 1) (by have := HV11.out; omega) #[.int .i64 z, .int .i64 206, .int .i64 (f : Int), .int .i64 (n : Int), .string (strOf KD), .slice A (l + 1 - f) c]
  exact bodyPost_ret (w := World.setRow v12 (w.heap.size + 1) #[.int .i64 z, .int .i64 206, .int .i64 (f : Int), .int .i64 (n : Int), .string (strOf KD), .slice A (l + 1 - f) c]) (res6 rfl (XR12.out.row #[.int .i64 z, .int .i64 206, .int .i64 (f : Int), .int .i64 (n : Int), .string (strOf KD), .slice A (l + 1 - f) c]) rfl _ rfl) rfl ⟨A, c, rfl, owns_base ho6 (by have := HV11.out; omega), below_setRow HB12.out (Nat.le_succ w.heap.size) _⟩
end Go.Proofs.YtegpfgccaminkaaGreatDoor.FetB
namespace Go.Proofs.YtegpfgccaminkaaGreatDoor.SrtA
open Go.RowKit Base Base2 PrsP Ubx PrsC PrsD
def aboutOf (o : Bool) (t : List UInt8) : Int := if o = true ∧ t = [98, 108, 97, 110, 107] then 3 else if o = true ∧ t = [115, 114, 99, 100, 111, 99] then 4 else 5
def sortOf (u : U) : Int := if u.sch = [100, 97, 116, 97] then 0 else if u.sch = [98, 108, 111, 98] then 1 else if u.sch = [102, 105, 108, 101] then 2 else if u.sch = [97, 98, 111, 117, 116] then aboutOf u.opq u.txt else if u.sch = [106, 97, 118, 97, 115, 99, 114, 105, 112, 116] then 6 else 7
set_option maxRecDepth 100000 in
set_option maxHeartbeats 4000000 in
theorem about_any (u : U) (A : Option Addr) (n c : Nat) (w : World) : Calls Tryz.prog 80 #[.agg (cells u (.slice A n c))] w fun e w' => e = .returned (.int .i64 (aboutOf u.opq u.txt)) ∧ Below w.heap.size w w' := by
 obtain ⟨z, hz⟩ : ∃ z, z = aboutOf u.opq u.txt := ⟨_, rfl⟩
 rw [← hz]
 have HZ := hid hz
 clear hz
 cases ho : u.opq with
 | false =>
  have HE : Hid (z = 5) := by show _ = _; rw [HZ.out]; unfold aboutOf; simp [ho]
  go_enter Tryz.func80, Tryz.ntmps80
  go_upto_region 1 with (fail)
  generalize hw : World.alloc w _ = w1
  have h1 : UB w1 w.heap.size u (.slice A n c) ∧ Below w.heap.size w w1 := by
   subst hw
   exact laid1 w _ _
  clear hw
  obtain ⟨d0, d1, d2, d3, d4, d5, d6, d7, d8, d9, d10, d11, d12⟩ := h1.1.facts
  have HB := hid h1.2
  clear h1
  rw [ho] at d6
  clear ho
  go_wp2
  go_ret
  exact ⟨by rw [HE.out]; first | done | rfl, HB.out⟩
 | true =>
  by_cases h0 : u.txt = [98, 108, 97, 110, 107]
  ·
   have e0h0 : ((strOf u.txt).toList == [98, 108, 97, 110, 107]) = true := by rw [str_tl, h0]; first | done | rfl
   have e1h0 : (strOf u.txt).toList = [98, 108, 97, 110, 107] := by rw [str_tl, h0]; first | done | rfl
   have HE : Hid (z = 3) := by show _ = _; rw [HZ.out]; unfold aboutOf; simp [ho, h0]
   clear h0
   go_enter Tryz.func80, Tryz.ntmps80
   go_upto_region 1 with (fail)
   generalize hw : World.alloc w _ = w1
   have h1 : UB w1 w.heap.size u (.slice A n c) ∧ Below w.heap.size w w1 := by
    subst hw
    exact laid1 w _ _
   clear hw
   obtain ⟨d0, d1, d2, d3, d4, d5, d6, d7, d8, d9, d10, d11, d12⟩ := h1.1.facts
   have HB := hid h1.2
   clear h1
   rw [ho] at d6
   clear ho
   go_wp2
   go_ret
   exact ⟨by rw [HE.out]; first | done | rfl, HB.out⟩
  ·
   have e0h0 : ((strOf u.txt).toList == [98, 108, 97, 110, 107]) = false := by rw [str_tl, beq_eq_false_iff_ne]; exact h0
   have e1h0 : ¬ (strOf u.txt).toList = [98, 108, 97, 110, 107] := by rw [str_tl]; exact h0
   by_cases h1 : u.txt = [115, 114, 99, 100, 111, 99]
   ·
    have e0h1 : ((strOf u.txt).toList == [115, 114, 99, 100, 111, 99]) = true := by rw [str_tl, h1]; first | done | rfl
    have e1h1 : (strOf u.txt).toList = [115, 114, 99, 100, 111, 99] := by rw [str_tl, h1]; first | done | rfl
    have HE : Hid (z = 4) := by show _ = _; rw [HZ.out]; unfold aboutOf; simp [ho, h1]
    clear h0 h1
    go_enter Tryz.func80, Tryz.ntmps80
    go_upto_region 1 with (fail)
    generalize hw : World.alloc w _ = w1
    have h1 : UB w1 w.heap.size u (.slice A n c) ∧ Below w.heap.size w w1 := by
     subst hw
     exact laid1 w _ _
    clear hw
    obtain ⟨d0, d1, d2, d3, d4, d5, d6, d7, d8, d9, d10, d11, d12⟩ := h1.1.facts
    have HB := hid h1.2
    clear h1
    rw [ho] at d6
    clear ho
    go_wp2
    go_ret
    exact ⟨by rw [HE.out]; first | done | rfl, HB.out⟩
   ·
    have e0h1 : ((strOf u.txt).toList == [115, 114, 99, 100, 111, 99]) = false := by rw [str_tl, beq_eq_false_iff_ne]; exact h1
    have e1h1 : ¬ (strOf u.txt).toList = [115, 114, 99, 100, 111, 99] := by rw [str_tl]; exact h1
    have HE : Hid (z = 5) := by show _ = _; rw [HZ.out]; unfold aboutOf; simp [ho, h0, h1]
    clear h0 h1
    go_enter Tryz.func80, Tryz.ntmps80
    go_upto_region 1 with (fail)
    generalize hw : World.alloc w _ = w1
    have h1 : UB w1 w.heap.size u (.slice A n c) ∧ Below w.heap.size w w1 := by
     subst hw
     exact laid1 w _ _
    clear hw
    obtain ⟨d0, d1, d2, d3, d4, d5, d6, d7, d8, d9, d10, d11, d12⟩ := h1.1.facts
    have HB := hid h1.2
    clear h1
    rw [ho] at d6
    clear ho
    go_wp2
    go_ret
    exact ⟨by rw [HE.out]; first | done | rfl, HB.out⟩
set_option maxRecDepth 100000 in
set_option maxHeartbeats 4000000 in
theorem of_any (u : U) (A : Option Addr) (n c : Nat) (w : World) : Calls Tryz.prog 50 #[.agg (cells u (.slice A n c))] w fun e w' => e = .returned (.int .i64 (sortOf u)) ∧ Below w.heap.size w w' := by
 have HAB := hid (fun w => about_any u A n c w)
 obtain ⟨z, hz⟩ : ∃ z, z = sortOf u := ⟨_, rfl⟩
 rw [← hz]
 have HZ := hid hz
 clear hz
 by_cases h0 : u.sch = [100, 97, 116, 97]
 ·
  have e0h0 : ((strOf u.sch).toList == [100, 97, 116, 97]) = true := by rw [str_tl, h0]; first | done | rfl
  have e1h0 : (strOf u.sch).toList = [100, 97, 116, 97] := by rw [str_tl, h0]; first | done | rfl
  have HE : Hid (z = 0) := by show _ = _; rw [HZ.out]; unfold sortOf; simp [h0]
  clear h0
  go_enter Tryz.func50, Tryz.ntmps50
  go_upto_region 1 with (fail)
  generalize hw : World.alloc w _ = w1
  have h1 : UB w1 w.heap.size u (.slice A n c) ∧ Below w.heap.size w w1 := by
   subst hw
   exact laid1 w _ _
  clear hw
  obtain ⟨d0, d1, d2, d3, d4, d5, d6, d7, d8, d9, d10, d11, d12⟩ := h1.1.facts
  have HB := hid h1.2
  clear h1
  go_wp2
  go_ret
  exact ⟨by rw [HE.out]; first | done | rfl, HB.out⟩
 ·
  have e0h0 : ((strOf u.sch).toList == [100, 97, 116, 97]) = false := by rw [str_tl, beq_eq_false_iff_ne]; exact h0
  have e1h0 : ¬ (strOf u.sch).toList = [100, 97, 116, 97] := by rw [str_tl]; exact h0
  by_cases h1 : u.sch = [98, 108, 111, 98]
  ·
   have e0h1 : ((strOf u.sch).toList == [98, 108, 111, 98]) = true := by rw [str_tl, h1]; first | done | rfl
   have e1h1 : (strOf u.sch).toList = [98, 108, 111, 98] := by rw [str_tl, h1]; first | done | rfl
   have HE : Hid (z = 1) := by show _ = _; rw [HZ.out]; unfold sortOf; simp [h0, h1]
   clear h0 h1
   go_enter Tryz.func50, Tryz.ntmps50
   go_upto_region 1 with (fail)
   generalize hw : World.alloc w _ = w1
   have h1 : UB w1 w.heap.size u (.slice A n c) ∧ Below w.heap.size w w1 := by
    subst hw
    exact laid1 w _ _
   clear hw
   obtain ⟨d0, d1, d2, d3, d4, d5, d6, d7, d8, d9, d10, d11, d12⟩ := h1.1.facts
   have HB := hid h1.2
   clear h1
   go_wp2
   go_ret
   exact ⟨by rw [HE.out]; first | done | rfl, HB.out⟩
  ·
   have e0h1 : ((strOf u.sch).toList == [98, 108, 111, 98]) = false := by rw [str_tl, beq_eq_false_iff_ne]; exact h1
   have e1h1 : ¬ (strOf u.sch).toList = [98, 108, 111, 98] := by rw [str_tl]; exact h1
   by_cases h2 : u.sch = [102, 105, 108, 101]
   ·
    have e0h2 : ((strOf u.sch).toList == [102, 105, 108, 101]) = true := by rw [str_tl, h2]; first | done | rfl
    have e1h2 : (strOf u.sch).toList = [102, 105, 108, 101] := by rw [str_tl, h2]; first | done | rfl
    have HE : Hid (z = 2) := by show _ = _; rw [HZ.out]; unfold sortOf; simp [h0, h1, h2]
    clear h0 h1 h2
    go_enter Tryz.func50, Tryz.ntmps50
    go_upto_region 1 with (fail)
    generalize hw : World.alloc w _ = w1
    have h1 : UB w1 w.heap.size u (.slice A n c) ∧ Below w.heap.size w w1 := by
     subst hw
     exact laid1 w _ _
    clear hw
    obtain ⟨d0, d1, d2, d3, d4, d5, d6, d7, d8, d9, d10, d11, d12⟩ := h1.1.facts
    have HB := hid h1.2
    clear h1
    go_wp2
    go_ret
    exact ⟨by rw [HE.out]; first | done | rfl, HB.out⟩
   ·
    have e0h2 : ((strOf u.sch).toList == [102, 105, 108, 101]) = false := by rw [str_tl, beq_eq_false_iff_ne]; exact h2
    have e1h2 : ¬ (strOf u.sch).toList = [102, 105, 108, 101] := by rw [str_tl]; exact h2
    by_cases h3 : u.sch = [97, 98, 111, 117, 116]
    ·
     have e0h3 : ((strOf u.sch).toList == [97, 98, 111, 117, 116]) = true := by rw [str_tl, h3]; first | done | rfl
     have e1h3 : (strOf u.sch).toList = [97, 98, 111, 117, 116] := by rw [str_tl, h3]; first | done | rfl
     have HE : Hid (z = aboutOf u.opq u.txt) := by show _ = _; rw [HZ.out]; unfold sortOf; simp [h0, h1, h2, h3]
     clear h0 h1 h2 h3
     go_enter Tryz.func50, Tryz.ntmps50
     go_upto_region 1 with (fail)
     generalize hw : World.alloc w _ = w1
     have h1 : UB w1 w.heap.size u (.slice A n c) ∧ Below w.heap.size w w1 := by
      subst hw
      exact laid1 w _ _
     clear hw
     obtain ⟨d0, d1, d2, d3, d4, d5, d6, d7, d8, d9, d10, d11, d12⟩ := h1.1.facts
     have HB := hid h1.2
     clear h1
     go_wp2_with fail
     clear d0 d1 d2 d3 d4 d5 d6 d7 d8 d9 d10 d11 d12
     refine (HAB.out _).mono ?_
     rintro e w2 ⟨rfl, hb2⟩
     have HB2 := hid (bel HB.out hb2)
     clear hb2
     go_wp2
     go_ret
     exact ⟨by rw [HE.out]; first | done | rfl, HB2.out⟩
    ·
     have e0h3 : ((strOf u.sch).toList == [97, 98, 111, 117, 116]) = false := by rw [str_tl, beq_eq_false_iff_ne]; exact h3
     have e1h3 : ¬ (strOf u.sch).toList = [97, 98, 111, 117, 116] := by rw [str_tl]; exact h3
     by_cases h4 : u.sch = [106, 97, 118, 97, 115, 99, 114, 105, 112, 116]
     ·
      have e0h4 : ((strOf u.sch).toList == [106, 97, 118, 97, 115, 99, 114, 105, 112, 116]) = true := by rw [str_tl, h4]; first | done | rfl
      have e1h4 : (strOf u.sch).toList = [106, 97, 118, 97, 115, 99, 114, 105, 112, 116] := by rw [str_tl, h4]; first | done | rfl
      have HE : Hid (z = 6) := by show _ = _; rw [HZ.out]; unfold sortOf; simp [h0, h1, h2, h3, h4]
      clear h0 h1 h2 h3 h4
      go_enter Tryz.func50, Tryz.ntmps50
      go_upto_region 1 with (fail)
      generalize hw : World.alloc w _ = w1
      have h1 : UB w1 w.heap.size u (.slice A n c) ∧ Below w.heap.size w w1 := by
       subst hw
       exact laid1 w _ _
      clear hw
      obtain ⟨d0, d1, d2, d3, d4, d5, d6, d7, d8, d9, d10, d11, d12⟩ := h1.1.facts
      have HB := hid h1.2
      clear h1
      go_wp2
      go_ret
      exact ⟨by rw [HE.out]; first | done | rfl, HB.out⟩
     ·
      have e0h4 : ((strOf u.sch).toList == [106, 97, 118, 97, 115, 99, 114, 105, 112, 116]) = false := by rw [str_tl, beq_eq_false_iff_ne]; exact h4
      have e1h4 : ¬ (strOf u.sch).toList = [106, 97, 118, 97, 115, 99, 114, 105, 112, 116] := by rw [str_tl]; exact h4
      have HE : Hid (z = 7) := by show _ = _; rw [HZ.out]; unfold sortOf; simp [h0, h1, h2, h3, h4]
      clear h0 h1 h2 h3 h4
      go_enter Tryz.func50, Tryz.ntmps50
      go_upto_region 1 with (fail)
      generalize hw : World.alloc w _ = w1
      have h1 : UB w1 w.heap.size u (.slice A n c) ∧ Below w.heap.size w w1 := by
       subst hw
       exact laid1 w _ _
      clear hw
      obtain ⟨d0, d1, d2, d3, d4, d5, d6, d7, d8, d9, d10, d11, d12⟩ := h1.1.facts
      have HB := hid h1.2
      clear h1
      go_wp2
      go_ret
      exact ⟨by rw [HE.out]; first | done | rfl, HB.out⟩
end Go.Proofs.YtegpfgccaminkaaGreatDoor.SrtA
