/- The walk of the law MailPlays: it returns true, whatever it is called with. -/
import Derived.Test.YtihlojkghemjeaaMaiP
import Derived.Test.YtihlojkghemjeaaRegt
import Derived.Test.YtihlojkghemjeaaRegp
import Derived.Deep.DeepCutAuto
namespace Go.Proofs.Ytihlojkghemjeaa.Laws
open Go.RowKit Go.Proofs.Ytihlojkghemjeaa.Base Go.Proofs.Ytihlojkghemjeaa.Base2 Go.Proofs.Ytihlojkghemjeaa.MaiA Go.Proofs.Ytihlojkghemjeaa.MaiB Go.Proofs.Ytihlojkghemjeaa.MaiP Go.Proofs.Ytihlojkghemjeaa.Regs

theorem take_nil (w : World) : Calls Try.prog 28 #[.pointer none] w fun e w' => e = .returned (.tuple #[.int .i64 0, .bool false, .bool false]) ∧ Below w.heap.size w w' := by
  go_enter Try.func28, Try.ntmps28
  go_wp2
  go_ret3
  exact ⟨rfl, Below.refl _ _⟩
theorem put_nil (x : Int) (u : Bool) (w : World) : Calls Try.prog 30 #[.pointer none, .int .i64 x, .bool u] w fun e w' => e = .returned (.bool false) ∧ Below w.heap.size w w' := by
  go_enter Try.func30, Try.ntmps30
  go_wp2
  go_ret
  exact ⟨rfl, Below.refl _ _⟩
theorem len_nil (w : World) : Calls Try.prog 29 #[.pointer none] w fun e w' => e = .returned (.int .i64 0) ∧ Below w.heap.size w w' := by
  go_enter Try.func29, Try.ntmps29
  go_wp2
  go_ret
  exact ⟨rfl, Below.refl _ _⟩
set_option maxRecDepth 100000 in
theorem new_bad (room : Int) (h : room < 1 ∨ 64 < room) (w : World) : Calls Try.prog 27 #[.int .i64 room] w fun e w' => e = .returned (.tuple #[.pointer none, .int .i64 1]) ∧ Below w.heap.size w w' := by
  rcases (show room < 1 ∨ (¬ room < 1 ∧ 64 < room) by omega) with h4 | ⟨h4, h5⟩
  all_goals
    go_enter Try.func27, Try.ntmps27
    go_wp2
    go_ret2
    exact ⟨rfl, Below.refl _ _⟩
theorem cell_kept {w w' : World} (h : Kept w w') {p : Addr} {v : Value} (hc : w.cell? p = some v) : w'.cell? p = some v := by
  unfold World.cell? at hc ⊢
  cases e : w.heap[p.block]? with
  | none => simp [e] at hc
  | some o =>
    cases o with
    | cells C T m => rw [h _ _ _ _ e]; rw [e] at hc; exact hc
    | _ => simp [e] at hc
theorem ms_app {w w' : World} {B bx g cap : Nat} {U P : List Value} {v0 v1 : Value} {P' U' : List Int} {v : Value} {L : List Int} (h : MS 93 B w g cap U P) (hB : Bx w B bx v0 v1 P' U') (hv : Osl w B v L) (hg : w.grownBy w' v.ownBlock) (q : Nat) (u : Value) :
    MS 93 B (w'.setCell ⟨bx, q, none⟩ u) g cap U P := by
  have hbx : w'.heap[bx]? = w.heap[bx]? := hg.block bx (Array.getElem?_eq_some_iff.1 hB.box).1 fun e => by
    obtain ⟨_, C, hC⟩ := hv.own e.symm
    exact other_type hB.box hC (by decide) rfl
  have h1 : MS 93 B w' g cap U P := by
    cases e : v.ownBlock with
    | none => exact ms_put h bx hB.box (by decide) fun k hk _ => hg.block k hk (by rw [e]; simp)
    | some D =>
      obtain ⟨_, C, hC⟩ := hv.own e
      exact ms_put h D hC (by decide) fun k hk hne => hg.block k hk (by rw [e]; simpa using hne)
  exact ms_put h1 bx (hbx.trans hB.box) (by decide) fun k _ hne => heap_setCell_other w' _ _ _ hne
set_option linter.unusedSimpArgs false in
set_option maxHeartbeats 16000000 in
set_option maxRecDepth 100000 in
theorem MailPlays_any (room : Int) (A : Option Addr) (n cap : Nat) (L : List UInt8) (A2 : Option Addr) (n2 cap2 : Nat) (N : List Int) (w : World) (hrm : -9223372036854775808 ≤ room ∧ room ≤ 9223372036854775807) (hr : Rds w A n (bcells L)) (_hc : n ≤ cap) (_hm : cap ≤ maxLen) (hr2 : Rds w A2 n2 (icells .i16 N)) (_hc2 : n2 ≤ cap2) (_hm2 : cap2 ≤ maxLen) (hN : ∀ z ∈ N, -32768 ≤ z ∧ z ≤ 32767) :
    Calls Try.prog 6 #[.int .i64 room, .slice A n cap, .slice A2 n2 cap2] w fun e w' => e = .returned (.bool true) ∧ Below w.heap.size w w' := by
  have hl : L.length = n := by rw [← length_bcells]; exact hr.1
  have HL0 := hid hl
  have hl2 : N.length = n2 := by have := hr2.1; simpa [icells] using this
  have HR := hid hr
  have HR2 := hid hr2
  have HN := hid hN
  clear hl hr hr2 hN
  by_cases h1 : n ≤ 150
  · have p1 : ¬ (150 : Int) < (n : Int) := by omega
    by_cases h2 : n ≤ n2
    · have p2 : ¬ (n2 : Int) < (n : Int) := by omega
      go_enter Try.func6, Try.ntmps6
      go_wp2_with fail
      refine (MaiB.awake_any _).mono ?_
      rintro e w1 ⟨rfl, hb1⟩
      by_cases h3 : 1 ≤ room ∧ room ≤ 64
      · obtain ⟨r, rfl⟩ : ∃ r : Nat, room = (r : Int) := ⟨room.toNat, by omega⟩
        have q1 : ¬ (r : Int) < 1 := by omega
        have q2 : ¬ (64 : Int) < (r : Int) := by omega
        go_wp2_with fail
        refine (newI r (by omega) (by omega) _).mono ?_
        rintro e w2 ⟨g, rfl, HMS, hb2⟩
        have HM2 := hid HMS
        clear HMS
        go_wp2_with fail
        generalize hw3 : w2.alloc _ = w3
        have hb23 : Below w2.heap.size w2 w3 := by rw [← hw3]; exact (Below.refl _ _).alloc (Nat.le_refl _) _
        have HB3 : Hid (Bx w3 w1.heap.size w2.heap.size (.slice none 0 0) (.slice none 0 0) [] []) := hid ⟨by rw [← hw3]; exact heap_alloc_new w2 _, hb2.size, Or.inl ⟨rfl, rfl⟩, Or.inl ⟨rfl, rfl⟩, fun k hk => by cases hk⟩
        have HM3 := hid (HM2.out.below hb23)
        have hb13 : Below w1.heap.size w1 w3 := hb2.trans (hb23.mono hb2.size)
        clear hw3 HM2
        generalize decide (150 < (n : Int)) = d1
        generalize decide ((r : Int) < 1) = d2
        generalize decide (64 < (r : Int)) = d3
        go_loopw [74] (fun vk wr => ∃ (k : Nat) (v0 v1 : Value) (P U : List Int), k ≤ n ∧ vk = .int .i64 (k : Int) ∧ P.length ≤ r ∧ U.length ≤ r ∧ Hid (MS 93 w1.heap.size wr g r (ic U) (ic P)) ∧ Hid (Bx wr w1.heap.size w2.heap.size v0 v1 P U) ∧ Below w1.heap.size w1 wr) (fun vk _ => n - (intOf vk).toNat)
        case atStart => exact ⟨0, _, _, [], [], by omega, rfl, by simp, by simp, HM3, HB3, hb13⟩
        case round =>
          obtain ⟨k, v0, v1, P, U, hk, rfl, hP, hU, HMS, HBX, hbel⟩ := hrel
          by_cases hlt : k < n
          · obtain ⟨b, off, rfl, hbw, _⟩ := HR.out.spot (by omega)
            obtain ⟨b2, off2, rfl, hbw2, _⟩ := HR2.out.spot (by omega)
            obtain ⟨c, hc⟩ : ∃ c, L[k]'(by rw [HL0.out]; exact hlt) = c := ⟨_, rfl⟩
            obtain ⟨z, hz⟩ : ∃ z, N[k]'(by omega) = z := ⟨_, rfl⟩
            have hbw' : Below w.heap.size w wr := bel hb1 hbel
            have c1 : wr.cell? ⟨b, off + k, none⟩ = some (.int .u8 (c.toNat : Int)) := by rw [← hc]; exact (HR.out.below hbw').byte k (by rw [HL0.out]; exact hlt)
            have c2 : wr.cell? ⟨b2, off2 + k, none⟩ = some (.int .i16 z) := by rw [← hz]; exact (HR2.out.below hbw').int k (by omega)
            obtain ⟨hz1, hz2⟩ : -32768 ≤ z ∧ z ≤ 32767 := HN.out z (by rw [← hz]; exact List.getElem_mem _)
            have d0 := cell_of_row wr w2.heap.size 0 _ _ _ HBX.out.box
            have d1' := cell_of_row wr w2.heap.size 1 _ _ _ HBX.out.box
            obtain ⟨A3, c3, rfl⟩ := HBX.out.r0.form
            obtain ⟨A4, c4, rfl⟩ := HBX.out.r1.form
            have d0 : wr.cell? ⟨w2.heap.size, 0, none⟩ = some (.slice A3 P.length c3) := d0.trans rfl
            have d1 : wr.cell? ⟨w2.heap.size, 1, none⟩ = some (.slice A4 U.length c4) := d1'.trans rfl
            clear d1' hc hz
            rcases (show c.toNat % 3 = 0 ∨ c.toNat % 3 = 1 ∨ c.toNat % 3 = 2 by omega) with h3 | h3 | h3
            · have m1 : (c.toNat : Int) % 3 = 0 := by omega
              have m2 : (c.toNat : Int).tmod 3 = 0 := by rw [Int.tmod_eq_emod_of_nonneg (by omega)]; exact m1
              go_wp2_with fail
              have hput := putI_p w1.heap.size g r (ic U) (ic P) z wr HMS.out
              rw [ic_length] at hput
              refine hput.mono ?_
              clear hput
              rintro e w5 ⟨rfl, hms5, hb5, hk5⟩
              have HBX5 := hid (HBX.out.kept hk5)
              have f0 : w5.cell? ⟨w2.heap.size, 0, none⟩ = some (.slice A3 P.length c3) := (cell_of_row w5 w2.heap.size 0 _ _ _ HBX5.out.box).trans rfl
              have f1 : w5.cell? ⟨w2.heap.size, 1, none⟩ = some (.slice A4 U.length c4) := (cell_of_row w5 w2.heap.size 1 _ _ _ HBX5.out.box).trans rfl
              have hbel5 : Below w1.heap.size w1 w5 := hbel.trans hb5
              have c5 : w5.cell? ⟨b2, off2 + k, none⟩ = some (.int .i16 z) := (cell_kept hk5 c2)
              clear d0 d1 c1 c2 HMS HBX hbel
              by_cases hroom : P.length < r
              · have HMS5 : Hid (MS 93 w1.heap.size w5 g r (ic (U)) (ic (P ++ [z]))) := by
                  rw [if_pos hroom] at hms5
                  have e : ic (P ++ [z]) = ic P ++ [.int .i64 z] := ic_append _ _
                  rw [e]
                  exact hid hms5
                have hri : (P.length : Int) < (r : Int) := by omega
                rw [decide_eq_true hroom]
                clear hms5
                have HLT5 := hid ((Array.getElem?_eq_some_iff.1 HBX5.out.box).1)
                have HLB : Hid (b2 < w5.heap.size) := hid (by have := hbel5.size; have := hb1.size; show _ < _; omega)
                go_wp2_with fail
                refine wp_region_any (by kernel_rfl) ?_
                change wpAny _ _ _ _ _ _ _ (World.drew _)
                refine wpAny_take (i := 0) (v := (.int .i64 0)) rfl (by kernel_rfl) (by kernel_rfl) (by kernel_rfl) (fun _ _ _ h => h) (Or.inl ⟨by rfl, ?yy0⟩) ?_
                case yy0 => (intro w; go_simp; try with_reducible rfl)
                simp only [List.getElem_toArray, List.getElem_cons_zero, List.getElem_cons_succ, Act.put, List.setIfInBounds_toArray, List.set_cons_zero, List.set_cons_succ]
                refine wpAny_go 10 [is (.int .i64 0), is (.int .i64 0), is (.pointer (some ⟨w2.heap.size, 0, none⟩)), is (.slice A3 P.length c3), is (.slice (some ⟨b2, off2, none⟩) n2 cap2), is (.int .i64 (k : Int)), is (.pointer (some ⟨b2, off2 + k, none⟩)), is (.int .i16 z), is (.int .i64 z), row 1 [.int .i64 z]] [[], [], [1], [1, 2], [], [], [4, 5], [4, 5, 6], [4, 5, 6, 7], [4, 5, 6, 7, 8], [1, 2, 3, 4, 5, 6, 7, 8, 9]] [0] (by kernel_rfl) (by kernel_rfl) (by kernel_rfl) ?_ ?_ ?_
                · intro k hk; simp only [List.mem_cons, List.not_mem_nil, or_false] at hk; subst hk; rfl
                · refine ⟨?_, ?_, ?_, ?_, ?_, ?_, ?_, ?_, ?_, ?_, trivial⟩
                  · intro t wq hbq hh K hK
                    clear hh
                    simp only [filled, filledN, upd, Have, is, any, row, pick, Act.put, List.setIfInBounds_toArray, List.set_cons_zero, List.set_cons_succ, Nat.reduceAdd, Nat.reduceEqDiff, reduceIte] at hK ⊢
                    go_simp
                    exact hK _ _ (Below.refl _ _) rfl
                  · intro t wq hbq hh K hK
                    clear hh
                    simp only [filled, filledN, upd, Have, is, any, row, pick, Act.put, List.setIfInBounds_toArray, List.set_cons_zero, List.set_cons_succ, Nat.reduceAdd, Nat.reduceEqDiff, reduceIte] at hK ⊢
                    go_simp
                    exact hK _ _ (Below.refl _ _) rfl
                  · intro t wq hbq hh K hK
                    have e1 := hh.1
                    simp only [pick] at e1
                    replace e1 : t 1 = (.int .i64 0) := e1
                    clear hh
                    simp only [filled, filledN, upd, Have, is, any, row, pick, Act.put, List.setIfInBounds_toArray, List.set_cons_zero, List.set_cons_succ, Nat.reduceAdd, Nat.reduceEqDiff, reduceIte] at hK ⊢
                    simp only [e1] at hK ⊢
                    go_simp
                    exact hK _ _ (Below.refl _ _) rfl
                  · intro t wq hbq hh K hK
                    have e2 := hh.2.1
                    simp only [pick] at e2
                    replace e2 : t 2 = (.pointer (some ⟨w2.heap.size, 0, none⟩)) := e2
                    clear hh
                    simp only [filled, filledN, upd, Have, is, any, row, pick, Act.put, List.setIfInBounds_toArray, List.set_cons_zero, List.set_cons_succ, Nat.reduceAdd, Nat.reduceEqDiff, reduceIte] at hK ⊢
                    simp only [e2] at hK ⊢
                    have hd := ((hbq.cell (p := ⟨w2.heap.size, 0, none⟩) HLT5.out).trans f0)
                    go_simp
                    exact hK _ _ (Below.refl _ _) rfl
                  · intro t wq hbq hh K hK
                    clear hh
                    simp only [filled, filledN, upd, Have, is, any, row, pick, Act.put, List.setIfInBounds_toArray, List.set_cons_zero, List.set_cons_succ, Nat.reduceAdd, Nat.reduceEqDiff, reduceIte] at hK ⊢
                    go_simp
                    exact hK _ _ (Below.refl _ _) rfl
                  · intro t wq hbq hh K hK
                    clear hh
                    simp only [filled, filledN, upd, Have, is, any, row, pick, Act.put, List.setIfInBounds_toArray, List.set_cons_zero, List.set_cons_succ, Nat.reduceAdd, Nat.reduceEqDiff, reduceIte] at hK ⊢
                    go_simp
                    exact hK _ _ (Below.refl _ _) rfl
                  · intro t wq hbq hh K hK
                    have e4 := hh.1
                    simp only [pick] at e4
                    replace e4 : t 4 = (.slice (some ⟨b2, off2, none⟩) n2 cap2) := e4
                    have e5 := hh.2.1
                    simp only [pick] at e5
                    replace e5 : t 5 = (.int .i64 (k : Int)) := e5
                    clear hh
                    simp only [filled, filledN, upd, Have, is, any, row, pick, Act.put, List.setIfInBounds_toArray, List.set_cons_zero, List.set_cons_succ, Nat.reduceAdd, Nat.reduceEqDiff, reduceIte] at hK ⊢
                    simp only [e4, e5] at hK ⊢
                    have hki : (k : Int) < (n2 : Int) := by omega
                    go_simp
                    exact hK _ _ (Below.refl _ _) rfl
                  · intro t wq hbq hh K hK
                    have e6 := hh.2.2.1
                    simp only [pick] at e6
                    replace e6 : t 6 = (.pointer (some ⟨b2, off2 + k, none⟩)) := e6
                    clear hh
                    simp only [filled, filledN, upd, Have, is, any, row, pick, Act.put, List.setIfInBounds_toArray, List.set_cons_zero, List.set_cons_succ, Nat.reduceAdd, Nat.reduceEqDiff, reduceIte] at hK ⊢
                    simp only [e6] at hK ⊢
                    have hd := ((hbq.cell (p := ⟨b2, off2 + k, none⟩) HLB.out).trans c5)
                    go_simp
                    exact hK _ _ (Below.refl _ _) rfl
                  · intro t wq hbq hh K hK
                    have e7 := hh.2.2.2.1
                    simp only [pick] at e7
                    replace e7 : t 7 = (.int .i16 z) := e7
                    clear hh
                    simp only [filled, filledN, upd, Have, is, any, row, pick, Act.put, List.setIfInBounds_toArray, List.set_cons_zero, List.set_cons_succ, Nat.reduceAdd, Nat.reduceEqDiff, reduceIte] at hK ⊢
                    simp only [e7] at hK ⊢
                    go_simp
                    exact hK _ _ (Below.refl _ _) (by first | rfl | (rw [int_wrap (by omega) (by omega)]))
                  · intro t wq hbq hh K hK
                    have e8 := hh.2.2.2.2.1
                    simp only [pick] at e8
                    replace e8 : t 8 = (.int .i64 z) := e8
                    clear hh
                    simp only [filled, filledN, upd, Have, is, any, row, pick, Act.put, List.setIfInBounds_toArray, List.set_cons_zero, List.set_cons_succ, Nat.reduceAdd, Nat.reduceEqDiff, reduceIte] at hK ⊢
                    simp only [e8] at hK ⊢
                    go_simp
                    exact hK _ _ ((Below.refl _ _).alloc (Nat.le_refl _) _) ⟨_, _, rfl, by omega, by decide, Rds.of_spot rfl (by simp) (fun j hj => by have h0 : j = 0 := (by simpa using hj); subst h0; rw [Nat.zero_add, World.cell?_alloc_mark]; simp)⟩
                · intro t wq hbq hh
                  have f0 := have_get hh 0 (by decide)
                  simp only [pick] at f0
                  replace f0 : t 0 = (.int .i64 0) := f0
                  have f3 := have_get hh 3 (by decide)
                  simp only [pick] at f3
                  replace f3 : t 3 = (.slice A3 P.length c3) := f3
                  have f9 := have_get hh 9 (by decide)
                  simp only [pick] at f9
                  clear hh
                  simp only [filled, filledN, upd, Have, is, any, row, pick, Act.put, List.setIfInBounds_toArray, List.set_cons_zero, List.set_cons_succ, Nat.reduceAdd, Nat.reduceEqDiff, reduceIte]
                  obtain ⟨A9, c9, f9, hc9, hm9, hr9⟩ := f9
                  simp only [f0, f3, f9]
                  have HBQ := hid (HBX5.out.kept (kept_below (w := w5.drew) hbq))
                  have HMQ := hid (MS.below (w := w5.drew) HMS5.out hbq)
                  have hBq : w1.heap.size ≤ wq.heap.size := Nat.le_trans hbel5.size hbq.size
                  obtain ⟨b9, o9, rfl, _, hc9'⟩ := hr9.spot (by omega)
                  have hx9 : wq.cell? ⟨b9, o9, none⟩ = some (.int .i64 z) := by have := hc9' 0 (by simp); simpa using this
                  clear hc9' hr9
                  show wpList _ _ _ [_, _, _] _ _
                  refine wpList_app_osl rfl _ _ 34 rfl Try.underlying34 w1.heap.size (.slice A3 P.length c3) P rfl HBQ.out.r0 hBq (by omega) b9 o9 c9 z rfl hx9 ?_
                  intro v6 w6 hosl6 hg6 hf6
                  obtain ⟨A6, c6, rfl⟩ := hosl6.form
                  rw [List.length_append, List.length_singleton] at hosl6 hf6 ⊢
                  obtain ⟨e6, HBX6⟩ := Bx.app0 HBQ.out hosl6 hg6 hf6
                  have hbx6 := e6.trans HBQ.out.box
                  have HBX6 := hid HBX6
                  have hlt6 := (Array.getElem?_eq_some_iff.1 HBQ.out.box).1
                  have HMS6 : Hid (MS 93 w1.heap.size (w6.setCell ⟨w2.heap.size, 0, none⟩ (.slice A6 (P.length + 1) c6)) g r (ic (U)) (ic (P ++ [z]))) := hid (ms_app HMQ.out HBQ.out HBQ.out.r0 hg6 0 (.slice A6 (P.length + 1) c6))
                  have hbel6 : Below w1.heap.size w1 (w6.setCell ⟨w2.heap.size, 0, none⟩ (.slice A6 (P.length + 1) c6)) := ((hbel5.trans (Below.mono (B := w5.drew.heap.size) ⟨hbq.os, hbq.tape, hbq.output, hbq.size, hbq.block⟩ hbel5.size)).grown hg6 hBq (fun kk hkk => (HBQ.out.r0.own hkk).1)).setCell (p := ⟨w2.heap.size, 0, none⟩) hb2.size (.slice A6 (P.length + 1) c6)
                  have g0 : w6.cell? ⟨w2.heap.size, 0, none⟩ = some (.slice A3 P.length c3) := (cell_of_row w6 w2.heap.size 0 _ _ _ hbx6).trans rfl
                  have g1 := frozen_of_row w6 w2.heap.size 0 _ _ hbx6
                  clear hosl6 hg6 hf6 e6 hbx6 hx9 HBQ HMQ
                  go_wp2
                  go_roundw
                  case rel => exact ⟨k + 1, _, _, P ++ [z], U, by omega, by go_num, by simp; omega, by omega, HMS6.out, HBX6.out, hbel6⟩
                  case measure => simp [intOf]; omega
              · have HMS5 : Hid (MS 93 w1.heap.size w5 g r (ic U) (ic P)) := by
                  rw [if_neg hroom] at hms5
                  exact hid hms5
                have hri : ¬ (P.length : Int) < (r : Int) := by omega
                rw [decide_eq_false hroom]
                clear hms5
                go_wp2
                go_roundw
                case rel => exact ⟨k + 1, _, _, P, U, by omega, by go_num, hP, hU, HMS5.out, HBX5.out, hbel5⟩
                case measure => simp [intOf]; omega
            · have m1 : (c.toNat : Int) % 3 = 1 := by omega
              have m2 : (c.toNat : Int).tmod 3 = 1 := by rw [Int.tmod_eq_emod_of_nonneg (by omega)]; exact m1
              go_wp2_with fail
              have hput := putI_u w1.heap.size g r (ic U) (ic P) z wr HMS.out
              rw [ic_length] at hput
              refine hput.mono ?_
              clear hput
              rintro e w5 ⟨rfl, hms5, hb5, hk5⟩
              have HBX5 := hid (HBX.out.kept hk5)
              have f0 : w5.cell? ⟨w2.heap.size, 0, none⟩ = some (.slice A3 P.length c3) := (cell_of_row w5 w2.heap.size 0 _ _ _ HBX5.out.box).trans rfl
              have f1 : w5.cell? ⟨w2.heap.size, 1, none⟩ = some (.slice A4 U.length c4) := (cell_of_row w5 w2.heap.size 1 _ _ _ HBX5.out.box).trans rfl
              have hbel5 : Below w1.heap.size w1 w5 := hbel.trans hb5
              have c5 : w5.cell? ⟨b2, off2 + k, none⟩ = some (.int .i16 z) := (cell_kept hk5 c2)
              clear d0 d1 c1 c2 HMS HBX hbel
              by_cases hroom : U.length < r
              · have HMS5 : Hid (MS 93 w1.heap.size w5 g r (ic (U ++ [z])) (ic (P))) := by
                  rw [if_pos hroom] at hms5
                  have e : ic (U ++ [z]) = ic U ++ [.int .i64 z] := ic_append _ _
                  rw [e]
                  exact hid hms5
                have hri : (U.length : Int) < (r : Int) := by omega
                rw [decide_eq_true hroom]
                clear hms5
                have HLT5 := hid ((Array.getElem?_eq_some_iff.1 HBX5.out.box).1)
                have HLB : Hid (b2 < w5.heap.size) := hid (by have := hbel5.size; have := hb1.size; show _ < _; omega)
                go_wp2_with fail
                refine wp_region_any (by kernel_rfl) ?_
                change wpAny _ _ _ _ _ _ _ (World.drew _)
                refine wpAny_take (i := 0) (v := (.int .i64 1)) rfl (by kernel_rfl) (by kernel_rfl) (by kernel_rfl) (fun _ _ _ h => h) (Or.inl ⟨by rfl, ?yy0⟩) ?_
                case yy0 => (intro w; go_simp; try with_reducible rfl)
                simp only [List.getElem_toArray, List.getElem_cons_zero, List.getElem_cons_succ, Act.put, List.setIfInBounds_toArray, List.set_cons_zero, List.set_cons_succ]
                refine wpAny_go 10 [is (.int .i64 1), is (.int .i64 1), is (.pointer (some ⟨w2.heap.size, 1, none⟩)), is (.slice A4 U.length c4), is (.slice (some ⟨b2, off2, none⟩) n2 cap2), is (.int .i64 (k : Int)), is (.pointer (some ⟨b2, off2 + k, none⟩)), is (.int .i16 z), is (.int .i64 z), row 1 [.int .i64 z]] [[], [], [1], [1, 2], [], [], [4, 5], [4, 5, 6], [4, 5, 6, 7], [4, 5, 6, 7, 8], [1, 2, 3, 4, 5, 6, 7, 8, 9]] [0] (by kernel_rfl) (by kernel_rfl) (by kernel_rfl) ?_ ?_ ?_
                · intro k hk; simp only [List.mem_cons, List.not_mem_nil, or_false] at hk; subst hk; rfl
                · refine ⟨?_, ?_, ?_, ?_, ?_, ?_, ?_, ?_, ?_, ?_, trivial⟩
                  · intro t wq hbq hh K hK
                    clear hh
                    simp only [filled, filledN, upd, Have, is, any, row, pick, Act.put, List.setIfInBounds_toArray, List.set_cons_zero, List.set_cons_succ, Nat.reduceAdd, Nat.reduceEqDiff, reduceIte] at hK ⊢
                    go_simp
                    exact hK _ _ (Below.refl _ _) rfl
                  · intro t wq hbq hh K hK
                    clear hh
                    simp only [filled, filledN, upd, Have, is, any, row, pick, Act.put, List.setIfInBounds_toArray, List.set_cons_zero, List.set_cons_succ, Nat.reduceAdd, Nat.reduceEqDiff, reduceIte] at hK ⊢
                    go_simp
                    exact hK _ _ (Below.refl _ _) rfl
                  · intro t wq hbq hh K hK
                    have e1 := hh.1
                    simp only [pick] at e1
                    replace e1 : t 1 = (.int .i64 1) := e1
                    clear hh
                    simp only [filled, filledN, upd, Have, is, any, row, pick, Act.put, List.setIfInBounds_toArray, List.set_cons_zero, List.set_cons_succ, Nat.reduceAdd, Nat.reduceEqDiff, reduceIte] at hK ⊢
                    simp only [e1] at hK ⊢
                    go_simp
                    exact hK _ _ (Below.refl _ _) rfl
                  · intro t wq hbq hh K hK
                    have e2 := hh.2.1
                    simp only [pick] at e2
                    replace e2 : t 2 = (.pointer (some ⟨w2.heap.size, 1, none⟩)) := e2
                    clear hh
                    simp only [filled, filledN, upd, Have, is, any, row, pick, Act.put, List.setIfInBounds_toArray, List.set_cons_zero, List.set_cons_succ, Nat.reduceAdd, Nat.reduceEqDiff, reduceIte] at hK ⊢
                    simp only [e2] at hK ⊢
                    have hd := ((hbq.cell (p := ⟨w2.heap.size, 1, none⟩) HLT5.out).trans f1)
                    go_simp
                    exact hK _ _ (Below.refl _ _) rfl
                  · intro t wq hbq hh K hK
                    clear hh
                    simp only [filled, filledN, upd, Have, is, any, row, pick, Act.put, List.setIfInBounds_toArray, List.set_cons_zero, List.set_cons_succ, Nat.reduceAdd, Nat.reduceEqDiff, reduceIte] at hK ⊢
                    go_simp
                    exact hK _ _ (Below.refl _ _) rfl
                  · intro t wq hbq hh K hK
                    clear hh
                    simp only [filled, filledN, upd, Have, is, any, row, pick, Act.put, List.setIfInBounds_toArray, List.set_cons_zero, List.set_cons_succ, Nat.reduceAdd, Nat.reduceEqDiff, reduceIte] at hK ⊢
                    go_simp
                    exact hK _ _ (Below.refl _ _) rfl
                  · intro t wq hbq hh K hK
                    have e4 := hh.1
                    simp only [pick] at e4
                    replace e4 : t 4 = (.slice (some ⟨b2, off2, none⟩) n2 cap2) := e4
                    have e5 := hh.2.1
                    simp only [pick] at e5
                    replace e5 : t 5 = (.int .i64 (k : Int)) := e5
                    clear hh
                    simp only [filled, filledN, upd, Have, is, any, row, pick, Act.put, List.setIfInBounds_toArray, List.set_cons_zero, List.set_cons_succ, Nat.reduceAdd, Nat.reduceEqDiff, reduceIte] at hK ⊢
                    simp only [e4, e5] at hK ⊢
                    have hki : (k : Int) < (n2 : Int) := by omega
                    go_simp
                    exact hK _ _ (Below.refl _ _) rfl
                  · intro t wq hbq hh K hK
                    have e6 := hh.2.2.1
                    simp only [pick] at e6
                    replace e6 : t 6 = (.pointer (some ⟨b2, off2 + k, none⟩)) := e6
                    clear hh
                    simp only [filled, filledN, upd, Have, is, any, row, pick, Act.put, List.setIfInBounds_toArray, List.set_cons_zero, List.set_cons_succ, Nat.reduceAdd, Nat.reduceEqDiff, reduceIte] at hK ⊢
                    simp only [e6] at hK ⊢
                    have hd := ((hbq.cell (p := ⟨b2, off2 + k, none⟩) HLB.out).trans c5)
                    go_simp
                    exact hK _ _ (Below.refl _ _) rfl
                  · intro t wq hbq hh K hK
                    have e7 := hh.2.2.2.1
                    simp only [pick] at e7
                    replace e7 : t 7 = (.int .i16 z) := e7
                    clear hh
                    simp only [filled, filledN, upd, Have, is, any, row, pick, Act.put, List.setIfInBounds_toArray, List.set_cons_zero, List.set_cons_succ, Nat.reduceAdd, Nat.reduceEqDiff, reduceIte] at hK ⊢
                    simp only [e7] at hK ⊢
                    go_simp
                    exact hK _ _ (Below.refl _ _) (by first | rfl | (rw [int_wrap (by omega) (by omega)]))
                  · intro t wq hbq hh K hK
                    have e8 := hh.2.2.2.2.1
                    simp only [pick] at e8
                    replace e8 : t 8 = (.int .i64 z) := e8
                    clear hh
                    simp only [filled, filledN, upd, Have, is, any, row, pick, Act.put, List.setIfInBounds_toArray, List.set_cons_zero, List.set_cons_succ, Nat.reduceAdd, Nat.reduceEqDiff, reduceIte] at hK ⊢
                    simp only [e8] at hK ⊢
                    go_simp
                    exact hK _ _ ((Below.refl _ _).alloc (Nat.le_refl _) _) ⟨_, _, rfl, by omega, by decide, Rds.of_spot rfl (by simp) (fun j hj => by have h0 : j = 0 := (by simpa using hj); subst h0; rw [Nat.zero_add, World.cell?_alloc_mark]; simp)⟩
                · intro t wq hbq hh
                  have f0 := have_get hh 0 (by decide)
                  simp only [pick] at f0
                  replace f0 : t 0 = (.int .i64 1) := f0
                  have f3 := have_get hh 3 (by decide)
                  simp only [pick] at f3
                  replace f3 : t 3 = (.slice A4 U.length c4) := f3
                  have f9 := have_get hh 9 (by decide)
                  simp only [pick] at f9
                  clear hh
                  simp only [filled, filledN, upd, Have, is, any, row, pick, Act.put, List.setIfInBounds_toArray, List.set_cons_zero, List.set_cons_succ, Nat.reduceAdd, Nat.reduceEqDiff, reduceIte]
                  obtain ⟨A9, c9, f9, hc9, hm9, hr9⟩ := f9
                  simp only [f0, f3, f9]
                  have HBQ := hid (HBX5.out.kept (kept_below (w := w5.drew) hbq))
                  have HMQ := hid (MS.below (w := w5.drew) HMS5.out hbq)
                  have hBq : w1.heap.size ≤ wq.heap.size := Nat.le_trans hbel5.size hbq.size
                  obtain ⟨b9, o9, rfl, _, hc9'⟩ := hr9.spot (by omega)
                  have hx9 : wq.cell? ⟨b9, o9, none⟩ = some (.int .i64 z) := by have := hc9' 0 (by simp); simpa using this
                  clear hc9' hr9
                  show wpList _ _ _ [_, _, _] _ _
                  refine wpList_app_osl rfl _ _ 34 rfl Try.underlying34 w1.heap.size (.slice A4 U.length c4) U rfl HBQ.out.r1 hBq (by omega) b9 o9 c9 z rfl hx9 ?_
                  intro v6 w6 hosl6 hg6 hf6
                  obtain ⟨A6, c6, rfl⟩ := hosl6.form
                  rw [List.length_append, List.length_singleton] at hosl6 hf6 ⊢
                  obtain ⟨e6, HBX6⟩ := Bx.app1 HBQ.out hosl6 hg6 hf6
                  have hbx6 := e6.trans HBQ.out.box
                  have HBX6 := hid HBX6
                  have hlt6 := (Array.getElem?_eq_some_iff.1 HBQ.out.box).1
                  have HMS6 : Hid (MS 93 w1.heap.size (w6.setCell ⟨w2.heap.size, 1, none⟩ (.slice A6 (U.length + 1) c6)) g r (ic (U ++ [z])) (ic (P))) := hid (ms_app HMQ.out HBQ.out HBQ.out.r1 hg6 1 (.slice A6 (U.length + 1) c6))
                  have hbel6 : Below w1.heap.size w1 (w6.setCell ⟨w2.heap.size, 1, none⟩ (.slice A6 (U.length + 1) c6)) := ((hbel5.trans (Below.mono (B := w5.drew.heap.size) ⟨hbq.os, hbq.tape, hbq.output, hbq.size, hbq.block⟩ hbel5.size)).grown hg6 hBq (fun kk hkk => (HBQ.out.r1.own hkk).1)).setCell (p := ⟨w2.heap.size, 1, none⟩) hb2.size (.slice A6 (U.length + 1) c6)
                  have g0 : w6.cell? ⟨w2.heap.size, 1, none⟩ = some (.slice A4 U.length c4) := (cell_of_row w6 w2.heap.size 1 _ _ _ hbx6).trans rfl
                  have g1 := frozen_of_row w6 w2.heap.size 1 _ _ hbx6
                  clear hosl6 hg6 hf6 e6 hbx6 hx9 HBQ HMQ
                  go_wp2
                  go_roundw
                  case rel => exact ⟨k + 1, _, _, P, U ++ [z], by omega, by go_num, by omega, by simp; omega, HMS6.out, HBX6.out, hbel6⟩
                  case measure => simp [intOf]; omega
              · have HMS5 : Hid (MS 93 w1.heap.size w5 g r (ic U) (ic P)) := by
                  rw [if_neg hroom] at hms5
                  exact hid hms5
                have hri : ¬ (U.length : Int) < (r : Int) := by omega
                rw [decide_eq_false hroom]
                clear hms5
                go_wp2
                go_roundw
                case rel => exact ⟨k + 1, _, _, P, U, by omega, by go_num, hP, hU, HMS5.out, HBX5.out, hbel5⟩
                case measure => simp [intOf]; omega
            · have m1 : (c.toNat : Int) % 3 = 2 := by omega
              have m2 : (c.toNat : Int).tmod 3 = 2 := by rw [Int.tmod_eq_emod_of_nonneg (by omega)]; exact m1
              go_wp2_with fail
              cases U with
              | cons x U =>
                refine (tkI_urgent w1.heap.size g r (ic U) (ic P) x wr HMS.out).mono ?_
                rintro e w5 ⟨rfl, hms5, hb5, hk5⟩
                have HMS5 : Hid (MS 93 w1.heap.size w5 g r (ic U) (ic P)) := hid hms5
                have HBX5 := hid (HBX.out.kept hk5)
                have hbel5 : Below w1.heap.size w1 w5 := hbel.trans hb5
                obtain ⟨gh, oh, ch, he, hch, hx5, hosl, hosl1⟩ := HBX5.out.r1.head
                injection he with he1 he2 he3
                subst he1
                subst he3
                have f0 : w5.cell? ⟨w2.heap.size, 0, none⟩ = some (.slice A3 P.length c3) := (cell_of_row w5 w2.heap.size 0 _ _ _ HBX5.out.box).trans rfl
                have f1 : w5.cell? ⟨w2.heap.size, 1, none⟩ = some (.slice (some ⟨gh, oh, none⟩) (U.length + 1) c4) := (cell_of_row w5 w2.heap.size 1 _ _ _ HBX5.out.box).trans rfl
                have f2 := frozen_of_row w5 w2.heap.size 1 _ _ HBX5.out.box
                have hlc : U.length + 1 ≤ 64 := by have : (x :: U).length = U.length + 1 := rfl; omega
                clear d0 d1 c1 c2 HMS HBX hbel hms5
                simp only [List.length_cons] at hU
                by_cases hc1 : c4 = 1
                · have HO := hid (show Osl w5 w1.heap.size (.slice (some ⟨gh, oh, none⟩) U.length 0) U from hosl1 hc1)
                  have hgr : w5.grownBy w5 (some gh) := ⟨rfl, rfl, rfl, Nat.le_refl _, fun _ _ _ => rfl⟩
                  have HBX6 := hid (Bx.app1 HBX5.out HO.out hgr (fun kk hkk => Or.inl hkk)).2
                  have HMS6 : Hid (MS 93 w1.heap.size (w5.setCell ⟨w2.heap.size, 1, none⟩ (.slice (some ⟨gh, oh, none⟩) U.length 0)) g r (ic U) (ic P)) := hid (ms_app HMS5.out HBX5.out HBX5.out.r1 hgr 1 _)
                  have hbel6 := hbel5.setCell (p := ⟨w2.heap.size, 1, none⟩) hb2.size (.slice (some ⟨gh, oh, none⟩) U.length 0)
                  have k0 : (w5.setCell ⟨w2.heap.size, 1, none⟩ (.slice (some ⟨gh, oh, none⟩) U.length 0)).cell? ⟨w2.heap.size, 0, none⟩ = some (.slice A3 P.length c3) := (cell_of_row _ w2.heap.size 0 _ _ _ HBX6.out.box).trans rfl
                  have k1 : (w5.setCell ⟨w2.heap.size, 1, none⟩ (.slice (some ⟨gh, oh, none⟩) U.length 0)).cell? ⟨w2.heap.size, 1, none⟩ = some (.slice (some ⟨gh, oh, none⟩) U.length 0) := (cell_of_row _ w2.heap.size 1 _ _ _ HBX6.out.box).trans rfl
                  have hlt6 := (Array.getElem?_eq_some_iff.1 HBX6.out.box).1
                  have HLT6 := hid hlt6
                  clear hlt6 HO
                  go_wp2_with fail
                  generalize w5.setCell _ _ = w6 at HMS6 HBX6 hbel6 k0 k1 HLT6 ⊢
                  clear f0 f1 f2 hx5 hosl hosl1 HBX5 HMS5 hgr
                  refine wp_region_rel (by kernel_rfl) [is (.pointer (some ⟨g, 0, none⟩)), is (.int .i64 ((U.length + P.length : Nat) : Int)), is (.pointer (some ⟨w2.heap.size, 0, none⟩)), is (.slice A3 P.length c3), is (.int .i64 (P.length : Int)), is (.pointer (some ⟨w2.heap.size, 1, none⟩)), is ((.slice (some ⟨gh, oh, none⟩) U.length 0)), is (.int .i64 ((U.length : Nat) : Int)), is (.int .i64 ((U.length + P.length : Nat) : Int)), is (.bool false)] [[], [0], [], [2], [3], [], [5], [6], [4, 7], [1, 8]] (by kernel_rfl) ?_ ?_
                  · refine ⟨?_, ?_, ?_, ?_, ?_, ?_, ?_, ?_, ?_, ?_, trivial⟩
                    · intro t wq hbq hh K hK
                      clear hh
                      simp only [filled, upd, Have, is, any, row, pick, Act.put, List.setIfInBounds_toArray, List.set_cons_zero, List.set_cons_succ, Nat.reduceAdd, Nat.reduceEqDiff, reduceIte] at hK ⊢
                      go_simp
                      exact hK _ _ (Below.refl _ _) rfl
                    · intro t wq hbq hh K hK
                      have e0 := hh.1
                      simp only [pick] at e0
                      replace e0 : t 0 = (.pointer (some ⟨g, 0, none⟩)) := e0
                      clear hh
                      simp only [filled, upd, Have, is, any, row, pick, Act.put, List.setIfInBounds_toArray, List.set_cons_zero, List.set_cons_succ, Nat.reduceAdd, Nat.reduceEqDiff, reduceIte] at hK ⊢
                      simp only [e0] at hK ⊢
                      go_simp
                      have hlen := lenI w1.heap.size g r (ic U) (ic P) wq (HMS6.out.below hbq) (by rw [ic_length]; omega) (by rw [ic_length]; omega)
                      rw [ic_length, ic_length] at hlen
                      refine hlen.mono ?_
                      rintro e w7 ⟨rfl, hb7⟩
                      exact hK _ _ hb7 rfl
                    · intro t wq hbq hh K hK
                      clear hh
                      simp only [filled, upd, Have, is, any, row, pick, Act.put, List.setIfInBounds_toArray, List.set_cons_zero, List.set_cons_succ, Nat.reduceAdd, Nat.reduceEqDiff, reduceIte] at hK ⊢
                      go_simp
                      exact hK _ _ (Below.refl _ _) rfl
                    · intro t wq hbq hh K hK
                      have e2 := hh.1
                      simp only [pick] at e2
                      replace e2 : t 2 = (.pointer (some ⟨w2.heap.size, 0, none⟩)) := e2
                      clear hh
                      simp only [filled, upd, Have, is, any, row, pick, Act.put, List.setIfInBounds_toArray, List.set_cons_zero, List.set_cons_succ, Nat.reduceAdd, Nat.reduceEqDiff, reduceIte] at hK ⊢
                      simp only [e2] at hK ⊢
                      have hd := (hbq.cell (p := ⟨w2.heap.size, 0, none⟩) HLT6.out).trans k0
                      go_simp
                      exact hK _ _ (Below.refl _ _) rfl
                    · intro t wq hbq hh K hK
                      have e3 := hh.1
                      simp only [pick] at e3
                      replace e3 : t 3 = (.slice A3 P.length c3) := e3
                      clear hh
                      simp only [filled, upd, Have, is, any, row, pick, Act.put, List.setIfInBounds_toArray, List.set_cons_zero, List.set_cons_succ, Nat.reduceAdd, Nat.reduceEqDiff, reduceIte] at hK ⊢
                      simp only [e3] at hK ⊢
                      go_simp
                      exact hK _ _ (Below.refl _ _) rfl
                    · intro t wq hbq hh K hK
                      clear hh
                      simp only [filled, upd, Have, is, any, row, pick, Act.put, List.setIfInBounds_toArray, List.set_cons_zero, List.set_cons_succ, Nat.reduceAdd, Nat.reduceEqDiff, reduceIte] at hK ⊢
                      go_simp
                      exact hK _ _ (Below.refl _ _) rfl
                    · intro t wq hbq hh K hK
                      have e5 := hh.1
                      simp only [pick] at e5
                      replace e5 : t 5 = (.pointer (some ⟨w2.heap.size, 1, none⟩)) := e5
                      clear hh
                      simp only [filled, upd, Have, is, any, row, pick, Act.put, List.setIfInBounds_toArray, List.set_cons_zero, List.set_cons_succ, Nat.reduceAdd, Nat.reduceEqDiff, reduceIte] at hK ⊢
                      simp only [e5] at hK ⊢
                      have hd := (hbq.cell (p := ⟨w2.heap.size, 1, none⟩) HLT6.out).trans k1
                      go_simp
                      exact hK _ _ (Below.refl _ _) rfl
                    · intro t wq hbq hh K hK
                      have e6 := hh.1
                      simp only [pick] at e6
                      replace e6 : t 6 = ((.slice (some ⟨gh, oh, none⟩) U.length 0)) := e6
                      clear hh
                      simp only [filled, upd, Have, is, any, row, pick, Act.put, List.setIfInBounds_toArray, List.set_cons_zero, List.set_cons_succ, Nat.reduceAdd, Nat.reduceEqDiff, reduceIte] at hK ⊢
                      simp only [e6] at hK ⊢
                      go_simp
                      exact hK _ _ (Below.refl _ _) rfl
                    · intro t wq hbq hh K hK
                      have e4 := hh.1
                      simp only [pick] at e4
                      replace e4 : t 4 = (.int .i64 (P.length : Int)) := e4
                      have e7 := hh.2.1
                      simp only [pick] at e7
                      replace e7 : t 7 = (.int .i64 ((U.length : Nat) : Int)) := e7
                      clear hh
                      simp only [filled, upd, Have, is, any, row, pick, Act.put, List.setIfInBounds_toArray, List.set_cons_zero, List.set_cons_succ, Nat.reduceAdd, Nat.reduceEqDiff, reduceIte] at hK ⊢
                      simp only [e4, e7] at hK ⊢
                      go_simp
                      exact hK _ _ (Below.refl _ _) (by first | rfl | exact int_wrap (by omega) (by omega) | (rw [int_wrap (by omega) (by omega)]; congr 1; omega) | (congr 1; omega) | (simp; omega))
                    · intro t wq hbq hh K hK
                      have e1 := hh.1
                      simp only [pick] at e1
                      replace e1 : t 1 = (.int .i64 ((U.length + P.length : Nat) : Int)) := e1
                      have e8 := hh.2.1
                      simp only [pick] at e8
                      replace e8 : t 8 = (.int .i64 ((U.length + P.length : Nat) : Int)) := e8
                      clear hh
                      simp only [filled, upd, Have, is, any, row, pick, Act.put, List.setIfInBounds_toArray, List.set_cons_zero, List.set_cons_succ, Nat.reduceAdd, Nat.reduceEqDiff, reduceIte] at hK ⊢
                      simp only [e1, e8] at hK ⊢
                      go_simp
                      first | exact hK _ _ (Below.refl _ _) rfl | exact hK _ _ (Below.refl _ _) (by simp)
                  · intro t wq hbq hh
                    have f9 := have_get hh 9 (by decide)
                    simp only [pick] at f9
                    replace f9 : t 9 = (.bool false) := f9
                    clear hh
                    simp only [filled, upd, Have, is, any, row, pick, Act.put, List.setIfInBounds_toArray, List.set_cons_zero, List.set_cons_succ, Nat.reduceAdd, Nat.reduceEqDiff, reduceIte]
                    simp only [f9]
                    go_wp2
                    go_roundw
                    case rel => exact ⟨k + 1, _, _, P, U, by omega, by go_num, by omega, by omega, hid (HMS6.out.below hbq), hid (HBX6.out.kept (kept_below hbq)), hbel6.trans (hbq.mono (Nat.le_trans (Nat.le_trans hb2.size (Nat.le_of_lt HLT6.out)) (Nat.le_refl _)))⟩
                    case measure => simp [intOf]; omega
                · have HO := hid (show Osl w5 w1.heap.size (.slice (some ⟨gh, oh + 1, none⟩) U.length (c4 - 1)) U from hosl)
                  have hgr : w5.grownBy w5 (some gh) := ⟨rfl, rfl, rfl, Nat.le_refl _, fun _ _ _ => rfl⟩
                  have HBX6 := hid (Bx.app1 HBX5.out HO.out hgr (fun kk hkk => Or.inl hkk)).2
                  have HMS6 : Hid (MS 93 w1.heap.size (w5.setCell ⟨w2.heap.size, 1, none⟩ (.slice (some ⟨gh, oh + 1, none⟩) U.length (c4 - 1))) g r (ic U) (ic P)) := hid (ms_app HMS5.out HBX5.out HBX5.out.r1 hgr 1 _)
                  have hbel6 := hbel5.setCell (p := ⟨w2.heap.size, 1, none⟩) hb2.size (.slice (some ⟨gh, oh + 1, none⟩) U.length (c4 - 1))
                  have k0 : (w5.setCell ⟨w2.heap.size, 1, none⟩ (.slice (some ⟨gh, oh + 1, none⟩) U.length (c4 - 1))).cell? ⟨w2.heap.size, 0, none⟩ = some (.slice A3 P.length c3) := (cell_of_row _ w2.heap.size 0 _ _ _ HBX6.out.box).trans rfl
                  have k1 : (w5.setCell ⟨w2.heap.size, 1, none⟩ (.slice (some ⟨gh, oh + 1, none⟩) U.length (c4 - 1))).cell? ⟨w2.heap.size, 1, none⟩ = some (.slice (some ⟨gh, oh + 1, none⟩) U.length (c4 - 1)) := (cell_of_row _ w2.heap.size 1 _ _ _ HBX6.out.box).trans rfl
                  have hlt6 := (Array.getElem?_eq_some_iff.1 HBX6.out.box).1
                  have HLT6 := hid hlt6
                  clear hlt6 HO
                  go_wp2_with fail
                  generalize w5.setCell _ _ = w6 at HMS6 HBX6 hbel6 k0 k1 HLT6 ⊢
                  clear f0 f1 f2 hx5 hosl hosl1 HBX5 HMS5 hgr
                  refine wp_region_rel (by kernel_rfl) [is (.pointer (some ⟨g, 0, none⟩)), is (.int .i64 ((U.length + P.length : Nat) : Int)), is (.pointer (some ⟨w2.heap.size, 0, none⟩)), is (.slice A3 P.length c3), is (.int .i64 (P.length : Int)), is (.pointer (some ⟨w2.heap.size, 1, none⟩)), is ((.slice (some ⟨gh, oh + 1, none⟩) U.length (c4 - 1))), is (.int .i64 ((U.length : Nat) : Int)), is (.int .i64 ((U.length + P.length : Nat) : Int)), is (.bool false)] [[], [0], [], [2], [3], [], [5], [6], [4, 7], [1, 8]] (by kernel_rfl) ?_ ?_
                  · refine ⟨?_, ?_, ?_, ?_, ?_, ?_, ?_, ?_, ?_, ?_, trivial⟩
                    · intro t wq hbq hh K hK
                      clear hh
                      simp only [filled, upd, Have, is, any, row, pick, Act.put, List.setIfInBounds_toArray, List.set_cons_zero, List.set_cons_succ, Nat.reduceAdd, Nat.reduceEqDiff, reduceIte] at hK ⊢
                      go_simp
                      exact hK _ _ (Below.refl _ _) rfl
                    · intro t wq hbq hh K hK
                      have e0 := hh.1
                      simp only [pick] at e0
                      replace e0 : t 0 = (.pointer (some ⟨g, 0, none⟩)) := e0
                      clear hh
                      simp only [filled, upd, Have, is, any, row, pick, Act.put, List.setIfInBounds_toArray, List.set_cons_zero, List.set_cons_succ, Nat.reduceAdd, Nat.reduceEqDiff, reduceIte] at hK ⊢
                      simp only [e0] at hK ⊢
                      go_simp
                      have hlen := lenI w1.heap.size g r (ic U) (ic P) wq (HMS6.out.below hbq) (by rw [ic_length]; omega) (by rw [ic_length]; omega)
                      rw [ic_length, ic_length] at hlen
                      refine hlen.mono ?_
                      rintro e w7 ⟨rfl, hb7⟩
                      exact hK _ _ hb7 rfl
                    · intro t wq hbq hh K hK
                      clear hh
                      simp only [filled, upd, Have, is, any, row, pick, Act.put, List.setIfInBounds_toArray, List.set_cons_zero, List.set_cons_succ, Nat.reduceAdd, Nat.reduceEqDiff, reduceIte] at hK ⊢
                      go_simp
                      exact hK _ _ (Below.refl _ _) rfl
                    · intro t wq hbq hh K hK
                      have e2 := hh.1
                      simp only [pick] at e2
                      replace e2 : t 2 = (.pointer (some ⟨w2.heap.size, 0, none⟩)) := e2
                      clear hh
                      simp only [filled, upd, Have, is, any, row, pick, Act.put, List.setIfInBounds_toArray, List.set_cons_zero, List.set_cons_succ, Nat.reduceAdd, Nat.reduceEqDiff, reduceIte] at hK ⊢
                      simp only [e2] at hK ⊢
                      have hd := (hbq.cell (p := ⟨w2.heap.size, 0, none⟩) HLT6.out).trans k0
                      go_simp
                      exact hK _ _ (Below.refl _ _) rfl
                    · intro t wq hbq hh K hK
                      have e3 := hh.1
                      simp only [pick] at e3
                      replace e3 : t 3 = (.slice A3 P.length c3) := e3
                      clear hh
                      simp only [filled, upd, Have, is, any, row, pick, Act.put, List.setIfInBounds_toArray, List.set_cons_zero, List.set_cons_succ, Nat.reduceAdd, Nat.reduceEqDiff, reduceIte] at hK ⊢
                      simp only [e3] at hK ⊢
                      go_simp
                      exact hK _ _ (Below.refl _ _) rfl
                    · intro t wq hbq hh K hK
                      clear hh
                      simp only [filled, upd, Have, is, any, row, pick, Act.put, List.setIfInBounds_toArray, List.set_cons_zero, List.set_cons_succ, Nat.reduceAdd, Nat.reduceEqDiff, reduceIte] at hK ⊢
                      go_simp
                      exact hK _ _ (Below.refl _ _) rfl
                    · intro t wq hbq hh K hK
                      have e5 := hh.1
                      simp only [pick] at e5
                      replace e5 : t 5 = (.pointer (some ⟨w2.heap.size, 1, none⟩)) := e5
                      clear hh
                      simp only [filled, upd, Have, is, any, row, pick, Act.put, List.setIfInBounds_toArray, List.set_cons_zero, List.set_cons_succ, Nat.reduceAdd, Nat.reduceEqDiff, reduceIte] at hK ⊢
                      simp only [e5] at hK ⊢
                      have hd := (hbq.cell (p := ⟨w2.heap.size, 1, none⟩) HLT6.out).trans k1
                      go_simp
                      exact hK _ _ (Below.refl _ _) rfl
                    · intro t wq hbq hh K hK
                      have e6 := hh.1
                      simp only [pick] at e6
                      replace e6 : t 6 = ((.slice (some ⟨gh, oh + 1, none⟩) U.length (c4 - 1))) := e6
                      clear hh
                      simp only [filled, upd, Have, is, any, row, pick, Act.put, List.setIfInBounds_toArray, List.set_cons_zero, List.set_cons_succ, Nat.reduceAdd, Nat.reduceEqDiff, reduceIte] at hK ⊢
                      simp only [e6] at hK ⊢
                      go_simp
                      exact hK _ _ (Below.refl _ _) rfl
                    · intro t wq hbq hh K hK
                      have e4 := hh.1
                      simp only [pick] at e4
                      replace e4 : t 4 = (.int .i64 (P.length : Int)) := e4
                      have e7 := hh.2.1
                      simp only [pick] at e7
                      replace e7 : t 7 = (.int .i64 ((U.length : Nat) : Int)) := e7
                      clear hh
                      simp only [filled, upd, Have, is, any, row, pick, Act.put, List.setIfInBounds_toArray, List.set_cons_zero, List.set_cons_succ, Nat.reduceAdd, Nat.reduceEqDiff, reduceIte] at hK ⊢
                      simp only [e4, e7] at hK ⊢
                      go_simp
                      exact hK _ _ (Below.refl _ _) (by first | rfl | exact int_wrap (by omega) (by omega) | (rw [int_wrap (by omega) (by omega)]; congr 1; omega) | (congr 1; omega) | (simp; omega))
                    · intro t wq hbq hh K hK
                      have e1 := hh.1
                      simp only [pick] at e1
                      replace e1 : t 1 = (.int .i64 ((U.length + P.length : Nat) : Int)) := e1
                      have e8 := hh.2.1
                      simp only [pick] at e8
                      replace e8 : t 8 = (.int .i64 ((U.length + P.length : Nat) : Int)) := e8
                      clear hh
                      simp only [filled, upd, Have, is, any, row, pick, Act.put, List.setIfInBounds_toArray, List.set_cons_zero, List.set_cons_succ, Nat.reduceAdd, Nat.reduceEqDiff, reduceIte] at hK ⊢
                      simp only [e1, e8] at hK ⊢
                      go_simp
                      first | exact hK _ _ (Below.refl _ _) rfl | exact hK _ _ (Below.refl _ _) (by simp)
                  · intro t wq hbq hh
                    have f9 := have_get hh 9 (by decide)
                    simp only [pick] at f9
                    replace f9 : t 9 = (.bool false) := f9
                    clear hh
                    simp only [filled, upd, Have, is, any, row, pick, Act.put, List.setIfInBounds_toArray, List.set_cons_zero, List.set_cons_succ, Nat.reduceAdd, Nat.reduceEqDiff, reduceIte]
                    simp only [f9]
                    go_wp2
                    go_roundw
                    case rel => exact ⟨k + 1, _, _, P, U, by omega, by go_num, by omega, by omega, hid (HMS6.out.below hbq), hid (HBX6.out.kept (kept_below hbq)), hbel6.trans (hbq.mono (Nat.le_trans (Nat.le_trans hb2.size (Nat.le_of_lt HLT6.out)) (Nat.le_refl _)))⟩
                    case measure => simp [intOf]; omega
              | nil =>
                cases P with
                | cons x P =>
                  refine (tkI_plain w1.heap.size g r (ic P) x wr HMS.out).mono ?_
                  rintro e w5 ⟨rfl, hms5, hb5, hk5⟩
                  have HMS5 : Hid (MS 93 w1.heap.size w5 g r (ic []) (ic P)) := hid hms5
                  have HBX5 := hid (HBX.out.kept hk5)
                  have hbel5 : Below w1.heap.size w1 w5 := hbel.trans hb5
                  obtain ⟨gh, oh, ch, he, hch, hx5, hosl, hosl1⟩ := HBX5.out.r0.head
                  injection he with he1 he2 he3
                  subst he1
                  subst he3
                  have f0 : w5.cell? ⟨w2.heap.size, 0, none⟩ = some (.slice (some ⟨gh, oh, none⟩) (P.length + 1) c3) := (cell_of_row w5 w2.heap.size 0 _ _ _ HBX5.out.box).trans rfl
                  have f1 : w5.cell? ⟨w2.heap.size, 1, none⟩ = some (.slice A4 0 c4) := (cell_of_row w5 w2.heap.size 1 _ _ _ HBX5.out.box).trans rfl
                  have f2 := frozen_of_row w5 w2.heap.size 0 _ _ HBX5.out.box
                  have hlc : P.length + 1 ≤ 64 := by have : (x :: P).length = P.length + 1 := rfl; omega
                  clear d0 d1 c1 c2 HMS HBX hbel hms5
                  simp only [List.length_cons] at hP
                  by_cases hc1 : c3 = 1
                  · have HO := hid (show Osl w5 w1.heap.size (.slice (some ⟨gh, oh, none⟩) P.length 0) P from hosl1 hc1)
                    have hgr : w5.grownBy w5 (some gh) := ⟨rfl, rfl, rfl, Nat.le_refl _, fun _ _ _ => rfl⟩
                    have HBX6 := hid (Bx.app0 HBX5.out HO.out hgr (fun kk hkk => Or.inl hkk)).2
                    have HMS6 : Hid (MS 93 w1.heap.size (w5.setCell ⟨w2.heap.size, 0, none⟩ (.slice (some ⟨gh, oh, none⟩) P.length 0)) g r (ic []) (ic P)) := hid (ms_app HMS5.out HBX5.out HBX5.out.r0 hgr 0 _)
                    have hbel6 := hbel5.setCell (p := ⟨w2.heap.size, 0, none⟩) hb2.size (.slice (some ⟨gh, oh, none⟩) P.length 0)
                    have k0 : (w5.setCell ⟨w2.heap.size, 0, none⟩ (.slice (some ⟨gh, oh, none⟩) P.length 0)).cell? ⟨w2.heap.size, 0, none⟩ = some (.slice (some ⟨gh, oh, none⟩) P.length 0) := (cell_of_row _ w2.heap.size 0 _ _ _ HBX6.out.box).trans rfl
                    have k1 : (w5.setCell ⟨w2.heap.size, 0, none⟩ (.slice (some ⟨gh, oh, none⟩) P.length 0)).cell? ⟨w2.heap.size, 1, none⟩ = some (.slice A4 0 c4) := (cell_of_row _ w2.heap.size 1 _ _ _ HBX6.out.box).trans rfl
                    have hlt6 := (Array.getElem?_eq_some_iff.1 HBX6.out.box).1
                    have HLT6 := hid hlt6
                    clear hlt6 HO
                    go_wp2_with fail
                    generalize w5.setCell _ _ = w6 at HMS6 HBX6 hbel6 k0 k1 HLT6 ⊢
                    clear f0 f1 f2 hx5 hosl hosl1 HBX5 HMS5 hgr
                    refine wp_region_rel (by kernel_rfl) [is (.pointer (some ⟨g, 0, none⟩)), is (.int .i64 (P.length : Int)), is (.pointer (some ⟨w2.heap.size, 0, none⟩)), is ((.slice (some ⟨gh, oh, none⟩) P.length 0)), is (.int .i64 (P.length : Int)), is (.pointer (some ⟨w2.heap.size, 1, none⟩)), is (.slice A4 0 c4), is (.int .i64 (0 : Int)), is (.int .i64 (P.length : Int)), is (.bool false)] [[], [0], [], [2], [3], [], [5], [6], [4, 7], [1, 8]] (by kernel_rfl) ?_ ?_
                    · refine ⟨?_, ?_, ?_, ?_, ?_, ?_, ?_, ?_, ?_, ?_, trivial⟩
                      · intro t wq hbq hh K hK
                        clear hh
                        simp only [filled, upd, Have, is, any, row, pick, Act.put, List.setIfInBounds_toArray, List.set_cons_zero, List.set_cons_succ, Nat.reduceAdd, Nat.reduceEqDiff, reduceIte] at hK ⊢
                        go_simp
                        exact hK _ _ (Below.refl _ _) rfl
                      · intro t wq hbq hh K hK
                        have e0 := hh.1
                        simp only [pick] at e0
                        replace e0 : t 0 = (.pointer (some ⟨g, 0, none⟩)) := e0
                        clear hh
                        simp only [filled, upd, Have, is, any, row, pick, Act.put, List.setIfInBounds_toArray, List.set_cons_zero, List.set_cons_succ, Nat.reduceAdd, Nat.reduceEqDiff, reduceIte] at hK ⊢
                        simp only [e0] at hK ⊢
                        go_simp
                        have hlen := lenI w1.heap.size g r (ic []) (ic P) wq (HMS6.out.below hbq) (by rw [ic_length]; decide) (by rw [ic_length]; omega)
                        rw [ic_length, ic_length] at hlen
                        have e0 : ([] : List Int).length + P.length = P.length := by simp
                        rw [e0] at hlen
                        refine hlen.mono ?_
                        rintro e w7 ⟨rfl, hb7⟩
                        exact hK _ _ hb7 rfl
                      · intro t wq hbq hh K hK
                        clear hh
                        simp only [filled, upd, Have, is, any, row, pick, Act.put, List.setIfInBounds_toArray, List.set_cons_zero, List.set_cons_succ, Nat.reduceAdd, Nat.reduceEqDiff, reduceIte] at hK ⊢
                        go_simp
                        exact hK _ _ (Below.refl _ _) rfl
                      · intro t wq hbq hh K hK
                        have e2 := hh.1
                        simp only [pick] at e2
                        replace e2 : t 2 = (.pointer (some ⟨w2.heap.size, 0, none⟩)) := e2
                        clear hh
                        simp only [filled, upd, Have, is, any, row, pick, Act.put, List.setIfInBounds_toArray, List.set_cons_zero, List.set_cons_succ, Nat.reduceAdd, Nat.reduceEqDiff, reduceIte] at hK ⊢
                        simp only [e2] at hK ⊢
                        have hd := (hbq.cell (p := ⟨w2.heap.size, 0, none⟩) HLT6.out).trans k0
                        go_simp
                        exact hK _ _ (Below.refl _ _) rfl
                      · intro t wq hbq hh K hK
                        have e3 := hh.1
                        simp only [pick] at e3
                        replace e3 : t 3 = ((.slice (some ⟨gh, oh, none⟩) P.length 0)) := e3
                        clear hh
                        simp only [filled, upd, Have, is, any, row, pick, Act.put, List.setIfInBounds_toArray, List.set_cons_zero, List.set_cons_succ, Nat.reduceAdd, Nat.reduceEqDiff, reduceIte] at hK ⊢
                        simp only [e3] at hK ⊢
                        go_simp
                        exact hK _ _ (Below.refl _ _) rfl
                      · intro t wq hbq hh K hK
                        clear hh
                        simp only [filled, upd, Have, is, any, row, pick, Act.put, List.setIfInBounds_toArray, List.set_cons_zero, List.set_cons_succ, Nat.reduceAdd, Nat.reduceEqDiff, reduceIte] at hK ⊢
                        go_simp
                        exact hK _ _ (Below.refl _ _) rfl
                      · intro t wq hbq hh K hK
                        have e5 := hh.1
                        simp only [pick] at e5
                        replace e5 : t 5 = (.pointer (some ⟨w2.heap.size, 1, none⟩)) := e5
                        clear hh
                        simp only [filled, upd, Have, is, any, row, pick, Act.put, List.setIfInBounds_toArray, List.set_cons_zero, List.set_cons_succ, Nat.reduceAdd, Nat.reduceEqDiff, reduceIte] at hK ⊢
                        simp only [e5] at hK ⊢
                        have hd := (hbq.cell (p := ⟨w2.heap.size, 1, none⟩) HLT6.out).trans k1
                        go_simp
                        exact hK _ _ (Below.refl _ _) rfl
                      · intro t wq hbq hh K hK
                        have e6 := hh.1
                        simp only [pick] at e6
                        replace e6 : t 6 = (.slice A4 0 c4) := e6
                        clear hh
                        simp only [filled, upd, Have, is, any, row, pick, Act.put, List.setIfInBounds_toArray, List.set_cons_zero, List.set_cons_succ, Nat.reduceAdd, Nat.reduceEqDiff, reduceIte] at hK ⊢
                        simp only [e6] at hK ⊢
                        go_simp
                        exact hK _ _ (Below.refl _ _) rfl
                      · intro t wq hbq hh K hK
                        have e4 := hh.1
                        simp only [pick] at e4
                        replace e4 : t 4 = (.int .i64 (P.length : Int)) := e4
                        have e7 := hh.2.1
                        simp only [pick] at e7
                        replace e7 : t 7 = (.int .i64 (0 : Int)) := e7
                        clear hh
                        simp only [filled, upd, Have, is, any, row, pick, Act.put, List.setIfInBounds_toArray, List.set_cons_zero, List.set_cons_succ, Nat.reduceAdd, Nat.reduceEqDiff, reduceIte] at hK ⊢
                        simp only [e4, e7] at hK ⊢
                        go_simp
                        exact hK _ _ (Below.refl _ _) (by first | rfl | exact int_wrap (by omega) (by omega) | (rw [int_wrap (by omega) (by omega)]; congr 1; omega) | (congr 1; omega) | (simp; omega))
                      · intro t wq hbq hh K hK
                        have e1 := hh.1
                        simp only [pick] at e1
                        replace e1 : t 1 = (.int .i64 (P.length : Int)) := e1
                        have e8 := hh.2.1
                        simp only [pick] at e8
                        replace e8 : t 8 = (.int .i64 (P.length : Int)) := e8
                        clear hh
                        simp only [filled, upd, Have, is, any, row, pick, Act.put, List.setIfInBounds_toArray, List.set_cons_zero, List.set_cons_succ, Nat.reduceAdd, Nat.reduceEqDiff, reduceIte] at hK ⊢
                        simp only [e1, e8] at hK ⊢
                        go_simp
                        first | exact hK _ _ (Below.refl _ _) rfl | exact hK _ _ (Below.refl _ _) (by simp)
                    · intro t wq hbq hh
                      have f9 := have_get hh 9 (by decide)
                      simp only [pick] at f9
                      replace f9 : t 9 = (.bool false) := f9
                      clear hh
                      simp only [filled, upd, Have, is, any, row, pick, Act.put, List.setIfInBounds_toArray, List.set_cons_zero, List.set_cons_succ, Nat.reduceAdd, Nat.reduceEqDiff, reduceIte]
                      simp only [f9]
                      go_wp2
                      go_roundw
                      case rel => exact ⟨k + 1, _, _, P, [], by omega, by go_num, by omega, by simp, hid (HMS6.out.below hbq), hid (HBX6.out.kept (kept_below hbq)), hbel6.trans (hbq.mono (Nat.le_trans (Nat.le_trans hb2.size (Nat.le_of_lt HLT6.out)) (Nat.le_refl _)))⟩
                      case measure => simp [intOf]; omega
                  · have HO := hid (show Osl w5 w1.heap.size (.slice (some ⟨gh, oh + 1, none⟩) P.length (c3 - 1)) P from hosl)
                    have hgr : w5.grownBy w5 (some gh) := ⟨rfl, rfl, rfl, Nat.le_refl _, fun _ _ _ => rfl⟩
                    have HBX6 := hid (Bx.app0 HBX5.out HO.out hgr (fun kk hkk => Or.inl hkk)).2
                    have HMS6 : Hid (MS 93 w1.heap.size (w5.setCell ⟨w2.heap.size, 0, none⟩ (.slice (some ⟨gh, oh + 1, none⟩) P.length (c3 - 1))) g r (ic []) (ic P)) := hid (ms_app HMS5.out HBX5.out HBX5.out.r0 hgr 0 _)
                    have hbel6 := hbel5.setCell (p := ⟨w2.heap.size, 0, none⟩) hb2.size (.slice (some ⟨gh, oh + 1, none⟩) P.length (c3 - 1))
                    have k0 : (w5.setCell ⟨w2.heap.size, 0, none⟩ (.slice (some ⟨gh, oh + 1, none⟩) P.length (c3 - 1))).cell? ⟨w2.heap.size, 0, none⟩ = some (.slice (some ⟨gh, oh + 1, none⟩) P.length (c3 - 1)) := (cell_of_row _ w2.heap.size 0 _ _ _ HBX6.out.box).trans rfl
                    have k1 : (w5.setCell ⟨w2.heap.size, 0, none⟩ (.slice (some ⟨gh, oh + 1, none⟩) P.length (c3 - 1))).cell? ⟨w2.heap.size, 1, none⟩ = some (.slice A4 0 c4) := (cell_of_row _ w2.heap.size 1 _ _ _ HBX6.out.box).trans rfl
                    have hlt6 := (Array.getElem?_eq_some_iff.1 HBX6.out.box).1
                    have HLT6 := hid hlt6
                    clear hlt6 HO
                    go_wp2_with fail
                    generalize w5.setCell _ _ = w6 at HMS6 HBX6 hbel6 k0 k1 HLT6 ⊢
                    clear f0 f1 f2 hx5 hosl hosl1 HBX5 HMS5 hgr
                    refine wp_region_rel (by kernel_rfl) [is (.pointer (some ⟨g, 0, none⟩)), is (.int .i64 (P.length : Int)), is (.pointer (some ⟨w2.heap.size, 0, none⟩)), is ((.slice (some ⟨gh, oh + 1, none⟩) P.length (c3 - 1))), is (.int .i64 (P.length : Int)), is (.pointer (some ⟨w2.heap.size, 1, none⟩)), is (.slice A4 0 c4), is (.int .i64 (0 : Int)), is (.int .i64 (P.length : Int)), is (.bool false)] [[], [0], [], [2], [3], [], [5], [6], [4, 7], [1, 8]] (by kernel_rfl) ?_ ?_
                    · refine ⟨?_, ?_, ?_, ?_, ?_, ?_, ?_, ?_, ?_, ?_, trivial⟩
                      · intro t wq hbq hh K hK
                        clear hh
                        simp only [filled, upd, Have, is, any, row, pick, Act.put, List.setIfInBounds_toArray, List.set_cons_zero, List.set_cons_succ, Nat.reduceAdd, Nat.reduceEqDiff, reduceIte] at hK ⊢
                        go_simp
                        exact hK _ _ (Below.refl _ _) rfl
                      · intro t wq hbq hh K hK
                        have e0 := hh.1
                        simp only [pick] at e0
                        replace e0 : t 0 = (.pointer (some ⟨g, 0, none⟩)) := e0
                        clear hh
                        simp only [filled, upd, Have, is, any, row, pick, Act.put, List.setIfInBounds_toArray, List.set_cons_zero, List.set_cons_succ, Nat.reduceAdd, Nat.reduceEqDiff, reduceIte] at hK ⊢
                        simp only [e0] at hK ⊢
                        go_simp
                        have hlen := lenI w1.heap.size g r (ic []) (ic P) wq (HMS6.out.below hbq) (by rw [ic_length]; decide) (by rw [ic_length]; omega)
                        rw [ic_length, ic_length] at hlen
                        have e0 : ([] : List Int).length + P.length = P.length := by simp
                        rw [e0] at hlen
                        refine hlen.mono ?_
                        rintro e w7 ⟨rfl, hb7⟩
                        exact hK _ _ hb7 rfl
                      · intro t wq hbq hh K hK
                        clear hh
                        simp only [filled, upd, Have, is, any, row, pick, Act.put, List.setIfInBounds_toArray, List.set_cons_zero, List.set_cons_succ, Nat.reduceAdd, Nat.reduceEqDiff, reduceIte] at hK ⊢
                        go_simp
                        exact hK _ _ (Below.refl _ _) rfl
                      · intro t wq hbq hh K hK
                        have e2 := hh.1
                        simp only [pick] at e2
                        replace e2 : t 2 = (.pointer (some ⟨w2.heap.size, 0, none⟩)) := e2
                        clear hh
                        simp only [filled, upd, Have, is, any, row, pick, Act.put, List.setIfInBounds_toArray, List.set_cons_zero, List.set_cons_succ, Nat.reduceAdd, Nat.reduceEqDiff, reduceIte] at hK ⊢
                        simp only [e2] at hK ⊢
                        have hd := (hbq.cell (p := ⟨w2.heap.size, 0, none⟩) HLT6.out).trans k0
                        go_simp
                        exact hK _ _ (Below.refl _ _) rfl
                      · intro t wq hbq hh K hK
                        have e3 := hh.1
                        simp only [pick] at e3
                        replace e3 : t 3 = ((.slice (some ⟨gh, oh + 1, none⟩) P.length (c3 - 1))) := e3
                        clear hh
                        simp only [filled, upd, Have, is, any, row, pick, Act.put, List.setIfInBounds_toArray, List.set_cons_zero, List.set_cons_succ, Nat.reduceAdd, Nat.reduceEqDiff, reduceIte] at hK ⊢
                        simp only [e3] at hK ⊢
                        go_simp
                        exact hK _ _ (Below.refl _ _) rfl
                      · intro t wq hbq hh K hK
                        clear hh
                        simp only [filled, upd, Have, is, any, row, pick, Act.put, List.setIfInBounds_toArray, List.set_cons_zero, List.set_cons_succ, Nat.reduceAdd, Nat.reduceEqDiff, reduceIte] at hK ⊢
                        go_simp
                        exact hK _ _ (Below.refl _ _) rfl
                      · intro t wq hbq hh K hK
                        have e5 := hh.1
                        simp only [pick] at e5
                        replace e5 : t 5 = (.pointer (some ⟨w2.heap.size, 1, none⟩)) := e5
                        clear hh
                        simp only [filled, upd, Have, is, any, row, pick, Act.put, List.setIfInBounds_toArray, List.set_cons_zero, List.set_cons_succ, Nat.reduceAdd, Nat.reduceEqDiff, reduceIte] at hK ⊢
                        simp only [e5] at hK ⊢
                        have hd := (hbq.cell (p := ⟨w2.heap.size, 1, none⟩) HLT6.out).trans k1
                        go_simp
                        exact hK _ _ (Below.refl _ _) rfl
                      · intro t wq hbq hh K hK
                        have e6 := hh.1
                        simp only [pick] at e6
                        replace e6 : t 6 = (.slice A4 0 c4) := e6
                        clear hh
                        simp only [filled, upd, Have, is, any, row, pick, Act.put, List.setIfInBounds_toArray, List.set_cons_zero, List.set_cons_succ, Nat.reduceAdd, Nat.reduceEqDiff, reduceIte] at hK ⊢
                        simp only [e6] at hK ⊢
                        go_simp
                        exact hK _ _ (Below.refl _ _) rfl
                      · intro t wq hbq hh K hK
                        have e4 := hh.1
                        simp only [pick] at e4
                        replace e4 : t 4 = (.int .i64 (P.length : Int)) := e4
                        have e7 := hh.2.1
                        simp only [pick] at e7
                        replace e7 : t 7 = (.int .i64 (0 : Int)) := e7
                        clear hh
                        simp only [filled, upd, Have, is, any, row, pick, Act.put, List.setIfInBounds_toArray, List.set_cons_zero, List.set_cons_succ, Nat.reduceAdd, Nat.reduceEqDiff, reduceIte] at hK ⊢
                        simp only [e4, e7] at hK ⊢
                        go_simp
                        exact hK _ _ (Below.refl _ _) (by first | rfl | exact int_wrap (by omega) (by omega) | (rw [int_wrap (by omega) (by omega)]; congr 1; omega) | (congr 1; omega) | (simp; omega))
                      · intro t wq hbq hh K hK
                        have e1 := hh.1
                        simp only [pick] at e1
                        replace e1 : t 1 = (.int .i64 (P.length : Int)) := e1
                        have e8 := hh.2.1
                        simp only [pick] at e8
                        replace e8 : t 8 = (.int .i64 (P.length : Int)) := e8
                        clear hh
                        simp only [filled, upd, Have, is, any, row, pick, Act.put, List.setIfInBounds_toArray, List.set_cons_zero, List.set_cons_succ, Nat.reduceAdd, Nat.reduceEqDiff, reduceIte] at hK ⊢
                        simp only [e1, e8] at hK ⊢
                        go_simp
                        first | exact hK _ _ (Below.refl _ _) rfl | exact hK _ _ (Below.refl _ _) (by simp)
                    · intro t wq hbq hh
                      have f9 := have_get hh 9 (by decide)
                      simp only [pick] at f9
                      replace f9 : t 9 = (.bool false) := f9
                      clear hh
                      simp only [filled, upd, Have, is, any, row, pick, Act.put, List.setIfInBounds_toArray, List.set_cons_zero, List.set_cons_succ, Nat.reduceAdd, Nat.reduceEqDiff, reduceIte]
                      simp only [f9]
                      go_wp2
                      go_roundw
                      case rel => exact ⟨k + 1, _, _, P, [], by omega, by go_num, by omega, by simp, hid (HMS6.out.below hbq), hid (HBX6.out.kept (kept_below hbq)), hbel6.trans (hbq.mono (Nat.le_trans (Nat.le_trans hb2.size (Nat.le_of_lt HLT6.out)) (Nat.le_refl _)))⟩
                      case measure => simp [intOf]; omega
                | nil =>
                  refine (tkI_none w1.heap.size g r wr HMS.out).mono ?_
                  rintro e w5 ⟨rfl, hms5, hb5, hk5⟩
                  have HMS5 : Hid (MS 93 w1.heap.size w5 g r (ic []) (ic [])) := hid hms5
                  have HBX5 := hid (HBX.out.kept hk5)
                  have hbel5 : Below w1.heap.size w1 w5 := hbel.trans hb5
                  have f0 : w5.cell? ⟨w2.heap.size, 0, none⟩ = some (.slice A3 0 c3) := (cell_of_row w5 w2.heap.size 0 _ _ _ HBX5.out.box).trans rfl
                  have f1 : w5.cell? ⟨w2.heap.size, 1, none⟩ = some (.slice A4 0 c4) := (cell_of_row w5 w2.heap.size 1 _ _ _ HBX5.out.box).trans rfl
                  clear d0 d1 c1 c2 HMS HBX hbel hms5
                  go_wp2
                  go_roundw
                  case rel => exact ⟨k + 1, _, _, [], [], by omega, by go_num, by simp, by simp, HMS5, HBX5, hbel5⟩
                  case measure => simp [intOf]; omega
          · go_wp2
            have hkn : k = n := by omega
            go_ret
            exact ⟨rfl, bel hb1 hbel⟩
      · have hbad : room < 1 ∨ 64 < room := by omega
        rcases (show room < 1 ∨ (¬ room < 1 ∧ 64 < room) by omega) with h4 | ⟨h4, h5⟩
        all_goals
          go_wp2_with fail
          refine (new_bad room hbad _).mono ?_
          rintro e w2 ⟨rfl, hb2⟩
          go_wp2_with fail
          refine (take_nil _).mono ?_
          rintro e w3 ⟨rfl, hb3⟩
          go_wp2_with fail
          refine (len_nil _).mono ?_
          rintro e w4 ⟨rfl, hb4⟩
          go_wp2_with fail
          refine (put_nil 1 true _).mono ?_
          rintro e w5 ⟨rfl, hb5⟩
          go_wp2
          go_ret
          exact ⟨rfl, bel (bel (bel (bel hb1 hb2) hb3) hb4) hb5⟩
    · have p2 : (n2 : Int) < (n : Int) := by omega
      go_enter Try.func6, Try.ntmps6
      go_wp2_with fail
      refine (MaiB.awake_any _).mono ?_
      rintro e w1 ⟨rfl, hb1⟩
      go_wp2_with fail
      refine (MaiB.awake_any _).mono ?_
      rintro e w2 ⟨rfl, hb2⟩
      go_wp2_with fail
      go_ret
      exact ⟨rfl, bel hb1 hb2⟩
  · have p1 : (150 : Int) < (n : Int) := by omega
    go_enter Try.func6, Try.ntmps6
    go_wp2_with fail
    refine (MaiB.awake_any _).mono ?_
    rintro e w1 ⟨rfl, hb1⟩
    go_wp2_with fail
    refine (MaiB.awake_any _).mono ?_
    rintro e w2 ⟨rfl, hb2⟩
    go_wp2_with fail
    go_ret
    exact ⟨rfl, bel hb1 hb2⟩
end Go.Proofs.Ytihlojkghemjeaa.Laws
