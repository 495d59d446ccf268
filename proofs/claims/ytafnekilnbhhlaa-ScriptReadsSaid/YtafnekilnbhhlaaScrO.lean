/- Scripts: Of, Few, awake. -/
import Derived.Test.YtafnekilnbhhlaaScrQ
namespace Go.Proofs.Ytafnekilnbhhlaa.ScrO
open Go.RowKit Go.Proofs.Ytafnekilnbhhlaa.Base Go.Proofs.Ytafnekilnbhhlaa.Base2 Go.Proofs.Ytafnekilnbhhlaa.Base4 Go.Proofs.Ytafnekilnbhhlaa.Regs Go.Proofs.Ytafnekilnbhhlaa.AnsP Go.Proofs.Ytafnekilnbhhlaa.ScrP Go.Proofs.Ytafnekilnbhhlaa.ScrB Go.Proofs.Ytafnekilnbhhlaa.ScrR Go.Proofs.Ytafnekilnbhhlaa.ScrW Go.Proofs.Ytafnekilnbhhlaa.ScrG

set_option maxRecDepth 100000 in
set_option maxHeartbeats 8000000 in
theorem of_any (A : Option Addr) (n c : Nat) (l : List O) (w : World) (h : Ops w A n l) (hn : n ≤ 1000) :
    Calls Try.prog 12 #[.slice A n c] w fun e w' => (∃ A2 c2, e = .returned (.slice A2 n c2) ∧ Ops w' A2 n l) ∧ Below w.heap.size w w' := by
  have hln := h.1
  have HLN := hid hln
  have HH := hid h
  clear h hln
  obtain ⟨i0, hi⟩ : ∃ i, Try.prog.info? 40 = some i := by
    have := ScrH.info_rop
    cases hq : Try.prog.info? 40 with
    | none => simp [hq] at this
    | some i => exact ⟨i, rfl⟩
  have hii := ScrH.info_rop
  rw [hi] at hii
  obtain ⟨z0, hz0⟩ : ∃ z, i0.zero = some z := by
    cases hq : i0.zero with
    | none => simp [hq] at hii
    | some z => exact ⟨z, rfl⟩
  simp only [hz0, Option.map_some, Option.some.injEq, Prod.mk.injEq] at hii
  have HI := hid hii
  clear hii
  go_enter Try.func12, Try.ntmps12
  go_wp2
  go_loopw [3, 4, 7] (fun v3 _ vk wr => ∃ k : Nat, k ≤ n ∧ vk = .int .i64 (k : Int) ∧ Hid (wr.ownsRow w.heap.size 40 27 v3 (l.take k).length ((l.take k).flatMap cells)) ∧ Hid (Below w.heap.size w wr)) (fun _ _ vk _ => n - (intOf vk).toNat)
  case atStart => exact ⟨0, Nat.zero_le _, rfl, World.ownsRow_nil _ _ _ _, Below.refl _ _⟩
  case round =>
    obtain ⟨k, hk, rfl, HO, HB⟩ := hrel
    have HTK : Hid ((l.take k).length = k) := by show _ = _; rw [List.length_take, HLN.out]; omega
    by_cases hlt : k < n
    · have hkl : k < l.length := by rw [HLN.out]; exact hlt
      have HS := hid (HH.out.below HB.out)
      obtain ⟨b, off, rfl, hbl⟩ := HS.out.spot (by omega)
      have HLD := hid (HS.out.load k hkl (S := 37) Try.underlying37 (by kernel_rfl))
      obtain ⟨o, ho⟩ : ∃ o, o = l[k] := ⟨_, rfl⟩
      rw [← ho] at HLD
      have HR16 : Hid (o.r.length = 16) := by show _ = _; rw [ho]; exact HH.out.2.2 _ (List.getElem_mem hkl)
      have HTE : Hid (l.take (k + 1) = l.take k ++ [o]) := by show _ = _; rw [List.take_succ_eq_append_getElem hkl, ho]
      have HBB := hid HB.out.size
      clear hbl ho hkl
      go_wp2_with (first | refine load_as HLD.out (.tmp 13) rfl rfl rfl ?_ | refine build_one rfl (.tmp 14) rfl Try.underlying31 27 (by kernel_rfl) (by decide) (size_cells HR16.out) rfl ?_ | (at_builtin; refine wpList_appN 27 rfl _ _ 31 rfl w.heap.size 40 i0 z0 128 Try.underlying31 hi hz0 HI.out.2.1 HI.out.2.2 HI.out.1 (by decide) u3 (l.take k).length ((l.take k).flatMap cells) rfl HO.out HB.out HBB.out (cells o) 1 (length_cells HR16.out) rfl (cells_one o) (by unfold maxLen; have := HTK.out; omega) (by have := HTK.out; omega) ?_))
      intro v' w6 hown hb6 _
      have HB6 := hid hb6
      have HO6 : Hid (w6.ownsRow w.heap.size 40 27 v' (l.take (k + 1)).length ((l.take (k + 1)).flatMap cells)) := by show World.ownsRow _ _ _ _ _ _ _; rw [HTE.out, List.flatMap_append, List.length_append]; simpa using hown
      have hv : ∃ A6 c6 m6, v' = .slice A6 m6 c6 := by
        obtain ⟨A6, c6, h, _⟩ := owns_ops HO6.out (fun x hx => HH.out.2.2 x (List.mem_of_mem_take hx))
        exact ⟨A6, c6, _, h⟩
      obtain ⟨A6, c6, m6, rfl⟩ := hv
      clear hown hb6
      go_wp2
      go_roundw
      case rel => exact ⟨k + 1, by omega, by go_num, HO6.out, HB6.out⟩
      case measure => simp [intOf]; omega
    · obtain rfl : k = n := by omega
      have hlt2 : l.take k = l := by rw [← HLN.out, List.take_length]
      rw [hlt2] at HO
      obtain ⟨A2, c2, rfl, hc2, hm2, hop⟩ := owns_ops HO.out HH.out.2.2
      rw [HLN.out] at hop ⊢
      have HOP := hid hop
      clear hop hlt2
      go_wp2
      go_ret
      exact ⟨⟨_, _, rfl, HOP.out⟩, HB.out⟩
def fewB (l : List O) : Bool := (l.all fun o => decide (o.s.length + o.t.length + o.c.length + o.d.length ≤ 1000)) && decide (l.length ≤ 30)
theorem Ops.at {w : World} {b off n : Nat} {l : List O} (h : Ops w (some ⟨b, off, none⟩) n l) (j : Nat) (hj : j < l.length) (i : Nat) (hi : i < 27) {v : Value} (e : (cells l[j])[i]? = some v) : w.cell? ⟨b, off + j * 27 + i, none⟩ = some v := by
  have hf := flat_at l h.2.2 j hj i hi
  rw [e] at hf
  obtain ⟨h5, h6⟩ := List.getElem?_eq_some_iff.1 hf
  obtain ⟨b', off', e', _, hcell⟩ := h.2.1.2 (j * 27 + i) h5
  injection e' with e'
  injection e' with e1 e2
  subst e1 e2
  rw [Nat.add_assoc, hcell, h6]
/-- No text is longer than the form's reach. -/
def Far (o : O) : Prop := o.s.length ≤ 140737488351232 ∧ o.t.length ≤ 140737488351232 ∧ o.c.length ≤ 140737488351232 ∧ o.d.length ≤ 140737488351232
set_option linter.unusedSimpArgs false in
set_option maxRecDepth 100000 in
set_option maxHeartbeats 8000000 in
theorem few_any (A : Option Addr) (n c : Nat) (l : List O) (w : World) (h : Ops w A n l) (hf : ∀ o ∈ l, Far o) (hnm : n ≤ maxLen) :
    Calls Try.prog 8 #[.slice A n c] w fun e w' => e = .returned (.bool (fewB l)) ∧ Below w.heap.size w w' := by
  have hln := h.1
  have HLN := hid hln
  have HH := hid h
  have HF := hid hf
  have hn63 : (n : Int) ≤ 9223372036854775807 := by unfold maxLen at hnm; omega
  clear h hln hf hnm
  go_enter Try.func8, Try.ntmps8
  go_wp2
  go_loopw [3, 6] (fun _ vk wr => ∃ k : Nat, k ≤ n ∧ vk = .int .i64 (k : Int) ∧ Hid ((l.take k).all (fun o => decide (o.s.length + o.t.length + o.c.length + o.d.length ≤ 1000)) = true) ∧ Hid (Below w.heap.size w wr)) (fun _ vk _ => n - (intOf vk).toNat)
  case atStart => exact ⟨0, Nat.zero_le _, rfl, by show _ = _; simp, Below.refl _ _⟩
  case round =>
    obtain ⟨k, hk, rfl, HT, HB⟩ := hrel
    by_cases hlt : k < n
    · have hkl : k < l.length := by rw [HLN.out]; exact hlt
      have hop := HH.out.below HB.out
      obtain ⟨b, off, rfl, hbl⟩ := hop.spot (by omega)
      obtain ⟨o, ho⟩ : ∃ o, o = l[k] := ⟨_, rfl⟩
      have c5 := Ops.at hop k hkl 5 (by omega) (v := .string (strOf o.s)) (by rw [← ho]; rfl)
      have c6 := Ops.at hop k hkl 6 (by omega) (v := .string (strOf o.t)) (by rw [← ho]; rfl)
      have c7 := Ops.at hop k hkl 7 (by omega) (v := .string (strOf o.c)) (by rw [← ho]; rfl)
      have c8 := Ops.at hop k hkl 8 (by omega) (v := .string (strOf o.d)) (by rw [← ho]; rfl)
      have hfo : Far o := HF.out o (by rw [ho]; exact List.getElem_mem hkl)
      obtain ⟨f1, f2, f3, f4⟩ := hfo
      have z1 : (strOf o.s).size = o.s.length := size_strOf _
      have z2 : (strOf o.t).size = o.t.length := size_strOf _
      have z3 : (strOf o.c).size = o.c.length := size_strOf _
      have z4 : (strOf o.d).size = o.d.length := size_strOf _
      have HTE : Hid (l.take (k + 1) = l.take k ++ [o]) := by show _ = _; rw [List.take_succ_eq_append_getElem hkl, ho]
      have HMEM : Hid (o ∈ l) := by rw [ho]; exact List.getElem_mem hkl
      clear ho hop
      obtain ⟨p1, h1⟩ : ∃ p, p = o.s.length := ⟨_, rfl⟩
      obtain ⟨p2, h2⟩ : ∃ p, p = o.t.length := ⟨_, rfl⟩
      obtain ⟨p3, h3⟩ : ∃ p, p = o.c.length := ⟨_, rfl⟩
      obtain ⟨p4, h4⟩ : ∃ p, p = o.d.length := ⟨_, rfl⟩
      rw [← h1] at f1 z1
      rw [← h2] at f2 z2
      rw [← h3] at f3 z3
      rw [← h4] at f4 z4
      have HP : Hid (p1 = o.s.length ∧ p2 = o.t.length ∧ p3 = o.c.length ∧ p4 = o.d.length) := ⟨h1, h2, h3, h4⟩
      clear h1 h2 h3 h4
      by_cases hs : p1 + p2 + p3 + p4 ≤ 1000
      · have hsi : ¬ (1000 : Int) < (p1 : Int) + (p2 : Int) + (p3 : Int) + (p4 : Int) := by omega
        have HT2 : Hid ((l.take (k + 1)).all (fun o => decide (o.s.length + o.t.length + o.c.length + o.d.length ≤ 1000)) = true) := by
          obtain ⟨h1, h2, h3, h4⟩ := HP.out
          show _ = _
          rw [HTE.out, List.all_append, HT.out, Bool.true_and, List.all_cons, List.all_nil, Bool.and_true]
          exact decide_eq_true (by omega)
        go_wp2_with fail
        go_quiet (fail)
        have HB2 := hid (fun q => Base.below_drewN HB.out q)
        go_wp2
        go_roundw
        case rel => exact ⟨k + 1, by omega, by go_num, HT2.out, HB2.out _⟩
        case measure => simp [intOf]; omega
      · have hsi : (1000 : Int) < (p1 : Int) + (p2 : Int) + (p3 : Int) + (p4 : Int) := by omega
        have HNO : Hid (fewB l = false) := by
          obtain ⟨h1, h2, h3, h4⟩ := HP.out
          show _ = _
          unfold fewB
          rw [Bool.and_eq_false_iff]
          left
          rw [List.all_eq_false]
          exact ⟨o, HMEM.out, by simp only [decide_eq_true_eq]; omega⟩
        have HB2 := hid (fun q => Base.below_drewN HB.out q)
        go_wp2_with fail
        go_quiet (fail)
        go_wp2
        go_ret
        exact ⟨ret_bool HNO.out.symm, HB2.out _⟩
    · obtain rfl : k = n := by omega
      have HE : Hid (decide ((k : Int) ≤ 30) = fewB l) := by
        have h1 := HT.out
        rw [← HLN.out, List.take_length] at h1
        show _ = _
        unfold fewB
        rw [h1, Bool.true_and, HLN.out]
        rw [decide_eq_decide]
        omega
      go_wp2
      go_ret
      exact ⟨ret_bool HE.out, HB.out⟩
end Go.Proofs.Ytafnekilnbhhlaa.ScrO
