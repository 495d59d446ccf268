/- Texts that belong together: PosP, WinY, WinZ. -/
import Derived.Test.YtmdofbccebkbiaaGreatDoorMR
import Derived.Test.YtmdofbccebkbiaaGreatDoorMV
import Derived.Test.YtmdofbccebkbiaaGreatDoorWinE
import Derived.Test.YtmdofbccebkbiaaGreatDoorNG
set_option linter.unusedSimpArgs false
set_option linter.unusedVariables false
set_option maxRecDepth 100000
set_option maxHeartbeats 64000000
namespace Go.Proofs.YtmdofbccebkbiaaGreatDoor.PosP
open Go.RowKit Base dM iT kX Mc oW Rf FQ aI PrsX Ot zN
open Go.Proofs.YtmdofbccebkbiaaGreatDoor.rF (odd one seg I4 NG Gq zA vV Vl)
theorem UN (c : UInt8) : low c = 46 → c = 46 := dW (p := fun c => low c = 46 → c = 46) (by decide +kernel) c
theorem Pv (c : UInt8) : low c = 37 → c = 37 := dW (p := fun c => low c = 37 → c = 37) (by decide +kernel) c
theorem Px (c : UInt8) : low c = 50 → c = 50 := dW (p := fun c => low c = 50 → c = 50) (by decide +kernel) c
theorem Ih (c : UInt8) : low c = 101 → c = 101 ∨ c = 69 := dW (p := fun c => low c = 101 → c = 101 ∨ c = 69) (by decide +kernel) c
theorem list2 : ∀ {X : List UInt8}, X.length = 2 → ∃ a b, X = [a, b]
 | [a, b], _ => ⟨a, b, rfl⟩
theorem list3 : ∀ {X : List UInt8}, X.length = 3 → ∃ a b c, X = [a, b, c]
 | [a, b, c], _ => ⟨a, b, c, rfl⟩
theorem list4 : ∀ {X : List UInt8}, X.length = 4 → ∃ a b c d, X = [a, b, c, d]
 | [a, b, c, d], _ => ⟨a, b, c, d, rfl⟩
theorem Iq : ∀ {X : List UInt8}, X.length = 6 → ∃ a b c d e f, X = [a, b, c, d, e, f]
 | [a, b, c, d, e, f], _ => ⟨a, b, c, d, e, f, rfl⟩
theorem dots {X : List UInt8} (h : sW X = true ∨ wJ X = true) : fA.dec X = [46] ∨ fA.dec X = [46, 46] := by
 have k1 : ∀ p, lower X = p → X.length = p.length := fun p e => by rw [← e]; simp [lower]
 unfold sW wJ at h
 simp only [Bool.or_eq_true, decide_eq_true_eq] at h
 rcases h with (h | h) | (((h | h) | h) | h)
 ·left; rw [h]; decide +kernel
 ·obtain ⟨a, b, c, rfl⟩ := list3 (k1 _ h)
  simp only [lower, List.map_cons, List.map_nil, List.cons.injEq, and_true] at h
  obtain ⟨ha, hb, hc⟩ := h
  obtain rfl := Pv _ ha
  obtain rfl := Px _ hb
  rcases Ih _ hc with rfl | rfl <;> (left; decide +kernel)
 ·obtain ⟨a, b, rfl⟩ := list2 (k1 _ h)
  simp only [lower, List.map_cons, List.map_nil, List.cons.injEq, and_true] at h
  obtain ⟨ha, hb⟩ := h
  obtain rfl := UN _ ha
  obtain rfl := UN _ hb
  right; decide +kernel
 ·obtain ⟨a, b, c, d, rfl⟩ := list4 (k1 _ h)
  simp only [lower, List.map_cons, List.map_nil, List.cons.injEq, and_true] at h
  obtain ⟨ha, hb, hc, hd⟩ := h
  obtain rfl := UN _ ha
  obtain rfl := Pv _ hb
  obtain rfl := Px _ hc
  rcases Ih _ hd with rfl | rfl <;> (right; decide +kernel)
 ·obtain ⟨a, b, c, d, rfl⟩ := list4 (k1 _ h)
  simp only [lower, List.map_cons, List.map_nil, List.cons.injEq, and_true] at h
  obtain ⟨ha, hb, hc, hd⟩ := h
  obtain rfl := Pv _ ha
  obtain rfl := Px _ hb
  obtain rfl := UN _ hd
  rcases Ih _ hc with rfl | rfl <;> (right; decide +kernel)
 ·obtain ⟨a, b, c, d, e, f, rfl⟩ := Iq (k1 _ h)
  simp only [lower, List.map_cons, List.map_nil, List.cons.injEq, and_true] at h
  obtain ⟨ha, hb, hc, hd, he, hf⟩ := h
  obtain rfl := Pv _ ha
  obtain rfl := Px _ hb
  obtain rfl := Pv _ hd
  obtain rfl := Px _ he
  rcases Ih _ hc with rfl | rfl <;> rcases Ih _ hf with rfl | rfl <;> (right; decide +kernel)
def QH (x : List UInt8) : Prop := (∀ c ∈ x, c ≠ 47) ∧ x ≠ [46] ∧ x ≠ [46, 46]
theorem Qg {x : List UInt8} (h : QH x) : sW (seg x) = false ∧ wJ (seg x) = false := by
 have hn : ¬ (sW (seg x) = true ∨ wJ (seg x) = true) := fun e => by
  have := dots e
  rw [zA] at this
  rcases this with e | e
  ·exact h.2.1 e
  ·exact h.2.2 e
 exact ⟨by cases e : sW (seg x) with | false => rfl | true => exact absurd (.inl e) hn, by cases e : wJ (seg x) with | false => rfl | true => exact absurd (.inr e) hn⟩
theorem aas (f : Bool) {x : List UInt8} (h : ∀ d ∈ x, iU 4 d.toNat = false ∧ d ≠ 47 ∧ d ≠ 92 ∧ d ≠ 124) : wr f x = x := by
 have e4 : aH.enc 4 x = x := Gv.oJ 4 _ fun c hc => (h c hc).1
 unfold wr
 split
 ·rename_i hv
  rw [Bool.and_eq_true] at hv
  have hv := hv.2
  match x, hv, h with
  | [a, b], hv, h =>
   simp only [drv, Bool.and_eq_true, Bool.or_eq_true, decide_eq_true_eq] at hv
   rcases hv.2 with rfl | rfl
   ·rfl
   ·exact absurd rfl (h 124 (by simp)).2.2.2
 ·exact e4
theorem Gs (i : Nat) {x : List UInt8} (h : QH x) : Seg FILE i (seg x) := by
 have ho := Vl h.1
 exact ⟨⟨fun c hc => zF _ _ (ho c hc).2.1 (ho c hc).2.2.1, (Qg h).2, (Qg h).1, aas _ ho⟩, fun c hc => (ho c hc).1⟩
end Go.Proofs.YtmdofbccebkbiaaGreatDoor.PosP
namespace Go.Proofs.YtmdofbccebkbiaaGreatDoor.WinY
open Go.RowKit Base dM iT kX Mc oW Rf FQ aI PrsX Ot zN
open Go.Proofs.YtmdofbccebkbiaaGreatDoor.rF (seg)
open Go.Proofs.YtmdofbccebkbiaaGreatDoor.PosP (QH Gs)
open Go.Proofs.YtmdofbccebkbiaaGreatDoor.zX (W3 iI NV gJ lS Js AO JJ BAR who qw LOC)
open Go.Proofs.YtmdofbccebkbiaaGreatDoor.VX (pre)
def nJ (v : W3) : U := { uF with hst := v.2.1, aF := (pre v.1 ++ v.2.2.map seg).map strOf }
theorem OV (a : UInt8) (h : letter (a.toNat : Int) = true) : eY true a = false ∧ sW [a, 58] = false ∧ wJ [a, 58] = false ∧ wr true [a, 58] = [a, 58] ∧ iU 4 a.toNat = false :=
 rF.dW (p := fun a => letter (a.toNat : Int) = true → eY true a = false ∧ sW [a, 58] = false ∧ wJ [a, 58] = false ∧ wr true [a, 58] = [a, 58] ∧ iU 4 a.toNat = false) (by decide +kernel) a h
theorem Wi {d : List UInt8} (h : nrm d = true) : Seg FILE 0 d := by
 match d, h with
 | [a, b], h =>
  simp only [nrm, Bool.and_eq_true, decide_eq_true_eq] at h
  obtain ⟨h1, rfl⟩ := h
  obtain ⟨f1, f2, f3, f4, f5⟩ := OV a h1
  refine ⟨⟨fun c hc => ?_, f3, f2, f4⟩, fun c hc => ?_⟩
  ·simp only [List.mem_cons, List.not_mem_nil, or_false] at hc
   rcases hc with rfl | rfl
   ·exact f1
   ·decide
  ·simp only [List.mem_cons, List.not_mem_nil, or_false] at hc
   rcases hc with rfl | rfl
   ·exact f5
   ·decide +kernel
theorem comp_of {x : List UInt8} (h : AO x = true) : QH x := by
 unfold AO at h
 simp only [Bool.and_eq_true, decide_eq_true_eq] at h
 refine ⟨fun c hc => ?_, h.1.1.1, h.1.1.2⟩
 have h1 := List.all_eq_true.1 h.2 c hc
 rintro rfl
 exact absurd h1 (by decide)
theorem row_mem : ∀ {l : List (List UInt8)}, lS l = true → ∀ x ∈ l, QH x
 | x :: r, h, y, hy => by
  rw [lS, Bool.and_eq_true] at h
  rcases List.mem_cons.1 hy with rfl | hy
  ·have h1 := h.1
   unfold Js at h1
   rw [Bool.and_eq_true] at h1
   exact comp_of h1.1
  ·exact row_mem h.2 y hy
theorem win_ok {L : List UInt8} {v : W3} (e : iI L = some v) : Ok (nJ v) := by
 have e : NV (gJ L) = some v := e
 generalize gJ L = l at e
 rcases WinE.kinds l with ⟨hf, _, k2⟩ | ⟨hn, _, _, k3, k4⟩ | ⟨_, _, k3⟩
 ·rw [k2] at e
  injection e with e
  subst e
  rw [zW.Ey] at hf
  simp only [Bool.and_eq_true, decide_eq_true_eq] at hf
  obtain ⟨⟨⟨⟨⟨h1, _⟩, _⟩, h4⟩, _⟩, h6⟩ := hf
  unfold who at h4
  simp only [Bool.and_eq_true, decide_eq_true_eq] at h4
  obtain ⟨⟨_, h4⟩, h5⟩ := h4
  have hm := row_mem h6
  have hne : l.drop 3 ≠ [] := by intro e; have := congrArg List.length e; rw [List.length_drop] at this; simp at this; omega
  have hp : jI FILE ((pre [] ++ (l.drop 3).map seg).map strOf) := by
   intro i hi
   have e0 : (pre [] ++ (l.drop 3).map seg).map strOf = (l.drop 3).map fun x => strOf (seg x) := by show ((l.drop 3).map seg).map strOf = _; rw [List.map_map]; rfl
   simp only [e0] at hi ⊢
   rw [List.getElem_map]
   rw [List.length_map] at hi
   exact Gs i (hm _ (List.getElem_mem hi))
  refine FH hp (by intro e; rw [List.map_eq_nil_iff] at e; exact hne (List.map_eq_nil_iff.1 e)) (H := l.getD 2 []) ?_
  by_cases hh : l.getD 2 [] = []
  ·exact .inl hh
  ·exact .inr ⟨hh, Ic h4, h5⟩
 ·rw [k3] at e
  injection e with e
  subst e
  rw [zW.vP] at hn
  simp only [Bool.and_eq_true, decide_eq_true_eq] at hn
  obtain ⟨⟨_, h2⟩, h3⟩ := hn
  have hm := row_mem h3
  have e0 : (pre (l.getD 0 []) ++ (l.drop 1).map seg).map strOf = strOf (l.getD 0 []) :: (l.drop 1).map fun x => strOf (seg x) := by
   unfold pre
   rw [if_neg k4]
   show strOf _ :: ((l.drop 1).map seg).map strOf = _
   rw [List.map_map]
   rfl
  have hp : jI FILE ((pre (l.getD 0 []) ++ (l.drop 1).map seg).map strOf) := by
   rw [e0]
   intro i hi
   match i, hi with
   | 0, _ => exact Wi h2
   | i + 1, hi =>
    rw [List.getElem_cons_succ, List.getElem_map]
    rw [List.length_cons, List.length_map] at hi
    exact Gs (i + 1) (hm _ (List.getElem_mem (by omega)))
  exact FH hp (by rw [e0]; intro e; cases e) (H := []) (.inl rfl)
 ·rw [k3] at e
  cases e
theorem Xx {L : List UInt8} {v : W3} (e : iI L = some v) : aI.url (kT (nJ v)) none = some (nJ v) := LD (win_ok e)
end Go.Proofs.YtmdofbccebkbiaaGreatDoor.WinY
namespace Go.Proofs.YtmdofbccebkbiaaGreatDoor.WinZ
open Go.RowKit Base rJ kX aI WinY
open Go.Proofs.YtmdofbccebkbiaaGreatDoor.rF (seg zA)
open Go.Proofs.YtmdofbccebkbiaaGreatDoor.zX (W3 iI NV gJ lS Js AO JJ BAR who qw LOC jc near far bs ZT sG)
open Go.Proofs.YtmdofbccebkbiaaGreatDoor.VX (pre)
open Go.Proofs.YtmdofbccebkbiaaGreatDoor.Ox (lQ nI headW nR gQ jf brk)
theorem La (l : List (List UInt8)) : gQ ((l.map seg).map strOf) = glue 92 l := by
 unfold gQ glue
 rw [List.map_map, List.flatMap_map]
 congr 1
 funext x
 show 92 :: fA.dec (seg x) = 92 :: x
 rw [zA]
theorem brk_no {x : List UInt8} (h1 : ∀ c ∈ x, c ≠ 47) (h2 : ∀ c ∈ x, c ≠ 92) : Ox.brk x = false := by
 unfold Ox.brk
 rw [List.any_eq_false]
 intro c hc
 simp [h1 c hc, h2 c hc]
theorem Hy {l : List (List UInt8)} (h1 : ∀ x ∈ l, ∀ c ∈ x, c ≠ 47) (h2 : ∀ x ∈ l, ∀ c ∈ x, c ≠ 92) : jf ((l.map seg).map strOf) = true := by
 unfold jf
 rw [List.all_eq_true]
 intro s hs
 obtain ⟨y, hy, rfl⟩ := List.mem_map.1 hs
 obtain ⟨x, hx, rfl⟩ := List.mem_map.1 hy
 show (!Ox.brk (fA.dec (seg x))) = true
 rw [zA, brk_no (h1 x hx) (h2 x hx)]
 rfl
theorem who_ne {h : List UInt8} (e : who h = true) : h ≠ [] := by
 rintro rfl
 exact absurd e (by decide +kernel)
theorem aaN {L : List UInt8} {v : W3} (e : iI L = some v) : lQ (nJ v).au (nJ v).hst (nJ v).opq (nJ v).aF = (L.map bs, 0) := by
 have hfine : jc (L.map bs) = true := by
  unfold jc
  rw [ZT]
  show jc L = true
  rw [← sG, e]
  rfl
 have hg : glue 92 (gJ L) = 92 :: L.map bs := yt 92 (L.map bs)
 have ho : ∀ x ∈ gJ L, ∀ c ∈ x, c ≠ 92 := fun x hx c hc => (NJ 92 _ x hx c hc).2
 have hw : NV (gJ L) = some v := e
 clear e
 generalize gJ L = l at hg ho hw
 have hgl : ∀ (a : List UInt8) (r : List (List UInt8)), glue 92 (a :: r) = 92 :: (a ++ glue 92 r) := fun a r => rfl
 suffices hs : ∀ (h : List UInt8) (p : List ByteArray), jf (nR h p) = true → headW h p ++ gQ (nR h p) = L.map bs → lQ FILE h false p = (L.map bs, 0) by
  rcases WinE.kinds l with ⟨hf, _, k2⟩ | ⟨hn, _, _, k3, k4⟩ | ⟨_, _, k3⟩
  ·rw [k2] at hw
   injection hw with hw
   subst hw
   rw [zW.Ey] at hf
   simp only [Bool.and_eq_true, decide_eq_true_eq] at hf
   obtain ⟨⟨⟨⟨⟨h1, h2⟩, h3⟩, h4⟩, _⟩, h6⟩ := hf
   have hm := row_mem h6
   have hne := who_ne h4
   have hl : l = [] :: [] :: l.getD 2 [] :: l.drop 3 := by
    match l, h1, h2, h3 with
    | a :: b :: c :: x :: r, _, h2, h3 =>
     have h2 : a = [] := h2
     have h3 : b = [] := h3
     subst h2 h3
     rfl
   have hp : (nJ ([], l.getD 2 [], l.drop 3)).aF = ((l.drop 3).map seg).map strOf := rfl
   show lQ FILE (l.getD 2 []) false (nJ ([], l.getD 2 [], l.drop 3)).aF = _
   rw [hp]
   refine hs _ _ ?_ ?_
   ·unfold nR
    rw [if_pos hne]
    exact Hy (fun x hx => (hm x hx).1) (fun x hx => ho x (List.mem_of_mem_drop hx))
   ·unfold nR headW
    rw [if_pos hne, if_pos hne, La]
    rw [hl, hgl, hgl, hgl] at hg
    injection hg with _ hg
  ·rw [k3] at hw
   injection hw with hw
   subst hw
   rw [zW.vP] at hn
   simp only [Bool.and_eq_true, decide_eq_true_eq] at hn
   obtain ⟨⟨h1, h2⟩, h3⟩ := hn
   have hm := row_mem h3
   have hl : l = l.getD 0 [] :: l.drop 1 := by
    match l, h1 with
    | a :: r, _ => rfl
   have hp : (nJ (l.getD 0 [], [], l.drop 1)).aF = strOf (l.getD 0 []) :: ((l.drop 1).map seg).map strOf := by
    show (pre (l.getD 0 []) ++ (l.drop 1).map seg).map strOf = _
    unfold pre
    rw [if_neg k4]
    rfl
   show lQ FILE [] false (nJ (l.getD 0 [], [], l.drop 1)).aF = _
   rw [hp]
   refine hs _ _ ?_ ?_
   ·unfold nR
    rw [if_neg (fun h => h rfl)]
    exact Hy (fun x hx => (hm x hx).1) (fun x hx => ho x (List.mem_of_mem_drop hx))
   ·unfold nR headW
    rw [if_neg (fun h => h rfl), if_neg (fun h => h rfl)]
    show l.getD 0 [] ++ gQ (((l.drop 1).map seg).map strOf) = _
    rw [La]
    rw [hl, hgl] at hg
    injection hg with _ hg
  ·rw [k3] at hw
   cases hw
 intro h p h1 h2
 unfold lQ nI
 rw [if_neg (by rintro (e | e); exact e rfl; cases e), h2, h1, hfine, if_pos ⟨rfl, rfl⟩]
 rfl
end Go.Proofs.YtmdofbccebkbiaaGreatDoor.WinZ
