/- Scripts: operations and results that came in. -/
import Derived.Test.YtafnekilnbhhlaaLaw28b
import Derived.Test.YtafnekilnbhhlaaScrZ
import Derived.Test.YtafnekilnbhhlaaAggN
import Derived.Test.YtafnekilnbhhlaaOpen2
namespace Go.Proofs.Ytafnekilnbhhlaa.ScrI
open Go.Joins Go.Deep Go.ChangeShapes Go.WideShapes Go.ChangeAt Go.RowKit Go.Proofs.Ytafnekilnbhhlaa.Base Go.Proofs.Ytafnekilnbhhlaa.ScrP Go.Proofs.Ytafnekilnbhhlaa.ScrB Go.Proofs.Ytafnekilnbhhlaa.ScrG Go.Proofs.Ytafnekilnbhhlaa.ScrO Go.Proofs.Ytafnekilnbhhlaa.ScrY

variable {w : World} {H : Type} {enc : TypeId × Value → H} {base : Nat} {held : Bool} {spare : Nat → Bool}
theorem list9 {α : Type} {l : List α} (h : l.length = 9) : ∃ a0 a1 a2 a3 a4 a5 a6 a7 a8, l = [a0, a1, a2, a3, a4, a5, a6, a7, a8] := by
  match l, h with
  | [a0, a1, a2, a3, a4, a5, a6, a7, a8], _ => exact ⟨_, _, _, _, _, _, _, _, _, rfl⟩
theorem list4 {α : Type} {l : List α} (h : l.length = 4) : ∃ a0 a1 a2 a3, l = [a0, a1, a2, a3] := by
  match l, h with
  | [a0, a1, a2, a3], _ => exact ⟨_, _, _, _, rfl⟩
theorem cut {α : Type} (l : List α) (i k : Nat) : l.drop i = (l.drop i).take k ++ l.drop (i + k) := by
  rw [← List.drop_drop, List.take_append_drop]
theorem cells8 : Try.prog.cellsOf 5 = 1 := by kernel_rfl
theorem cellsl : Try.prog.cellsOf 2 = 1 := by kernel_rfl
theorem cellsi : Try.prog.cellsOf 3 = 1 := by kernel_rfl
theorem cellss : Try.prog.cellsOf 9 = 1 := by kernel_rfl
theorem cellso : Try.prog.cellsOf 34 = 4 := by kernel_rfl
theorem cellsa : Try.prog.cellsOf 35 = 16 := by kernel_rfl
theorem cellsp : Try.prog.cellsOf 37 = 27 := by kernel_rfl
theorem nat_of {z : Int} {k : Nat} (h : 0 ≤ z) (h2 : z ≤ k) : ∃ n : Nat, z = (n : Int) ∧ n ≤ k := ⟨z.toNat, by omega, by omega⟩
theorem un_of {z : Int} (h : -9223372036854775808 ≤ z ∧ z ≤ 9223372036854775807) : z = AnsW.sg (un z) := sg_un z h
/-- Sixteen bytes that came in. -/
theorem open_bytes {fuel : Nat} {cs : List Value} {x : DataW H × List MemPlace} (h : DataW.trod enc Try.prog w base spare held fuel 35 cs = some x) : ∃ L : List UInt8, cs = bcells L ∧ L.length = 16 := by
  obtain ⟨xs, m, _, _, hl, hxl, hi⟩ := DataW.trod_array Try.underlying35 h
  rw [cellsa] at hl
  refine ⟨cs.map fun v => match v with | .int _ z => UInt8.ofNat z.toNat | _ => 0, ?_, by rw [List.length_map, hl]⟩
  apply List.ext_getElem
  · rw [length_bcells, List.length_map]
  · intro i h1 h2
    have hi16 : i < 16 := by omega
    have h3 := hi i hi16
    rw [cells8, Nat.mul_one, List.drop_eq_getElem_cons h1, List.take_succ_cons, List.take_zero, List.getElem?_eq_getElem (by omega)] at h3
    obtain ⟨z, e, _, hwf⟩ := DataW.trod_int Try.underlying5 h3
    have e1 : cs[i] = .int .u8 z := by simpa using e
    obtain ⟨b0, b1⟩ := bounds_u8 hwf
    simp only [bcells, List.getElem_map, e1]
    congr 1
    simp
    omega
theorem open_origin {fuel : Nat} {cs : List Value} {x : DataW H × List MemPlace} (h : DataW.trod enc Try.prog w base spare held fuel 34 cs = some x) :
    ∃ (c d : List UInt8) (p n : Int), cs = [.string (strOf c), .string (strOf d), .int .i64 p, .int .i64 n] ∧ I64 p ∧ I64 n ∧ x.1.weights Try.prog 34 = x.1.weights Try.prog 34 ∧ (∀ k, (k = c.length ∨ k = d.length) → k ∈ x.1.weights Try.prog 34) := by
  obtain ⟨xs, m, _, rfl, hl, hxl, hf⟩ := DataW.trod_struct Try.underlying34 h
  obtain ⟨y0, y1, y2, y3, rfl⟩ := list4 hxl
  rw [cellso] at hl
  obtain ⟨v0, v1, v2, v3, rfl⟩ := list4 hl
  have f0 : DataW.trod enc Try.prog w base spare held m 9 (([v0, v1, v2, v3].drop 0).take (Try.prog.cellsOf 9)) = some y0 := hf 0 _ rfl
  have f1 : DataW.trod enc Try.prog w base spare held m 9 (([v0, v1, v2, v3].drop 1).take (Try.prog.cellsOf 9)) = some y1 := hf 1 _ rfl
  have f2 : DataW.trod enc Try.prog w base spare held m 3 (([v0, v1, v2, v3].drop 2).take (Try.prog.cellsOf 3)) = some y2 := hf 2 _ rfl
  have f3 : DataW.trod enc Try.prog w base spare held m 2 (([v0, v1, v2, v3].drop 3).take (Try.prog.cellsOf 2)) = some y3 := hf 3 _ rfl
  rw [cellss] at f0 f1
  rw [cellsi] at f2
  rw [cellsl] at f3
  obtain ⟨s0, e0, d0, _⟩ := DataW.trod_string Try.underlying9 f0
  obtain ⟨s1, e1, d1, _⟩ := DataW.trod_string Try.underlying9 f1
  obtain ⟨p, e2, _, w2⟩ := DataW.trod_int Try.underlying3 f2
  obtain ⟨n, e3, _, w3⟩ := DataW.trod_int Try.underlying2 f3
  obtain rfl : v0 = .string s0 := by simpa using e0
  obtain rfl : v1 = .string s1 := by simpa using e1
  obtain rfl : v2 = .int .i64 p := by simpa using e2
  obtain rfl : v3 = .int .i64 n := by simpa using e3
  refine ⟨s0.data.toList, s1.data.toList, p, n, by rw [strOf_toList, strOf_toList], bounds_i64 w2, bounds_i64 w3, rfl, fun k hk => ?_⟩
  simp only [DataW.weights, Try.underlying34]
  rcases hk with rfl | rfl
  · exact DataW.weights_mem_each (j := 0) (d := y0.1) rfl rfl _ (by rw [d0]; simp [DataW.weights])
  · exact DataW.weights_mem_each (j := 1) (d := y1.1) rfl rfl _ (by rw [d1]; simp [DataW.weights])
theorem open_op {fuel : Nat} {cs : List Value} {x : DataW H × List MemPlace} (h : DataW.trod enc Try.prog w base spare held fuel 37 cs = some x) :
    ∃ o : O, cs = cells o ∧ Bnd o ∧ o.r.length = 16 ∧ ∀ k, (k = o.s.length ∨ k = o.t.length ∨ k = o.c.length ∨ k = o.d.length) → k ∈ x.1.weights Try.prog 37 := by
  obtain ⟨xs, m, _, rfl, hl, hxl, hf⟩ := DataW.trod_struct Try.underlying37 h
  obtain ⟨y0, y1, y2, y3, y4, y5, y6, y7, y8, rfl⟩ := list9 hxl
  rw [cellsp] at hl
  have f0 : DataW.trod enc Try.prog w base spare held m 5 ((cs.drop 0).take (Try.prog.cellsOf 5)) = some y0 := hf 0 _ rfl
  have f1 : DataW.trod enc Try.prog w base spare held m 5 ((cs.drop 1).take (Try.prog.cellsOf 5)) = some y1 := hf 1 _ rfl
  have f2 : DataW.trod enc Try.prog w base spare held m 2 ((cs.drop 2).take (Try.prog.cellsOf 2)) = some y2 := hf 2 _ rfl
  have f3 : DataW.trod enc Try.prog w base spare held m 2 ((cs.drop 3).take (Try.prog.cellsOf 2)) = some y3 := hf 3 _ rfl
  have f4 : DataW.trod enc Try.prog w base spare held m 2 ((cs.drop 4).take (Try.prog.cellsOf 2)) = some y4 := hf 4 _ rfl
  have f5 : DataW.trod enc Try.prog w base spare held m 9 ((cs.drop 5).take (Try.prog.cellsOf 9)) = some y5 := hf 5 _ rfl
  have f6 : DataW.trod enc Try.prog w base spare held m 9 ((cs.drop 6).take (Try.prog.cellsOf 9)) = some y6 := hf 6 _ rfl
  have f7 : DataW.trod enc Try.prog w base spare held m 34 ((cs.drop 7).take (Try.prog.cellsOf 34)) = some y7 := hf 7 _ rfl
  have f8 : DataW.trod enc Try.prog w base spare held m 35 ((cs.drop 11).take (Try.prog.cellsOf 35)) = some y8 := hf 8 _ rfl
  rw [cells8] at f0 f1
  rw [cellsl] at f2 f3 f4
  rw [cellss] at f5 f6
  rw [cellso] at f7
  rw [cellsa] at f8
  obtain ⟨z0, e0, _, w0⟩ := DataW.trod_int Try.underlying5 f0
  obtain ⟨z1, e1, _, w1⟩ := DataW.trod_int Try.underlying5 f1
  obtain ⟨z2, e2, _, w2⟩ := DataW.trod_int Try.underlying2 f2
  obtain ⟨z3, e3, _, w3⟩ := DataW.trod_int Try.underlying2 f3
  obtain ⟨z4, e4, _, w4⟩ := DataW.trod_int Try.underlying2 f4
  obtain ⟨s5, e5, d5, _⟩ := DataW.trod_string Try.underlying9 f5
  obtain ⟨s6, e6, d6, _⟩ := DataW.trod_string Try.underlying9 f6
  obtain ⟨c, d, p, n, e7, wp, wn, _, h7⟩ := open_origin f7
  obtain ⟨L, e8, hL⟩ := open_bytes f8
  obtain ⟨n0, rfl, b0⟩ := nat_of (k := 255) (bounds_u8 w0).1 (by have := (bounds_u8 w0).2; omega)
  obtain ⟨n1, rfl, b1⟩ := nat_of (k := 255) (bounds_u8 w1).1 (by have := (bounds_u8 w1).2; omega)
  refine ⟨⟨n0, n1, un z2, un z3, un z4, s5.data.toList, s6.data.toList, c, d, un p, un n, L⟩, ?_, ⟨by show n0 < 256; omega, by show n1 < 256; omega, un_lt _, un_lt _, un_lt _, un_lt _, un_lt _⟩, hL, fun k hk => ?_⟩
  · have h8 : (cs.drop 11).take 16 = cs.drop 11 := List.take_of_length_le (by rw [List.length_drop, hl]; decide)
    rw [h8] at e8
    have hcs : cs = (cs.drop 0).take 1 ++ ((cs.drop 1).take 1 ++ ((cs.drop 2).take 1 ++ ((cs.drop 3).take 1 ++ ((cs.drop 4).take 1 ++ ((cs.drop 5).take 1 ++ ((cs.drop 6).take 1 ++ ((cs.drop 7).take 4 ++ cs.drop 11))))))) := by
      exact (List.drop_zero (l := cs)).symm.trans ((cut cs 0 1).trans (congrArg (List.take 1 (List.drop 0 cs) ++ ·) ((cut cs 1 1).trans (congrArg (List.take 1 (List.drop 1 cs) ++ ·) ((cut cs 2 1).trans (congrArg (List.take 1 (List.drop 2 cs) ++ ·) ((cut cs 3 1).trans (congrArg (List.take 1 (List.drop 3 cs) ++ ·) ((cut cs 4 1).trans (congrArg (List.take 1 (List.drop 4 cs) ++ ·) ((cut cs 5 1).trans (congrArg (List.take 1 (List.drop 5 cs) ++ ·) ((cut cs 6 1).trans (congrArg (List.take 1 (List.drop 6 cs) ++ ·) (cut cs 7 4)))))))))))))))
    rw [hcs, e0, e1, e2, e3, e4, e5, e6, e7, e8]
    unfold cells
    simp only [← un_of (bounds_i64 w2), ← un_of (bounds_i64 w3), ← un_of (bounds_i64 w4), ← un_of wp, ← un_of wn, strOf_toList]
    rfl
  · simp only [DataW.weights, Try.underlying37]
    rcases hk with hk | hk | hk | hk
    · exact DataW.weights_mem_each (j := 5) (d := y5.1) rfl rfl _ (by rw [d5, hk]; simp [DataW.weights])
    · exact DataW.weights_mem_each (j := 6) (d := y6.1) rfl rfl _ (by rw [d6, hk]; simp [DataW.weights])
    · exact DataW.weights_mem_each (j := 7) (d := y7.1) rfl rfl _ (h7 _ (.inl hk))
    · exact DataW.weights_mem_each (j := 7) (d := y7.1) rfl rfl _ (h7 _ (.inr hk))
theorem of_ops {ts : List TypeId} {ds : List (DataW H)} (hsz : (DataW.weightsEach Try.prog ts ds).all (· ≤ reachBytes) = true) {j : Nat} {fuel : Nat} {v : Value} {x : DataW H × List MemPlace} (htj : ts[j]? = some 22) (hdj : ds[j]? = some x.1)
    (h : DataW.trod enc Try.prog w base spare held fuel 22 [v] = some x) : ∃ A n cap l, v = .slice A n cap ∧ Laws.In w A n cap l := by
  rcases DataW.trod_slice Try.underlying22 h with ⟨hcs, _⟩ | ⟨a, len, cap, elems, rest, m, _, hcs, rfl, hb, hl, hm, hlen, hel, _, _⟩
  · obtain rfl : v = .slice none 0 0 := by simpa using hcs
    exact ⟨none, 0, 0, [], rfl, ⟨rfl, Rds.nil _, by simp⟩, by simp, by simp, Nat.le_refl _, Nat.zero_le _⟩
  · obtain rfl : v = .slice (some a) len cap := by simpa using hcs
    have HH : ∀ i, i < len → ∃ o : O, (∀ q, q < 27 → w.cell? (a.add (i * 27 + q)) = (cells o)[q]?) ∧ Far o ∧ Bnd o ∧ o.r.length = 16 := by
      intro i hi
      have h1 := hel i hi
      rw [cellsp, List.getElem?_eq_getElem (by omega), Option.bind_eq_some_iff] at h1
      obtain ⟨cs', hc, ht⟩ := h1
      obtain ⟨o, rfl, hbn, hr, hwt⟩ := open_op ht
      obtain ⟨_, hcl, hat⟩ := World.cells?_some hc
      refine ⟨o, fun q hq => ?_, ?_, hbn, hr⟩
      · rw [← Go.Deep.add_add]
        exact hat q hq
      · have hw : ∀ k, (k = o.s.length ∨ k = o.t.length ∨ k = o.c.length ∨ k = o.d.length) → k ≤ reachBytes := fun k hk => by
          have hmem : k ∈ (DataW.slice (elems.map (·.1)) (rest.map (·.1))).weights Try.prog 22 := by
            simp only [DataW.weights, Try.underlying22]
            exact List.mem_cons_of_mem _ (List.mem_append_left _ (AggN.weightsAll_mem (List.mem_map.2 ⟨_, List.getElem_mem (by omega), rfl⟩) _ (hwt k hk)))
          exact of_decide_eq_true (List.all_eq_true.1 hsz _ (DataW.weights_mem_each htj hdj _ hmem))
        exact ⟨hw _ (.inl rfl), hw _ (.inr (.inl rfl)), hw _ (.inr (.inr (.inl rfl))), hw _ (.inr (.inr (.inr rfl)))⟩
    have HL : ∀ k, k ≤ len → ∃ l : List O, l.length = k ∧ (∀ j (hj : j < l.length), ∀ q, q < 27 → w.cell? (a.add (j * 27 + q)) = (cells l[j])[q]?) ∧ ∀ o ∈ l, Far o ∧ Bnd o ∧ o.r.length = 16 := by
      intro k
      induction k with
      | zero => intro _; exact ⟨[], rfl, fun j hj => absurd hj (by simp), by simp⟩
      | succ k ih =>
        intro hk
        obtain ⟨l, hl, hc, hsh⟩ := ih (by omega)
        obtain ⟨o, h1, h2, h3, h4⟩ := HH k (by omega)
        refine ⟨l ++ [o], by simp [hl], fun j hj => ?_, ?_⟩
        · by_cases hjl : j < l.length
          · rw [List.getElem_append_left hjl]
            exact hc j hjl
          · obtain rfl : j = k := by simp [hl] at hj; omega
            simp only [List.getElem_append_right (show l.length ≤ j by omega)]
            simpa [hl] using h1
        · intro q hq
          rcases List.mem_append.1 hq with hq | hq
          · exact hsh q hq
          · simp at hq
            subst hq
            exact ⟨h2, h3, h4⟩
    obtain ⟨l, hln, hc, hsh⟩ := HL len (Nat.le_refl _)
    have hr : ∀ o ∈ l, o.r.length = 16 := fun o ho => (hsh o ho).2.2
    refine ⟨some a, len, cap, l, rfl, ⟨hln, Open.rds_cells (by rw [flat_len l hr, hln]) (fun i hi => ?_), hr⟩, fun o ho => (hsh o ho).1, fun o ho => (hsh o ho).2, hl, hm⟩
    rw [flat_len l hr] at hi
    have e : i = i / 27 * 27 + i % 27 := by omega
    have hj : i / 27 < l.length := by omega
    have h1 := hc (i / 27) hj (i % 27) (by omega)
    have h2 := flat_at l hr (i / 27) hj (i % 27) (by omega)
    rw [← e] at h1 h2
    rw [h1, ← h2]
    exact List.getElem?_eq_getElem _
theorem list6 {α : Type} {l : List α} (h : l.length = 6) : ∃ a0 a1 a2 a3 a4 a5, l = [a0, a1, a2, a3, a4, a5] := by
  match l, h with
  | [a0, a1, a2, a3, a4, a5], _ => exact ⟨_, _, _, _, _, _, rfl⟩
theorem cellsr : Try.prog.cellsOf 45 = 9 := by kernel_rfl
theorem cellsn : Try.prog.cellsOf 43 = 6 := by kernel_rfl
theorem cellse : Try.prog.cellsOf 27 = 1 := by kernel_rfl
theorem cellsb : Try.prog.cellsOf 25 = 1 := by kernel_rfl
theorem of_result {r : Reach} {b0 : Nat} {ts : List TypeId} {ds : List (DataW H)} (hsz : (DataW.weightsEach Try.prog ts ds).all (· ≤ reachBytes) = true) {i : Nat} {v : Value} {d : DataW H} {p : List MemPlace} (hti : ts[i]? = some 45) (hdi : ds[i]? = some d)
    (hv : Value.okWide Try.prog w r b0 45 v) (h : DataW.Trod enc Try.prog w base (fun _ => true) held 45 v d p) :
    ∃ (er hz : Int) (s : ByteArray) (so st f t0 : Int) (k : ByteArray) (A : Option Addr) (n c : Nat) (L : List UInt8), v = .agg #[.int .i64 er, .int .i64 hz, .string s, .int .i64 so, .int .i64 st, .int .i64 f, .int .i64 t0, .string k, .slice A n c] ∧ I64 er ∧ I64 hz ∧ I64 f ∧ I64 t0 ∧ s.size ≤ 140737488351232 ∧ k.size ≤ 140737488351232 ∧ Rds w A n (bcells L) ∧ n ≤ 140737488351232 := by
  obtain ⟨⟨l⟩, rfl, hlen⟩ := okWide_struct Try.underlying45 hv
  obtain ⟨fuel, hf0⟩ := h
  obtain ⟨xs, m, _, hx, _, hxl, hf⟩ := DataW.trod_struct Try.underlying45 hf0
  simp only [Prod.mk.injEq] at hx
  obtain ⟨rfl, _⟩ := hx
  obtain ⟨y0, y1, y2, y3, rfl⟩ := list4 hxl
  have hl9 : l.length = 9 := by rw [← cellsr]; exact hlen
  obtain ⟨v0, v1, v2, v3, v4, v5, v6, v7, v8, rfl⟩ := list9 hl9
  have f0 : DataW.trod enc Try.prog w base (fun _ => true) held m 27 (([v0, v1, v2, v3, v4, v5, v6, v7, v8].drop 0).take (Try.prog.cellsOf 27)) = some y0 := hf 0 _ rfl
  have f1 : DataW.trod enc Try.prog w base (fun _ => true) held m 2 (([v0, v1, v2, v3, v4, v5, v6, v7, v8].drop 1).take (Try.prog.cellsOf 2)) = some y1 := hf 1 _ rfl
  have f2 : DataW.trod enc Try.prog w base (fun _ => true) held m 9 (([v0, v1, v2, v3, v4, v5, v6, v7, v8].drop 2).take (Try.prog.cellsOf 9)) = some y2 := hf 2 _ rfl
  have f3 : DataW.trod enc Try.prog w base (fun _ => true) held m 43 (([v0, v1, v2, v3, v4, v5, v6, v7, v8].drop 3).take (Try.prog.cellsOf 43)) = some y3 := hf 3 _ rfl
  rw [cellse] at f0
  rw [cellsl] at f1
  rw [cellss] at f2
  rw [cellsn] at f3
  obtain ⟨zs, m2, _, hz3, _, hzl, hg⟩ := DataW.trod_struct Try.underlying43 f3
  obtain ⟨u0, u1, u2, u3, u4, u5, rfl⟩ := list6 hzl
  have g0 : DataW.trod enc Try.prog w base (fun _ => true) held m2 3 (([v3, v4, v5, v6, v7, v8].drop 0).take (Try.prog.cellsOf 3)) = some u0 := hg 0 _ rfl
  have g1 : DataW.trod enc Try.prog w base (fun _ => true) held m2 3 (([v3, v4, v5, v6, v7, v8].drop 1).take (Try.prog.cellsOf 3)) = some u1 := hg 1 _ rfl
  have g2 : DataW.trod enc Try.prog w base (fun _ => true) held m2 2 (([v3, v4, v5, v6, v7, v8].drop 2).take (Try.prog.cellsOf 2)) = some u2 := hg 2 _ rfl
  have g3 : DataW.trod enc Try.prog w base (fun _ => true) held m2 2 (([v3, v4, v5, v6, v7, v8].drop 3).take (Try.prog.cellsOf 2)) = some u3 := hg 3 _ rfl
  have g4 : DataW.trod enc Try.prog w base (fun _ => true) held m2 9 (([v3, v4, v5, v6, v7, v8].drop 4).take (Try.prog.cellsOf 9)) = some u4 := hg 4 _ rfl
  have g5 : DataW.trod enc Try.prog w base (fun _ => true) held m2 25 (([v3, v4, v5, v6, v7, v8].drop 5).take (Try.prog.cellsOf 25)) = some u5 := hg 5 _ rfl
  rw [cellsi] at g0 g1
  rw [cellsl] at g2 g3
  rw [cellss] at g4
  rw [cellsb] at g5
  obtain ⟨er, e0, _, w0⟩ := DataW.trod_int Try.underlying27 f0
  obtain ⟨hz, e1, _, w1⟩ := DataW.trod_int Try.underlying2 f1
  obtain ⟨s, e2, d2, _⟩ := DataW.trod_string Try.underlying9 f2
  obtain ⟨so, e3, _, w3⟩ := DataW.trod_int Try.underlying3 g0
  obtain ⟨st, e4, _, w4⟩ := DataW.trod_int Try.underlying3 g1
  obtain ⟨f, e5, _, w5⟩ := DataW.trod_int Try.underlying2 g2
  obtain ⟨t0, e6, _, w6⟩ := DataW.trod_int Try.underlying2 g3
  obtain ⟨k, e7, d7, _⟩ := DataW.trod_string Try.underlying9 g4
  obtain rfl : v0 = .int .i64 er := by simpa using e0
  obtain rfl : v1 = .int .i64 hz := by simpa using e1
  obtain rfl : v2 = .string s := by simpa using e2
  obtain rfl : v3 = .int .i64 so := by simpa using e3
  obtain rfl : v4 = .int .i64 st := by simpa using e4
  obtain rfl : v5 = .int .i64 f := by simpa using e5
  obtain rfl : v6 = .int .i64 t0 := by simpa using e6
  obtain rfl : v7 = .string k := by simpa using e7
  have g5' : DataW.trod enc Try.prog w base (fun _ => true) held m2 25 [v8] = some u5 := g5
  obtain ⟨A, n, c, e8⟩ : ∃ A n c, v8 = .slice A n c := by
    rcases DataW.trod_slice Try.underlying25 g5' with ⟨hc, _⟩ | ⟨a, n, c, _, _, _, _, hc, _⟩
    · exact ⟨none, 0, 0, by simpa using hc⟩
    · exact ⟨some a, n, c, by simpa using hc⟩
  subst e8
  obtain ⟨L, hL, hnc, hcm⟩ := Open.of_bytes Try.underlying25 Try.underlying5 cells8 (show DataW.trod enc Try.prog w base (fun _ => true) held m2 25 (Value.slice A n c).cells.toList = some u5 from g5')
  have hy3 : y3.1 = .agg [u0.1, u1.1, u2.1, u3.1, u4.1, u5.1] := congrArg Prod.fst hz3
  have hW : ∀ q, q ∈ (DataW.agg [y0.1, y1.1, y2.1, y3.1]).weights Try.prog 45 → q ≤ reachBytes := fun q hq => of_decide_eq_true (List.all_eq_true.1 hsz _ (DataW.weights_mem_each hti hdi _ hq))
  have hW3 : ∀ q, q ∈ (DataW.agg [u0.1, u1.1, u2.1, u3.1, u4.1, u5.1]).weights Try.prog 43 → q ≤ reachBytes := fun q hq => hW q (by
    simp only [DataW.weights, Try.underlying45]
    exact DataW.weights_mem_each (j := 3) (d := y3.1) rfl rfl _ (by rw [hy3]; exact hq))
  refine ⟨er, hz, s, so, st, f, t0, k, A, n, c, L, rfl, bounds_i64 w0, bounds_i64 w1, bounds_i64 w5, bounds_i64 w6, ?_, ?_, hL, ?_⟩
  · have := hW s.data.toList.length (by
      simp only [DataW.weights, Try.underlying45]
      exact DataW.weights_mem_each (j := 2) (d := y2.1) rfl rfl _ (by rw [d2]; simp [DataW.weights]))
    rwa [show s.data.toList.length = s.size from Array.length_toList] at this
  · have := hW3 k.data.toList.length (by
      simp only [DataW.weights, Try.underlying43]
      exact DataW.weights_mem_each (j := 4) (d := u4.1) rfl rfl _ (by rw [d7]; simp [DataW.weights]))
    rwa [show k.data.toList.length = k.size from Array.length_toList] at this
  · rcases Open2.cap_told Try.underlying25 Try.underlying5 cells8 (show DataW.trod enc Try.prog w base (fun _ => true) held m2 25 (Value.slice A n c).cells.toList = some u5 from g5') with h0 | ⟨es, sp, e1, hl⟩
    · omega
    · have hb : Try.prog.bytesOf 5 = 1 := by kernel_rfl
      have := hW3 ((es.length + sp.length) * Try.prog.bytesOf 5) (by
        simp only [DataW.weights, Try.underlying43]
        exact DataW.weights_mem_each (j := 5) (d := u5.1) rfl rfl _ (by rw [e1]; simp [DataW.weights, Try.underlying25]))
      rw [hb, Nat.mul_one, hl] at this
      exact Nat.le_trans hnc this
end Go.Proofs.Ytafnekilnbhhlaa.ScrI
