/- Texts that belong together: Ulw, PrsW. -/
import Derived.Test.YtaooiggckcfanaaGreatDoorML
import Derived.Test.YtaooiggckcfanaaGreatDoorMN
import Derived.Test.YtaooiggckcfanaaGreatDoorMR
import Derived.Test.YtaooiggckcfanaaGreatDoorMP
set_option linter.unusedSimpArgs false
set_option linter.unusedVariables false
namespace Go.Proofs.YtaooiggckcfanaaGreatDoor.Ulw
open Go.RowKit Base Base2 UtfL UrlA UrlC UrlF HstC PrsP Ubx PrsC PrsD SixG Spl PrsG PrsR PrsS PrsV PrsY
structure Env (w : World) : Prop where
 pow : Tab.Pow w
 lad : Lad w
 max : Max w
 utab : Utab w
theorem Env.below {w w' : World} (h : Env w) (hb : Below w.heap.size w w') : Env w' := ⟨pow_below h.pow hb, h.lad.below hb, h.max.below hb, h.utab.below hb⟩
structure Pt (w : World) (u : U) (A : Option Addr) (n c : Nat) : Prop where
 pth : PthIs w u A n c
theorem Pt.below {w w' : World} {u : U} {A : Option Addr} {n c : Nat} (h : Pt w u A n c) (hb : Below w.heap.size w w') : Pt w' u A n c := ⟨Ubx.PthIs.below h.pth hb⟩
theorem Pt.len {w : World} {u : U} {A : Option Addr} {n c N : Nat} (h : Pt w u A n c) (hf : Fit u N) : n ≤ N := by
 have h1 : (u.pth.map Value.string).length = n := h.pth.1.1
 rw [List.length_map] at h1
 have h2 := hf.all
 have h3 := UrlP.length_pth u.pth
 unfold PrsV.pl at h2
 omega
theorem dl (s : ByteArray) : s.data.toList.length = s.size := Array.length_toList
theorem parse_some {T : ByteArray} {u : U} (ho : PrsP.url T.data.toList none = some u) (hs : T.size ≤ 65536) (w : World) (E : Env w) : Calls Tryz.prog 16 #[.string T, .pointer none] w fun e w' => ∃ A' n' c', e = .returned (.tuple #[.agg #[.string (strOf u.sch), .string (strOf u.usr), .string (strOf u.pwd), .string (strOf u.hst), .bool u.hh, .int .i64 u.port, .bool u.opq, .string (strOf u.txt), .slice A' n' c', .bool u.hq, .bool u.hf, .string (strOf u.qry), .string (strOf u.frg)], .int .i64 0]) ∧ Pt w' u A' n' c' ∧ Below w.heap.size w w' := by
 have h := parseN_any T.data.toList w (by rw [dl]; exact hs) E.lad E.pow E.max E.utab
 rw [strOf_toList, ho] at h
 exact h.mono fun e w' ⟨h1, A, n, c, h2, h3⟩ => ⟨A, n, c, h2, ⟨h3.pth⟩, h1⟩
theorem parse_none {T : ByteArray} {u : U} (hu : u = U0) (ho : PrsP.url T.data.toList none = none) (hs : T.size ≤ 65536) (w : World) (E : Env w) : Calls Tryz.prog 16 #[.string T, .pointer none] w fun e w' => ∃ A' n' c', e = .returned (.tuple #[.agg #[.string (strOf u.sch), .string (strOf u.usr), .string (strOf u.pwd), .string (strOf u.hst), .bool u.hh, .int .i64 u.port, .bool u.opq, .string (strOf u.txt), .slice A' n' c', .bool u.hq, .bool u.hf, .string (strOf u.qry), .string (strOf u.frg)], .int .i64 2]) ∧ Pt w' u A' n' c' ∧ Below w.heap.size w w' := by
 subst hu
 have h := parseN_any T.data.toList w (by rw [dl]; exact hs) E.lad E.pow E.max E.utab
 rw [strOf_toList, ho] at h
 exact h.mono fun e w' ⟨h1, A, n, c, h2, h3⟩ => ⟨A, n, c, h2, ⟨h3.pth⟩, h1⟩
theorem parseB_some {T : ByteArray} {b u : U} (ho : PrsP.url T.data.toList (some b) = some u) (hs : T.size ≤ 65536) (gb : Nat) (A : Option Addr) (n c : Nat) (hn : n ≤ 100000) (w : World) (hB : UB w gb b (.slice A n c)) (hP : Pt w b A n c) (E : Env w) : Calls Tryz.prog 16 #[.string T, .pointer (some ⟨gb, 0, none⟩)] w fun e w' => ∃ A' n' c', e = .returned (.tuple #[.agg #[.string (strOf u.sch), .string (strOf u.usr), .string (strOf u.pwd), .string (strOf u.hst), .bool u.hh, .int .i64 u.port, .bool u.opq, .string (strOf u.txt), .slice A' n' c', .bool u.hq, .bool u.hf, .string (strOf u.qry), .string (strOf u.frg)], .int .i64 0]) ∧ Pt w' u A' n' c' ∧ Below w.heap.size w w' := by
 have h := parseB_any T.data.toList b gb A n c w (by rw [dl]; exact hs) hn hB hP.pth E.lad E.pow E.max E.utab
 rw [strOf_toList, ho] at h
 exact h.mono fun e w' ⟨h1, A, n, c, h2, h3⟩ => ⟨A, n, c, h2, ⟨h3.pth⟩, h1⟩
theorem parseB_none {T : ByteArray} {b u : U} (hu : u = U0) (ho : PrsP.url T.data.toList (some b) = none) (hs : T.size ≤ 65536) (gb : Nat) (A : Option Addr) (n c : Nat) (hn : n ≤ 100000) (w : World) (hB : UB w gb b (.slice A n c)) (hP : Pt w b A n c) (E : Env w) : Calls Tryz.prog 16 #[.string T, .pointer (some ⟨gb, 0, none⟩)] w fun e w' => ∃ A' n' c', e = .returned (.tuple #[.agg #[.string (strOf u.sch), .string (strOf u.usr), .string (strOf u.pwd), .string (strOf u.hst), .bool u.hh, .int .i64 u.port, .bool u.opq, .string (strOf u.txt), .slice A' n' c', .bool u.hq, .bool u.hf, .string (strOf u.qry), .string (strOf u.frg)], .int .i64 2]) ∧ Pt w' u A' n' c' ∧ Below w.heap.size w w' := by
 subst hu
 have h := parseB_any T.data.toList b gb A n c w (by rw [dl]; exact hs) hn hB hP.pth E.lad E.pow E.max E.utab
 rw [strOf_toList, ho] at h
 exact h.mono fun e w' ⟨h1, A, n, c, h2, h3⟩ => ⟨A, n, c, h2, ⟨h3.pth⟩, h1⟩
theorem parseB_own {T : ByteArray} {b u : U} {o : Option U} {z : Int} (ho : PrsP.url T.data.toList (some b) = o) (hu : o.getD U0 = u) (hz : (if o.isSome = true then (0 : Int) else 2) = z) (hs : T.size ≤ 65536) (gb : Nat) (A : Option Addr) (n c : Nat) (hn : n ≤ 100000) (w : World) (hB : UB w gb b (.slice A n c)) (hP : Pt w b A n c) (E : Env w) : Calls Tryz.prog 16 #[.string T, .pointer (some ⟨gb, 0, none⟩)] w fun e w' => ∃ A' n' c', e = .returned (.tuple #[.agg #[.string (strOf u.sch), .string (strOf u.usr), .string (strOf u.pwd), .string (strOf u.hst), .bool u.hh, .int .i64 u.port, .bool u.opq, .string (strOf u.txt), .slice A' n' c', .bool u.hq, .bool u.hf, .string (strOf u.qry), .string (strOf u.frg)], .int .i64 z]) ∧ Own w w' u A' n' c' ∧ Below w.heap.size w w' := by
 have h := parseB_any T.data.toList b gb A n c w (by rw [dl]; exact hs) hn hB hP.pth E.lad E.pow E.max E.utab
 rw [strOf_toList, ho] at h
 exact h.mono fun e w' ⟨h1, A, n, c, h2, h3⟩ => ⟨A, n, c, by rw [h2, hu, hz]; rfl, hu ▸ h3, h1⟩
def sameU (u v : U) : Bool := decide (UrlP.same1 (strOf u.sch) (strOf u.usr) (strOf u.pwd) (strOf u.hst) u.hh u.port u.opq (strOf u.txt) u.pth u.hq u.hf (strOf u.qry) (strOf u.frg) = UrlP.same1 (strOf v.sch) (strOf v.usr) (strOf v.pwd) (strOf v.hst) v.hh v.port v.opq (strOf v.txt) v.pth v.hq v.hf (strOf v.qry) (strOf v.frg))
theorem sameU_self (u : U) : sameU u u = true := decide_eq_true rfl
theorem same_u (u v : U) (A A2 : Option Addr) (n c n2 c2 : Nat) (w : World) (hP : Pt w u A n c) (hQ : Pt w v A2 n2 c2) : Calls Tryz.prog 23 #[.agg #[.string (strOf u.sch), .string (strOf u.usr), .string (strOf u.pwd), .string (strOf u.hst), .bool u.hh, .int .i64 u.port, .bool u.opq, .string (strOf u.txt), .slice A n c, .bool u.hq, .bool u.hf, .string (strOf u.qry), .string (strOf u.frg)], .agg #[.string (strOf v.sch), .string (strOf v.usr), .string (strOf v.pwd), .string (strOf v.hst), .bool v.hh, .int .i64 v.port, .bool v.opq, .string (strOf v.txt), .slice A2 n2 c2, .bool v.hq, .bool v.hf, .string (strOf v.qry), .string (strOf v.frg)]] w fun e w' => e = .returned (.bool (sameU u v)) ∧ Below w.heap.size w w' :=
 same_any _ _ _ _ _ _ _ _ A n c u.pth _ _ _ _ _ _ _ _ _ _ _ _ A2 n2 c2 v.pth _ _ _ _ w hP.pth.1 hP.pth.2.1 hP.pth.2.2 hQ.pth.1 hQ.pth.2.1 hQ.pth.2.2
theorem same_yes (u : U) (A A2 : Option Addr) (n c n2 c2 : Nat) (w : World) (hP : Pt w u A n c) (hQ : Pt w u A2 n2 c2) : Calls Tryz.prog 23 #[.agg #[.string (strOf u.sch), .string (strOf u.usr), .string (strOf u.pwd), .string (strOf u.hst), .bool u.hh, .int .i64 u.port, .bool u.opq, .string (strOf u.txt), .slice A n c, .bool u.hq, .bool u.hf, .string (strOf u.qry), .string (strOf u.frg)], .agg #[.string (strOf u.sch), .string (strOf u.usr), .string (strOf u.pwd), .string (strOf u.hst), .bool u.hh, .int .i64 u.port, .bool u.opq, .string (strOf u.txt), .slice A2 n2 c2, .bool u.hq, .bool u.hf, .string (strOf u.qry), .string (strOf u.frg)]] w fun e w' => e = .returned (.bool true) ∧ Below w.heap.size w w' := by
 have h := same_u u u A A2 n c n2 c2 w hP hQ
 rw [sameU_self] at h
 exact h
theorem fit_sizes {u : U} {N : Nat} (h : Fit u N) (hN : N ≤ 1073741824) : (strOf u.sch).size ≤ 1073741824 ∧ (strOf u.usr).size ≤ 1073741824 ∧ (strOf u.pwd).size ≤ 1073741824 ∧ (strOf u.hst).size ≤ 1073741824 ∧ (strOf u.txt).size ≤ 1073741824 ∧ (strOf u.qry).size ≤ 1073741824 ∧ (strOf u.frg).size ≤ 1073741824 ∧ (UrlP.pth u.pth).length ≤ 1073741824 := by
 have h1 := h.all
 unfold PrsV.pl at h1
 simp only [size_strOf]
 omega
theorem print_u {u : U} {N : Nat} (hF : Fit u N) (hN : N ≤ 1073741824) (A : Option Addr) (n c : Nat) (w : World) (hP : Pt w u A n c) (E : Env w) : Calls Tryz.prog 22 #[.agg #[.string (strOf u.sch), .string (strOf u.usr), .string (strOf u.pwd), .string (strOf u.hst), .bool u.hh, .int .i64 u.port, .bool u.opq, .string (strOf u.txt), .slice A n c, .bool u.hq, .bool u.hf, .string (strOf u.qry), .string (strOf u.frg)]] w fun e w' => e = .returned (.string (strOf (printU u))) ∧ Below w.heap.size w w' := by
 obtain ⟨h1, h2, h3, h4, h5, h6, h7, h8⟩ := fit_sizes hF hN
 exact print_any _ _ _ _ _ _ _ _ A n c u.pth _ _ _ _ w hP.pth.1 hP.pth.2.1 hP.pth.2.2 h1 h2 h3 h4 h5 h6 h7 (by have := hF.lo; omega) (by have := hF.hi; omega) h8 E.pow
theorem bare_u {u : U} {N : Nat} (hF : Fit u N) (hN : N ≤ 1073741824) (A : Option Addr) (n c : Nat) (w : World) (hP : Pt w u A n c) (E : Env w) : Calls Tryz.prog 25 #[.agg #[.string (strOf u.sch), .string (strOf u.usr), .string (strOf u.pwd), .string (strOf u.hst), .bool u.hh, .int .i64 u.port, .bool u.opq, .string (strOf u.txt), .slice A n c, .bool u.hq, .bool u.hf, .string (strOf u.qry), .string (strOf u.frg)]] w fun e w' => e = .returned (.string (strOf (bareU u))) ∧ Below w.heap.size w w' := by
 obtain ⟨h1, h2, h3, h4, h5, h6, h7, h8⟩ := fit_sizes hF hN
 exact bare_any _ _ _ _ _ _ _ _ A n c u.pth _ _ _ _ w hP.pth.1 hP.pth.2.1 hP.pth.2.2 h1 h2 h3 h4 h5 h6 h7 (by have := hF.lo; omega) (by have := hF.hi; omega) h8 E.pow
theorem print_len {u : U} {N : Nat} (h : Fit u N) : (printU u).length ≤ N + 60 := by
 have h1 := h.all
 have hl := h.lo
 have hh := h.hi
 have hp : (UrlP.portL u.port).length ≤ 21 := port_len u.port (by omega) (by omega)
 have hc : (UrlP.credL (strOf u.usr) (strOf u.pwd)).length ≤ u.usr.length + u.pwd.length + 2 := by
  unfold UrlP.credL
  have e1 : (strOf u.usr).data.toList = u.usr := rfl
  have e2 : (strOf u.pwd).data.toList = u.pwd := rfl
  rw [e1, e2]
  split
  ·split
   ·simp
   ·simp only [List.length_append, List.length_cons, List.length_nil]; omega
  ·simp only [List.length_append, List.length_cons, List.length_nil]; omega
 have hm : (midB u).length ≤ u.usr.length + u.pwd.length + u.hst.length + 25 := by
  unfold midB UrlP.midL
  have e1 : (strOf u.hst).data.toList = u.hst := rfl
  rw [e1]
  split
  ·simp only [List.length_append, List.length_cons, List.length_nil]; omega
  ·split
   ·simp only [List.length_cons, List.length_nil]; omega
   ·simp
 have hpl : (UrlP.pathL u.opq (strOf u.txt) u.pth).length ≤ u.txt.length + PrsV.pl u.pth := by
  unfold UrlP.pathL PrsV.pl
  have e1 : (strOf u.txt).data.toList = u.txt := rfl
  rw [e1]
  split <;> omega
 have hq : (if u.hq = true then (63 : UInt8) :: u.qry else []).length ≤ u.qry.length + 1 := by split <;> simp
 have hf : (if u.hf = true then (35 : UInt8) :: u.frg else []).length ≤ u.frg.length + 1 := by split <;> simp
 rw [printU_eq, bareU_eq]
 simp only [List.length_append, List.length_cons, List.length_nil]
 omega
end Go.Proofs.YtaooiggckcfanaaGreatDoor.Ulw
namespace Go.Proofs.YtaooiggckcfanaaGreatDoor.PrsW
open Go.RowKit Base Base2 UtfL UrlA UrlC UrlF HstC PrsP Ubx PrsC PrsD SixG Spl PrsG PrsR PrsS PrsV PrsY Ulw
def T1 : List UInt8 := [102, 105, 108, 101, 58, 47, 47, 47, 68, 58, 47, 121]
def T2 : List UInt8 := [67, 124, 47, 120]
def demoB : Option U := PrsP.url T1 none
def demoU : Option U := demoB.bind fun b => PrsP.url T2 (some b)
theorem demo1 : demoU.map printU = some [102, 105, 108, 101, 58, 47, 47, 47, 67, 58, 47, 120] := by decide +kernel
theorem demo2 : ∃ b u, PrsP.url T1 none = some b ∧ PrsP.url T2 (some b) = some u ∧ printU u = [102, 105, 108, 101, 58, 47, 47, 47, 67, 58, 47, 120] := by
 have h := demo1
 unfold demoU demoB at h
 cases e1 : PrsP.url T1 none with
 | none => rw [e1] at h; cases h
 | some b =>
  rw [e1] at h
  have h' : (PrsP.url T2 (some b)).map printU = some [102, 105, 108, 101, 58, 47, 47, 47, 67, 58, 47, 120] := h
  cases e2 : PrsP.url T2 (some b) with
  | none => rw [e2] at h'; cases h'
  | some u =>
   rw [e2] at h'
   exact ⟨b, u, rfl, e2, by simpa using h'⟩
set_option maxRecDepth 100000 in
set_option maxHeartbeats 8000000 in
theorem awake_any (w : World) (hE : Env w) : Calls Tryz.prog 15 #[] w fun e w' => e = .returned (.bool true) ∧ Below w.heap.size w w' := by
 obtain ⟨b, u, h1, h2, h3⟩ := demo2
 have f1 := url_fit (M := 0) h1 (fun _ e => by cases e)
 have f2 := url_fit (M := 0 + 15 * T1.length + 300) h2 (fun _ e => by cases e; exact f1)
 have HF1 := hid f1
 have HP1 : Hid (∀ w, Env w → Calls Tryz.prog 16 #[.string ⟨#[102, 105, 108, 101, 58, 47, 47, 47, 68, 58, 47, 121]⟩, .pointer none] w fun e w' => ∃ A' n' c', e = .returned (.tuple #[.agg #[.string (strOf b.sch), .string (strOf b.usr), .string (strOf b.pwd), .string (strOf b.hst), .bool b.hh, .int .i64 b.port, .bool b.opq, .string (strOf b.txt), .slice A' n' c', .bool b.hq, .bool b.hf, .string (strOf b.qry), .string (strOf b.frg)], .int .i64 0]) ∧ Pt w' b A' n' c' ∧ Below w.heap.size w w') := fun w E => parse_some (T := ⟨#[102, 105, 108, 101, 58, 47, 47, 47, 68, 58, 47, 121]⟩) h1 (by decide) w E
 have HP2 : Hid (∀ (gb : Nat) (A : Option Addr) (n c : Nat), n ≤ 100000 → ∀ w, UB w gb b (.slice A n c) → Pt w b A n c → Env w → Calls Tryz.prog 16 #[.string ⟨#[67, 124, 47, 120]⟩, .pointer (some ⟨gb, 0, none⟩)] w fun e w' => ∃ A' n' c', e = .returned (.tuple #[.agg #[.string (strOf u.sch), .string (strOf u.usr), .string (strOf u.pwd), .string (strOf u.hst), .bool u.hh, .int .i64 u.port, .bool u.opq, .string (strOf u.txt), .slice A' n' c', .bool u.hq, .bool u.hf, .string (strOf u.qry), .string (strOf u.frg)], .int .i64 0]) ∧ Pt w' u A' n' c' ∧ Below w.heap.size w w') := fun gb A n c hn w hB hP E => parseB_some (T := ⟨#[67, 124, 47, 120]⟩) h2 (by decide) gb A n c hn w hB hP E
 have HPR : Hid (∀ (A : Option Addr) (n c : Nat) (w : World), Pt w u A n c → Env w → Calls Tryz.prog 22 #[.agg #[.string (strOf u.sch), .string (strOf u.usr), .string (strOf u.pwd), .string (strOf u.hst), .bool u.hh, .int .i64 u.port, .bool u.opq, .string (strOf u.txt), .slice A n c, .bool u.hq, .bool u.hf, .string (strOf u.qry), .string (strOf u.frg)]] w fun e w' => e = .returned (.string (strOf [102, 105, 108, 101, 58, 47, 47, 47, 67, 58, 47, 120])) ∧ Below w.heap.size w w') := fun A n c w hP E => by
  have h := print_u f2 (by decide) A n c w hP E
  rw [h3] at h
  exact h
 have q1 : (strOf [102, 105, 108, 101, 58, 47, 47, 47, 67, 58, 47, 120]).toList = [102, 105, 108, 101, 58, 47, 47, 47, 67, 58, 47, 120] := str_tl _
 have HE := hid hE
 clear h1 h2 h3 f1 f2 hE
 go_enter Tryz.func15, Tryz.ntmps15
 go_wp2_with fail
 refine (HP1.out _ HE.out).mono ?_
 rintro e w1 ⟨A1, n1, c1, rfl, hpt, hb⟩
 have HB1 := hid hb
 have E_1 := hid (HE.out.below hb)
 clear hb
 have T1 := hid (hpt)
 clear hpt
 go_upto_region 2 with (fail)
 generalize hwa : World.alloc _ _ = v2
 have hxa : UB v2 (w1.heap.size) b (.slice A1 n1 c1) := by rw [← hwa]; exact heap_alloc_new _ _
 have hb : Below w1.heap.size w1 v2 := by rw [← hwa]; exact (Below.refl _ _).alloc (Nat.le_refl _) _
 have X1 := hid hxa
 clear hwa hxa
 have HB2 := hid (bel HB1.out hb)
 have E_2 := hid (E_1.out.below hb)
 have T1_2 := hid (T1.out.below hb)
 clear hb
 go_wp2_with fail
 refine (HP2.out _ _ _ _ (T1_2.out.len HF1.out |> fun h => Nat.le_trans h (by decide)) _ X1.out T1_2.out E_2.out).mono ?_
 rintro e w3 ⟨A2, n2, c2, rfl, hpt, hb⟩
 have HB3 := hid (bel HB2.out hb)
 have E_3 := hid (E_2.out.below hb)
 have T1_3 := hid (T1_2.out.below hb)
 have X1_3 := hid (X1.out.below hb)
 clear hb
 have T2 := hid (hpt)
 clear hpt
 go_upto_region 3 with (fail)
 generalize hwa : World.alloc _ _ = v4
 have hxa : UB v4 (w3.heap.size) u (.slice A2 n2 c2) := by rw [← hwa]; exact heap_alloc_new _ _
 have hb : Below w3.heap.size w3 v4 := by rw [← hwa]; exact (Below.refl _ _).alloc (Nat.le_refl _) _
 have X2 := hid hxa
 clear hwa hxa
 have HB4 := hid (bel HB3.out hb)
 have E_4 := hid (E_3.out.below hb)
 have T1_4 := hid (T1_3.out.below hb)
 have X1_4 := hid (X1_3.out.below hb)
 have T2_4 := hid (T2.out.below hb)
 clear hb
 obtain ⟨ka0, ka1, ka2, ka3, ka4, ka5, ka6, ka7, ka8, ka9, ka10, ka11, ka12⟩ := X2.out.facts
 go_wp2_with fail
 clear ka0 ka1 ka2 ka3 ka4 ka5 ka6 ka7 ka8 ka9 ka10 ka11 ka12
 refine (HPR.out _ _ _ _ T2_4.out E_4.out).mono ?_
 rintro e w5 ⟨rfl, hb⟩
 have HB5 := hid (bel HB4.out hb)
 have E_5 := hid (E_4.out.below hb)
 have T1_5 := hid (T1_4.out.below hb)
 have X1_5 := hid (X1_4.out.below hb)
 have T2_5 := hid (T2_4.out.below hb)
 have X2_5 := hid (X2.out.below hb)
 clear hb
 go_wp2
 go_ret
 exact ⟨rfl, HB5.out⟩
end Go.Proofs.YtaooiggckcfanaaGreatDoor.PrsW
