/- Origins of URLs: Of, Print at one; awake. -/
import Derived.Test.YtaooiggckcfanaaGreatDoorOrgA
import Derived.Test.YtaooiggckcfanaaGreatDoorMS
import Derived.Test.YtaooiggckcfanaaGreatDoorMP
namespace Go.Proofs.YtaooiggckcfanaaGreatDoor.OrgW
open Go.RowKit Go.Proofs.YtaooiggckcfanaaGreatDoor.Base Go.Proofs.YtaooiggckcfanaaGreatDoor.Base2 Go.Proofs.YtaooiggckcfanaaGreatDoor.UtfL Go.Proofs.YtaooiggckcfanaaGreatDoor.UrlA Go.Proofs.YtaooiggckcfanaaGreatDoor.UrlC Go.Proofs.YtaooiggckcfanaaGreatDoor.UrlF Go.Proofs.YtaooiggckcfanaaGreatDoor.HstC Go.Proofs.YtaooiggckcfanaaGreatDoor.PrsP Go.Proofs.YtaooiggckcfanaaGreatDoor.Ubx Go.Proofs.YtaooiggckcfanaaGreatDoor.PrsC Go.Proofs.YtaooiggckcfanaaGreatDoor.PrsD Go.Proofs.YtaooiggckcfanaaGreatDoor.SixG Go.Proofs.YtaooiggckcfanaaGreatDoor.Spl Go.Proofs.YtaooiggckcfanaaGreatDoor.PrsG Go.Proofs.YtaooiggckcfanaaGreatDoor.PrsR Go.Proofs.YtaooiggckcfanaaGreatDoor.PrsS Go.Proofs.YtaooiggckcfanaaGreatDoor.PrsV Go.Proofs.YtaooiggckcfanaaGreatDoor.PrsY Go.Proofs.YtaooiggckcfanaaGreatDoor.Ulw Go.Proofs.YtaooiggckcfanaaGreatDoor.OrgA Go.Proofs.YtaooiggckcfanaaGreatDoor.Regs
set_option linter.unusedSimpArgs false
set_option linter.unusedVariables false
theorem OB.load {w : World} {g : Nat} {s h : ByteArray} {p n : Int} (x : OB w g s h p n) : (loadVar 43 ⟨g, 0, none⟩).run Tryz.prog w = .ok (.agg #[.string s, .string h, .int .i64 p, .int .i64 n]) w :=
  run_loadVar_row w g _ _ #[.string s, .string h, .int .i64 p, .int .i64 n] (0, 0) _ x Tryz.underlying43 rfl (by kernel_rfl)
theorem res2o {w : World} {g : Nat} {s h : ByteArray} {p n : Int} {fn : Func} {a b : Tmp} (hr : fn.results = #[.cell a 43, .tmp b]) (hU : OB w g s h p n) (ok : Bool) (tmps : Array Value) (h2 : tmps.getD a undef = .pointer (some ⟨g, 0, none⟩)) (h3 : tmps.getD b undef = .bool ok) :
    (results fn tmps).run Tryz.prog w = .ok (.tuple #[.agg #[.string s, .string h, .int .i64 p, .int .i64 n], .bool ok]) w := by
  have hp' : tmps[a]?.getD undef = .pointer (some ⟨g, 0, none⟩) := by simpa using h2
  have hq' : tmps[b]?.getD undef = .bool ok := by simpa using h3
  simp [results, hr, hp', hq', asAddr, OB.load hU]
theorem OB.row {w : World} {g : Nat} {s h : ByteArray} {p n : Int} (x : OB w g s h p n) (s' h' : ByteArray) (p' n' : Int) : OB (w.setRow g #[.string s', .string h', .int .i64 p', .int .i64 n']) g s' h' p' n' := setRow_heap w g _ _ _ (0, 0) x
theorem store_ob {w : World} {g : Nat} {s h : ByteArray} {p n : Int} {ops : Array Oper} {rest : List Oper} {o : Oper} {a : Act} {Q : Exit → Act → World → Prop} (hU : OB w g s h p n) (s' h' : ByteArray) (p' n' : Int) (x y : Operand) (ho : o.op = .store 43 x y) (hgd : o.guard = none)
    (hx : a.eval x = .pointer (some ⟨g, 0, none⟩)) (hy : a.eval y = .agg #[.string s', .string h', .int .i64 p', .int .i64 n'])
    (hh : wpList Tryz.prog ops Q rest (a.put o.dst undef) (w.setRow g #[.string s', .string h', .int .i64 p', .int .i64 n'])) : wpList Tryz.prog ops Q (o :: rest) a w :=
  wpList_store_row hgd 43 x y ho g #[.string s', .string h', .int .i64 p', .int .i64 n'] hx hy 43 #[.string s, .string h, .int .i64 p, .int .i64 n] hU (by kernel_rfl) rfl (by simp [Value.oneCell']) hh
set_option linter.unusedSimpArgs false in
set_option maxRecDepth 100000 in
set_option maxHeartbeats 8000000 in
theorem of_tuple (u : U) (A : Option Addr) (n c : Nat) (w : World) (hs : u.sch = [104, 116, 116, 112] ∨ u.sch = [104, 116, 116, 112, 115]) : Calls Tryz.prog 57 #[.agg #[.string (strOf u.sch), .string (strOf u.usr), .string (strOf u.pwd), .string (strOf u.hst), .bool u.hh, .int .i64 u.port, .bool u.opq, .string (strOf u.txt), .slice A n c, .bool u.hq, .bool u.hf, .string (strOf u.qry), .string (strOf u.frg)]] w fun e w' => e = .returned (.tuple #[.agg #[.string (strOf u.sch), .string (strOf u.hst), .int .i64 u.port, .int .i64 0], .bool true]) ∧ Below w.heap.size w w' := by
  rcases hs with hs | hs
  ·
    have nftp : ¬ u.sch = [102, 116, 112] := by rw [hs]; decide
    have e0nftp : ((strOf u.sch).toList == [102, 116, 112]) = false := by rw [str_tl, beq_eq_false_iff_ne]; exact nftp
    have e1nftp : ¬ (strOf u.sch).toList = [102, 116, 112] := by rw [str_tl]; exact nftp
    have e0hs : ((strOf u.sch).toList == [104, 116, 116, 112]) = true := by rw [str_tl, hs]; first | done | rfl
    have e1hs : (strOf u.sch).toList = [104, 116, 116, 112] := by rw [str_tl, hs]; first | done | rfl
    have HS := hid hs
    clear hs nftp
    go_enter Tryz.func57, Tryz.ntmps57
    go_upto_region 1 with (fail)
    generalize hwa : World.alloc (World.alloc w _) _ = v1
    have h1_ : UB v1 w.heap.size u (.slice A n c) ∧ OB v1 (w.heap.size + 1) ⟨#[]⟩ ⟨#[]⟩ 0 0 ∧ Below w.heap.size w v1 := by
      subst hwa
      exact laid2 w _ _ _ _
    clear hwa
    have X1 := hid h1_.1
    have X2 := hid h1_.2.1
    have hb := h1_.2.2
    clear h1_
    have HB1 := hid hb
    clear hb
    obtain ⟨d0, d1, d2, d3, d4, d5, d6, d7, d8, d9, d10, d11, d12⟩ := X1.out.facts
    go_wp2_with (refine store_ob X2.out (strOf u.sch) (strOf u.hst) u.port 0 (.tmp 2) (.tmp 20) rfl rfl rfl (by first | rfl | (simp [*]; done)) ?_)
    try simp only [Exit.inBlock, Exit.then]
    exact bodyPost_ret (w := World.setRow v1 (w.heap.size + 1) #[.string (strOf u.sch), .string (strOf u.hst), .int .i64 u.port, .int .i64 0]) (res2o rfl (OB.row X2.out _ _ _ _) true _ rfl rfl) rfl ⟨rfl, below_setRow HB1.out (Nat.le_succ _) _⟩
  ·
    have nftp : ¬ u.sch = [102, 116, 112] := by rw [hs]; decide
    have e0nftp : ((strOf u.sch).toList == [102, 116, 112]) = false := by rw [str_tl, beq_eq_false_iff_ne]; exact nftp
    have e1nftp : ¬ (strOf u.sch).toList = [102, 116, 112] := by rw [str_tl]; exact nftp
    have nhttp : ¬ u.sch = [104, 116, 116, 112] := by rw [hs]; decide
    have e0nhttp : ((strOf u.sch).toList == [104, 116, 116, 112]) = false := by rw [str_tl, beq_eq_false_iff_ne]; exact nhttp
    have e1nhttp : ¬ (strOf u.sch).toList = [104, 116, 116, 112] := by rw [str_tl]; exact nhttp
    have e0hs : ((strOf u.sch).toList == [104, 116, 116, 112, 115]) = true := by rw [str_tl, hs]; first | done | rfl
    have e1hs : (strOf u.sch).toList = [104, 116, 116, 112, 115] := by rw [str_tl, hs]; first | done | rfl
    have HS := hid hs
    clear hs nftp nhttp
    go_enter Tryz.func57, Tryz.ntmps57
    go_upto_region 1 with (fail)
    generalize hwa : World.alloc (World.alloc w _) _ = v1
    have h1_ : UB v1 w.heap.size u (.slice A n c) ∧ OB v1 (w.heap.size + 1) ⟨#[]⟩ ⟨#[]⟩ 0 0 ∧ Below w.heap.size w v1 := by
      subst hwa
      exact laid2 w _ _ _ _
    clear hwa
    have X1 := hid h1_.1
    have X2 := hid h1_.2.1
    have hb := h1_.2.2
    clear h1_
    have HB1 := hid hb
    clear hb
    obtain ⟨d0, d1, d2, d3, d4, d5, d6, d7, d8, d9, d10, d11, d12⟩ := X1.out.facts
    go_wp2_with (refine store_ob X2.out (strOf u.sch) (strOf u.hst) u.port 0 (.tmp 2) (.tmp 20) rfl rfl rfl (by first | rfl | (simp [*]; done)) ?_)
    try simp only [Exit.inBlock, Exit.then]
    exact bodyPost_ret (w := World.setRow v1 (w.heap.size + 1) #[.string (strOf u.sch), .string (strOf u.hst), .int .i64 u.port, .int .i64 0]) (res2o rfl (OB.row X2.out _ _ _ _) true _ rfl rfl) rfl ⟨rfl, below_setRow HB1.out (Nat.le_succ _) _⟩
set_option linter.unusedSimpArgs false in
set_option maxRecDepth 100000 in
set_option maxHeartbeats 8000000 in
theorem of_blob (u v : U) (T : ByteArray) (A : Option Addr) (n c : Nat) (w : World) (hs : u.sch = [98, 108, 111, 98]) (HPA : Hid (∀ w : World, Pt w u A n c → Calls Tryz.prog 55 #[.agg #[.string (strOf u.sch), .string (strOf u.usr), .string (strOf u.pwd), .string (strOf u.hst), .bool u.hh, .int .i64 u.port, .bool u.opq, .string (strOf u.txt), .slice A n c, .bool u.hq, .bool u.hf, .string (strOf u.qry), .string (strOf u.frg)]] w fun e w' => e = .returned (.string T) ∧ Below w.heap.size w w')) (HP : Hid (∀ w, Env w → Calls Tryz.prog 16 #[.string T, .pointer none] w fun e w' => ∃ A' n' c', e = .returned (.tuple #[.agg #[.string (strOf v.sch), .string (strOf v.usr), .string (strOf v.pwd), .string (strOf v.hst), .bool v.hh, .int .i64 v.port, .bool v.opq, .string (strOf v.txt), .slice A' n' c', .bool v.hq, .bool v.hf, .string (strOf v.qry), .string (strOf v.frg)], .int .i64 0]) ∧ Pt w' v A' n' c' ∧ Below w.heap.size w w')) (hv : v.sch = [104, 116, 116, 112, 115]) (hE : Env w) (hP : Pt w u A n c) : Calls Tryz.prog 57 #[.agg #[.string (strOf u.sch), .string (strOf u.usr), .string (strOf u.pwd), .string (strOf u.hst), .bool u.hh, .int .i64 u.port, .bool u.opq, .string (strOf u.txt), .slice A n c, .bool u.hq, .bool u.hf, .string (strOf u.qry), .string (strOf u.frg)]] w fun e w' => e = .returned (.tuple #[.agg #[.string (strOf v.sch), .string (strOf v.hst), .int .i64 v.port, .int .i64 0], .bool true]) ∧ Below w.heap.size w w' := by
  have nftp : ¬ u.sch = [102, 116, 112] := by rw [hs]; decide
  have e0nftp : ((strOf u.sch).toList == [102, 116, 112]) = false := by rw [str_tl, beq_eq_false_iff_ne]; exact nftp
  have e1nftp : ¬ (strOf u.sch).toList = [102, 116, 112] := by rw [str_tl]; exact nftp
  have nhttp : ¬ u.sch = [104, 116, 116, 112] := by rw [hs]; decide
  have e0nhttp : ((strOf u.sch).toList == [104, 116, 116, 112]) = false := by rw [str_tl, beq_eq_false_iff_ne]; exact nhttp
  have e1nhttp : ¬ (strOf u.sch).toList = [104, 116, 116, 112] := by rw [str_tl]; exact nhttp
  have nhttps : ¬ u.sch = [104, 116, 116, 112, 115] := by rw [hs]; decide
  have e0nhttps : ((strOf u.sch).toList == [104, 116, 116, 112, 115]) = false := by rw [str_tl, beq_eq_false_iff_ne]; exact nhttps
  have e1nhttps : ¬ (strOf u.sch).toList = [104, 116, 116, 112, 115] := by rw [str_tl]; exact nhttps
  have nws : ¬ u.sch = [119, 115] := by rw [hs]; decide
  have e0nws : ((strOf u.sch).toList == [119, 115]) = false := by rw [str_tl, beq_eq_false_iff_ne]; exact nws
  have e1nws : ¬ (strOf u.sch).toList = [119, 115] := by rw [str_tl]; exact nws
  have nwss : ¬ u.sch = [119, 115, 115] := by rw [hs]; decide
  have e0nwss : ((strOf u.sch).toList == [119, 115, 115]) = false := by rw [str_tl, beq_eq_false_iff_ne]; exact nwss
  have e1nwss : ¬ (strOf u.sch).toList = [119, 115, 115] := by rw [str_tl]; exact nwss
  have e0hs : ((strOf u.sch).toList == [98, 108, 111, 98]) = true := by rw [str_tl, hs]; first | done | rfl
  have e1hs : (strOf u.sch).toList = [98, 108, 111, 98] := by rw [str_tl, hs]; first | done | rfl
  have nh : ¬ v.sch = [104, 116, 116, 112] := by rw [hv]; decide
  have e0nh : ((strOf v.sch).toList == [104, 116, 116, 112]) = false := by rw [str_tl, beq_eq_false_iff_ne]; exact nh
  have e1nh : ¬ (strOf v.sch).toList = [104, 116, 116, 112] := by rw [str_tl]; exact nh
  have e0hv : ((strOf v.sch).toList == [104, 116, 116, 112, 115]) = true := by rw [str_tl, hv]; first | done | rfl
  have e1hv : (strOf v.sch).toList = [104, 116, 116, 112, 115] := by rw [str_tl, hv]; first | done | rfl
  have HOT : Hid (∀ (A : Option Addr) (n c : Nat) (w : World), Calls Tryz.prog 57 #[.agg #[.string (strOf v.sch), .string (strOf v.usr), .string (strOf v.pwd), .string (strOf v.hst), .bool v.hh, .int .i64 v.port, .bool v.opq, .string (strOf v.txt), .slice A n c, .bool v.hq, .bool v.hf, .string (strOf v.qry), .string (strOf v.frg)]] w fun e w' => e = .returned (.tuple #[.agg #[.string (strOf v.sch), .string (strOf v.hst), .int .i64 v.port, .int .i64 0], .bool true]) ∧ Below w.heap.size w w') := fun A n c w => of_tuple v A n c w (.inr hv)
  have HE := hid hE
  have HPT := hid hP
  clear hs hv nh hE hP nftp nhttp nhttps nws nwss
  go_enter Tryz.func57, Tryz.ntmps57
  go_upto_region 1 with (fail)
  generalize hwa : World.alloc (World.alloc w _) _ = v1
  have h1_ : UB v1 w.heap.size u (.slice A n c) ∧ OB v1 (w.heap.size + 1) ⟨#[]⟩ ⟨#[]⟩ 0 0 ∧ Below w.heap.size w v1 := by
    subst hwa
    exact laid2 w _ _ _ _
  clear hwa
  have X1 := hid h1_.1
  have X2 := hid h1_.2.1
  have hb := h1_.2.2
  clear h1_
  have HB1 := hid hb
  clear hb
  have HE_1 := hid (HE.out.below HB1.out)
  have HT_1 := hid (HPT.out.below HB1.out)
  obtain ⟨d0, d1, d2, d3, d4, d5, d6, d7, d8, d9, d10, d11, d12⟩ := X1.out.facts
  go_wp2_with fail
  clear d0 d1 d2 d3 d4 d5 d6 d7 d8 d9 d10 d11 d12
  refine (HPA.out _ HT_1.out).mono ?_
  rintro e w2 ⟨rfl, hb⟩
  have HB2 := hid (bel HB1.out hb)
  have X1_2 := hid (X1.out.below hb)
  have X2_2 := hid (X2.out.below hb)
  have E_2 := hid (HE_1.out.below hb)
  have T1_2 := hid (HT_1.out.below hb)
  clear hb
  go_wp2_with fail
  refine (HP.out _ E_2.out).mono ?_
  rintro e w3 ⟨A2, n2, c2, rfl, hpt, hb⟩
  have HB3 := hid (bel HB2.out hb)
  have X1_3 := hid (X1_2.out.below hb)
  have X2_3 := hid (X2_2.out.below hb)
  have E_3 := hid (E_2.out.below hb)
  have T1_3 := hid (T1_2.out.below hb)
  clear hb
  clear hpt
  go_upto_region 10 with (fail)
  generalize hwa : World.alloc _ _ = v4
  have hxa : UB v4 (w3.heap.size) v (.slice A2 n2 c2) := by rw [← hwa]; exact heap_alloc_new _ _
  have hb : Below w3.heap.size w3 v4 := by rw [← hwa]; exact (Below.refl _ _).alloc (Nat.le_refl _) _
  have X3 := hid hxa
  clear hwa hxa
  have HB4 := hid (bel HB3.out hb)
  have X1_4 := hid (X1_3.out.below hb)
  have X2_4 := hid (X2_3.out.below hb)
  have E_4 := hid (E_3.out.below hb)
  have T1_4 := hid (T1_3.out.below hb)
  clear hb
  obtain ⟨d0, d1, d2, d3, d4, d5, d6, d7, d8, d9, d10, d11, d12⟩ := X3.out.facts
  go_wp2_with fail
  clear d0 d1 d2 d3 d4 d5 d6 d7 d8 d9 d10 d11 d12
  refine (HOT.out _ _ _ _).mono ?_
  rintro e w5 ⟨rfl, hb⟩
  have HB5 := hid (bel HB4.out hb)
  have X1_5 := hid (X1_4.out.below hb)
  have X2_5 := hid (X2_4.out.below hb)
  have E_5 := hid (E_4.out.below hb)
  have T1_5 := hid (T1_4.out.below hb)
  have X3_5 := hid (X3.out.below hb)
  clear hb
  go_wp2_with (refine store_ob X2_5.out (strOf v.sch) (strOf v.hst) v.port 0 (.tmp 2) (.tmp 43) rfl rfl rfl rfl ?_)
  try simp only [Exit.inBlock, Exit.then]
  exact bodyPost_ret (w := World.setRow w5 (w.heap.size + 1) #[.string (strOf v.sch), .string (strOf v.hst), .int .i64 v.port, .int .i64 0]) (res2o rfl (OB.row X2_5.out _ _ _ _) true _ rfl rfl) rfl ⟨rfl, below_setRow HB5.out (Nat.le_succ _) _⟩
set_option linter.unusedSimpArgs false in
set_option maxRecDepth 100000 in
set_option maxHeartbeats 8000000 in
theorem print_o (s h : List UInt8) (p n : Int) (w : World) (hs : s ≠ []) (hsl : s.length ≤ 1000) (hhl : h.length ≤ 100000) (h0 : 0 ≤ p) (h1 : p ≤ 65535) (hT : Tab.Pow w) : Calls Tryz.prog 58 #[.agg #[.string (strOf s), .string (strOf h), .int .i64 p, .int .i64 n]] w fun e w' => e = .returned (.string (strOf (s ++ [58, 47, 47] ++ h ++ [58] ++ Lib.itoa p))) ∧ Below w.heap.size w w' := by
  have hil := UrlC.itoa_len p (by omega) (by omega)
  have HTU : Hid (∀ w : World, Calls Tryz.prog 59 #[.agg #[.string (strOf s), .string (strOf h), .int .i64 p, .int .i64 n]] w fun e w' => e = .returned (.bool true) ∧ Below w.heap.size w w') := fun w => by
    have hh := tuple_any (strOf s) (strOf h) p n w
    rw [show decide ((strOf s).data.toList ≠ []) = true from decide_eq_true hs] at hh
    exact hh
  obtain ⟨I, hI⟩ : ∃ I, I = Lib.itoa p := ⟨_, rfl⟩
  have HIT : Hid (∀ w : World, Tab.Pow w → Calls Tryz.prog 54 #[.int .i64 p] w fun e w' => e = .returned (.string (strOf I)) ∧ Below w.heap.size w w') := fun w hT => by rw [hI]; exact UrlC.itoa_int p (by omega) (by omega) w hT
  rw [← hI]
  rw [← hI] at hil
  obtain ⟨M1, hM1⟩ : ∃ M, M = s ++ [58, 47, 47] := ⟨_, rfl⟩
  obtain ⟨M2, hM2⟩ : ∃ M, M = M1 ++ h := ⟨_, rfl⟩
  obtain ⟨M3, hM3⟩ : ∃ M, M = M2 ++ [58] := ⟨_, rfl⟩
  obtain ⟨M4, hM4⟩ : ∃ M, M = M3 ++ I := ⟨_, rfl⟩
  have hfin : s ++ [58, 47, 47] ++ h ++ [58] ++ I = M4 := by rw [hM4, hM3, hM2, hM1]
  rw [hfin]
  have l1 : M1.length ≤ 1003 := by rw [hM1, List.length_append]; simp only [List.length_cons, List.length_nil]; omega
  have l2 : M2.length ≤ 101003 := by rw [hM2, List.length_append]; omega
  have l3 : M3.length ≤ 101004 := by rw [hM3, List.length_append]; simp only [List.length_cons, List.length_nil]; omega
  have x1 : ∀ w, (Op.stringOp .add (strOf s) ⟨#[58, 47, 47]⟩).run Tryz.prog w = .ok (.string (strOf M1)) w := fun w => by rw [hM1]; exact str_add' _ ⟨#[58, 47, 47]⟩ w (by rw [size_strOf]; show _ + 3 ≤ _; omega)
  have x2 : ∀ w, (Op.stringOp .add (strOf M1) (strOf h)).run Tryz.prog w = .ok (.string (strOf M2)) w := fun w => by rw [hM2]; exact str_add' _ (strOf h) w (by rw [size_strOf, size_strOf]; omega)
  have x3 : ∀ w, (Op.stringOp .add (strOf M2) ⟨#[58]⟩).run Tryz.prog w = .ok (.string (strOf M3)) w := fun w => by rw [hM3]; exact str_add' _ ⟨#[58]⟩ w (by rw [size_strOf]; show _ + 1 ≤ _; omega)
  have x4 : ∀ w, (Op.stringOp .add (strOf M3) (strOf I)).run Tryz.prog w = .ok (.string (strOf M4)) w := fun w => by rw [hM4]; exact str_add' _ (strOf I) w (by rw [size_strOf, size_strOf]; omega)
  have HT := hid hT
  have hp1 : (p == -1) = false := beq_eq_false_iff_ne.2 (by omega)
  have hp2 : ¬ p = -1 := by omega
  clear hfin hM1 hM2 hM3 hM4 hI l1 l2 l3 hil hs hsl hhl h0 h1 hT
  go_enter Tryz.func58, Tryz.ntmps58
  go_upto_region 1 with (fail)
  generalize hwa : World.alloc _ _ = v1
  have hxa : OB v1 (w.heap.size) (strOf s) (strOf h) p n := by rw [← hwa]; exact heap_alloc_new _ _
  have hb : Below w.heap.size w v1 := by rw [← hwa]; exact (Below.refl _ _).alloc (Nat.le_refl _) _
  have X1 := hid hxa
  clear hwa hxa
  have HB1 := hid hb
  clear hb
  obtain ⟨o0, o1, o2, o3⟩ := X1.out.facts
  go_wp2_with fail
  clear o0 o1 o2 o3
  refine (HTU.out _).mono ?_
  rintro e w2 ⟨rfl, hb⟩
  have HB2 := hid (bel HB1.out hb)
  have X1_2 := hid (X1.out.below hb)
  clear hb
  obtain ⟨o0, o1, o2, o3⟩ := X1_2.out.facts
  go_upto_region 5 with (fail)
  clear o0 o1 o2 o3
  refine wp_region_rel (by kernel_rfl) [is (.pointer (some ⟨w.heap.size, 0, none⟩)), is (.string (strOf s)), is (.string (strOf M1)), is (.pointer (some ⟨w.heap.size, 1, none⟩)), is (.string (strOf h)), is (.string (strOf M2)), is (.string (strOf M3)), is (.pointer (some ⟨w.heap.size, 2, none⟩)), is (.int .i64 p), is (.string (strOf I)), is (.string (strOf M4)), is (.string (strOf M4))] [[], [0], [1], [], [3], [2, 4], [5], [], [7], [8], [6, 9], [10]] (by kernel_rfl) ?_ ?_
  · refine ⟨?_, ?_, ?_, ?_, ?_, ?_, ?_, ?_, ?_, ?_, ?_, ?_, trivial⟩
    · intro t wq hbq hh K hK
      clear hh
      simp only [filled, upd, Have, is, any, row, pick, Act.put, List.setIfInBounds_toArray, List.set_cons_zero, List.set_cons_succ, Nat.reduceAdd, Nat.reduceEqDiff, reduceIte] at hK ⊢
      go_simp
      exact hK _ _ (Below.refl _ _) rfl
    · intro t wq hbq hh K hK
      have e0 := hh.1
      simp only [pick] at e0
      replace e0 : t 0 = (.pointer (some ⟨w.heap.size, 0, none⟩)) := e0
      clear hh
      simp only [filled, upd, Have, is, any, row, pick, Act.put, List.setIfInBounds_toArray, List.set_cons_zero, List.set_cons_succ, Nat.reduceAdd, Nat.reduceEqDiff, reduceIte] at hK ⊢
      simp only [e0] at hK ⊢
      obtain ⟨o0, o1, o2, o3⟩ := (X1_2.out.below hbq).facts
      go_simp
      exact hK _ _ (Below.refl _ _) rfl
    · intro t wq hbq hh K hK
      have e1 := hh.1
      simp only [pick] at e1
      replace e1 : t 1 = (.string (strOf s)) := e1
      clear hh
      simp only [filled, upd, Have, is, any, row, pick, Act.put, List.setIfInBounds_toArray, List.set_cons_zero, List.set_cons_succ, Nat.reduceAdd, Nat.reduceEqDiff, reduceIte] at hK ⊢
      simp only [e1] at hK ⊢
      have hadd := x1 wq
      go_simp
      exact hK _ _ (Below.refl _ _) rfl
    · intro t wq hbq hh K hK
      clear hh
      simp only [filled, upd, Have, is, any, row, pick, Act.put, List.setIfInBounds_toArray, List.set_cons_zero, List.set_cons_succ, Nat.reduceAdd, Nat.reduceEqDiff, reduceIte] at hK ⊢
      go_simp
      exact hK _ _ (Below.refl _ _) rfl
    · intro t wq hbq hh K hK
      have e3 := hh.1
      simp only [pick] at e3
      replace e3 : t 3 = (.pointer (some ⟨w.heap.size, 1, none⟩)) := e3
      clear hh
      simp only [filled, upd, Have, is, any, row, pick, Act.put, List.setIfInBounds_toArray, List.set_cons_zero, List.set_cons_succ, Nat.reduceAdd, Nat.reduceEqDiff, reduceIte] at hK ⊢
      simp only [e3] at hK ⊢
      obtain ⟨o0, o1, o2, o3⟩ := (X1_2.out.below hbq).facts
      go_simp
      exact hK _ _ (Below.refl _ _) rfl
    · intro t wq hbq hh K hK
      have e2 := hh.1
      simp only [pick] at e2
      replace e2 : t 2 = (.string (strOf M1)) := e2
      have e4 := hh.2.1
      simp only [pick] at e4
      replace e4 : t 4 = (.string (strOf h)) := e4
      clear hh
      simp only [filled, upd, Have, is, any, row, pick, Act.put, List.setIfInBounds_toArray, List.set_cons_zero, List.set_cons_succ, Nat.reduceAdd, Nat.reduceEqDiff, reduceIte] at hK ⊢
      simp only [e2, e4] at hK ⊢
      have hadd := x2 wq
      go_simp
      exact hK _ _ (Below.refl _ _) rfl
    · intro t wq hbq hh K hK
      have e5 := hh.1
      simp only [pick] at e5
      replace e5 : t 5 = (.string (strOf M2)) := e5
      clear hh
      simp only [filled, upd, Have, is, any, row, pick, Act.put, List.setIfInBounds_toArray, List.set_cons_zero, List.set_cons_succ, Nat.reduceAdd, Nat.reduceEqDiff, reduceIte] at hK ⊢
      simp only [e5] at hK ⊢
      have hadd := x3 wq
      go_simp
      exact hK _ _ (Below.refl _ _) rfl
    · intro t wq hbq hh K hK
      clear hh
      simp only [filled, upd, Have, is, any, row, pick, Act.put, List.setIfInBounds_toArray, List.set_cons_zero, List.set_cons_succ, Nat.reduceAdd, Nat.reduceEqDiff, reduceIte] at hK ⊢
      go_simp
      exact hK _ _ (Below.refl _ _) rfl
    · intro t wq hbq hh K hK
      have e7 := hh.1
      simp only [pick] at e7
      replace e7 : t 7 = (.pointer (some ⟨w.heap.size, 2, none⟩)) := e7
      clear hh
      simp only [filled, upd, Have, is, any, row, pick, Act.put, List.setIfInBounds_toArray, List.set_cons_zero, List.set_cons_succ, Nat.reduceAdd, Nat.reduceEqDiff, reduceIte] at hK ⊢
      simp only [e7] at hK ⊢
      obtain ⟨o0, o1, o2, o3⟩ := (X1_2.out.below hbq).facts
      go_simp
      exact hK _ _ (Below.refl _ _) rfl
    · intro t wq hbq hh K hK
      have e8 := hh.1
      simp only [pick] at e8
      replace e8 : t 8 = (.int .i64 p) := e8
      clear hh
      simp only [filled, upd, Have, is, any, row, pick, Act.put, List.setIfInBounds_toArray, List.set_cons_zero, List.set_cons_succ, Nat.reduceAdd, Nat.reduceEqDiff, reduceIte] at hK ⊢
      simp only [e8] at hK ⊢
      go_simp
      refine (HIT.out _ (pow_below HT.out (bel HB2.out hbq))).mono ?_
      rintro e w5 ⟨rfl, hb5⟩
      exact hK _ _ hb5 rfl
    · intro t wq hbq hh K hK
      have e6 := hh.1
      simp only [pick] at e6
      replace e6 : t 6 = (.string (strOf M3)) := e6
      have e9 := hh.2.1
      simp only [pick] at e9
      replace e9 : t 9 = (.string (strOf I)) := e9
      clear hh
      simp only [filled, upd, Have, is, any, row, pick, Act.put, List.setIfInBounds_toArray, List.set_cons_zero, List.set_cons_succ, Nat.reduceAdd, Nat.reduceEqDiff, reduceIte] at hK ⊢
      simp only [e6, e9] at hK ⊢
      have hadd := x4 wq
      go_simp
      exact hK _ _ (Below.refl _ _) rfl
    · intro t wq hbq hh K hK
      have e10 := hh.1
      simp only [pick] at e10
      replace e10 : t 10 = (.string (strOf M4)) := e10
      clear hh
      simp only [filled, upd, Have, is, any, row, pick, Act.put, List.setIfInBounds_toArray, List.set_cons_zero, List.set_cons_succ, Nat.reduceAdd, Nat.reduceEqDiff, reduceIte] at hK ⊢
      simp only [e10] at hK ⊢
      go_simp
      exact hK _ _ (Below.refl _ _) rfl
  · intro t wq hbq hh
    have f11 := have_get hh 11 (by decide)
    simp only [pick] at f11
    replace f11 : t 11 = (.string (strOf M4)) := f11
    clear hh
    simp only [filled, upd, Have, is, any, row, pick, Act.put, List.setIfInBounds_toArray, List.set_cons_zero, List.set_cons_succ, Nat.reduceAdd, Nat.reduceEqDiff, reduceIte]
    simp only [f11]
    go_wp2
    go_ret
    exact ⟨rfl, bel HB2.out hbq⟩
def T13 : List UInt8 := [98, 108, 111, 98, 58, 104, 116, 116, 112, 115, 58, 47, 47, 97, 58, 56, 52, 52, 51, 47, 120]
def I13 : List UInt8 := [104, 116, 116, 112, 115, 58, 47, 47, 97, 58, 56, 52, 52, 51, 47, 120]
theorem demo13 : ((PrsP.url T13 none).map fun u => (u.sch, u.opq, u.txt)) = some ([98, 108, 111, 98], true, I13) ∧ ((PrsP.url I13 none).map fun v => (v.sch, v.hst, v.port)) = some ([104, 116, 116, 112, 115], [97], 8443) := by decide +kernel
theorem demo13b : ∃ u v, PrsP.url T13 none = some u ∧ u.sch = [98, 108, 111, 98] ∧ u.opq = true ∧ u.txt = I13 ∧ PrsP.url I13 none = some v ∧ v.sch = [104, 116, 116, 112, 115] ∧ v.hst = [97] ∧ v.port = 8443 := by
  obtain ⟨h1, h2⟩ := demo13
  obtain ⟨u, hu, e1⟩ := Option.map_eq_some_iff.1 h1
  obtain ⟨v, hv, e2⟩ := Option.map_eq_some_iff.1 h2
  simp only [Prod.mk.injEq] at e1 e2
  exact ⟨u, v, hu, e1.1, e1.2.1, e1.2.2, hv, e2.1, e2.2.1, e2.2.2⟩
theorem want13 : ([104, 116, 116, 112, 115] : List UInt8) ++ [58, 47, 47] ++ [97] ++ [58] ++ Lib.itoa 8443 = [104, 116, 116, 112, 115, 58, 47, 47, 97, 58, 56, 52, 52, 51] := by decide +kernel
set_option linter.unusedSimpArgs false in
set_option maxRecDepth 100000 in
set_option maxHeartbeats 8000000 in
theorem awake_any (w : World) (hE : Env w) : Calls Tryz.prog 26 #[] w fun e w' => e = .returned (.bool true) ∧ Below w.heap.size w w' := by
  obtain ⟨u, v, h1, h2, h3, h4, h5, h6, h7, h8⟩ := demo13b
  have HE := hid hE
  have f1 := url_fit (M := 0) h1 (fun _ e => by cases e)
  have HP1 : Hid (∀ w, Env w → Calls Tryz.prog 16 #[.string ⟨#[98, 108, 111, 98, 58, 104, 116, 116, 112, 115, 58, 47, 47, 97, 58, 56, 52, 52, 51, 47, 120]⟩, .pointer none] w fun e w' => ∃ A' n' c', e = .returned (.tuple #[.agg #[.string (strOf u.sch), .string (strOf u.usr), .string (strOf u.pwd), .string (strOf u.hst), .bool u.hh, .int .i64 u.port, .bool u.opq, .string (strOf u.txt), .slice A' n' c', .bool u.hq, .bool u.hf, .string (strOf u.qry), .string (strOf u.frg)], .int .i64 0]) ∧ Pt w' u A' n' c' ∧ Below w.heap.size w w') := fun w E => parse_some (T := ⟨#[98, 108, 111, 98, 58, 104, 116, 116, 112, 115, 58, 47, 47, 97, 58, 56, 52, 52, 51, 47, 120]⟩) h1 (by decide) w E
  have HOF : Hid (∀ (A : Option Addr) (n c : Nat) (w : World), Pt w u A n c → Env w → Calls Tryz.prog 57 #[.agg #[.string (strOf u.sch), .string (strOf u.usr), .string (strOf u.pwd), .string (strOf u.hst), .bool u.hh, .int .i64 u.port, .bool u.opq, .string (strOf u.txt), .slice A n c, .bool u.hq, .bool u.hf, .string (strOf u.qry), .string (strOf u.frg)]] w fun e w' => e = .returned (.tuple #[.agg #[.string (strOf [104, 116, 116, 112, 115]), .string (strOf [97]), .int .i64 8443, .int .i64 0], .bool true]) ∧ Below w.heap.size w w') := fun A n c w hP E => by
    have h := of_blob u v (strOf I13) A n c w h2 (fun w hP => by
      obtain ⟨k1, k2, k3, k4, k5, k6, k7, k8⟩ := fit_sizes f1 (by decide)
      have hh := UrlB.path_any (strOf u.sch) (strOf u.usr) (strOf u.pwd) (strOf u.hst) u.hh u.port u.opq (strOf u.txt) A n c u.pth u.hq u.hf (strOf u.qry) (strOf u.frg) w hP.pth.1 hP.pth.2.1 hP.pth.2.2 k5 k8
      rw [show UrlP.pathL u.opq (strOf u.txt) u.pth = I13 from by rw [h3, h4]; rfl] at hh
      exact hh) (fun w E => parse_some (T := strOf I13) h5 (by decide) w E) h6 E hP
    rw [h6, h7, h8] at h
    exact h
  have HPR : Hid (∀ w : World, Tab.Pow w → Calls Tryz.prog 58 #[.agg #[.string (strOf [104, 116, 116, 112, 115]), .string (strOf [97]), .int .i64 8443, .int .i64 0]] w fun e w' => e = .returned (.string (strOf [104, 116, 116, 112, 115, 58, 47, 47, 97, 58, 56, 52, 52, 51])) ∧ Below w.heap.size w w') := fun w hT => by
    have h := print_o [104, 116, 116, 112, 115] [97] 8443 0 w (by decide) (by decide) (by decide) (by decide) (by decide) hT
    rw [want13] at h
    exact h
  have HTU : Hid (∀ w : World, Calls Tryz.prog 59 #[.agg #[.string (strOf [104, 116, 116, 112, 115]), .string (strOf [97]), .int .i64 8443, .int .i64 0]] w fun e w' => e = .returned (.bool true) ∧ Below w.heap.size w w') := fun w => tuple_any (strOf [104, 116, 116, 112, 115]) (strOf [97]) 8443 0 w
  have q1 : (strOf [104, 116, 116, 112, 115, 58, 47, 47, 97, 58, 56, 52, 52, 51]).toList = [104, 116, 116, 112, 115, 58, 47, 47, 97, 58, 56, 52, 52, 51] := str_tl _
  clear h1 h2 h3 h4 h5 h6 h7 h8 f1 hE
  go_enter Tryz.func26, Tryz.ntmps26
  go_wp2_with fail
  refine (HP1.out _ HE.out).mono ?_
  rintro e w1 ⟨A1, n1, c1, rfl, hpt, hb⟩
  have HB1 := hid hb
  have E_1 := hid (HE.out.below hb)
  clear hb
  have T1 := hid (hpt)
  clear hpt
  go_upto_region 2 with (fail)
  generalize hwa : World.alloc _ _ = v2
  have hxa : UB v2 (w1.heap.size) u (.slice A1 n1 c1) := by rw [← hwa]; exact heap_alloc_new _ _
  have hb : Below w1.heap.size w1 v2 := by rw [← hwa]; exact (Below.refl _ _).alloc (Nat.le_refl _) _
  have X1 := hid hxa
  clear hwa hxa
  have HB2 := hid (bel HB1.out hb)
  have E_2 := hid (E_1.out.below hb)
  have T1_2 := hid (T1.out.below hb)
  clear hb
  obtain ⟨ka0, ka1, ka2, ka3, ka4, ka5, ka6, ka7, ka8, ka9, ka10, ka11, ka12⟩ := X1.out.facts
  go_wp2_with fail
  clear ka0 ka1 ka2 ka3 ka4 ka5 ka6 ka7 ka8 ka9 ka10 ka11 ka12
  refine (HOF.out _ _ _ _ T1_2.out E_2.out).mono ?_
  rintro e w3 ⟨rfl, hb⟩
  have HB3 := hid (bel HB2.out hb)
  have E_3 := hid (E_2.out.below hb)
  have T1_3 := hid (T1_2.out.below hb)
  have X1_3 := hid (X1.out.below hb)
  clear hb
  go_upto_region 3 with (fail)
  generalize hwa : World.alloc _ _ = v4
  have hxa : OB v4 (w3.heap.size) (strOf [104, 116, 116, 112, 115]) (strOf [97]) 8443 0 := by rw [← hwa]; exact heap_alloc_new _ _
  have hb : Below w3.heap.size w3 v4 := by rw [← hwa]; exact (Below.refl _ _).alloc (Nat.le_refl _) _
  have X2 := hid hxa
  clear hwa hxa
  have HB4 := hid (bel HB3.out hb)
  have E_4 := hid (E_3.out.below hb)
  have T1_4 := hid (T1_3.out.below hb)
  have X1_4 := hid (X1_3.out.below hb)
  clear hb
  obtain ⟨o0, o1, o2, o3⟩ := X2.out.facts
  go_wp2_with fail
  clear o0 o1 o2 o3
  refine (HPR.out _ E_4.out.pow).mono ?_
  rintro e w5 ⟨rfl, hb⟩
  have HB5 := hid (bel HB4.out hb)
  have E_5 := hid (E_4.out.below hb)
  have T1_5 := hid (T1_4.out.below hb)
  have X1_5 := hid (X1_4.out.below hb)
  have X2_5 := hid (X2.out.below hb)
  clear hb
  obtain ⟨o0, o1, o2, o3⟩ := X2_5.out.facts
  go_wp2_with fail
  clear o0 o1 o2 o3
  refine (HTU.out _).mono ?_
  rintro e w6 ⟨rfl, hb⟩
  have HB6 := hid (bel HB5.out hb)
  have E_6 := hid (E_5.out.below hb)
  have T1_6 := hid (T1_5.out.below hb)
  have X1_6 := hid (X1_5.out.below hb)
  have X2_6 := hid (X2_5.out.below hb)
  clear hb
  go_wp2
  go_ret
  exact ⟨rfl, HB6.out⟩
end Go.Proofs.YtaooiggckcfanaaGreatDoor.OrgW
