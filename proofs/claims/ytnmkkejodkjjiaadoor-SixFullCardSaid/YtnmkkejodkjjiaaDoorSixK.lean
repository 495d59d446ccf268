/- IPv6 addresses: the document's Print. -/
import Derived.Test.YtnmkkejodkjjiaaDoorSixJ
import Derived.Test.YtnmkkejodkjjiaaDoorSixF
namespace Go.Proofs.YtnmkkejodkjjiaaDoor.SixK
open Go.RowKit Go.Proofs.YtnmkkejodkjjiaaDoor.Base Go.Proofs.YtnmkkejodkjjiaaDoor.Base2 Go.Proofs.YtnmkkejodkjjiaaDoor.SixA Go.Proofs.YtnmkkejodkjjiaaDoor.SixB Go.Proofs.YtnmkkejodkjjiaaDoor.SixC Go.Proofs.YtnmkkejodkjjiaaDoor.SixF Go.Proofs.YtnmkkejodkjjiaaDoor.SixG Go.Proofs.YtnmkkejodkjjiaaDoor.SixH Go.Proofs.YtnmkkejodkjjiaaDoor.SixI Go.Proofs.YtnmkkejodkjjiaaDoor.SixJ

theorem jx_last1 (M : List Nat) (n : Nat) (h6 : n < 65536) : ∃ pre d, d < 16 ∧ jx (M ++ [n]) = pre ++ [hexd d] := by
  obtain ⟨pre, hp⟩ := hx_last n h6
  by_cases h2 : M = []
  · refine ⟨pre, n % 16, Nat.mod_lt _ (by decide), ?_⟩
    rw [h2, List.nil_append, jx_one, hp]
  · refine ⟨jx M ++ 58 :: pre, n % 16, Nat.mod_lt _ (by decide), ?_⟩
    rw [jx_snoc _ _ h2, hp]
    simp
theorem jx_last (L : List Nat) (h : L ≠ []) (h6 : ∀ x ∈ L, x < 65536) : ∃ pre d, d < 16 ∧ jx L = pre ++ [hexd d] := by
  have := jx_last1 L.dropLast (L.getLast h) (h6 _ (List.getLast_mem h))
  rwa [List.dropLast_concat_getLast h] at this
/-- What is written ahead of place k, with a gap from a to b. -/
def TT (L : List Nat) (a b k : Nat) : List UInt8 := if k ≤ a then jx (L.take k) else jx (L.take a) ++ [58, 58] ++ jx ((L.take k).drop b)
theorem TT_len (L : List Nat) (a b k : Nat) (h : L.length = 8) : (TT L a b k).length ≤ 100 := by
  unfold TT
  split
  · have := jx_len (L.take k)
    rw [List.length_take] at this
    omega
  · have h1 := jx_len (L.take a)
    have h2 := jx_len ((L.take k).drop b)
    rw [List.length_take] at h1
    rw [List.length_drop, List.length_take] at h2
    simp only [List.length_append, List.length_cons, List.length_nil]
    omega
theorem TT_snoc0 (L : List Nat) (a b : Nat) (x : Nat) (h0 : 0 < L.length) (hx' : L[0] = x) (ha : 0 < a) : TT L a b (0 + 1) = TT L a b 0 ++ hx x := by
  unfold TT
  rw [if_pos (by omega), if_pos (by omega), take_snocN L 0 h0, hx']
  rfl
theorem TT_snoc1 (L : List Nat) (a b k : Nat) (x : Nat) (hk : k < L.length) (hx' : L[k] = x) (h0 : 0 < k) (ha : k < a) : TT L a b (k + 1) = TT L a b k ++ [58] ++ hx x := by
  unfold TT
  rw [if_pos (by omega), if_pos (by omega), take_snocN L k hk, hx', jx_snoc]
  · simp
  · intro h
    have := congrArg List.length h
    rw [List.length_take, List.length_nil] at this
    omega
theorem TT_gap (L : List Nat) (a b : Nat) (hab : a < b) : TT L a b b = TT L a b a ++ [58, 58] := by
  unfold TT
  rw [if_neg (by omega), if_pos (Nat.le_refl _), List.drop_eq_nil_of_le (by rw [List.length_take]; omega), jx_nil, List.append_nil]
theorem TT_snocb (L : List Nat) (a b : Nat) (x : Nat) (hb : b < L.length) (hx' : L[b] = x) (hab : a < b) : TT L a b (b + 1) = TT L a b b ++ hx x := by
  unfold TT
  rw [if_neg (by omega), if_neg (by omega), take_snocN L b hb, hx', List.drop_append_of_le_length (by rw [List.length_take]; omega), List.drop_eq_nil_of_le (by rw [List.length_take]; omega), jx_nil, List.nil_append, jx_one]
  simp
theorem TT_snoc2 (L : List Nat) (a b k : Nat) (x : Nat) (hk : k < L.length) (hx' : L[k] = x) (hab : a < b) (hb : b < k) : TT L a b (k + 1) = TT L a b k ++ [58] ++ hx x := by
  unfold TT
  rw [if_neg (by omega), if_neg (by omega), take_snocN L k hk, hx', List.drop_append_of_le_length (by rw [List.length_take]; omega), jx_snoc]
  · simp
  · intro h
    have := congrArg List.length h
    rw [List.length_drop, List.length_take, List.length_nil] at this
    omega
theorem TT_last (L : List Nat) (a b k : Nat) (h6 : ∀ x ∈ L, x < 65536) (hk : k ≤ L.length) (h : (0 < k ∧ k ≤ a) ∨ (a < b ∧ b < k)) : ∃ pre d, d < 16 ∧ TT L a b k = pre ++ [hexd d] := by
  unfold TT
  rcases h with ⟨h0, h1⟩ | ⟨h0, h1⟩
  · rw [if_pos h1]
    refine jx_last _ ?_ (fun x hx => h6 x (List.mem_of_mem_take hx))
    intro h
    have := congrArg List.length h
    rw [List.length_take, List.length_nil] at this
    omega
  · rw [if_neg (by omega)]
    obtain ⟨pre, d, hd, e⟩ := jx_last ((L.take k).drop b) (by
      intro h
      have := congrArg List.length h
      rw [List.length_drop, List.length_take, List.length_nil] at this
      omega) (fun x hx => h6 x (List.mem_of_mem_take (List.mem_of_mem_drop hx)))
    exact ⟨jx (L.take a) ++ [58, 58] ++ pre, d, hd, by rw [e]; simp⟩
theorem TT_none (L : List Nat) (h : L.length = 8) : TT L 8 9 8 = jx L := by
  unfold TT
  rw [if_pos (by omega), List.take_of_length_le (by omega)]
theorem TT_some (L : List Nat) (a b : Nat) (h : L.length = 8) (hab : a < b) (hb : b ≤ 8) : TT L a b 8 = jx (L.take a) ++ [58, 58] ++ jx (L.drop b) := by
  unfold TT
  rw [if_neg (by omega), List.take_of_length_le (show L.length ≤ 8 by omega)]
/-- The last byte of a text. -/
theorem last_at (X : ByteArray) (pre : List UInt8) (c : UInt8) (h : X = strOf (pre ++ [c])) : ∃ j : Nat, (X.size : Int) - 1 = (j : Int) ∧ (j : Int) < (X.size : Int) ∧ ∃ hj : j < X.size, X[j] = c := by
  subst h
  refine ⟨pre.length, ?_, ?_, ?_, ?_⟩
  · rw [size_strOf, List.length_append]; simp
  · rw [size_strOf, List.length_append]; show (pre.length : Int) < ((pre.length + 1 : Nat) : Int); omega
  · rw [size_strOf, List.length_append]; simp
  · show (pre ++ [c])[pre.length] = c
    simp
set_option linter.unusedSimpArgs false in
set_option maxRecDepth 100000 in
set_option maxHeartbeats 8000000 in
theorem print_any (f : Nat → Nat) (h6 : ∀ i, f i < 65536) (w : World) : Calls Tryd.prog 15 #[A8 f] w fun e w' => e = .returned (.string (strOf (prt f))) ∧ Below w.heap.size w w' := by
  obtain ⟨P, hP⟩ : ∃ P, P = prt f := ⟨_, rfl⟩
  rw [← hP]
  have hfct := lng_facts (f 0 == 0) (f 1 == 0) (f 2 == 0) (f 3 == 0) (f 4 == 0) (f 5 == 0) (f 6 == 0) (f 7 == 0)
  obtain ⟨_, hb8, _, hrr⟩ := hfct
  replace hb8 : (lng (zs f)).2 ≤ 8 := hb8
  replace hrr : lngR (zs f) = if (lng (zs f)).2 - (lng (zs f)).1 < 2 then (none, 1) else (some (lng (zs f)).1, (lng (zs f)).2 - (lng (zs f)).1) := hrr
  have H6 := hid h6
  have HM6 := hid (V8_mem h6)
  unfold prt at hP
  obtain ⟨a, ha⟩ : ∃ a, a = (lng (zs f)).1 := ⟨_, rfl⟩
  obtain ⟨b, hb⟩ : ∃ b, b = (lng (zs f)).2 := ⟨_, rfl⟩
  rw [← ha, ← hb] at hP hrr
  rw [← hb] at hb8
  obtain ⟨Z, hZ⟩ : ∃ Z, Z = zs f := ⟨_, rfl⟩
  rw [← hZ] at hrr
  have HZ := hid hZ
  have HZL : Hid (Z.length = 8) := by show _ = _; rw [hZ]; rfl
  have HP := hid hP
  have HRR := hid hrr
  have HB8 := hid hb8
  clear hZ ha hb hP hrr hb8 h6
  have HVL : Hid ((V8 f).length = 8) := rfl
  unfold A8
  go_enter Tryd.func15, Tryd.ntmps15
  go_upto_region 1 with (fail)
  generalize hw1 : w.alloc _ = w1
  have HB1 : Hid (Below w.heap.size w w1) := by
    show Below _ _ _
    rw [← hw1]
    exact (Below.refl _ _).alloc (Nat.le_refl _) _
  have HX1 : Hid (Box w1 w.heap.size 24 (V8 f)) := by
    show Box _ _ _ _
    rw [← hw1]
    exact box_new f
  clear hw1
  go_wp2
  go_loopw [3, 4, 5, 6, 9] (fun vf vl _ _ vk wr => ∃ (fu k lg : Nat) (fr : Option Nat), vk = .int .i64 (k : Int) ∧ vf = .int .i64 (gapV fr) ∧ vl = .int .i64 (lg : Int) ∧ fu + k = 8 ∧ lg ≤ 8 ∧ wr = w1 ∧ Hid (lngR Z = goR Z fu k fr lg)) (fun _ _ _ _ vk _ => 8 - (intOf vk).toNat)
  case atStart => exact ⟨8, 0, 1, none, rfl, rfl, rfl, rfl, by omega, rfl, rfl⟩
  case round =>
    obtain ⟨fu, k, lg, fr, rfl, rfl, rfl, hfu, hlg, rfl, HW⟩ := hrel
    by_cases hlt : k < 8
    · obtain ⟨fu', rfl⟩ : ∃ fu', fu = fu' + 1 := ⟨fu - 1, by omega⟩
      obtain ⟨G, hG⟩ : ∃ G, G = gapV fr := ⟨_, rfl⟩
      rw [← hG]
      have HGV := hid hG
      have HFU := hid hfu
      clear hG hfu
      go_wp2
      go_loopw [6] (fun vn wx => ∃ n : Nat, k + n ≤ 8 ∧ vn = .int .i64 (n : Int) ∧ wx = wr ∧ Hid (run Z k = n + run Z (k + n))) (fun vn _ => 8 - (intOf vn).toNat)
      case atStart => exact ⟨0, by omega, rfl, rfl, by show _ = _; rw [Nat.add_zero]; omega⟩
      case round =>
        obtain ⟨n, hn8, rfl, rfl, HR⟩ := hrel
        by_cases hk : k + n < 8
        · have hc0 := HX1.out.cell (k + n) (by show k + n < 8; exact hk)
          rw [V8_get f (k + n) hk] at hc0
          have hzk : Z[k + n]'(by rw [HZL.out]; exact hk) = (f (k + n) == 0) := by
            have := zs_get f (k + n) hk (by rw [zs_length]; exact hk)
            simp only [HZ.out]
            exact this
          have HZK := hid hzk
          obtain ⟨x, hx⟩ : ∃ x, f (k + n) = x := ⟨_, rfl⟩
          rw [hx] at hc0 HZK
          have hk8i : (k : Int) + (n : Int) < 8 := by omega
          clear hx hzk
          by_cases hx0 : x = 0
          · subst hx0
            have HR2 : Hid (run Z k = (n + 1) + run Z (k + (n + 1))) := by
              show _ = _
              rw [HR.out, run_zero (by rw [HZL.out]; exact hk) (by rw [HZK.out]; rfl), show k + n + 1 = k + (n + 1) by omega]
              omega
            rw [show ((0 : Nat) : Int) = 0 from rfl] at hc0
            go_wp2
            go_roundw
            case rel => exact ⟨n + 1, by omega, by go_num, by first | rfl | trivial, HR2.out⟩
            case measure => simp [intOf]; omega
          · have hxb : ((x : Int) == 0) = false := by rw [bool_nat]; simpa using hx0
            have hxn : ¬ (x : Int) = 0 := by omega
            have HRE : Hid (run Z k = n) := by
              show _ = _
              rw [HR.out, run_nz (by rw [HZL.out]; exact hk) (by rw [HZK.out]; simpa using hx0)]
              rfl
            clear hx0
            by_cases hgt : lg < n
            · have HW2 : Hid (lngR Z = goR Z fu' (k + 1) (some k) n) := by
                show _ = _
                rw [HW.out]
                conv => lhs; unfold goR
                rw [if_pos (by rw [HZL.out]; exact hlt), HRE.out, if_pos hgt]
              have hgi : (lg : Int) < (n : Int) := by omega
              clear hgt
              go_wp2
              go_roundw
              case rel => exact ⟨fu', k + 1, n, some k, by go_num, rfl, rfl, by have := HFU.out; omega, by omega, by first | rfl | trivial, HW2.out⟩
              case measure => simp [intOf]; omega
            · have HW2 : Hid (lngR Z = goR Z fu' (k + 1) fr lg) := by
                show _ = _
                rw [HW.out]
                conv => lhs; unfold goR
                rw [if_pos (by rw [HZL.out]; exact hlt), HRE.out, if_neg hgt]
              have hgi : ¬ (lg : Int) < (n : Int) := by omega
              clear hgt
              go_wp2
              go_roundw
              case rel => exact ⟨fu', k + 1, lg, fr, by go_num, by rw [HGV.out], rfl, by have := HFU.out; omega, by omega, by first | rfl | trivial, HW2.out⟩
              case measure => simp [intOf]; omega
        · have hk8i : ¬ (k : Int) + (n : Int) < 8 := by omega
          have HRE : Hid (run Z k = n) := by show _ = _; rw [HR.out, run_end (by rw [HZL.out]; omega)]; rfl
          by_cases hgt : lg < n
          · have HW2 : Hid (lngR Z = goR Z fu' (k + 1) (some k) n) := by
              show _ = _
              rw [HW.out]
              conv => lhs; unfold goR
              rw [if_pos (by rw [HZL.out]; exact hlt), HRE.out, if_pos hgt]
            have hgi : (lg : Int) < (n : Int) := by omega
            clear hgt
            go_wp2
            go_roundw
            case rel => exact ⟨fu', k + 1, n, some k, by go_num, rfl, rfl, by have := HFU.out; omega, by omega, by first | rfl | trivial, HW2.out⟩
            case measure => simp [intOf]; omega
          · have HW2 : Hid (lngR Z = goR Z fu' (k + 1) fr lg) := by
              show _ = _
              rw [HW.out]
              conv => lhs; unfold goR
              rw [if_pos (by rw [HZL.out]; exact hlt), HRE.out, if_neg hgt]
            have hgi : ¬ (lg : Int) < (n : Int) := by omega
            clear hgt
            go_wp2
            go_roundw
            case rel => exact ⟨fu', k + 1, lg, fr, by go_num, by rw [HGV.out], rfl, by have := HFU.out; omega, by omega, by first | rfl | trivial, HW2.out⟩
            case measure => simp [intOf]; omega
    · obtain rfl : k = 8 := by omega
      obtain rfl : fu = 0 := by omega
      have HRE : Hid (lngR Z = (fr, lg)) := HW.out
      have hpr : (fr, lg) = if b - a < 2 then (none, 1) else (some a, b - a) := by rw [← HRE.out, HRR.out]
      by_cases hba : b - a < 2
      · rw [if_pos hba] at hpr
        injection hpr with hp1 hp2
        subst hp1
        subst hp2
        have HPE : Hid (P = jx (V8 f)) := by show _ = _; rw [HP.out, if_pos hba]
        rw [show gapV none = -1 from rfl, show ((1 : Nat) : Int) = 1 from rfl, show ((8 : Nat) : Int) = 8 from rfl]
        clear hba hlg hfu hlt
        go_wp2
        go_loopw [7, 8] (fun vo vk wx => ∃ (k : Nat) (X : ByteArray), k ≤ 8 ∧ vk = .int .i64 (k : Int) ∧ vo = .string X ∧ wx = wr ∧ Hid (X = strOf (TT (V8 f) 8 9 k))) (fun _ vk _ => 8 - (intOf vk).toNat)
        case atStart => exact ⟨0, ⟨#[]⟩, by omega, rfl, rfl, rfl, rfl⟩
        case round =>
          obtain ⟨k, X, hk8, rfl, rfl, rfl, HX⟩ := hrel
          have hkm : ((k : Int) == -1) = false := by rw [beq_eq_false_iff_ne]; omega
          have hkm2 : ¬ (k : Int) = -1 := by omega
          by_cases hk : k < 8
          · by_cases hk0 : k = 0
            · have HK0 := hid hk0
              have hk1 : ¬ (0 : Int) < (k : Int) := by omega
              clear hk0
              obtain ⟨x, hfx⟩ : ∃ x, f k = x := ⟨_, rfl⟩
              have hc0 := HX1.out.cell k (by show k < 8; exact hk)
              rw [V8_get f k hk, hfx] at hc0
              have HX6 : Hid (x < 65536) := by show _ < _; rw [← hfx]; exact H6.out k
              have HVX : Hid ((V8 f)[k]'(by show k < 8; exact hk) = x) := by show _ = _; rw [V8_get f k hk, hfx]
              obtain ⟨Z2, hZ2⟩ : ∃ Z2, Z2 = strOf (TT (V8 f) 8 9 (k + 1)) := ⟨_, rfl⟩
              have hsn := (show TT (V8 f) 8 9 (k + 1) = TT (V8 f) 8 9 k ++ hx x by have := TT_snoc0 (V8 f) 8 9 x (by show 0 < 8; omega) (by have := HVX.out; simp only [HK0.out] at this; exact this) (by omega); rw [HK0.out]; exact this)
              have hhl := hx_len x
              have htl := TT_len (V8 f) 8 9 k HVL.out
              have HZ2 := hid hZ2
              have a2 : ∀ w : World, (Op.stringOp .add X (strOf (hx x))).run Tryd.prog w = .ok (.string Z2) w := fun w => by
                rw [hZ2, hsn, HX.out]
                exact str_add _ _ w (by omega)
              clear hfx hZ2 hsn hhl htl
              go_wp2_with fail
              refine (digits_any x x (Nat.le_refl _) HX6.out _).mono ?_
              rintro e w2 ⟨rfl, hw2⟩
              subst hw2
              go_wp2
              go_roundw
              case rel => exact ⟨k + 1, Z2, by omega, by go_num, rfl, by first | rfl | trivial, HZ2.out⟩
              case measure => simp [intOf]; omega
            · have hk1 : (0 : Int) < (k : Int) := by omega
              have hkp : 0 < k := by omega
              clear hk0
              obtain ⟨x, hfx⟩ : ∃ x, f k = x := ⟨_, rfl⟩
              have hc0 := HX1.out.cell k (by show k < 8; exact hk)
              rw [V8_get f k hk, hfx] at hc0
              have HX6 : Hid (x < 65536) := by show _ < _; rw [← hfx]; exact H6.out k
              have HVX : Hid ((V8 f)[k]'(by show k < 8; exact hk) = x) := by show _ = _; rw [V8_get f k hk, hfx]
              obtain ⟨Z2, hZ2⟩ : ∃ Z2, Z2 = strOf (TT (V8 f) 8 9 (k + 1)) := ⟨_, rfl⟩
              have hsn := TT_snoc1 (V8 f) 8 9 k x (by show k < 8; exact hk) HVX.out hkp hk
              have hhl := hx_len x
              have htl := TT_len (V8 f) 8 9 k HVL.out
              have HZ2 := hid hZ2
              obtain ⟨pre, d, hd16, hpre⟩ := TT_last (V8 f) 8 9 k HM6.out (by show k ≤ 8; omega) (.inl ⟨hkp, hk8⟩)
              obtain ⟨j, hj1, hj2, hj3, hj4⟩ := last_at X pre (hexd d) (by rw [HX.out, hpre])
              have hdo := hexd_ok d hd16
              obtain ⟨c, hcc⟩ : ∃ c, c = hexd d := ⟨_, rfl⟩
              rw [← hcc] at hj4 hdo
              have hc58 : ((c.toNat : Int) == 58) = false := by
                rw [beq_eq_false_iff_ne]
                intro e
                exact hdo.2.2.1 (UInt8.toNat_inj.1 (by show _ = 58; omega))
              have hc58n : ¬ (c.toNat : Int) = 58 := by simpa using hc58
              have hc58m : ((c.toNat : Int) != 58) = true := by rw [bne, hc58]; rfl
              obtain ⟨Y, hY⟩ : ∃ Y, Y = strOf (TT (V8 f) 8 9 k ++ [58]) := ⟨_, rfl⟩
              have a1 : ∀ w : World, (Op.stringOp .add X ⟨#[58]⟩).run Tryd.prog w = .ok (.string Y) w := fun w => by
                rw [hY, HX.out]
                exact str_add _ [58] w (by simp; omega)
              have a2 : ∀ w : World, (Op.stringOp .add Y (strOf (hx x))).run Tryd.prog w = .ok (.string Z2) w := fun w => by
                rw [hZ2, hsn, hY]
                exact str_add _ _ w (by rw [List.length_append]; simp; omega)
              have hj0 : (0 : Int) ≤ (j : Int) := by omega
              have hxs : X.size ≤ 200 := by rw [HX.out, size_strOf]; omega
              have hjb : (j : Int) ≤ 200 := by omega
              clear hxs
              clear hpre hdo hcc hY
              clear hfx hZ2 hsn hhl htl
              go_wp2_with fail
              refine (digits_any x x (Nat.le_refl _) HX6.out _).mono ?_
              rintro e w2 ⟨rfl, hw2⟩
              subst hw2
              go_wp2
              go_roundw
              case rel => exact ⟨k + 1, Z2, by omega, by go_num, rfl, by first | rfl | trivial, HZ2.out⟩
              case measure => simp [intOf]; omega
          · obtain rfl : k = 8 := by omega
            have HE : Hid (X = strOf P) := by show _ = _; rw [HX.out, HPE.out, TT_none _ HVL.out]
            go_wp2
            go_ret
            exact ⟨by rw [HE.out]; rfl, HB1.out⟩
      · rw [if_neg hba] at hpr
        injection hpr with hp1 hp2
        subst hp1
        have HPE : Hid (P = jx ((V8 f).take a) ++ [58, 58] ++ jx ((V8 f).drop b)) := by show _ = _; rw [HP.out, if_neg hba]
        rw [show gapV (some a) = (a : Int) from rfl, show ((8 : Nat) : Int) = 8 from rfl]
        have hb8 := HB8.out
        have hab : a < b := by omega
        have hlb : a + lg = b := by omega
        clear hba hp2 hlg hfu hlt
        go_wp2
        go_loopw [7, 8] (fun vo vk wx => ∃ (k : Nat) (X : ByteArray), k ≤ 8 ∧ (k ≤ a ∨ b ≤ k) ∧ vk = .int .i64 (k : Int) ∧ vo = .string X ∧ wx = wr ∧ Hid (X = strOf (TT (V8 f) a b k))) (fun _ vk _ => 8 - (intOf vk).toNat)
        case atStart => exact ⟨0, ⟨#[]⟩, by omega, by omega, rfl, rfl, rfl, by show _ = _; unfold TT; rw [if_pos (Nat.zero_le _)]; rfl⟩
        case round =>
          obtain ⟨k, X, hk8, hkab, rfl, rfl, rfl, HX⟩ := hrel
          by_cases hk : k < 8
          · by_cases hka : k = a
            · have HKA := hid hka
              have hkb : ((k : Int) == (a : Int)) = true := by simp; omega
              have htl := TT_len (V8 f) a b a HVL.out
              obtain ⟨Z2, hZ2⟩ : ∃ Z2, Z2 = strOf (TT (V8 f) a b b) := ⟨_, rfl⟩
              have HZ2 := hid hZ2
              have a1 : ∀ w : World, (Op.stringOp .add X ⟨#[58, 58]⟩).run Tryd.prog w = .ok (.string Z2) w := fun w => by
                rw [hZ2, TT_gap _ _ _ hab, HX.out, HKA.out]
                exact str_add _ [58, 58] w (by simp; omega)
              have HKL : Hid ((k : Int) + (lg : Int) - 1 + 1 = (b : Int)) := by show _ = _; omega
              have hlg0 : (1 : Int) ≤ (lg : Int) := by omega
              have hlg8 : (lg : Int) ≤ 8 := by omega
              have HKLT : Hid (k < b) := by show _ < _; omega
              clear hka hZ2 htl hkab
              go_wp2
              go_roundw
              case rel => exact ⟨b, Z2, hb8, .inr (Nat.le_refl _), by first | exact int_eq HKL.out | (have := HKL.out; go_num) | (congr 1; have := HKL.out; omega), rfl, by first | rfl | trivial, HZ2.out⟩
              case measure => (have := HKL.out; have := HKLT.out; simp [intOf]; omega)
            · have hkb : ((k : Int) == (a : Int)) = false := by rw [beq_eq_false_iff_ne]; omega
              have hkb2 : ¬ (k : Int) = (a : Int) := by omega
              by_cases hlo : k < a
              · by_cases hk0 : k = 0
                · have HK0 := hid hk0
                  have hk1 : ¬ (0 : Int) < (k : Int) := by omega
                  have ha0 : 0 < a := by omega
                  clear hk0 hka
                  obtain ⟨x, hfx⟩ : ∃ x, f k = x := ⟨_, rfl⟩
                  have hc0 := HX1.out.cell k (by show k < 8; exact hk)
                  rw [V8_get f k hk, hfx] at hc0
                  have HX6 : Hid (x < 65536) := by show _ < _; rw [← hfx]; exact H6.out k
                  have HVX : Hid ((V8 f)[k]'(by show k < 8; exact hk) = x) := by show _ = _; rw [V8_get f k hk, hfx]
                  obtain ⟨Z2, hZ2⟩ : ∃ Z2, Z2 = strOf (TT (V8 f) a b (k + 1)) := ⟨_, rfl⟩
                  have hsn := (show TT (V8 f) a b (k + 1) = TT (V8 f) a b k ++ hx x by have := TT_snoc0 (V8 f) a b x (by show 0 < 8; omega) (by have := HVX.out; simp only [HK0.out] at this; exact this) ha0; rw [HK0.out]; exact this)
                  have hhl := hx_len x
                  have htl := TT_len (V8 f) a b k HVL.out
                  have HZ2 := hid hZ2
                  have a2 : ∀ w : World, (Op.stringOp .add X (strOf (hx x))).run Tryd.prog w = .ok (.string Z2) w := fun w => by
                    rw [hZ2, hsn, HX.out]
                    exact str_add _ _ w (by omega)
                  clear hfx hZ2 hsn hhl htl
                  go_wp2_with fail
                  refine (digits_any x x (Nat.le_refl _) HX6.out _).mono ?_
                  rintro e w2 ⟨rfl, hw2⟩
                  subst hw2
                  go_wp2
                  go_roundw
                  case rel => exact ⟨k + 1, Z2, by omega, .inl (by omega), by go_num, rfl, by first | rfl | trivial, HZ2.out⟩
                  case measure => simp [intOf]; omega
                · have hk1 : (0 : Int) < (k : Int) := by omega
                  have hkp : 0 < k := by omega
                  clear hk0 hka
                  obtain ⟨x, hfx⟩ : ∃ x, f k = x := ⟨_, rfl⟩
                  have hc0 := HX1.out.cell k (by show k < 8; exact hk)
                  rw [V8_get f k hk, hfx] at hc0
                  have HX6 : Hid (x < 65536) := by show _ < _; rw [← hfx]; exact H6.out k
                  have HVX : Hid ((V8 f)[k]'(by show k < 8; exact hk) = x) := by show _ = _; rw [V8_get f k hk, hfx]
                  obtain ⟨Z2, hZ2⟩ : ∃ Z2, Z2 = strOf (TT (V8 f) a b (k + 1)) := ⟨_, rfl⟩
                  have hsn := TT_snoc1 (V8 f) a b k x (by show k < 8; exact hk) HVX.out hkp hlo
                  have hhl := hx_len x
                  have htl := TT_len (V8 f) a b k HVL.out
                  have HZ2 := hid hZ2
                  obtain ⟨pre, d, hd16, hpre⟩ := TT_last (V8 f) a b k HM6.out (by show k ≤ 8; omega) (.inl ⟨hkp, by omega⟩)
                  obtain ⟨j, hj1, hj2, hj3, hj4⟩ := last_at X pre (hexd d) (by rw [HX.out, hpre])
                  have hdo := hexd_ok d hd16
                  obtain ⟨c, hcc⟩ : ∃ c, c = hexd d := ⟨_, rfl⟩
                  rw [← hcc] at hj4 hdo
                  have hc58 : ((c.toNat : Int) == 58) = false := by
                    rw [beq_eq_false_iff_ne]
                    intro e
                    exact hdo.2.2.1 (UInt8.toNat_inj.1 (by show _ = 58; omega))
                  have hc58n : ¬ (c.toNat : Int) = 58 := by simpa using hc58
                  have hc58m : ((c.toNat : Int) != 58) = true := by rw [bne, hc58]; rfl
                  obtain ⟨Y, hY⟩ : ∃ Y, Y = strOf (TT (V8 f) a b k ++ [58]) := ⟨_, rfl⟩
                  have a1 : ∀ w : World, (Op.stringOp .add X ⟨#[58]⟩).run Tryd.prog w = .ok (.string Y) w := fun w => by
                    rw [hY, HX.out]
                    exact str_add _ [58] w (by simp; omega)
                  have a2 : ∀ w : World, (Op.stringOp .add Y (strOf (hx x))).run Tryd.prog w = .ok (.string Z2) w := fun w => by
                    rw [hZ2, hsn, hY]
                    exact str_add _ _ w (by rw [List.length_append]; simp; omega)
                  have hj0 : (0 : Int) ≤ (j : Int) := by omega
                  have hxs : X.size ≤ 200 := by rw [HX.out, size_strOf]; omega
                  have hjb : (j : Int) ≤ 200 := by omega
                  clear hxs
                  clear hpre hdo hcc hY
                  clear hfx hZ2 hsn hhl htl
                  go_wp2_with fail
                  refine (digits_any x x (Nat.le_refl _) HX6.out _).mono ?_
                  rintro e w2 ⟨rfl, hw2⟩
                  subst hw2
                  go_wp2
                  go_roundw
                  case rel => exact ⟨k + 1, Z2, by omega, .inl (by omega), by go_num, rfl, by first | rfl | trivial, HZ2.out⟩
                  case measure => simp [intOf]; omega
              · have hbk : b ≤ k := by omega
                have hk1 : (0 : Int) < (k : Int) := by omega
                by_cases hke : k = b
                · have HKE := hid hke
                  clear hke hka hlo
                  obtain ⟨x, hfx⟩ : ∃ x, f k = x := ⟨_, rfl⟩
                  have hc0 := HX1.out.cell k (by show k < 8; exact hk)
                  rw [V8_get f k hk, hfx] at hc0
                  have HX6 : Hid (x < 65536) := by show _ < _; rw [← hfx]; exact H6.out k
                  have HVX : Hid ((V8 f)[k]'(by show k < 8; exact hk) = x) := by show _ = _; rw [V8_get f k hk, hfx]
                  obtain ⟨Z2, hZ2⟩ : ∃ Z2, Z2 = strOf (TT (V8 f) a b (k + 1)) := ⟨_, rfl⟩
                  have hsn := (show TT (V8 f) a b (k + 1) = TT (V8 f) a b k ++ hx x by have := TT_snocb (V8 f) a b x (by rw [← HKE.out]; show k < 8; exact hk) (by have := HVX.out; simp only [HKE.out] at this; exact this) hab; rw [HKE.out]; exact this)
                  have hhl := hx_len x
                  have htl := TT_len (V8 f) a b k HVL.out
                  have HZ2 := hid hZ2
                  obtain ⟨pre, hpre⟩ : ∃ pre, TT (V8 f) a b k = pre ++ [58] := ⟨TT (V8 f) a b a ++ [58], by rw [HKE.out, TT_gap _ _ _ hab]; simp⟩
                  obtain ⟨c, hcc⟩ : ∃ c : UInt8, c = 58 := ⟨_, rfl⟩
                  obtain ⟨j, hj1, hj2, hj3, hj4⟩ := last_at X pre c (by rw [HX.out, hpre, hcc])
                  have hc58 : ((c.toNat : Int) == 58) = true := by rw [hcc]; rfl
                  have hc58m : ((c.toNat : Int) != 58) = false := by rw [hcc]; rfl
                  clear hcc
                  have a2 : ∀ w : World, (Op.stringOp .add X (strOf (hx x))).run Tryd.prog w = .ok (.string Z2) w := fun w => by
                    rw [hZ2, hsn, HX.out]
                    exact str_add _ _ w (by omega)
                  have hj0 : (0 : Int) ≤ (j : Int) := by omega
                  have hxs : X.size ≤ 200 := by rw [HX.out, size_strOf]; omega
                  have hjb : (j : Int) ≤ 200 := by omega
                  clear hxs
                  clear hpre
                  clear hfx hZ2 hsn hhl htl
                  go_wp2_with fail
                  refine (digits_any x x (Nat.le_refl _) HX6.out _).mono ?_
                  rintro e w2 ⟨rfl, hw2⟩
                  subst hw2
                  go_wp2
                  go_roundw
                  case rel => exact ⟨k + 1, Z2, by omega, .inr (by omega), by go_num, rfl, by first | rfl | trivial, HZ2.out⟩
                  case measure => simp [intOf]; omega
                · have hbk2 : b < k := by omega
                  clear hke hka hlo
                  obtain ⟨x, hfx⟩ : ∃ x, f k = x := ⟨_, rfl⟩
                  have hc0 := HX1.out.cell k (by show k < 8; exact hk)
                  rw [V8_get f k hk, hfx] at hc0
                  have HX6 : Hid (x < 65536) := by show _ < _; rw [← hfx]; exact H6.out k
                  have HVX : Hid ((V8 f)[k]'(by show k < 8; exact hk) = x) := by show _ = _; rw [V8_get f k hk, hfx]
                  obtain ⟨Z2, hZ2⟩ : ∃ Z2, Z2 = strOf (TT (V8 f) a b (k + 1)) := ⟨_, rfl⟩
                  have hsn := TT_snoc2 (V8 f) a b k x (by show k < 8; exact hk) HVX.out hab hbk2
                  have hhl := hx_len x
                  have htl := TT_len (V8 f) a b k HVL.out
                  have HZ2 := hid hZ2
                  obtain ⟨pre, d, hd16, hpre⟩ := TT_last (V8 f) a b k HM6.out (by show k ≤ 8; omega) (.inr ⟨hab, hbk2⟩)
                  obtain ⟨j, hj1, hj2, hj3, hj4⟩ := last_at X pre (hexd d) (by rw [HX.out, hpre])
                  have hdo := hexd_ok d hd16
                  obtain ⟨c, hcc⟩ : ∃ c, c = hexd d := ⟨_, rfl⟩
                  rw [← hcc] at hj4 hdo
                  have hc58 : ((c.toNat : Int) == 58) = false := by
                    rw [beq_eq_false_iff_ne]
                    intro e
                    exact hdo.2.2.1 (UInt8.toNat_inj.1 (by show _ = 58; omega))
                  have hc58n : ¬ (c.toNat : Int) = 58 := by simpa using hc58
                  have hc58m : ((c.toNat : Int) != 58) = true := by rw [bne, hc58]; rfl
                  obtain ⟨Y, hY⟩ : ∃ Y, Y = strOf (TT (V8 f) a b k ++ [58]) := ⟨_, rfl⟩
                  have a1 : ∀ w : World, (Op.stringOp .add X ⟨#[58]⟩).run Tryd.prog w = .ok (.string Y) w := fun w => by
                    rw [hY, HX.out]
                    exact str_add _ [58] w (by simp; omega)
                  have a2 : ∀ w : World, (Op.stringOp .add Y (strOf (hx x))).run Tryd.prog w = .ok (.string Z2) w := fun w => by
                    rw [hZ2, hsn, hY]
                    exact str_add _ _ w (by rw [List.length_append]; simp; omega)
                  have hj0 : (0 : Int) ≤ (j : Int) := by omega
                  have hxs : X.size ≤ 200 := by rw [HX.out, size_strOf]; omega
                  have hjb : (j : Int) ≤ 200 := by omega
                  clear hxs
                  clear hpre hdo hcc hY
                  clear hfx hZ2 hsn hhl htl
                  go_wp2_with fail
                  refine (digits_any x x (Nat.le_refl _) HX6.out _).mono ?_
                  rintro e w2 ⟨rfl, hw2⟩
                  subst hw2
                  go_wp2
                  go_roundw
                  case rel => exact ⟨k + 1, Z2, by omega, .inr (by omega), by go_num, rfl, by first | rfl | trivial, HZ2.out⟩
                  case measure => simp [intOf]; omega
          · obtain rfl : k = 8 := by omega
            have HE : Hid (X = strOf P) := by show _ = _; rw [HX.out, HPE.out, TT_some _ _ _ HVL.out hab hb8]
            go_wp2
            go_ret
            exact ⟨by rw [HE.out]; rfl, HB1.out⟩
end Go.Proofs.YtnmkkejodkjjiaaDoor.SixK
