/- The document's own Decode and Valid of layer 1: what utf's are. -/
import Derived.Test.YtleecmapaihhmaaDoorRefM
import Derived.Test.YtleecmapaihhmaaDoorRefC
set_option linter.unusedSimpArgs false
set_option linter.unusedVariables false
namespace Go.Proofs.YtleecmapaihhmaaDoor.RefD
open Go.RowKit Go.Proofs.YtleecmapaihhmaaDoor.Base Go.Proofs.YtleecmapaihhmaaDoor.Base2 Go.Proofs.YtleecmapaihhmaaDoor.UtfR Go.Proofs.YtleecmapaihhmaaDoor.RefS Go.Proofs.YtleecmapaihhmaaDoor.RefN Go.Proofs.YtleecmapaihhmaaDoor.RefM

/-- What the first j bytes are, so far: nothing, or the beginning of a character; whole? -/
def Sofar (L : List UInt8) (j : Nat) (wh : Bool) : Prop := j = 0 ∧ wh = false ∨ 1 ≤ j ∧ j ≤ L.length ∧ st (L.take j) = (true, wh)
theorem sofar_end (x : UInt8) (T : List UInt8) (j : Nat) (wh : Bool) (h : Sofar (x :: T) j wh) (hend : wh = true ∨ j = T.length + 1 ∨ j ≤ T.length ∧ (st ((x :: T).take (j + 1))).1 = false) :
    (wh = true → rd (x :: T) = (fo (first x.toNat) ((x :: T).take j).tail, (j : Int), true) ∧ st ((x :: T).take j) = (true, true) ∧ 1 ≤ j ∧ j ≤ T.length + 1) ∧ (wh = false → rd (x :: T) = (65533, ((max j 1 : Nat) : Int), false)) := by
  constructor
  · rintro rfl
    rcases h with ⟨_, h⟩ | ⟨h1, h2, h3⟩
    · cases h
    · obtain ⟨i, rfl⟩ : ∃ i, j = i + 1 := ⟨j - 1, by omega⟩
      rw [List.take_succ_cons] at h3 ⊢
      have e := whole_rd x (T.take i) (T.drop i) h3
      rw [List.take_append_drop] at e
      refine ⟨?_, h3, by omega, by simpa using h2⟩
      rw [e]
      simp only [List.tail_cons, List.length_take, List.length_cons] at h2 ⊢
      refine Prod.ext rfl (Prod.ext ?_ rfl)
      simp only
      omega
  · rintro rfl
    rcases h with ⟨rfl, _⟩ | ⟨h1, h2, h3⟩
    · rcases hend with h | h | ⟨_, h⟩
      · cases h
      · omega
      · rw [List.take_succ_cons, List.take_zero] at h
        exact none_rd x T h
    · obtain ⟨i, rfl⟩ : ∃ i, j = i + 1 := ⟨j - 1, by omega⟩
      rw [List.take_succ_cons] at h3
      simp only [List.length_cons] at h2
      have e := part_rd x (T.take i) (T.drop i) h3 (by
        rcases hend with h | h | ⟨h4, h⟩
        · cases h
        · exact .inl (List.drop_of_length_le (by omega))
        · refine .inr ⟨T[i], T.drop (i + 1), List.drop_eq_getElem_cons (by omega), ?_⟩
          rw [List.take_succ_cons, List.take_succ_eq_append_getElem (by omega)] at h
          exact h)
      rw [List.take_append_drop] at e
      rw [e]
      refine Prod.ext rfl (Prod.ext ?_ rfl)
      simp only [List.length_take]
      omega
theorem sofar_small (L : List UInt8) (j : Nat) (wh : Bool) (h : Sofar L j wh) : j ≤ 4 ∧ j ≤ L.length := by
  rcases h with ⟨rfl, _⟩ | ⟨h1, h2, h3⟩
  · exact ⟨by omega, by omega⟩
  · obtain ⟨x, T, rfl⟩ : ∃ x T, L = x :: T := by
      cases L with
      | nil => simp at h2; omega
      | cons x T => exact ⟨x, T, rfl⟩
    obtain ⟨i, rfl⟩ : ∃ i, j = i + 1 := ⟨j - 1, by omega⟩
    rw [List.take_succ_cons] at h3
    obtain ⟨h4, _⟩ := st_cases x _ _ h3
    have := size_le x.toNat
    simp only [List.length_take, List.length_cons] at h4 h2
    exact ⟨by omega, by simp; omega⟩
def lenS : Value → Nat
  | .slice _ n _ => n
  | _ => 0
set_option maxHeartbeats 4000000 in
set_option maxRecDepth 100000 in
theorem decode_any (A0 : Option Addr) (n0 cap0 : Nat) (L : List UInt8) (w : World) (h : Rds w A0 n0 (bcells L)) (hm : n0 ≤ 1073741824) (hcap : n0 ≤ cap0) :
    Calls Tryd.prog 34 #[.slice A0 n0 cap0] w fun e w' => ∃ v, e = .returned v ∧ w'.ownsRow w.heap.size 21 1 v (dec L).length (icells .i32 (dec L)) ∧ Below w.heap.size w w' := by
  have hl : L.length = n0 := by rw [← length_bcells]; exact h.1
  have HL := hid hl
  clear hl
  obtain ⟨i0, hi, hz0, hz1, hz2⟩ := info_parts info21
  have HH := hid h
  clear h
  go_enter Tryd.func34, Tryd.ntmps34
  go_wp2
  go_loopw [0, 3] (fun vb v wr => ∃ (A : Option Addr) (n cap : Nat) (R : List UInt8) (acc : List Int), n ≤ cap ∧ acc.length + n ≤ 1073741824 ∧ vb = .slice A n cap ∧ Rds w A n (bcells R) ∧ wr.ownsRow w.heap.size 21 1 v acc.length (icells .i32 acc) ∧ Below w.heap.size w wr ∧ Hid (acc ++ dec R = dec L)) (fun vb _ _ => lenS vb)
  case atStart => exact ⟨A0, n0, cap0, L, [], hcap, by simpa using hm, rfl, HH.out, World.ownsRow_nil _ _ _ _, Below.refl _ _, rfl⟩
  case round =>
    clear HH HL hcap hm
    obtain ⟨A, n, cap, R, acc, hcap, hlen, rfl, hr, hown, hbel, HT⟩ := hrel
    cases R with
    | nil =>
      have hn0 : n = 0 := by have := hr.1; simp [bcells] at this; omega
      subst hn0
      clear hr
      have HE : Hid (acc = dec L) := by
        have e := HT.out
        rw [dec_nil, List.append_nil] at e
        exact e
      go_wp2
      go_ret
      exact ⟨_, rfl, by rw [← HE.out]; exact hown, hbel⟩
    | cons x T =>
      have hn1 : n = T.length + 1 := by have := hr.1; rw [length_bcells] at this; exact this.symm
      obtain ⟨b, off, rfl, hb, _⟩ := hr.spot (by omega)
      have hp : 0 < n := by omega
      have HLEN := hid hn1
      clear hn1
      have hrw : Rds wr (some ⟨b, off, none⟩) n (bcells (x :: T)) := hr.below hbel
      have HRW := hid hrw
      have HR := hid hr
      clear hrw hr
      go_wp2
      go_loop [4, 5, 6, 7] (fun vn vw _ _ => ∃ (j : Nat) (wh : Bool), j ≤ n ∧ j ≤ 4 ∧ vn = .int .i64 j ∧ vw = .bool wh ∧ Hid (Sofar (x :: T) j wh)) (fun vn _ _ _ => n - (intOf vn).toNat)
      case atStart => exact ⟨0, false, Nat.zero_le _, by omega, rfl, rfl, .inl ⟨rfl, rfl⟩⟩
      case round =>
        obtain ⟨j, wh, hj, hj4, rfl, rfl, HS⟩ := hrel
        cases wh with
        | true =>
          obtain ⟨hrd, hst, hj1, hjT⟩ := (sofar_end x T j true HS.out (.inl rfl)).1 rfl
          have HRD := hid hrd
          have hcut : Hid (Rds wr (some ⟨b, off, none⟩) j (bcells (x :: ((x :: T).take j).tail))) := by
            have := HRW.out.upto j hj
            rw [← bcells_take] at this
            obtain ⟨i, rfl⟩ : ∃ i, j = i + 1 := ⟨j - 1, by omega⟩
            exact this
          have hst' : Hid (st (x :: ((x :: T).take j).tail) = (true, true)) := by
            obtain ⟨i, rfl⟩ : ∃ i, j = i + 1 := ⟨j - 1, by omega⟩
            exact hst
          clear hrd hst
          have hjc : (j : Int) ≤ (cap : Int) := by omega
          obtain ⟨q, hq⟩ : ∃ q, q = fo (first x.toNat) ((x :: T).take j).tail := ⟨_, rfl⟩
          have HQ := hid hq
          clear hq
          by_cases hlt : j < n
          all_goals
            go_wp2_with fail
            refine (number_any b off j cap x ((x :: T).take j).tail _ hcut.out hst'.out).mono ?_
            rintro e w1 ⟨rfl, rfl⟩
            rw [← HQ.out]
            go_wp2_with (at_builtin; refine wpList_app rfl _ _ 61 rfl w.heap.size 21 i0 (.int .i32 0) 4 Tryd.underlying61 hi hz0 hz1 hz2 rfl _ acc.length _ rfl hown hbel hbel.size [.int .i32 (q)] 1 rfl rfl (by intro u hu; simp at hu; subst hu; rfl) (by unfold maxLen; omega) (by omega) ?_)
            intro v' w3 hown3 hbel3
            clear hown hbel
            have HDEC : Hid (dec (x :: T) = (q) :: dec ((x :: T).drop (j))) := by
              rw [dec_cons, HRD.out, ← HQ.out]
              exact rfl
            by_cases hcm : cap = j
            · have hnm : n = j := by omega
              have HNIL : Hid ((x :: T).drop (j) = []) := List.drop_of_length_le (by have := HLEN.out; rw [List.length_cons]; omega)
              go_wp2
              go_roundw
              case rel => exact ⟨some ⟨b, off, none⟩, 0, 0, [], acc ++ [q], by omega, by simp; omega, (by first | (simp; done) | (simp; omega)), Rds.nil _, by rw [icells_append, List.length_append]; exact hown3, hbel3, by
                  have e := HT.out
                  rw [HDEC.out, HNIL.out] at e
                  rw [List.append_assoc]
                  exact e⟩
              case measure => simp [lenS]; omega
            · go_wp2
              go_roundw
              case rel => exact ⟨some ⟨b, off + (j), none⟩, n - (j), cap - (j), (x :: T).drop (j), acc ++ [q], by omega, by simp; omega, (by first | rfl | (simp; done) | (simp; omega)), by rw [bcells_drop]; exact HR.out.cut _ (by omega), by rw [icells_append, List.length_append]; exact hown3, hbel3, by
                  have e := HT.out
                  rw [HDEC.out] at e
                  rw [List.append_assoc]
                  exact e⟩
              case measure => simp [lenS]; omega
        | false =>
          by_cases hlt : j < n
          · have hcut : Hid (Rds wr (some ⟨b, off, none⟩) (j + 1) (bcells (x :: T.take j))) := by
              have := HRW.out.upto (j + 1) (by omega)
              rw [← bcells_take, List.take_succ_cons] at this
              exact this
            have hcm : (j : Int) + 1 ≤ (cap : Int) := by omega
            obtain ⟨p, hpp⟩ : ∃ p, p = st (x :: T.take j) := ⟨_, rfl⟩
            have HP := hid hpp
            clear hpp
            go_wp2_with fail
            refine (starts_any b off (j + 1) cap x (T.take j) _ hcut.out (by omega)).mono ?_
            rintro e w1 ⟨rfl, rfl⟩
            rw [← HP.out]
            obtain ⟨ok, is⟩ := p
            cases ok with
            | true =>
              go_wp2
              go_round
              case rel => exact ⟨j + 1, is, by omega, by
                  have := (sofar_small (x :: T) (j + 1) is (.inr ⟨by omega, by simp; have := HLEN.out; omega, by rw [List.take_succ_cons]; exact HP.out.symm⟩)).1
                  omega, by go_num, rfl, .inr ⟨by omega, by simp; have := HLEN.out; omega, by rw [List.take_succ_cons]; exact HP.out.symm⟩⟩
              case measure => simp [intOf]; omega
            | false =>
              have HRD : Hid (rd (x :: T) = (65533, ((max j 1 : Nat) : Int), false)) := (sofar_end x T j false HS.out (.inr (.inr ⟨by have := HLEN.out; omega, by rw [List.take_succ_cons, ← HP.out]⟩))).2 rfl
              by_cases hj0 : j = 0
              · subst hj0
                go_wp2_with (at_builtin; refine wpList_app rfl _ _ 61 rfl w.heap.size 21 i0 (.int .i32 0) 4 Tryd.underlying61 hi hz0 hz1 hz2 rfl _ acc.length _ rfl hown hbel hbel.size [.int .i32 (65533)] 1 rfl rfl (by intro u hu; simp at hu; subst hu; rfl) (by unfold maxLen; omega) (by omega) ?_)
                intro v' w3 hown3 hbel3
                clear hown hbel
                have HDEC : Hid (dec (x :: T) = (65533) :: dec ((x :: T).drop (1))) := by
                  rw [dec_cons, HRD.out]
                  exact rfl
                by_cases hcm : cap = 1
                · have hnm : n = 1 := by omega
                  have HNIL : Hid ((x :: T).drop (1) = []) := List.drop_of_length_le (by have := HLEN.out; rw [List.length_cons]; omega)
                  go_wp2
                  go_roundw
                  case rel => exact ⟨some ⟨b, off, none⟩, 0, 0, [], acc ++ [65533], by omega, by simp; omega, (by first | (simp; done) | (simp; omega)), Rds.nil _, by rw [icells_append, List.length_append]; exact hown3, hbel3, by
                      have e := HT.out
                      rw [HDEC.out, HNIL.out] at e
                      rw [List.append_assoc]
                      exact e⟩
                  case measure => simp [lenS]; omega
                · go_wp2
                  go_roundw
                  case rel => exact ⟨some ⟨b, off + (1), none⟩, n - (1), cap - (1), (x :: T).drop (1), acc ++ [65533], by omega, by simp; omega, (by first | rfl | (simp; done) | (simp; omega)), by rw [bcells_drop]; exact HR.out.cut _ (by omega), by rw [icells_append, List.length_append]; exact hown3, hbel3, by
                      have e := HT.out
                      rw [HDEC.out] at e
                      rw [List.append_assoc]
                      exact e⟩
                  case measure => simp [lenS]; omega
              · have hj1 : 1 ≤ j := by omega
                have hmx : Hid (max j 1 = j) := by show max j 1 = j; omega
                rw [hmx.out] at HRD
                go_wp2_with (at_builtin; refine wpList_app rfl _ _ 61 rfl w.heap.size 21 i0 (.int .i32 0) 4 Tryd.underlying61 hi hz0 hz1 hz2 rfl _ acc.length _ rfl hown hbel hbel.size [.int .i32 (65533)] 1 rfl rfl (by intro u hu; simp at hu; subst hu; rfl) (by unfold maxLen; omega) (by omega) ?_)
                intro v' w3 hown3 hbel3
                clear hown hbel
                have HDEC : Hid (dec (x :: T) = (65533) :: dec ((x :: T).drop (j))) := by
                  rw [dec_cons, HRD.out]
                  exact rfl
                by_cases hcm : cap = j
                · have hnm : n = j := by omega
                  have HNIL : Hid ((x :: T).drop (j) = []) := List.drop_of_length_le (by have := HLEN.out; rw [List.length_cons]; omega)
                  go_wp2
                  go_roundw
                  case rel => exact ⟨some ⟨b, off, none⟩, 0, 0, [], acc ++ [65533], by omega, by simp; omega, (by first | (simp; done) | (simp; omega)), Rds.nil _, by rw [icells_append, List.length_append]; exact hown3, hbel3, by
                      have e := HT.out
                      rw [HDEC.out, HNIL.out] at e
                      rw [List.append_assoc]
                      exact e⟩
                  case measure => simp [lenS]; omega
                · go_wp2
                  go_roundw
                  case rel => exact ⟨some ⟨b, off + (j), none⟩, n - (j), cap - (j), (x :: T).drop (j), acc ++ [65533], by omega, by simp; omega, (by first | rfl | (simp; done) | (simp; omega)), by rw [bcells_drop]; exact HR.out.cut _ (by omega), by rw [icells_append, List.length_append]; exact hown3, hbel3, by
                      have e := HT.out
                      rw [HDEC.out] at e
                      rw [List.append_assoc]
                      exact e⟩
                  case measure => simp [lenS]; omega
          · have hjn : j = n := by omega
            subst hjn
            have HRD : Hid (rd (x :: T) = (65533, ((max j 1 : Nat) : Int), false)) := (sofar_end x T j false HS.out (.inr (.inl HLEN.out))).2 rfl
            by_cases hj0 : j = 0
            · exact absurd hp (by omega)
            · have hj1 : 1 ≤ j := by omega
              have hmx : Hid (max j 1 = j) := by show max j 1 = j; omega
              rw [hmx.out] at HRD
              go_wp2_with (at_builtin; refine wpList_app rfl _ _ 61 rfl w.heap.size 21 i0 (.int .i32 0) 4 Tryd.underlying61 hi hz0 hz1 hz2 rfl _ acc.length _ rfl hown hbel hbel.size [.int .i32 (65533)] 1 rfl rfl (by intro u hu; simp at hu; subst hu; rfl) (by unfold maxLen; omega) (by omega) ?_)
              intro v' w3 hown3 hbel3
              clear hown hbel
              have HDEC : Hid (dec (x :: T) = (65533) :: dec ((x :: T).drop (j))) := by
                rw [dec_cons, HRD.out]
                exact rfl
              by_cases hcm : cap = j
              · have hnm : j = j := rfl
                have HNIL : Hid ((x :: T).drop (j) = []) := List.drop_of_length_le (by have := HLEN.out; rw [List.length_cons]; omega)
                go_wp2
                go_roundw
                case rel => exact ⟨some ⟨b, off, none⟩, 0, 0, [], acc ++ [65533], by omega, by simp; omega, (by first | (simp; done) | (simp; omega)), Rds.nil _, by rw [icells_append, List.length_append]; exact hown3, hbel3, by
                    have e := HT.out
                    rw [HDEC.out, HNIL.out] at e
                    rw [List.append_assoc]
                    exact e⟩
                case measure => simp [lenS]; omega
              · go_wp2
                go_roundw
                case rel => exact ⟨some ⟨b, off + (j), none⟩, j - (j), cap - (j), (x :: T).drop (j), acc ++ [65533], by omega, by simp; omega, (by first | rfl | (simp; done) | (simp; omega)), by rw [bcells_drop]; exact HR.out.cut _ (by omega), by rw [icells_append, List.length_append]; exact hown3, hbel3, by
                    have e := HT.out
                    rw [HDEC.out] at e
                    rw [List.append_assoc]
                    exact e⟩
                case measure => simp [lenS]; omega
end Go.Proofs.YtleecmapaihhmaaDoor.RefD
