/- base.unpad: '=' taken off the end, two at most, where the length is divided by four. -/
import Derived.Test.YtflklgcnjliipaaB64N
namespace Go.Proofs.Ytflklgcnjliipaa.B64U
open Go.RowKit Go.Proofs.Ytflklgcnjliipaa.Base Go.Proofs.Ytflklgcnjliipaa.Base2 Go.Proofs.Ytflklgcnjliipaa.B64N

theorem strip_nil : strip [] = [] := rfl
theorem strip_yes (L : List UInt8) (c : UInt8) (hc : L.getLast? = some c) (e : c = 61) : strip L = L.take (L.length - 1) := by
  unfold strip
  rw [if_pos (by rw [hc, e]), List.dropLast_eq_take]
theorem strip_no (L : List UInt8) (c : UInt8) (hc : L.getLast? = some c) (e : c ≠ 61) : strip L = L := by
  unfold strip
  rw [if_neg (by rw [hc]; simpa using e)]
theorem Rds_nil_any {w : World} {A : Option Addr} (L : List UInt8) (h : L.length = 0) : Rds w A 0 (bcells L) := by
  obtain rfl := List.eq_nil_of_length_eq_zero h
  exact Rds.nil A
set_option maxRecDepth 100000 in
theorem unpad_any (A : Option Addr) (n cap : Nat) (L : List UInt8) (w : World) (h : Rds w A n (bcells L)) (hc : n ≤ cap) (hm : n ≤ 1073741824) :
    Calls Try.prog 13 #[.slice A n cap] w fun e w' => e = .returned (.slice A (unp L).length cap) ∧ Rds w A (unp L).length (bcells (unp L)) ∧ Below w.heap.size w w' := by
  have hl : L.length = n := by rw [← length_bcells]; exact h.1
  have HL := hid hl
  have HH := hid h
  clear h hl
  by_cases h4 : n % 4 = 0
  · have HU : Hid (unp L = strip (strip L)) := by
      show unp L = _
      unfold unp
      rw [if_pos (by rw [HL.out]; exact h4)]
    have h4' : ((n : Int).tmod 4) = 0 := by rw [Int.tmod_eq_emod_of_nonneg (by omega)]; omega
    have h4'' : (n : Int) % 4 = 0 := by omega
    go_enter Try.func13, Try.ntmps13
    go_wp2
    go_loopw [0, 8] (fun v vk wr => ∃ (k m : Nat) (M : List UInt8), k ≤ 2 ∧ vk = .int .i64 k ∧ v = .slice A m cap ∧ m ≤ n ∧ Hid (Rds w A m (bcells M)) ∧ Hid ((k = 0 ∧ M = L) ∨ (k = 1 ∧ M = strip L) ∨ (k = 2 ∧ M = strip (strip L))) ∧ Below w.heap.size w wr) (fun _ vk _ => 2 - (intOf vk).toNat)
    case atStart => exact ⟨0, n, L, by omega, rfl, rfl, Nat.le_refl _, HH, Or.inl ⟨rfl, rfl⟩, Below.refl _ _⟩
    case round =>
      obtain ⟨k, m, M, hk, rfl, rfl, hmn, HM, HC, hbel⟩ := hrel
      have hml : M.length = m := by rw [← length_bcells]; exact HM.out.1
      by_cases hlt : k < 2
      · by_cases hm0 : 0 < m
        · obtain ⟨b, off, rfl, hb, _⟩ := (HM.out).spot hm0
          obtain ⟨c, hx⟩ : ∃ c, c = M[m - 1]'(by omega) := ⟨_, rfl⟩
          have hcell : wr.cell? ⟨b, off + (m - 1), none⟩ = some (.int .u8 (c.toNat : Int)) := by
            rw [hx, ← HM.out.byte (m - 1) (by omega)]
            exact hbel.cell (p := ⟨b, off + (m - 1), none⟩) hb
          have hidx : ((m : Int) - 1) = ((m - 1 : Nat) : Int) := by omega
          have hidx2 : ((m : Int) - 1).toNat = m - 1 := by omega
          have HX : Hid (M.getLast? = some c) := by
            show M.getLast? = some c
            rw [hx, List.getLast?_eq_getElem?, List.getElem?_eq_getElem (by omega)]
            congr 2
            omega
          have HML := hid hml
          clear hx hml
          by_cases h61 : (c.toNat : Int) = 61
          · have HS : Hid (strip M = M.take (m - 1)) := by
              have := strip_yes M c HX.out (UInt8.toNat_inj.1 (by simpa using Int.ofNat_inj.1 h61))
              rw [HML.out] at this
              exact this
            go_wp2
            go_roundw
            case rel => exact ⟨k + 1, m - 1, M.take (m - 1), by omega, by go_num, by simp <;> omega, by omega, by rw [bcells_take]; exact HM.out.upto (m - 1) (by omega), by
              show _ ∨ _
              rw [← HS.out]
              rcases HC.out with ⟨rfl, rfl⟩ | ⟨rfl, rfl⟩ | ⟨rfl, rfl⟩
              · exact Or.inr (Or.inl ⟨rfl, rfl⟩)
              · exact Or.inr (Or.inr ⟨rfl, rfl⟩)
              · omega, hbel⟩
            case measure => simp [intOf]; omega
          · have HS : Hid (strip M = M) := strip_no M c HX.out (fun e => h61 (by rw [e]; rfl))
            go_wp2
            go_roundw
            case rel => exact ⟨k + 1, m, M, by omega, by go_num, rfl, by omega, HM, by
              show _ ∨ _
              rcases HC.out with ⟨rfl, rfl⟩ | ⟨rfl, rfl⟩ | ⟨rfl, rfl⟩
              · exact Or.inr (Or.inl ⟨rfl, HS.out.symm⟩)
              · refine Or.inr (Or.inr ⟨rfl, ?_⟩)
                rw [HS.out]
              · omega, hbel⟩
            case measure => simp [intOf]; omega
        · obtain rfl : m = 0 := by omega
          have HS : Hid (strip M = M) := by
            rw [List.eq_nil_of_length_eq_zero hml]
            exact strip_nil
          clear hml
          go_wp2
          go_roundw
          case rel => exact ⟨k + 1, 0, M, by omega, by go_num, rfl, by omega, HM, by
            show _ ∨ _
            rcases HC.out with ⟨rfl, rfl⟩ | ⟨rfl, rfl⟩ | ⟨rfl, rfl⟩
            · exact Or.inr (Or.inl ⟨rfl, HS.out.symm⟩)
            · refine Or.inr (Or.inr ⟨rfl, ?_⟩)
              rw [HS.out]
            · omega, hbel⟩
          case measure => simp [intOf]; omega
      · obtain rfl : k = 2 := by omega
        have HE : Hid (M = unp L) := by
          rw [HU.out]
          rcases HC.out with ⟨h, _⟩ | ⟨h, _⟩ | ⟨_, h⟩
          · omega
          · omega
          · exact h
        have HML : Hid ((unp L).length = m) := by rw [← HE.out]; exact hml
        clear hml
        go_wp2
        go_ret
        rw [HML.out, ← HE.out]
        exact ⟨rfl, HM.out, hbel⟩
  · have HU : Hid (unp L = L) := by
      show unp L = _
      unfold unp
      rw [if_neg (by rw [HL.out]; exact h4)]
    have h4' : ¬ ((n : Int).tmod 4) = 0 := by rw [Int.tmod_eq_emod_of_nonneg (by omega)]; omega
    have h4'' : ¬ (n : Int) % 4 = 0 := by omega
    go_enter Try.func13, Try.ntmps13
    go_wp2
    go_ret
    rw [HU.out, HL.out]
    exact ⟨rfl, HH.out, Below.refl _ _⟩
end Go.Proofs.Ytflklgcnjliipaa.B64U
