/- Paths with slashes, plain: what each component is as a URL's segment; it is read back. -/
import Derived.Test.YtleecmapaihhmaaDoorEscD
import Derived.Test.YtleecmapaihhmaaDoorEscE
set_option linter.unusedSimpArgs false
set_option linter.unusedVariables false
namespace Go.Proofs.YtleecmapaihhmaaDoor.PosS
open Go.RowKit Go.Proofs.YtleecmapaihhmaaDoor.Base Go.Proofs.YtleecmapaihhmaaDoor.UtfA Go.Proofs.YtleecmapaihhmaaDoor.UtfL Go.Proofs.YtleecmapaihhmaaDoor.EscI

theorem byteAll {p : UInt8 → Prop} [∀ c, Decidable (p c)] (h : ∀ n : Fin 256, p (UInt8.ofNat n.val)) (c : UInt8) : p c := by
  have := h ⟨c.toNat, c.toNat_lt⟩
  simpa using this
theorem dig_hex (n : Nat) (h : n < 16) : hex (EscE.dig n).toNat = n := by
  have H : ∀ k : Fin 16, hex ((EscE.dig k.val).toNat : Int) = (k.val : Int) := by decide
  exact H ⟨n, h⟩
theorem esc_one (c : UInt8) (rest : List UInt8) : EscD.esc (37 :: EscE.dig (c.toNat / 16) :: EscE.dig (c.toNat % 16) :: rest) = some c := by
  have hc := c.toNat_lt
  have h1 := dig_hex (c.toNat / 16) (by omega)
  have h2 := dig_hex (c.toNat % 16) (by omega)
  rw [EscD.esc, if_pos ⟨rfl, by rw [h1]; omega, by rw [h2]; omega⟩, h1, h2]
  congr 1
  apply UInt8.toNat_inj.1
  simp
  omega
theorem esc_not (x : UInt8) (t : List UInt8) (h : x ≠ 37) : EscD.esc (x :: t) = none := by
  match t with
  | [] => rfl
  | [_] => rfl
  | _ :: _ :: _ => rw [EscD.esc, if_neg (fun e => h e.1)]
/-- Is such a byte escaped in a component? -/
def odd (c : UInt8) : Bool := inS 4 c.toNat || (decide (c = 37) || (decide (c = 92) || decide (c = 124)))
def one (c : UInt8) : List UInt8 := if odd c = true then [37, EscE.dig (c.toNat / 16), EscE.dig (c.toNat % 16)] else [c]
def seg (L : List UInt8) : List UInt8 := L.flatMap one
theorem seg_cons (c : UInt8) (L : List UInt8) : seg (c :: L) = one c ++ seg L := by simp [seg]
theorem seg_app (a b : List UInt8) : seg (a ++ b) = seg a ++ seg b := by simp [seg]
theorem seg_len (L : List UInt8) : (seg L).length ≤ 3 * L.length := by
  induction L with
  | nil => simp [seg]
  | cons c L ih =>
    have h : (one c).length ≤ 3 := by unfold one; split <;> simp
    rw [seg_cons, List.length_append, List.length_cons]
    omega
theorem dec_seg (L : List UInt8) : EscD.dec (seg L) = L := by
  induction L with
  | nil => rfl
  | cons c L ih =>
    rw [seg_cons]
    unfold one
    split
    · rw [List.cons_append, List.cons_append, List.cons_append, List.nil_append, EscD.dec_some _ _ _ (esc_one c _)]
      simp only [List.drop_succ_cons, List.drop_zero, ih]
    · rename_i hn
      have hne : c ≠ 37 := by
        rintro rfl
        exact hn (by decide +kernel)
      rw [List.cons_append, List.nil_append, EscD.dec_none _ _ (esc_not c _ hne), ih]
theorem one_out (c : UInt8) (h : c ≠ 47) : ∀ d ∈ one c, inS 4 d.toNat = false ∧ d ≠ 47 ∧ d ≠ 92 ∧ d ≠ 124 :=
  byteAll (p := fun c => c ≠ 47 → ∀ d ∈ one c, inS 4 d.toNat = false ∧ d ≠ 47 ∧ d ≠ 92 ∧ d ≠ 124) (by decide +kernel) c h
theorem seg_out {L : List UInt8} (h : ∀ c ∈ L, c ≠ 47) : ∀ d ∈ seg L, inS 4 d.toNat = false ∧ d ≠ 47 ∧ d ≠ 92 ∧ d ≠ 124 := by
  intro d hd
  obtain ⟨c, hc, hm⟩ := List.mem_flatMap.1 hd
  exact one_out c (h c hc) d hm
end Go.Proofs.YtleecmapaihhmaaDoor.PosS
