/- Texts that belong together: DatX. -/
import Derived.Test.YtcfgioklgmlclaaGreatDoorPF
set_option linter.unusedSimpArgs false
set_option linter.unusedVariables false
set_option maxRecDepth 100000
set_option maxHeartbeats 64000000
namespace Go.Proofs.YtcfgioklgmlclaaGreatDoor.DatX
open Go.RowKit Base eX fE MX aJ pO Gy nV qL xu aad Aw B64G X9 MV X7 aaP aaE
def hxd (k : Nat) : UInt8 := if k < 10 then UInt8.ofNat (48 + k) else UInt8.ofNat (87 + k)
def ec (c : UInt8) : List UInt8 := [37, hxd (c.toNat / 16), hxd (c.toNat % 16)]
def aV (b : List UInt8) : List UInt8 := b.flatMap ec
theorem aae (n : Nat) (h : n < 16) : hex (hxd n).toNat = n := by
 have H : ∀ k : Fin 16, hex ((hxd k.val).toNat : Int) = (k.val : Int) := by decide
 exact H ⟨n, h⟩
theorem esc_hxd (c : UInt8) (rest : List UInt8) : esc (37 :: hxd (c.toNat / 16) :: hxd (c.toNat % 16) :: rest) = some c := by
 have hc := c.toNat_lt
 have h1 := aae (c.toNat / 16) (by omega)
 have h2 := aae (c.toNat % 16) (by omega)
 rw [esc, if_pos ⟨rfl, by rw [h1]; omega, by rw [h2]; omega⟩, h1, h2]
 congr 1
 apply UInt8.toNat_inj.1
 simp
 omega
theorem Nv (c : UInt8) (b : List UInt8) : aV (c :: b) = 37 :: hxd (c.toNat / 16) :: hxd (c.toNat % 16) :: aV b := by simp [aV, ec]
theorem aah (c : UInt8) (b : List UInt8) : aV (b ++ [c]) = (aV b ++ [37]) ++ [hxd (c.toNat / 16)] ++ [hxd (c.toNat % 16)] := by simp [aV, ec]
theorem FB : ∀ b : List UInt8, (aV b).length = 3 * b.length
 | [] => rfl
 | c :: b => by
  rw [Nv, List.length_cons, List.length_cons, List.length_cons, List.length_cons, FB b]
  omega
theorem X0 : ∀ b : List UInt8, dec (aV b) = b
 | [] => kK
 | c :: b => by
  rw [Nv, uI _ _ c (esc_hxd c (aV b))]
  show c :: dec (aV b) = _
  rw [X0 b]
theorem ec_good (c : UInt8) : ∀ d ∈ ec c, Gd d := by
 have h := eH (p := fun c => ∀ d ∈ ec c, Gd d) (by decide +kernel) c
 exact h
theorem PS (b : List UInt8) : ∀ d ∈ aV b, Gd d := by
 intro d hd
 obtain ⟨c, _, h⟩ := List.mem_flatMap.1 hd
 exact ec_good c d h
def Y1 (b : List UInt8) : List UInt8 := 44 :: aV b
def XT (b : List UInt8) : List UInt8 := zO ++ 44 :: e64 b
theorem X5 {X : List UInt8} (hX : ∀ d ∈ X, Gd d) (P : List UInt8) (p : UInt8) (hp : p ≠ 32) : ∃ M d, (P ++ [p]) ++ X = M ++ [d] ∧ d ≠ 32 := by
 rcases List.eq_nil_or_concat X with e | ⟨M, d, e⟩
 ·exact ⟨P, p, by rw [e, List.append_nil], hp⟩
 ·rw [List.concat_eq_append] at e
  refine ⟨(P ++ [p]) ++ M, d, by rw [e]; simp, ?_⟩
  have := (hX d (by rw [e]; simp)).1
  intro h
  rw [h] at this
  exact absurd this (by decide)
theorem gd_ok {c : UInt8} (h : Gd c) : 32 ≤ c.toNat ∧ c.toNat ≤ 126 ∧ c ≠ 35 ∧ c ≠ 63 := ⟨by have := h.1; omega, h.2.1, h.2.2.1, h.2.2.2.2⟩
theorem url_pln (b : List UInt8) : aH.url (xO ++ Y1 b) none = some (uM (Y1 b)) := by
 refine TD (fun c hc => ?_) ⟨44, _, rfl, by decide⟩ ?_
 ·rcases List.mem_cons.1 hc with rfl | hc
  ·decide
  ·exact gd_ok (PS b c hc)
 ·exact X5 (PS b) [] 44 (by decide)
theorem url_b64 (b : List UInt8) : aH.url (xO ++ XT b) none = some (uM (XT b)) := by
 refine TD (fun c hc => ?_) ⟨59, _, rfl, by decide⟩ ?_
 ·rcases List.mem_append.1 hc with hc | hc
  ·exact (by decide : ∀ c ∈ zO, 32 ≤ c.toNat ∧ c.toNat ≤ 126 ∧ c ≠ 35 ∧ c ≠ 63) c hc
  ·rcases List.mem_cons.1 hc with rfl | hc
   ·decide
   ·exact gd_ok (QU b c hc).1
 ·have h := X5 (fun d hd => (QU b d hd).1) zO 44 (by decide)
  rw [List.append_assoc] at h
  exact h
theorem aag : typ [] = fall := by kernel_rfl
theorem Y4 (b : List UInt8) : proc (Y1 b) = some (fall, b) := by
 unfold proc
 rw [show Y1 b = [] ++ 44 :: aV b from rfl, oI 44 [] (aV b) (by simp), if_pos rfl]
 simp only
 rw [show Lib.trimS [] ws = ([] : List UInt8) from rfl, show FY [] = false from rfl, aag, X0]
 rfl
theorem Y2 (b : List UInt8) : proc (XT b) = some (fall, b) := by
 have hd : dec (e64 b) = e64 b := abv _ fun x hxd => (QU b x hxd).2
 obtain ⟨k1, k2⟩ := back b (e64 b) (aaf b)
 unfold proc
 rw [show XT b = zO ++ 44 :: e64 b from rfl, oI 44 zO (e64 b) (by decide), if_pos rfl]
 simp only
 rw [show Lib.trimS zO ws = zO by decide, show FY zO = true by decide, show JK zO = [] by decide, if_pos rfl, hd, k1, if_pos rfl, k2, aag]
theorem aaJ (b : List UInt8) : (e64 b).length ≤ 2 * b.length + 4 := by
 rw [(oq b).1, List.length_append, abh, List.length_replicate]
 have := ab1 b
 omega
end Go.Proofs.YtcfgioklgmlclaaGreatDoor.DatX
