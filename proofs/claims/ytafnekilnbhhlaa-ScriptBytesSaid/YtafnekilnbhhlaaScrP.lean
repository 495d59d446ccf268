/- Scripts: plain words: operations, their bytes, what is read of bytes. -/
import Derived.Test.YtafnekilnbhhlaaAnsD
namespace Go.Proofs.Ytafnekilnbhhlaa.ScrP
open Go.RowKit Go.Proofs.Ytafnekilnbhhlaa.Base Go.Proofs.Ytafnekilnbhhlaa.AnsP Go.Proofs.Ytafnekilnbhhlaa.AnsR Go.Proofs.Ytafnekilnbhhlaa.AnsD

/-- An operation: its numbers (as many bits as they are written with), its texts, its bytes. -/
structure O where
  k : Nat
  f : Nat
  h : Nat
  a : Nat
  b : Nat
  s : List UInt8
  t : List UInt8
  c : List UInt8
  d : List UInt8
  p : Nat
  n : Nat
  r : List UInt8
structure Fits (o : O) : Prop where
  k : o.k < 256
  f : o.f < 256
  h : o.h < 18446744073709551616
  a : o.a < 18446744073709551616
  b : o.b < 18446744073709551616
  s : o.s.length < 4294967296
  t : o.t.length < 4294967296
  c : o.c.length < 4294967296
  d : o.d.length < 4294967296
  p : o.p < 18446744073709551616
  n : o.n < 18446744073709551616
  r : o.r.length = 16
def enco (o : O) : List UInt8 := be o.k 1 ++ (be o.f 1 ++ (be o.h 8 ++ (be o.a 8 ++ (be o.b 8 ++ (str o.s ++ (str o.t ++ (str o.c ++ (str o.d ++ (be o.p 8 ++ (be o.n 8 ++ o.r))))))))))
inductive Fld where
  | num (m : Nat) (set : O → Nat → O)
  | txt (set : O → List UInt8 → O)
/-- What is read of bytes, field by field. -/
def rdf : List Fld → O → List UInt8 → Option (O × List UInt8)
  | [], o, L => if 16 ≤ L.length then some ({ o with r := L.take 16 }, L.drop 16) else none
  | .num m set :: fs, o, L => match rd m L with
    | none => none
    | some (x, M) => rdf fs (set o x) M
  | .txt set :: fs, o, L => match txt L with
    | none => none
    | some (x, M) => rdf fs (set o x) M
def zro : O := ⟨0, 0, 0, 0, 0, [], [], [], [], 0, 0, List.replicate 16 0⟩
def flds : List Fld := [.num 1 fun o x => { o with k := x }, .num 1 fun o x => { o with f := x }, .num 8 fun o x => { o with h := x }, .num 8 fun o x => { o with a := x }, .num 8 fun o x => { o with b := x },
  .txt fun o x => { o with s := x }, .txt fun o x => { o with t := x }, .txt fun o x => { o with c := x }, .txt fun o x => { o with d := x }, .num 8 fun o x => { o with p := x }, .num 8 fun o x => { o with n := x }]
def dec1 (L : List UInt8) : Option (O × List UInt8) := rdf flds zro L
/-- Behind some fields: what is left to be read says what all says; or it is bad. -/
structure Sound (L : List UInt8) (fs : List Fld) (o : O) (M : List UInt8) (b : Bool) : Prop where
  yes : b = false → dec1 L = rdf fs o M
  no : b = true → dec1 L = none
theorem Sound.num {L : List UInt8} {m : Nat} {set : O → Nat → O} {fs : List Fld} {o : O} {M : List UInt8} {b : Bool} (h : Sound L (.num m set :: fs) o M b) : Sound L fs (set o (val (tk m M))) (dp m M) (bd m M b) := by
  cases b with
  | true => exact ⟨fun e => absurd e (by rw [bd_true]; simp), fun _ => h.no rfl⟩
  | false => exact ⟨fun e => by rw [h.yes rfl]; simp only [rdf, rd_yes e], fun e => by rw [h.yes rfl]; simp only [rdf, rd_no e]⟩
theorem Sound.txt {L : List UInt8} {set : O → List UInt8 → O} {fs : List Fld} {o : O} {M : List UInt8} {b : Bool} (h : Sound L (.txt set :: fs) o M b) : Sound L fs (set o (tt M)) (td M) (tb M b) := by
  cases b with
  | true => exact ⟨fun e => absurd e (by rw [tb_true]; simp), fun _ => h.no rfl⟩
  | false => exact ⟨fun e => by rw [h.yes rfl]; simp only [rdf, txt_yes e], fun e => by rw [h.yes rfl]; simp only [rdf, txt_no e]⟩
theorem length_enco (o : O) (h : Fits o) : (enco o).length = 74 + (o.s.length + o.t.length + o.c.length + o.d.length) := by
  unfold enco str
  simp only [List.length_append, length_be, h.r]
  omega
theorem dec1_enco (o : O) (h : Fits o) (M : List UInt8) : dec1 (enco o ++ M) = some (o, M) := by
  unfold dec1 enco flds
  simp only [List.append_assoc]
  rw [rdf, rd_be _ _ _ (by simpa using h.k)]; simp only
  rw [rdf, rd_be _ _ _ (by simpa using h.f)]; simp only
  rw [rdf, rd_be _ _ _ (by simpa using h.h)]; simp only
  rw [rdf, rd_be _ _ _ (by simpa using h.a)]; simp only
  rw [rdf, rd_be _ _ _ (by simpa using h.b)]; simp only
  rw [rdf, txt_str _ _ h.s]; simp only
  rw [rdf, txt_str _ _ h.t]; simp only
  rw [rdf, txt_str _ _ h.c]; simp only
  rw [rdf, txt_str _ _ h.d]; simp only
  rw [rdf, rd_be _ _ _ (by simpa using h.p)]; simp only
  rw [rdf, rd_be _ _ _ (by simpa using h.n)]; simp only
  rw [rdf, if_pos (by rw [List.length_append, h.r]; omega), List.take_left' h.r, List.drop_left' h.r]
theorem rd_len {m n : Nat} {L r : List UInt8} (h : rd m L = some (n, r)) : r.length + m = L.length := by
  obtain ⟨rfl, _⟩ := rd_some h
  rw [List.length_append, length_be]
  omega
theorem txt_len {L k r : List UInt8} (h : txt L = some (k, r)) : r.length ≤ L.length := by
  obtain ⟨rfl, _⟩ := txt_some h
  rw [List.length_append]
  omega
theorem rdf_len : ∀ (fs : List Fld) (o : O) (L : List UInt8) (x : O) (M : List UInt8), rdf fs o L = some (x, M) → M.length + 16 ≤ L.length ∧ x.r.length = 16
  | [], o, L, x, M, h => by
    rw [rdf] at h
    split at h
    · injection h with h
      injection h with h1 h2
      subst h1 h2
      simp only [List.length_drop, List.length_take]
      omega
    · cases h
  | .num m set :: fs, o, L, x, M, h => by
    rw [rdf] at h
    split at h
    · cases h
    · rename_i y N e
      have := rdf_len fs _ N x M h
      have := rd_len e
      exact ⟨by omega, by omega⟩
  | .txt set :: fs, o, L, x, M, h => by
    rw [rdf] at h
    split at h
    · cases h
    · rename_i y N e
      have := rdf_len fs _ N x M h
      have := txt_len e
      exact ⟨by omega, by omega⟩
theorem dec1_len {L M : List UInt8} {o : O} (h : dec1 L = some (o, M)) : M.length + 16 ≤ L.length := (rdf_len _ _ _ _ _ h).1
theorem dec1_r {L M : List UInt8} {o : O} (h : dec1 L = some (o, M)) : o.r.length = 16 := (rdf_len _ _ _ _ _ h).2
/-- All operations. -/
def decs : Nat → List UInt8 → Option (List O)
  | 0, L => if L = [] then some [] else none
  | n + 1, L => if L = [] then some [] else match dec1 L with
    | none => none
    | some (o, M) => (decs n M).map (o :: ·)
theorem decs_more : ∀ (n m : Nat) (L : List UInt8), L.length ≤ n → L.length ≤ m → decs n L = decs m L
  | 0, 0, L, _, _ => rfl
  | 0, m + 1, L, h, _ => by
    obtain rfl : L = [] := List.eq_nil_of_length_eq_zero (by omega)
    simp [decs]
  | n + 1, 0, L, _, h => by
    obtain rfl : L = [] := List.eq_nil_of_length_eq_zero (by omega)
    simp [decs]
  | n + 1, m + 1, L, h1, h2 => by
    rw [decs, decs]
    split
    · rfl
    · cases e : dec1 L with
      | none => rfl
      | some p =>
        obtain ⟨o, M⟩ := p
        have := dec1_len e
        simp only
        rw [decs_more n m M (by omega) (by omega)]
def decAll (L : List UInt8) : Option (List O) := decs L.length L
theorem decAll_nil : decAll [] = some [] := rfl
theorem decAll_bad {L : List UInt8} (h : L ≠ []) (e : dec1 L = none) : decAll L = none := by
  unfold decAll
  cases hn : L.length with
  | zero => exact absurd (List.eq_nil_of_length_eq_zero hn) h
  | succ n => rw [decs, if_neg h, e]
theorem decAll_more {L M : List UInt8} {o : O} (h : L ≠ []) (e : dec1 L = some (o, M)) : decAll L = (decAll M).map (o :: ·) := by
  have hl := dec1_len e
  unfold decAll
  cases hn : L.length with
  | zero => exact absurd (List.eq_nil_of_length_eq_zero hn) h
  | succ n =>
    rw [decs, if_neg h, e]
    simp only
    rw [decs_more n M.length M (by omega) (Nat.le_refl _)]
/-- acc has been read of L, M is left. -/
def Led (L : List UInt8) (acc : List O) (M : List UInt8) : Prop := decAll L = (decAll M).map (acc ++ ·) ∧ acc.length + M.length ≤ L.length ∧ ∀ o ∈ acc, o.r.length = 16
theorem led_nil (L : List UInt8) : Led L [] L := ⟨by cases decAll L <;> simp, by simp, by simp⟩
theorem Led.more {L M N : List UInt8} {acc : List O} {o : O} (h : Led L acc M) (hn : M ≠ []) (e : dec1 M = some (o, N)) : Led L (acc ++ [o]) N := by
  have := dec1_len e
  refine ⟨?_, by have := h.2.1; simp only [List.length_append, List.length_cons, List.length_nil]; omega, fun x hx => ?_⟩
  · rw [h.1, decAll_more hn e]
    cases decAll N <;> simp
  · rcases List.mem_append.1 hx with hx | hx
    · exact h.2.2 x hx
    · obtain rfl : x = o := by simpa using hx
      exact dec1_r e
theorem Led.done {L : List UInt8} {acc : List O} (h : Led L acc []) : decAll L = some acc := by rw [h.1, decAll_nil]; simp
theorem Led.bad {L M : List UInt8} {acc : List O} (h : Led L acc M) (hn : M ≠ []) (e : dec1 M = none) : decAll L = none := by rw [h.1, decAll_bad hn e]; rfl
def encs (l : List O) : List UInt8 := l.flatMap enco
theorem enco_ne (o : O) : enco o ≠ [] := by
  intro h
  have := congrArg List.length h
  unfold enco at this
  simp only [List.length_append, length_be, List.length_nil] at this
  omega
theorem decAll_encs (l : List O) (h : ∀ o ∈ l, Fits o) : decAll (encs l) = some l := by
  induction l with
  | nil => rfl
  | cons o l ih =>
    have e : encs (o :: l) = enco o ++ encs l := rfl
    rw [e, decAll_more (fun hn => enco_ne o (List.append_eq_nil_iff.1 hn).1) (dec1_enco o (h o (by simp)) _), ih fun x hx => h x (by simp [hx])]
    rfl
theorem encs_append (a b : List O) : encs (a ++ b) = encs a ++ encs b := by unfold encs; rw [List.flatMap_append]
theorem encs_len (l : List O) (h : ∀ o ∈ l, Fits o ∧ o.s.length + o.t.length + o.c.length + o.d.length ≤ 1000) : (encs l).length ≤ 1074 * l.length := by
  induction l with
  | nil => simp [encs]
  | cons o l ih =>
    have e : encs (o :: l) = enco o ++ encs l := rfl
    have h1 := h o (by simp)
    have := length_enco o h1.1
    have := ih fun x hx => h x (by simp [hx])
    rw [e, List.length_append, List.length_cons]
    omega
end Go.Proofs.Ytafnekilnbhhlaa.ScrP
