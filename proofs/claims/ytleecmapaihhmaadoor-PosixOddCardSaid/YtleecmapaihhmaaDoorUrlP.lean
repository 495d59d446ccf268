/- URLs, plain: what is written of one. -/
import Derived.Test.YtleecmapaihhmaaDoorMA
import Derived.Lib.ItoaNum
set_option linter.unusedSimpArgs false
set_option linter.unusedVariables false
namespace Go.Proofs.YtleecmapaihhmaaDoor.UrlP
open Go.RowKit Go.Proofs.YtleecmapaihhmaaDoor.Base

abbrev bs (s : ByteArray) : List UInt8 := s.data.toList
/-- A path of segments, written. -/
def pth (l : List ByteArray) : List UInt8 := l.flatMap fun s => 47 :: s.data.toList
def pathL (b6 : Bool) (s7 : ByteArray) (l : List ByteArray) : List UInt8 := if b6 then s7.data.toList else pth l
def credL (s1 s2 : ByteArray) : List UInt8 := if s2.data.toList = [] then (if s1.data.toList = [] then [] else s1.data.toList ++ [64]) else s1.data.toList ++ [58] ++ s2.data.toList ++ [64]
def portL (z5 : Int) : List UInt8 := if z5 = -1 then [] else 58 :: Lib.itoa z5
/-- Would the path be read as a host? -/
def dotted (b6 : Bool) (l : List ByteArray) : Bool := !b6 && match l with
  | a :: _ :: _ => decide (a.data.toList = [])
  | _ => false
def midL (s1 s2 s3 : ByteArray) (b4 : Bool) (z5 : Int) (b6 : Bool) (l : List ByteArray) : List UInt8 :=
  if b4 then [47, 47] ++ credL s1 s2 ++ s3.data.toList ++ portL z5 else if dotted b6 l then [47, 46] else []
def bareL (s0 s1 s2 s3 : ByteArray) (b4 : Bool) (z5 : Int) (b6 : Bool) (s7 : ByteArray) (l : List ByteArray) (b9 : Bool) (s11 : ByteArray) : List UInt8 :=
  s0.data.toList ++ [58] ++ midL s1 s2 s3 b4 z5 b6 l ++ pathL b6 s7 l ++ (if b9 then 63 :: s11.data.toList else [])
def printL (s0 s1 s2 s3 : ByteArray) (b4 : Bool) (z5 : Int) (b6 : Bool) (s7 : ByteArray) (l : List ByteArray) (b9 b10 : Bool) (s11 s12 : ByteArray) : List UInt8 :=
  bareL s0 s1 s2 s3 b4 z5 b6 s7 l b9 s11 ++ (if b10 then 35 :: s12.data.toList else [])
/-- All that counts of two URLs. -/
def txt (h : Bool) (s : ByteArray) : Option (List UInt8) := if h then some s.data.toList else none
def same1 (s0 s1 s2 s3 : ByteArray) (b4 : Bool) (z5 : Int) (b6 : Bool) (s7 : ByteArray) (l : List ByteArray) (b9 b10 : Bool) (s11 s12 : ByteArray) : List (Option (List UInt8)) × Int × Bool × List ByteArray :=
  ([some s0.data.toList, some s1.data.toList, some s2.data.toList, txt b4 s3, txt b6 s7, txt b9 s11, txt b10 s12], z5, b6, if b6 then [] else l)
def fewN (s0 s1 s2 s3 s7 s11 s12 : ByteArray) (l : List ByteArray) : Nat := s0.size + s1.size + s2.size + s3.size + s7.size + s11.size + s12.size + (l.map (·.size)).sum
theorem pth_snoc (l : List ByteArray) (s : ByteArray) : pth (l ++ [s]) = pth l ++ (47 :: s.data.toList) := by simp [pth]
theorem length_pth (l : List ByteArray) : (pth l).length = l.length + (l.map (·.size)).sum := by
  induction l with
  | nil => rfl
  | cons a l ih =>
    have e : pth (a :: l) = (47 :: a.data.toList) ++ pth l := rfl
    rw [e, List.length_append, ih]
    simp only [List.length_cons, List.map_cons, List.sum_cons]
    rw [show a.data.toList.length = a.size from Array.length_toList]
    omega
theorem take_snoc (l : List ByteArray) (k : Nat) (h : k < l.length) : l.take (k + 1) = l.take k ++ [l[k]] := by
  rw [List.take_succ_eq_append_getElem h]
theorem sum_take (l : List ByteArray) (k : Nat) : ((l.take k).map (·.size)).sum ≤ (l.map (·.size)).sum := by
  have h : l.map (·.size) = (l.take k).map (·.size) ++ (l.drop k).map (·.size) := by rw [← List.map_append, List.take_append_drop]
  rw [h, List.sum_append]
  omega
theorem sum_at (l : List ByteArray) (k : Nat) (h : k < l.length) : ((l.take (k + 1)).map (·.size)).sum = ((l.take k).map (·.size)).sum + l[k].size := by
  rw [take_snoc l k h, List.map_append, List.sum_append]
  simp
theorem length_strOf_data (L : List UInt8) : (strOf L).data.toList = L := rfl
theorem ext_str {a b : ByteArray} (h : a.data.toList = b.data.toList) : a = b := by
  cases a; cases b; simp at h; subst h; rfl
theorem tl (s : ByteArray) : s.toList = s.data.toList := by
  obtain ⟨d⟩ := s; rw [ByteArray.toList_mk]
theorem beq_str (a b : ByteArray) : (a.toList == b.toList) = decide (a.data.toList = b.data.toList) := by
  rw [tl, tl, Bool.eq_iff_iff]; simp
end Go.Proofs.YtleecmapaihhmaaDoor.UrlP
