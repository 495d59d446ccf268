/- Texts that belong together: oO. -/
import Derived.Test.YtmpeaoacaecgpaaGreatDoorYAA
import Derived.Lib.SplitLaws
import Derived.Lib.LastIndexByte
set_option linter.unusedSimpArgs false
set_option linter.unusedVariables false
set_option maxRecDepth 100000
set_option maxHeartbeats 64000000
namespace Go.Proofs.YtmpeaoacaecgpaaGreatDoor.oO
open Go.RowKit Base dI
theorem vG (c:UInt8): -1≤hex c.toNat∧hex c.toNat≤15:=by
 have H:∀n:Fin 256,-1≤hex (n.val:Int)∧hex (n.val:Int)≤15:=by decide+kernel
 exact H ⟨c.toNat,c.toNat_lt⟩
def lH (b:Nat) (c:UInt8):Bool:=decide (0≤hex c.toNat)&&decide (hex c.toNat<b)
def eu (b:Nat) (L:List UInt8):Bool:=L.all (lH b)
def dv (c:UInt8):Nat:=(hex c.toNat).toNat
def val (b:Nat) (L:List UInt8):Nat:=L.foldl (fun n c=>n*b+dv c) 0
theorem jh (b:Nat) (L:List UInt8) (c:UInt8):val b (L++[c])=val b L*b+dv c:=by simp[val]
def Ht:List UInt8→Nat×List UInt8
 |[]=>(10,[])
 |[a]=>(10,[a])
 |a::x::r=>if a=48 then(if x=120∨x=88 then(16,r)else(8,x::r))else(10,a::x::r)
def num (L:List UInt8):Option Nat:=if L=[]then none else if eu (Ht L).1 (Ht L).2=true then some (val (Ht L).1 (Ht L).2)else none
theorem anB (L:List UInt8):(Ht L).1=8∨(Ht L).1=10∨(Ht L).1=16:=by
 unfold Ht
 repeat' split
 all_goals simp
def sat (n:Nat):Nat:=min n 4294967296
theorem Ea (v b d:Nat) (hb:1≤b):min (sat v*b+d) 4294967296=sat (v*b+d):=by
 unfold sat
 by_cases h:v≤4294967296
 ·rw[Nat.min_eq_left h]
 rw[Nat.min_eq_right (show 4294967296≤v by omega)]
 have h1:4294967296≤4294967296*b:=Nat.le_mul_of_pos_right _ hb
 have h2:4294967296*b≤v*b:=Nat.mul_le_mul_right _ (by omega)
 omega
def big (b:Nat) (L:List UInt8):Nat:=L.foldl (fun n c=>if n<1099511627776 then n*b+dv c else n) 0
theorem yE (b:Nat) (L:List UInt8) (c:UInt8):big b (L++[c])=if big b L<1099511627776 then big b L*b+dv c else big b L:=by
 unfold big
 rw[List.foldl_append]
 rfl
theorem big_rel (b:Nat) (hb:1≤b) (L:List UInt8):(big b L<1099511627776∧big b L=val b L)∨(1099511627776≤big b L∧1099511627776≤val b L):=by
 have H:∀M:List UInt8,(big b M.reverse<1099511627776∧big b M.reverse=val b M.reverse)∨(1099511627776≤big b M.reverse∧1099511627776≤val b M.reverse):=by
  intro M
  induction M with
  |nil=>exact .inl ⟨by show(0:Nat)<_;omega,rfl⟩
  |cons c M ih=>
   rw[List.reverse_cons,yE,jh]
   rcases ih with⟨h1,h2⟩|⟨h1,h2⟩
   ·rw[if_pos h1,h2]
    by_cases h:val b M.reverse*b+dv c<1099511627776
    ·exact .inl ⟨h,rfl⟩
    exact .inr ⟨by omega,by omega⟩
   rw[if_neg (by omega)]
   have:val b M.reverse≤val b M.reverse*b:=Nat.le_mul_of_pos_right _ hb
   exact .inr ⟨h1,by omega⟩
 have:=H L.reverse
 rwa[List.reverse_reverse]at this
theorem U8 (c:UInt8):dv c≤15:=by have:=vG c;unfold dv;omega
theorem PO (b:Nat) (hb:b≤16) (L:List UInt8):big b L≤17592186044431:=by
 have H:∀M:List UInt8,big b M.reverse≤17592186044431:=by
  intro M
  induction M with
  |nil=>simp[big]
  |cons c M ih=>
   rw[List.reverse_cons,yE]
   split
   ·rename_i h
    have h1:big b M.reverse*b≤1099511627775*16:=Nat.mul_le_mul (by omega) hb
    have:=U8 c
    omega
   exact ih
 have:=H L.reverse
 rwa[List.reverse_reverse]at this
def bZ:List UInt8→List (List UInt8)
 |[]=>[[]]
 |c::L=>if c=46 then[]::bZ L else match bZ L with
  |[]=>[[c]]
  |x::r=>(c::x)::r
theorem qY:∀L:List UInt8,bZ L≠[]
 |[]=>by simp[bZ]
 |c::L=>by
  unfold bZ
  split
  ·simp
  ·split<;>simp
theorem xR:∀L:List UInt8,bZ (L++[46])=bZ L++[[]]
 |[]=>rfl
 |c::L=>by
  rw[List.cons_append,bZ,bZ,xR L]
  split
  ·rfl
  ·have:=qY L
   cases h:bZ L with
   |nil=>exact absurd h this
   |cons x r=>rfl
theorem tu (d:UInt8) (hd:d≠46):∀L:List UInt8,∃xs x,bZ L=xs++[x]∧bZ (L++[d])=xs++[x++[d]]
 |[]=>⟨[],[],rfl,by simp[bZ,hd]⟩
 |c::L=>by
  obtain⟨xs,x,h1,h2⟩:=tu d hd L
  rw[List.cons_append,bZ,bZ,h1,h2]
  split
  ·exact⟨[]::xs,x,rfl,rfl⟩
  ·cases xs with
   |nil=>exact⟨[],c::x,rfl,rfl⟩
   |cons y ys=>exact⟨(c::y)::ys,x,rfl,rfl⟩
def oH (L:List UInt8):List UInt8:=Lib.trimSuffix L [46]
theorem YG (L:List UInt8):oH (L++[46])=L:=by
 unfold oH Lib.trimSuffix
 rw[if_pos (by simp[Lib.hasSuffix])]
 simp
theorem L9 (L:List UInt8) (d:UInt8) (hd:d≠46):oH (L++[d])=L++[d]:=by
 unfold oH Lib.trimSuffix
 rw[if_neg ?_]
 intro h
 simp only[Lib.hasSuffix,List.isSuffixOf_iff_suffix]at h
 obtain⟨t,ht⟩:=h
 have:=List.append_inj_right' ht rfl
 simp at this
 exact hd this.symm
def prt (l:List (List UInt8)):List (List UInt8):=if 1<l.length∧l.getLast?=some []then l.take (l.length - 1)else l
theorem ahe (L:List UInt8):L=[]∨(∃M,L=M++[46])∨∃M d,d≠46∧L=M++[d]:=by
 rcases List.eq_nil_or_concat L with h|⟨M,d,h⟩
 ·exact .inl h
 rw[List.concat_eq_append]at h
 by_cases hd:d=46
 ·exact .inr (.inl ⟨M,by rw[h,hd]⟩)
 exact .inr (.inr ⟨M,d,hd,h⟩)
theorem abd (L:List UInt8):prt (bZ L)=bZ (oH L):=by
 rcases ahe L with rfl|⟨M,rfl⟩|⟨M,d,hd,rfl⟩
 ·rfl
 ·rw[xR,YG]
  have:=List.length_pos_iff.2 (qY M)
  unfold prt
  rw[if_pos ⟨by simp;omega,by simp⟩]
  simp
 rw[L9 _ _ hd]
 obtain⟨xs,x,h1,h2⟩:=tu d hd M
 rw[h2]
 unfold prt
 rw[if_neg (by simp)]
theorem rW (L:List UInt8):(bZ L).length≤L.length+1:=by
 induction L with
 |nil=>simp[bZ]
 |cons c L ih=>
  unfold bZ
  split
  ·simp;omega
  split
  ·simp
  rename_i h;rw[h]at ih;simp at ih⊢;omega
theorem qK:∀(L:List UInt8),∀x ∈ bZ L,x.length≤L.length
 |[],x,h=>by simp[bZ]at h;subst h;simp
 | c :: L, x, h => by
  unfold bZ at h
  split at h
  ·rcases List.mem_cons.1 h with rfl|h
   ·simp
   ·have:=qK L x h;simp;omega
  ·split at h
   ·simp at h;subst h;simp
   ·rename_i y r e
    rcases List.mem_cons.1 h with rfl|h
    ·have:=qK L y (by rw[e];simp);simp;omega
    ·have:=qK L x (by rw[e];simp[h]);simp;omega
theorem Fa (L:List UInt8):(oH L).length≤L.length:=by
 unfold oH Lib.trimSuffix
 split
 ·rw[List.length_take];omega
 exact Nat.le_refl _
def mZ:Nat→Nat→List (List UInt8)→Option Nat
 |_,acc,[]=>some acc
 |most,acc,[p]=>match num p with
  |some v=>if v<most then some (acc+v)else none
  |none=>none
 |most,acc,p::q::r=>match num p with
  |some v=>if v≤255 then mZ (most / 256) (acc+v*(most / 256)) (q::r)else none
  |none=>none
def NR (L:List UInt8):Option Nat:=if (bZ (oH L)).length≤4 then mZ 4294967296 0 (bZ (oH L))else none
def lst (L:List UInt8):List UInt8:=((bZ L).getLast?).getD []
def ends (L:List UInt8):Bool:=(num (lst (oH L))).isSome||(decide (lst (oH L)≠[])&&eu 10 (lst (oH L)))
theorem yH (c:UInt8):dI.digit c.toNat=lH 10 c:=by
 have H:∀n:Fin 256,dI.digit (n.val:Int)=(decide (0≤hex (n.val:Int))&&decide (hex (n.val:Int)<(10:Nat))):=by decide+kernel
 exact H ⟨c.toNat,c.toNat_lt⟩
theorem ahn (s : ByteArray) : s.data.toList.drop (Lib.lastIndexByte s 46 + 1).toNat = lst s.data.toList ∧ -1 ≤ Lib.lastIndexByte s 46 ∧ Lib.lastIndexByte s 46 < s.size := by
 have hb:∀j (h:j<s.data.toList.length),s.data[j]! =s.data.toList[j]:=fun j h=>by
  rw[getElem!_pos s.data j (by simpa using h)]
  simp
 have I8:∀M:List UInt8,(∀c ∈ M,c≠46)→bZ M=[M]:=by
  intro M
  induction M with
  |nil=>intro _;rfl
  |cons c M ih=>
   intro h
   rw[bZ,if_neg (h c (by simp)),ih fun d hd=>h d (by simp[hd])]
 have behind:∀(A M:List UInt8),(∀c ∈ M,c≠46)→lst (A++46::M)=M:=by
  intro A M hM
  induction A with
  |nil=>
   unfold lst
   rw[List.nil_append,bZ,if_pos rfl,I8 M hM]
   rfl
  | cons c A ih=>
   have hne:=qY (A++46::M)
   unfold lst at ih⊢
   rw[List.cons_append,bZ]
   split
   ·rw[List.getLast?_cons_of_ne_nil hne];exact ih
   cases h:bZ (A++46::M)with
   |nil=>exact absurd h hne
   | cons x r=>
    rw[h]at ih
    cases r with
    | nil=>
     exfalso
     have:2≤(bZ (A++46::M)).length:=by
      clear ih h hne
      induction A with
      |nil=>rw[List.nil_append,bZ,if_pos rfl,I8 M hM];simp
      |cons c A ih=> 
       rw[List.cons_append,bZ]
       split
       ·simp;omega
       split
       ·rename_i e;rw[e]at ih;simp at ih
       rename_i e;rw[e]at ih;simpa using ih
     rw[h]at this
     simp at this
    |cons y r'=>simpa using ih
 have hsz:s.data.toList.length=s.size:=Array.length_toList
 rcases Lib.lastIndexByte_spec s 46 with⟨h1,h2⟩|⟨i,hi,h1,h2,h3⟩
 ·rw[h1]
  refine⟨?_,by omega,by omega⟩
  show s.data.toList.drop 0=_
  rw[List.drop_zero]
  unfold lst
  rw[I8]
  ·rfl
  intro c hc
  obtain⟨j,hj,rfl⟩:=List.getElem_of_mem hc
  have:=h2 j (by omega)
  rw[hb j hj]at this
  intro e
  rw[e]at this
  exact this rfl
 rw[h1]
 refine⟨?_,by omega,by omega⟩
 have hil:i<s.data.toList.length:=by omega
 have e46:s.data.toList[i]=46:=by
  rw[hb i hil]at h2
  exact UInt8.toNat_inj.1 (by show _=46;omega)
 have e:s.data.toList=s.data.toList.take i++46::s.data.toList.drop (i+1):=by
  conv=>lhs;rw[←List.take_append_drop i s.data.toList,List.drop_eq_getElem_cons hil,e46]
 have hM:∀c ∈ s.data.toList.drop (i+1),c≠46:=by
  intro c hc
  obtain⟨j,hj,rfl⟩:=List.getElem_of_mem hc
  rw[List.length_drop]at hj
  rw[List.getElem_drop]
  have:=h3 (i+1+j) (by omega) (by omega)
  rw[hb _ (by omega)]at this
  intro e
  rw[e]at this
  exact this rfl
 have ht:((i:Int)+1).toNat=i+1:=by omega
 rw[ht]
 conv=>rhs;rw[e]
 rw[behind _ _ hM]
end Go.Proofs.YtmpeaoacaecgpaaGreatDoor.oO
