/- Texts that belong together: JY, B64P, acp, B64G, Hz, acr, agU, Zo. -/
import Derived.Test.YtmpeaoacaecgpaaGreatDoorXAA
import Derived.Test.YtmpeaoacaecgpaaGreatDoorXAD
import Derived.Test.YtmpeaoacaecgpaaGreatDoorXAE
import Derived.Test.YtmpeaoacaecgpaaGreatDoorXAK
import Derived.Test.YtmpeaoacaecgpaaGreatDoorXAG
import Derived.Test.YtmpeaoacaecgpaaGreatDoorXAH
import Derived.IntWalk
import Derived.Test.YtmpeaoacaecgpaaGreatDoorXAB
import Derived.Lib.TrimUEq
import Derived.Lib.SpaceUEq
import Derived.Lib.TrimAscii
import Derived.Lib.MapU
import Derived.Shelf.GgClosure.StringsTrimFunc
import Derived.Test.YtmpeaoacaecgpaaGreatDoorXAI
import Derived.Test.YtmpeaoacaecgpaaGreatDoorShelf
set_option linter.unusedSimpArgs false
set_option linter.unusedVariables false
set_option maxRecDepth 100000
set_option maxHeartbeats 64000000
namespace Go.Proofs.YtmpeaoacaecgpaaGreatDoor.JY
open Go.RowKit Base cO pU qg ajm
def ws:List UInt8:=[9,10,12,13,32]
def Gt:List UInt8:=[98,97,115,101,54,52]
def ahd (H:List UInt8):List UInt8:=Lib.trimRightS (H.take (H.length - 6)) [32]
def YT (H:List UInt8):Bool:=decide (6≤H.length)&&(decide (lower (H.drop (H.length - 6))=Gt)&&Lib.hasSuffix (ahd H) [59])
def Us (H:List UInt8):List UInt8:=Lib.trimSuffix (ahd H) [59]
def tp:List UInt8:=[116,101,120,116,47,112,108,97,105,110]
def fall:MT:=⟨[116,101,120,116],[112,108,97,105,110],[([99,104,97,114,115,101,116],[85,83,45,65,83,67,73,73])]⟩
def Es (H:List UInt8):List UInt8:=if Lib.hasPrefix H [59]=true then tp++H else H
def typ (H:List UInt8):MT:=(mime (Es H)).getD fall
def proc (L:List UInt8):Option (MT×List UInt8):=
 if (PrsP.fG 44 L).2.2=true then
  let H:=Lib.trimS (PrsP.fG 44 L).1 ws
  let B:=fU.dec (PrsP.fG 44 L).2.1
  if YT H=true then(if Nw.Hr B=true then some (typ (Us H),Nw.dB B)else none)else some (typ H,B)
 else none
theorem zT (b:UInt8):∀L:List UInt8,(PrsP.fG b L).1.length≤L.length∧(PrsP.fG b L).2.1.length≤L.length
 |[]=>by simp[PrsP.fG]
 |c::L=>by
  have h:=zT b L
  unfold PrsP.fG
  split
  ·simp
  ·simp only[List.length_cons]
   omega
theorem ae6 (H:List UInt8):(ahd H).length≤H.length:=by
 refine Nat.le_trans (agu [32] _) ?_
 rw[List.length_take]
 omega
theorem unB_len (H:List UInt8):(Us H).length≤H.length:=by
 refine Nat.le_trans ?_ (ae6 H)
 unfold Us Lib.trimSuffix
 split
 ·simp
 exact Nat.le_refl _
theorem aiX (H:List UInt8):(Es H).length≤H.length+10:=by
 unfold Es
 split
 ·rw[List.length_append,show tp.length=10 from rfl];omega
 omega
def DATA:List UInt8:=[100,97,116,97]
def vX:List UInt8:=[100,97,116,97,58]
def err (au L:List UInt8):Int:=if au=DATA then(if (proc L).isSome=true then 0 else 2)else 1
def ans (au L:List UInt8):MT×List UInt8:=if au=DATA then(proc L).getD (oG.Oe,[])else(oG.Oe,[])
def DatR (M:MT) (B:List UInt8) (er:Int) (e:Ending) (w':World):Prop:=∃A c A2 c2,e=.returned (.tuple #[.agg #[.string (strOf M.ty),.string (strOf M.sub),.slice A M.ps.length c],.slice A2 B.length c2,.int .i64 er])∧M.ps.length≤c∧c≤maxLen∧rC.zH w' A M.ps.length (oG.nY M.ps)∧B.length≤c2∧c2≤maxLen∧aY w' A2 B.length (ah B)
end Go.Proofs.YtmpeaoacaecgpaaGreatDoor.JY
namespace Go.Proofs.YtmpeaoacaecgpaaGreatDoor.B64P
open Go.RowKit Base Base2 BZ Nw
def bitsOf (n:Nat):List Bool:=[n / 32%2==1,n / 16%2==1,n / 8%2==1,n / 4%2==1,n / 2%2==1,n%2==1]
def b2 (b:Bool) (k:Nat):Nat:=if b then k else 0
def byteAt (B:List Bool) (j:Nat):Nat:=
 b2 (B.getD (8*j) false) 128+b2 (B.getD (8*j+1) false) 64+b2 (B.getD (8*j+2) false) 32+b2 (B.getD (8*j+3) false) 16+
 b2 (B.getD (8*j+4) false) 8+b2 (B.getD (8*j+5) false) 4+b2 (B.getD (8*j+6) false) 2+b2 (B.getD (8*j+7) false) 1
def pack (B:List Bool) (m:Nat):List UInt8:=(List.range m).map fun j=>UInt8.ofNat (byteAt B j)
theorem Ih (k:Nat):b2 false k=0:=rfl
def U2:List Nat→List UInt8
 |a::b::c::d::t=>[UInt8.ofNat (a*4+b / 16),UInt8.ofNat (b%16*16+c / 4),UInt8.ofNat (c%4*64+d)]++U2 t
 |[a,b,c]=>[UInt8.ofNat (a*4+b / 16),UInt8.ofNat (b%16*16+c / 4)]
 |[a,b]=>[UInt8.ofNat (a*4+b / 16)]
 |_=>[]
def gQ (N:List Nat):List Bool:=N.flatMap bitsOf
theorem Xu (X R:List Bool) (j:Nat) (h:X.length=24):byteAt (X++R) (j+3)=byteAt R j:=by
 have g:∀i,(X++R).getD (24+i) false=R.getD i false:=by
  intro i
  simp only[List.getD_eq_getElem?_getD]
  rw[List.getElem?_append_right (by omega)]
  congr 2
  omega
 unfold byteAt
 have e:8*(j+3)=24+8*j:=by omega
 rw[e]
 simp only[Nat.add_assoc,g]
theorem ad9 (X R:List Bool) (m:Nat) (h:X.length=24):pack (X++R) (m+3)=[UInt8.ofNat (byteAt (X++R) 0),UInt8.ofNat (byteAt (X++R) 1),UInt8.ofNat (byteAt (X++R) 2)]++pack R m:=by
 unfold pack
 have e:List.range (m+3)=[0,1,2]++(List.range m).map (·+3):=by
  rw[Nat.add_comm m 3,List.range_add]
  congr 1
  apply List.map_congr_left
  intro a _
  omega
 rw[e,List.map_append,List.map_map]
 congr 1
 apply List.map_congr_left
 intro j _
 simp only[Function.comp]
 rw[Xu X R j h]
theorem zL (n k:Nat):b2 (n%2==1) k=n%2*k:=by
 unfold b2
 rcases Nat.mod_two_eq_zero_or_one n with h|h<;>simp[h]
theorem akY (a b:Nat) (R:List Bool) (_ha:a<64) (_hb:b<64):byteAt (bitsOf a++(bitsOf b++R)) 0=a*4+b / 16:=by
 unfold byteAt bitsOf
 simp only[List.cons_append,List.nil_append,List.getD_cons_zero,List.getD_cons_succ,Nat.mul_zero,Nat.zero_add,zL]
 omega
theorem byte1 (a b c:Nat) (R:List Bool) (_ha:a<64) (_hb:b<64) (_hc:c<64):byteAt (bitsOf a++(bitsOf b++(bitsOf c++R))) 1=b%16*16+c / 4:=by
 unfold byteAt bitsOf
 simp only[List.cons_append,List.nil_append,List.getD_cons_zero,List.getD_cons_succ,Nat.mul_one,Nat.reduceAdd,zL]
 omega
theorem byte2 (a b c d:Nat) (R:List Bool) (ha:a<64) (hb:b<64) (hc:c<64) (hd:d<64):byteAt (bitsOf a++(bitsOf b++(bitsOf c++(bitsOf d++R)))) 2=c%4*64+d:=by
 unfold byteAt bitsOf
 simp only[List.cons_append,List.nil_append,List.getD_cons_zero,List.getD_cons_succ,Nat.reduceMul,Nat.reduceAdd,zL]
 omega
theorem aaX (N:List Nat) (h:∀n ∈ N,n<64):pack (gQ N) (6*N.length / 8)=U2 N:=by
 have H:∀(k:Nat) (N:List Nat),N.length≤k→(∀n ∈ N,n<64)→pack (gQ N) (6*N.length / 8)=U2 N:=by
  intro k
  induction k with
  |zero=>intro N h _;obtain rfl:N=[]:=List.eq_nil_of_length_eq_zero (by omega);rfl
  |succ k ih=>
   intro N hl h
   match N,hl,h with
   |[],_,_=>rfl
   |[a],_,_=>simp[pack,U2]
   |[a,b],_,h=>
    have ha:=h a (by simp)
    have hb:=h b (by simp)
    have e0:6*[a,b].length / 8=1:=by simp
    have e:gQ [a,b]=bitsOf a++(bitsOf b++[]):=by simp[gQ]
    rw[e,e0]
    simp only[pack,U2,List.range_succ,List.range_zero,List.nil_append,List.map_cons,List.map_nil]
    rw[akY a b _ ha hb]
   |[a,b,c],_,h=>
    have ha:=h a (by simp)
    have hb:=h b (by simp)
    have hc:=h c (by simp)
    have e0:6*[a,b,c].length / 8=2:=by simp
    have e:gQ [a,b,c]=bitsOf a++(bitsOf b++(bitsOf c++[])):=by simp[gQ]
    rw[e,e0]
    simp only[pack,U2,List.range_succ,List.range_zero,List.nil_append,List.cons_append,List.map_cons,List.map_nil]
    rw[akY a b _ ha hb,byte1 a b c _ ha hb hc]
   |a::b::c::d::t,hl,h=>
    have ha:=h a (by simp)
    have hb:=h b (by simp)
    have hc:=h c (by simp)
    have hd:=h d (by simp)
    have ht:=ih t (by simp at hl;omega) (fun n hn=>h n (by simp[hn]))
    have e:gQ (a::b::c::d::t)=(bitsOf a++(bitsOf b++(bitsOf c++bitsOf d)))++gQ t:=by simp[gQ]
    have e2:6*(a::b::c::d::t).length / 8=6*t.length / 8+3:=by simp only[List.length_cons];omega
    rw[e,e2,ad9 _ _ _ rfl,ht,U2]
    have e3:(bitsOf a++(bitsOf b++(bitsOf c++bitsOf d)))++gQ t=bitsOf a++(bitsOf b++(bitsOf c++(bitsOf d++gQ t))):=by simp
    rw[e3,akY a b _ ha hb,byte1 a b c _ ha hb hc,byte2 a b c d _ ha hb hc hd]
 exact H _ N (Nat.le_refl _) h
def nums (T:List UInt8):List Nat:=T.map fun c=>(num c).toNat
theorem afq (X:List UInt8) (a:Nat):feed (X,0,0) a=(X,a,6):=by simp[feed]
theorem alp (X:List UInt8) (a b:Nat):feed (X,a,6) b=(X++[UInt8.ofNat (a*4+b / 16)],b%16,4):=by
 have e1:(a*64+b) / 16=a*4+b / 16:=by omega
 have e2:(a*64+b)%16=b%16:=by omega
 unfold feed
 simp only[show(6:Nat)≠0 by decide,if_false,show(2:Nat)^(6 - 2)=16 by decide,e1,e2]
theorem feed4 (X:List UInt8) (b c:Nat):feed (X,b%16,4) c=(X++[UInt8.ofNat (b%16*16+c / 4)],c%4,2):=by
 have e1:(b%16*64+c) / 4=b%16*16+c / 4:=by omega
 have e2:(b%16*64+c)%4=c%4:=by omega
 unfold feed
 simp only[show(4:Nat)≠0 by decide,if_false,show(2:Nat)^(4 - 2)=4 by decide,e1,e2]
theorem feed2 (X:List UInt8) (c d:Nat):feed (X,c%4,2) d=(X++[UInt8.ofNat (c%4*64+d)],0,0):=by
 unfold feed
 simp only[show(2:Nat)≠0 by decide,if_false,show(2:Nat)^(2 - 2)=1 by decide,Nat.div_one,Nat.mod_one]
theorem alA:∀(k:Nat) (N:List Nat) (X:List UInt8),N.length≤k→(N.foldl feed (X,0,0)).1=X++U2 N:=by
 intro k
 induction k with
 |zero=>intro N X h;obtain rfl:N=[]:=List.eq_nil_of_length_eq_zero (by omega);simp[U2]
 |succ k ih=>
  intro N X hl
  match N,hl with
  |[],_=>simp[U2]
  |[a],_=>simp only[List.foldl_cons,List.foldl_nil,afq,U2,List.append_nil]
  |[a,b],_=>simp only[List.foldl_cons,List.foldl_nil,afq,alp,U2]
  |[a,b,c],_=>simp only[List.foldl_cons,List.foldl_nil,afq,alp,feed4,U2,List.append_assoc,List.cons_append,List.nil_append]
  |a::b::c::d::t,hl=>
   simp only[List.foldl_cons,afq,alp,feed4,feed2]
   rw[ih t _ (by simp at hl;omega)]
   simp only[U2,List.append_assoc,List.cons_append,List.nil_append]
theorem afW (T:List UInt8) (h:∀c ∈ T,0≤num c):∀n ∈ nums T,n<64:=by
 intro n hn
 simp only[nums,List.mem_map]at hn
 obtain⟨c,hc,rfl⟩:=hn
 have:=qE c
 have:=h c hc
 omega
theorem Lc (T:List UInt8) (h:∀c ∈ T,0≤num c):pack (gQ (nums T)) (6*T.length / 8)=(runs T).1:=by
 have e:=alA _ (nums T) [] (Nat.le_refl _)
 have e2:=aaX (nums T) (afW T h)
 rw[show(nums T).length=T.length by simp[nums]]at e2
 rw[e2]
 unfold runs
 rw[List.nil_append]at e
 rw[←e]
 unfold nums
 rw[List.foldl_map]
end Go.Proofs.YtmpeaoacaecgpaaGreatDoor.B64P
namespace Go.Proofs.YtmpeaoacaecgpaaGreatDoor.acp
open Go.RowKit Base Base2 Base3 Regs
def aU (n:Nat):UInt8:=if n<26 then UInt8.ofNat (65+n)else if n<52 then UInt8.ofNat (71+n)else if n<62 then UInt8.ofNat (n - 4)else if n=62 then 43 else 47
def e64:List UInt8→List UInt8
 |[]=>[]
 |[a]=>[aU (a.toNat / 4),aU (a.toNat%4*16),61,61]
 |[a,b]=>[aU (a.toNat / 4),aU (a.toNat%4*16+b.toNat / 16),aU (b.toNat%16*4),61]
 |a::b::c::t=>[aU (a.toNat / 4),aU (a.toNat%4*16+b.toNat / 16),aU (b.toNat%16*4+c.toNat / 64),aU (c.toNat%64)]++e64 t
theorem let_at (k:Nat) (h:k<(⟨#[65,66,67,68,69,70,71,72,73,74,75,76,77,78,79,80,81,82,83,84,85,86,87,88,89,90,97,98,99,100,101,102,103,104,105,106,107,108,109,110,111,112,113,114,115,116,117,118,119,120,121,122,48,49,50,51,52,53,54,55,56,57,43,47]⟩:ByteArray).size):(⟨#[65,66,67,68,69,70,71,72,73,74,75,76,77,78,79,80,81,82,83,84,85,86,87,88,89,90,97,98,99,100,101,102,103,104,105,106,107,108,109,110,111,112,113,114,115,116,117,118,119,120,121,122,48,49,50,51,52,53,54,55,56,57,43,47]⟩:ByteArray)[k]'h=aU k:=by
 have H:∀k:Fin 64,(⟨#[65,66,67,68,69,70,71,72,73,74,75,76,77,78,79,80,81,82,83,84,85,86,87,88,89,90,97,98,99,100,101,102,103,104,105,106,107,108,109,110,111,112,113,114,115,116,117,118,119,120,121,122,48,49,50,51,52,53,54,55,56,57,43,47]⟩:ByteArray)[k.val]'k.isLt=aU k.val:=by decide+kernel
 exact H ⟨k,h⟩
theorem uf (z:Int) (k:Nat) (h0:z=(k:Int)) (_hk:k<64) (h:z.toNat<(⟨#[65,66,67,68,69,70,71,72,73,74,75,76,77,78,79,80,81,82,83,84,85,86,87,88,89,90,97,98,99,100,101,102,103,104,105,106,107,108,109,110,111,112,113,114,115,116,117,118,119,120,121,122,48,49,50,51,52,53,54,55,56,57,43,47]⟩:ByteArray).size):(⟨#[65,66,67,68,69,70,71,72,73,74,75,76,77,78,79,80,81,82,83,84,85,86,87,88,89,90,97,98,99,100,101,102,103,104,105,106,107,108,109,110,111,112,113,114,115,116,117,118,119,120,121,122,48,49,50,51,52,53,54,55,56,57,43,47]⟩:ByteArray)[z.toNat]'h=aU k:=by
 subst h0
 exact let_at k h
theorem and3 (c:UInt8):bits .and .u8 (c.toNat:Int) 3=(c.toNat:Int)%4:=by
 have H:∀n:Fin 256,bits .and .u8 (n.val:Int) 3=(n.val:Int)%4:=by decide+kernel
 exact H ⟨c.toNat,c.toNat_lt⟩
theorem and63 (c:UInt8):bits .and .u8 (c.toNat:Int) 63=(c.toNat:Int)%64:=by
 have H:∀n:Fin 256,bits .and .u8 (n.val:Int) 63=(n.val:Int)%64:=by decide+kernel
 exact H ⟨c.toNat,c.toNat_lt⟩
theorem or4 (x y:Nat) (hx:x<4) (hy:y<16):bits .or .u8 ((x:Int)*16) (y:Int)=(x:Int)*16+y:=by
 have H:∀(x:Fin 4) (y:Fin 16),bits .or .u8 ((x.val:Int)*16) (y.val:Int)=(x.val:Int)*16+y.val:=by decide+kernel
 exact H ⟨x,hx⟩ ⟨y,hy⟩
theorem or2 (x y:Nat) (hx:x<16) (hy:y<4):bits .or .u8 ((x:Int)*4) (y:Int)=(x:Int)*4+y:=by
 have H:∀(x:Fin 16) (y:Fin 4),bits .or .u8 ((x.val:Int)*4) (y.val:Int)=(x.val:Int)*4+y.val:=by decide+kernel
 exact H ⟨x,hx⟩ ⟨y,hy⟩
theorem or_ab (a b:UInt8):bits .or .u8 ((a.toNat:Int)%4*16) ((b.toNat:Int) / 16)=(a.toNat:Int)%4*16+(b.toNat:Int) / 16:=by
 have:=or4 (a.toNat%4) (b.toNat / 16) (by omega) (by have:=b.toNat_lt;omega)
 simpa using this
theorem or_bc (b c:UInt8):bits .or .u8 ((b.toNat:Int)%16*4) ((c.toNat:Int) / 64)=(b.toNat:Int)%16*4+(c.toNat:Int) / 64:=by
 have:=or2 (b.toNat%16) (c.toNat / 64) (by omega) (by have:=c.toNat_lt;omega)
 simpa using this
theorem aeP (a:UInt8):IntKind.u8.wrap ((a.toNat:Int)%4*16)=(a.toNat:Int)%4*16:=by
 have H:∀n:Fin 256,IntKind.u8.wrap ((n.val:Int)%4*16)=(n.val:Int)%4*16:=by decide+kernel
 exact H ⟨a.toNat,a.toNat_lt⟩
theorem an8 (b:UInt8):IntKind.u8.wrap ((b.toNat:Int)%16*4)=(b.toNat:Int)%16*4:=by
 have H:∀n:Fin 256,IntKind.u8.wrap ((n.val:Int)%16*4)=(n.val:Int)%16*4:=by decide+kernel
 exact H ⟨b.toNat,b.toNat_lt⟩
def KT:Value→Nat| .slice _ n _=>n|_=>0
theorem XC (L:List UInt8):(e64 L).length=(L.length+2) / 3*4:=by
 have H:∀(n:Nat) (L:List UInt8),L.length≤n→(e64 L).length=(L.length+2) / 3*4:=by
  intro n
  induction n with
  |zero=>intro L h;obtain rfl:L=[]:=List.eq_nil_of_length_eq_zero (by omega);rfl
  |succ n ih=>
   intro L h
   match L with
   |[]=>rfl
   |[a]=>simp[e64]
   |[a,b]=>simp[e64]
   |a::b::c::t=>
    have:=ih t (by simp at h;omega)
    simp only[e64,List.length_append,List.length_cons,List.length_nil,this]
    omega
 exact H _ L (Nat.le_refl _)
theorem three {M:List UInt8} (h:3≤M.length):∃a b c t,M=a::b::c::t:=by
 match M,h with
 |a::b::c::t,_=>exact⟨a,b,c,t,rfl⟩
theorem one_of {M:List UInt8} (h:M.length=1):∃a,M=[a]:=by
 match M,h with
 |[a],_=>exact⟨a,rfl⟩
theorem LY {M:List UInt8} (h:M.length=2):∃a b,M=[a,b]:=by
 match M,h with
 |[a,b],_=>exact⟨a,b,rfl⟩
theorem eF (A:Option Addr) (n cap:Nat) (L:List UInt8) (w:World) (h:aY w A n (ah L)) (hc:n≤cap) (hm:n≤1073741824):
  Calls Tryz.prog 188 #[.slice A n cap] w fun e w'=>e=.returned (.string (strOf (e64 L)))∧Below w.heap.size w w':=by
 obtain⟨i0,hi,hz0,hz1,hz2⟩:=info_parts iR
 have HH:=hid h
 clear h
 have hq:((n:Int)+2).tdiv 3=(((n+2) / 3:Nat):Int):=by rw[Int.tdiv_eq_ediv_of_nonneg (by omega)];omega
 have hq2:((n:Int)+2) / 3=(((n+2) / 3:Nat):Int):=by omega
 have hq3:(n+2) / 3≤536870912:=by omega
 obtain⟨q,hqq⟩:∃q,q=(n+2) / 3:=⟨_,rfl⟩
 rw[←hqq]at hq hq2 hq3
 clear hqq
 go_enter Tryz.func188,Tryz.ntmps188
 go_wp2_with (at_make;refine wpList_make_own _ rfl _ _ 45 rfl w.heap.size 5 i0 (.int .u8 0) 1 Tryz.underlying45 hi hz0 hz1 .i64 .i64 _ (q*4) rfl rfl rfl (by rw[hz2];omega) (by unfold maxLen;omega) (Nat.le_refl _) ?_)
 intro w1 hown1 hg1
 have gW:Below w.heap.size w w1:=(Below.refl _ _).grown hg1 (Nat.le_refl _) (by intro k h;cases h)
 clear hg1 hq hq2
 go_wp2
 go_loopw [0,3] (fun vs v wr=>∃(m c:Nat) (Ak:Option Addr) (M X:List UInt8),m≤n∧m≤c∧vs=.slice Ak m c∧X.length+2*m≤2*n∧Hid (aY w Ak m (ah M))∧Hid (X++e64 M=e64 L)∧wr.ownsRow w.heap.size 5 1 v X.length (ah X)∧Below w.heap.size w wr) (fun vs _ _=>KT vs)
 case atStart=>exact⟨n,cap,A,L,[],Nat.le_refl _,hc,rfl,by simp,HH,rfl,hown1,gW⟩
 case round=>
  clear hown1 gW HH hc
  obtain⟨m,cp,Ak,M,X,hmn,hmc,rfl,hX,HM,HE,hown,hbel⟩:=hrel
  have hml:M.length=m:=by rw[←aI];exact HM.out.1
  by_cases h3:3≤m
  ·obtain ⟨g,off,rfl,hg,_⟩:=(HM.out).spot (by omega)
   obtain⟨a,b,c,tt,hMM⟩:=three (M:=M) (by omega)
   subst hMM
   have hgr:g<wr.heap.size:=Nat.lt_of_lt_of_le hg hbel.size
   have hc0:wr.cell? ⟨g,off,none⟩=some (.int .u8 (a.toNat:Int)):=(hbel.cell (p:=⟨g,off+0,none⟩) hg).trans (HM.out.byte 0 (by simp))
   have hc1:wr.cell? ⟨g,off+1,none⟩=some (.int .u8 (b.toNat:Int)):=(hbel.cell (p:=⟨g,off+1,none⟩) hg).trans (HM.out.byte 1 (by simp))
   have hc2:wr.cell? ⟨g,off+2,none⟩=some (.int .u8 (c.toNat:Int)):=(hbel.cell (p:=⟨g,off+2,none⟩) hg).trans (HM.out.byte 2 (by simp))
   have HML:=hid hml
   clear hml
   have HE2:Hid ((X++[aU (a.toNat / 4),aU (a.toNat%4*16+b.toNat / 16),aU (b.toNat%16*4+c.toNat / 64),aU (c.toNat%64)])++e64 tt=e64 L):=by
    have:=HE.out
    rw[e64,←List.append_assoc]at this
    exact this
   have HCut:Hid (aY w (some ⟨g,off+3,none⟩) (m - 3) (ah tt)):=by
    have:=HM.out.cut 3 h3
    exact this
   have ba:(a.toNat:Int)<256:=by have:=a.toNat_lt;omega
   have bb:(b.toNat:Int)<256:=by have:=b.toNat_lt;omega
   have bc:(c.toNat:Int)<256:=by have:=c.toNat_lt;omega
   have o1:=or_ab a b
   have o2:=or_bc b c
   have o3:=and3 a
   have o4:=PE b
   have o5:=and63 c
   have o6:=aeP a
   have o7:=an8 b
   have x0:(0:Int)≤(a.toNat:Int) / 4:=by omega
   have x1:(a.toNat:Int) / 4<64:=by omega
   have x2:∀h,(⟨#[65,66,67,68,69,70,71,72,73,74,75,76,77,78,79,80,81,82,83,84,85,86,87,88,89,90,97,98,99,100,101,102,103,104,105,106,107,108,109,110,111,112,113,114,115,116,117,118,119,120,121,122,48,49,50,51,52,53,54,55,56,57,43,47]⟩:ByteArray)[((a.toNat:Int) / 4).toNat]'h=aU (a.toNat / 4):=fun h=>uf _ (a.toNat / 4) (by omega) (by omega) h
   have y0:(0:Int)≤(a.toNat:Int)%4*16+(b.toNat:Int) / 16:=by omega
   have y1:(a.toNat:Int)%4*16+(b.toNat:Int) / 16<64:=by omega
   have y2:∀h,(⟨#[65,66,67,68,69,70,71,72,73,74,75,76,77,78,79,80,81,82,83,84,85,86,87,88,89,90,97,98,99,100,101,102,103,104,105,106,107,108,109,110,111,112,113,114,115,116,117,118,119,120,121,122,48,49,50,51,52,53,54,55,56,57,43,47]⟩:ByteArray)[((a.toNat:Int)%4*16+(b.toNat:Int) / 16).toNat]'h=aU (a.toNat%4*16+b.toNat / 16):=fun h=>uf _ (a.toNat%4*16+b.toNat / 16) (by omega) (by omega) h
   have z0:(0:Int)≤(b.toNat:Int)%16*4+(c.toNat:Int) / 64:=by omega
   have z1:(b.toNat:Int)%16*4+(c.toNat:Int) / 64<64:=by omega
   have z2:∀h,(⟨#[65,66,67,68,69,70,71,72,73,74,75,76,77,78,79,80,81,82,83,84,85,86,87,88,89,90,97,98,99,100,101,102,103,104,105,106,107,108,109,110,111,112,113,114,115,116,117,118,119,120,121,122,48,49,50,51,52,53,54,55,56,57,43,47]⟩:ByteArray)[((b.toNat:Int)%16*4+(c.toNat:Int) / 64).toNat]'h=aU (b.toNat%16*4+c.toNat / 64):=fun h=>uf _ (b.toNat%16*4+c.toNat / 64) (by omega) (by omega) h
   have u0:(0:Int)≤(c.toNat:Int)%64:=by omega
   have u1:(c.toNat:Int)%64<64:=by omega
   have u2:∀h,(⟨#[65,66,67,68,69,70,71,72,73,74,75,76,77,78,79,80,81,82,83,84,85,86,87,88,89,90,97,98,99,100,101,102,103,104,105,106,107,108,109,110,111,112,113,114,115,116,117,118,119,120,121,122,48,49,50,51,52,53,54,55,56,57,43,47]⟩:ByteArray)[((c.toNat:Int)%64).toNat]'h=aU (c.toNat%64):=fun h=>uf _ (c.toNat%64) (by omega) (by omega) h
   have j1:(1:Int)<(m:Int):=by omega
   have j2:(2:Int)<(m:Int):=by omega
   have j0:(0:Int)<(m:Int):=by omega
   have j3:(3:Int)≤(m:Int):=by omega
   have l0:0<m:=by omega
   have l1:1<m:=by omega
   have l2:2<m:=by omega
   go_wp2
   refine bC (by kernel_rfl) 34 [is (u3),is (.slice (some ⟨g,off,none⟩) m cp),is (.pointer (some ⟨g,off,none⟩)),is (.int .u8 (a.toNat:Int)),is (.int .u8 ((a.toNat:Int) / 4)),is (.int .u8 ((aU (a.toNat / 4)).toNat:Int)),is (.slice (some ⟨g,off,none⟩) m cp),is (.pointer (some ⟨g,off,none⟩)),is (.int .u8 (a.toNat:Int)),is (.int .u8 ((a.toNat:Int)%4)),is (.int .u8 ((a.toNat:Int)%4*16)),is (.slice (some ⟨g,off,none⟩) m cp),is (.pointer (some ⟨g,off+1,none⟩)),is (.int .u8 (b.toNat:Int)),is (.int .u8 ((b.toNat:Int) / 16)),is (.int .u8 ((a.toNat:Int)%4*16+(b.toNat:Int) / 16)),is (.int .u8 ((aU (a.toNat%4*16+b.toNat / 16)).toNat:Int)),is (.slice (some ⟨g,off,none⟩) m cp),is (.pointer (some ⟨g,off+1,none⟩)),is (.int .u8 (b.toNat:Int)),is (.int .u8 ((b.toNat:Int)%16)),is (.int .u8 ((b.toNat:Int)%16*4)),is (.slice (some ⟨g,off,none⟩) m cp),is (.pointer (some ⟨g,off+2,none⟩)),is (.int .u8 (c.toNat:Int)),is (.int .u8 ((c.toNat:Int) / 64)),is (.int .u8 ((b.toNat:Int)%16*4+(c.toNat:Int) / 64)),is (.int .u8 ((aU (b.toNat%16*4+c.toNat / 64)).toNat:Int)),is (.slice (some ⟨g,off,none⟩) m cp),is (.pointer (some ⟨g,off+2,none⟩)),is (.int .u8 (c.toNat:Int)),is (.int .u8 ((c.toNat:Int)%64)),is (.int .u8 ((aU (c.toNat%64)).toNat:Int)),row 4 (ah [aU (a.toNat / 4),aU (a.toNat%4*16+b.toNat / 16),aU (b.toNat%16*4+c.toNat / 64),aU (c.toNat%64)])] [[],[],[1],[1,2],[1,2,3],[1,2,3,4],[],[6],[6,7],[6,7,8],[6,7,8,9],[],[11],[11,12],[11,12,13],[6,7,8,9,10,11,12,13,14],[6,7,8,9,10,11,12,13,14,15],[],[17],[17,18],[17,18,19],[17,18,19,20],[],[22],[22,23],[22,23,24],[17,18,19,20,21,22,23,24,25],[17,18,19,20,21,22,23,24,25,26],[],[28],[28,29],[28,29,30],[28,29,30,31],[1,2,3,4,5,6,7,8,9,10,11,12,13,14,15,16,17,18,19,20,21,22,23,24,25,26,27,28,29,30,31,32],[0,1,2,3,4,5,6,7,8,9,10,11,12,13,14,15,16,17,18,19,20,21,22,23,24,25,26,27,28,29,30,31,32,33]] (by kernel_rfl) ?_ ?_
   ·refine⟨?_,?_,?_,?_,?_,?_,?_,?_,?_,?_,?_,?_,?_,?_,?_,?_,?_,?_,?_,?_,?_,?_,?_,?_,?_,?_,?_,?_,?_,?_,?_,?_,?_,?_,trivial⟩
    all_goals(intro t wq hbq hh K hK;simp only[filled,aj,upd,Have,is,any,row,pick,Act.put,List.setIfInBounds_toArray,List.set_cons_zero,List.set_cons_succ,Nat.reduceAdd,Nat.reduceEqDiff,reduceIte,List.tail_cons,List.headD_cons]at hh hK⊢;(try simp only[hh]at hK⊢);try clear hh)
    iterate 3 · go_simp;exact hK _ _ (Below.refl _ _) rfl
    ·have hq:=(hbq.cell (p:=⟨g,off,none⟩) hgr).trans hc0;go_simp;first|exact hK _ _ (Below.refl _ _) rfl|(refine hK _ _ (Below.refl _ _) ?_;simp[is,pick])
    iterate 4 · go_simp;exact hK _ _ (Below.refl _ _) rfl
    ·have hq:=(hbq.cell (p:=⟨g,off,none⟩) hgr).trans hc0;go_simp;first|exact hK _ _ (Below.refl _ _) rfl|(refine hK _ _ (Below.refl _ _) ?_;simp[is,pick])
    iterate 4 · go_simp;exact hK _ _ (Below.refl _ _) rfl
    ·have hq:=(hbq.cell (p:=⟨g,off+1,none⟩) hgr).trans hc1;go_simp;first|exact hK _ _ (Below.refl _ _) rfl|(refine hK _ _ (Below.refl _ _) ?_;simp[is,pick])
    iterate 5 · go_simp;exact hK _ _ (Below.refl _ _) rfl
    ·have hq:=(hbq.cell (p:=⟨g,off+1,none⟩) hgr).trans hc1;go_simp;first|exact hK _ _ (Below.refl _ _) rfl|(refine hK _ _ (Below.refl _ _) ?_;simp[is,pick])
    iterate 4 · go_simp;exact hK _ _ (Below.refl _ _) rfl
    ·have hq:=(hbq.cell (p:=⟨g,off+2,none⟩) hgr).trans hc2;go_simp;first|exact hK _ _ (Below.refl _ _) rfl|(refine hK _ _ (Below.refl _ _) ?_;simp[is,pick])
    iterate 5 · go_simp;exact hK _ _ (Below.refl _ _) rfl
    ·have hq:=(hbq.cell (p:=⟨g,off+2,none⟩) hgr).trans hc2;go_simp;first|exact hK _ _ (Below.refl _ _) rfl|(refine hK _ _ (Below.refl _ _) ?_;simp[is,pick])
    iterate 2 · go_simp;exact hK _ _ (Below.refl _ _) rfl
    ·go_simp;exact hK _ _ ((Below.refl _ _).alloc (Nat.le_refl _) _) ⟨_,_,rfl,Nat.le_refl _,by decide,qF wq [aU (a.toNat / 4),aU (a.toNat%4*16+b.toNat / 16),aU (b.toNat%16*4+c.toNat / 64),aU (c.toNat%64)] 5 (0,0)⟩
   ·intro t wq hbq hh
    have f0:=aB hh 0 (by decide)
    simp only[pick]at f0
    replace f0:t 0=(u3):=f0
    have f33:=aB hh 33 (by decide)
    simp only[pick]at f33
    clear hh
    simp only[filled,aj,upd,Have,is,any,row,pick,Act.put,List.setIfInBounds_toArray,List.set_cons_zero,List.set_cons_succ,Nat.reduceAdd,Nat.reduceEqDiff,reduceIte]
    obtain⟨A33,c33,f33,hc33,hm33,hr33⟩:=f33
    simp only[f0,f33]
    have hown1:=aP hown hbq
    have gW:Below w.heap.size w wq:=hbel.trans (hbq.mono hbel.size)
    refine dH rfl _ _ 45 rfl w.heap.size 5 i0 (.int .u8 0) 1 Tryz.underlying45 hi hz0 hz1 hz2 rfl _ X.length _ rfl hown1 gW gW.size A33 4 c33 (ah [aU (a.toNat / 4),aU (a.toNat%4*16+b.toNat / 16),aU (b.toNat%16*4+c.toNat / 64),aU (c.toNat%64)]) rfl hr33 (nR _) (by unfold maxLen;omega) (by omega) ?_
    intro v' w2 hown2 dZ
    clear o1 o2 o3 o4 o5 o6 o7 x0 x1 x2 y0 y1 y2 z0 z1 z2 u0 u1 u2 hown hown1
    have HO:Hid (w2.ownsRow w.heap.size 5 1 v' (X++[aU (a.toNat / 4),aU (a.toNat%4*16+b.toNat / 16),aU (b.toNat%16*4+c.toNat / 64),aU (c.toNat%64)]).length (ah (X++[aU (a.toNat / 4),aU (a.toNat%4*16+b.toNat / 16),aU (b.toNat%16*4+c.toNat / 64),aU (c.toNat%64)]))):=by
     rw[aS,List.length_append]
     exact hown2
    clear hown2
    by_cases hcap:cp=3
    ·subst hcap
     obtain rfl:m=3:=by omega
     have HN:Hid (tt=[]):=by
      have:=HML.out
      simp at this
      exact this
     go_wp2
     go_roundw
     case rel=>exact⟨0,0,_,[],X++[aU (a.toNat / 4),aU (a.toNat%4*16+b.toNat / 16),aU (b.toNat%16*4+c.toNat / 64),aU (c.toNat%64)],by omega,by omega,rfl,by simp;omega,aY.nil _,by rw[←HE2.out,HN.out];exact rfl,HO.out,dZ⟩
     case measure=>simp[KT]
    ·have hcap':¬(cp:Int)=3:=by omega
     go_wp2
     go_roundw
     case rel=>exact⟨m - 3,cp - 3,_,tt,X++[aU (a.toNat / 4),aU (a.toNat%4*16+b.toNat / 16),aU (b.toNat%16*4+c.toNat / 64),aU (c.toNat%64)],by omega,by omega,rfl,by simp;omega,HCut,HE2,HO.out,dZ⟩
     case measure=>simp[KT];omega
  ·have hfin:∀(v:Value) (wz:World) (Y:List UInt8),Y=e64 L→wz.ownsRow w.heap.size 5 1 v Y.length (ah Y)→∃A2 c2,v=.slice A2 (e64 L).length c2∧(convert 45 9 (.slice A2 (e64 L).length c2)).run Tryz.prog wz=.ok (.string (strOf (e64 L))) wz:=by
    intro v wz Y hY hv
    subst hY
    obtain⟨A2,c2,rfl,_,_,hr2⟩:=aJ hv
    exact⟨A2,c2,rfl,aF 45 9 5 Tryz.underlying45 Tryz.underlying5 Tryz.underlying9 _ c2 hr2⟩
   have HF:=hid hfin
   clear hfin
   have hcase:m=0∨m=1∨m=2:=by omega
   rcases hcase with rfl|rfl|rfl
   ·have hM0:M=[]:=List.eq_nil_of_length_eq_zero hml
    subst hM0
    obtain⟨A2,c2,rfl,hst⟩:=HF.out u3 wr X (by have:=HE.out;simpa[e64]using this) hown
    go_wp2
    go_ret
    exact⟨rfl,hbel⟩
   ·obtain ⟨a,hMM⟩:=one_of hml
    subst hMM
    obtain⟨g,off,rfl,hg,_⟩:=(HM.out).spot (by omega)
    have hgr:g<wr.heap.size:=Nat.lt_of_lt_of_le hg hbel.size
    have hc0:wr.cell? ⟨g,off,none⟩=some (.int .u8 (a.toNat:Int)):=(hbel.cell (p:=⟨g,off+0,none⟩) hg).trans (HM.out.byte 0 (by simp))
    have HE2:Hid (X++[aU (a.toNat / 4),aU (a.toNat%4*16),61,61]=e64 L):=by
     have:=HE.out
     rw[e64]at this
     exact this
    have ba:(a.toNat:Int)<256:=by have:=a.toNat_lt;omega
    have o3:=and3 a
    have o6:=aeP a
    have x0:(0:Int)≤(a.toNat:Int) / 4:=by omega
    have x1:(a.toNat:Int) / 4<64:=by omega
    have x2:∀h,(⟨#[65,66,67,68,69,70,71,72,73,74,75,76,77,78,79,80,81,82,83,84,85,86,87,88,89,90,97,98,99,100,101,102,103,104,105,106,107,108,109,110,111,112,113,114,115,116,117,118,119,120,121,122,48,49,50,51,52,53,54,55,56,57,43,47]⟩:ByteArray)[((a.toNat:Int) / 4).toNat]'h=aU (a.toNat / 4):=fun h=>uf _ (a.toNat / 4) (by omega) (by omega) h
    have y0:(0:Int)≤(a.toNat:Int)%4*16:=by omega
    have y1:(a.toNat:Int)%4*16<64:=by omega
    have y2:∀h,(⟨#[65,66,67,68,69,70,71,72,73,74,75,76,77,78,79,80,81,82,83,84,85,86,87,88,89,90,97,98,99,100,101,102,103,104,105,106,107,108,109,110,111,112,113,114,115,116,117,118,119,120,121,122,48,49,50,51,52,53,54,55,56,57,43,47]⟩:ByteArray)[((a.toNat:Int)%4*16).toNat]'h=aU (a.toNat%4*16):=fun h=>uf _ (a.toNat%4*16) (by omega) (by omega) h
    go_wp2
    refine bC (by kernel_rfl) 13 [is (u3),is (.slice (some ⟨g,off,none⟩) 1 cp),is (.pointer (some ⟨g,off,none⟩)),is (.int .u8 (a.toNat:Int)),is (.int .u8 ((a.toNat:Int) / 4)),is (.int .u8 ((aU (a.toNat / 4)).toNat:Int)),is (.slice (some ⟨g,off,none⟩) 1 cp),is (.pointer (some ⟨g,off,none⟩)),is (.int .u8 (a.toNat:Int)),is (.int .u8 ((a.toNat:Int)%4)),is (.int .u8 ((a.toNat:Int)%4*16)),is (.int .u8 ((aU (a.toNat%4*16)).toNat:Int)),row 4 (ah [aU (a.toNat / 4),aU (a.toNat%4*16),61,61])] [[],[],[1],[1,2],[1,2,3],[1,2,3,4],[],[6],[6,7],[6,7,8],[6,7,8,9],[6,7,8,9,10],[1,2,3,4,5,6,7,8,9,10,11],[0,1,2,3,4,5,6,7,8,9,10,11,12]] (by kernel_rfl) ?_ ?_
    ·refine⟨?_,?_,?_,?_,?_,?_,?_,?_,?_,?_,?_,?_,?_,trivial⟩
     all_goals(intro t wq hbq hh K hK;simp only[filled,aj,upd,Have,is,any,row,pick,Act.put,List.setIfInBounds_toArray,List.set_cons_zero,List.set_cons_succ,Nat.reduceAdd,Nat.reduceEqDiff,reduceIte,List.tail_cons,List.headD_cons]at hh hK⊢;(try simp only[hh]at hK⊢);try clear hh)
     iterate 3 · go_simp;exact hK _ _ (Below.refl _ _) rfl
     ·have hq:=(hbq.cell (p:=⟨g,off,none⟩) hgr).trans hc0;go_simp;first|exact hK _ _ (Below.refl _ _) rfl|(refine hK _ _ (Below.refl _ _) ?_;simp[is,pick])
     iterate 4 · go_simp;exact hK _ _ (Below.refl _ _) rfl
     ·have hq:=(hbq.cell (p:=⟨g,off,none⟩) hgr).trans hc0;go_simp;first|exact hK _ _ (Below.refl _ _) rfl|(refine hK _ _ (Below.refl _ _) ?_;simp[is,pick])
     iterate 3 · go_simp;exact hK _ _ (Below.refl _ _) rfl
     ·go_simp;exact hK _ _ ((Below.refl _ _).alloc (Nat.le_refl _) _) ⟨_,_,rfl,Nat.le_refl _,by decide,qF wq [aU (a.toNat / 4),aU (a.toNat%4*16),61,61] 5 (0,0)⟩
    ·intro t wq hbq hh
     have f0:=aB hh 0 (by decide)
     simp only[pick]at f0
     replace f0:t 0=(u3):=f0
     have f12:=aB hh 12 (by decide)
     simp only[pick]at f12
     clear hh
     simp only[filled,aj,upd,Have,is,any,row,pick,Act.put,List.setIfInBounds_toArray,List.set_cons_zero,List.set_cons_succ,Nat.reduceAdd,Nat.reduceEqDiff,reduceIte]
     obtain⟨A12,c12,f12,hc12,hm12,hr12⟩:=f12
     simp only[f0,f12]
     have hown1:=aP hown hbq
     have gW:Below w.heap.size w wq:=hbel.trans (hbq.mono hbel.size)
     refine dH rfl _ _ 45 rfl w.heap.size 5 i0 (.int .u8 0) 1 Tryz.underlying45 hi hz0 hz1 hz2 rfl _ X.length _ rfl hown1 gW gW.size A12 4 c12 (ah [aU (a.toNat / 4),aU (a.toNat%4*16),61,61]) rfl hr12 (nR _) (by unfold maxLen;omega) (by omega) ?_
     intro v' w2 hown2 dZ
     clear o3 o6 x0 x1 x2 y0 y1 y2 hown hown1
     obtain⟨A2,c2,rfl,hst⟩:=HF.out v' w2 _ HE2.out (by
      rw[aS,List.length_append]
      exact hown2)
     go_wp2
     go_ret
     exact⟨rfl,dZ⟩
   ·obtain ⟨a,b,hMM⟩:=LY hml
    subst hMM
    obtain⟨g,off,rfl,hg,_⟩:=(HM.out).spot (by omega)
    have hgr:g<wr.heap.size:=Nat.lt_of_lt_of_le hg hbel.size
    have hc0:wr.cell? ⟨g,off,none⟩=some (.int .u8 (a.toNat:Int)):=(hbel.cell (p:=⟨g,off+0,none⟩) hg).trans (HM.out.byte 0 (by simp))
    have hc1:wr.cell? ⟨g,off+1,none⟩=some (.int .u8 (b.toNat:Int)):=(hbel.cell (p:=⟨g,off+1,none⟩) hg).trans (HM.out.byte 1 (by simp))
    have HE2:Hid (X++[aU (a.toNat / 4),aU (a.toNat%4*16+b.toNat / 16),aU (b.toNat%16*4),61]=e64 L):=by
     have:=HE.out
     rw[e64]at this
     exact this
    have ba:(a.toNat:Int)<256:=by have:=a.toNat_lt;omega
    have bb:(b.toNat:Int)<256:=by have:=b.toNat_lt;omega
    have o1:=or_ab a b
    have o3:=and3 a
    have o4:=PE b
    have o6:=aeP a
    have o7:=an8 b
    have x0:(0:Int)≤(a.toNat:Int) / 4:=by omega
    have x1:(a.toNat:Int) / 4<64:=by omega
    have x2:∀h,(⟨#[65,66,67,68,69,70,71,72,73,74,75,76,77,78,79,80,81,82,83,84,85,86,87,88,89,90,97,98,99,100,101,102,103,104,105,106,107,108,109,110,111,112,113,114,115,116,117,118,119,120,121,122,48,49,50,51,52,53,54,55,56,57,43,47]⟩:ByteArray)[((a.toNat:Int) / 4).toNat]'h=aU (a.toNat / 4):=fun h=>uf _ (a.toNat / 4) (by omega) (by omega) h
    have y0:(0:Int)≤(a.toNat:Int)%4*16+(b.toNat:Int) / 16:=by omega
    have y1:(a.toNat:Int)%4*16+(b.toNat:Int) / 16<64:=by omega
    have y2:∀h,(⟨#[65,66,67,68,69,70,71,72,73,74,75,76,77,78,79,80,81,82,83,84,85,86,87,88,89,90,97,98,99,100,101,102,103,104,105,106,107,108,109,110,111,112,113,114,115,116,117,118,119,120,121,122,48,49,50,51,52,53,54,55,56,57,43,47]⟩:ByteArray)[((a.toNat:Int)%4*16+(b.toNat:Int) / 16).toNat]'h=aU (a.toNat%4*16+b.toNat / 16):=fun h=>uf _ (a.toNat%4*16+b.toNat / 16) (by omega) (by omega) h
    have z0:(0:Int)≤(b.toNat:Int)%16*4:=by omega
    have z1:(b.toNat:Int)%16*4<64:=by omega
    have z2:∀h,(⟨#[65,66,67,68,69,70,71,72,73,74,75,76,77,78,79,80,81,82,83,84,85,86,87,88,89,90,97,98,99,100,101,102,103,104,105,106,107,108,109,110,111,112,113,114,115,116,117,118,119,120,121,122,48,49,50,51,52,53,54,55,56,57,43,47]⟩:ByteArray)[((b.toNat:Int)%16*4).toNat]'h=aU (b.toNat%16*4):=fun h=>uf _ (b.toNat%16*4) (by omega) (by omega) h
    go_wp2
    refine bC (by kernel_rfl) 24 [is (u3),is (.slice (some ⟨g,off,none⟩) 2 cp),is (.pointer (some ⟨g,off,none⟩)),is (.int .u8 (a.toNat:Int)),is (.int .u8 ((a.toNat:Int) / 4)),is (.int .u8 ((aU (a.toNat / 4)).toNat:Int)),is (.slice (some ⟨g,off,none⟩) 2 cp),is (.pointer (some ⟨g,off,none⟩)),is (.int .u8 (a.toNat:Int)),is (.int .u8 ((a.toNat:Int)%4)),is (.int .u8 ((a.toNat:Int)%4*16)),is (.slice (some ⟨g,off,none⟩) 2 cp),is (.pointer (some ⟨g,off+1,none⟩)),is (.int .u8 (b.toNat:Int)),is (.int .u8 ((b.toNat:Int) / 16)),is (.int .u8 ((a.toNat:Int)%4*16+(b.toNat:Int) / 16)),is (.int .u8 ((aU (a.toNat%4*16+b.toNat / 16)).toNat:Int)),is (.slice (some ⟨g,off,none⟩) 2 cp),is (.pointer (some ⟨g,off+1,none⟩)),is (.int .u8 (b.toNat:Int)),is (.int .u8 ((b.toNat:Int)%16)),is (.int .u8 ((b.toNat:Int)%16*4)),is (.int .u8 ((aU (b.toNat%16*4)).toNat:Int)),row 4 (ah [aU (a.toNat / 4),aU (a.toNat%4*16+b.toNat / 16),aU (b.toNat%16*4),61])] [[],[],[1],[1,2],[1,2,3],[1,2,3,4],[],[6],[6,7],[6,7,8],[6,7,8,9],[],[11],[11,12],[11,12,13],[6,7,8,9,10,11,12,13,14],[6,7,8,9,10,11,12,13,14,15],[],[17],[17,18],[17,18,19],[17,18,19,20],[17,18,19,20,21],[1,2,3,4,5,6,7,8,9,10,11,12,13,14,15,16,17,18,19,20,21,22],[0,1,2,3,4,5,6,7,8,9,10,11,12,13,14,15,16,17,18,19,20,21,22,23]] (by kernel_rfl) ?_ ?_
    ·refine⟨?_,?_,?_,?_,?_,?_,?_,?_,?_,?_,?_,?_,?_,?_,?_,?_,?_,?_,?_,?_,?_,?_,?_,?_,trivial⟩
     all_goals(intro t wq hbq hh K hK;simp only[filled,aj,upd,Have,is,any,row,pick,Act.put,List.setIfInBounds_toArray,List.set_cons_zero,List.set_cons_succ,Nat.reduceAdd,Nat.reduceEqDiff,reduceIte,List.tail_cons,List.headD_cons]at hh hK⊢;(try simp only[hh]at hK⊢);try clear hh)
     iterate 3 · go_simp;exact hK _ _ (Below.refl _ _) rfl
     ·have hq:=(hbq.cell (p:=⟨g,off,none⟩) hgr).trans hc0;go_simp;first|exact hK _ _ (Below.refl _ _) rfl|(refine hK _ _ (Below.refl _ _) ?_;simp[is,pick])
     iterate 4 · go_simp;exact hK _ _ (Below.refl _ _) rfl
     ·have hq:=(hbq.cell (p:=⟨g,off,none⟩) hgr).trans hc0;go_simp;first|exact hK _ _ (Below.refl _ _) rfl|(refine hK _ _ (Below.refl _ _) ?_;simp[is,pick])
     iterate 4 · go_simp;exact hK _ _ (Below.refl _ _) rfl
     ·have hq:=(hbq.cell (p:=⟨g,off+1,none⟩) hgr).trans hc1;go_simp;first|exact hK _ _ (Below.refl _ _) rfl|(refine hK _ _ (Below.refl _ _) ?_;simp[is,pick])
     iterate 5 · go_simp;exact hK _ _ (Below.refl _ _) rfl
     ·have hq:=(hbq.cell (p:=⟨g,off+1,none⟩) hgr).trans hc1;go_simp;first|exact hK _ _ (Below.refl _ _) rfl|(refine hK _ _ (Below.refl _ _) ?_;simp[is,pick])
     iterate 3 · go_simp;exact hK _ _ (Below.refl _ _) rfl
     ·go_simp;exact hK _ _ ((Below.refl _ _).alloc (Nat.le_refl _) _) ⟨_,_,rfl,Nat.le_refl _,by decide,qF wq [aU (a.toNat / 4),aU (a.toNat%4*16+b.toNat / 16),aU (b.toNat%16*4),61] 5 (0,0)⟩
    ·intro t wq hbq hh
     have f0:=aB hh 0 (by decide)
     simp only[pick]at f0
     replace f0:t 0=(u3):=f0
     have f23:=aB hh 23 (by decide)
     simp only[pick]at f23
     clear hh
     simp only[filled,aj,upd,Have,is,any,row,pick,Act.put,List.setIfInBounds_toArray,List.set_cons_zero,List.set_cons_succ,Nat.reduceAdd,Nat.reduceEqDiff,reduceIte]
     obtain⟨A23,c23,f23,hc23,hm23,hr23⟩:=f23
     simp only[f0,f23]
     have hown1:=aP hown hbq
     have gW:Below w.heap.size w wq:=hbel.trans (hbq.mono hbel.size)
     refine dH rfl _ _ 45 rfl w.heap.size 5 i0 (.int .u8 0) 1 Tryz.underlying45 hi hz0 hz1 hz2 rfl _ X.length _ rfl hown1 gW gW.size A23 4 c23 (ah [aU (a.toNat / 4),aU (a.toNat%4*16+b.toNat / 16),aU (b.toNat%16*4),61]) rfl hr23 (nR _) (by unfold maxLen;omega) (by omega) ?_
     intro v' w2 hown2 dZ
     clear o1 o3 o4 o6 o7 x0 x1 x2 y0 y1 y2 z0 z1 z2 hown hown1
     obtain⟨A2,c2,rfl,hst⟩:=HF.out v' w2 _ HE2.out (by
      rw[aS,List.length_append]
      exact hown2)
     go_wp2
     go_ret
     exact⟨rfl,dZ⟩
end Go.Proofs.YtmpeaoacaecgpaaGreatDoor.acp
namespace Go.Proofs.YtmpeaoacaecgpaaGreatDoor.B64G
open Go.RowKit Base Base2 BZ B64U Nw acp B64P
def dX (c:Nat):List Bool:=[c / 128%2==1,c / 64%2==1,c / 32%2==1,c / 16%2==1,c / 8%2==1,c / 4%2==1,c / 2%2==1,c%2==1]
def allB (L:List UInt8):List Bool:=L.flatMap fun c=>dX c.toNat
def six (B:List Bool) (i:Nat):Nat:=
 b2 (B.getD (6*i) false) 32+b2 (B.getD (6*i+1) false) 16+b2 (B.getD (6*i+2) false) 8+b2 (B.getD (6*i+3) false) 4+b2 (B.getD (6*i+4) false) 2+b2 (B.getD (6*i+5) false) 1
def groups (L:List UInt8):List Nat:=(List.range ((8*L.length+5) / 6)).map (six (allB L))
def body (L:List UInt8):List UInt8:=(groups L).map aU
theorem aiH (X R:List Bool) (j:Nat) (h:X.length=24):six (X++R) (j+4)=six R j:=by
 have g:∀i,(X++R).getD (24+i) false=R.getD i false:=by
  intro i
  simp only[List.getD_eq_getElem?_getD]
  rw[List.getElem?_append_right (by omega)]
  congr 2
  omega
 unfold six
 have e:6*(j+4)=24+6*j:=by omega
 rw[e]
 simp only[Nat.add_assoc,g]
theorem XI (a b c:UInt8) (t:List UInt8):groups (a::b::c::t)=[six (allB (a::b::c::t)) 0,six (allB (a::b::c::t)) 1,six (allB (a::b::c::t)) 2,six (allB (a::b::c::t)) 3]++groups t:=by
 unfold groups
 have e1:(8*(a::b::c::t).length+5) / 6=(8*t.length+5) / 6+4:=by simp only[List.length_cons];omega
 have e:∀m,List.range (m+4)=[0,1,2,3]++(List.range m).map (·+4):=by
  intro m
  rw[Nat.add_comm m 4,List.range_add]
  congr 1
  apply List.map_congr_left
  intro a _
  omega
 rw[e1,e,List.map_append,List.map_map]
 have e3:(List.range ((8*t.length+5) / 6)).map (six (allB (a::b::c::t)) ∘ fun x=>x+4)=(List.range ((8*t.length+5) / 6)).map (six (allB t)):=by
  apply List.map_congr_left
  intro j _
  simp only[Function.comp]
  have e2:allB (a::b::c::t)=(dX a.toNat++(dX b.toNat++dX c.toNat))++allB t:=by simp[allB]
  rw[e2,aiH _ _ j rfl]
 rw[e3]
 rfl
theorem six0 (a:Nat) (R:List Bool) (_h:a<256):six (dX a++R) 0=a / 4:=by
 unfold six dX
 simp only[List.cons_append,List.nil_append,List.getD_cons_zero,List.getD_cons_succ,Nat.mul_zero,Nat.zero_add,zL]
 omega
theorem six1 (a b:Nat) (R:List Bool) (_h:a<256) (_hb:b<256):six (dX a++(dX b++R)) 1=a%4*16+b / 16:=by
 unfold six dX
 simp only[List.cons_append,List.nil_append,List.getD_cons_zero,List.getD_cons_succ,Nat.mul_one,Nat.reduceAdd,zL]
 omega
theorem six2 (a b c:Nat) (R:List Bool) (_h:a<256) (_hb:b<256) (_hc:c<256):six (dX a++(dX b++(dX c++R))) 2=b%16*4+c / 64:=by
 unfold six dX
 simp only[List.cons_append,List.nil_append,List.getD_cons_zero,List.getD_cons_succ,Nat.reduceMul,Nat.reduceAdd,zL]
 omega
theorem six3 (a b c:Nat) (R:List Bool) (_h:a<256) (_hb:b<256) (_hc:c<256):six (dX a++(dX b++(dX c++R))) 3=c%64:=by
 unfold six dX
 simp only[List.cons_append,List.nil_append,List.getD_cons_zero,List.getD_cons_succ,Nat.reduceMul,Nat.reduceAdd,zL]
 omega
theorem six1' (a:Nat) (_h:a<256):six (dX a) 1=a%4*16:=by
 unfold six dX
 simp only[List.getD_cons_zero,List.getD_cons_succ,List.getD_nil,Nat.mul_one,Nat.reduceAdd,zL,Ih]
 omega
theorem six2' (a b:Nat) (_h:a<256) (_hb:b<256):six (dX a++dX b) 2=b%16*4:=by
 unfold six dX
 simp only[List.cons_append,List.nil_append,List.getD_cons_zero,List.getD_cons_succ,List.getD_nil,Nat.reduceMul,Nat.reduceAdd,zL,Ih]
 omega
theorem groups1 (a:UInt8):groups [a]=[a.toNat / 4,a.toNat%4*16]:=by
 have ha:=a.toNat_lt
 have e:allB [a]=dX a.toNat++[]:=by simp[allB]
 unfold groups
 rw[show(8*[a].length+5) / 6=2 by simp,e]
 simp only[List.range_succ,List.range_zero,List.nil_append,List.cons_append,List.map_cons,List.map_nil]
 rw[six0 _ _ ha,List.append_nil,six1' _ ha]
theorem groups2 (a b:UInt8):groups [a,b]=[a.toNat / 4,a.toNat%4*16+b.toNat / 16,b.toNat%16*4]:=by
 have ha:=a.toNat_lt
 have hb:=b.toNat_lt
 have e:allB [a,b]=dX a.toNat++(dX b.toNat++[]):=by simp[allB]
 unfold groups
 rw[show(8*[a,b].length+5) / 6=3 by simp,e]
 simp only[List.range_succ,List.range_zero,List.nil_append,List.cons_append,List.map_cons,List.map_nil]
 rw[six0 _ _ ha,six1 _ _ _ ha hb,List.append_nil,six2' _ _ ha hb]
theorem groups3 (a b c:UInt8) (t:List UInt8):groups (a::b::c::t)=[a.toNat / 4,a.toNat%4*16+b.toNat / 16,b.toNat%16*4+c.toNat / 64,c.toNat%64]++groups t:=by
 have ha:=a.toNat_lt
 have hb:=b.toNat_lt
 have hc:=c.toNat_lt
 rw[XI]
 have e2:allB (a::b::c::t)=dX a.toNat++(dX b.toNat++(dX c.toNat++allB t)):=by simp[allB]
 rw[e2,six0 _ _ ha,six1 _ _ _ ha hb,six2 _ _ _ _ ha hb hc,six3 _ _ _ _ ha hb hc]
def pd (L:List UInt8):Nat:=if L.length%3=0 then 0 else 3 - L.length%3
theorem qC (L:List UInt8):e64 L=body L++List.replicate (pd L) 61∧U2 (groups L)=L∧∀n ∈ groups L,n<64:=by
 have H : ∀ (k : Nat) (L : List UInt8), L.length ≤ k → e64 L = body L ++ List.replicate (pd L) 61 ∧ U2 (groups L) = L ∧ ∀ n ∈ groups L, n < 64 := by
  intro k
  induction k with
  |zero=>intro L h;obtain rfl:L=[]:=List.eq_nil_of_length_eq_zero (by omega);exact⟨rfl,rfl,fun n h=>by simp[groups]at h⟩
  | succ k ih=>
   intro L hl
   match L,hl with
   |[],_=>exact⟨rfl,rfl,fun n h=>by simp[groups]at h⟩
   |[a],_=>
    have ha:=a.toNat_lt
    unfold body
    rw[groups1]
    refine⟨by simp[e64,pd,List.replicate_succ],?_,?_⟩
    ·simp only[U2]
     congr 1
     rw[show a.toNat / 4*4+a.toNat%4*16 / 16=a.toNat by omega]
     simp
    intro n hn
    simp at hn
    omega
   |[a,b],_=>
    have ha:=a.toNat_lt
    have hb:=b.toNat_lt
    unfold body
    rw[groups2]
    refine⟨by simp[e64,pd,List.replicate_succ],?_,?_⟩
    ·simp only[U2]
     rw[show a.toNat / 4*4+(a.toNat%4*16+b.toNat / 16) / 16=a.toNat by omega,show(a.toNat%4*16+b.toNat / 16)%16*16+b.toNat%16*4 / 4=b.toNat by omega]
     simp
    intro n hn
    simp at hn
    omega
   |a::b::c::t,hl=>
    have ha:=a.toNat_lt
    have hb:=b.toNat_lt
    have hc:=c.toNat_lt
    obtain⟨h1,h2,h3⟩:=ih t (by simp at hl;omega)
    have hp:pd (a::b::c::t)=pd t:=by
     unfold pd
     simp only[List.length_cons]
     rw[show(t.length+1+1+1)%3=t.length%3 by omega]
    unfold body at h1⊢
    rw[groups3,hp]
    refine⟨?_,?_,?_⟩
    ·rw[e64,h1]
     simp
    ·simp only[List.cons_append,List.nil_append,U2,h2]
     rw[show a.toNat / 4*4+(a.toNat%4*16+b.toNat / 16) / 16=a.toNat by omega,show(a.toNat%4*16+b.toNat / 16)%16*16+(b.toNat%16*4+c.toNat / 64) / 4=b.toNat by omega,show(b.toNat%16*4+c.toNat / 64)%4*64+c.toNat%64=c.toNat by omega]
     simp
    intro n hn
    simp only[List.cons_append,List.nil_append,List.mem_cons]at hn
    rcases hn with rfl|rfl|rfl|rfl|hn
    ·omega
    ·omega
    ·omega
    ·omega
    exact h3 n hn
 exact H _ L (Nat.le_refl _)
theorem EN (k:Nat) (h:k<64):aU k≠61∧BZ.blank (aU k)=false∧num (aU k)=(k:Int):=by
 have H:∀k:Fin 64,aU k.val≠61∧BZ.blank (aU k.val)=false∧num (aU k.val)=(k.val:Int):=by decide+kernel
 exact H ⟨k,h⟩
theorem Ij (L:List UInt8):∀c ∈ body L,∃k,k<64∧c=aU k:=by
 intro c hc
 simp only[body,List.mem_map]at hc
 obtain⟨k,hk,rfl⟩:=hc
 exact⟨k,(qC L).2.2 k hk,rfl⟩
theorem Xn (L:List UInt8):∀c ∈ body L,c≠61:=by
 intro c hc
 obtain⟨k,hk,rfl⟩:=Ij L c hc
 exact(EN k hk).1
theorem LQ (X:List UInt8) (h:∀c ∈ X,c≠61):strip X=X:=by
 unfold strip
 rw[if_neg]
 intro e
 exact h 61 (List.mem_of_getLast? e) rfl
theorem LV (X:List UInt8):strip (X++[61])=X:=by
 unfold strip
 rw[if_pos (by simp),List.dropLast_concat]
theorem akV (L:List UInt8):(body L).length=(8*L.length+5) / 6:=by simp[body,groups]
theorem pd_le (L:List UInt8):pd L≤2:=by unfold pd;split<;>omega
theorem agB (X:List UInt8) (h:∀c ∈ X,BZ.blank c=false):Ho X=X:=by
 unfold Ho
 rw[List.filter_eq_self]
 intro c hc
 rw[h c hc]
 rfl
theorem PS (L:List UInt8):∀c ∈ body L,BZ.blank c=false:=by
 intro c hc
 obtain⟨k,hk,rfl⟩:=Ij L c hc
 exact(EN k hk).2.1
theorem txt_e64 (L:List UInt8):txt (e64 L)=body L:=by
 have h4:(e64 L).length%4=0:=by rw[XC];omega
 have hb:Ho (e64 L)=e64 L:=agB _ (by
  intro c hc
  rw[(qC L).1]at hc
  rcases List.mem_append.1 hc with hc|hc
  ·exact PS L c hc
  rw[(List.mem_replicate.1 hc).2]
  rfl)
 unfold txt oH
 rw[hb,if_pos h4,(qC L).1]
 have hs:=LQ _ (Xn L)
 rcases(show pd L=0∨pd L=1∨pd L=2 by have:=pd_le L;omega)with h|h|h
 ·rw[h,List.replicate_zero,List.append_nil,hs,hs]
 ·rw[h,show List.replicate 1 (61:UInt8)=[61]from rfl,LV,hs]
 rw[h,show List.replicate 2 (61:UInt8)=[61]++[61]from rfl,←List.append_assoc,LV,LV]
theorem ah2 (T:List UInt8) (hz:∀c ∈ T,0≤num c):pack (gQ (nums T)) (6*T.length / 8)=U2 (nums T):=by
 have:=aaX (nums T) (afW T hz)
 rwa[show(nums T).length=T.length by simp[nums]]at this
theorem back (L Y:List UInt8) (h:txt Y=body L):Hr Y=true∧dB Y=L:=by
 have hz:∀c ∈ body L,0≤num c:=by
  intro c hc
  obtain⟨k,hk,rfl⟩:=Ij L c hc
  rw[(EN k hk).2.2]
  omega
 have ho:Hr Y=true:=by
  unfold Hr
  rw[h,decide_eq_true_iff]
  exact⟨by rw[akV];omega,hz⟩
 refine⟨ho,?_⟩
 have hn:nums (body L)=groups L:=by
  unfold nums body
  rw[List.map_map]
  conv=>rhs;rw[←List.map_id (groups L)]
  apply List.map_congr_left
  intro k hk
  simp only[Function.comp,(EN k ((qC L).2.2 k hk)).2.2,id,Int.toNat_natCast]
 unfold dB
 rw[ho,if_pos rfl,h,←Lc _ hz,ah2 _ hz,hn]
 exact(qC L).2.1
end Go.Proofs.YtmpeaoacaecgpaaGreatDoor.B64G
namespace Go.Proofs.YtmpeaoacaecgpaaGreatDoor.Hz
open Go.RowKit Base zD EscE fU dI
theorem Ir (n:Nat) (h:n<16):hex (EscE.jR n).toNat=n:=by
 have H:∀k:Fin 16,hex ((EscE.jR k.val).toNat:Int)=(k.val:Int):=by decide
 exact H ⟨n,h⟩
theorem fA (k:Int) (c:UInt8) (L:List UInt8):enc k (c::L)=one k c++enc k L:=by simp[enc]
theorem lV (k:Int) (L:List UInt8) (h:∀c ∈ L,ji k c.toNat=false):enc k L=L:=by
 induction L with
 |nil=>rfl
 |cons c L ih=>
  rw[fA,ih (fun d hd=>h d (by simp[hd]))]
  unfold one
  rw[h c (by simp)]
  rfl
theorem N9 (c:UInt8) (rest:List UInt8):esc (37::EscE.jR (c.toNat / 16)::EscE.jR (c.toNat%16)::rest)=some c:=by
 have hc:=c.toNat_lt
 have h1:=Ir (c.toNat / 16) (by omega)
 have h2:=Ir (c.toNat%16) (by omega)
 rw[esc,if_pos ⟨rfl,by rw[h1];omega,by rw[h2];omega⟩,h1,h2]
 congr 1
 apply UInt8.toNat_inj.1
 simp
 omega
theorem zZ (x:UInt8) (t:List UInt8) (h:x≠37):esc (x::t)=none:=by
 match t with
 |[]=>rfl
 |[_]=>rfl
 |_::_::_=>rw[esc,if_neg (fun e=>h e.1)]
end Go.Proofs.YtmpeaoacaecgpaaGreatDoor.Hz
namespace Go.Proofs.YtmpeaoacaecgpaaGreatDoor.acr
open Go.RowKit Base qh BI acU PrsP
theorem un (x:Int) (h0:0≤x) (h1:x≤255):(u x).toNat=x.toNat:=by have:=jw x h0 h1;omega
theorem aaf (r:Int) (h:Cc r):(r≤127∧Lib.encodeRune r=[u r])∨(128≤r∧∃a b:UInt8,Lib.encodeRune r=[a,b]∧192≤a.toNat∧b.toNat / 64=2)∨
  (128≤r∧∃a b c:UInt8,Lib.encodeRune r=[a,b,c]∧192≤a.toNat∧b.toNat / 64=2∧c.toNat / 64=2)∨(128≤r∧∃a b c d:UInt8,Lib.encodeRune r=[a,b,c,d]∧192≤a.toNat∧b.toNat / 64=2∧c.toNat / 64=2∧d.toNat / 64=2):=by
 obtain⟨h0,h1,h2⟩:=h
 by_cases a:r≤127
 ·exact .inl ⟨a,enc1 r h0 a⟩
 by_cases b:r≤2047
 ·refine .inr (.inl ⟨by omega,_,_,enc2 r (by omega) b,?_,?_⟩)
  ·rw[un _ (by omega) (by omega)];omega
  ·rw[un _ (by omega) (by omega)];omega
 by_cases c:r≤65535
 ·refine .inr (.inr (.inl ⟨by omega,_,_,_,enc3 r (by omega),?_,?_,?_⟩))
  ·rw[un _ (by omega) (by omega)];omega
  ·rw[un _ (by omega) (by omega)];omega
  ·rw[un _ (by omega) (by omega)];omega
 ·refine .inr (.inr (.inr ⟨by omega,_,_,_,_,enc4 r (by omega) h1,?_,?_,?_,?_⟩))
  ·rw[un _ (by omega) (by omega)];omega
  ·rw[un _ (by omega) (by omega)];omega
  ·rw[un _ (by omega) (by omega)];omega
  ·rw[un _ (by omega) (by omega)];omega
theorem Dj (r:Int) (h:Cc r) (t:List UInt8):Lib.decodeN (Lib.encodeRune r++t).length ((Lib.encodeRune r++t).getD 0 0).toNat ((Lib.encodeRune r++t).getD 1 0).toNat ((Lib.encodeRune r++t).getD 2 0).toNat ((Lib.encodeRune r++t).getD 3 0).toNat=(r.toNat,(Lib.encodeRune r).length):=by
 obtain⟨h0,h1,h2⟩:=h
 by_cases a:r≤127
 ·rw[enc1 r h0 a]
  simp only[List.cons_append,List.nil_append,List.getD_cons_zero,un r h0 (by omega),Lib.decodeN]
  rw[if_pos (by omega)]
  rfl
 by_cases b:r≤2047
 ·rw[enc2 r (by omega) b]
  simp only[List.cons_append,List.nil_append,List.getD_cons_zero,List.getD_cons_succ,un (192+r / 64) (by omega) (by omega),un (128+r%64) (by omega) (by omega),Lib.decodeN,List.length_cons,List.length_nil]
  rw[if_neg (by omega),if_pos (by omega),if_pos (by omega)]
  refine Prod.ext ?_ rfl
  simp only
  omega
 by_cases c:r≤65535
 ·rw[enc3 r (by omega)]
  simp only[List.cons_append,List.nil_append,List.getD_cons_zero,List.getD_cons_succ,un (224+r / 4096) (by omega) (by omega),un (128+r / 64%64) (by omega) (by omega),un (128+r%64) (by omega) (by omega),Lib.decodeN,List.length_cons,List.length_nil]
  rw[if_neg (by omega),if_neg (by omega),if_pos (by omega),if_pos (by omega)]
  refine Prod.ext ?_ rfl
  simp only
  omega
 rw[enc4 r (by omega) h1]
 simp only[List.cons_append,List.nil_append,List.getD_cons_zero,List.getD_cons_succ,un (240+r / 262144) (by omega) (by omega),un (128+r / 4096%64) (by omega) (by omega),un (128+r / 64%64) (by omega) (by omega),un (128+r%64) (by omega) (by omega),Lib.decodeN,List.length_cons,List.length_nil]
 rw[if_neg (by omega),if_neg (by omega),if_neg (by omega),if_pos (by omega),if_pos (by omega)]
 refine Prod.ext ?_ rfl
 simp only
 omega
theorem wL (r:Int) (h:Cc r) (t:List UInt8):Lib.decodeL (Lib.encodeRune r++t)=(r.toNat,(Lib.encodeRune r).length):=by rw[Lib.decodeL_N];exact Dj r h t
theorem last4 (t:List UInt8) (c0 c1 c2 c3:UInt8) (h3:128≤c3.toNat) (h2:Lib.runeStartB c2=false) (h1:Lib.runeStartB c1=false) (h0:Lib.runeStartB c0=true) (hd:(Lib.decodeL [c0,c1,c2,c3]).2=4):Lib.decodeLastL (t++[c0,c1,c2,c3])=Lib.decodeL [c0,c1,c2,c3]:=by
 have g1:=Lib.getD_app_end t [c0,c1,c2,c3] 1 (by omega) (by simp)
 have g2:=Lib.getD_app_end t [c0,c1,c2,c3] 2 (by omega) (by simp)
 have g3:=Lib.getD_app_end t [c0,c1,c2,c3] 3 (by omega) (by simp)
 have g4:=Lib.getD_app_end t [c0,c1,c2,c3] 4 (by omega) (by simp)
 have hl:(t++[c0,c1,c2,c3]).length=t.length+4:=by simp
 have hs:Lib.lastStart (t++[c0,c1,c2,c3])=(t++[c0,c1,c2,c3]).length - 4:=by
  unfold Lib.lastStart
  simp only[g2,g3,g4]
  rw[if_neg (by omega)]
  simp only[List.length_cons,List.length_nil,List.getD_cons_succ,List.getD_cons_zero,Nat.reduceAdd,Nat.reduceSub,h2,h1,h0,Bool.false_eq_true,if_false,if_true]
  rw[if_neg (by omega),if_neg (by omega)]
 have hdrop:=Lib.drop_app_end t [c0,c1,c2,c3]
 unfold Lib.decodeLastL
 rw[if_neg (by simp),g1,if_neg (by simp;omega),hs]
 simp only[List.length_cons,List.length_nil]at hdrop
 simp only[hdrop,hd]
 rw[if_pos (by omega)]
theorem RQ {c:UInt8} (h:c.toNat / 64=2):Lib.runeStartB c=false:=by unfold Lib.runeStartB;rw[h];rfl
theorem LM {c:UInt8} (h:192≤c.toNat):Lib.runeStartB c=true:=by
 unfold Lib.runeStartB
 have:=c.toNat_lt
 have h2:c.toNat / 64≠2:=by omega
 simpa using h2
theorem Di (r:Int) (h:Cc r) (t:List UInt8):Lib.decodeLastL (t++Lib.encodeRune r)=(r.toNat,(Lib.encodeRune r).length):=by
 have hd:=wL r h []
 rw[List.append_nil]at hd
 rcases aaf r h with⟨h1,e⟩|⟨_,a,b,e,ha,hb⟩|⟨_,a,b,c,e,ha,hb,hc⟩|⟨_,a,b,c,d,e,ha,hb,hc,hdd⟩
 ·rw[e]at hd⊢
  rw[Lib.decodeLastL_ascii t _ (by rw[un r h.1 (by omega)];have:=h.1;omega),un r h.1 (by omega)]
  rfl
 ·rw[e]at hd⊢
  rw[Lib.last2 t a b (by omega) (LM ha) (by rw[hd];rfl),hd]
 ·rw[e]at hd⊢
  rw[Lib.last3 t a b c (by omega) (RQ hb) (LM ha) (by rw[hd];rfl),hd]
 rw[e]at hd⊢
 rw[last4 t a b c d (by omega) (RQ hc) (RQ hb) (LM ha) (by rw[hd];rfl),hd]
def jG (l:List Int):Prop:=∀r ∈ l,Cc r
theorem iQ (a b:List Int):enc (a++b)=enc a++enc b:=by simp[enc]
theorem oV (r:Int):enc [r]=Lib.encodeRune r:=by simp[enc]
theorem dl (s:ByteArray):s.data.toList.length=s.size:=Array.length_toList
theorem ak5 (a b:List Int) (r:Int) (h:Cc r) (S:ByteArray) (hS:S.data.toList=enc (a++r::b)):Utf8.decode S (enc a).length=(r.toNat,(Lib.encodeRune r).length):=by
 rw[←Lib.decodeL_drop,hS,iQ,List.drop_left,fA]
 exact wL r h _
def bl (r:Int):Bool:=decide (r≤32)
def pn (r:Nat):Bool:=decide (r≤32)
theorem pn_bl (r:Int) (h:0≤r):pn r.toNat=bl r:=by unfold pn bl;congr 1;rw[eq_iff_iff];omega
theorem D8 (r:Int):0<(Lib.encodeRune r).length:=by have:=(Jy r).1;omega
theorem aaD (S:ByteArray):∀(b a:List Int) (f:Nat),S.data.toList=enc (a++b)→jG b→b.length<f→
  Lib.idxFuncFrom pn false S f (enc a).length=if b.all bl=true then -1 else(((enc a).length+(enc (b.takeWhile bl)).length:Nat):Int)
 |[],a,f,hS,_,_=>by
  rw[List.append_nil]at hS
  have hsz:S.size=(enc a).length:=by rw[←dl,hS]
  rw[Lib.idxFuncFrom_end _ _ _ _ _ (by omega)]
  rfl
 | r :: b, a, f, hS, hC, hf => by
  obtain⟨g,rfl⟩:∃g,f=g+1:=⟨f - 1,by simp at hf;omega⟩
  have hr:=hC r (by simp)
  have hd:=ak5 a b r hr S hS
  have hsz:(enc a).length<S.size:=by
   rw[←dl,hS,iQ,List.length_append,fA,List.length_append]
   have:=D8 r
   omega
  rw[Lib.idxFuncFrom,if_pos hsz,hd]
  simp only[pn_bl r hr.1]
  cases hb:bl r with
  |false=>simp[hb,enc]
  |true=>
   rw[if_neg (by simp)]
   have ih:=aaD S b (a++[r]) g (by rw[hS];simp) (fun x hx=>hC x (by simp[hx])) (by simp at hf;omega)
   rw[iQ,oV,List.length_append]at ih
   rw[ih]
   simp only[List.all_cons,hb,Bool.true_and,List.takeWhile_cons,if_true,fA,List.length_append]
   split
   ·rfl
   ·congr 1
    omega
theorem Vu (S:ByteArray) (m:List Int):∀(n:Nat) (l:List Int) (f:Nat),l.length=n→S.data.toList=enc (l++m)→jG l→n<f→
  (l.all bl=true∧Lib.lastIdxFuncFrom pn false S f (enc l).length= -1)∨∃l1 r l2,l=l1++r::l2∧bl r=false∧l2.all bl=true∧Lib.lastIdxFuncFrom pn false S f (enc l).length=((enc l1).length:Int)
 |0,l,f,hl,_,_,_=>by
  obtain rfl:=List.eq_nil_of_length_eq_zero hl
  exact .inl ⟨rfl,Lib.lastIdxFuncFrom_zero _ _ _ _⟩
 |n+1,l,f,hl,hS,hC,hf=>by
  obtain⟨g,rfl⟩:∃g,f=g+1:=⟨f - 1,by omega⟩
  have hne:l≠[]:=by rintro rfl;simp at hl
  obtain⟨k,r,rfl⟩:∃k r,l=k++[r]:=⟨_,_,(List.dropLast_concat_getLast hne).symm⟩
  have hr:=hC r (by simp)
  have htk:S.data.toList.take (enc (k++[r])).length=enc k++Lib.encodeRune r:=by rw[hS,iQ (k++[r]),List.take_left,iQ,oV]
  have hp:0<(enc (k++[r])).length:=by rw[iQ,List.length_append,oV];have:=D8 r;omega
  rw[Lib.lastIdxFuncFrom,if_pos hp,htk,Di r hr]
  simp only[pn_bl r hr.1]
  have hlen:(enc (k++[r])).length - (Lib.encodeRune r).length=(enc k).length:=by rw[iQ,List.length_append,oV];omega
  rw[hlen]
  cases hb:bl r with
  |false=>
   rw[if_pos rfl]
   exact .inr ⟨k,r,[],rfl,hb,rfl,rfl⟩
  |true=>
   rw[if_neg (by simp)]
   simp at hl
   rcases Vu S ([r]++m) n k g hl (by rw[hS];simp) (fun x hx=>hC x (by simp[hx])) (by omega)with⟨h1,h2⟩|⟨l1,q,l2,h1,h2,h3,h4⟩
   ·exact .inl ⟨by simp[h1,hb],h2⟩
   ·exact .inr ⟨l1,q,l2++[r],by rw[h1];simp,h2,by simp[h3,hb],h4⟩
def XM (l:List Int):List Int:=((l.dropWhile bl).reverse.dropWhile bl).reverse
theorem ald {p:Int→Bool} {l:List Int} (h:l.all p=true):l.dropWhile p=[]:=by
 induction l with
 |nil=>rfl
 |cons x l ih=>
  simp only[List.all_cons,Bool.and_eq_true]at h
  rw[List.dropWhile_cons,if_pos h.1]
  exact ih h.2
theorem dw_app {p:Int→Bool} {a:List Int} (b:List Int) (h:a.all p=true):(a++b).dropWhile p=b.dropWhile p:=by
 induction a with
 |nil=>rfl
 |cons x l ih=>
  simp only[List.all_cons,Bool.and_eq_true]at h
  rw[List.cons_append,List.dropWhile_cons,if_pos h.1]
  exact ih h.2
theorem trR (l1 l2:List Int) (r:Int) (h:bl r=false) (h2:l2.all bl=true):((l1++r::l2).reverse.dropWhile bl).reverse=l1++[r]:=by
 rw[List.reverse_append,List.reverse_cons,List.append_assoc,dw_app _ (by simpa using h2),List.singleton_append,List.dropWhile_cons,h]
 simp
theorem agy (l:List Int):l=l.takeWhile bl++l.dropWhile bl:=List.takeWhile_append_dropWhile.symm
theorem amm (l:List Int) (hC:jG l):Lib.trimLeftF pn (strOf (enc l))=strOf (enc (l.dropWhile bl)):=by
 have hf:l.length≤(enc l).length:=(iW l).2
 have hsz:(strOf (enc l)).size=(enc l).length:=size_strOf _
 unfold Lib.trimLeftF Lib.idxFunc
 by_cases hl:l=[]
 ·subst hl
  rfl
 have hlt:0<l.length:=List.length_pos_iff.2 hl
 have h:=aaD (strOf (enc l)) l [] ((strOf (enc l)).size+1) rfl hC (by omega)
 have hmore:Lib.idxFuncFrom pn false (strOf (enc l)) (strOf (enc l)).size (enc []).length=Lib.idxFuncFrom pn false (strOf (enc l)) ((strOf (enc l)).size+1) (enc []).length:=aaE (strOf (enc l)) l [] _ _ rfl hC (by omega) (by omega)
 rw[show(0:Nat)=(enc []).length from rfl,hmore,h]
 by_cases ha:l.all bl=true
 ·rw[if_pos ha,if_pos rfl,ald ha]
  rfl
 rw[if_neg ha,if_neg (by omega)]
 apply ByteArray.ext
 apply Array.ext'
 show((strOf (enc l)).extract _ _).data.toList=_
 rw[hsz]
 have e:((((enc ([]:List Int)).length+(enc (l.takeWhile bl)).length:Nat):Int)).toNat=(enc (l.takeWhile bl)).length:=by rw[show(enc ([]:List Int)).length=0 from rfl,Nat.zero_add,Int.toNat_natCast]
 rw[e]
 have hx:((strOf (enc l)).extract (enc (l.takeWhile bl)).length (enc l).length).data.toList=(enc l).drop (enc (l.takeWhile bl)).length:=by
  rw[ByteArray.data_extract]
  simp only[strOf,Array.toList_extract,List.extract_eq_take_drop]
  exact List.take_of_length_le (by rw[List.length_drop];exact Nat.le_refl _)
 rw[hx]
 have hs:enc l=enc (l.takeWhile bl)++enc (l.dropWhile bl):=by rw[←iQ,←agy]
 have hs2:=congrArg (List.drop (enc (l.takeWhile bl)).length) hs
 rw[List.drop_left]at hs2
 exact hs2
where
 aaE (S:ByteArray):∀(b a:List Int) (f g:Nat),S.data.toList=enc (a++b)→jG b→b.length≤f→b.length≤g→Lib.idxFuncFrom pn false S f (enc a).length=Lib.idxFuncFrom pn false S g (enc a).length
  |[],a,f,g,hS,_,_,_=>by
   rw[List.append_nil]at hS
   have hsz:S.size=(enc a).length:=by rw[←dl,hS]
   rw[Lib.idxFuncFrom_end _ _ _ _ _ (by omega),Lib.idxFuncFrom_end _ _ _ _ _ (by omega)]
  |r::b,a,f,g,hS,hC,hf,hg=>by
   obtain⟨f',rfl⟩:∃g,f=g+1:=⟨f - 1,by simp at hf;omega⟩
   obtain⟨g',rfl⟩:∃f,g=f+1:=⟨g - 1,by simp at hg;omega⟩
   have hr:=hC r (by simp)
   have hd:=ak5 a b r hr S hS
   have ih:=aaE S b (a++[r]) f' g' (by rw[hS];simp) (fun x hx=>hC x (by simp[hx])) (by simp at hf;omega) (by simp at hg;omega)
   rw[iQ,oV,List.length_append]at ih
   rw[Lib.idxFuncFrom,Lib.idxFuncFrom,hd,ih]
theorem aiA (l:List Int) (hC:jG l):Lib.trimRightF pn (strOf (enc l))=strOf (enc (l.reverse.dropWhile bl).reverse):=by
 have hf:l.length≤(enc l).length:=(iW l).2
 have hsz:(strOf (enc l)).size=(enc l).length:=size_strOf _
 unfold Lib.trimRightF Lib.rightEndF Lib.lastIdxFunc
 have hx:∀k,((strOf (enc l)).extract 0 k).data.toList=(enc l).take k:=fun k=>by
  rw[ByteArray.data_extract]
  simp[strOf,Array.toList_extract,List.extract_eq_take_drop]
 by_cases hl:l=[]
 ·subst hl
  rfl
 have hfu:=Vw (strOf (enc l)) [] l.length l (strOf (enc l)).size ((strOf (enc l)).size+1) rfl (by rw[List.append_nil];rfl) hC (by omega) (by omega)
 rw[←hsz]at hfu
 rw[hfu]
 rw[hsz]
 rcases Vu (strOf (enc l)) [] l.length l ((enc l).length+1) rfl (by rw[List.append_nil];rfl) hC (by omega)with⟨h1,h2⟩|⟨l1,r,l2,h1,h2,h3,h4⟩
 ·rw[h2,if_neg (by omega)]
  apply ByteArray.ext
  apply Array.ext'
  rw[hx,List.take_zero,ald (by simpa using h1)]
  rfl
 rw[h4,if_pos (by omega)]
 have hr:=hC r (by rw[h1];simp)
 have hdd:Lib.decodeGoB ((strOf (enc l)).extract (enc l1).length (enc l).length)=(r.toNat,(Lib.encodeRune r).length):=by
  have he:((strOf (enc l)).extract (enc l1).length (enc l).length).data.toList=Lib.encodeRune r++enc l2:=by
   rw[ByteArray.data_extract]
   simp only[strOf,Array.toList_extract,List.extract_eq_take_drop]
   rw[h1,iQ,List.drop_left,fA,List.take_of_length_le (by simp)]
  have hs2:((strOf (enc l)).extract (enc l1).length (enc l).length).size≠0:=by
   rw[←dl,he,List.length_append]
   have:=D8 r
   omega
  unfold Lib.decodeGoB
  rw[if_neg hs2,←Lib.decodeL_drop,List.drop_zero,he]
  exact wL r hr _
 have e:(((enc l1).length:Nat):Int).toNat=(enc l1).length:=by simp
 rw[e,hdd]
 apply ByteArray.ext
 apply Array.ext'
 rw[hx]
 have e2:(l.reverse.dropWhile bl).reverse=l1++[r]:=by rw[h1];exact trR l1 l2 r h2 h3
 rw[e2]
 show _=enc (l1++[r])
 conv=>lhs;rw[h1]
 have e3:enc (l1++r::l2)=enc (l1++[r])++enc l2:=by rw[←iQ];simp
 rw[e3]
 have e4:(enc l1).length+(Lib.encodeRune r).length=(enc (l1++[r])).length:=by rw[iQ,oV,List.length_append]
 rw[e4,List.take_left]
where
 Vw (S:ByteArray) (m:List Int):∀(n:Nat) (l:List Int) (f g:Nat),l.length=n→S.data.toList=enc (l++m)→jG l→n≤f→n≤g→Lib.lastIdxFuncFrom pn false S f (enc l).length=Lib.lastIdxFuncFrom pn false S g (enc l).length
  |0,l,f,g,hl,_,_,_,_=>by
   obtain rfl:=List.eq_nil_of_length_eq_zero hl
   rw[show(enc ([]:List Int)).length=0 from rfl,Lib.lastIdxFuncFrom_zero,Lib.lastIdxFuncFrom_zero]
  |n+1,l,f,g,hl,hS,hC,hf,hg=>by
   obtain⟨f',rfl⟩:∃g,f=g+1:=⟨f - 1,by omega⟩
   obtain⟨g',rfl⟩:∃f,g=f+1:=⟨g - 1,by omega⟩
   have hne:l≠[]:=by rintro rfl;simp at hl
   obtain⟨k,r,rfl⟩:∃k r,l=k++[r]:=⟨_,_,(List.dropLast_concat_getLast hne).symm⟩
   have hr:=hC r (by simp)
   simp at hl
   have htk:S.data.toList.take (enc (k++[r])).length=enc k++Lib.encodeRune r:=by rw[hS,iQ (k++[r]),List.take_left,iQ,oV]
   have hlen:(enc (k++[r])).length - (Lib.encodeRune r).length=(enc k).length:=by rw[iQ,List.length_append,oV];omega
   have ih:=Vw S ([r]++m) n k f' g' hl (by rw[hS];simp) (fun x hx=>hC x (by simp[hx])) (by omega) (by omega)
   rw[Lib.lastIdxFuncFrom,Lib.lastIdxFuncFrom,htk,Di r hr]
   simp only[hlen,ih]
theorem Ik {l:List Int} (h:jG l) (p:Int→Bool):jG (l.dropWhile p):=fun r hr=>h r ((List.dropWhile_sublist p).subset hr)
theorem Sr (l:List Int) (hC:jG l):Lib.trimF pn (strOf (enc l))=strOf (enc (XM l)):=by
 unfold Lib.trimF XM
 rw[amm l hC,aiA _ (Ik hC bl)]
def bk (r:Int):Bool:=decide (r=9)||(decide (r=10)||decide (r=13))
def fz (r:Int):Int:=if bk r=true then -1 else r
theorem amu:∀(l:List Int) (n:Nat),jG l→l.length≤n→Lib.mapGoD fz n (enc l)=enc (l.filter fun r=> !bk r)
 |[],0,_,_=>rfl
 |[],n+1,_,_=>rfl
 |_::_,0,_,h=>by simp at h
 |r::l,n+1,hC,hn=>by
  have hr:=hC r (by simp)
  have hne:enc (r::l)≠[]:=by rw[fA];exact adp r _
  have hd:=wL r hr (enc l)
  rw[←fA]at hd
  rw[Lib.mapGoD,if_neg hne,hd]
  have e:((r.toNat:Nat):Int)=r:=by have:=hr.1;omega
  simp only[e]
  rw[fA,List.drop_left,amu l n (fun x hx=>hC x (by simp[hx])) (by simp at hn;omega)]
  cases hb:bk r with
  |true=>
   have:fz r= -1:=by unfold fz;rw[hb];rfl
   rw[this]
   simp[hb]
  |false=>
   have h2:fz r=r:=by unfold fz;rw[hb];rfl
   rw[h2,if_pos hr.1]
   simp[hb,enc]
theorem map_enc (l:List Int) (hC:jG l):Lib.mapD fz (enc l)=enc (l.filter fun r=> !bk r):=amu l _ hC (iW l).2
theorem amr (r:Int) (h:Cc r) (h1:r≤127):fO (u r)=bl r∧brk (u r)=bk r:=by
 have hn:=un r h.1 (by omega)
 constructor
 ·unfold fO bl
  congr 1
  rw[hn,eq_iff_iff]
  have:=h.1
  omega
 have hk:∀k:UInt8,(k.toNat:Int)≤127→(decide (u r=k)=decide (r=(k.toNat:Int))):=fun k hk=>by
  congr 1
  rw[eq_iff_iff]
  constructor
  ·intro e
   have:=congrArg UInt8.toNat e
   rw[hn]at this
   have:=h.1
   omega
  intro e
  apply UInt8.toNat_inj.1
  rw[hn]
  omega
 unfold brk bk
 rw[hk 9 (by decide),hk 10 (by decide),hk 13 (by decide)]
 rfl
theorem IE {c:UInt8} (h:128≤c.toNat):fO c=false∧brk c=false:=by
 constructor
 ·unfold fO
  simp
  omega
 unfold brk
 have hk:∀k:UInt8,k.toNat<128→decide (c=k)=false:=fun k hk=>by
  rw[decide_eq_false_iff_not]
  rintro rfl
  omega
 rw[hk 9 (by decide),hk 10 (by decide),hk 13 (by decide)]
 rfl
theorem IG (r:Int) (h:Cc r) (h1:128≤r):∀c ∈ Lib.encodeRune r,128≤c.toNat:=by
 rcases aaf r h with⟨h2,_⟩|⟨_,a,b,e,ha,hb⟩|⟨_,a,b,c,e,ha,hb,hc⟩|⟨_,a,b,c,d,e,ha,hb,hc,hd⟩
 ·omega
 all_goals
  intro x hx
  rw[e]at hx
  simp only[List.mem_cons,List.not_mem_nil,or_false]at hx
 ·rcases hx with rfl|rfl<;>omega
 ·rcases hx with rfl|rfl|rfl<;>omega
 rcases hx with rfl|rfl|rfl|rfl<;>omega
theorem ac4 (r:Int) (h:128≤r):bl r=false∧bk r=false:=by
 constructor
 ·unfold bl;simp;omega
 unfold bk;simp;omega
theorem ale:∀l:List Int,jG l→(enc l).dropWhile fO=enc (l.dropWhile bl)
 |[],_=>rfl
 | r :: l, hC => by
  have hr:=hC r (by simp)
  have ih:=ale l fun x hx=>hC x (by simp[hx])
  by_cases h1:r≤127
  ·have e:=enc1 r hr.1 h1
   have hb:=(amr r hr h1).1
   rw[fA,e,List.singleton_append,List.dropWhile_cons,List.dropWhile_cons,hb,ih]
   split
   ·rfl
   ·rw[fA,e];rfl
  ·obtain⟨c,t,e⟩:∃c t,Lib.encodeRune r=c::t:=by
    cases e:Lib.encodeRune r with
    |nil=>have:=D8 r;rw[e]at this;simp at this
    |cons c t=>exact⟨c,t,rfl⟩
   have hc:=IG r hr (by omega) c (by rw[e];simp)
   rw[fA,e,List.cons_append,List.dropWhile_cons,(IE hc).1,List.dropWhile_cons,(ac4 r (by omega)).1]
   simp only[Bool.false_eq_true,if_false]
   rw[fA,e]
   rfl
theorem Qe:∀(n:Nat) (l:List Int),l.length=n→jG l→((enc l).reverse.dropWhile fO).reverse=enc (l.reverse.dropWhile bl).reverse
 |0,l,hl,_=>by
  obtain rfl:=List.eq_nil_of_length_eq_zero hl
  rfl
 | n + 1, l, hl, hC => by
  have hne:l≠[]:=by rintro rfl;simp at hl
  obtain⟨k,r,rfl⟩:∃k r,l=k++[r]:=⟨_,_,(List.dropLast_concat_getLast hne).symm⟩
  simp at hl
  have hr:=hC r (by simp)
  have ih:=Qe n k hl fun x hx=>hC x (by simp[hx])
  rw[iQ,oV,List.reverse_append,List.reverse_append]
  by_cases h1:r≤127
  ·have e:=enc1 r hr.1 h1
   have hb:=(amr r hr h1).1
   rw[e]
   simp only[List.reverse_singleton,List.singleton_append,List.dropWhile_cons,hb]
   split
   ·exact ih
   ·simp[iQ,oV,e]
  ·obtain⟨t,c,e⟩:∃t c,Lib.encodeRune r=t++[c]:=by
    have hn:Lib.encodeRune r≠[]:=by intro e;have:=D8 r;rw[e]at this;simp at this
    exact⟨_,_,(List.dropLast_concat_getLast hn).symm⟩
   have hc:=IG r hr (by omega) c (by rw[e];simp)
   rw[e]
   simp only[List.reverse_append,List.reverse_singleton,List.singleton_append,List.cons_append,List.dropWhile_cons,(IE hc).1,(ac4 r (by omega)).1,Bool.false_eq_true,if_false]
   simp[iQ,oV,e]
theorem trm_enc (l:List Int) (hC:jG l):ru (enc l)=enc (XM l):=by
 unfold ru XM
 rw[ale l hC,Qe _ _ rfl (Ik hC bl)]
theorem Qj:∀l:List Int,jG l→(enc l).filter (fun c=> !brk c)=enc (l.filter fun r=> !bk r)
 |[],_=>rfl
 | r :: l, hC => by
  have hr:=hC r (by simp)
  rw[fA,List.filter_append,Qj l fun x hx=>hC x (by simp[hx])]
  by_cases h1:r≤127
  ·have e:=enc1 r hr.1 h1
   have hb:=(amr r hr h1).2
   rw[e,List.filter_cons,hb,List.filter_cons]
   cases bk r<;>simp[enc,e]
  ·have hf:(Lib.encodeRune r).filter (fun c=> !brk c)=Lib.encodeRune r:=by
    refine List.filter_eq_self.2 fun c hc=>?_
    rw[(IE (IG r hr (by omega) c hc)).2]
    rfl
   rw[hf,List.filter_cons,(ac4 r (by omega)).2]
   simp[enc]
theorem afb {l:List Int} (h:jG l):jG l.reverse:=fun r hr=>h r (by simpa using hr)
theorem afc {l:List Int} (h:jG l):jG (XM l):=afb (Ik (afb (Ik h bl)) bl)
theorem adb (L:List UInt8):Lib.mapD fz (Lib.trimF pn (strOf (enc (dec L)))).data.toList=clean L:=by
 have hC:jG (dec L):=zU L
 rw[Sr _ hC]
 show Lib.mapD fz (enc (XM (dec L)))=_
 rw[map_enc _ (afc hC)]
 unfold clean
 rw[trm_enc _ hC,Qj _ (afc hC)]
theorem yF (L:List UInt8):(clean L).length≤3*L.length:=by
 unfold clean
 refine Nat.le_trans (List.length_filter_le _ _) ?_
 have h1:(ru (enc (dec L))).length≤(enc (dec L)).length:=by
  unfold ru
  rw[List.length_reverse]
  refine Nat.le_trans (List.dropWhile_sublist _).length_le ?_
  rw[List.length_reverse]
  exact(List.dropWhile_sublist _).length_le
 exact Nat.le_trans h1 (Dk _ L (Nat.le_refl _))
where
 Dk:∀(n:Nat) (L:List UInt8),L.length≤n→(enc (dec L)).length≤3*L.length
  |_,[],_=>by simp[lT,enc]
  |0,_::_,h=>by simp at h
  | n + 1, x :: t, h => by
   have hs:=nJ x t
   have he:(Lib.encodeRune (rd (x::t)).1).length≤3*(rd (x::t)).2.1.toNat:=by
    cases hw:(rd (x::t)).2.2
    ·rw[(sF x t).2 hw]
     have:(Lib.encodeRune 65533).length=3:=by decide
     omega
    ·rw[((sF x t).1 hw).2,List.length_take]
     omega
   simp only[List.length_cons]at h
   have ih:=Dk n ((x::t).drop (rd (x::t)).2.1.toNat) (by rw[List.length_drop,List.length_cons];omega)
   rw[List.length_drop,List.length_cons]at ih
   rw[iK,fA,List.length_append,List.length_cons]
   omega
end Go.Proofs.YtmpeaoacaecgpaaGreatDoor.acr
namespace Go.Proofs.YtmpeaoacaecgpaaGreatDoor.agU
open Go.RowKit Base qh BI cO PthP PthE PthG PthJ UrlA HstP PrsP
theorem jY {α:Type} {c:Prop} [Decidable c] {x:Option α} {u:α} (h:(if c then none else x)=some u):¬c∧x=some u:=by
 by_cases hc:c
 ·rw[if_pos hc]at h;cases h
 rw[if_neg hc]at h;exact⟨hc,h⟩
end Go.Proofs.YtmpeaoacaecgpaaGreatDoor.agU
namespace Go.Proofs.YtmpeaoacaecgpaaGreatDoor.Zo
open Go.RowKit Base HstP
theorem qV (c:UInt8) (d:Bool) (w:World):Calls Tryz.prog 290 #[.int .u8 (c.toNat:Int),.bool d] w fun e w'=>e=.returned (.bool (JU d c))∧w=w':=by
 cases d with
 |false=>
  go_enter Tryz.func290,Tryz.ntmps290
  go_wp2_with fail
  refine(Tryz.strings_IndexByte _ _ _).mono ?_
  rintro e w1 ⟨rfl,rfl⟩
  rw[show(⟨#[0,9,10,13,32,35,47,58,60,62,63,64,91,92,93,94,124]⟩:ByteArray).data.toList=FRB from rfl,show((c.toNat:Int).toNat).toUInt8=c by simp]
  go_wp2_with fail
  go_ret
  exact⟨ak (by rw[Vd,←Vh]),rfl⟩
 | true=>
  by_cases h:c.toNat<32∨c=127∨c=37
  ·have HE:Hid (JU true c=true):=by
    show _=_
    rcases h with h|rfl|rfl
    ·simp[JU,h]
    ·rfl
    rfl
   rcases h with h|rfl|rfl
   ·have h1:(c.toNat:Int)<32:=by omega
    clear h
    go_enter Tryz.func290,Tryz.ntmps290
    go_wp2
    go_ret
    exact⟨by rw[HE.out];rfl,rfl⟩
   ·go_enter Tryz.func290,Tryz.ntmps290
    go_wp2
    go_ret
    exact⟨by rw[HE.out];rfl,rfl⟩
   go_enter Tryz.func290,Tryz.ntmps290
   go_wp2
   go_ret
   exact⟨by rw[HE.out];rfl,rfl⟩
  have h1:¬(c.toNat:Int)<32:=by omega
  have h2:((c.toNat:Int)==127)=false:=by
   rw[beq_eq_false_iff_ne]
   intro e
   exact h (.inr (.inl (UInt8.toNat_inj.1 (by show _=127;omega))))
  have h3:((c.toNat:Int)==37)=false:=by
   rw[beq_eq_false_iff_ne]
   intro e
   exact h (.inr (.inr (UInt8.toNat_inj.1 (by show _=37;omega))))
  have HE:Hid (JU true c=U1 c):=by
   show _=_
   have e1:decide (c.toNat<32)=false:=by simp;omega
   have e2:(c==127)=false:=by rw[beq_eq_false_iff_ne];exact fun e=>h (.inr (.inl e))
   have e3:(c==37)=false:=by rw[beq_eq_false_iff_ne];exact fun e=>h (.inr (.inr e))
   simp[JU,e1,e2,e3]
  clear h
  go_enter Tryz.func290,Tryz.ntmps290
  go_wp2_with fail
  refine(Tryz.strings_IndexByte _ _ _).mono ?_
  rintro e w1 ⟨rfl,rfl⟩
  rw[show(⟨#[0,9,10,13,32,35,47,58,60,62,63,64,91,92,93,94,124]⟩:ByteArray).data.toList=FRB from rfl,show((c.toNat:Int).toNat).toUInt8=c by simp]
  go_wp2_with fail
  go_ret
  exact⟨ak (by rw[HE.out,←Vh]),rfl⟩
end Go.Proofs.YtmpeaoacaecgpaaGreatDoor.Zo
