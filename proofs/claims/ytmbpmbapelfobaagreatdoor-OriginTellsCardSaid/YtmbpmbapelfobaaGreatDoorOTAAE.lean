/- Lemmas. -/
import Derived.Test.YtmbpmbapelfobaaGreatDoorOTAAD
import Derived.Deep.DeepCutAuto
import Derived.Deep.CutBlock
set_option linter.unusedSimpArgs false
set_option linter.unusedVariables false
set_option maxRecDepth 100000
set_option maxHeartbeats 64000000
namespace Go.Proofs.YtmbpmbapelfobaaGreatDoor
open Tryz
namespace jF
open Go.RowKit Base aV lX qy Ba fH kS Du dJ
theorem Lc (x:Nat):((x:Int)==0)=(x==0):=by
 cases h:(x==0)with
 | true => have:x=0:=by simpa using h
           subst this;rfl
 | false => have:x≠0:=by simpa using h
            rw[beq_eq_false_iff_ne];omega
theorem yY {w:World} (f:Nat→Nat):Box (w.alloc (.cells #[.int .u16 (f 0:Int),.int .u16 (f 1:Int),.int .u16 (f 2:Int),.int .u16 (f 3:Int),.int .u16 (f 4:Int),.int .u16 (f 5:Int),.int .u16 (f 6:Int),.int .u16 (f 7:Int)] 156)) w.heap.size 156 (V8 f):=heap_alloc_new _ _
theorem Mc (f : Nat → Nat) (w : World) : Calls prog 188 #[A8 f] w fun e w' => e = .returned (.tuple #[.int .i64 ((qP (zs f)).1 : Int), .int .i64 ((qP (zs f)).2 : Int)]) ∧ Below w.heap.size w w' := by
 obtain⟨Z,t⟩:∃Z,Z=zs f:=⟨_,rfl⟩;have N:=hid t;rw[←t];have g:Hid (Z.length=8):=by show _=_;rw[t];rfl
 clear t;unfold A8;go_enter func188,ntmps188;go_upto_region 1 with(fail)
 generalize hw1:w.alloc _=w1;have D:Hid (Below w.heap.size w w1):=by
  show Below _ _ _;rw[←hw1];exact(Below.refl _ _).alloc (Nat.le_refl _) _
 have A:Hid (Box w1 w.heap.size 156 (V8 f)):=by
  show Box _ _ _ _;rw[←hw1];exact yY f
 clear hw1;go_wp2;go_loopw [2,3,4,5] (fun vf vt vk _ wr=>∃(r k a b:Nat),vk=.int .i64 (k:Int)∧vf=.int .i64 (a:Int)∧vt=.int .i64 (b:Int)∧k≤9∧a≤b∧b≤8∧9≤r+k∧wr=w1∧Hid (qP Z=goC Z r k a b)) (fun _ _ vk _ _=>9 - (intOf vk).toNat)
 case atStart=>exact⟨9,0,0,0,rfl,rfl,rfl,by omega,by omega,by omega,by omega,rfl,rfl⟩
 case round=>
  obtain⟨r,c,a,b,rfl,rfl,rfl,H,L,hb8,y,rfl,s⟩:=hrel;by_cases hlt:c<8
  ·obtain ⟨d,rfl⟩:∃d,r=d+1:=⟨r - 1,by omega⟩;have E:9≤d+(c+1):=by omega
   clear y;go_wp2;go_loopw [4] (fun vk wx=>∃k:Nat,c≤k∧k≤8∧vk=.int .i64 (k:Int)∧wx=wr∧Hid (run Z c=(k - c)+run Z k)) (fun vk _=>8 - (intOf vk).toNat)
   case atStart=>exact⟨c,by omega,by omega,rfl,rfl,by show _=_;omega⟩
   case round =>
    obtain⟨k,J,I,rfl,rfl,C⟩:=hrel;by_cases hk:k<8
    ·have l:=A.cell k (by show k<8;exact hk);rw[lZ f k hk]at l;have n:Z[k]'(by rw[g.out];exact hk)=(f k==0):=by
      have:=Qa f k hk (by rw[CG];exact hk);simp only[N.out];exact this
     have m:=hid n;obtain⟨x,hx⟩:∃x,f k=x:=⟨_,rfl⟩;rw[hx]at l m;have q:(k:Int)<8:=by omega
     clear hx n;by_cases hx0:x=0
     ·subst hx0;have B:Hid (run Z c=(k+1 - c)+run Z (k+1)):=by
       show _=_;rw[C.out,Nj (by rw[g.out];exact hk) (by rw[m.out];rfl)];omega
      rw[show((0:Nat):Int)=0 from rfl]at l;go_wp2;go_roundw
      case rel=>exact⟨k+1,by omega,by omega,by go_num,by first|rfl|trivial,B⟩
      case measure=>simp[intOf];omega
     have G:((x:Int)==0)=false:=by rw[Lc];simpa using hx0
     have F:¬(x:Int)=0:=by omega
     have i:Hid (run Z c=k - c):=by
      show _=_;rw[C.out,XB (by rw[g.out];exact hk) (by rw[m.out];simpa using hx0)];rfl
     clear hx0;by_cases hgt:b - a<k - c
     ·have h:Hid (qP Z=goC Z d (k+1) c k):=by
       show _=_;rw[s.out]
       conv=>lhs;unfold goC
       rw[if_pos (by rw[g.out];exact hlt),i.out,if_pos hgt,show c+(k - c)=k by omega]
      have j:(b:Int) - (a:Int)<(k:Int) - (c:Int):=by omega
      have v:(c:Int)≤(k:Int):=by omega
      have z:(a:Int)≤(b:Int):=by omega
      clear hgt;go_wp2;go_roundw
      case rel=>exact⟨d,k+1,c,k,by go_num,rfl,rfl,by omega,by omega,by omega,by omega,by first|rfl|trivial,h⟩
      case measure=>simp[intOf];omega
     have h:Hid (qP Z=goC Z d (k+1) a b):=by
      show _=_;rw[s.out]
      conv=>lhs;unfold goC
      rw[if_pos (by rw[g.out];exact hlt),i.out,if_neg hgt,show c+(k - c)=k by omega]
     have j:¬(b:Int) - (a:Int)<(k:Int) - (c:Int):=by omega
     clear hgt;go_wp2;go_roundw
     case rel=>exact⟨d,k+1,a,b,by go_num,rfl,rfl,by omega,by omega,by omega,by omega,by first|rfl|trivial,h⟩
     case measure=>simp[intOf];omega
    obtain rfl:k=8:=by omega
    have i:Hid (run Z c=8 - c):=by show _=_;rw[C.out,run_end (by rw[g.out];exact Nat.le_refl _)];rfl
    by_cases hgt:b - a<8 - c
    ·have h:Hid (qP Z=goC Z d (8+1) c 8):=by
      show _=_;rw[s.out]
      conv=>lhs;unfold goC
      rw[if_pos (by rw[g.out];exact hlt),i.out,if_pos hgt,show c+(8 - c)=8 by omega]
     have j:(b:Int) - (a:Int)<8 - (c:Int):=by omega
     have v:(c:Int)≤8:=by omega
     have z:(a:Int)≤(b:Int):=by omega
     clear hgt;go_wp2;go_roundw
     case rel=>exact⟨d,8+1,c,8,by go_num,rfl,rfl,by omega,by omega,by omega,by omega,by first|rfl|trivial,h⟩
     case measure=>simp[intOf];omega
    have h:Hid (qP Z=goC Z d (8+1) a b):=by
     show _=_;rw[s.out]
     conv=>lhs;unfold goC
     rw[if_pos (by rw[g.out];exact hlt),i.out,if_neg hgt,show c+(8 - c)=8 by omega]
    have j:¬(b:Int) - (a:Int)<8 - (c:Int):=by omega
    clear hgt;go_wp2;go_roundw
    case rel=>exact⟨d,8+1,a,b,by go_num,rfl,rfl,by omega,by omega,by omega,by omega,by first|rfl|trivial,h⟩
    case measure=>simp[intOf];omega
  have O:Hid (qP Z=(a,b)):=by show _=_;rw[s.out];exact Zl (by rw[g.out];omega)
  have q:¬(c:Int)<8:=by omega
  go_wp2;go_ret2;exact⟨by rw[O.out];rfl,D⟩
theorem BX (f:Nat→Nat):(qP (zs f)).1≤(qP (zs f)).2∧(qP (zs f)).2≤8:=by
 have:=BL (f 0==0) (f 1==0) (f 2==0) (f 3==0) (f 4==0) (f 5==0) (f 6==0) (f 7==0);exact⟨this.1,this.2.1⟩
def prt (f:Nat→Nat):List UInt8:=if (qP (zs f)).2 - (qP (zs f)).1<2 then jx (V8 f)else jx ((V8 f).take (qP (zs f)).1)++[58,58]++jx ((V8 f).drop (qP (zs f)).2)
theorem Bo {w:World} {g:Nat} {t:TypeId} {L:List Nat} (h:Box w g t L):dW w (some ⟨g,0,none⟩) L.length (bC L):=
 dW.lT (jP L) (Array.getElem?_eq_some_iff.1 h).1 (fun j hj=>by
  rw[Nat.zero_add,h.cell j (by rw[jP]at hj;exact hj)]
  simp[bC])
theorem Ej {f:Nat→Nat} (h:∀i,f i<65536):∀x ∈ V8 f,x<65536:=by
 intro x hx;simp only[V8,List.mem_cons,List.not_mem_nil,or_false]at hx;rcases hx with rfl|rfl|rfl|rfl|rfl|rfl|rfl|rfl<;>exact h _
theorem qp (f:Nat→Nat) (h6:∀i,f i<65536) (w:World) (hL:pK w):Calls prog 162 #[A8 f] w fun e w'=>e=.returned (.string (ah (prt f)))∧Below w.heap.size w w':=by
 obtain⟨P,C⟩:∃P,P=prt f:=⟨_,rfl⟩;rw[←C];have h:=hid hL;have H6:=hid (Ej h6);have B:=BX f;have k:=fun w=>Mc f w;unfold prt at C;unfold A8 at k⊢;obtain⟨a,L⟩:∃a,a=(qP (zs f)).1:=⟨_,rfl⟩;obtain⟨b,J⟩:∃b,b=(qP (zs f)).2:=⟨_,rfl⟩;rw[←L,←J]at C B;have j:∀w,Calls prog 188 #[.agg #[.int .u16 (f 0:Int),.int .u16 (f 1:Int),.int .u16 (f 2:Int),.int .u16 (f 3:Int),.int .u16 (f 4:Int),.int .u16 (f 5:Int),.int .u16 (f 6:Int),.int .u16 (f 7:Int)]] w fun e w'=>e=.returned (.tuple #[.int .i64 (a:Int),.int .i64 (b:Int)])∧Below w.heap.size w w':=by
  intro w;rw[L,J];exact k w
 have X:=hid j;obtain⟨a5,a4⟩:=B;have HP:=hid C;clear k j L J hL h6 C;go_enter func162,ntmps162;go_upto_region 1 with(fail)
 generalize hw1:w.alloc _=w1;have Z:Hid (Below w.heap.size w w1):=by
  show Below _ _ _;rw[←hw1];exact(Below.refl _ _).alloc (Nat.le_refl _) _
 have E:Hid (Box w1 w.heap.size 156 (V8 f)):=by
  show Box _ _ _ _;rw[←hw1];exact yY f
 clear hw1;obtain⟨c0,c1,c2,c3,c4,O,c6,c7⟩:=dA E f rfl;go_wp2_with fail
 refine(X _).mono ?_;rintro e G ⟨rfl,q⟩;have d:Hid (Below w.heap.size w G):=bD Z q;have z:=hid (E.below q);have a3:(a:Int)≤(b:Int):=by omega
 have a0:(b:Int)≤8:=by omega
 clear q c0 c1 c2 c3 c4 O c6 c7;by_cases hlt:b - a<2
 ·have A:(b:Int) - (a:Int)<2:=by omega
  have Y:Hid (P=jx (V8 f)):=by show _=_;rw[HP.out,if_pos hlt]
  clear hlt;go_wp2_with fail
  refine(EZ _ 8 8 (V8 f) _ (Bo z) (Nat.le_refl _) H6 (h.below d)).mono ?_;rintro e w3 ⟨rfl,I⟩;go_wp2;go_ret;exact⟨by rw[Y.out];rfl,bD d I⟩
 have A:¬(b:Int) - (a:Int)<2:=by omega
 have b3:a≤8:=by omega
 obtain⟨P1,y⟩:∃P1,P1=ah (jx ((V8 f).take a)):=⟨_,rfl⟩;obtain⟨P2,v⟩:∃P2,P2=ah (jx ((V8 f).take a)++[58,58]):=⟨_,rfl⟩;obtain⟨P3,s⟩:∃P3,P3=ah (jx ((V8 f).drop b)):=⟨_,rfl⟩;obtain⟨P4,r⟩:∃P4,P4=ah P:=⟨_,rfl⟩;have m:=uH ((V8 f).take a);have l:=uH ((V8 f).drop b);rw[List.length_take]at m;rw[List.length_drop]at l;have D:(V8 f).length=8:=rfl;rw[D]at m l;have a1:∀w:World,(Op.stringOp .add P1 ⟨#[58,58]⟩).run prog w=.ok (.string P2) w:=fun w=>by
  rw[y,v];exact bH _ [58,58] w (by simp;omega)
 have a2:∀w:World,(Op.stringOp .add P2 P3).run prog w=.ok (.string P4) w:=fun w=>by
  rw[v,s,r,HP.out,if_neg hlt];exact bH _ _ w (by rw[List.length_append];simp;omega)
 have T:=hid y;have Q:=hid s;have Y:Hid (P4=ah P):=r;have HT:Hid (dW G (some ⟨w.heap.size,0,none⟩) a (bC ((V8 f).take a))):=by
  have:=(Bo z).upto a (by show a≤8;omega);have e:bC ((V8 f).take a)=(bC (V8 f)).take a:=by simp[bC]
  show dW _ _ _ _;rw[e];exact this
 have HD:Hid (dW G (some ⟨w.heap.size,b,none⟩) (8 - b) (bC ((V8 f).drop b))):=by
  have:=(Bo z).cut b (by show b≤8;omega);have e:bC ((V8 f).drop b)=(bC (V8 f)).drop b:=by simp[bC]
  show dW _ _ _ _;rw[e];rw[show(V8 f).length=8 from rfl,Nat.zero_add]at this;exact this
 have W:Hid (∀x ∈ (V8 f).take a,x<65536):=fun x hx=>H6 x (List.mem_of_mem_take hx);have V:Hid (∀x ∈ (V8 f).drop b,x<65536):=fun x hx=>H6 x (List.mem_of_mem_drop hx);clear hlt y v s r m l D;go_wp2_with fail
 refine dG (by kernel_rfl) [is (.int .i64 (a:Int)),is (.slice (some ⟨w.heap.size,0,none⟩) a 8),is (.string P1),is (.string P2),is (.int .i64 (b:Int)),row (8 - b) (bC ((V8 f).drop b)),is (.string P3),is (.string P4),is (.string P4)] [[],[0],[1],[2],[],[4],[5],[3,6],[7]] (by kernel_rfl) ?_ ?_
 ·refine ⟨?_,?_,?_,?_,?_,?_,?_,?_,?_,trivial⟩;all_goals(intro t wq g hh K c;simp only[iQ,Act.put,Nat.reduceAdd,Nat.reduceEqDiff,reduceIte]at hh c⊢)
  ·try simp only[hh]at c⊢
   clear hh;go_simp;exact c _ _ aZ rfl
  ·try simp only[hh]at c⊢
   clear hh;have b5:(a:Int)≤8:=by omega
   have b6:(0:Int)≤(a:Int):=by omega
   go_simp;exact c _ _ aZ rfl
  ·try simp only[hh]at c⊢
   clear hh;go_simp;refine(EZ _ a 8 ((V8 f).take a) _ (HT.below g) (by omega) W (h.below (d.trans (g.mono d.size)))).mono ?_;rintro e w5 ⟨rfl,n⟩;rw[←T.out];exact c _ _ n rfl
  iterate 2
   ·try simp only[hh]at c⊢
    clear hh;go_simp;exact c _ _ aZ rfl
  ·try simp only[hh]at c⊢
   clear hh;have a9:(b:Int)≤8:=by omega
   have b0:(0:Int)≤(b:Int):=by omega
   by_cases hb8:b=8
   ·have hz:8 - b=0:=by omega
    simp only[hb8]at c;go_simp;exact c _ _ aZ ⟨_,_,rfl,by omega,by unfold maxLen;omega,by rw[List.drop_eq_nil_of_le (by show 8≤8;omega)];exact dW.nil _⟩
   have hz:¬8 - b=0:=by omega
   have a6:¬8=b:=by omega
   go_simp;exact c _ _ aZ ⟨_,_,rfl,Nat.le_refl _,by unfold maxLen;omega,HD.below g⟩
  ·have N:=hh.1;clear hh;obtain⟨A5,O,N,a8,a7,H⟩:=N;simp only[N]at c⊢;go_simp;refine(EZ A5 (8 - b) O ((V8 f).drop b) _ H (by omega) V (h.below (d.trans (g.mono d.size)))).mono ?_;rintro e w5 ⟨rfl,n⟩;rw[←Q.out];exact c _ _ n rfl
  ·try simp only[hh]at c⊢
   clear hh;go_simp;first|exact c _ _ aZ rfl|exact c _ _ aZ trivial
  try simp only[hh]at c⊢
  clear hh;go_simp;exact c _ _ aZ rfl
 intro t wq g hh;have F:=aO hh 8 (by decide);simp only[pick]at F;replace F:t 8=(.string P4):=F;clear hh;simp only[iQ,Act.put,Nat.reduceAdd,Nat.reduceEqDiff,reduceIte];simp only[F];go_wp2;go_ret;exact⟨by rw[←Y.out];rfl,d.trans (g.mono d.size)⟩
end jF
namespace fA
open Go.RowKit Base
def low (c:UInt8):UInt8:=if 65≤c.toNat∧c.toNat≤90 then c+32 else c
def lower (l:List UInt8):List UInt8:=l.map low
def rG (l:List UInt8) (k:Nat):List UInt8:=(l.take k).map low++l.drop k
theorem ny (l:List UInt8) (k:Nat):(rG l k).length=l.length:=by simp[rG];omega
theorem Iq (l:List UInt8) (k:Nat) (h:k<l.length):(rG l k)[k]'(by rw[ny];exact h)=l[k]:=by
 have:k≤l.length:=by omega
 simp[rG,List.getElem_append,this,Nat.min_eq_left this]
theorem Fe (l:List UInt8) (k:Nat) (h:k<l.length):rG l (k+1)=(rG l k).set k (low l[k]):=by
 unfold rG;apply List.ext_getElem
 ·simp;omega
 intro i d c;simp only[List.getElem_append,List.getElem_set,List.length_map,List.length_take,List.getElem_map,List.getElem_take,List.getElem_drop];by_cases a:i<k
 ·rw[dif_pos (by omega),if_neg (by omega),dif_pos (by omega)]
 by_cases b:i=k
 ·subst b;rw[dif_pos (by omega),if_pos rfl]
 rw[dif_neg (by omega),if_neg (by omega),dif_neg (by omega)];congr 1;omega
theorem TD (l:List UInt8):rG l l.length=lower l:=by simp[rG,lower]
theorem OV (l:List UInt8):rG l 0=l:=by simp[rG]
theorem QO (c:UInt8) (d:65≤(c.toNat:Int)) (a:(c.toNat:Int)≤90):((low c).toNat:Int)=(c.toNat:Int)+32:=by
 unfold low;rw[if_pos (by omega)];simp[UInt8.toNat_add];omega
theorem Ws (c:UInt8) (h:¬(65≤(c.toNat:Int)∧(c.toNat:Int)≤90)):low c=c:=by
 unfold low;rw[if_neg (by omega)]
theorem set_self {l:List UInt8} {k:Nat} (h:k<l.length) (c:UInt8) (e:l[k]=c):l.set k c=l:=by subst e;simp
theorem jQ (s:ByteArray) (w:World) (t:s.size≤maxLen):Calls prog 24 #[.string s] w fun e w'=>e=.returned (.string (ah (lower s.data.toList)))∧Below w.heap.size w w':=by
 unfold maxLen at t;have m:=fun(w:World) s=>run_bytes_of_string (P:=prog) w 9 55 5 s underlying9 underlying55 underlying5;have l:Hid (s.size≤grownCap w s.size 0 5):=grownCap_ge w s.size 0 5;go_enter func24,ntmps24;go_wp2;clear m;go_loopw [4,5,10] (fun _ _ i wr=>∃k:Nat,k≤s.size∧i=.int .i64 k∧mQ wr w.heap.size 5 (rG s.data.toList k)∧Below w.heap.size w wr) (fun _ _ i _=>s.size - (intOf i).toNat)
 case atStart=>exact⟨0,Nat.zero_le _,rfl,(by rw[OV];exact mQ.made w s 5 _ l),((Below.refl _ _).alloc (Nat.le_refl _) _).drew⟩
 case round =>
  obtain⟨k,x,rfl,a,d⟩:=hrel;by_cases hlt:k<s.size
  ·obtain ⟨c,g⟩:∃c:UInt8,c=s.data.toList[k]:=⟨_,rfl⟩;have y:wr.cell? ⟨w.heap.size,k,none⟩=some (.int .u8 (c.toNat:Int)):=by
    rw[g,a.cell k (by rw[ny];exact hlt)];simp only[Iq s.data.toList k hlt]
   have hf:=a.frozen k (by rw[ny];exact hlt);have HC:=hid g;clear g;have r:=hid a;clear a;by_cases hA:65≤(c.toNat:Int)∧(c.toNat:Int)≤90
   ·obtain⟨q,n⟩:=hA;go_wp2;go_roundw
    case rel=>exact⟨k+1,by omega,by go_num,by
     have:=r.set k (low c);rw[QO c q n]at this;rw[Fe s.data.toList k hlt,←HC.out];exact this,d.setCell (Nat.le_refl _) _⟩
    case measure=>simp[intOf];omega
   have f:=Ws c hA;have v:=hid f;clear f;go_wp2;all_goals
    go_roundw
    case rel=>exact⟨k+1,by omega,by go_num,by
     rw[Fe s.data.toList k hlt,←HC.out,v.out,set_self (by rw[ny];exact hlt) c (by rw[Iq _ _ hlt,HC.out])];exact r,d⟩
    case measure=>simp[intOf];omega
  obtain rfl:k=s.size:=by omega
  have h:=run_convert_bytes_back (P:=prog) wr 55 9 5 ⟨w.heap.size,0,none⟩ (grownCap w s.size 0 5) (rG s.data.toList s.size) underlying55 underlying5 underlying9 (fun j hj=>by
   have:=a.cell j hj;rw[Bf];exact this)
  rw[ny,show s.data.toList.length=s.size from Array.length_toList,show rG s.data.toList s.size=lower s.data.toList from TD _]at h;go_wp2;go_ret;exact⟨rfl,d⟩
end fA
namespace nK
open Go.RowKit Base dw fA
theorem iq (c:Int) (w:World):Calls prog 44 #[.int .u8 c] w fun e w'=>e=.returned (.bool (letter c))∧w=w':=by
 go_enter func44,ntmps44;go_wp2;all_goals
  go_ret;exact⟨aH (by unfold letter;rw[Bool.eq_iff_iff];simp;omega),rfl⟩
theorem iJ (c:Int) (w:World):Calls prog 109 #[.int .u8 c] w fun e w'=>e=.returned (.bool (digit c))∧w=w':=by
 go_enter func109,ntmps109;go_wp2;all_goals
  go_ret;exact⟨aH (by unfold digit;rw[Bool.eq_iff_iff];simp;omega),rfl⟩
def lq (k:Nat):Int:=if k<10 then 48+k else 87+k
def hit (c:Int) (k:Nat):Prop:=lq k=c∨9<k∧lq k - 32=c
theorem QD (c:Int) (k:Nat) (a:k<16) (h:hit c k):hex c=k:=by
 unfold hit lq at h;unfold hex;split at h<;>(repeat' split)<;>omega
theorem VU (c:Int) (h:∀j,j<16→¬hit c j):hex c= -1:=by
 unfold hex;split
 ·rename_i h1;refine absurd ?_ (h (c - 48).toNat (by omega));unfold hit lq;rw[if_pos (by omega)];omega
 split
 ·rename_i h1;refine absurd ?_ (h (c - 87).toNat (by omega));unfold hit lq;rw[if_neg (by omega)];omega
 split
 ·rename_i h1;refine absurd ?_ (h (c - 55).toNat (by omega));unfold hit lq;rw[if_neg (by omega)];omega
 rfl
def UZ (c:Int) (k:Nat):Prop:=∀j,j<k→¬hit c j
theorem BF (k:Nat) (h:k<(⟨#[48,49,50,51,52,53,54,55,56,57,97,98,99,100,101,102]⟩:ByteArray).size):(((⟨#[48,49,50,51,52,53,54,55,56,57,97,98,99,100,101,102]⟩:ByteArray)[k]'h).toNat:Int)=lq k:=by
 have c:k<16:=h;have a:k=0∨k=1∨k=2∨k=3∨k=4∨k=5∨k=6∨k=7∨k=8∨k=9∨k=10∨k=11∨k=12∨k=13∨k=14∨k=15:=by omega
 rcases a with rfl|rfl|rfl|rfl|rfl|rfl|rfl|rfl|rfl|rfl|rfl|rfl|rfl|rfl|rfl|rfl<;>rfl
theorem dig_lo (k:Nat) (h:k<16):48≤lq k∧lq k≤102∧(9<k→97≤lq k):=by
 unfold lq;split<;>omega
theorem jm (c:Int) (w:World):Calls prog 198 #[.int .u8 c] w fun e w'=>e=.returned (.int .i64 (hex c))∧w=w':=by
 go_enter func198,ntmps198;go_wp2
 go_loop [4] (fun i=>∃k:Nat,k≤16∧i=.int .i64 k∧UZ c k) (fun i=>16 - (intOf i).toNat)
 case atStart=>exact⟨0,by omega,rfl,fun j hj=>absurd hj (by omega)⟩
 case round=>
  obtain⟨k,s,rfl,f⟩:=hrel;have r:=hid f;clear f;by_cases h16:k<16
  ·have hx:=BF k h16;obtain⟨b1,b2,g⟩:=dig_lo k h16;obtain⟨d,m⟩:∃d,d=lq k:=⟨_,rfl⟩;rw[←m]at hx b1 b2 g;have l:=hid m;clear m;by_cases e1:d=c
   ·have a:Hid (hex c=k):=QD c k h16 (.inl (by rw[←l.out];exact e1));have q:(d==c)=true:=by simpa using e1
    clear e1;go_wp2;go_ret;rw[a.out];exact⟨rfl,rfl⟩
   have q:(d==c)=false:=by simpa using e1
   by_cases h9:9<k
   ·have b4:=g h9;by_cases e2:d - 32=c
    ·have a:Hid (hex c=k):=QD c k h16 (.inr ⟨h9,by rw[←l.out];exact e2⟩);have n:(d - 32==c)=true:=by simpa using e2
     clear e1 e2 g;go_wp2;go_ret;rw[a.out];exact⟨rfl,rfl⟩
    have a:Hid (UZ c (k+1)):=fun j hj=>by
     by_cases e:j=k
     ·subst e;rintro(h|⟨_,h⟩)
      ·exact e1 (by rw[l.out];exact h)
      exact e2 (by rw[l.out];exact h)
     exact r j (by omega)
    have n:(d - 32==c)=false:=by simpa using e2
    clear e1 e2 g;go_wp2
    go_round
    case rel=>exact⟨k+1,by omega,by go_num,a⟩
    case measure=>simp[intOf];omega
   have a:Hid (UZ c (k+1)):=fun j hj=>by
    by_cases e:j=k
    ·subst e;rintro(h|⟨h,_⟩)
     ·exact e1 (by rw[l.out];exact h)
     exact h9 h
    exact r j (by omega)
   clear e1 g;go_wp2
   go_round
   case rel=>exact⟨k+1,by omega,by go_num,a⟩
   case measure=>simp[intOf];omega
  obtain rfl:k=16:=by omega
  have a:Hid (hex c= -1):=VU c r;go_wp2;go_ret;rw[a.out];exact⟨rfl,rfl⟩
theorem jQ (s:ByteArray) (w:World) (G:s.size≤1073741824):Calls prog 45 #[.string s] w fun e w'=>e=.returned (.string (ah (lower s.data.toList)))∧Below w.heap.size w w':=by
 obtain⟨y,hi,m,l,j⟩:=info_parts rD;have z:s.data.toList.length=s.size:=Array.length_toList;have C:=hid z;clear z;go_enter func45,ntmps45;go_wp2;go_loopw [3,8] (fun v vk wr=>∃k:Nat,k≤s.size∧vk=.int .i64 k∧wr.ownsRow w.heap.size 5 1 v k (aU (lower (s.data.toList.take k)))∧Below w.heap.size w wr) (fun _ vk _=>s.size - (intOf vk).toNat)
 case atStart=>exact⟨0,Nat.zero_le _,rfl,World.ownsRow_nil _ _ _ _,Below.refl _ _⟩
 case round=>
  obtain⟨k,H,rfl,d,a⟩:=hrel;by_cases hlt:k<s.size
  ·obtain⟨c,E⟩:∃c,s[k]=c:=⟨_,rfl⟩;have B:Hid (aU (lower (s.data.toList.take (k+1)))=aU (lower (s.data.toList.take k))++[.int .u8 ((low c).toNat:Int)]):=by
    rw[←E,List.take_succ_eq_append_getElem (by rw[C.out];exact hlt)];simp[lower,aU];rfl
   by_cases hA:65≤(c.toNat:Int)∧(c.toNat:Int)≤90
   ·obtain⟨x,t⟩:=hA;have HC:=hid (QO c x t);go_wp2_with (at_builtin;refine wpList_append_own _ rfl _ _ 55 rfl w.heap.size 5 y (.int .u8 0) 1 1 underlying55 hi m l j rfl (by decide) _ _ _ rfl (d.alloc _) ⟨wr.heap.size,0,none⟩ 1 1 [.int .u8 ((c.toNat:Int)+32)] rfl rfl ?c1 ?c2 ?c3 ?c4 ?c5 ?_)
    case c1=>exact cell_one_new _ _ _
    case c2=>intro u n;simp at n;subst n;rfl
    case c3=>unfold maxLen;omega
    case c4=>omega
    case c5=>have:=a.size;simp;omega
    intro D q f i _;have h:Below w.heap.size w q:=(a.alloc a.size _).grown i (by have:=a.size;simp;omega) (fun g hg=>(d.lt g hg).1);clear d a i;go_wp2;go_roundw
    case rel=>exact⟨k+1,by omega,by go_num,by rw[B.out,HC.out];exact f,h⟩
    case measure=>simp[intOf];omega
   have HC:=hid (Ws c hA);go_wp2_with (at_builtin;refine wpList_append_own _ rfl _ _ 55 rfl w.heap.size 5 y (.int .u8 0) 1 1 underlying55 hi m l j rfl (by decide) _ _ _ rfl (d.alloc _) ⟨wr.heap.size,0,none⟩ 1 1 [.int .u8 (c.toNat:Int)] rfl rfl (cell_one_new _ _ _) (by intro u n;simp at n;subst n;rfl) (by unfold maxLen;omega) (by omega) (by have:=a.size;simp;omega) ?_)
   all_goals
    intro D q f i _;have h:Below w.heap.size w q:=(a.alloc a.size _).grown i (by have:=a.size;simp;omega) (fun g hg=>(d.lt g hg).1);clear d a i;go_wp2;go_roundw
    case rel=>exact⟨k+1,by omega,by go_num,by rw[B.out,HC.out];exact f,h⟩
    case measure=>simp[intOf];omega
  obtain rfl:k=s.size:=by omega
  obtain⟨A,c,rfl,_,_,r⟩:=aW d;have aS:=bI 55 9 5 underlying55 underlying5 underlying9 _ c r;have F:Hid (s.data.toList.take s.size=s.data.toList):=by
   rw[←C.out];exact List.take_length
  rw[F.out]at aS;go_wp2;go_ret;exact⟨rfl,a⟩
end nK
namespace YO
open Go.RowKit Base dw lX Ei Eh
theorem Gh (l:List UInt8) (a k:Nat) (h:a+k<l.length):(l.drop a).take (k+1)=(l.drop a).take k++[l[a+k]]:=by
 rw[fQ (l.drop a) k (by rw[List.length_drop];omega),List.getElem_drop]
theorem zx (l:List UInt8) (a k:Nat):(l.drop a)[k]?=l[a+k]?:=by rw[List.getElem?_drop]
def Hex (t:List UInt8) (e:Ending):Prop:=∃m,Pre 16 t m∧e=.returned (.tuple #[.int .i64 ((val 16 (t.take m):Nat):Int),.int .i64 (m:Int)])
theorem aaW {t:List UInt8} {m:Nat} (h:Pre 16 t m):val 16 (t.take m)<65536:=by
 have d:=uV 16 (by omega) _ h.all;have a:(t.take m).length≤4:=by rw[List.length_take];have:=h.four;omega
 have c:16^(t.take m).length≤16^4:=Nat.pow_le_pow_right (by omega) a;omega
theorem jm (s:ByteArray) (a:Nat) (w:World) (L:a≤s.size) (P:s.size≤1073741824):Calls prog 195 #[.string s,.int .i64 (a:Int)] w fun e w'=>Hex (s.data.toList.drop a) e∧w=w':=by
 have H:s.data.toList.length=s.size:=Array.length_toList;have r:=hid H;go_enter func195,ntmps195;go_wp2;go_loopw [6,7] (fun vn vk wr=>∃(k n:Nat),k≤4∧a+k≤s.size∧vk=.int .i64 (k:Int)∧vn=.int .i64 (n:Int)∧n<65536∧wr=w∧Hid (n=val 16 ((s.data.toList.drop a).take k))∧Hid (fV 16 ((s.data.toList.drop a).take k)=true)) (fun _ vk _=>4 - (intOf vk).toNat)
 case atStart=>exact⟨0,0,by omega,L,rfl,rfl,by omega,rfl,rfl,rfl⟩
 case round =>
  obtain⟨k,n,A,J,rfl,rfl,Q,rfl,HV,v⟩:=hrel;by_cases h4:k<4
  ·by_cases hlt:a+k<s.size
   ·obtain⟨c,I⟩:∃c,s[a+k]=c:=⟨_,rfl⟩;have i:a+k<s.data.toList.length:=by rw[r.out];exact hlt
    have j:s.data.toList[a+k]=c:=I;have G:Hid ((s.data.toList.drop a).take (k+1)=(s.data.toList.drop a).take k++[c]):=by rw[←j];exact Gh _ _ k i
    have O:Hid ((s.data.toList.drop a)[k]?=some c):=by show _=_;rw[zx,List.getElem?_eq_getElem i,j]
    have X:0≤(c.toNat:Int):=by omega
    have W:(c.toNat:Int)≤255:=by have:=c.toNat_lt;omega
    by_cases hx:hex c.toNat<0
    ·have q:Hid (Pre 16 (s.data.toList.drop a) k):=⟨A,by rw[List.length_drop,r.out];omega,v,.inr (fun d g=>by rw[O.out]at g;injection g with g;subst g;exact QE c hx)⟩;have y:¬0≤hex c.toNat:=by omega
     obtain⟨x,h⟩:∃x,x=hex c.toNat:=⟨_,rfl⟩;rw[←h]at hx y;have t:=hid h;go_wp2_with fail
     refine(nK.jm _ _).mono ?_;rintro e D ⟨rfl,f⟩;subst f;rw[←t.out];go_wp2;go_ret2;exact⟨⟨k,q,by rw[←HV.out];rfl⟩,rfl⟩
    have B:mP 16 c=true:=QF c (by omega);obtain⟨d,g⟩:∃d,d=dv c:=⟨_,rfl⟩;have E:d<16:=by rw[g];exact Vy 16 c B
    have t:Hid (hex c.toNat=(d:Int)):=by show _=_;rw[g];exact ES 16 c B
    have l:Hid (n*16+d=val 16 ((s.data.toList.drop a).take (k+1))):=by show _=_;rw[G.out,lM,←HV.out,g]
    have m:Hid (fV 16 ((s.data.toList.drop a).take (k+1))=true):=by show _=_;rw[G.out,sU,v.out,B];rfl
    have C:Hid (n*16+d<65536):=by
     have V:=uV 16 (by omega) _ m;have N:((s.data.toList.drop a).take (k+1)).length≤4:=by rw[List.length_take];omega
     have T:16^((s.data.toList.drop a).take (k+1)).length≤16^4:=Nat.pow_le_pow_right (by omega) N;show _<_;rw[l.out];omega
    have F:(d:Int)<16:=by omega
    have z:n<65536:=by omega
    go_wp2_with fail
    refine(nK.jm _ _).mono ?_;rintro e D ⟨rfl,f⟩;subst f;rw[t.out];go_wp2_with fail
    refine(nK.jm _ _).mono ?_;rintro e D ⟨rfl,f⟩;subst f;rw[t.out];go_wp2;go_roundw
    case rel=>exact⟨k+1,n*16+d,by omega,by omega,by go_num,by first|rfl|go_num,C,by first|rfl|trivial,l,m⟩
    case measure=>simp[intOf];omega
   have q:Hid (Pre 16 (s.data.toList.drop a) k):=⟨A,by rw[List.length_drop,r.out];omega,v,.inr (fun d g=>by
    rw[zx,List.getElem?_eq_none (by rw[r.out];omega)]at g;cases g)⟩
   have z:¬(a:Int)+(k:Int)<(s.size:Int):=by omega
   go_wp2;go_ret2;exact⟨⟨k,q,by rw[←HV.out];rfl⟩,rfl⟩
  obtain rfl:k=4:=by omega
  have q:Hid (Pre 16 (s.data.toList.drop a) 4):=⟨A,by rw[List.length_drop,r.out];omega,v,.inl rfl⟩;go_wp2;go_ret2;exact⟨⟨4,q,by rw[←HV.out];rfl⟩,rfl⟩
end YO
namespace abZ
open Go.RowKit Base dw lX qy Ei Eh
def fO (L:List Nat):List Value:=L.map fun(n:Nat)=>Value.int .i64 (n:Int)
theorem yh (L:List Nat):(fO L).length=L.length:=by simp[fO]
theorem l9 (a b:List Nat):fO (a++b)=fO a++fO b:=by simp[fO]
theorem Fa (L:List Nat) (k:Nat) (h:k<L.length) (a:k<(fO L).length):(fO L)[k]=.int .i64 (L[k]:Int):=by simp[fO]
theorem L6:(prog.info? 3).map (fun i=>(i.zero,i.size,i.bytes))=some (some (.int .i64 0),1,8):=by kernel_rfl
def ssize:Value→Nat
 | .string s=>s.size
 |_=>0
def FV (o:Option (List Nat)):Value:=match o with
 |some [a,b]=>.tuple #[.int .i64 (a:Int),.int .i64 (b:Int),.bool true]
 |_=>.tuple #[.int .i64 0,.int .i64 0,.bool false]
theorem pV {o:Option (List Nat)} (h:o=none):FV o=.tuple #[.int .i64 0,.int .i64 0,.bool false]:=by rw[h];rfl
theorem QA {o:Option (List Nat)} {a b:Nat} (h:o=some [a,b]):FV o=.tuple #[.int .i64 (a:Int),.int .i64 (b:Int),.bool true]:=by rw[h];rfl
theorem xw (s:ByteArray) (k:Nat):(s.extract k s.size).data.toList=s.data.toList.drop k:=by
 have a:s.data.toList.length=s.size:=Array.length_toList;rw[ByteArray.data_extract];simp only[Array.toList_extract,List.extract_eq_take_drop];rw[List.take_of_length_le (by rw[List.length_drop];omega)]
theorem head_drop (s:ByteArray) (k:Nat) (a:ByteArray) (h:a.data.toList=s.data.toList.drop k) (c:UInt8) (e:k<s.size) (f:s[k]=c) (g:0<a.size):a[0]=c:=by
 have j:a.data.toList[0]'(by rw[Array.length_toList];exact g)=a[0]:=rfl;have d:s.data.toList.length=s.size:=Array.length_toList;have i:s.data.toList[k]'(by rw[d];exact e)=s[k]:=rfl;rw[←j,←f,←i];simp only[h,List.getElem_drop,Nat.add_zero]
theorem dZ {T:ByteArray} {L:List UInt8} (h:T.data.toList=L):T.size=L.length:=by rw[←h];exact Array.length_toList.symm
theorem lu {o:Option (List Nat)} (h:o=none):o.bind two=none:=by rw[h];rfl
theorem VP (s:ByteArray) (w:World) (hs:s.size≤1073741824):Calls prog 196 #[.string s] w fun e w'=>e=.returned (FV (kJ s.data.toList))∧Below w.heap.size w w':=by
 obtain⟨i0,hi,c6,c5,c4⟩:=info_parts L6;obtain⟨S,hS⟩:∃S,S=kJ s.data.toList:=⟨_,rfl⟩;have e2:Hid (S=(cont [] s.data.toList).bind two):=by show _=_;rw[hS,Ub]
 rw[←hS];clear hS;go_enter func196,ntmps196;go_wp2;go_loopw [0,5,6,7] (fun vs vb _ _ wr=>∃(t:ByteArray) (bs:List Nat),t.size≤s.size∧vs=.string t∧bs.length≤3∧Hid (wr.ownsRow w.heap.size 3 1 vb bs.length (fO bs))∧Hid (Below w.heap.size w wr)∧Hid (S=(cont bs t.data.toList).bind two)∧Hid (∀x ∈ bs,x≤255)) (fun vs _ _ _ _=>ssize vs)
 case atStart=>exact⟨s,[],Nat.le_refl _,rfl,by simp,World.ownsRow_nil _ _ _ _,Below.refl _ _,e2,by intro x hx;simp at hx⟩
 case round=>
  obtain⟨t,bs,e8,rfl,e1,HO,a1,G,d6⟩:=hrel;have hl:t.data.toList.length=t.size:=Array.length_toList;have J:=hid hl;obtain⟨m,hm⟩:∃m,m=bs.length:=⟨_,rfl⟩;rw[←hm]at HO e1;have V:=hid hm;clear hl hm
  go_upto_block 2 with(fail)
  go_cut [6,7]from 8 to 31 (fun vn vk wx=>∃(k n:Nat),vk=.int .i64 (k:Int)∧vn=.int .i64 (n:Int)∧wx=wr∧k≤t.size∧k≤4∧Hid (n=val 10 (t.data.toList.take k))∧Hid (Pre 10 t.data.toList k))
  case first=>
   go_wp2;go_loopw [6,7] (fun vn vk wx=>∃(k n:Nat),k≤t.size∧k≤4∧vk=.int .i64 (k:Int)∧vn=.int .i64 (n:Int)∧n<10000∧wx=wr∧Hid (n=val 10 (t.data.toList.take k))∧Hid (fV 10 (t.data.toList.take k)=true)) (fun _ vk _=>4 - (intOf vk).toNat)
   case atStart=>exact⟨0,0,by omega,by omega,rfl,rfl,by omega,rfl,rfl,rfl⟩
   case round=>
    obtain⟨k,n,hk,N,rfl,rfl,hn,rfl,HV,HT⟩:=hrel;by_cases hlt:k<t.size
    ·by_cases h4:k<4
     ·obtain ⟨c,hc⟩:∃c,t[k]=c:=⟨_,rfl⟩;have a6:k<t.data.toList.length:=by rw[J.out];exact hlt
      have B:t.data.toList[k]=c:=hc;have HS:Hid (t.data.toList.take (k+1)=t.data.toList.take k++[c]):=by rw[←B];exact fQ _ k a6
      have HG:Hid (t.data.toList[k]?=some c):=by show _=_;rw[List.getElem?_eq_getElem a6,B]
      clear B a6;cases hD:mP 10 c with
      |false=>
       have Q:Hid (Pre 10 t.data.toList k):=⟨N,by rw[J.out];exact hk,HT,.inr (fun d hd=>by rw[HG.out]at hd;injection hd with hd;subst hd;exact hD)⟩;have b9:Hid (dw.digit (c.toNat:Int)=false):=by show _=_;rw[sS,hD]
       clear hD;go_wp2_with fail
       refine(nK.iJ _ _).mono ?_;rintro e w2 ⟨rfl,a4⟩;subst a4;rw[b9.out];go_wp2
       go_meet
       exact⟨k,n,rfl,rfl,rfl,hk,N,HV,Q⟩
      |true=>
       obtain⟨d9,d8,d0⟩:=H7 c hD;have b9:Hid (dw.digit (c.toNat:Int)=true):=by show _=_;rw[sS,hD]
       have d3:Hid (n*10+(c.toNat - 48)=val 10 (t.data.toList.take (k+1))):=by show _=_;rw[HS.out,lM,←HV.out,d0]
       have H:Hid (fV 10 (t.data.toList.take (k+1))=true):=by show _=_;rw[HS.out,sU,HT.out,hD];rfl
       have e3:Hid (n*10+(c.toNat - 48)<10000):=by
        have h5:=uV 10 (by omega) _ H;have h6:(t.data.toList.take (k+1)).length≤4:=by rw[List.length_take];omega
        have h7:10^(t.data.toList.take (k+1)).length≤10^4:=Nat.pow_le_pow_right (by omega) h6;show _<_;rw[d3.out];omega
       have f0:48≤(c.toNat:Int):=by omega
       have e7:(c.toNat:Int)≤57:=by omega
       have d4:Hid ((n:Int)*10+((c.toNat:Int) - 48)=((n*10+(c.toNat - 48):Nat):Int)):=by show _=_;omega
       clear hD d0 d9 d8;go_wp2_with fail
       refine(nK.iJ _ _).mono ?_;rintro e w2 ⟨rfl,a4⟩;subst a4;rw[b9.out];go_wp2;go_roundw
       case rel=>exact⟨k+1,n*10+(c.toNat - 48),by omega,by omega,by go_num,by first|exact int_eq d4|go_num,e3,by first|rfl|trivial,d3,H⟩
       case measure=>simp[intOf];omega
     obtain rfl:k=4:=by omega
     have Q:Hid (Pre 10 t.data.toList 4):=⟨N,by rw[J.out];exact hk,HT,.inl rfl⟩;go_wp2
     go_meet
     exact⟨4,n,rfl,rfl,rfl,hk,N,HV,Q⟩
    obtain rfl:k=t.size:=by omega
    have Q:Hid (Pre 10 t.data.toList t.size):=⟨N,by rw[J.out];exact hk,HT,.inr (fun d hd=>by
     rw[List.getElem?_eq_none (by rw[J.out];exact Nat.le_refl _)]at hd;cases hd)⟩
    go_wp2
    go_meet
    exact⟨t.size,n,rfl,rfl,rfl,hk,N,HV,Q⟩
  case rest=>
   obtain⟨k,n,rfl,rfl,rfl,hk,N,HV,Q⟩:=hcut;by_cases hk0:k=0
   ·subst hk0;have A:Hid (S=none):=by show _=_;rw[G.out];exact lu (EF Q (.inl rfl) bs)
    have j:=hid (pV A);go_wp2
    go_ret3
    exact⟨by rw[j.out];rfl,a1⟩
   have a2:Hid (k≠0):=hk0;have e9:((k:Int)==0)=false:=by simp;omega
   have e6:¬(k:Int)=0:=by omega
   clear hk0;by_cases h255:255<n
   ·have b6:(255:Int)<(n:Int):=by omega
    have A:Hid (S=none):=by show _=_;rw[G.out];exact lu (EF Q (.inr (.inl (by rw[←HV.out];exact h255))) bs)
    have j:=hid (pV A);go_wp2
    go_ret3
    exact⟨by rw[j.out];rfl,a1⟩
   have b6:¬(255:Int)<(n:Int):=by omega
   by_cases h1:1<k
   ·have b7:(1:Int)<(k:Int):=by omega
    have d2:0<t.size:=by omega
    obtain⟨a,ha⟩:∃a,t[0]=a:=⟨_,rfl⟩;have HA:Hid (t.data.toList[0]?=some a):=by
     have B:t.data.toList[0]'(by rw[J.out];exact d2)=a:=ha;show _=_;rw[List.getElem?_eq_getElem (by rw[J.out];exact d2),B]
    by_cases h48:a=48
    ·have a3:((a.toNat:Int)==48)=true:=by rw[h48];rfl
     have d1:(a.toNat:Int)=48:=by rw[h48];rfl
     have e5:Hid (1<k∧t.data.toList[0]?=some 48):=⟨h1,by rw[HA.out,h48]⟩;clear h48;have A:Hid (S=none):=by show _=_;rw[G.out];exact lu (EF Q (.inr (.inr e5)) bs)
     have j:=hid (pV A);go_wp2
     go_ret3
     exact⟨by rw[j.out];rfl,a1⟩
    have a3:((a.toNat:Int)==48)=false:=by
     rw[beq_eq_false_iff_ne];intro e;exact h48 (UInt8.toNat_inj.1 (by show _=48;omega))
    have d1:¬(a.toNat:Int)=48:=by simpa using a3
    have d5:=hid h48;clear h48;have HZ:Hid (¬(1<k∧t.data.toList[0]?=some 48)):=fun h=>by rw[HA.out]at h;injection h.2 with h2;exact d5 h2
    have Z:Hid (val 10 (t.data.toList.take k)≤255):=by show _≤_;rw[←HV.out];omega
    obtain⟨l,a9⟩:∃l,t.extract k t.size=l:=⟨_,rfl⟩;have O:Hid (l.data.toList=t.data.toList.drop k):=by show _=_;rw[←a9,xw]
    have D:l.size=t.size - k:=by rw[dZ O.out,List.length_drop,J.out]
    have E:=HO.out;have y:=a1.out;have a5:n≤255:=by omega
    have i:Hid (∀x ∈ bs++[n],x≤255):=by
     intro x hx;rcases List.mem_append.1 hx with h|h
     ·exact d6 x h
     simp at h;omega
    go_wp2_with (at_builtin;refine bJ rfl _ _ 182 rfl w.heap.size 3 i0 (.int .i64 0) 8 underlying182 hi c6 c5 c4 rfl _ m _ rfl E y y.size [.int .i64 (n:Int)] 1 rfl rfl (by intro u hu;simp at hu;subst hu;rfl) (by unfold maxLen;omega) (by omega) ?_)
    intro v7 w7 q v;have T:Hid (w7.ownsRow w.heap.size 3 1 v7 (bs++[n]).length (fO (bs++[n]))):=by
     show World.ownsRow _ _ _ _ _ _ _;rw[List.length_append,←V.out,l9];exact q
    have z:=hid v;obtain⟨A7,c7,rfl,c8,c9,X⟩:=aW q;have P:Hid (dW w7 A7 (m+1) (fO (bs++[n]))):=by show dW _ _ _ _;rw[l9];exact X
    clear E y q v X;by_cases hend:k=t.size
    ·have a7:l.toList=[]:=by
      rw[Lib.toList_data];exact List.eq_nil_of_length_eq_zero (by rw[Array.length_toList];show l.size=0;omega)
     have C:Hid (cont bs t.data.toList=if bs.length+1=4 then some (bs++[val 10 (t.data.toList.take k)])else none):=Hr Q a2 Z HZ (List.drop_eq_nil_of_le (by rw[J.out];omega)) bs;clear hend D;by_cases h4:m=3
     ·subst h4
      match bs,V,G,i,P,T,C with
      |[b0,b1,b2],V,G,i,P,T,C=>
       have A:Hid (S=some [b0*256+b1,b2*256+n]):=by show _=_;rw[G.out,C.out,←HV.out];rfl
       have j:=hid (QA A);obtain⟨g,off,rfl,_,f⟩:=P.spot (by omega);have c0:=f 0 (by simp[fO]);have c1:=f 1 (by simp[fO]);have c2:=f 2 (by simp[fO]);have c3:=f 3 (by simp[fO]);simp only[fO,List.map_append,List.map_cons,List.map_nil,List.cons_append,List.nil_append,List.getElem_cons_zero,List.getElem_cons_succ,Nat.add_zero]at c0 c1 c2 c3;have x0:(b0:Int)≤255:=by have:=i b0 (by simp);omega
       have x1:(b1:Int)≤255:=by have:=i b1 (by simp);omega
       have x2:(b2:Int)≤255:=by have:=i b2 (by simp);omega
       have x3:(n:Int)≤255:=by have:=i n (by simp);omega
       clear f;go_wp2_with fail
       go_quiet (fail)
       go_wp2
       go_ret3
       exact⟨by rw[j.out];rfl,Base.below_drewN z _⟩
     have A:Hid (S=none):=by show _=_;rw[G.out,C.out,if_neg (by rw[←V.out];omega)];rfl
     have b5:((m:Int)+1==4)=false:=by simp;omega
     have b3:¬(m:Int)+1=4:=by omega
     have j:=hid (pV A);go_wp2
     go_ret3
     exact⟨by rw[j.out];rfl,z⟩
    have r:k<t.size:=by omega
    have h0:0<l.size:=by omega
    obtain⟨c,hc⟩:∃c,t[k]=c:=⟨_,rfl⟩;have HG:Hid (t.data.toList[k]?=some c):=by
     have B:t.data.toList[k]'(by rw[J.out];exact r)=c:=hc;show _=_;rw[List.getElem?_eq_getElem (by rw[J.out];exact r),B]
    have e0:l[0]=c:=head_drop t k l O c r hc h0;have L:l.data.toList≠[]:=by
     intro h;have h2:l.size=0:=dZ h;omega
    have a7:(l.toList==[])=false:=by rw[Lib.toList_data];simpa using L
    have d7:l.toList.isEmpty=false:=by rw[Lib.toList_data];simpa using L
    clear hc L hend;by_cases h46:c=46
    ·have F:((c.toNat:Int)==46)=true:=by rw[h46];rfl
     have Y:(c.toNat:Int)=46:=by rw[h46];rfl
     have a0:Hid (cont bs t.data.toList=if bs.length+1=4 then none else cont (bs++[val 10 (t.data.toList.take k)]) (t.data.toList.drop (k+1))):=Ht Q a2 Z HZ (by rw[HG.out,h46]) bs;clear h46;by_cases h4:m=3
     ·have A:Hid (S=none):=by show _=_;rw[G.out,a0.out,if_pos (by rw[←V.out,h4])];rfl
      subst h4;have j:=hid (pV A);go_wp2
      go_ret3
      exact⟨by rw[j.out];rfl,z⟩
     have b5:((m:Int)+1==4)=false:=by simp;omega
     have b3:¬(m:Int)+1=4:=by omega
     have b8:Hid (S=(cont (bs++[n]) (t.data.toList.drop (k+1))).bind two):=by show _=_;rw[G.out,a0.out,if_neg (by rw[←V.out];omega),←HV.out]
     obtain⟨W,a8⟩:∃W,l.extract 1 l.size=W:=⟨_,rfl⟩;have H:Hid (W.data.toList=t.data.toList.drop (k+1)):=by show _=_;rw[←a8,xw,O.out,List.drop_drop]
     have I:Hid (W.size<t.size):=by
      show _<_;have h5:W.size=t.size - (k+1):=by rw[dZ H.out,List.length_drop,J.out]
      omega
     have b7:(1:Int)≤(l.size:Int):=by omega
     clear D h4;go_wp2;go_roundw
     case rel=>exact⟨W,bs++[n],by have:=I.out;omega,rfl,by rw[List.length_append,←V.out];show m+1≤3;omega,T,z,by show _=_;rw[b8.out,H.out],i⟩
     case measure=>exact I
    have F:((c.toNat:Int)==46)=false:=by
     rw[beq_eq_false_iff_ne];intro e;exact h46 (UInt8.toNat_inj.1 (by show _=46;omega))
    have Y:¬(c.toNat:Int)=46:=by simpa using F
    have A:Hid (S=none):=by show _=_;rw[G.out];exact lu (Lh Q HG h46 bs)
    clear h46;have j:=hid (pV A);go_wp2
    go_ret3
    exact⟨by rw[j.out];rfl,z⟩
   have b7:¬(1:Int)<(k:Int):=by omega
   have e4:=hid h1;have HZ:Hid (¬(1<k∧t.data.toList[0]?=some 48)):=fun h=>e4 h.1;have Z:Hid (val 10 (t.data.toList.take k)≤255):=by show _≤_;rw[←HV.out];omega
   obtain⟨l,a9⟩:∃l,t.extract k t.size=l:=⟨_,rfl⟩;have O:Hid (l.data.toList=t.data.toList.drop k):=by show _=_;rw[←a9,xw]
   have D:l.size=t.size - k:=by rw[dZ O.out,List.length_drop,J.out]
   have E:=HO.out;have y:=a1.out;have a5:n≤255:=by omega
   have i:Hid (∀x ∈ bs++[n],x≤255):=by
    intro x hx;rcases List.mem_append.1 hx with h|h
    ·exact d6 x h
    simp at h;omega
   go_wp2_with (at_builtin;refine bJ rfl _ _ 182 rfl w.heap.size 3 i0 (.int .i64 0) 8 underlying182 hi c6 c5 c4 rfl _ m _ rfl E y y.size [.int .i64 (n:Int)] 1 rfl rfl (by intro u hu;simp at hu;subst hu;rfl) (by unfold maxLen;omega) (by omega) ?_)
   intro v7 w7 q v;have T:Hid (w7.ownsRow w.heap.size 3 1 v7 (bs++[n]).length (fO (bs++[n]))):=by
    show World.ownsRow _ _ _ _ _ _ _;rw[List.length_append,←V.out,l9];exact q
   have z:=hid v;obtain⟨A7,c7,rfl,c8,c9,X⟩:=aW q;have P:Hid (dW w7 A7 (m+1) (fO (bs++[n]))):=by show dW _ _ _ _;rw[l9];exact X
   clear E y q v X;by_cases hend:k=t.size
   ·have a7:l.toList=[]:=by
     rw[Lib.toList_data];exact List.eq_nil_of_length_eq_zero (by rw[Array.length_toList];show l.size=0;omega)
    have C:Hid (cont bs t.data.toList=if bs.length+1=4 then some (bs++[val 10 (t.data.toList.take k)])else none):=Hr Q a2 Z HZ (List.drop_eq_nil_of_le (by rw[J.out];omega)) bs;clear hend D;by_cases h4:m=3
    ·subst h4
     match bs,V,G,i,P,T,C with
     |[b0,b1,b2],V,G,i,P,T,C=>
      have A:Hid (S=some [b0*256+b1,b2*256+n]):=by show _=_;rw[G.out,C.out,←HV.out];rfl
      have j:=hid (QA A);obtain⟨g,off,rfl,_,f⟩:=P.spot (by omega);have c0:=f 0 (by simp[fO]);have c1:=f 1 (by simp[fO]);have c2:=f 2 (by simp[fO]);have c3:=f 3 (by simp[fO]);simp only[fO,List.map_append,List.map_cons,List.map_nil,List.cons_append,List.nil_append,List.getElem_cons_zero,List.getElem_cons_succ,Nat.add_zero]at c0 c1 c2 c3;have x0:(b0:Int)≤255:=by have:=i b0 (by simp);omega
      have x1:(b1:Int)≤255:=by have:=i b1 (by simp);omega
      have x2:(b2:Int)≤255:=by have:=i b2 (by simp);omega
      have x3:(n:Int)≤255:=by have:=i n (by simp);omega
      clear f;go_wp2_with fail
      go_quiet (fail)
      go_wp2
      go_ret3
      exact⟨by rw[j.out];rfl,Base.below_drewN z _⟩
    have A:Hid (S=none):=by show _=_;rw[G.out,C.out,if_neg (by rw[←V.out];omega)];rfl
    have b5:((m:Int)+1==4)=false:=by simp;omega
    have b3:¬(m:Int)+1=4:=by omega
    have j:=hid (pV A);go_wp2
    go_ret3
    exact⟨by rw[j.out];rfl,z⟩
   have r:k<t.size:=by omega
   have h0:0<l.size:=by omega
   obtain⟨c,hc⟩:∃c,t[k]=c:=⟨_,rfl⟩;have HG:Hid (t.data.toList[k]?=some c):=by
    have B:t.data.toList[k]'(by rw[J.out];exact r)=c:=hc;show _=_;rw[List.getElem?_eq_getElem (by rw[J.out];exact r),B]
   have e0:l[0]=c:=head_drop t k l O c r hc h0;have L:l.data.toList≠[]:=by
    intro h;have h2:l.size=0:=dZ h;omega
   have a7:(l.toList==[])=false:=by rw[Lib.toList_data];simpa using L
   have d7:l.toList.isEmpty=false:=by rw[Lib.toList_data];simpa using L
   clear hc L hend;by_cases h46:c=46
   ·have F:((c.toNat:Int)==46)=true:=by rw[h46];rfl
    have Y:(c.toNat:Int)=46:=by rw[h46];rfl
    have a0:Hid (cont bs t.data.toList=if bs.length+1=4 then none else cont (bs++[val 10 (t.data.toList.take k)]) (t.data.toList.drop (k+1))):=Ht Q a2 Z HZ (by rw[HG.out,h46]) bs;clear h46;by_cases h4:m=3
    ·have A:Hid (S=none):=by show _=_;rw[G.out,a0.out,if_pos (by rw[←V.out,h4])];rfl
     subst h4;have j:=hid (pV A);go_wp2
     go_ret3
     exact⟨by rw[j.out];rfl,z⟩
    have b5:((m:Int)+1==4)=false:=by simp;omega
    have b3:¬(m:Int)+1=4:=by omega
    have b8:Hid (S=(cont (bs++[n]) (t.data.toList.drop (k+1))).bind two):=by show _=_;rw[G.out,a0.out,if_neg (by rw[←V.out];omega),←HV.out]
    obtain⟨W,a8⟩:∃W,l.extract 1 l.size=W:=⟨_,rfl⟩;have H:Hid (W.data.toList=t.data.toList.drop (k+1)):=by show _=_;rw[←a8,xw,O.out,List.drop_drop]
    have I:Hid (W.size<t.size):=by
     show _<_;have h5:W.size=t.size - (k+1):=by rw[dZ H.out,List.length_drop,J.out]
     omega
    have b7:(1:Int)≤(l.size:Int):=by omega
    clear D h4;go_wp2;go_roundw
    case rel=>exact⟨W,bs++[n],by have:=I.out;omega,rfl,by rw[List.length_append,←V.out];show m+1≤3;omega,T,z,by show _=_;rw[b8.out,H.out],i⟩
    case measure=>exact I
   have F:((c.toNat:Int)==46)=false:=by
    rw[beq_eq_false_iff_ne];intro e;exact h46 (UInt8.toNat_inj.1 (by show _=46;omega))
   have Y:¬(c.toNat:Int)=46:=by simpa using F
   have A:Hid (S=none):=by show _=_;rw[G.out];exact lu (Lh Q HG h46 bs)
   clear h46;have j:=hid (pV A);go_wp2
   go_ret3
   exact⟨by rw[j.out];rfl,z⟩
end abZ
