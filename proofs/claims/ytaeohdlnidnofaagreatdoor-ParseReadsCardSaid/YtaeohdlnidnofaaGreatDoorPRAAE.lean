/- Lemmas. -/
import Derived.Test.YtaeohdlnidnofaaGreatDoorPRAAD
import Derived.Deep.DeepCutAuto
import Derived.Deep.CutBlock
set_option linter.unusedSimpArgs false
set_option linter.unusedVariables false
set_option maxRecDepth 100000
set_option maxHeartbeats 64000000
namespace Go.Proofs.YtaeohdlnidnofaaGreatDoor
open Tryz
namespace jE
open Go.RowKit Base bC lS qm Bv fE ni Dx eU
theorem KG (x:Nat):((x:Int)==0)=(x==0):=by
 cases h:(x==0)with
 | true => have:x=0:=by simpa using h
           subst this;rfl
 | false => have:x≠0:=by simpa using h
            rw[beq_eq_false_iff_ne];omega
theorem zA {w:World} (f:Nat→Nat):Box (w.alloc (.cells #[.int .u16 (f 0:Int),.int .u16 (f 1:Int),.int .u16 (f 2:Int),.int .u16 (f 3:Int),.int .u16 (f 4:Int),.int .u16 (f 5:Int),.int .u16 (f 6:Int),.int .u16 (f 7:Int)] 187)) w.heap.size 187 (V8 f):=heap_alloc_new _ _
theorem LG (f : Nat → Nat) (w : World) : Calls prog 240 #[A8 f] w fun e w' => e = .returned (.tuple #[.int .i64 ((qO (zs f)).1 : Int), .int .i64 ((qO (zs f)).2 : Int)]) ∧ Below w.heap.size w w' := by
 obtain⟨Z,t⟩:∃Z,Z=zs f:=⟨_,rfl⟩;have N:=hid t;rw[←t];have g:Hid (Z.length=8):=by show _=_;rw[t];rfl
 clear t;unfold A8;go_enter func240,ntmps240;go_upto_region 1 with(fail)
 generalize hw1:w.alloc _=w1;have D:Hid (Below w.heap.size w w1):=by
  show Below _ _ _;rw[←hw1];exact(Below.refl _ _).alloc (Nat.le_refl _) _
 have A:Hid (Box w1 w.heap.size 187 (V8 f)):=by
  show Box _ _ _ _;rw[←hw1];exact zA f
 clear hw1;go_wp2;go_loopw [2,3,4,5] (fun vf vt vk _ wr=>∃(r k a b:Nat),vk=.int .i64 (k:Int)∧vf=.int .i64 (a:Int)∧vt=.int .i64 (b:Int)∧k≤9∧a≤b∧b≤8∧9≤r+k∧wr=w1∧Hid (qO Z=goC Z r k a b)) (fun _ _ vk _ _=>9 - (intOf vk).toNat)
 case atStart=>exact⟨9,0,0,0,rfl,rfl,rfl,by omega,by omega,by omega,by omega,rfl,rfl⟩
 case round=>
  obtain⟨r,c,a,b,rfl,rfl,rfl,H,L,hb8,y,rfl,s⟩:=hrel;by_cases hlt:c<8
  ·obtain ⟨d,rfl⟩:∃d,r=d+1:=⟨r - 1,by omega⟩;have E:9≤d+(c+1):=by omega
   clear y;go_wp2;go_loopw [4] (fun vk wx=>∃k:Nat,c≤k∧k≤8∧vk=.int .i64 (k:Int)∧wx=wr∧Hid (run Z c=(k - c)+run Z k)) (fun vk _=>8 - (intOf vk).toNat)
   case atStart=>exact⟨c,by omega,by omega,rfl,rfl,by show _=_;omega⟩
   case round =>
    obtain⟨k,J,I,rfl,rfl,C⟩:=hrel;by_cases hk:k<8
    ·have l:=A.cell k (by show k<8;exact hk);rw[lU f k hk]at l;have n:Z[k]'(by rw[g.out];exact hk)=(f k==0):=by
      have:=Pv f k hk (by rw[CG];exact hk);simp only[N.out];exact this
     have m:=hid n;obtain⟨x,hx⟩:∃x,f k=x:=⟨_,rfl⟩;rw[hx]at l m;have q:(k:Int)<8:=by omega
     clear hx n;by_cases hx0:x=0
     ·subst hx0;have B:Hid (run Z c=(k+1 - c)+run Z (k+1)):=by
       show _=_;rw[C.out,MI (by rw[g.out];exact hk) (by rw[m.out];rfl)];omega
      rw[show((0:Nat):Int)=0 from rfl]at l;go_wp2;go_roundw
      case rel=>exact⟨k+1,by omega,by omega,by go_num,by first|rfl|trivial,B⟩
      case measure=>simp[intOf];omega
     have G:((x:Int)==0)=false:=by rw[KG];simpa using hx0
     have F:¬(x:Int)=0:=by omega
     have i:Hid (run Z c=k - c):=by
      show _=_;rw[C.out,Wj (by rw[g.out];exact hk) (by rw[m.out];simpa using hx0)];rfl
     clear hx0;by_cases hgt:b - a<k - c
     ·have h:Hid (qO Z=goC Z d (k+1) c k):=by
       show _=_;rw[s.out]
       conv=>lhs;unfold goC
       rw[if_pos (by rw[g.out];exact hlt),i.out,if_pos hgt,show c+(k - c)=k by omega]
      have j:(b:Int) - (a:Int)<(k:Int) - (c:Int):=by omega
      have v:(c:Int)≤(k:Int):=by omega
      have z:(a:Int)≤(b:Int):=by omega
      clear hgt;go_wp2;go_roundw
      case rel=>exact⟨d,k+1,c,k,by go_num,rfl,rfl,by omega,by omega,by omega,by omega,by first|rfl|trivial,h⟩
      case measure=>simp[intOf];omega
     have h:Hid (qO Z=goC Z d (k+1) a b):=by
      show _=_;rw[s.out]
      conv=>lhs;unfold goC
      rw[if_pos (by rw[g.out];exact hlt),i.out,if_neg hgt,show c+(k - c)=k by omega]
     have j:¬(b:Int) - (a:Int)<(k:Int) - (c:Int):=by omega
     clear hgt;go_wp2;go_roundw
     case rel=>exact⟨d,k+1,a,b,by go_num,rfl,rfl,by omega,by omega,by omega,by omega,by first|rfl|trivial,h⟩
     case measure=>simp[intOf];omega
    obtain rfl:k=8:=by omega
    have i:Hid (run Z c=8 - c):=by show _=_;rw[C.out,run_end (by rw[g.out];exact Nat.le_refl _)];rfl
    by_cases hgt:b - a<8 - c
    ·have h:Hid (qO Z=goC Z d (8+1) c 8):=by
      show _=_;rw[s.out]
      conv=>lhs;unfold goC
      rw[if_pos (by rw[g.out];exact hlt),i.out,if_pos hgt,show c+(8 - c)=8 by omega]
     have j:(b:Int) - (a:Int)<8 - (c:Int):=by omega
     have v:(c:Int)≤8:=by omega
     have z:(a:Int)≤(b:Int):=by omega
     clear hgt;go_wp2;go_roundw
     case rel=>exact⟨d,8+1,c,8,by go_num,rfl,rfl,by omega,by omega,by omega,by omega,by first|rfl|trivial,h⟩
     case measure=>simp[intOf];omega
    have h:Hid (qO Z=goC Z d (8+1) a b):=by
     show _=_;rw[s.out]
     conv=>lhs;unfold goC
     rw[if_pos (by rw[g.out];exact hlt),i.out,if_neg hgt,show c+(8 - c)=8 by omega]
    have j:¬(b:Int) - (a:Int)<8 - (c:Int):=by omega
    clear hgt;go_wp2;go_roundw
    case rel=>exact⟨d,8+1,a,b,by go_num,rfl,rfl,by omega,by omega,by omega,by omega,by first|rfl|trivial,h⟩
    case measure=>simp[intOf];omega
  have O:Hid (qO Z=(a,b)):=by show _=_;rw[s.out];exact X8 (by rw[g.out];omega)
  have q:¬(c:Int)<8:=by omega
  go_wp2;go_ret2;exact⟨by rw[O.out];rfl,D⟩
theorem BZ (f:Nat→Nat):(qO (zs f)).1≤(qO (zs f)).2∧(qO (zs f)).2≤8:=by
 have:=BO (f 0==0) (f 1==0) (f 2==0) (f 3==0) (f 4==0) (f 5==0) (f 6==0) (f 7==0);exact⟨this.1,this.2.1⟩
def prt (f:Nat→Nat):List UInt8:=if (qO (zs f)).2 - (qO (zs f)).1<2 then jx (V8 f)else jx ((V8 f).take (qO (zs f)).1)++[58,58]++jx ((V8 f).drop (qO (zs f)).2)
theorem BD {w:World} {g:Nat} {t:TypeId} {L:List Nat} (h:Box w g t L):dP w (some ⟨g,0,none⟩) L.length (aZ L):=
 dP.lK (jO L) (Array.getElem?_eq_some_iff.1 h).1 (fun j hj=>by
  rw[Nat.zero_add,h.cell j (by rw[jO]at hj;exact hj)]
  simp[aZ])
theorem Ef {f:Nat→Nat} (h:∀i,f i<65536):∀x ∈ V8 f,x<65536:=by
 intro x hx;simp only[V8,List.mem_cons,List.not_mem_nil,or_false]at hx;rcases hx with rfl|rfl|rfl|rfl|rfl|rfl|rfl|rfl<;>exact h _
theorem nR (f:Nat→Nat) (h6:∀i,f i<65536) (w:World) (hL:pq w):Calls prog 217 #[A8 f] w fun e w'=>e=.returned (.string (ah (prt f)))∧Below w.heap.size w w':=by
 obtain⟨P,C⟩:∃P,P=prt f:=⟨_,rfl⟩;rw[←C];have h:=hid hL;have H6:=hid (Ef h6);have B:=BZ f;have k:=fun w=>LG f w;unfold prt at C;unfold A8 at k⊢;obtain⟨a,L⟩:∃a,a=(qO (zs f)).1:=⟨_,rfl⟩;obtain⟨b,J⟩:∃b,b=(qO (zs f)).2:=⟨_,rfl⟩;rw[←L,←J]at C B;have j:∀w,Calls prog 240 #[.agg #[.int .u16 (f 0:Int),.int .u16 (f 1:Int),.int .u16 (f 2:Int),.int .u16 (f 3:Int),.int .u16 (f 4:Int),.int .u16 (f 5:Int),.int .u16 (f 6:Int),.int .u16 (f 7:Int)]] w fun e w'=>e=.returned (.tuple #[.int .i64 (a:Int),.int .i64 (b:Int)])∧Below w.heap.size w w':=by
  intro w;rw[L,J];exact k w
 have X:=hid j;obtain⟨a5,a4⟩:=B;have HP:=hid C;clear k j L J hL h6 C;go_enter func217,ntmps217;go_upto_region 1 with(fail)
 generalize hw1:w.alloc _=w1;have Z:Hid (Below w.heap.size w w1):=by
  show Below _ _ _;rw[←hw1];exact(Below.refl _ _).alloc (Nat.le_refl _) _
 have E:Hid (Box w1 w.heap.size 187 (V8 f)):=by
  show Box _ _ _ _;rw[←hw1];exact zA f
 clear hw1;obtain⟨c0,c1,c2,c3,c4,O,c6,c7⟩:=dn E f rfl;go_wp2_with fail
 refine(X _).mono ?_;rintro e G ⟨rfl,q⟩;have d:Hid (Below w.heap.size w G):=bF Z q;have z:=hid (E.below q);have a3:(a:Int)≤(b:Int):=by omega
 have a0:(b:Int)≤8:=by omega
 clear q c0 c1 c2 c3 c4 O c6 c7;by_cases hlt:b - a<2
 ·have A:(b:Int) - (a:Int)<2:=by omega
  have Y:Hid (P=jx (V8 f)):=by show _=_;rw[HP.out,if_pos hlt]
  clear hlt;go_wp2_with fail
  refine(ET _ 8 8 (V8 f) _ (BD z) (Nat.le_refl _) H6 (h.below d)).mono ?_;rintro e w3 ⟨rfl,I⟩;go_wp2;go_ret;exact⟨by rw[Y.out];rfl,bF d I⟩
 have A:¬(b:Int) - (a:Int)<2:=by omega
 have b3:a≤8:=by omega
 obtain⟨P1,y⟩:∃P1,P1=ah (jx ((V8 f).take a)):=⟨_,rfl⟩;obtain⟨P2,v⟩:∃P2,P2=ah (jx ((V8 f).take a)++[58,58]):=⟨_,rfl⟩;obtain⟨P3,s⟩:∃P3,P3=ah (jx ((V8 f).drop b)):=⟨_,rfl⟩;obtain⟨P4,r⟩:∃P4,P4=ah P:=⟨_,rfl⟩;have m:=uM ((V8 f).take a);have l:=uM ((V8 f).drop b);rw[List.length_take]at m;rw[List.length_drop]at l;have D:(V8 f).length=8:=rfl;rw[D]at m l;have a1:∀w:World,(Op.stringOp .add P1 ⟨#[58,58]⟩).run prog w=.ok (.string P2) w:=fun w=>by
  rw[y,v];exact bJ _ [58,58] w (by simp;omega)
 have a2:∀w:World,(Op.stringOp .add P2 P3).run prog w=.ok (.string P4) w:=fun w=>by
  rw[v,s,r,HP.out,if_neg hlt];exact bJ _ _ w (by rw[List.length_append];simp;omega)
 have T:=hid y;have Q:=hid s;have Y:Hid (P4=ah P):=r;have HT:Hid (dP G (some ⟨w.heap.size,0,none⟩) a (aZ ((V8 f).take a))):=by
  have:=(BD z).upto a (by show a≤8;omega);have e:aZ ((V8 f).take a)=(aZ (V8 f)).take a:=by simp[aZ]
  show dP _ _ _ _;rw[e];exact this
 have HD:Hid (dP G (some ⟨w.heap.size,b,none⟩) (8 - b) (aZ ((V8 f).drop b))):=by
  have:=(BD z).cut b (by show b≤8;omega);have e:aZ ((V8 f).drop b)=(aZ (V8 f)).drop b:=by simp[aZ]
  show dP _ _ _ _;rw[e];rw[show(V8 f).length=8 from rfl,Nat.zero_add]at this;exact this
 have W:Hid (∀x ∈ (V8 f).take a,x<65536):=fun x hx=>H6 x (List.mem_of_mem_take hx);have V:Hid (∀x ∈ (V8 f).drop b,x<65536):=fun x hx=>H6 x (List.mem_of_mem_drop hx);clear hlt y v s r m l D;go_wp2_with fail
 refine dH (by kernel_rfl) [is (.int .i64 (a:Int)),is (.slice (some ⟨w.heap.size,0,none⟩) a 8),is (.string P1),is (.string P2),is (.int .i64 (b:Int)),row (8 - b) (aZ ((V8 f).drop b)),is (.string P3),is (.string P4),is (.string P4)] [[],[0],[1],[2],[],[4],[5],[3,6],[7]] (by kernel_rfl) ?_ ?_
 ·refine ⟨?_,?_,?_,?_,?_,?_,?_,?_,?_,trivial⟩;all_goals(intro t wq g hh K c;simp only[iG,Act.put,Nat.reduceAdd,Nat.reduceEqDiff,reduceIte]at hh c⊢)
  ·try simp only[hh]at c⊢
   clear hh;go_simp;exact c _ _ aV rfl
  ·try simp only[hh]at c⊢
   clear hh;have b5:(a:Int)≤8:=by omega
   have b6:(0:Int)≤(a:Int):=by omega
   go_simp;exact c _ _ aV rfl
  ·try simp only[hh]at c⊢
   clear hh;go_simp;refine(ET _ a 8 ((V8 f).take a) _ (HT.below g) (by omega) W (h.below (d.trans (g.mono d.size)))).mono ?_;rintro e w5 ⟨rfl,n⟩;rw[←T.out];exact c _ _ n rfl
  iterate 2
   ·try simp only[hh]at c⊢
    clear hh;go_simp;exact c _ _ aV rfl
  ·try simp only[hh]at c⊢
   clear hh;have a9:(b:Int)≤8:=by omega
   have b0:(0:Int)≤(b:Int):=by omega
   by_cases hb8:b=8
   ·have hz:8 - b=0:=by omega
    simp only[hb8]at c;go_simp;exact c _ _ aV ⟨_,_,rfl,by omega,by unfold maxLen;omega,by rw[List.drop_eq_nil_of_le (by show 8≤8;omega)];exact dP.nil _⟩
   have hz:¬8 - b=0:=by omega
   have a6:¬8=b:=by omega
   go_simp;exact c _ _ aV ⟨_,_,rfl,Nat.le_refl _,by unfold maxLen;omega,HD.below g⟩
  ·have N:=hh.1;clear hh;obtain⟨A5,O,N,a8,a7,H⟩:=N;simp only[N]at c⊢;go_simp;refine(ET A5 (8 - b) O ((V8 f).drop b) _ H (by omega) V (h.below (d.trans (g.mono d.size)))).mono ?_;rintro e w5 ⟨rfl,n⟩;rw[←Q.out];exact c _ _ n rfl
  ·try simp only[hh]at c⊢
   clear hh;go_simp;first|exact c _ _ aV rfl|exact c _ _ aV trivial
  try simp only[hh]at c⊢
  clear hh;go_simp;exact c _ _ aV rfl
 intro t wq g hh;have F:=aO hh 8 (by decide);simp only[pick]at F;replace F:t 8=(.string P4):=F;clear hh;simp only[iG,Act.put,Nat.reduceAdd,Nat.reduceEqDiff,reduceIte];simp only[F];go_wp2;go_ret;exact⟨by rw[←Y.out];rfl,d.trans (g.mono d.size)⟩
end jE
namespace gJ
open Go.RowKit Base
def low (c:UInt8):UInt8:=if 65≤c.toNat∧c.toNat≤90 then c+32 else c
def lower (l:List UInt8):List UInt8:=l.map low
def qZ (l:List UInt8) (k:Nat):List UInt8:=(l.take k).map low++l.drop k
theorem mV (l:List UInt8) (k:Nat):(qZ l k).length=l.length:=by simp[qZ];omega
theorem Ih (l:List UInt8) (k:Nat) (h:k<l.length):(qZ l k)[k]'(by rw[mV];exact h)=l[k]:=by
 have:k≤l.length:=by omega
 simp[qZ,List.getElem_append,this,Nat.min_eq_left this]
theorem EZ (l:List UInt8) (k:Nat) (h:k<l.length):qZ l (k+1)=(qZ l k).set k (low l[k]):=by
 unfold qZ;apply List.ext_getElem
 ·simp;omega
 intro i d c;simp only[List.getElem_append,List.getElem_set,List.length_map,List.length_take,List.getElem_map,List.getElem_take,List.getElem_drop];by_cases a:i<k
 ·rw[dif_pos (by omega),if_neg (by omega),dif_pos (by omega)]
 by_cases b:i=k
 ·subst b;rw[dif_pos (by omega),if_pos rfl]
 rw[dif_neg (by omega),if_neg (by omega),dif_neg (by omega)];congr 1;omega
theorem Si (l:List UInt8):qZ l l.length=lower l:=by simp[qZ,lower]
theorem Oq (l:List UInt8):qZ l 0=l:=by simp[qZ]
theorem Qo (c:UInt8) (d:65≤(c.toNat:Int)) (a:(c.toNat:Int)≤90):((low c).toNat:Int)=(c.toNat:Int)+32:=by
 unfold low;rw[if_pos (by omega)];simp[UInt8.toNat_add];omega
theorem Vj (c:UInt8) (h:¬(65≤(c.toNat:Int)∧(c.toNat:Int)≤90)):low c=c:=by
 unfold low;rw[if_neg (by omega)]
theorem set_self {l:List UInt8} {k:Nat} (h:k<l.length) (c:UInt8) (e:l[k]=c):l.set k c=l:=by subst e;simp
theorem jP (s:ByteArray) (w:World) (t:s.size≤maxLen):Calls prog 61 #[.string s] w fun e w'=>e=.returned (.string (ah (lower s.data.toList)))∧Below w.heap.size w w':=by
 unfold maxLen at t;have m:=fun(w:World) s=>run_bytes_of_string (P:=prog) w 9 45 5 s underlying9 underlying45 underlying5;have l:Hid (s.size≤grownCap w s.size 0 5):=grownCap_ge w s.size 0 5;go_enter func61,ntmps61;go_wp2;clear m;go_loopw [4,5,10] (fun _ _ i wr=>∃k:Nat,k≤s.size∧i=.int .i64 k∧mD wr w.heap.size 5 (qZ s.data.toList k)∧Below w.heap.size w wr) (fun _ _ i _=>s.size - (intOf i).toNat)
 case atStart=>exact⟨0,Nat.zero_le _,rfl,(by rw[Oq];exact mD.made w s 5 _ l),((Below.refl _ _).alloc (Nat.le_refl _) _).drew⟩
 case round =>
  obtain⟨k,x,rfl,a,d⟩:=hrel;by_cases hlt:k<s.size
  ·obtain ⟨c,g⟩:∃c:UInt8,c=s.data.toList[k]:=⟨_,rfl⟩;have y:wr.cell? ⟨w.heap.size,k,none⟩=some (.int .u8 (c.toNat:Int)):=by
    rw[g,a.cell k (by rw[mV];exact hlt)];simp only[Ih s.data.toList k hlt]
   have hf:=a.frozen k (by rw[mV];exact hlt);have HC:=hid g;clear g;have r:=hid a;clear a;by_cases hA:65≤(c.toNat:Int)∧(c.toNat:Int)≤90
   ·obtain⟨q,n⟩:=hA;go_wp2;go_roundw
    case rel=>exact⟨k+1,by omega,by go_num,by
     have:=r.set k (low c);rw[Qo c q n]at this;rw[EZ s.data.toList k hlt,←HC.out];exact this,d.setCell (Nat.le_refl _) _⟩
    case measure=>simp[intOf];omega
   have f:=Vj c hA;have v:=hid f;clear f;go_wp2;all_goals
    go_roundw
    case rel=>exact⟨k+1,by omega,by go_num,by
     rw[EZ s.data.toList k hlt,←HC.out,v.out,set_self (by rw[mV];exact hlt) c (by rw[Ih _ _ hlt,HC.out])];exact r,d⟩
    case measure=>simp[intOf];omega
  obtain rfl:k=s.size:=by omega
  have h:=run_convert_bytes_back (P:=prog) wr 45 9 5 ⟨w.heap.size,0,none⟩ (grownCap w s.size 0 5) (qZ s.data.toList s.size) underlying45 underlying5 underlying9 (fun j hj=>by
   have:=a.cell j hj;rw[Bz];exact this)
  rw[mV,show s.data.toList.length=s.size from Array.length_toList,show qZ s.data.toList s.size=lower s.data.toList from Si _]at h;go_wp2;go_ret;exact⟨rfl,d⟩
end gJ
namespace iD
open Go.RowKit Base dJ gJ
theorem dO (c:Int) (w:World):Calls prog 73 #[.int .u8 c] w fun e w'=>e=.returned (.bool (letter c))∧w=w':=by
 go_enter func73,ntmps73;go_wp2;all_goals
  go_ret;exact⟨aC (by unfold letter;rw[Bool.eq_iff_iff];simp;omega),rfl⟩
theorem fB (c:Int) (w:World):Calls prog 156 #[.int .u8 c] w fun e w'=>e=.returned (.bool (digit c))∧w=w':=by
 go_enter func156,ntmps156;go_wp2;all_goals
  go_ret;exact⟨aC (by unfold digit;rw[Bool.eq_iff_iff];simp;omega),rfl⟩
def kV (k:Nat):Int:=if k<10 then 48+k else 87+k
def hit (c:Int) (k:Nat):Prop:=kV k=c∨9<k∧kV k - 32=c
theorem Qe (c:Int) (k:Nat) (a:k<16) (h:hit c k):hex c=k:=by
 unfold hit kV at h;unfold hex;split at h<;>(repeat' split)<;>omega
theorem U2 (c:Int) (h:∀j,j<16→¬hit c j):hex c= -1:=by
 unfold hex;split
 ·rename_i h1;refine absurd ?_ (h (c - 48).toNat (by omega));unfold hit kV;rw[if_pos (by omega)];omega
 split
 ·rename_i h1;refine absurd ?_ (h (c - 87).toNat (by omega));unfold hit kV;rw[if_neg (by omega)];omega
 split
 ·rename_i h1;refine absurd ?_ (h (c - 55).toNat (by omega));unfold hit kV;rw[if_neg (by omega)];omega
 rfl
def TW (c:Int) (k:Nat):Prop:=∀j,j<k→¬hit c j
theorem BH (k:Nat) (h:k<(⟨#[48,49,50,51,52,53,54,55,56,57,97,98,99,100,101,102]⟩:ByteArray).size):(((⟨#[48,49,50,51,52,53,54,55,56,57,97,98,99,100,101,102]⟩:ByteArray)[k]'h).toNat:Int)=kV k:=by
 have c:k<16:=h;have a:k=0∨k=1∨k=2∨k=3∨k=4∨k=5∨k=6∨k=7∨k=8∨k=9∨k=10∨k=11∨k=12∨k=13∨k=14∨k=15:=by omega
 rcases a with rfl|rfl|rfl|rfl|rfl|rfl|rfl|rfl|rfl|rfl|rfl|rfl|rfl|rfl|rfl|rfl<;>rfl
theorem dig_lo (k:Nat) (h:k<16):48≤kV k∧kV k≤102∧(9<k→97≤kV k):=by
 unfold kV;split<;>omega
theorem dI (c:Int) (w:World):Calls prog 129 #[.int .u8 c] w fun e w'=>e=.returned (.int .i64 (hex c))∧w=w':=by
 go_enter func129,ntmps129;go_wp2
 go_loop [4] (fun i=>∃k:Nat,k≤16∧i=.int .i64 k∧TW c k) (fun i=>16 - (intOf i).toNat)
 case atStart=>exact⟨0,by omega,rfl,fun j hj=>absurd hj (by omega)⟩
 case round=>
  obtain⟨k,s,rfl,f⟩:=hrel;have r:=hid f;clear f;by_cases h16:k<16
  ·have hx:=BH k h16;obtain⟨b1,b2,g⟩:=dig_lo k h16;obtain⟨d,m⟩:∃d,d=kV k:=⟨_,rfl⟩;rw[←m]at hx b1 b2 g;have l:=hid m;clear m;by_cases e1:d=c
   ·have a:Hid (hex c=k):=Qe c k h16 (.inl (by rw[←l.out];exact e1));have q:(d==c)=true:=by simpa using e1
    clear e1;go_wp2;go_ret;rw[a.out];exact⟨rfl,rfl⟩
   have q:(d==c)=false:=by simpa using e1
   by_cases h9:9<k
   ·have b4:=g h9;by_cases e2:d - 32=c
    ·have a:Hid (hex c=k):=Qe c k h16 (.inr ⟨h9,by rw[←l.out];exact e2⟩);have n:(d - 32==c)=true:=by simpa using e2
     clear e1 e2 g;go_wp2;go_ret;rw[a.out];exact⟨rfl,rfl⟩
    have a:Hid (TW c (k+1)):=fun j hj=>by
     by_cases e:j=k
     ·subst e;rintro(h|⟨_,h⟩)
      ·exact e1 (by rw[l.out];exact h)
      exact e2 (by rw[l.out];exact h)
     exact r j (by omega)
    have n:(d - 32==c)=false:=by simpa using e2
    clear e1 e2 g;go_wp2
    go_round
    case rel=>exact⟨k+1,by omega,by go_num,a⟩
    case measure=>simp[intOf];omega
   have a:Hid (TW c (k+1)):=fun j hj=>by
    by_cases e:j=k
    ·subst e;rintro(h|⟨h,_⟩)
     ·exact e1 (by rw[l.out];exact h)
     exact h9 h
    exact r j (by omega)
   clear e1 g;go_wp2
   go_round
   case rel=>exact⟨k+1,by omega,by go_num,a⟩
   case measure=>simp[intOf];omega
  obtain rfl:k=16:=by omega
  have a:Hid (hex c= -1):=U2 c r;go_wp2;go_ret;rw[a.out];exact⟨rfl,rfl⟩
theorem jP (s:ByteArray) (w:World) (G:s.size≤1073741824):Calls prog 56 #[.string s] w fun e w'=>e=.returned (.string (ah (lower s.data.toList)))∧Below w.heap.size w w':=by
 obtain⟨y,hi,m,l,j⟩:=info_parts pU;have z:s.data.toList.length=s.size:=Array.length_toList;have C:=hid z;clear z;go_enter func56,ntmps56;go_wp2;go_loopw [3,8] (fun v vk wr=>∃k:Nat,k≤s.size∧vk=.int .i64 k∧wr.ownsRow w.heap.size 5 1 v k (aQ (lower (s.data.toList.take k)))∧Below w.heap.size w wr) (fun _ vk _=>s.size - (intOf vk).toNat)
 case atStart=>exact⟨0,Nat.zero_le _,rfl,World.ownsRow_nil _ _ _ _,Below.refl _ _⟩
 case round=>
  obtain⟨k,H,rfl,d,a⟩:=hrel;by_cases hlt:k<s.size
  ·obtain⟨c,E⟩:∃c,s[k]=c:=⟨_,rfl⟩;have B:Hid (aQ (lower (s.data.toList.take (k+1)))=aQ (lower (s.data.toList.take k))++[.int .u8 ((low c).toNat:Int)]):=by
    rw[←E,List.take_succ_eq_append_getElem (by rw[C.out];exact hlt)];simp[lower,aQ];rfl
   by_cases hA:65≤(c.toNat:Int)∧(c.toNat:Int)≤90
   ·obtain⟨x,t⟩:=hA;have HC:=hid (Qo c x t);go_wp2_with (at_builtin;refine wpList_append_own _ rfl _ _ 45 rfl w.heap.size 5 y (.int .u8 0) 1 1 underlying45 hi m l j rfl (by decide) _ _ _ rfl (d.alloc _) ⟨wr.heap.size,0,none⟩ 1 1 [.int .u8 ((c.toNat:Int)+32)] rfl rfl ?c1 ?c2 ?c3 ?c4 ?c5 ?_)
    case c1=>exact cell_one_new _ _ _
    case c2=>intro u n;simp at n;subst n;rfl
    case c3=>unfold maxLen;omega
    case c4=>omega
    case c5=>have:=a.size;simp;omega
    intro D q f i _;have h:Below w.heap.size w q:=(a.alloc a.size _).grown i (by have:=a.size;simp;omega) (fun g hg=>(d.lt g hg).1);clear d a i;go_wp2;go_roundw
    case rel=>exact⟨k+1,by omega,by go_num,by rw[B.out,HC.out];exact f,h⟩
    case measure=>simp[intOf];omega
   have HC:=hid (Vj c hA);go_wp2_with (at_builtin;refine wpList_append_own _ rfl _ _ 45 rfl w.heap.size 5 y (.int .u8 0) 1 1 underlying45 hi m l j rfl (by decide) _ _ _ rfl (d.alloc _) ⟨wr.heap.size,0,none⟩ 1 1 [.int .u8 (c.toNat:Int)] rfl rfl (cell_one_new _ _ _) (by intro u n;simp at n;subst n;rfl) (by unfold maxLen;omega) (by omega) (by have:=a.size;simp;omega) ?_)
   all_goals
    intro D q f i _;have h:Below w.heap.size w q:=(a.alloc a.size _).grown i (by have:=a.size;simp;omega) (fun g hg=>(d.lt g hg).1);clear d a i;go_wp2;go_roundw
    case rel=>exact⟨k+1,by omega,by go_num,by rw[B.out,HC.out];exact f,h⟩
    case measure=>simp[intOf];omega
  obtain rfl:k=s.size:=by omega
  obtain⟨A,c,rfl,_,_,r⟩:=aS d;have aU:=aT 45 9 5 underlying45 underlying5 underlying9 _ c r;have F:Hid (s.data.toList.take s.size=s.data.toList):=by
   rw[←C.out];exact List.take_length
  rw[F.out]at aU;go_wp2;go_ret;exact⟨rfl,a⟩
end iD
namespace XC
open Go.RowKit Base dJ lS Ee Ed
theorem F5 (l:List UInt8) (a k:Nat) (h:a+k<l.length):(l.drop a).take (k+1)=(l.drop a).take k++[l[a+k]]:=by
 rw[dG (l.drop a) k (by rw[List.length_drop];omega),List.getElem_drop]
theorem zM (l:List UInt8) (a k:Nat):(l.drop a)[k]?=l[a+k]?:=by rw[List.getElem?_drop]
def Hex (t:List UInt8) (e:Ending):Prop:=∃m,Pre 16 t m∧e=.returned (.tuple #[.int .i64 ((val 16 (t.take m):Nat):Int),.int .i64 (m:Int)])
theorem Zx {t:List UInt8} {m:Nat} (h:Pre 16 t m):val 16 (t.take m)<65536:=by
 have d:=vG 16 (by omega) _ h.all;have a:(t.take m).length≤4:=by rw[List.length_take];have:=h.four;omega
 have c:16^(t.take m).length≤16^4:=Nat.pow_le_pow_right (by omega) a;omega
theorem dI (s:ByteArray) (a:Nat) (w:World) (L:a≤s.size) (P:s.size≤1073741824):Calls prog 246 #[.string s,.int .i64 (a:Int)] w fun e w'=>Hex (s.data.toList.drop a) e∧w=w':=by
 have H:s.data.toList.length=s.size:=Array.length_toList;have r:=hid H;go_enter func246,ntmps246;go_wp2;go_loopw [6,7] (fun vn vk wr=>∃(k n:Nat),k≤4∧a+k≤s.size∧vk=.int .i64 (k:Int)∧vn=.int .i64 (n:Int)∧n<65536∧wr=w∧Hid (n=val 16 ((s.data.toList.drop a).take k))∧Hid (dM 16 ((s.data.toList.drop a).take k)=true)) (fun _ vk _=>4 - (intOf vk).toNat)
 case atStart=>exact⟨0,0,by omega,L,rfl,rfl,by omega,rfl,rfl,rfl⟩
 case round =>
  obtain⟨k,n,A,J,rfl,rfl,Q,rfl,HV,v⟩:=hrel;by_cases h4:k<4
  ·by_cases hlt:a+k<s.size
   ·obtain⟨c,I⟩:∃c,s[a+k]=c:=⟨_,rfl⟩;have i:a+k<s.data.toList.length:=by rw[r.out];exact hlt
    have j:s.data.toList[a+k]=c:=I;have G:Hid ((s.data.toList.drop a).take (k+1)=(s.data.toList.drop a).take k++[c]):=by rw[←j];exact F5 _ _ k i
    have O:Hid ((s.data.toList.drop a)[k]?=some c):=by show _=_;rw[zM,List.getElem?_eq_getElem i,j]
    have X:0≤(c.toNat:Int):=by omega
    have W:(c.toNat:Int)≤255:=by have:=c.toNat_lt;omega
    by_cases hx:hex c.toNat<0
    ·have q:Hid (Pre 16 (s.data.toList.drop a) k):=⟨A,by rw[List.length_drop,r.out];omega,v,.inr (fun d g=>by rw[O.out]at g;injection g with g;subst g;exact Qg c hx)⟩;have y:¬0≤hex c.toNat:=by omega
     obtain⟨x,h⟩:∃x,x=hex c.toNat:=⟨_,rfl⟩;rw[←h]at hx y;have t:=hid h;go_wp2_with fail
     refine(iD.dI _ _).mono ?_;rintro e D ⟨rfl,f⟩;subst f;rw[←t.out];go_wp2;go_ret2;exact⟨⟨k,q,by rw[←HV.out];rfl⟩,rfl⟩
    have B:ku 16 c=true:=Qh c (by omega);obtain⟨d,g⟩:∃d,d=dv c:=⟨_,rfl⟩;have E:d<16:=by rw[g];exact UG 16 c B
    have t:Hid (hex c.toNat=(d:Int)):=by show _=_;rw[g];exact oZ 16 c B
    have l:Hid (n*16+d=val 16 ((s.data.toList.drop a).take (k+1))):=by show _=_;rw[G.out,jd,←HV.out,g]
    have m:Hid (dM 16 ((s.data.toList.drop a).take (k+1))=true):=by show _=_;rw[G.out,sK,v.out,B];rfl
    have C:Hid (n*16+d<65536):=by
     have V:=vG 16 (by omega) _ m;have N:((s.data.toList.drop a).take (k+1)).length≤4:=by rw[List.length_take];omega
     have T:16^((s.data.toList.drop a).take (k+1)).length≤16^4:=Nat.pow_le_pow_right (by omega) N;show _<_;rw[l.out];omega
    have F:(d:Int)<16:=by omega
    have z:n<65536:=by omega
    go_wp2_with fail
    refine(iD.dI _ _).mono ?_;rintro e D ⟨rfl,f⟩;subst f;rw[t.out];go_wp2_with fail
    refine(iD.dI _ _).mono ?_;rintro e D ⟨rfl,f⟩;subst f;rw[t.out];go_wp2;go_roundw
    case rel=>exact⟨k+1,n*16+d,by omega,by omega,by go_num,by first|rfl|go_num,C,by first|rfl|trivial,l,m⟩
    case measure=>simp[intOf];omega
   have q:Hid (Pre 16 (s.data.toList.drop a) k):=⟨A,by rw[List.length_drop,r.out];omega,v,.inr (fun d g=>by
    rw[zM,List.getElem?_eq_none (by rw[r.out];omega)]at g;cases g)⟩
   have z:¬(a:Int)+(k:Int)<(s.size:Int):=by omega
   go_wp2;go_ret2;exact⟨⟨k,q,by rw[←HV.out];rfl⟩,rfl⟩
  obtain rfl:k=4:=by omega
  have q:Hid (Pre 16 (s.data.toList.drop a) 4):=⟨A,by rw[List.length_drop,r.out];omega,v,.inl rfl⟩;go_wp2;go_ret2;exact⟨⟨4,q,by rw[←HV.out];rfl⟩,rfl⟩
end XC
namespace aaC
open Go.RowKit Base dJ lS qm Ee Ed
def fQ (L:List Nat):List Value:=L.map fun(n:Nat)=>Value.int .i64 (n:Int)
theorem yF (L:List Nat):(fQ L).length=L.length:=by simp[fQ]
theorem lW (a b:List Nat):fQ (a++b)=fQ a++fQ b:=by simp[fQ]
theorem EX (L:List Nat) (k:Nat) (h:k<L.length) (a:k<(fQ L).length):(fQ L)[k]=.int .i64 (L[k]:Int):=by simp[fQ]
theorem Ls:(prog.info? 3).map (fun i=>(i.zero,i.size,i.bytes))=some (some (.int .i64 0),1,8):=by kernel_rfl
def ssize:Value→Nat
 | .string s=>s.size
 |_=>0
def FV (o:Option (List Nat)):Value:=match o with
 |some [a,b]=>.tuple #[.int .i64 (a:Int),.int .i64 (b:Int),.bool true]
 |_=>.tuple #[.int .i64 0,.int .i64 0,.bool false]
theorem pR {o:Option (List Nat)} (h:o=none):FV o=.tuple #[.int .i64 0,.int .i64 0,.bool false]:=by rw[h];rfl
theorem Qa {o:Option (List Nat)} {a b:Nat} (h:o=some [a,b]):FV o=.tuple #[.int .i64 (a:Int),.int .i64 (b:Int),.bool true]:=by rw[h];rfl
theorem xM (s:ByteArray) (k:Nat):(s.extract k s.size).data.toList=s.data.toList.drop k:=by
 have a:s.data.toList.length=s.size:=Array.length_toList;rw[ByteArray.data_extract];simp only[Array.toList_extract,List.extract_eq_take_drop];rw[List.take_of_length_le (by rw[List.length_drop];omega)]
theorem head_drop (s:ByteArray) (k:Nat) (T1:ByteArray) (h:T1.data.toList=s.data.toList.drop k) (c:UInt8) (d:k<s.size) (e:s[k]=c) (f:0<T1.size):T1[0]=c:=by
 have i:T1.data.toList[0]'(by rw[Array.length_toList];exact f)=T1[0]:=rfl;have a:s.data.toList.length=s.size:=Array.length_toList;have g:s.data.toList[k]'(by rw[a];exact d)=s[k]:=rfl;rw[←i,←e,←g];simp only[h,List.getElem_drop,Nat.add_zero]
theorem dN {T:ByteArray} {L:List UInt8} (h:T.data.toList=L):T.size=L.length:=by rw[←h];exact Array.length_toList.symm
theorem kY {o:Option (List Nat)} (h:o=none):o.bind two=none:=by rw[h];rfl
theorem UY (s:ByteArray) (w:World) (hs:s.size≤1073741824):Calls prog 247 #[.string s] w fun e w'=>e=.returned (FV (kF s.data.toList))∧Below w.heap.size w w':=by
 obtain⟨i0,hi,c4,b9,b8⟩:=info_parts Ls;obtain⟨S,hS⟩:∃S,S=kF s.data.toList:=⟨_,rfl⟩;have e1:Hid (S=(cont [] s.data.toList).bind two):=by show _=_;rw[hS,SK]
 rw[←hS];clear hS;go_enter func247,ntmps247;go_wp2;go_loopw [0,5,6,7] (fun vs vb _ _ wr=>∃(t:ByteArray) (bs:List Nat),t.size≤s.size∧vs=.string t∧bs.length≤3∧Hid (wr.ownsRow w.heap.size 3 1 vb bs.length (fQ bs))∧Hid (Below w.heap.size w wr)∧Hid (S=(cont bs t.data.toList).bind two)∧Hid (∀x ∈ bs,x≤255)) (fun vs _ _ _ _=>ssize vs)
 case atStart=>exact⟨s,[],Nat.le_refl _,rfl,by simp,World.ownsRow_nil _ _ _ _,Below.refl _ _,e1,by intro x hx;simp at hx⟩
 case round=>
  obtain⟨t,bs,e7,rfl,e0,HO,Z,F,d4⟩:=hrel;have hl:t.data.toList.length=t.size:=Array.length_toList;have I:=hid hl;obtain⟨m,hm⟩:∃m,m=bs.length:=⟨_,rfl⟩;rw[←hm]at HO e0;have T:=hid hm;clear hl hm
  go_upto_block 2 with(fail)
  go_cut [6,7]from 8 to 31 (fun vn vk wx=>∃(k n:Nat),vk=.int .i64 (k:Int)∧vn=.int .i64 (n:Int)∧wx=wr∧k≤t.size∧k≤4∧Hid (n=val 10 (t.data.toList.take k))∧Hid (Pre 10 t.data.toList k))
  case first=>
   go_wp2;go_loopw [6,7] (fun vn vk wx=>∃(k n:Nat),k≤t.size∧k≤4∧vk=.int .i64 (k:Int)∧vn=.int .i64 (n:Int)∧n<10000∧wx=wr∧Hid (n=val 10 (t.data.toList.take k))∧Hid (dM 10 (t.data.toList.take k)=true)) (fun _ vk _=>4 - (intOf vk).toNat)
   case atStart=>exact⟨0,0,by omega,by omega,rfl,rfl,by omega,rfl,rfl,rfl⟩
   case round=>
    obtain⟨k,n,hk,L,rfl,rfl,hn,rfl,HV,HT⟩:=hrel;by_cases hlt:k<t.size
    ·by_cases h4:k<4
     ·obtain ⟨c,hc⟩:∃c,t[k]=c:=⟨_,rfl⟩;have a4:k<t.data.toList.length:=by rw[I.out];exact hlt
      have A:t.data.toList[k]=c:=hc;have HS:Hid (t.data.toList.take (k+1)=t.data.toList.take k++[c]):=by rw[←A];exact dG _ k a4
      have HG:Hid (t.data.toList[k]?=some c):=by show _=_;rw[List.getElem?_eq_getElem a4,A]
      clear A a4;cases hD:ku 10 c with
      |false=>
       have P:Hid (Pre 10 t.data.toList k):=⟨L,by rw[I.out];exact hk,HT,.inr (fun d hd=>by rw[HG.out]at hd;injection hd with hd;subst hd;exact hD)⟩;have b7:Hid (dJ.digit (c.toNat:Int)=false):=by show _=_;rw[sJ,hD]
       clear hD;go_wp2_with fail
       refine(iD.fB _ _).mono ?_;rintro e w2 ⟨rfl,a2⟩;subst a2;rw[b7.out];go_wp2
       go_meet
       exact⟨k,n,rfl,rfl,rfl,hk,L,HV,P⟩
      |true=>
       obtain⟨d8,d7,c8⟩:=Hg c hD;have b7:Hid (dJ.digit (c.toNat:Int)=true):=by show _=_;rw[sJ,hD]
       have d1:Hid (n*10+(c.toNat - 48)=val 10 (t.data.toList.take (k+1))):=by show _=_;rw[HS.out,jd,←HV.out,c8]
       have G:Hid (dM 10 (t.data.toList.take (k+1))=true):=by show _=_;rw[HS.out,sK,HT.out,hD];rfl
       have e2:Hid (n*10+(c.toNat - 48)<10000):=by
        have h5:=vG 10 (by omega) _ G;have h6:(t.data.toList.take (k+1)).length≤4:=by rw[List.length_take];omega
        have h7:10^(t.data.toList.take (k+1)).length≤10^4:=Nat.pow_le_pow_right (by omega) h6;show _<_;rw[d1.out];omega
       have e9:48≤(c.toNat:Int):=by omega
       have e6:(c.toNat:Int)≤57:=by omega
       have d2:Hid ((n:Int)*10+((c.toNat:Int) - 48)=((n*10+(c.toNat - 48):Nat):Int)):=by show _=_;omega
       clear hD c8 d8 d7;go_wp2_with fail
       refine(iD.fB _ _).mono ?_;rintro e w2 ⟨rfl,a2⟩;subst a2;rw[b7.out];go_wp2;go_roundw
       case rel=>exact⟨k+1,n*10+(c.toNat - 48),by omega,by omega,by go_num,by first|exact int_eq d2|go_num,e2,by first|rfl|trivial,d1,G⟩
       case measure=>simp[intOf];omega
     obtain rfl:k=4:=by omega
     have P:Hid (Pre 10 t.data.toList 4):=⟨L,by rw[I.out];exact hk,HT,.inl rfl⟩;go_wp2
     go_meet
     exact⟨4,n,rfl,rfl,rfl,hk,L,HV,P⟩
    obtain rfl:k=t.size:=by omega
    have P:Hid (Pre 10 t.data.toList t.size):=⟨L,by rw[I.out];exact hk,HT,.inr (fun d hd=>by
     rw[List.getElem?_eq_none (by rw[I.out];exact Nat.le_refl _)]at hd;cases hd)⟩
    go_wp2
    go_meet
    exact⟨t.size,n,rfl,rfl,rfl,hk,L,HV,P⟩
  case rest=>
   obtain⟨k,n,rfl,rfl,rfl,hk,L,HV,P⟩:=hcut;by_cases hk0:k=0
   ·subst hk0;have z:Hid (S=none):=by show _=_;rw[F.out];exact kY (Ew P (.inl rfl) bs)
    have j:=hid (pR z);go_wp2
    go_ret3
    exact⟨by rw[j.out];rfl,Z⟩
   have a0:Hid (k≠0):=hk0;have e8:((k:Int)==0)=false:=by simp;omega
   have e5:¬(k:Int)=0:=by omega
   clear hk0;by_cases h255:255<n
   ·have b3:(255:Int)<(n:Int):=by omega
    have z:Hid (S=none):=by show _=_;rw[F.out];exact kY (Ew P (.inr (.inl (by rw[←HV.out];exact h255))) bs)
    have j:=hid (pR z);go_wp2
    go_ret3
    exact⟨by rw[j.out];rfl,Z⟩
   have b3:¬(255:Int)<(n:Int):=by omega
   by_cases h1:1<k
   ·have b5:(1:Int)<(k:Int):=by omega
    have d0:0<t.size:=by omega
    obtain⟨a,ha⟩:∃a,t[0]=a:=⟨_,rfl⟩;have HA:Hid (t.data.toList[0]?=some a):=by
     have A:t.data.toList[0]'(by rw[I.out];exact d0)=a:=ha;show _=_;rw[List.getElem?_eq_getElem (by rw[I.out];exact d0),A]
    by_cases h48:a=48
    ·have a1:((a.toNat:Int)==48)=true:=by rw[h48];rfl
     have c9:(a.toNat:Int)=48:=by rw[h48];rfl
     have e4:Hid (1<k∧t.data.toList[0]?=some 48):=⟨h1,by rw[HA.out,h48]⟩;clear h48;have z:Hid (S=none):=by show _=_;rw[F.out];exact kY (Ew P (.inr (.inr e4)) bs)
     have j:=hid (pR z);go_wp2
     go_ret3
     exact⟨by rw[j.out];rfl,Z⟩
    have a1:((a.toNat:Int)==48)=false:=by
     rw[beq_eq_false_iff_ne];intro e;exact h48 (UInt8.toNat_inj.1 (by show _=48;omega))
    have c9:¬(a.toNat:Int)=48:=by simpa using a1
    have d3:=hid h48;clear h48;have HZ:Hid (¬(1<k∧t.data.toList[0]?=some 48)):=fun h=>by rw[HA.out]at h;injection h.2 with h2;exact d3 h2
    have X:Hid (val 10 (t.data.toList.take k)≤255):=by show _≤_;rw[←HV.out];omega
    obtain⟨T1,a7⟩:∃T1,t.extract k t.size=T1:=⟨_,rfl⟩;have N:Hid (T1.data.toList=t.data.toList.drop k):=by show _=_;rw[←a7,xM]
    have C:T1.size=t.size - k:=by rw[dN N.out,List.length_drop,I.out]
    have D:=HO.out;have v:=Z.out;have a3:n≤255:=by omega
    have i:Hid (∀x ∈ bs++[n],x≤255):=by
     intro x hx;rcases List.mem_append.1 hx with h|h
     ·exact d4 x h
     simp at h;omega
    go_wp2_with (at_builtin;refine bI rfl _ _ 213 rfl w.heap.size 3 i0 (.int .i64 0) 8 underlying213 hi c4 b9 b8 rfl _ m _ rfl D v v.size [.int .i64 (n:Int)] 1 rfl rfl (by intro u hu;simp at hu;subst hu;rfl) (by unfold maxLen;omega) (by omega) ?_)
    intro v7 w7 l r;have Q:Hid (w7.ownsRow w.heap.size 3 1 v7 (bs++[n]).length (fQ (bs++[n]))):=by
     show World.ownsRow _ _ _ _ _ _ _;rw[List.length_append,←T.out,lW];exact l
    have y:=hid r;obtain⟨A7,c7,rfl,c5,c6,V⟩:=aS l;have O:Hid (dP w7 A7 (m+1) (fQ (bs++[n]))):=by show dP _ _ _ _;rw[lW];exact V
    clear D v l r V;by_cases hend:k=t.size
    ·have a5:T1.toList=[]:=by
      rw[Lib.toList_data];exact List.eq_nil_of_length_eq_zero (by rw[Array.length_toList];show T1.size=0;omega)
     have B:Hid (cont bs t.data.toList=if bs.length+1=4 then some (bs++[val 10 (t.data.toList.take k)])else none):=G6 P a0 X HZ (List.drop_eq_nil_of_le (by rw[I.out];omega)) bs;clear hend C;by_cases h4:m=3
     ·subst h4
      match bs,T,F,i,O,Q,B with
      |[b0,b1,b2],T,F,i,O,Q,B=>
       have z:Hid (S=some [b0*256+b1,b2*256+n]):=by show _=_;rw[F.out,B.out,←HV.out];rfl
       have j:=hid (Qa z);obtain⟨g,d5,rfl,_,f⟩:=O.spot (by omega);have c0:=f 0 (by simp[fQ]);have c1:=f 1 (by simp[fQ]);have c2:=f 2 (by simp[fQ]);have c3:=f 3 (by simp[fQ]);simp only[fQ,List.map_append,List.map_cons,List.map_nil,List.cons_append,List.nil_append,List.getElem_cons_zero,List.getElem_cons_succ,Nat.add_zero]at c0 c1 c2 c3;have x0:(b0:Int)≤255:=by have:=i b0 (by simp);omega
       have x1:(b1:Int)≤255:=by have:=i b1 (by simp);omega
       have x2:(b2:Int)≤255:=by have:=i b2 (by simp);omega
       have x3:(n:Int)≤255:=by have:=i n (by simp);omega
       clear f;go_wp2_with fail
       go_quiet (fail)
       go_wp2
       go_ret3
       exact⟨by rw[j.out];rfl,Base.below_drewN y _⟩
     have z:Hid (S=none):=by show _=_;rw[F.out,B.out,if_neg (by rw[←T.out];omega)];rfl
     have a9:((m:Int)+1==4)=false:=by simp;omega
     have a8:¬(m:Int)+1=4:=by omega
     have j:=hid (pR z);go_wp2
     go_ret3
     exact⟨by rw[j.out];rfl,y⟩
    have q:k<t.size:=by omega
    have h0:0<T1.size:=by omega
    obtain⟨c,hc⟩:∃c,t[k]=c:=⟨_,rfl⟩;have HG:Hid (t.data.toList[k]?=some c):=by
     have A:t.data.toList[k]'(by rw[I.out];exact q)=c:=hc;show _=_;rw[List.getElem?_eq_getElem (by rw[I.out];exact q),A]
    have d9:T1[0]=c:=head_drop t k T1 N c q hc h0;have J:T1.data.toList≠[]:=by
     intro h;have h2:T1.size=0:=dN h;omega
    have a5:(T1.toList==[])=false:=by rw[Lib.toList_data];simpa using J
    have d6:T1.toList.isEmpty=false:=by rw[Lib.toList_data];simpa using J
    clear hc J hend;by_cases h46:c=46
    ·have E:((c.toNat:Int)==46)=true:=by rw[h46];rfl
     have W:(c.toNat:Int)=46:=by rw[h46];rfl
     have Y:Hid (cont bs t.data.toList=if bs.length+1=4 then none else cont (bs++[val 10 (t.data.toList.take k)]) (t.data.toList.drop (k+1))):=G7 P a0 X HZ (by rw[HG.out,h46]) bs;clear h46;by_cases h4:m=3
     ·have z:Hid (S=none):=by show _=_;rw[F.out,Y.out,if_pos (by rw[←T.out,h4])];rfl
      subst h4;have j:=hid (pR z);go_wp2
      go_ret3
      exact⟨by rw[j.out];rfl,y⟩
     have a9:((m:Int)+1==4)=false:=by simp;omega
     have a8:¬(m:Int)+1=4:=by omega
     have b6:Hid (S=(cont (bs++[n]) (t.data.toList.drop (k+1))).bind two):=by show _=_;rw[F.out,Y.out,if_neg (by rw[←T.out];omega),←HV.out]
     obtain⟨T2,a6⟩:∃T2,T1.extract 1 T1.size=T2:=⟨_,rfl⟩;have G:Hid (T2.data.toList=t.data.toList.drop (k+1)):=by show _=_;rw[←a6,xM,N.out,List.drop_drop]
     have H:Hid (T2.size<t.size):=by
      show _<_;have h5:T2.size=t.size - (k+1):=by rw[dN G.out,List.length_drop,I.out]
      omega
     have b5:(1:Int)≤(T1.size:Int):=by omega
     clear C h4;go_wp2;go_roundw
     case rel=>exact⟨T2,bs++[n],by have:=H.out;omega,rfl,by rw[List.length_append,←T.out];show m+1≤3;omega,Q,y,by show _=_;rw[b6.out,G.out],i⟩
     case measure=>exact H
    have E:((c.toNat:Int)==46)=false:=by
     rw[beq_eq_false_iff_ne];intro e;exact h46 (UInt8.toNat_inj.1 (by show _=46;omega))
    have W:¬(c.toNat:Int)=46:=by simpa using E
    have z:Hid (S=none):=by show _=_;rw[F.out];exact kY (KL P HG h46 bs)
    clear h46;have j:=hid (pR z);go_wp2
    go_ret3
    exact⟨by rw[j.out];rfl,y⟩
   have b5:¬(1:Int)<(k:Int):=by omega
   have e3:=hid h1;have HZ:Hid (¬(1<k∧t.data.toList[0]?=some 48)):=fun h=>e3 h.1;have X:Hid (val 10 (t.data.toList.take k)≤255):=by show _≤_;rw[←HV.out];omega
   obtain⟨T1,a7⟩:∃T1,t.extract k t.size=T1:=⟨_,rfl⟩;have N:Hid (T1.data.toList=t.data.toList.drop k):=by show _=_;rw[←a7,xM]
   have C:T1.size=t.size - k:=by rw[dN N.out,List.length_drop,I.out]
   have D:=HO.out;have v:=Z.out;have a3:n≤255:=by omega
   have i:Hid (∀x ∈ bs++[n],x≤255):=by
    intro x hx;rcases List.mem_append.1 hx with h|h
    ·exact d4 x h
    simp at h;omega
   go_wp2_with (at_builtin;refine bI rfl _ _ 213 rfl w.heap.size 3 i0 (.int .i64 0) 8 underlying213 hi c4 b9 b8 rfl _ m _ rfl D v v.size [.int .i64 (n:Int)] 1 rfl rfl (by intro u hu;simp at hu;subst hu;rfl) (by unfold maxLen;omega) (by omega) ?_)
   intro v7 w7 l r;have Q:Hid (w7.ownsRow w.heap.size 3 1 v7 (bs++[n]).length (fQ (bs++[n]))):=by
    show World.ownsRow _ _ _ _ _ _ _;rw[List.length_append,←T.out,lW];exact l
   have y:=hid r;obtain⟨A7,c7,rfl,c5,c6,V⟩:=aS l;have O:Hid (dP w7 A7 (m+1) (fQ (bs++[n]))):=by show dP _ _ _ _;rw[lW];exact V
   clear D v l r V;by_cases hend:k=t.size
   ·have a5:T1.toList=[]:=by
     rw[Lib.toList_data];exact List.eq_nil_of_length_eq_zero (by rw[Array.length_toList];show T1.size=0;omega)
    have B:Hid (cont bs t.data.toList=if bs.length+1=4 then some (bs++[val 10 (t.data.toList.take k)])else none):=G6 P a0 X HZ (List.drop_eq_nil_of_le (by rw[I.out];omega)) bs;clear hend C;by_cases h4:m=3
    ·subst h4
     match bs,T,F,i,O,Q,B with
     |[b0,b1,b2],T,F,i,O,Q,B=>
      have z:Hid (S=some [b0*256+b1,b2*256+n]):=by show _=_;rw[F.out,B.out,←HV.out];rfl
      have j:=hid (Qa z);obtain⟨g,d5,rfl,_,f⟩:=O.spot (by omega);have c0:=f 0 (by simp[fQ]);have c1:=f 1 (by simp[fQ]);have c2:=f 2 (by simp[fQ]);have c3:=f 3 (by simp[fQ]);simp only[fQ,List.map_append,List.map_cons,List.map_nil,List.cons_append,List.nil_append,List.getElem_cons_zero,List.getElem_cons_succ,Nat.add_zero]at c0 c1 c2 c3;have x0:(b0:Int)≤255:=by have:=i b0 (by simp);omega
      have x1:(b1:Int)≤255:=by have:=i b1 (by simp);omega
      have x2:(b2:Int)≤255:=by have:=i b2 (by simp);omega
      have x3:(n:Int)≤255:=by have:=i n (by simp);omega
      clear f;go_wp2_with fail
      go_quiet (fail)
      go_wp2
      go_ret3
      exact⟨by rw[j.out];rfl,Base.below_drewN y _⟩
    have z:Hid (S=none):=by show _=_;rw[F.out,B.out,if_neg (by rw[←T.out];omega)];rfl
    have a9:((m:Int)+1==4)=false:=by simp;omega
    have a8:¬(m:Int)+1=4:=by omega
    have j:=hid (pR z);go_wp2
    go_ret3
    exact⟨by rw[j.out];rfl,y⟩
   have q:k<t.size:=by omega
   have h0:0<T1.size:=by omega
   obtain⟨c,hc⟩:∃c,t[k]=c:=⟨_,rfl⟩;have HG:Hid (t.data.toList[k]?=some c):=by
    have A:t.data.toList[k]'(by rw[I.out];exact q)=c:=hc;show _=_;rw[List.getElem?_eq_getElem (by rw[I.out];exact q),A]
   have d9:T1[0]=c:=head_drop t k T1 N c q hc h0;have J:T1.data.toList≠[]:=by
    intro h;have h2:T1.size=0:=dN h;omega
   have a5:(T1.toList==[])=false:=by rw[Lib.toList_data];simpa using J
   have d6:T1.toList.isEmpty=false:=by rw[Lib.toList_data];simpa using J
   clear hc J hend;by_cases h46:c=46
   ·have E:((c.toNat:Int)==46)=true:=by rw[h46];rfl
    have W:(c.toNat:Int)=46:=by rw[h46];rfl
    have Y:Hid (cont bs t.data.toList=if bs.length+1=4 then none else cont (bs++[val 10 (t.data.toList.take k)]) (t.data.toList.drop (k+1))):=G7 P a0 X HZ (by rw[HG.out,h46]) bs;clear h46;by_cases h4:m=3
    ·have z:Hid (S=none):=by show _=_;rw[F.out,Y.out,if_pos (by rw[←T.out,h4])];rfl
     subst h4;have j:=hid (pR z);go_wp2
     go_ret3
     exact⟨by rw[j.out];rfl,y⟩
    have a9:((m:Int)+1==4)=false:=by simp;omega
    have a8:¬(m:Int)+1=4:=by omega
    have b6:Hid (S=(cont (bs++[n]) (t.data.toList.drop (k+1))).bind two):=by show _=_;rw[F.out,Y.out,if_neg (by rw[←T.out];omega),←HV.out]
    obtain⟨T2,a6⟩:∃T2,T1.extract 1 T1.size=T2:=⟨_,rfl⟩;have G:Hid (T2.data.toList=t.data.toList.drop (k+1)):=by show _=_;rw[←a6,xM,N.out,List.drop_drop]
    have H:Hid (T2.size<t.size):=by
     show _<_;have h5:T2.size=t.size - (k+1):=by rw[dN G.out,List.length_drop,I.out]
     omega
    have b5:(1:Int)≤(T1.size:Int):=by omega
    clear C h4;go_wp2;go_roundw
    case rel=>exact⟨T2,bs++[n],by have:=H.out;omega,rfl,by rw[List.length_append,←T.out];show m+1≤3;omega,Q,y,by show _=_;rw[b6.out,G.out],i⟩
    case measure=>exact H
   have E:((c.toNat:Int)==46)=false:=by
    rw[beq_eq_false_iff_ne];intro e;exact h46 (UInt8.toNat_inj.1 (by show _=46;omega))
   have W:¬(c.toNat:Int)=46:=by simpa using E
   have z:Hid (S=none):=by show _=_;rw[F.out];exact kY (KL P HG h46 bs)
   clear h46;have j:=hid (pR z);go_wp2
   go_ret3
   exact⟨by rw[j.out];rfl,y⟩
end aaC
