/- Lemmas. -/
import Derived.Test.YtmbpmbapelfobaaGreatDoorOTAAV
set_option linter.unusedSimpArgs false
set_option linter.unusedVariables false
set_option maxRecDepth 100000
set_option maxHeartbeats 64000000
namespace Go.Proofs.YtmbpmbapelfobaaGreatDoor
open Tryz
namespace aeu
open Go.RowKit Base aV sO aC
theorem QN (c:UInt8):cu c=decide ((c.toNat:Int)≤32):=by unfold cu;rw[Bool.eq_iff_iff];simp only[decide_eq_true_eq];omega
theorem VD {c:UInt8} {L:List UInt8} (h:cu c=true):(c::L).dropWhile cu=L.dropWhile cu:=by rw[List.dropWhile_cons,if_pos h]
theorem abb {c:UInt8} {L:List UInt8} (h:cu c=false):(c::L).dropWhile cu=c::L:=by rw[List.dropWhile_cons,if_neg (by rw[h];decide)]
theorem aax {L:List UInt8} {n:Nat} (a:L.length=n+1):L=L.take n++[L[n]'(by omega)]:=by
 have:=List.take_succ_eq_append_getElem (l:=L) (i:=n) (by omega);rw[List.take_of_length_le (by omega)]at this;exact this
theorem aci {c:UInt8} {L:List UInt8} (h:cu c=true):((L++[c]).reverse.dropWhile cu).reverse=(L.reverse.dropWhile cu).reverse:=by
 rw[List.reverse_append];show((c::L.reverse).dropWhile cu).reverse=_;rw[VD h]
theorem ae4 {c:UInt8} {L:List UInt8} (h:cu c=false):((L++[c]).reverse.dropWhile cu).reverse=L++[c]:=by
 rw[List.reverse_append];show((c::L.reverse).dropWhile cu).reverse=_;rw[abb h];simp
theorem Sr (c:UInt8):(!brk c)=(!(decide ((c.toNat:Int)=9))&&(!(decide ((c.toNat:Int)=10))&& !(decide ((c.toNat:Int)=13)))):=by
 have e:∀n:Nat,n<256→decide (c=UInt8.ofNat n)=decide ((c.toNat:Int)=(n:Int)):=fun n hn=>by
  rw[Bool.eq_iff_iff];simp only[decide_eq_true_eq];constructor
  ·rintro rfl;rw[show(UInt8.ofNat n).toNat=n from UInt8.toNat_ofNat_of_lt hn]
  intro h;exact UInt8.toNat_inj.1 ((Int.ofNat.inj h).trans (UInt8.toNat_ofNat_of_lt hn).symm)
 unfold brk;rw[show(decide (c=9):Bool)=decide ((c.toNat:Int)=9)from e 9 (by decide),show(decide (c=10):Bool)=decide ((c.toNat:Int)=10)from e 10 (by decide),show(decide (c=13):Bool)=decide ((c.toNat:Int)=13)from e 13 (by decide)];cases decide ((c.toNat:Int)=9)<;>cases decide ((c.toNat:Int)=10)<;>cases decide ((c.toNat:Int)=13)<;>rfl
theorem JQ (T:List UInt8) (w:World) (hs:T.length≤1000000):Calls prog 15 #[.string (ah T)] w fun e w'=>e=.returned (.string (ah (clean T)))∧Below w.heap.size w w':=by
 obtain⟨i0,hi,e5,e4,e3⟩:=info_parts rD;obtain⟨D,hD⟩:∃X,X=dec T:=⟨_,rfl⟩;obtain⟨E,hE⟩:∃X,X=uj.enc D:=⟨_,rfl⟩;have f2:D.length≤T.length:=by rw[hD];exact aeM.pU T
 have d3:E.length≤4000000:=by rw[hE];have:=(uj.fE D).1;omega
 obtain⟨V,hV⟩:∃V,V=clean T:=⟨_,rfl⟩;have HV:Hid (V=(sJ E).filter fun c=> !brk c):=by show _=_;rw[hV,hE,hD];rfl
 have h2:=hid d3;have h3:Hid (D.length≤1000000):=by show _≤_;omega
 have HD:=hid hD;have HE:=hid hE;have c3:(ah T).size=T.length:=ak T;obtain⟨Z,hZ⟩:∃Z,Z=ah T:=⟨_,rfl⟩;have HZ:=hid hZ;have b9:Z.size≤1000000:=by rw[hZ,c3];exact hs
 have f8:=hid b9;rw[←hV,←hZ];have e2:Hid (Z.size≤grownCap w Z.size 0 5):=grownCap_ge w Z.size 0 5;have f3:=fun(w:World) s=>run_bytes_of_string (P:=prog) w 9 55 5 s underlying9 underlying55 underlying5;clear hD hE f2 d3 hV c3 hZ b9 hs;go_enter func15,ntmps15;go_wp2_with fail
 clear f3;refine(aeK.qE _ Z.size _ Z.data.toList _ (kM Z _ w 5) (by have:=f8.out;omega) e2.out).mono ?_;rintro e w1 ⟨v1,rfl,G,d7⟩;rw[show dec Z.data.toList=D from by rw[HD.out,HZ.out];rfl]at G;obtain⟨A1,c1,rfl,e7,f1,c5⟩:=aW G;have h7:Hid (Below w.heap.size w w1):=bD (((Below.refl _ _).alloc (Nat.le_refl _) _).drew) d7;have g0:=hid c5;clear G d7 c5;go_wp2_with fail
 refine(aeJ.iw A1 D.length c1 D _ g0.out (by have:=h3.out;omega)).mono ?_;rintro e w2 ⟨v2,rfl,F,d6⟩;rw[←HE.out]at F;obtain⟨A2,c2,rfl,c6,d1,c4⟩:=aW F;have h6:=hid (bD h7.out d6);have f9:=hid c4;have g6:=hid c6;have h1:=hid d1;clear F d6 c4 e7 f1 c6 d1;go_wp2;go_loopw [3] (fun v wr=>∃(A:Option Addr) (n c:Nat) (X:List UInt8),v=.slice A n c∧n≤c∧Hid (c≤maxLen)∧n≤4000000∧Hid (dW wr A n (aU X))∧Hid (Below w.heap.size w wr)∧Hid (X.dropWhile cu=E.dropWhile cu)) (fun v _=>match v with| .slice _ n _=>n|_=>0)
 case atStart=>exact⟨A2,E.length,c2,E,rfl,g6.out,h1,h2.out,f9,h6,rfl⟩
 case round=>
  obtain⟨A,n,c,X,rfl,i7,e1,e6,HR,a9,HW⟩:=hrel;have C:X.length=n:=by rw[←bM];exact HR.out.1
  by_cases hn0:0<n
  ·obtain ⟨b,off,rfl,hb,_⟩:=HR.out.spot hn0;obtain⟨y,Y,t⟩:∃y Y,X=y::Y:=by
    match X,C with
    |[],h=>exact absurd h (by simp;omega)
    |y::Y,_=>exact⟨y,Y,rfl⟩
   have f5:wr.cell? ⟨b,off,none⟩=some (.int .u8 (y.toNat:Int)):=by
    have h:=HR.out.byte 0 (by omega);rw[Nat.add_zero]at h;rw[h];subst t;rfl
   have b6:(0:Int)<(n:Int):=by omega
   cases hlow:cu y with
   |true=>
    have c0:(y.toNat:Int)≤32:=by rw[QN]at hlow;exact of_decide_eq_true hlow
    have a8:Hid (Y.dropWhile cu=E.dropWhile cu):=by show _=_;rw[←HW.out,t,VD hlow]
    have j0:(c:Int)≤9223372036854775807:=by have:=e1.out;unfold maxLen at this;omega
    have i6:n≤9223372036854775807:=by omega
    by_cases hcap:c=1
    ·obtain rfl:c=1:=hcap;obtain rfl:n=1:=by omega
     have hY:Y=[]:=by rw[t]at C;exact List.eq_nil_of_length_eq_zero (by simpa using C)
     have a4:Hid (dW wr (some ⟨b,off,none⟩) 0 (aU Y)):=by show dW _ _ _ _;rw[hY];exact dW.nil _
     clear C t hlow hY;go_wp2;go_roundw
     case rel=>exact⟨some ⟨b,off,none⟩,0,0,Y,rfl,Nat.le_refl _,Nat.zero_le _,by omega,a4,a9,a8⟩
     case measure=>exact Nat.zero_lt_one
    obtain⟨n',b7⟩:∃n',n'=n - 1:=⟨_,rfl⟩;obtain⟨c',d5⟩:∃c',c'=c - 1:=⟨_,rfl⟩;have a4:Hid (dW wr (some ⟨b,off+1,none⟩) n' (aU Y)):=by
     show dW _ _ _ _;have h:=HR.out.cut 1 (by omega);rw[t,←b7]at h;exact h
    have j1:(1:Int)≤(c:Int):=by omega
    have i2:(1:Int)≤(n:Int):=by omega
    have i1:1≤n:=by omega
    have i4:1≤c:=by omega
    have i3:¬c - 1=0:=by omega
    have e0:Hid (c'≤maxLen):=by show _≤_;have:=e1.out;omega
    have g4:Hid (n'≤c'):=by show _≤_;omega
    have g3:Hid (n'<n):=by show _<_;omega
    have g7:Hid (n - 1=n'):=b7.symm;have h4:Hid (c - 1=c'):=d5.symm;have g5:=hid e6;clear C t hlow b7 d5;go_wp2;go_roundw
    case rel=>exact⟨some ⟨b,off+1,none⟩,n',c',Y,by rw[←g7.out,←h4.out],g4.out,e0,by have:=g3.out;have:=g5.out;omega,a4,a9,a8⟩
    case measure=>show n - 1<n;omega
   | false =>
    have c0:¬(y.toNat:Int)≤32:=by rw[QN]at hlow;exact of_decide_eq_false hlow
    have HX:Hid (X=E.dropWhile cu):=by show _=_;rw[←HW.out,t,abb hlow]
    clear C t hlow;go_wp2;clear f5 c0 b6 hn0
    rename World=>wA
    go_loopw [3] (fun v wr=>∃(m:Nat) (Y:List UInt8),v=.slice (some ⟨b,off,none⟩) m c∧m≤n∧Hid (dW wr (some ⟨b,off,none⟩) m (aU Y))∧Hid (Below w.heap.size w wr)∧Hid ((Y.reverse.dropWhile cu).reverse=sJ E)) (fun v _=>match v with| .slice _ n _=>n|_=>0)
    case atStart=>exact⟨n,X,rfl,Nat.le_refl _,HR,a9,by show _=_;unfold sJ;rw[←HX.out]⟩
    case round=>
     obtain⟨m,Y,rfl,a2,N,a5,HW⟩:=hrel;have q:Y.length=m:=by rw[←bM];exact N.out.1
     by_cases hm0:0<m
     ·obtain ⟨f,d2⟩:∃f,f=m - 1:=⟨_,rfl⟩;have b0:f<Y.length:=by omega
      obtain⟨d,hd⟩:∃d,Y[f]=d:=⟨_,rfl⟩;have a7:Y=Y.take f++[d]:=by rw[←hd];exact aax (by omega)
      have f4:wr.cell? ⟨b,off+f,none⟩=some (.int .u8 (d.toNat:Int)):=by
       have h:=N.out.byte f (by omega);rw[hd]at h;exact h
      have c9:(0:Int)<(m:Int):=by omega
      have e8:(m:Int) - 1=(f:Int):=by omega
      have c7:(f:Int)<(m:Int):=by omega
      have c8:0≤(f:Int):=by omega
      have b8:(f:Int)≤(c:Int):=by omega
      have d0:f≤c:=by omega
      have f0:(f:Int)≤4000000:=by omega
      have g8:Hid (f<m):=by show _<_;omega
      have g9:Hid (f≤n):=by show _≤_;omega
      cases hlow:cu d with
      |true=>
       have d4:(d.toNat:Int)≤32:=by rw[QN]at hlow;exact of_decide_eq_true hlow
       have a8:Hid (((Y.take f).reverse.dropWhile cu).reverse=sJ E):=by
        show _=_;rw[←HW.out];have e:=aci (c:=d) (L:=Y.take f) hlow;rw[←a7]at e;exact e.symm
       have a4:Hid (dW wr (some ⟨b,off,none⟩) f (aU (Y.take f))):=by show dW _ _ _ _;rw[vP];exact N.out.upto f (by omega)
       clear q hd a7 hlow d2 b0 a2;go_wp2;go_roundw
       case rel=>exact⟨f,Y.take f,by first|rfl|simp,g9.out,a4,a5,a8⟩
       case measure=>exact g8.out
      | false=>
       have d4:¬(d.toNat:Int)≤32:=by rw[QN]at hlow;exact of_decide_eq_false hlow
       have HY:Hid (Y=sJ E):=by
        show _=_;rw[←HW.out];have e:=ae4 (c:=d) (L:=Y.take f) hlow;rw[←a7]at e;exact e.symm
       clear hd a7 hlow d2 b0;go_wp2;clear f4 e8 c7 c8 b8 d0 d4 f0
       rename World=>wB
       have h0:Hid (m≤4000000):=by show _≤_;omega
       have z:=hid q;have b3:(m:Int)≤4000000:=by omega
       clear q a2;go_loopw [4,5,40] (fun vo _ vk wr=>∃(i:Nat) (O:List UInt8),i≤m∧vk=.int .i64 (i:Int)∧Hid (O.length≤i)∧Hid (wr.ownsRow wB.heap.size 5 1 vo O.length (aU O))∧Hid (Below wB.heap.size wB wr)∧Hid (O=(Y.take i).filter fun c=> !brk c)) (fun _ _ vk _=>m - (intOf vk).toNat)
       case atStart=>exact⟨0,[],Nat.zero_le _,rfl,Nat.le_refl _,World.ownsRow_nil _ _ _ _,Below.refl _ _,rfl⟩
       case round=>
        obtain⟨i,O,b5,rfl,I,HO,l,Q⟩:=hrel;by_cases hlt:i<m
        ·obtain⟨d,J⟩:∃d,Y[i]'(by have:=z.out;omega)=d:=⟨_,rfl⟩;have i9:wr.cell? ⟨b,off+i,none⟩=some (.int .u8 (d.toNat:Int)):=by
          have h:=(N.out.below l.out).byte i (by have:=z.out;omega);rw[J]at h;exact h
         have W:Y.take (i+1)=Y.take i++[d]:=by rw[←J];exact List.take_succ_eq_append_getElem (by have:=z.out;omega)
         have i8:(i:Int)<(m:Int):=by omega
         have a:(Y.take (i+1)).filter (fun c=> !brk c)=O++if (!brk d)=true then[d]else[]:=by
          rw[W,List.filter_append,←Q.out];congr 1;cases h:brk d<;>simp[List.filter,h]
         have r:=Sr d;have B:=hid hlt;have i5:=h0.out;by_cases h9:(d.toNat:Int)=9
         ·have e9:((d.toNat:Int) !=9)=false:=by simpa using h9
          have k:Hid (O=(Y.take (i+1)).filter fun c=> !brk c):=by show _=_;rw[a,r,h9];simp
          clear W a r J h9;go_wp2;go_roundw
          case rel=>exact⟨i+1,O,by have:=B.out;omega,by go_num,Nat.le_succ_of_le I.out,HO,l,k⟩
          case measure=>have:=B.out;simp[intOf];omega
         have e9:((d.toNat:Int) !=9)=true:=by simpa using h9
         by_cases h10:(d.toNat:Int)=10
         ·have f7:((d.toNat:Int) !=10)=false:=by simpa using h10
          have k:Hid (O=(Y.take (i+1)).filter fun c=> !brk c):=by show _=_;rw[a,r,h10];simp
          clear W a r J h9 h10;go_wp2;go_roundw
          case rel=>exact⟨i+1,O,by have:=B.out;omega,by go_num,Nat.le_succ_of_le I.out,HO,l,k⟩
          case measure=>have:=B.out;simp[intOf];omega
         have f7:((d.toNat:Int) !=10)=true:=by simpa using h10
         by_cases h13:(d.toNat:Int)=13
         ·have f6:((d.toNat:Int) !=13)=false:=by simpa using h13
          have k:Hid (O=(Y.take (i+1)).filter fun c=> !brk c):=by show _=_;rw[a,r,h13];simp
          clear W a r J h9 h10 h13;go_wp2;go_roundw
          case rel=>exact⟨i+1,O,by have:=B.out;omega,by go_num,Nat.le_succ_of_le I.out,HO,l,k⟩
          case measure=>have:=B.out;simp[intOf];omega
         have f6:((d.toNat:Int) !=13)=true:=by simpa using h13
         have k:Hid (O++[d]=(Y.take (i+1)).filter fun c=> !brk c):=by show _=_;rw[a,r,decide_eq_false h9,decide_eq_false h10,decide_eq_false h13];rfl
         obtain⟨oA,oc,H,_,_,_⟩:=aW HO.out;subst H;obtain⟨ol,a1⟩:∃x,O.length=x:=⟨_,rfl⟩;have g1:Hid (wr.ownsRow wB.heap.size 5 1 (.slice oA ol oc) ol (aU O)):=by show World.ownsRow _ _ _ _ _ _ _;rw[←a1];exact HO.out
         have d8:=hid a1;have h8:ol≤4000000:=by rw[←a1];have:=I.out;omega
         rw[a1];clear W a r J h9 h10 h13 a1;go_wp2_with (at_builtin;refine bJ rfl _ _ 55 rfl wB.heap.size 5 i0 (.int .u8 0) 1 underlying55 hi e5 e4 e3 rfl _ ol _ rfl g1.out l.out l.out.size [.int .u8 (d.toNat:Int)] 1 rfl rfl (by intro u hu;simp at hu;subst hu;rfl) (by unfold maxLen;omega) (by omega) ?_)
         intro v6 w6 a0 a3;have g2:Hid (w6.ownsRow wB.heap.size 5 1 v6 (O++[d]).length (aU (O++[d]))):=by
          show World.ownsRow _ _ _ _ _ _ _;rw[List.length_append,d8.out,eG];exact a0
         have h5:=hid a3;have d9:Hid ((O++[d]).length≤i+1):=by show _≤_;rw[List.length_append];have:=I.out;simp only[List.length_cons,List.length_nil];omega
         clear a0 a3;go_wp2;go_roundw
         case rel=>exact⟨i+1,O++[d],by have:=B.out;omega,by go_num,d9,g2,h5,k⟩
         case measure=>have:=B.out;simp[intOf];omega
        obtain rfl:i=m:=by omega
        have j:O=V:=by rw[HV.out,Q.out,List.take_of_length_le (by rw[z.out];exact Nat.le_refl _),HY.out]
        obtain⟨oA,oc,H,_,_,g⟩:=aW HO.out;subst H;rw[j]at g;have hs:=bI (P:=prog) 55 9 5 underlying55 underlying5 underlying9 _ oc g;rw[j];have a6:Hid (Below w.heap.size w wr):=bD a5.out l.out;clear g j;go_wp2;go_ret;exact⟨rfl,a6.out⟩
     have c9:¬(0:Int)<(m:Int):=by omega
     have HY:Hid (Y=sJ E):=by show _=_;rw[←HW.out,List.eq_nil_of_length_eq_zero (show Y.length=0 by omega)];rfl
     go_wp2
     rename World=>wB
     have z:=hid q;have b3:(m:Int)≤4000000:=by omega
     clear q a2;go_loopw [4,5,40] (fun vo _ vk wr=>∃(i:Nat) (O:List UInt8),i≤m∧vk=.int .i64 (i:Int)∧Hid (O.length≤i)∧Hid (wr.ownsRow wB.heap.size 5 1 vo O.length (aU O))∧Hid (Below wB.heap.size wB wr)∧Hid (O=(Y.take i).filter fun c=> !brk c)) (fun _ _ vk _=>m - (intOf vk).toNat)
     case atStart=>exact⟨0,[],Nat.zero_le _,rfl,Nat.le_refl _,World.ownsRow_nil _ _ _ _,Below.refl _ _,rfl⟩
     case round=>
      obtain⟨i,O,b5,rfl,I,HO,l,Q⟩:=hrel;by_cases hlt:i<m
      ·exact absurd hlt (by omega)
      obtain rfl:i=m:=by omega
      have j:O=V:=by rw[HV.out,Q.out,List.take_of_length_le (by rw[z.out];exact Nat.le_refl _),HY.out]
      obtain⟨oA,oc,H,_,_,g⟩:=aW HO.out;subst H;rw[j]at g;have hs:=bI (P:=prog) 55 9 5 underlying55 underlying5 underlying9 _ oc g;rw[j];have a6:Hid (Below w.heap.size w wr):=bD a5.out l.out;clear g j;go_wp2;go_ret;exact⟨rfl,a6.out⟩
  have b6:¬(0:Int)<(n:Int):=by omega
  have HX:Hid (X=E.dropWhile cu):=by show _=_;rw[←HW.out,List.eq_nil_of_length_eq_zero (show X.length=0 by omega)];rfl
  clear C;go_wp2;clear b6
  rename World=>wA
  go_loopw [3] (fun v wr=>∃(m:Nat) (Y:List UInt8),v=.slice A m c∧m≤n∧Hid (dW wr A m (aU Y))∧Hid (Below w.heap.size w wr)∧Hid ((Y.reverse.dropWhile cu).reverse=sJ E)) (fun v _=>match v with| .slice _ n _=>n|_=>0)
  case atStart=>exact⟨n,X,rfl,Nat.le_refl _,HR,a9,by show _=_;unfold sJ;rw[←HX.out]⟩
  case round=>
   obtain⟨m,Y,rfl,a2,N,a5,HW⟩:=hrel;have q:Y.length=m:=by rw[←bM];exact N.out.1
   by_cases hm0:0<m
   ·exact absurd hm0 (by omega)
   have c9:¬(0:Int)<(m:Int):=by omega
   have HY:Hid (Y=sJ E):=by show _=_;rw[←HW.out,List.eq_nil_of_length_eq_zero (show Y.length=0 by omega)];rfl
   go_wp2
   rename World=>wB
   have z:=hid q;have b3:(m:Int)≤4000000:=by omega
   clear q a2;go_loopw [4,5,40] (fun vo _ vk wr=>∃(i:Nat) (O:List UInt8),i≤m∧vk=.int .i64 (i:Int)∧Hid (O.length≤i)∧Hid (wr.ownsRow wB.heap.size 5 1 vo O.length (aU O))∧Hid (Below wB.heap.size wB wr)∧Hid (O=(Y.take i).filter fun c=> !brk c)) (fun _ _ vk _=>m - (intOf vk).toNat)
   case atStart=>exact⟨0,[],Nat.zero_le _,rfl,Nat.le_refl _,World.ownsRow_nil _ _ _ _,Below.refl _ _,rfl⟩
   case round=>
    obtain⟨i,O,b5,rfl,I,HO,l,Q⟩:=hrel;by_cases hlt:i<m
    ·exact absurd hlt (by omega)
    obtain rfl:i=m:=by omega
    have j:O=V:=by rw[HV.out,Q.out,List.take_of_length_le (by rw[z.out];exact Nat.le_refl _),HY.out]
    obtain⟨oA,oc,H,_,_,g⟩:=aW HO.out;subst H;rw[j]at g;have hs:=bI (P:=prog) 55 9 5 underlying55 underlying5 underlying9 _ oc g;rw[j];have a6:Hid (Below w.heap.size w wr):=bD a5.out l.out;clear g j;go_wp2;go_ret;exact⟨rfl,a6.out⟩
end aeu
namespace UY
open Go.RowKit jr ig fJ aC jY
theorem drop_cons {S R:List UInt8} {k:Nat} {c:UInt8} (h:S.drop k=c::R):S.drop (k+1)=R∧k<S.length:=by
 have a:k<S.length:=by
  refine Nat.lt_of_not_le fun hn=>?_;rw[List.drop_eq_nil_of_le hn]at h;cases h
 rw[List.drop_eq_getElem_cons a]at h;injection h with _ h
 exact⟨h,a⟩
theorem drop_nil {S:List UInt8} {k:Nat} (h:S.drop k=[]):(S.length:Int)≤k:=by
 rw[List.drop_eq_nil_iff]at h;omega
variable {S:List UInt8} {base:Option U}
theorem Jv:∀(R:List UInt8) (k:Nat) (m:M),m.p=k→S.drop k=R→k≤S.length→m.st=18→Run S base m (some {m.u with dY:=aP.enc 1 (m.buf++R)})
 |[],k,m,hp,hR,hk,hs=>by
  refine bG hp hk hR (by rw[hs];decide) ?_
  have e:aX base m []={m with u:={m.u with dY:=aP.enc 1 m.buf},buf:=[]}:=by
   rw[ZI hs];unfold wM;rw[if_neg (fun h=>h rfl)]
  rw[e,show decide (([]:List UInt8)=[])=true from rfl,out_stop (by show _≤m.p;rw[hp];exact drop_nil hR),List.append_nil];show(if m.st=19 then none else _)=_;rw[if_neg (by rw[hs];decide)]
 |c::R,k,m,hp,hR,hk,hs=>by
  obtain⟨a,d⟩:=drop_cons hR;refine bG hp hk hR (by rw[hs];decide) ?_;have e:aX base m (c::R)={m with buf:=m.buf++[c]}:=by
   rw[ZI hs];unfold wM;rw[if_pos (by simp)];rfl
  rw[e,show decide ((c::R)=[])=false from rfl,nC (.inl rfl)];have:=Jv R (k+1) {m with buf:=m.buf++[c],p:=m.p+1} (by show m.p+1=_;rw[hp];rfl) a (by omega) hs;rw[List.append_assoc]at this;exact this
def LJ (u:U) (b R:List UInt8):U:=
 let v:U:={u with bQ:=aP.enc (if aj u.au=true then 3 else 2) (b++(aT 35 R).1)}
 if (aT 35 R).2.2=true then {v with hf:=true,dY:=aP.enc 1 (aT 35 R).2.1}else v
theorem Rj:∀(R:List UInt8) (k:Nat) (m:M),m.p=k→S.drop k=R→k≤S.length→m.st=17→Run S base m (some (LJ m.u m.buf R))
 |[],k,m,hp,hR,hk,hs=>by
  refine bG hp hk hR (by rw[hs];decide) ?_
  have e:aX base m []={m with u:={m.u with bQ:=aP.enc (if sp m=true then 3 else 2) m.buf},buf:=[]}:=by
   rw[ZH hs];unfold pI;rw[if_neg (fun h=>h.1 rfl)];rfl
  rw[e,show decide (([]:List UInt8)=[])=true from rfl,out_stop (by show _≤m.p;rw[hp];exact drop_nil hR)];show(if m.st=19 then none else _)=_;rw[if_neg (by rw[hs];decide)];unfold LJ aT;rw[List.append_nil];rfl
 | c :: R, k, m, hp, hR, hk, hs => by
  obtain⟨a,f⟩:=drop_cons hR;refine bG hp hk hR (by rw[hs];decide) ?_;by_cases hc:c=35
  ·subst hc;have e:aX base m (35::R)=mv {{m with u:={m.u with bQ:=aP.enc (if sp m=true then 3 else 2) m.buf},buf:=[]}with u:={m.u with bQ:=aP.enc (if sp m=true then 3 else 2) m.buf,hf:=true,dY:=[]}} 18 false:=by
    rw[ZH hs];unfold pI;rw[if_neg (fun h=>h.2 rfl)];rfl
   rw[e,show decide (((35:UInt8)::R)=[])=false from rfl,nC (.inl rfl)];have:=Jv (S:=S) (base:=base) R (k+1) {p:=m.p+1,st:=18,buf:=[],u:={m.u with bQ:=aP.enc (if sp m=true then 3 else 2) m.buf,hf:=true,dY:=[]},sign:=m.sign,inn:=m.inn,pass:=m.pass} (by show m.p+1=_;rw[hp];rfl) a (by omega) rfl;unfold LJ;rw[aT,if_pos rfl,if_pos rfl,List.append_nil];exact this
  ·have e:aX base m (c::R)={m with buf:=m.buf++[c]}:=by
    rw[ZH hs];unfold pI;rw[if_pos ⟨by simp,hc⟩];rfl
   rw[e,show decide ((c::R)=[])=false from rfl,nC (.inl rfl)];have:=Rj R (k+1) {m with buf:=m.buf++[c],p:=m.p+1} (by show m.p+1=_;rw[hp];rfl) a (by omega) hs;have d:LJ m.u m.buf (c::R)=LJ m.u (m.buf++[c]) R:=by
    unfold LJ;rw[aT,if_neg hc,List.append_assoc];rfl
   rw[d];exact this
def fG (u:U):List UInt8→U
 |[]=>u
 |c::T=>if c=63 then LJ {u with hq:=true,bQ:=[]} [] T else {u with hf:=true,dY:=aP.enc 1 T}
theorem Aw {T:List UInt8} {k:Nat} {m:M} (i:m.p=k) (e:S.drop k=T) (t:k≤S.length) (s:m.buf=[]) (r:m.st≠19) (d:bY T=true):lY S base (out S (decide (T=[])) (tail m T)) (some (fG m.u T)):=by
 obtain⟨a,l,q,f,h,m2,g⟩:=m;obtain rfl:q=[]:=s
 match T,e,d with
 |[],e,_=>
  show lY S base (out S (decide (([]:List UInt8)=[])) ⟨a,l,[],f,h,m2,g⟩) _;rw[show decide (([]:List UInt8)=[])=true from rfl,out_stop (by show _≤a;rw[show a=(k:Int)from i];exact drop_nil e)];show(if l=19 then none else _)=_;rw[if_neg r];rfl
 |c::T,e,d=>
  obtain⟨n,v⟩:=drop_cons e;rw[show decide ((c::T)=[])=false from rfl];show lY S base (out S false (if c=63 then _ else if c=35 then _ else _)) (some (if c=63 then _ else _));by_cases h63:c=63
  ·rw[if_pos h63,if_pos h63,nC (.inl rfl)];have:=Rj (S:=S) (base:=base) T (k+1) {p:=a+1,st:=17,buf:=[],u:={f with hq:=true,bQ:=[]},sign:=h,inn:=m2,pass:=g} (by show a+1=_;rw[show a=(k:Int)from i];rfl) n (by omega) rfl;exact this
  have j:c=35:=by
   simp only[bY,Bool.or_eq_true,decide_eq_true_eq]at d;exact d.resolve_left h63
  rw[if_neg h63,if_neg h63,if_pos j,nC (.inl rfl)];have:=Jv (S:=S) (base:=base) T (k+1) {p:=a+1,st:=18,buf:=[],u:={f with hf:=true,dY:=[]},sign:=h,inn:=m2,pass:=g} (by show a+1=_;rw[show a=(k:Int)from i];rfl) n (by omega) rfl;exact this
def Mid (P:List UInt8):Prop:=∀c ∈ P,c≠63∧c≠35
theorem Mid.tail {c:UInt8} {P:List UInt8} (h:Mid (c::P)):Mid P:=fun d hd=>h d (List.mem_cons_of_mem _ hd)
theorem Mid.head {c:UInt8} {P:List UInt8} (h:Mid (c::P)):c≠63∧c≠35:=h c List.mem_cons_self
theorem kP {c:UInt8} {P:List UInt8} (h:Mid (c::P)) (T:List UInt8):bY (c::P++T)=false:=by
 have:=h.head;simp[bY,this.1,this.2]
theorem J4 {T:List UInt8} (sp:Bool) (h:bY T=true):kR sp T=false:=by
 match T,h with
 |[],_=>rfl
 |c::T,h=>
  simp only[bY,Bool.or_eq_true,decide_eq_true_eq]at h;rcases h with rfl|rfl<;>cases sp<;>rfl
theorem Yb {c:UInt8} {P:List UInt8} (h:Mid (c::P)) (m:M) (T:List UInt8):jY.tail m (c::P++T)=m:=by
 have:=h.head;show(if c=63 then _ else if c=35 then _ else m)=m;rw[if_neg this.1,if_neg this.2]
theorem rZ (c:UInt8) (P T:List UInt8):decide (c::P++T=[])=false:=rfl
theorem tu:∀(P:List UInt8) (T:List UInt8) (k:Nat) (m:M),m.p=k→S.drop k=P++T→k≤S.length→m.st=15→Mid P→bY T=true→Run S base m (some (fG {m.u with aF:=wb (decide (m.u.au=aB)) (aj m.u.au) m.u.aF m.buf P} T))
 |[],T,k,m,hp,hR,hk,hs,hm,ht=>by
  rw[List.nil_append]at hR
  refine bG hp hk hR (by rw[hs];decide) ?_
  have e:aX base m T=jY.tail {m with u:={m.u with aF:=sH (decide (m.u.au=aB)) true m.u.aF m.buf},buf:=[]} T:=by
   rw[ZG hs];unfold iF;rw[if_neg (by rw[ht];simp),J4 _ ht];rfl
  rw[e];exact Aw (m:={m with u:={m.u with aF:=sH (decide (m.u.au=aB)) true m.u.aF m.buf},buf:=[]}) hp hR hk rfl (by show m.st≠19;rw[hs];decide) ht
 | c :: P, T, k, m, hp, hR, hk, hs, hm, ht => by
  obtain⟨f,g⟩:=drop_cons hR;refine bG hp hk hR (by rw[hs];decide) ?_;by_cases hc:bU (aj m.u.au) c=true
  ·have e:aX base m (c::P++T)={m with u:={m.u with aF:=sH (decide (m.u.au=aB)) false m.u.aF m.buf},buf:=[]}:=by
    rw[ZG hs];unfold iF;rw[if_neg (by rintro⟨_,h⟩;have h:bU (aj m.u.au) c=false:=h;rw[hc]at h;cases h),Yb hm];show M.mk _ _ _ _ _ _ _=_;rw[show kR (sp m) (c::P++T)=true from hc];rfl
   rw[e,rZ,nC (.inl rfl)];have:=tu P T (k+1) {p:=m.p+1,st:=m.st,buf:=[],u:={m.u with aF:=sH (decide (m.u.au=aB)) false m.u.aF m.buf},sign:=m.sign,inn:=m.inn,pass:=m.pass} (by show m.p+1=_;rw[hp];rfl) f (by omega) hs hm.tail ht;have d:wb (decide (m.u.au=aB)) (aj m.u.au) m.u.aF m.buf (c::P)=wb (decide (m.u.au=aB)) (aj m.u.au) (sH (decide (m.u.au=aB)) false m.u.aF m.buf) [] P:=by rw[wb,if_pos hc]
   rw[d];exact this
  ·have a:bU (aj m.u.au) c=false:=by cases h:bU (aj m.u.au) c with|true=>exact absurd h hc|false=>rfl
   have e:aX base m (c::P++T)={m with buf:=m.buf++[c]}:=by
    rw[ZG hs];unfold iF;rw[if_pos ⟨kP hm T,a⟩];rfl
   rw[e,rZ,nC (.inl rfl)];have:=tu P T (k+1) {m with p:=m.p+1,buf:=m.buf++[c]} (by show m.p+1=_;rw[hp];rfl) f (by omega) hs hm.tail ht;have d:wb (decide (m.u.au=aB)) (aj m.u.au) m.u.aF m.buf (c::P)=wb (decide (m.u.au=aB)) (aj m.u.au) m.u.aF (m.buf++[c]) P:=by rw[wb,if_neg hc]
   rw[d];exact this
def ZP (more:Bool):List UInt8→List UInt8
 |[]=>[]
 |c::P=>(if c=32∧P=[]∧more=true then[37,50,48]else aP.enc 0 [c])++ZP more P
theorem Q5:∀(P:List UInt8) (T:List UInt8) (k:Nat) (m:M),m.p=k→S.drop k=P++T→k≤S.length→m.st=16→m.buf=[]→Mid P→bY T=true→Run S base m (some (fG {m.u with txt:=m.u.txt++ZP (decide (T≠[])) P} T))
 |[],T,k,m,hp,hR,hk,hs,hb,hm,ht=>by
  rw[List.nil_append]at hR
  refine bG hp hk hR (by rw[hs];decide) ?_
  have e:aX base m T=jY.tail m T:=by
   rw[acE hs];unfold qJ;rw[if_pos ht]
  rw[e,ZP,List.append_nil];exact Aw hp hR hk hb (by rw[hs];decide) ht
 | c ::P,T,k,m,hp,hR,hk,hs,hb,hm,ht=>by
  obtain⟨f,a⟩:=drop_cons hR;refine bG hp hk hR (by rw[hs];decide) ?_;obtain⟨x,hx⟩:∃x,x=if c=32∧P=[]∧decide (T≠[])=true then[37,50,48]else aP.enc 0 [c]:=⟨_,rfl⟩
  have e:aX base m (c::P++T)={m with u:={m.u with txt:=m.u.txt++x}}:=by
   rw[acE hs];unfold qJ;rw[if_neg (by rw[kP hm T];decide)];have g:((c::P++T).drop 1).head?.elim false (fun c=>decide (c=63)||decide (c=35))=decide (P=[]∧T≠[]):=by
    show(P++T).head?.elim false _=_
    match P,hm with
    |[],_=>
     rw[List.nil_append]
     match T,ht with
     |[],_=>simp
     |t::T,ht=>simpa[bY]using ht
    |d::P,hm=>
     have:=hm.tail.head;simp[this.1,this.2]
   by_cases hq:c=32∧P=[]∧decide (T≠[])=true
   ·rw[if_pos hq]at hx;rw[hx];exact if_pos ⟨hq.1,by rw[g];simpa using(show P=[]∧T≠[]from⟨hq.2.1,by simpa using hq.2.2⟩)⟩
   ·rw[if_neg hq]at hx;rw[hx];refine if_neg ?_;rintro⟨f,a⟩;rw[g]at a;have a:P=[]∧T≠[]:=by simpa using a
    exact hq ⟨f,a.1,by simpa using a.2⟩
  rw[e,rZ,nC (.inl rfl)];have:=Q5 P T (k+1) {m with p:=m.p+1,u:={m.u with txt:=m.u.txt++x}} (by show m.p+1=_;rw[hp];rfl) f (by omega) hs hb hm.tail ht;rw[ZP,←hx,←List.append_assoc];exact this
end UY
namespace YE
open Go.RowKit Base ig fJ jq aC jY UY yU
variable {S:List UInt8} {base:Option U}
theorem fB {e:Bool} {k:Nat} {m:M} {o:Option U} (a:m.p=(k:Int) - 1) (c:k≤S.length) (r:Run S base {m with p:=k} o):lY S base (out S e m) o:=by
 rw[nC (.inr (by rw[a];omega))];show Run S base {m with p:=m.p+1} o;rw[a,show(k:Int) - 1+1=k by omega];exact r
theorem fM {k:Nat} {m:M} {o:Option U} (a:m.p=(k:Int)) (r:Run S base {m with p:=((k+1:Nat):Int)} o):lY S base (out S false m) o:=by
 rw[nC (.inl rfl)];show Run S base {m with p:=m.p+1} o;rw[a];exact r
theorem oD {P T:List UInt8} {k:Nat} {m:M} (g:m.p=k) (j:S.drop k=P++T) (i:k≤S.length) (q:m.st=14) (r:m.buf=[]) (l:m.u.aF=[]) (e:Mid P) (f:bY T=true):Run S base m (some (fG {m.u with aF:=aG m.u.au P} T)):=by
 refine bG g i j (by rw[q];decide) ?_;rw[afr q];unfold dX aG walk;have n:sp m=aj m.u.au:=rfl
 -- the path begins behind this byte
 have d:∀(c:UInt8) (Q:List UInt8),P=c::Q→lY S base (out S (decide (P++T=[])) (mv m 15 false)) (some (fG {m.u with aF:=wb (decide (m.u.au=aB)) (aj m.u.au) [] [] Q} T)):=by
  rintro c Q rfl;obtain⟨s,t⟩:=drop_cons j;rw[rZ];refine fM (k:=k) g ?_;have:=tu (base:=base) Q T (k+1) {mv m 15 false with p:=((k+1:Nat):Int)} rfl s (by omega) rfl e.tail f;rw[show({mv m 15 false with p:=((k+1:Nat):Int)}:M).u.aF=[]from l,show({mv m 15 false with p:=((k+1:Nat):Int)}:M).buf=[]from r]at this;exact this
 have a:lY S base (out S (decide (P++T=[])) (mv m 15 true)) (some (fG {m.u with aF:=wb (decide (m.u.au=aB)) (aj m.u.au) [] [] P} T)):=by
  refine fB (k:=k) (by show m.p - 1=_;rw[g]) i ?_;have:=tu (base:=base) P T k {mv m 15 true with p:=(k:Int)} rfl j i rfl e f;rw[show({mv m 15 true with p:=(k:Int)}:M).u.aF=[]from l,show({mv m 15 true with p:=(k:Int)}:M).buf=[]from r]at this;exact this
 rw[n];cases hq:aj m.u.au with
 |true=>
  rw[if_pos rfl,if_neg (by rintro⟨_,h⟩;cases h)];rw[hq]at d a
  match P,e with
  |[],_=>
   rw[show kR true ([]++T)=false from J4 true f];exact a
  |c::Q,_=>
   show lY S base (out S _ (mv m 15 (!bU true c))) _;show lY S base _ (some (fG {m.u with aF:=wb _ _ [] [] (if bU true c=true then Q else c::Q)} T));cases hc:bU true c with
   |true=>exact d c Q rfl
   |false=>exact a
 |false=>
  rw[hq]at d a;rw[if_neg (by decide)]
  match P,e with
  |[],_=>
   rw[List.nil_append,if_pos f,if_pos ⟨rfl,rfl⟩];have:=Aw (base:=base) g j i r (by rw[q];decide) f;rw[show({m.u with aF:=[]}:U)=m.u by rw[←l]];exact this
  |c::Q,e=>
   rw[if_neg (by rw[kP e T];decide),if_neg (by rintro⟨h,_⟩;cases h)];show lY S base (out S _ (mv m 15 (!bU false c))) _;show lY S base _ (some (fG {m.u with aF:=wb _ _ [] [] (if bU false c=true then Q else c::Q)} T));cases hc:bU false c with
   |true=>exact d c Q rfl
   |false=>exact a
theorem Y6 (c:UInt8) (h:jW c=true):c≠63∧c≠35∧∀sp,bU sp c=false:=
 eY (p:=fun c=>jW c=true→c≠63∧c≠35∧∀sp,bU sp c=false) (by decide+kernel) c h
theorem TW (L:List UInt8):iE L≤443:=by
 unfold iE;split
 ·omega
 split
 ·omega
 split<;>omega
def yj (u:U) (d P T:List UInt8):Option U:=(prt u.au (d++P.take (upto (aj u.au) P))).map fun z=>fG {u with port:=z,aF:=aG u.au (P.drop (upto (aj u.au) P))} T
theorem Xi:∀(P T:List UInt8) (k:Nat) (m:M),m.p=k→S.drop k=P++T→k≤S.length→m.st=10→m.buf.all jW=true→m.u.aF=[]→m.u.port= -1→Mid P→bY T=true→Run S base m (yj m.u m.buf P T):=by
 -- what ends the port
 have fin:∀(P T:List UInt8) (k:Nat) (m:M),m.p=k→S.drop k=P++T→k≤S.length→m.st=10→m.buf.all jW=true→m.u.aF=[]→m.u.port= -1→Mid P→bY T=true→(bY (P++T)=true∨kR (aj m.u.au) (P++T)=true)→upto (aj m.u.au) P=0→Run S base m (yj m.u m.buf P T):=by
  intro P T k m n t r l x w g q v s J;refine bG n r t (by rw[l];decide) ?_;rw[ZE l];unfold gW;have A:¬(bY (P++T)=false∧jW (cc (P++T))=true):=by
   rintro⟨j,i⟩;rcases s with h|h
   ·rw[h]at j;cases j
   match e:P++T,h,i with
   |c::L,h,i=>
    rw[show kR (aj m.u.au) (c::L)=bU (aj m.u.au) c from rfl,(Y6 c i).2.2]at h;cases h
  have y:¬(bY (P++T)=false∧kR (sp m) (P++T)=false):=by
   rintro⟨j,i⟩;rcases s with h|h
   ·rw[h]at j;cases j
   exact absurd (h.symm.trans i) (by decide)
  rw[if_neg A,if_neg y];unfold yj prt;rw[J,List.take_zero,List.append_nil,List.drop_zero];have C:∀z,(m.buf=[]→z= -1)→lY S base (out S (decide (P++T=[])) (mv {m with u:={m.u with port:=z},buf:=[]} 14 true)) (some (fG {m.u with port:=z,aF:=aG m.u.au P} T)):=by
   intro z _;refine fB (k:=k) (by show m.p - 1=_;rw[n]) r ?_;exact oD (base:=base) (m:={mv {m with u:={m.u with port:=z},buf:=[]} 14 true with p:=(k:Int)}) rfl t r rfl rfl w q v
  by_cases hb:m.buf=[]
  ·rw[if_pos hb,if_pos hb];have:=C (-1) (fun _=>rfl);have e:({m with u:={m.u with port:= -1},buf:=[]}:M)=m:=by
    obtain⟨a,b,c,u,d,e,f⟩:=m;obtain⟨Y,X,W,V,Q,D,O,u8,N,H,G,F,E⟩:=u;obtain rfl:c=[]:=hb;obtain rfl:D= -1:=g;rfl
   rw[e]at this;exact this
  rw[if_neg hb,if_neg hb,if_pos x];have I:=TW m.u.au;by_cases j:65535<jX m.buf
  ·rw[if_pos j,if_neg (by omega),if_neg (by omega)];exact lI S base _ _ rfl
  rw[if_neg j];by_cases i:(jX m.buf:Int)=iE m.u.au
  ·rw[if_pos i,if_pos i];exact C (-1) (fun h=>absurd h hb)
  rw[if_neg i,if_neg i,if_pos (by omega)];exact C _ (fun h=>absurd h hb)
 intro P;induction P with
 |nil=>
  intro T k m n t r l x w g q v;exact fin [] T k m n t r l x w g q v (.inl v) rfl
 | cons c P ih=>
  intro T k m n t r l x w g q v;obtain⟨j,i⟩:=drop_cons t;by_cases hc:bU (aj m.u.au) c=true
  ·exact fin (c::P) T k m n t r l x w g q v (.inr hc) (by rw[upto,if_pos hc])
  have B:bU (aj m.u.au) c=false:=by cases h:bU (aj m.u.au) c with|true=>exact absurd h hc|false=>rfl
  refine bG n r t (by rw[l];decide) ?_;rw[ZE l,rZ];unfold gW;by_cases hdg:jW c=true
  ·rw[if_pos ⟨kP q T,hdg⟩];refine fM (k:=k) n ?_;have:=ih T (k+1) {m with buf:=m.buf++[c],p:=((k+1:Nat):Int)} rfl j (by omega) l (by show(m.buf++[c]).all jW=true;simp[List.all_append,hdg];simpa using x) w g q.tail v;have e:yj m.u m.buf (c::P) T=yj m.u (m.buf++[c]) P T:=by
    unfold yj;rw[upto,if_neg hc,List.take_succ_cons,List.drop_succ_cons,List.append_assoc];rfl
   rw[e];exact this
  rw[if_neg (fun h=>hdg h.2),if_pos ⟨kP q T,B⟩];have e:yj m.u m.buf (c::P) T=none:=by
   unfold yj prt;rw[upto,if_neg hc,List.take_succ_cons,if_neg (by simp),if_neg (by simp[hdg])];rfl
  rw[e];exact lI S base _ _ rfl
def yg (u:U) (i:Bool) (b P T:List UInt8):Option U:=
 let n:=upto (aj u.au) P
 let h:=jZ i (P.take n)
 if h.2.2=true∧b++h.1=[]then none else
 match aS (b++h.1) (aj u.au),prt u.au h.2.1 with
 |some H,some z=>some (fG {u with hh:=true,aS:=H,port:=z,aF:=aG u.au (P.drop n)} T)
 |_,_=>none
theorem DR:aS [] true=none:=by decide+kernel
theorem Z8 (sch:List UInt8):aC.prt sch []=some (-1):=rfl
theorem VW:∀(P T:List UInt8) (k:Nat) (m:M),m.p=k→S.drop k=P++T→k≤S.length→m.st=9→m.u.aF=[]→m.u.port= -1→Mid P→bY T=true→Run S base m (yg m.u m.inn m.buf P T):=by
 have fin:∀(P T:List UInt8) (k:Nat) (m:M),m.p=k→S.drop k=P++T→k≤S.length→m.st=9→m.u.aF=[]→m.u.port= -1→Mid P→bY T=true→¬(bY (P++T)=false∧cc (P++T)=58∧m.inn=false)→(bY (P++T)=true∨kR (aj m.u.au) (P++T)=true)→upto (aj m.u.au) P=0→Run S base m (yg m.u m.inn m.buf P T):=by
  intro P T k m i n l g q d j f a t v;refine bG i l n (by rw[g];decide) ?_;rw[ms9 g];unfold kL;have r:bY (P++T)=true∨kR (sp m) (P++T)=true:=t;rw[if_neg a,if_pos r];unfold yg;simp only[v,List.take_zero,jZ,List.append_nil,List.drop_zero,Bool.false_eq_true,false_and,if_false,Z8];by_cases hb:sp m=true∧m.buf=[]
  ·rw[if_pos hb,hb.2,show aj m.u.au=true from hb.1,DR];exact lI S base _ _ rfl
  rw[if_neg hb];unfold met;rw[show sp m=aj m.u.au from rfl];cases hh:aS m.buf (aj m.u.au)with
  |none=>exact lI S base _ _ rfl
  |some H=>
   rw[Option.isSome_some,if_neg (by decide)];have e:meet m={m with u:={m.u with hh:=true,aS:=H},buf:=[]}:=by
    unfold meet;rw[show sp m=aj m.u.au from rfl,hh];rfl
   rw[e];refine fB (k:=k) (by show m.p - 1=_;rw[i]) l ?_;have:=oD (base:=base) (m:={mv {m with u:={m.u with hh:=true,aS:=H},buf:=[]} 14 true with p:=(k:Int)}) rfl n l rfl rfl q j f;have w:({m.u with hh:=true,aS:=H,port:= -1,aF:=aG m.u.au P}:U)={m.u with hh:=true,aS:=H,aF:=aG m.u.au P}:=by
    rw[←d]
   show Run S base _ (some (fG {m.u with hh:=true,aS:=H,port:= -1,aF:=aG m.u.au P} T));rw[w];exact this
 intro P;induction P with
 |nil=>
  intro T k m i n l g q d j f;exact fin [] T k m i n l g q d j f (by rintro⟨h,_⟩;rw[List.nil_append,f]at h;cases h) (.inl f) rfl
 | cons c P ih=>
  intro T k m i n l g q d j f;obtain⟨s,x⟩:=drop_cons n;by_cases hc:bU (aj m.u.au) c=true
  ·refine fin (c::P) T k m i n l g q d j f ?_ (.inr hc) (by rw[upto,if_pos hc]);rintro⟨_,h,_⟩;have h:c=58:=h;subst h;exact absurd hc (by cases aj m.u.au<;>decide)
  refine bG i l n (by rw[g];decide) ?_;rw[ms9 g,rZ];unfold kL;by_cases a:c=58∧m.inn=false
  ·obtain ⟨rfl,hi⟩:=a;rw[if_pos ⟨kP j T,rfl,hi⟩];unfold yg;simp only[upto,if_neg hc,List.take_succ_cons,jZ,hi,and_self,if_true,true_and,List.append_nil,List.drop_succ_cons];by_cases hb:m.buf=[]
   ·rw[if_pos hb,if_pos hb];exact lI S base _ _ rfl
   rw[if_neg hb,if_neg hb];unfold met;rw[show sp m=aj m.u.au from rfl];cases hh:aS m.buf (aj m.u.au)with
   |none=>exact lI S base _ _ rfl
   |some H=>
    rw[Option.isSome_some,if_neg (by decide)];have e:meet m={m with u:={m.u with hh:=true,aS:=H},buf:=[]}:=by
     unfold meet;rw[show sp m=aj m.u.au from rfl,hh];rfl
    rw[e];refine fM (k:=k) i ?_;have:Run S base {mv {m with u:={m.u with hh:=true,aS:=H},buf:=[]} 10 false with p:=((k+1:Nat):Int)} (yj {m.u with hh:=true,aS:=H} [] P T):=Xi (base:=base) P T (k+1) _ rfl s (by omega) rfl rfl q d j.tail f;unfold yj at this;rw[List.nil_append]at this;cases hq:prt ({m.u with hh:=true,aS:=H}:U).au (P.take (upto (aj ({m.u with hh:=true,aS:=H}:U).au) P))with
    |none=>
     rw[hq]at this;exact this
    |some z=>
     rw[hq]at this;exact this
  rw[if_neg (fun h=>a ⟨h.2.1,h.2.2⟩),if_neg (fun h:bY (c::P++T)=true∨kR (sp m) (c::P++T)=true=>h.elim (fun h=>by rw[kP j T]at h;cases h) (fun h=>hc h))];refine fM (k:=k) i ?_;have:=ih T (k+1) {m with inn:=(if c=93 then false else if c=91 then true else m.inn),buf:=m.buf++[c],p:=((k+1:Nat):Int)} rfl s (by omega) g q d j.tail f;have hi:(if c=91 then true else if c=93 then false else m.inn)=(if c=93 then false else if c=91 then true else m.inn):=by
   by_cases s:c=91
   ·subst s;rfl
   rw[if_neg s,if_neg s]
  have e:yg m.u m.inn m.buf (c::P) T=yg m.u (if c=93 then false else if c=91 then true else m.inn) (m.buf++[c]) P T:=by
   unfold yg;simp only[upto,if_neg hc,List.take_succ_cons,jZ,if_neg a,hi,List.append_assoc,List.drop_succ_cons];rfl
  rw[e];exact this
end YE
namespace abO
open Go.RowKit ig fJ jq aC jY UY YE
variable {S:List UInt8} {base:Option U}
def oJ:List UInt8→Bool×List UInt8×List UInt8→Bool×List UInt8×List UInt8
 |[],x=>x
 |c::L,x=>if c=58∧x.1=false then oJ L (true,x.2.1,x.2.2)else if x.1=true then oJ L (x.1,x.2.1,x.2.2++aP.enc 5 [c])else oJ L (x.1,x.2.1++aP.enc 5 [c],x.2.2)
theorem mY:∀(L:List UInt8) (m:M),gZ L m={m with pass:=(oJ L (m.pass,m.u.bT,m.u.bW)).1,u:={m.u with bT:=(oJ L (m.pass,m.u.bT,m.u.bW)).2.1,bW:=(oJ L (m.pass,m.u.bT,m.u.bW)).2.2}}
 |[],m=>rfl
 |c::L,m=>by
  unfold gZ oJ
  by_cases h1:c=58∧m.pass=false
  ·rw[if_pos h1,if_pos h1,mY L]
  ·rw[if_neg h1,if_neg h1]
   by_cases h2:m.pass=true
   ·rw[if_pos h2,if_pos h2,mY L]
   ·rw[if_neg h2,if_neg h2,mY L]
def gQ (t:List UInt8):Bool×List UInt8×List UInt8:=((aT 58 t).2.2,aP.enc 5 (aT 58 t).1,aP.enc 5 (aT 58 t).2.1)
theorem eP (k:Int) (a b:List UInt8):aP.enc k (a++b)=aP.enc k a++aP.enc k b:=by simp[aP.enc]
theorem gG (b:UInt8):∀t:List UInt8,(aT b t).2.2=false→(aT b t).1=t∧(aT b t).2.1=[]
 |[],_=>⟨rfl,rfl⟩
 |c::L,h=>by
  unfold aT at h⊢
  split at h
  ·cases h
  ·rename_i hc
   have:=gG b L h
   rw[if_neg hc]
   exact⟨by rw[this.1],this.2⟩
theorem Hu (b c:UInt8):∀t:List UInt8,aT b (t++[c])=if (aT b t).2.2=true then((aT b t).1,(aT b t).2.1++[c],true)else if c=b then(t,[],true)else(t++[c],[],false)
 |[]=>by
  simp[aT]
 | d :: L => by
  have a:=Hu b c L
  rw[List.cons_append,aT,aT]
  by_cases hd:d=b
  ·rw[if_pos hd,if_pos hd,if_pos rfl]
  ·rw[if_neg hd,if_neg hd,a]
   by_cases h:(aT b L).2.2=true
   ·simp only[if_pos h]
   ·simp only[if_neg h]
    split<;>rfl
theorem CS (t:List UInt8) (c:UInt8):gQ (t++[c])=if c=58∧(gQ t).1=false then(true,(gQ t).2.1,(gQ t).2.2)else if (gQ t).1=true then((gQ t).1,(gQ t).2.1,(gQ t).2.2++aP.enc 5 [c])else((gQ t).1,(gQ t).2.1++aP.enc 5 [c],(gQ t).2.2):=by
 unfold gQ;rw[Hu];cases h:(aT 58 t).2.2 with
 |true=>
  rw[if_pos rfl,if_neg (by rintro⟨_,h⟩;cases h),if_pos rfl,eP]
 |false=>
  obtain⟨d,a⟩:=gG 58 t h;rw[if_neg (by decide),d,a];by_cases hc:c=58
  ·rw[if_pos hc,if_pos ⟨hc,rfl⟩]
  rw[if_neg hc,if_neg (fun h=>hc h.1),if_neg (fun h=>by cases h),eP]
theorem EG:∀(L t:List UInt8),oJ L (gQ t)=gQ (t++L)
 |[],t=>by rw[List.append_nil];rfl
 |c::L,t=>by
  have a:=EG L (t++[c])
  rw[List.append_assoc,List.singleton_append]at a
  rw[←a,CS]
  conv=>lhs;rw[oJ]
  split
  ·rfl
  ·split<;>rfl
theorem Fz:aP.enc 5 [64]=[37,52,48]∧aP.enc 5 [37]=[37]∧aP.enc 5 [52]=[52]∧aP.enc 5 [48]=[48]:=by decide+kernel
theorem Vo (B t:List UInt8):oJ ([37,52,48]++B) (gQ t)=gQ (t++[64]++B):=by
 rw[←EG,CS,if_neg (by rintro⟨h,_⟩;cases h),Fz.1];show oJ (37::52::48::B) _=_;cases h:(gQ t).1 with
 |true=>
  rw[if_pos rfl];simp only[oJ,h,Fz.2.1,Fz.2.2.1,Fz.2.2.2];simp
 |false=>
  rw[if_neg (by decide)];simp only[oJ,h,Fz.2.1,Fz.2.2.1,Fz.2.2.2];simp
theorem rF (c:UInt8):∀L:List UInt8,fZ (L++[c])=if c=64 then some (L,[])else(fZ L).map fun p=>(p.1,p.2++[c])
 |[]=>by
  show fZ [c]=_
  unfold fZ fZ
  rfl
 | d :: L => by
  have a:=rF c L
  rw[List.cons_append,fZ,a,fZ]
  by_cases hc:c=64
  ·rw[if_pos hc,if_pos hc]
  ·rw[if_neg hc,if_neg hc]
   cases fZ L with
   |some p=>rfl
   |none=>
    show(if d=64 then some ([],L++[c])else none)=Option.map _ (if d=64 then some ([],L)else none)
    split<;>rfl
theorem BK:∀{L a b:List UInt8},fZ L=some (a,b)→L=a++64::b
 |[],a,b,h=>by cases h
 | d :: L, a, b, h => by
  unfold fZ at h
  cases e:fZ L with
  |some p=>
   rw[e]at h
   injection h with h
   injection h with h1 h2
   have:=BK (L:=L) (a:=p.1) (b:=p.2) (by rw[e])
   rw[←h1,←h2,this]
   rfl
  |none=>
   rw[e]at h
   have h:(if d=64 then some ([],L)else none)=some (a,b):=h
   split at h
   ·rename_i hd
    injection h with h
    injection h with h1 h2
    rw[←h1,←h2,hd]
    rfl
   ·cases h
theorem pq (sp:Bool):∀(a b:List UInt8),(∀c ∈ a,bU sp c=false)→upto sp (a++b)=a.length+upto sp b
 |[],b,_=>by simp
 |c::a,b,h=>by
  rw[List.cons_append,upto,if_neg (by rw[h c List.mem_cons_self];decide),pq sp a b (fun d hd=>h d (List.mem_cons_of_mem _ hd)),List.length_cons]
  omega
structure Au (au W t B:List UInt8) (m:M):Prop where
 u:m.u={U0 with au:=au,port:= -1,bT:=(gQ t).2.1,bW:=(gQ t).2.2}
 pass:m.pass=(gQ t).1
 buf:m.buf=B
 inn:m.inn=false
 yes:m.sign=true→fZ W=some (t,B)
 no:m.sign=false→fZ W=none∧W=B∧t=[]
 out:∀c ∈ W,bU (aj au) c=false
 mid:Mid W
theorem Au.sub {au W t B:List UInt8} {m:M} (h:Au au W t B m):∀c ∈ B,c ∈ W:=by
 intro c a;cases e:m.sign with
 |true=>rw[BK (h.yes e)];simp[a]
 |false=>rw[(h.no e).2.1];exact a
theorem Vg (au:List UInt8):∀(P T W t B:List UInt8) (k:Nat) (m:M),m.p=k→S.drop k=P++T→k≤S.length→m.st=8→B.length≤k→S.drop (k - B.length)=B++(P++T)→Au au W t B m→Mid P→bY T=true→Run S base m ((authority au (W++P)).map fun u=>fG u T):=by
 have fin:∀(P T W t B:List UInt8) (k:Nat) (m:M),m.p=k→S.drop k=P++T→k≤S.length→m.st=8→B.length≤k→S.drop (k - B.length)=B++(P++T)→Au au W t B m→Mid P→bY T=true→¬(bY (P++T)=false∧cc (P++T)=64)→(bY (P++T)=true∨kR (aj au) (P++T)=true)→upto (aj au) P=0→Run S base m ((authority au (W++P)).map fun u=>fG u T):=by
  intro P T W t B k m n x y i r A a j l f D I;have g:m.u.au=au:=by rw[a.u]
  refine bG n y x (by rw[i];decide) ?_;rw[ms8 i];unfold kK;have w:bY (P++T)=true∨kR (sp m) (P++T)=true:=by unfold sp;rw[g];exact D
  rw[if_neg f,if_pos w];have Z:(W++P).take (upto (aj au) (W++P))=W:=by rw[pq _ _ _ a.out,I,Nat.add_zero,List.take_left'];rfl
  have hD:(W++P).drop (upto (aj au) (W++P))=P:=by rw[pq _ _ _ a.out,I,Nat.add_zero,List.drop_left'];rfl
  have hC:iV W=((gQ t).2.1,(gQ t).2.2,B,m.sign):=by
   unfold iV;cases e:m.sign with
   |true=>rw[a.yes e];rfl
   |false=>
    obtain⟨G,X,h3⟩:=a.no e;rw[G,h3,X];rfl
  unfold authority;simp only[Z,hD,hC];rw[a.buf];by_cases hf:m.sign=true∧B=[]
  ·rw[if_pos hf,if_pos hf];exact lI S base _ _ rfl
  rw[if_neg hf,if_neg hf];have C:({m with p:=m.p - B.length - 1,buf:=[],st:=9}:M).p=((k - B.length:Nat):Int) - 1:=by
   show m.p - B.length - 1=_;rw[n];omega
  refine fB (k:=k - B.length) C (by omega) ?_;have N:Mid (B++P):=by
   intro c q;rcases List.mem_append.1 q with h|h
   ·exact a.mid c (a.sub c h)
   exact j c h
  have F:∀c ∈ B,bU (aj au) c=false:=fun c q=>a.out c (a.sub c q);have e1:(B++P).take (upto (aj au) (B++P))=B:=by rw[pq _ _ _ F,I,Nat.add_zero,List.take_left'];rfl
  have V:(B++P).drop (upto (aj au) (B++P))=P:=by rw[pq _ _ _ F,I,Nat.add_zero,List.drop_left'];rfl
  have this:Run S base {m with p:=((k - B.length:Nat):Int),buf:=[],st:=9} (yg m.u m.inn [] (B++P) T):=VW (base:=base) (B++P) T (k - B.length) _ rfl (by rw[A,List.append_assoc]) (by omega) rfl (by show m.u.aF=[];rw[a.u];rfl) (by show m.u.port= -1;rw[a.u]) N l;have J : yg m.u m.inn [] (B ++ P) T = Option.map (fun u => fG u T) (if (jZ false B).2.2 = true ∧ (jZ false B).1 = [] then none else match aS (jZ false B).1 (aj au), prt au (jZ false B).2.1 with
   |some H,some p=>some {U0 with au:=au,bT:=(gQ t).2.1,bW:=(gQ t).2.2,aS:=H,hh:=true,port:=p,aF:=aG au P}
   |_,_=>none):=by
   unfold yg;simp only[g,a.inn,e1,V,List.nil_append];by_cases hh:(jZ false B).2.2=true∧(jZ false B).1=[]
   ·rw[if_pos hh,if_pos hh];rfl
   ·rw [if_neg hh, if_neg hh];cases aS (jZ false B).1 (aj au)with
    |none=>rfl
    |some H=>
     cases prt au (jZ false B).2.1 with
     |none=>rfl
     |some z=>
      rw[a.u];rfl
  rw[J]at this;exact this
 intro P;induction P with
 |nil=>
  intro T W t B k m n x y i r A a j l;exact fin [] T W t B k m n x y i r A a j l (by rintro⟨h,_⟩;rw[List.nil_append,l]at h;cases h) (.inl l) rfl
 | cons c P ih=>
  intro T W t B k m n x y i r A a j l;obtain⟨G,X⟩:=drop_cons x;have g:m.u.au=au:=by rw[a.u]
  by_cases q:bU (aj au) c=true
  ·refine fin (c::P) T W t B k m n x y i r A a j l ?_ (.inr q) (by rw[upto,if_pos q]);rintro⟨_,h⟩;have h:c=64:=h;subst h;exact absurd q (by cases aj au<;>decide)
  have Q:bU (aj au) c=false:=by cases h:bU (aj au) c with|true=>exact absurd h q|false=>rfl
  refine bG n y x (by rw[i];decide) ?_;rw[ms8 i,rZ];unfold kK;have s:∀d ∈ W++[c],bU (aj au) d=false:=by
   intro d O;rcases List.mem_append.1 O with h|h
   ·exact a.out d h
   rw[List.mem_singleton.1 h];exact Q
  have v:Mid (W++[c]):=by
   intro d O;rcases List.mem_append.1 O with h|h
   ·exact a.mid d h
   rw[List.mem_singleton.1 h];exact j.head
  have Y:W++c::P=W++[c]++P:=by simp
  by_cases f:c=64
  ·rw [if_pos ⟨kP j T, f⟩];refine fM (k:=k) ?_ ?_
   ·rw[mY];exact n
   have E:oJ (if m.sign=true then[37,52,48]++m.buf else m.buf) (m.pass,m.u.bT,m.u.bW)=gQ W:=by
    have e0:(m.pass,m.u.bT,m.u.bW)=gQ t:=by rw[a.pass,a.u]
    rw[e0,a.buf];cases e:m.sign with
    |true=>
     rw[if_pos rfl,Vo];have:=BK (a.yes e);rw[this];simp
    |false=>
     obtain⟨_,V,e3⟩:=a.no e;rw[if_neg (by decide),EG,e3,V,List.nil_append]
   rw[Y];refine ih T (W++[c]) W [] (k+1) _ rfl G (by omega) ?_ (Nat.zero_le _) (by rw[List.length_nil,Nat.sub_zero];exact G) ⟨?_,?_,rfl,?_,?_,?_,s,v⟩ j.tail l
   ·show(gZ _ _).st=8;rw[mY];exact i
   ·show(gZ _ _).u=_;rw[mY];show({m.u with bT:=(oJ _ (m.pass,m.u.bT,m.u.bW)).2.1,bW:=(oJ _ (m.pass,m.u.bT,m.u.bW)).2.2}:U)=_;rw[E,a.u]
   ·show(gZ _ _).pass=_;rw[mY];show(oJ _ (m.pass,m.u.bT,m.u.bW)).1=_;rw[E]
   ·show(gZ _ _).inn=_;rw[mY];exact a.inn
   ·intro _;rw[rF,if_pos f]
   intro h;have h:(gZ _ _).sign=false:=h;rw[mY]at h;cases h
  have L:¬(bY (c::P++T)=true∨kR (sp m) (c::P++T)=true):=by
   rintro(h|h)
   ·rw[kP j T]at h;cases h
   unfold sp at h;rw[g]at h;exact q h
  rw[if_neg (fun h=>f h.2),if_neg L];refine fM (k:=k) n ?_;rw[Y];refine ih T (W++[c]) t (B++[c]) (k+1) _ rfl G (by omega) i (by simp;omega) ?_ ⟨a.u,a.pass,by show m.buf++[c]=_;rw[a.buf],a.inn,?_,?_,s,v⟩ j.tail l
  ·rw[List.length_append,List.length_singleton,show k+1 - (B.length+1)=k - B.length by omega,A];simp
  ·intro h;rw[rF,if_neg f,a.yes h];rfl
  intro h;obtain⟨g1,g2,g3⟩:=a.no h;exact⟨by rw[rF,if_neg f,g1];rfl,by rw[g2],g3⟩
theorem Bl {P T:List UInt8} {k:Nat} {m:M} (g:m.p=k) (c:S.drop k=P++T) (j:k≤S.length) (f:m.st=8) (d:m.u={U0 with au:=m.u.au,port:= -1}) (n:m.buf=[]) (hi:m.inn=false) (l:m.sign=false) (a:m.pass=false) (i:Mid P) (e:bY T=true):Run S base m ((authority m.u.au P).map fun u=>fG u T):=
 Vg m.u.au P T [] [] [] k m g c j f (Nat.zero_le _) (by rw[List.length_nil,Nat.sub_zero];exact c) {u:=d,pass:=a,buf:=n,inn:=hi,yes:=fun h=>(by rw[l]at h;cases h),no:=fun _=>⟨rfl,rfl,rfl⟩,out:=fun _ h=>(by cases h),mid:=fun _ h=>(by cases h)} i e
structure CJ (m:M):Prop where
 u:m.u={U0 with au:=m.u.au,port:= -1}
 buf:m.buf=[]
 inn:m.inn=false
 sign:m.sign=false
 pass:m.pass=false
theorem PN:∀(P T:List UInt8) (k:Nat) (m:M),m.p=k→S.drop k=P++T→k≤S.length→m.st=7→CJ m→aj m.u.au=true→Mid P→bY T=true→Run S base m ((authority m.u.au (P.dropWhile (bU true))).map fun u=>fG u T):=by
 have fin:∀(P T:List UInt8) (k:Nat) (m:M),m.p=k→S.drop k=P++T→k≤S.length→m.st=7→CJ m→aj m.u.au=true→Mid P→bY T=true→kR true (P++T)=false→P.dropWhile (bU true)=P→Run S base m ((authority m.u.au (P.dropWhile (bU true))).map fun u=>fG u T):=by
  intro P T k m f i g e d a l j n q;refine bG f g i (by rw[e];decide) ?_;rw[ms7 e];unfold Dy sp;rw[a,n,if_pos (.inl rfl),q];refine fB (k:=k) (by show m.p - 1=_;rw[f]) g ?_;exact Bl (base:=base) (m:={begin' m with p:=(k:Int)}) rfl i g rfl d.u rfl d.inn d.sign d.pass l j
 intro P;induction P with
 |nil=>
  intro T k m f i g e d a l j;exact fin [] T k m f i g e d a l j (J4 true j) rfl
 |cons c P ih=>
  intro T k m f i g e d a l j;obtain⟨r,s⟩:=drop_cons i;cases hc:bU true c with
  |false=>exact fin (c::P) T k m f i g e d a l j hc (by rw[List.dropWhile_cons,hc];rfl)
  |true=>
   refine bG f g i (by rw[e];decide) ?_;rw[ms7 e,rZ];unfold Dy sp;rw[a,if_neg (fun h:kR true (c::P++T)=false∨true=false=>h.elim (fun h=>by rw[show kR true (c::P++T)=bU true c from rfl,hc]at h;cases h) (fun h=>by cases h))];refine fM (k:=k) f ?_;rw[List.dropWhile_cons,hc,if_pos rfl];exact ih T (k+1) {m with p:=((k+1:Nat):Int)} rfl r (by omega) e ⟨d.u,d.buf,d.inn,d.sign,d.pass⟩ a l.tail j
end abO
