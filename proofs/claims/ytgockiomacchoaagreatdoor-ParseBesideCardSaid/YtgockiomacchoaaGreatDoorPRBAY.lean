/- Lemmas. -/
import Derived.Test.YtgockiomacchoaaGreatDoorPRBAX
set_option linter.unusedSimpArgs false
set_option linter.unusedVariables false
set_option maxRecDepth 100000
set_option maxHeartbeats 64000000
namespace Go.Proofs.YtgockiomacchoaaGreatDoor
open Tryz
namespace acw
open Go.RowKit Base bf rY aJ
theorem PW (c:UInt8):cu c=decide ((c.toNat:Int)≤32):=by unfold cu;rw[Bool.eq_iff_iff];simp only[decide_eq_true_eq];omega
theorem Uy {c:UInt8} {L:List UInt8} (h:cu c=true):(c::L).dropWhile cu=L.dropWhile cu:=by rw[List.dropWhile_cons,if_pos h]
theorem Zw {c:UInt8} {L:List UInt8} (h:cu c=false):(c::L).dropWhile cu=c::L:=by rw[List.dropWhile_cons,if_neg (by rw[h];decide)]
theorem YR {L:List UInt8} {n:Nat} (a:L.length=n+1):L=L.take n++[L[n]'(by omega)]:=by
 have:=List.take_succ_eq_append_getElem (l:=L) (i:=n) (by omega);rw[List.take_of_length_le (by omega)]at this;exact this
theorem aav {c:UInt8} {L:List UInt8} (h:cu c=true):((L++[c]).reverse.dropWhile cu).reverse=(L.reverse.dropWhile cu).reverse:=by
 rw[List.reverse_append];show((c::L.reverse).dropWhile cu).reverse=_;rw[Uy h]
theorem ac2 {c:UInt8} {L:List UInt8} (h:cu c=false):((L++[c]).reverse.dropWhile cu).reverse=L++[c]:=by
 rw[List.reverse_append];show((c::L.reverse).dropWhile cu).reverse=_;rw[Zw h];simp
theorem QM (c:UInt8):(!brk c)=(!(decide ((c.toNat:Int)=9))&&(!(decide ((c.toNat:Int)=10))&& !(decide ((c.toNat:Int)=13)))):=by
 have e:∀n:Nat,n<256→decide (c=UInt8.ofNat n)=decide ((c.toNat:Int)=(n:Int)):=fun n hn=>by
  rw[Bool.eq_iff_iff];simp only[decide_eq_true_eq];constructor
  ·rintro rfl;rw[show(UInt8.ofNat n).toNat=n from UInt8.toNat_ofNat_of_lt hn]
  intro h;exact UInt8.toNat_inj.1 ((Int.ofNat.inj h).trans (UInt8.toNat_ofNat_of_lt hn).symm)
 unfold brk;rw[show(decide (c=9):Bool)=decide ((c.toNat:Int)=9)from e 9 (by decide),show(decide (c=10):Bool)=decide ((c.toNat:Int)=10)from e 10 (by decide),show(decide (c=13):Bool)=decide ((c.toNat:Int)=13)from e 13 (by decide)];cases decide ((c.toNat:Int)=9)<;>cases decide ((c.toNat:Int)=10)<;>cases decide ((c.toNat:Int)=13)<;>rfl
theorem Jf (T:List UInt8) (w:World) (hs:T.length≤1000000):Calls prog 14 #[.string (ah T)] w fun e w'=>e=.returned (.string (ah (clean T)))∧Below w.heap.size w w':=by
 obtain⟨i0,hi,e6,e5,e4⟩:=info_parts qU;obtain⟨D,hD⟩:∃X,X=dec T:=⟨_,rfl⟩;obtain⟨E,hE⟩:∃X,X=uh.enc D:=⟨_,rfl⟩;have f3:D.length≤T.length:=by rw[hD];exact acL.pF T
 have d4:E.length≤4000000:=by rw[hE];have:=(uh.fK D).1;omega
 obtain⟨V,hV⟩:∃V,V=clean T:=⟨_,rfl⟩;have HV:Hid (V=(tX E).filter fun c=> !brk c):=by show _=_;rw[hV,hE,hD];rfl
 have h3:=hid d4;have h4:Hid (D.length≤1000000):=by show _≤_;omega
 have HD:=hid hD;have HE:=hid hE;have c4:(ah T).size=T.length:=ak T;obtain⟨Z,hZ⟩:∃Z,Z=ah T:=⟨_,rfl⟩;have HZ:=hid hZ;have c0:Z.size≤1000000:=by rw[hZ,c4];exact hs
 have f9:=hid c0;rw[←hV,←hZ];have e3:Hid (Z.size≤grownCap w Z.size 0 5):=grownCap_ge w Z.size 0 5;have f4:=fun(w:World) s=>run_bytes_of_string (P:=prog) w 9 50 5 s underlying9 underlying50 underlying5;clear hD hE f3 d4 hV c4 hZ c0 hs;go_enter func14,ntmps14;go_wp2_with fail
 clear f4;refine(acJ.qj _ Z.size _ Z.data.toList _ (jq Z _ w 5) (by have:=f9.out;omega) e3.out).mono ?_;rintro e w1 ⟨v1,rfl,H,d8⟩;rw[show dec Z.data.toList=D from by rw[HD.out,HZ.out];rfl]at H;obtain⟨A1,c1,rfl,e8,f2,c6⟩:=aS H;have h8:Hid (Below w.heap.size w w1):=bD (((Below.refl _ _).alloc (Nat.le_refl _) _).drew) d8;have g1:=hid c6;clear H d8 c6;go_wp2_with fail
 refine(acI.ig A1 D.length c1 D _ g1.out (by have:=h4.out;omega)).mono ?_;rintro e w2 ⟨v2,rfl,G,d7⟩;rw[←HE.out]at G;obtain⟨A2,c2,rfl,c7,d2,c5⟩:=aS G;have h7:=hid (bD h8.out d7);have g0:=hid c5;have g7:=hid c7;have h2:=hid d2;clear G d7 c5 e8 f2 c7 d2;go_wp2;go_loopw [3] (fun v wr=>∃(A:Option Addr) (n c:Nat) (X:List UInt8),v=.slice A n c∧n≤c∧Hid (c≤maxLen)∧n≤4000000∧Hid (dV wr A n (aQ X))∧Hid (Below w.heap.size w wr)∧Hid (X.dropWhile cu=E.dropWhile cu)) (fun v _=>match v with| .slice _ n _=>n|_=>0)
 case atStart=>exact⟨A2,E.length,c2,E,rfl,g7.out,h2,h3.out,g0,h7,rfl⟩
 case round=>
  obtain⟨A,n,c,X,rfl,i8,e2,e7,HR,b0,HW⟩:=hrel;have F:X.length=n:=by rw[←bM];exact HR.out.1
  by_cases hn0:0<n
  ·obtain ⟨b,q,rfl,hb,_⟩:=HR.out.spot hn0;obtain⟨y,Y,z⟩:∃y Y,X=y::Y:=by
    match X,F with
    |[],h=>exact absurd h (by simp;omega)
    |y::Y,_=>exact⟨y,Y,rfl⟩
   have f6:wr.cell? ⟨b,q,none⟩=some (.int .u8 (y.toNat:Int)):=by
    have h:=HR.out.byte 0 (by omega);rw[Nat.add_zero]at h;rw[h];subst z;rfl
   have b7:(0:Int)<(n:Int):=by omega
   cases hlow:cu y with
   |true=>
    have c3:(y.toNat:Int)≤32:=by rw[PW]at hlow;exact of_decide_eq_true hlow
    have a9:Hid (Y.dropWhile cu=E.dropWhile cu):=by show _=_;rw[←HW.out,z,Uy hlow]
    have j1:(c:Int)≤9223372036854775807:=by have:=e2.out;unfold maxLen at this;omega
    have i7:n≤9223372036854775807:=by omega
    by_cases hcap:c=1
    ·obtain rfl:c=1:=hcap;obtain rfl:n=1:=by omega
     have hY:Y=[]:=by rw[z]at F;exact List.eq_nil_of_length_eq_zero (by simpa using F)
     have a5:Hid (dV wr (some ⟨b,q,none⟩) 0 (aQ Y)):=by show dV _ _ _ _;rw[hY];exact dV.nil _
     clear F z hlow hY;go_wp2;go_roundw
     case rel=>exact⟨some ⟨b,q,none⟩,0,0,Y,rfl,Nat.le_refl _,Nat.zero_le _,by omega,a5,b0,a9⟩
     case measure=>exact Nat.zero_lt_one
    obtain⟨n',b8⟩:∃n',n'=n - 1:=⟨_,rfl⟩;obtain⟨c',d6⟩:∃c',c'=c - 1:=⟨_,rfl⟩;have a5:Hid (dV wr (some ⟨b,q+1,none⟩) n' (aQ Y)):=by
     show dV _ _ _ _;have h:=HR.out.cut 1 (by omega);rw[z,←b8]at h;exact h
    have j2:(1:Int)≤(c:Int):=by omega
    have i3:(1:Int)≤(n:Int):=by omega
    have i2:1≤n:=by omega
    have i5:1≤c:=by omega
    have i4:¬c - 1=0:=by omega
    have e1:Hid (c'≤maxLen):=by show _≤_;have:=e2.out;omega
    have g5:Hid (n'≤c'):=by show _≤_;omega
    have g4:Hid (n'<n):=by show _<_;omega
    have g8:Hid (n - 1=n'):=b8.symm;have h5:Hid (c - 1=c'):=d6.symm;have g6:=hid e7;clear F z hlow b8 d6;go_wp2;go_roundw
    case rel=>exact⟨some ⟨b,q+1,none⟩,n',c',Y,by rw[←g8.out,←h5.out],g5.out,e1,by have:=g4.out;have:=g6.out;omega,a5,b0,a9⟩
    case measure=>show n - 1<n;omega
   | false =>
    have c3:¬(y.toNat:Int)≤32:=by rw[PW]at hlow;exact of_decide_eq_false hlow
    have HX:Hid (X=E.dropWhile cu):=by show _=_;rw[←HW.out,z,Zw hlow]
    clear F z hlow;go_wp2;clear f6 c3 b7 hn0
    rename World=>wA
    go_loopw [3] (fun v wr=>∃(m:Nat) (Y:List UInt8),v=.slice (some ⟨b,q,none⟩) m c∧m≤n∧Hid (dV wr (some ⟨b,q,none⟩) m (aQ Y))∧Hid (Below w.heap.size w wr)∧Hid ((Y.reverse.dropWhile cu).reverse=tX E)) (fun v _=>match v with| .slice _ n _=>n|_=>0)
    case atStart=>exact⟨n,X,rfl,Nat.le_refl _,HR,b0,by show _=_;unfold tX;rw[←HX.out]⟩
    case round=>
     obtain⟨m,Y,rfl,a3,Q,a6,HW⟩:=hrel;have r:Y.length=m:=by rw[←bM];exact Q.out.1
     by_cases hm0:0<m
     ·obtain ⟨f,d3⟩:∃f,f=m - 1:=⟨_,rfl⟩;have b3:f<Y.length:=by omega
      obtain⟨d,hd⟩:∃d,Y[f]=d:=⟨_,rfl⟩;have a8:Y=Y.take f++[d]:=by rw[←hd];exact YR (by omega)
      have f5:wr.cell? ⟨b,q+f,none⟩=some (.int .u8 (d.toNat:Int)):=by
       have h:=Q.out.byte f (by omega);rw[hd]at h;exact h
      have d0:(0:Int)<(m:Int):=by omega
      have f0:(m:Int) - 1=(f:Int):=by omega
      have c8:(f:Int)<(m:Int):=by omega
      have c9:0≤(f:Int):=by omega
      have b9:(f:Int)≤(c:Int):=by omega
      have d1:f≤c:=by omega
      have f1:(f:Int)≤4000000:=by omega
      have g9:Hid (f<m):=by show _<_;omega
      have h0:Hid (f≤n):=by show _≤_;omega
      cases hlow:cu d with
      |true=>
       have d5:(d.toNat:Int)≤32:=by rw[PW]at hlow;exact of_decide_eq_true hlow
       have a9:Hid (((Y.take f).reverse.dropWhile cu).reverse=tX E):=by
        show _=_;rw[←HW.out];have e:=aav (c:=d) (L:=Y.take f) hlow;rw[←a8]at e;exact e.symm
       have a5:Hid (dV wr (some ⟨b,q,none⟩) f (aQ (Y.take f))):=by show dV _ _ _ _;rw[vX];exact Q.out.upto f (by omega)
       clear r hd a8 hlow d3 b3 a3;go_wp2;go_roundw
       case rel=>exact⟨f,Y.take f,by first|rfl|simp,h0.out,a5,a6,a9⟩
       case measure=>exact g9.out
      | false=>
       have d5:¬(d.toNat:Int)≤32:=by rw[PW]at hlow;exact of_decide_eq_false hlow
       have HY:Hid (Y=tX E):=by
        show _=_;rw[←HW.out];have e:=ac2 (c:=d) (L:=Y.take f) hlow;rw[←a8]at e;exact e.symm
       clear hd a8 hlow d3 b3;go_wp2;clear f5 f0 c8 c9 b9 d1 d5 f1
       rename World=>wB
       have h1:Hid (m≤4000000):=by show _≤_;omega
       have B:=hid r;have b5:(m:Int)≤4000000:=by omega
       clear r a3;go_loopw [4,5,40] (fun vo _ vk wr=>∃(i:Nat) (O:List UInt8),i≤m∧vk=.int .i64 (i:Int)∧Hid (O.length≤i)∧Hid (wr.ownsRow wB.heap.size 5 1 vo O.length (aQ O))∧Hid (Below wB.heap.size wB wr)∧Hid (O=(Y.take i).filter fun c=> !brk c)) (fun _ _ vk _=>m - (intOf vk).toNat)
       case atStart=>exact⟨0,[],Nat.zero_le _,rfl,Nat.le_refl _,World.ownsRow_nil _ _ _ _,Below.refl _ _,rfl⟩
       case round=>
        obtain⟨i,O,b6,rfl,J,HO,l,W⟩:=hrel;by_cases hlt:i<m
        ·obtain⟨d,N⟩:∃d,Y[i]'(by have:=B.out;omega)=d:=⟨_,rfl⟩;have j0:wr.cell? ⟨b,q+i,none⟩=some (.int .u8 (d.toNat:Int)):=by
          have h:=(Q.out.below l.out).byte i (by have:=B.out;omega);rw[N]at h;exact h
         have a0:Y.take (i+1)=Y.take i++[d]:=by rw[←N];exact List.take_succ_eq_append_getElem (by have:=B.out;omega)
         have i9:(i:Int)<(m:Int):=by omega
         have a:(Y.take (i+1)).filter (fun c=> !brk c)=O++if (!brk d)=true then[d]else[]:=by
          rw[a0,List.filter_append,←W.out];congr 1;cases h:brk d<;>simp[List.filter,h]
         have t:=QM d;have C:=hid hlt;have i6:=h1.out;by_cases h9:(d.toNat:Int)=9
         ·have e9:((d.toNat:Int) !=9)=false:=by simpa using h9
          have k:Hid (O=(Y.take (i+1)).filter fun c=> !brk c):=by show _=_;rw[a,t,h9];simp
          clear a0 a t N h9;go_wp2;go_roundw
          case rel=>exact⟨i+1,O,by have:=C.out;omega,by go_num,Nat.le_succ_of_le J.out,HO,l,k⟩
          case measure=>have:=C.out;simp[intOf];omega
         have e9:((d.toNat:Int) !=9)=true:=by simpa using h9
         by_cases h10:(d.toNat:Int)=10
         ·have f8:((d.toNat:Int) !=10)=false:=by simpa using h10
          have k:Hid (O=(Y.take (i+1)).filter fun c=> !brk c):=by show _=_;rw[a,t,h10];simp
          clear a0 a t N h9 h10;go_wp2;go_roundw
          case rel=>exact⟨i+1,O,by have:=C.out;omega,by go_num,Nat.le_succ_of_le J.out,HO,l,k⟩
          case measure=>have:=C.out;simp[intOf];omega
         have f8:((d.toNat:Int) !=10)=true:=by simpa using h10
         by_cases h13:(d.toNat:Int)=13
         ·have f7:((d.toNat:Int) !=13)=false:=by simpa using h13
          have k:Hid (O=(Y.take (i+1)).filter fun c=> !brk c):=by show _=_;rw[a,t,h13];simp
          clear a0 a t N h9 h10 h13;go_wp2;go_roundw
          case rel=>exact⟨i+1,O,by have:=C.out;omega,by go_num,Nat.le_succ_of_le J.out,HO,l,k⟩
          case measure=>have:=C.out;simp[intOf];omega
         have f7:((d.toNat:Int) !=13)=true:=by simpa using h13
         have k:Hid (O++[d]=(Y.take (i+1)).filter fun c=> !brk c):=by show _=_;rw[a,t,decide_eq_false h9,decide_eq_false h10,decide_eq_false h13];rfl
         obtain⟨oA,oc,I,_,_,_⟩:=aS HO.out;subst I;obtain⟨ol,a2⟩:∃x,O.length=x:=⟨_,rfl⟩;have g2:Hid (wr.ownsRow wB.heap.size 5 1 (.slice oA ol oc) ol (aQ O)):=by show World.ownsRow _ _ _ _ _ _ _;rw[←a2];exact HO.out
         have d9:=hid a2;have i1:ol≤4000000:=by rw[←a2];have:=J.out;omega
         rw[a2];clear a0 a t N h9 h10 h13 a2;go_wp2_with (at_builtin;refine bJ rfl _ _ 50 rfl wB.heap.size 5 i0 (.int .u8 0) 1 underlying50 hi e6 e5 e4 rfl _ ol _ rfl g2.out l.out l.out.size [.int .u8 (d.toNat:Int)] 1 rfl rfl (by intro u hu;simp at hu;subst hu;rfl) (by unfold maxLen;omega) (by omega) ?_)
         intro v6 w6 a1 a4;have g3:Hid (w6.ownsRow wB.heap.size 5 1 v6 (O++[d]).length (aQ (O++[d]))):=by
          show World.ownsRow _ _ _ _ _ _ _;rw[List.length_append,d9.out,eU];exact a1
         have h6:=hid a4;have e0:Hid ((O++[d]).length≤i+1):=by show _≤_;rw[List.length_append];have:=J.out;simp only[List.length_cons,List.length_nil];omega
         clear a1 a4;go_wp2;go_roundw
         case rel=>exact⟨i+1,O++[d],by have:=C.out;omega,by go_num,e0,g3,h6,k⟩
         case measure=>have:=C.out;simp[intOf];omega
        obtain rfl:i=m:=by omega
        have j:O=V:=by rw[HV.out,W.out,List.take_of_length_le (by rw[B.out];exact Nat.le_refl _),HY.out]
        obtain⟨oA,oc,I,_,_,g⟩:=aS HO.out;subst I;rw[j]at g;have hs:=bI (P:=prog) 50 9 5 underlying50 underlying5 underlying9 _ oc g;rw[j];have a7:Hid (Below w.heap.size w wr):=bD a6.out l.out;clear g j;go_wp2;go_ret;exact⟨rfl,a7.out⟩
     have d0:¬(0:Int)<(m:Int):=by omega
     have HY:Hid (Y=tX E):=by show _=_;rw[←HW.out,List.eq_nil_of_length_eq_zero (show Y.length=0 by omega)];rfl
     go_wp2
     rename World=>wB
     have B:=hid r;have b5:(m:Int)≤4000000:=by omega
     clear r a3;go_loopw [4,5,40] (fun vo _ vk wr=>∃(i:Nat) (O:List UInt8),i≤m∧vk=.int .i64 (i:Int)∧Hid (O.length≤i)∧Hid (wr.ownsRow wB.heap.size 5 1 vo O.length (aQ O))∧Hid (Below wB.heap.size wB wr)∧Hid (O=(Y.take i).filter fun c=> !brk c)) (fun _ _ vk _=>m - (intOf vk).toNat)
     case atStart=>exact⟨0,[],Nat.zero_le _,rfl,Nat.le_refl _,World.ownsRow_nil _ _ _ _,Below.refl _ _,rfl⟩
     case round=>
      obtain⟨i,O,b6,rfl,J,HO,l,W⟩:=hrel;by_cases hlt:i<m
      ·exact absurd hlt (by omega)
      obtain rfl:i=m:=by omega
      have j:O=V:=by rw[HV.out,W.out,List.take_of_length_le (by rw[B.out];exact Nat.le_refl _),HY.out]
      obtain⟨oA,oc,I,_,_,g⟩:=aS HO.out;subst I;rw[j]at g;have hs:=bI (P:=prog) 50 9 5 underlying50 underlying5 underlying9 _ oc g;rw[j];have a7:Hid (Below w.heap.size w wr):=bD a6.out l.out;clear g j;go_wp2;go_ret;exact⟨rfl,a7.out⟩
  have b7:¬(0:Int)<(n:Int):=by omega
  have HX:Hid (X=E.dropWhile cu):=by show _=_;rw[←HW.out,List.eq_nil_of_length_eq_zero (show X.length=0 by omega)];rfl
  clear F;go_wp2;clear b7
  rename World=>wA
  go_loopw [3] (fun v wr=>∃(m:Nat) (Y:List UInt8),v=.slice A m c∧m≤n∧Hid (dV wr A m (aQ Y))∧Hid (Below w.heap.size w wr)∧Hid ((Y.reverse.dropWhile cu).reverse=tX E)) (fun v _=>match v with| .slice _ n _=>n|_=>0)
  case atStart=>exact⟨n,X,rfl,Nat.le_refl _,HR,b0,by show _=_;unfold tX;rw[←HX.out]⟩
  case round=>
   obtain⟨m,Y,rfl,a3,Q,a6,HW⟩:=hrel;have r:Y.length=m:=by rw[←bM];exact Q.out.1
   by_cases hm0:0<m
   ·exact absurd hm0 (by omega)
   have d0:¬(0:Int)<(m:Int):=by omega
   have HY:Hid (Y=tX E):=by show _=_;rw[←HW.out,List.eq_nil_of_length_eq_zero (show Y.length=0 by omega)];rfl
   go_wp2
   rename World=>wB
   have B:=hid r;have b5:(m:Int)≤4000000:=by omega
   clear r a3;go_loopw [4,5,40] (fun vo _ vk wr=>∃(i:Nat) (O:List UInt8),i≤m∧vk=.int .i64 (i:Int)∧Hid (O.length≤i)∧Hid (wr.ownsRow wB.heap.size 5 1 vo O.length (aQ O))∧Hid (Below wB.heap.size wB wr)∧Hid (O=(Y.take i).filter fun c=> !brk c)) (fun _ _ vk _=>m - (intOf vk).toNat)
   case atStart=>exact⟨0,[],Nat.zero_le _,rfl,Nat.le_refl _,World.ownsRow_nil _ _ _ _,Below.refl _ _,rfl⟩
   case round=>
    obtain⟨i,O,b6,rfl,J,HO,l,W⟩:=hrel;by_cases hlt:i<m
    ·exact absurd hlt (by omega)
    obtain rfl:i=m:=by omega
    have j:O=V:=by rw[HV.out,W.out,List.take_of_length_le (by rw[B.out];exact Nat.le_refl _),HY.out]
    obtain⟨oA,oc,I,_,_,g⟩:=aS HO.out;subst I;rw[j]at g;have hs:=bI (P:=prog) 50 9 5 underlying50 underlying5 underlying9 _ oc g;rw[j];have a7:Hid (Below w.heap.size w wr):=bD a6.out l.out;clear g j;go_wp2;go_ret;exact⟨rfl,a7.out⟩
end acw
namespace Tt
open Go.RowKit jR iH gK aJ jW
theorem drop_cons {S R:List UInt8} {k:Nat} {c:UInt8} (h:S.drop k=c::R):S.drop (k+1)=R∧k<S.length:=by
 have a:k<S.length:=by
  refine Nat.lt_of_not_le fun hn=>?_;rw[List.drop_eq_nil_of_le hn]at h;cases h
 rw[List.drop_eq_getElem_cons a]at h;injection h with _ h
 exact⟨h,a⟩
theorem drop_nil {S:List UInt8} {k:Nat} (h:S.drop k=[]):(S.length:Int)≤k:=by
 rw[List.drop_eq_nil_iff]at h;omega
variable {S:List UInt8} {base:Option U}
theorem IQ:∀(R:List UInt8) (k:Nat) (m:M),m.p=k→S.drop k=R→k≤S.length→m.st=18→Run S base m (some {m.u with eY:=aG.enc 1 (m.buf++R)})
 |[],k,m,hp,hR,hk,hs=>by
  refine bC hp hk hR (by rw[hs];decide) ?_
  have e:aX base m []={m with u:={m.u with eY:=aG.enc 1 m.buf},buf:=[]}:=by
   rw[Yg hs];unfold wQ;rw[if_neg (fun h=>h rfl)]
  rw[e,show decide (([]:List UInt8)=[])=true from rfl,out_stop (by show _≤m.p;rw[hp];exact drop_nil hR),List.append_nil];show(if m.st=19 then none else _)=_;rw[if_neg (by rw[hs];decide)]
 |c::R,k,m,hp,hR,hk,hs=>by
  obtain⟨a,d⟩:=drop_cons hR;refine bC hp hk hR (by rw[hs];decide) ?_;have e:aX base m (c::R)={m with buf:=m.buf++[c]}:=by
   rw[Yg hs];unfold wQ;rw[if_pos (by simp)];rfl
  rw[e,show decide ((c::R)=[])=false from rfl,mP (.inl rfl)];have:=IQ R (k+1) {m with buf:=m.buf++[c],p:=m.p+1} (by show m.p+1=_;rw[hp];rfl) a (by omega) hs;rw[List.append_assoc]at this;exact this
def KF (u:U) (b R:List UInt8):U:=
 let v:U:={u with bT:=aG.enc (if aj u.au=true then 3 else 2) (b++(aW 35 R).1)}
 if (aW 35 R).2.2=true then {v with hf:=true,eY:=aG.enc 1 (aW 35 R).2.1}else v
theorem Qi:∀(R:List UInt8) (k:Nat) (m:M),m.p=k→S.drop k=R→k≤S.length→m.st=17→Run S base m (some (KF m.u m.buf R))
 |[],k,m,hp,hR,hk,hs=>by
  refine bC hp hk hR (by rw[hs];decide) ?_
  have e:aX base m []={m with u:={m.u with bT:=aG.enc (if sp m=true then 3 else 2) m.buf},buf:=[]}:=by
   rw[Yf hs];unfold oW;rw[if_neg (fun h=>h.1 rfl)];rfl
  rw[e,show decide (([]:List UInt8)=[])=true from rfl,out_stop (by show _≤m.p;rw[hp];exact drop_nil hR)];show(if m.st=19 then none else _)=_;rw[if_neg (by rw[hs];decide)];unfold KF aW;rw[List.append_nil];rfl
 | c :: R, k, m, hp, hR, hk, hs => by
  obtain⟨a,f⟩:=drop_cons hR;refine bC hp hk hR (by rw[hs];decide) ?_;by_cases hc:c=35
  ·subst hc;have e:aX base m (35::R)=mv {{m with u:={m.u with bT:=aG.enc (if sp m=true then 3 else 2) m.buf},buf:=[]}with u:={m.u with bT:=aG.enc (if sp m=true then 3 else 2) m.buf,hf:=true,eY:=[]}} 18 false:=by
    rw[Yf hs];unfold oW;rw[if_neg (fun h=>h.2 rfl)];rfl
   rw[e,show decide (((35:UInt8)::R)=[])=false from rfl,mP (.inl rfl)];have:=IQ (S:=S) (base:=base) R (k+1) {p:=m.p+1,st:=18,buf:=[],u:={m.u with bT:=aG.enc (if sp m=true then 3 else 2) m.buf,hf:=true,eY:=[]},sign:=m.sign,inn:=m.inn,pass:=m.pass} (by show m.p+1=_;rw[hp];rfl) a (by omega) rfl;unfold KF;rw[aW,if_pos rfl,if_pos rfl,List.append_nil];exact this
  ·have e:aX base m (c::R)={m with buf:=m.buf++[c]}:=by
    rw[Yf hs];unfold oW;rw[if_pos ⟨by simp,hc⟩];rfl
   rw[e,show decide ((c::R)=[])=false from rfl,mP (.inl rfl)];have:=Qi R (k+1) {m with buf:=m.buf++[c],p:=m.p+1} (by show m.p+1=_;rw[hp];rfl) a (by omega) hs;have d:KF m.u m.buf (c::R)=KF m.u (m.buf++[c]) R:=by
    unfold KF;rw[aW,if_neg hc,List.append_assoc];rfl
   rw[d];exact this
def fH (u:U):List UInt8→U
 |[]=>u
 |c::T=>if c=63 then KF {u with hq:=true,bT:=[]} [] T else {u with hf:=true,eY:=aG.enc 1 T}
theorem AB {T:List UInt8} {k:Nat} {m:M} (i:m.p=k) (e:S.drop k=T) (t:k≤S.length) (s:m.buf=[]) (r:m.st≠19) (d:bU T=true):lS S base (out S (decide (T=[])) (tail m T)) (some (fH m.u T)):=by
 obtain⟨a,l,q,f,h,m2,g⟩:=m;obtain rfl:q=[]:=s
 match T,e,d with
 |[],e,_=>
  show lS S base (out S (decide (([]:List UInt8)=[])) ⟨a,l,[],f,h,m2,g⟩) _;rw[show decide (([]:List UInt8)=[])=true from rfl,out_stop (by show _≤a;rw[show a=(k:Int)from i];exact drop_nil e)];show(if l=19 then none else _)=_;rw[if_neg r];rfl
 |c::T,e,d=>
  obtain⟨n,v⟩:=drop_cons e;rw[show decide ((c::T)=[])=false from rfl];show lS S base (out S false (if c=63 then _ else if c=35 then _ else _)) (some (if c=63 then _ else _));by_cases h63:c=63
  ·rw[if_pos h63,if_pos h63,mP (.inl rfl)];have:=Qi (S:=S) (base:=base) T (k+1) {p:=a+1,st:=17,buf:=[],u:={f with hq:=true,bT:=[]},sign:=h,inn:=m2,pass:=g} (by show a+1=_;rw[show a=(k:Int)from i];rfl) n (by omega) rfl;exact this
  have j:c=35:=by
   simp only[bU,Bool.or_eq_true,decide_eq_true_eq]at d;exact d.resolve_left h63
  rw[if_neg h63,if_neg h63,if_pos j,mP (.inl rfl)];have:=IQ (S:=S) (base:=base) T (k+1) {p:=a+1,st:=18,buf:=[],u:={f with hf:=true,eY:=[]},sign:=h,inn:=m2,pass:=g} (by show a+1=_;rw[show a=(k:Int)from i];rfl) n (by omega) rfl;exact this
def Mid (P:List UInt8):Prop:=∀c ∈ P,c≠63∧c≠35
theorem Mid.tail {c:UInt8} {P:List UInt8} (h:Mid (c::P)):Mid P:=fun d hd=>h d (List.mem_cons_of_mem _ hd)
theorem Mid.head {c:UInt8} {P:List UInt8} (h:Mid (c::P)):c≠63∧c≠35:=h c List.mem_cons_self
theorem kJ {c:UInt8} {P:List UInt8} (h:Mid (c::P)) (T:List UInt8):bU (c::P++T)=false:=by
 have:=h.head;simp[bU,this.1,this.2]
theorem Jp {T:List UInt8} (sp:Bool) (h:bU T=true):kL sp T=false:=by
 match T,h with
 |[],_=>rfl
 |c::T,h=>
  simp only[bU,Bool.or_eq_true,decide_eq_true_eq]at h;rcases h with rfl|rfl<;>cases sp<;>rfl
theorem WH {c:UInt8} {P:List UInt8} (h:Mid (c::P)) (m:M) (T:List UInt8):jW.tail m (c::P++T)=m:=by
 have:=h.head;show(if c=63 then _ else if c=35 then _ else m)=m;rw[if_neg this.1,if_neg this.2]
theorem rP (c:UInt8) (P T:List UInt8):decide (c::P++T=[])=false:=rfl
theorem sU:∀(P:List UInt8) (T:List UInt8) (k:Nat) (m:M),m.p=k→S.drop k=P++T→k≤S.length→m.st=15→Mid P→bU T=true→Run S base m (some (fH {m.u with aF:=wb (decide (m.u.au=ay)) (aj m.u.au) m.u.aF m.buf P} T))
 |[],T,k,m,hp,hR,hk,hs,hm,ht=>by
  rw[List.nil_append]at hR
  refine bC hp hk hR (by rw[hs];decide) ?_
  have e:aX base m T=jW.tail {m with u:={m.u with aF:=rW (decide (m.u.au=ay)) true m.u.aF m.buf},buf:=[]} T:=by
   rw[Ye hs];unfold iy;rw[if_neg (by rw[ht];simp),Jp _ ht];rfl
  rw[e];exact AB (m:={m with u:={m.u with aF:=rW (decide (m.u.au=ay)) true m.u.aF m.buf},buf:=[]}) hp hR hk rfl (by show m.st≠19;rw[hs];decide) ht
 | c :: P, T, k, m, hp, hR, hk, hs, hm, ht => by
  obtain⟨f,g⟩:=drop_cons hR;refine bC hp hk hR (by rw[hs];decide) ?_;by_cases hc:bW (aj m.u.au) c=true
  ·have e:aX base m (c::P++T)={m with u:={m.u with aF:=rW (decide (m.u.au=ay)) false m.u.aF m.buf},buf:=[]}:=by
    rw[Ye hs];unfold iy;rw[if_neg (by rintro⟨_,h⟩;have h:bW (aj m.u.au) c=false:=h;rw[hc]at h;cases h),WH hm];show M.mk _ _ _ _ _ _ _=_;rw[show kL (sp m) (c::P++T)=true from hc];rfl
   rw[e,rP,mP (.inl rfl)];have:=sU P T (k+1) {p:=m.p+1,st:=m.st,buf:=[],u:={m.u with aF:=rW (decide (m.u.au=ay)) false m.u.aF m.buf},sign:=m.sign,inn:=m.inn,pass:=m.pass} (by show m.p+1=_;rw[hp];rfl) f (by omega) hs hm.tail ht;have d:wb (decide (m.u.au=ay)) (aj m.u.au) m.u.aF m.buf (c::P)=wb (decide (m.u.au=ay)) (aj m.u.au) (rW (decide (m.u.au=ay)) false m.u.aF m.buf) [] P:=by rw[wb,if_pos hc]
   rw[d];exact this
  ·have a:bW (aj m.u.au) c=false:=by cases h:bW (aj m.u.au) c with|true=>exact absurd h hc|false=>rfl
   have e:aX base m (c::P++T)={m with buf:=m.buf++[c]}:=by
    rw[Ye hs];unfold iy;rw[if_pos ⟨kJ hm T,a⟩];rfl
   rw[e,rP,mP (.inl rfl)];have:=sU P T (k+1) {m with p:=m.p+1,buf:=m.buf++[c]} (by show m.p+1=_;rw[hp];rfl) f (by omega) hs hm.tail ht;have d:wb (decide (m.u.au=ay)) (aj m.u.au) m.u.aF m.buf (c::P)=wb (decide (m.u.au=ay)) (aj m.u.au) m.u.aF (m.buf++[c]) P:=by rw[wb,if_neg hc]
   rw[d];exact this
def Yn (more:Bool):List UInt8→List UInt8
 |[]=>[]
 |c::P=>(if c=32∧P=[]∧more=true then[37,50,48]else aG.enc 0 [c])++Yn more P
theorem Qb:∀(P:List UInt8) (T:List UInt8) (k:Nat) (m:M),m.p=k→S.drop k=P++T→k≤S.length→m.st=16→m.buf=[]→Mid P→bU T=true→Run S base m (some (fH {m.u with txt:=m.u.txt++Yn (decide (T≠[])) P} T))
 |[],T,k,m,hp,hR,hk,hs,hb,hm,ht=>by
  rw[List.nil_append]at hR
  refine bC hp hk hR (by rw[hs];decide) ?_
  have e:aX base m T=jW.tail m T:=by
   rw[aaL hs];unfold qE;rw[if_pos ht]
  rw[e,Yn,List.append_nil];exact AB hp hR hk hb (by rw[hs];decide) ht
 | c ::P,T,k,m,hp,hR,hk,hs,hb,hm,ht=>by
  obtain⟨f,a⟩:=drop_cons hR;refine bC hp hk hR (by rw[hs];decide) ?_;obtain⟨x,hx⟩:∃x,x=if c=32∧P=[]∧decide (T≠[])=true then[37,50,48]else aG.enc 0 [c]:=⟨_,rfl⟩
  have e:aX base m (c::P++T)={m with u:={m.u with txt:=m.u.txt++x}}:=by
   rw[aaL hs];unfold qE;rw[if_neg (by rw[kJ hm T];decide)];have g:((c::P++T).drop 1).head?.elim false (fun c=>decide (c=63)||decide (c=35))=decide (P=[]∧T≠[]):=by
    show(P++T).head?.elim false _=_
    match P,hm with
    |[],_=>
     rw[List.nil_append]
     match T,ht with
     |[],_=>simp
     |t::T,ht=>simpa[bU]using ht
    |d::P,hm=>
     have:=hm.tail.head;simp[this.1,this.2]
   by_cases hq:c=32∧P=[]∧decide (T≠[])=true
   ·rw[if_pos hq]at hx;rw[hx];exact if_pos ⟨hq.1,by rw[g];simpa using(show P=[]∧T≠[]from⟨hq.2.1,by simpa using hq.2.2⟩)⟩
   ·rw[if_neg hq]at hx;rw[hx];refine if_neg ?_;rintro⟨f,a⟩;rw[g]at a;have a:P=[]∧T≠[]:=by simpa using a
    exact hq ⟨f,a.1,by simpa using a.2⟩
  rw[e,rP,mP (.inl rfl)];have:=Qb P T (k+1) {m with p:=m.p+1,u:={m.u with txt:=m.u.txt++x}} (by show m.p+1=_;rw[hp];rfl) f (by omega) hs hb hm.tail ht;rw[Yn,←hx,←List.append_assoc];exact this
end Tt
namespace Xe
open Go.RowKit Base iH gK jw aJ jW Tt Dc
variable {S:List UInt8} {base:Option U}
theorem fD {e:Bool} {k:Nat} {m:M} {o:Option U} (a:m.p=(k:Int) - 1) (c:k≤S.length) (r:Run S base {m with p:=k} o):lS S base (out S e m) o:=by
 rw[mP (.inr (by rw[a];omega))];show Run S base {m with p:=m.p+1} o;rw[a,show(k:Int) - 1+1=k by omega];exact r
theorem fM {k:Nat} {m:M} {o:Option U} (a:m.p=(k:Int)) (r:Run S base {m with p:=((k+1:Nat):Int)} o):lS S base (out S false m) o:=by
 rw[mP (.inl rfl)];show Run S base {m with p:=m.p+1} o;rw[a];exact r
theorem nZ {P T:List UInt8} {k:Nat} {m:M} (g:m.p=k) (j:S.drop k=P++T) (i:k≤S.length) (q:m.st=14) (r:m.buf=[]) (l:m.u.aF=[]) (e:Mid P) (f:bU T=true):Run S base m (some (fH {m.u with aF:=aB m.u.au P} T)):=by
 refine bC g i j (by rw[q];decide) ?_;rw[adu q];unfold eF aB walk;have n:sp m=aj m.u.au:=rfl
 -- the path begins behind this byte
 have d:∀(c:UInt8) (Q:List UInt8),P=c::Q→lS S base (out S (decide (P++T=[])) (mv m 15 false)) (some (fH {m.u with aF:=wb (decide (m.u.au=ay)) (aj m.u.au) [] [] Q} T)):=by
  rintro c Q rfl;obtain⟨s,t⟩:=drop_cons j;rw[rP];refine fM (k:=k) g ?_;have:=sU (base:=base) Q T (k+1) {mv m 15 false with p:=((k+1:Nat):Int)} rfl s (by omega) rfl e.tail f;rw[show({mv m 15 false with p:=((k+1:Nat):Int)}:M).u.aF=[]from l,show({mv m 15 false with p:=((k+1:Nat):Int)}:M).buf=[]from r]at this;exact this
 have a:lS S base (out S (decide (P++T=[])) (mv m 15 true)) (some (fH {m.u with aF:=wb (decide (m.u.au=ay)) (aj m.u.au) [] [] P} T)):=by
  refine fD (k:=k) (by show m.p - 1=_;rw[g]) i ?_;have:=sU (base:=base) P T k {mv m 15 true with p:=(k:Int)} rfl j i rfl e f;rw[show({mv m 15 true with p:=(k:Int)}:M).u.aF=[]from l,show({mv m 15 true with p:=(k:Int)}:M).buf=[]from r]at this;exact this
 rw[n];cases hq:aj m.u.au with
 |true=>
  rw[if_pos rfl,if_neg (by rintro⟨_,h⟩;cases h)];rw[hq]at d a
  match P,e with
  |[],_=>
   rw[show kL true ([]++T)=false from Jp true f];exact a
  |c::Q,_=>
   show lS S base (out S _ (mv m 15 (!bW true c))) _;show lS S base _ (some (fH {m.u with aF:=wb _ _ [] [] (if bW true c=true then Q else c::Q)} T));cases hc:bW true c with
   |true=>exact d c Q rfl
   |false=>exact a
 |false=>
  rw[hq]at d a;rw[if_neg (by decide)]
  match P,e with
  |[],_=>
   rw[List.nil_append,if_pos f,if_pos ⟨rfl,rfl⟩];have:=AB (base:=base) g j i r (by rw[q];decide) f;rw[show({m.u with aF:=[]}:U)=m.u by rw[←l]];exact this
  |c::Q,e=>
   rw[if_neg (by rw[kJ e T];decide),if_neg (by rintro⟨h,_⟩;cases h)];show lS S base (out S _ (mv m 15 (!bW false c))) _;show lS S base _ (some (fH {m.u with aF:=wb _ _ [] [] (if bW false c=true then Q else c::Q)} T));cases hc:bW false c with
   |true=>exact d c Q rfl
   |false=>exact a
theorem XC (c:UInt8) (h:nU c=true):c≠63∧c≠35∧∀sp,bW sp c=false:=
 fJ (p:=fun c=>nU c=true→c≠63∧c≠35∧∀sp,bW sp c=false) (by decide+kernel) c h
theorem RP (L:List UInt8):jm L≤443:=by
 unfold jm;split
 ·omega
 split
 ·omega
 split<;>omega
def yB (u:U) (d P T:List UInt8):Option U:=(prt u.au (d++P.take (upto (aj u.au) P))).map fun z=>fH {u with port:=z,aF:=aB u.au (P.drop (upto (aj u.au) P))} T
theorem VJ:∀(P T:List UInt8) (k:Nat) (m:M),m.p=k→S.drop k=P++T→k≤S.length→m.st=10→m.buf.all nU=true→m.u.aF=[]→m.u.port= -1→Mid P→bU T=true→Run S base m (yB m.u m.buf P T):=by
 -- what ends the port
 have fin:∀(P T:List UInt8) (k:Nat) (m:M),m.p=k→S.drop k=P++T→k≤S.length→m.st=10→m.buf.all nU=true→m.u.aF=[]→m.u.port= -1→Mid P→bU T=true→(bU (P++T)=true∨kL (aj m.u.au) (P++T)=true)→upto (aj m.u.au) P=0→Run S base m (yB m.u m.buf P T):=by
  intro P T k m n t r l x w g q v s J;refine bC n r t (by rw[l];decide) ?_;rw[Yc l];unfold gW;have A:¬(bU (P++T)=false∧nU (cc (P++T))=true):=by
   rintro⟨j,i⟩;rcases s with h|h
   ·rw[h]at j;cases j
   match e:P++T,h,i with
   |c::L,h,i=>
    rw[show kL (aj m.u.au) (c::L)=bW (aj m.u.au) c from rfl,(XC c i).2.2]at h;cases h
  have y:¬(bU (P++T)=false∧kL (sp m) (P++T)=false):=by
   rintro⟨j,i⟩;rcases s with h|h
   ·rw[h]at j;cases j
   exact absurd (h.symm.trans i) (by decide)
  rw[if_neg A,if_neg y];unfold yB prt;rw[J,List.take_zero,List.append_nil,List.drop_zero];have C:∀z,(m.buf=[]→z= -1)→lS S base (out S (decide (P++T=[])) (mv {m with u:={m.u with port:=z},buf:=[]} 14 true)) (some (fH {m.u with port:=z,aF:=aB m.u.au P} T)):=by
   intro z _;refine fD (k:=k) (by show m.p - 1=_;rw[n]) r ?_;exact nZ (base:=base) (m:={mv {m with u:={m.u with port:=z},buf:=[]} 14 true with p:=(k:Int)}) rfl t r rfl rfl w q v
  by_cases hb:m.buf=[]
  ·rw[if_pos hb,if_pos hb];have:=C (-1) (fun _=>rfl);have e:({m with u:={m.u with port:= -1},buf:=[]}:M)=m:=by
    obtain⟨a,b,c,u,d,e,f⟩:=m;obtain⟨Y,X,W,V,Q,D,O,u8,N,H,G,F,E⟩:=u;obtain rfl:c=[]:=hb;obtain rfl:D= -1:=g;rfl
   rw[e]at this;exact this
  rw[if_neg hb,if_neg hb,if_pos x];have I:=RP m.u.au;by_cases j:65535<jS m.buf
  ·rw[if_pos j,if_neg (by omega),if_neg (by omega)];exact lF S base _ _ rfl
  rw[if_neg j];by_cases i:(jS m.buf:Int)=jm m.u.au
  ·rw[if_pos i,if_pos i];exact C (-1) (fun h=>absurd h hb)
  rw[if_neg i,if_neg i,if_pos (by omega)];exact C _ (fun h=>absurd h hb)
 intro P;induction P with
 |nil=>
  intro T k m n t r l x w g q v;exact fin [] T k m n t r l x w g q v (.inl v) rfl
 | cons c P ih=>
  intro T k m n t r l x w g q v;obtain⟨j,i⟩:=drop_cons t;by_cases hc:bW (aj m.u.au) c=true
  ·exact fin (c::P) T k m n t r l x w g q v (.inr hc) (by rw[upto,if_pos hc])
  have B:bW (aj m.u.au) c=false:=by cases h:bW (aj m.u.au) c with|true=>exact absurd h hc|false=>rfl
  refine bC n r t (by rw[l];decide) ?_;rw[Yc l,rP];unfold gW;by_cases hdg:nU c=true
  ·rw[if_pos ⟨kJ q T,hdg⟩];refine fM (k:=k) n ?_;have:=ih T (k+1) {m with buf:=m.buf++[c],p:=((k+1:Nat):Int)} rfl j (by omega) l (by show(m.buf++[c]).all nU=true;simp[List.all_append,hdg];simpa using x) w g q.tail v;have e:yB m.u m.buf (c::P) T=yB m.u (m.buf++[c]) P T:=by
    unfold yB;rw[upto,if_neg hc,List.take_succ_cons,List.drop_succ_cons,List.append_assoc];rfl
   rw[e];exact this
  rw[if_neg (fun h=>hdg h.2),if_pos ⟨kJ q T,B⟩];have e:yB m.u m.buf (c::P) T=none:=by
   unfold yB prt;rw[upto,if_neg hc,List.take_succ_cons,if_neg (by simp),if_neg (by simp[hdg])];rfl
  rw[e];exact lF S base _ _ rfl
def yx (u:U) (i:Bool) (b P T:List UInt8):Option U:=
 let n:=upto (aj u.au) P
 let h:=kT i (P.take n)
 if h.2.2=true∧b++h.1=[]then none else
 match aU (b++h.1) (aj u.au),prt u.au h.2.1 with
 |some H,some z=>some (fH {u with hh:=true,aU:=H,port:=z,aF:=aB u.au (P.drop n)} T)
 |_,_=>none
theorem Dw:aU [] true=none:=by decide+kernel
theorem Yy (sch:List UInt8):aJ.prt sch []=some (-1):=rfl
theorem UM:∀(P T:List UInt8) (k:Nat) (m:M),m.p=k→S.drop k=P++T→k≤S.length→m.st=9→m.u.aF=[]→m.u.port= -1→Mid P→bU T=true→Run S base m (yx m.u m.inn m.buf P T):=by
 have fin:∀(P T:List UInt8) (k:Nat) (m:M),m.p=k→S.drop k=P++T→k≤S.length→m.st=9→m.u.aF=[]→m.u.port= -1→Mid P→bU T=true→¬(bU (P++T)=false∧cc (P++T)=58∧m.inn=false)→(bU (P++T)=true∨kL (aj m.u.au) (P++T)=true)→upto (aj m.u.au) P=0→Run S base m (yx m.u m.inn m.buf P T):=by
  intro P T k m i n l g q d j f a t v;refine bC i l n (by rw[g];decide) ?_;rw[ms9 g];unfold kG;have r:bU (P++T)=true∨kL (sp m) (P++T)=true:=t;rw[if_neg a,if_pos r];unfold yx;simp only[v,List.take_zero,kT,List.append_nil,List.drop_zero,Bool.false_eq_true,false_and,if_false,Yy];by_cases hb:sp m=true∧m.buf=[]
  ·rw[if_pos hb,hb.2,show aj m.u.au=true from hb.1,Dw];exact lF S base _ _ rfl
  rw[if_neg hb];unfold met;rw[show sp m=aj m.u.au from rfl];cases hh:aU m.buf (aj m.u.au)with
  |none=>exact lF S base _ _ rfl
  |some H=>
   rw[Option.isSome_some,if_neg (by decide)];have e:meet m={m with u:={m.u with hh:=true,aU:=H},buf:=[]}:=by
    unfold meet;rw[show sp m=aj m.u.au from rfl,hh];rfl
   rw[e];refine fD (k:=k) (by show m.p - 1=_;rw[i]) l ?_;have:=nZ (base:=base) (m:={mv {m with u:={m.u with hh:=true,aU:=H},buf:=[]} 14 true with p:=(k:Int)}) rfl n l rfl rfl q j f;have w:({m.u with hh:=true,aU:=H,port:= -1,aF:=aB m.u.au P}:U)={m.u with hh:=true,aU:=H,aF:=aB m.u.au P}:=by
    rw[←d]
   show Run S base _ (some (fH {m.u with hh:=true,aU:=H,port:= -1,aF:=aB m.u.au P} T));rw[w];exact this
 intro P;induction P with
 |nil=>
  intro T k m i n l g q d j f;exact fin [] T k m i n l g q d j f (by rintro⟨h,_⟩;rw[List.nil_append,f]at h;cases h) (.inl f) rfl
 | cons c P ih=>
  intro T k m i n l g q d j f;obtain⟨s,x⟩:=drop_cons n;by_cases hc:bW (aj m.u.au) c=true
  ·refine fin (c::P) T k m i n l g q d j f ?_ (.inr hc) (by rw[upto,if_pos hc]);rintro⟨_,h,_⟩;have h:c=58:=h;subst h;exact absurd hc (by cases aj m.u.au<;>decide)
  refine bC i l n (by rw[g];decide) ?_;rw[ms9 g,rP];unfold kG;by_cases a:c=58∧m.inn=false
  ·obtain ⟨rfl,hi⟩:=a;rw[if_pos ⟨kJ j T,rfl,hi⟩];unfold yx;simp only[upto,if_neg hc,List.take_succ_cons,kT,hi,and_self,if_true,true_and,List.append_nil,List.drop_succ_cons];by_cases hb:m.buf=[]
   ·rw[if_pos hb,if_pos hb];exact lF S base _ _ rfl
   rw[if_neg hb,if_neg hb];unfold met;rw[show sp m=aj m.u.au from rfl];cases hh:aU m.buf (aj m.u.au)with
   |none=>exact lF S base _ _ rfl
   |some H=>
    rw[Option.isSome_some,if_neg (by decide)];have e:meet m={m with u:={m.u with hh:=true,aU:=H},buf:=[]}:=by
     unfold meet;rw[show sp m=aj m.u.au from rfl,hh];rfl
    rw[e];refine fM (k:=k) i ?_;have:Run S base {mv {m with u:={m.u with hh:=true,aU:=H},buf:=[]} 10 false with p:=((k+1:Nat):Int)} (yB {m.u with hh:=true,aU:=H} [] P T):=VJ (base:=base) P T (k+1) _ rfl s (by omega) rfl rfl q d j.tail f;unfold yB at this;rw[List.nil_append]at this;cases hq:prt ({m.u with hh:=true,aU:=H}:U).au (P.take (upto (aj ({m.u with hh:=true,aU:=H}:U).au) P))with
    |none=>
     rw[hq]at this;exact this
    |some z=>
     rw[hq]at this;exact this
  rw[if_neg (fun h=>a ⟨h.2.1,h.2.2⟩),if_neg (fun h:bU (c::P++T)=true∨kL (sp m) (c::P++T)=true=>h.elim (fun h=>by rw[kJ j T]at h;cases h) (fun h=>hc h))];refine fM (k:=k) i ?_;have:=ih T (k+1) {m with inn:=(if c=93 then false else if c=91 then true else m.inn),buf:=m.buf++[c],p:=((k+1:Nat):Int)} rfl s (by omega) g q d j.tail f;have hi:(if c=91 then true else if c=93 then false else m.inn)=(if c=93 then false else if c=91 then true else m.inn):=by
   by_cases s:c=91
   ·subst s;rfl
   rw[if_neg s,if_neg s]
  have e:yx m.u m.inn m.buf (c::P) T=yx m.u (if c=93 then false else if c=91 then true else m.inn) (m.buf++[c]) P T:=by
   unfold yx;simp only[upto,if_neg hc,List.take_succ_cons,kT,if_neg a,hi,List.append_assoc,List.drop_succ_cons];rfl
  rw[e];exact this
end Xe
namespace Z7
open Go.RowKit iH gK jw aJ jW Tt Xe
variable {S:List UInt8} {base:Option U}
def ou:List UInt8→Bool×List UInt8×List UInt8→Bool×List UInt8×List UInt8
 |[],x=>x
 |c::L,x=>if c=58∧x.1=false then ou L (true,x.2.1,x.2.2)else if x.1=true then ou L (x.1,x.2.1,x.2.2++aG.enc 5 [c])else ou L (x.1,x.2.1++aG.enc 5 [c],x.2.2)
theorem mF:∀(L:List UInt8) (m:M),gY L m={m with pass:=(ou L (m.pass,m.u.bY,m.u.bZ)).1,u:={m.u with bY:=(ou L (m.pass,m.u.bY,m.u.bZ)).2.1,bZ:=(ou L (m.pass,m.u.bY,m.u.bZ)).2.2}}
 |[],m=>rfl
 |c::L,m=>by
  unfold gY ou
  by_cases h1:c=58∧m.pass=false
  ·rw[if_pos h1,if_pos h1,mF L]
  ·rw[if_neg h1,if_neg h1]
   by_cases h2:m.pass=true
   ·rw[if_pos h2,if_pos h2,mF L]
   ·rw[if_neg h2,if_neg h2,mF L]
def gQ (t:List UInt8):Bool×List UInt8×List UInt8:=((aW 58 t).2.2,aG.enc 5 (aW 58 t).1,aG.enc 5 (aW 58 t).2.1)
theorem fA (k:Int) (a b:List UInt8):aG.enc k (a++b)=aG.enc k a++aG.enc k b:=by simp[aG.enc]
theorem jJ (b:UInt8):∀t:List UInt8,(aW b t).2.2=false→(aW b t).1=t∧(aW b t).2.1=[]
 |[],_=>⟨rfl,rfl⟩
 |c::L,h=>by
  unfold aW at h⊢
  split at h
  ·cases h
  ·rename_i hc
   have:=jJ b L h
   rw[if_neg hc]
   exact⟨by rw[this.1],this.2⟩
theorem Gz (b c:UInt8):∀t:List UInt8,aW b (t++[c])=if (aW b t).2.2=true then((aW b t).1,(aW b t).2.1++[c],true)else if c=b then(t,[],true)else(t++[c],[],false)
 |[]=>by
  simp[aW]
 | d :: L => by
  have a:=Gz b c L
  rw[List.cons_append,aW,aW]
  by_cases hd:d=b
  ·rw[if_pos hd,if_pos hd,if_pos rfl]
  ·rw[if_neg hd,if_neg hd,a]
   by_cases h:(aW b L).2.2=true
   ·simp only[if_pos h]
   ·simp only[if_neg h]
    split<;>rfl
theorem Ce (t:List UInt8) (c:UInt8):gQ (t++[c])=if c=58∧(gQ t).1=false then(true,(gQ t).2.1,(gQ t).2.2)else if (gQ t).1=true then((gQ t).1,(gQ t).2.1,(gQ t).2.2++aG.enc 5 [c])else((gQ t).1,(gQ t).2.1++aG.enc 5 [c],(gQ t).2.2):=by
 unfold gQ;rw[Gz];cases h:(aW 58 t).2.2 with
 |true=>
  rw[if_pos rfl,if_neg (by rintro⟨_,h⟩;cases h),if_pos rfl,fA]
 |false=>
  obtain⟨d,a⟩:=jJ 58 t h;rw[if_neg (by decide),d,a];by_cases hc:c=58
  ·rw[if_pos hc,if_pos ⟨hc,rfl⟩]
  rw[if_neg hc,if_neg (fun h=>hc h.1),if_neg (fun h=>by cases h),fA]
theorem Ef:∀(L t:List UInt8),ou L (gQ t)=gQ (t++L)
 |[],t=>by rw[List.append_nil];rfl
 |c::L,t=>by
  have a:=Ef L (t++[c])
  rw[List.append_assoc,List.singleton_append]at a
  rw[←a,Ce]
  conv=>lhs;rw[ou]
  split
  ·rfl
  ·split<;>rfl
theorem ET:aG.enc 5 [64]=[37,52,48]∧aG.enc 5 [37]=[37]∧aG.enc 5 [52]=[52]∧aG.enc 5 [48]=[48]:=by decide+kernel
theorem Ui (B t:List UInt8):ou ([37,52,48]++B) (gQ t)=gQ (t++[64]++B):=by
 rw[←Ef,Ce,if_neg (by rintro⟨h,_⟩;cases h),ET.1];show ou (37::52::48::B) _=_;cases h:(gQ t).1 with
 |true=>
  rw[if_pos rfl];simp only[ou,h,ET.2.1,ET.2.2.1,ET.2.2.2];simp
 |false=>
  rw[if_neg (by decide)];simp only[ou,h,ET.2.1,ET.2.2.1,ET.2.2.2];simp
theorem qW (c:UInt8):∀L:List UInt8,fP (L++[c])=if c=64 then some (L,[])else(fP L).map fun p=>(p.1,p.2++[c])
 |[]=>by
  show fP [c]=_
  unfold fP fP
  rfl
 | d :: L => by
  have a:=qW c L
  rw[List.cons_append,fP,a,fP]
  by_cases hc:c=64
  ·rw[if_pos hc,if_pos hc]
  ·rw[if_neg hc,if_neg hc]
   cases fP L with
   |some p=>rfl
   |none=>
    show(if d=64 then some ([],L++[c])else none)=Option.map _ (if d=64 then some ([],L)else none)
    split<;>rfl
theorem Bv:∀{L a b:List UInt8},fP L=some (a,b)→L=a++64::b
 |[],a,b,h=>by cases h
 | d :: L, a, b, h => by
  unfold fP at h
  cases e:fP L with
  |some p=>
   rw[e]at h
   injection h with h
   injection h with h1 h2
   have:=Bv (L:=L) (a:=p.1) (b:=p.2) (by rw[e])
   rw[←h1,←h2,this]
   rfl
  |none=>
   rw[e]at h
   have h:(if d=64 then some ([],L)else none)=some (a,b):=h
   split at h
   ·rename_i hd
    injection h with h
    injection h with h1 h2
    rw[←h1,←h2,hd]
    rfl
   ·cases h
theorem oO (sp:Bool):∀(a b:List UInt8),(∀c ∈ a,bW sp c=false)→upto sp (a++b)=a.length+upto sp b
 |[],b,_=>by simp
 |c::a,b,h=>by
  rw[List.cons_append,upto,if_neg (by rw[h c List.mem_cons_self];decide),oO sp a b (fun d hd=>h d (List.mem_cons_of_mem _ hd)),List.length_cons]
  omega
structure Au (au W t B:List UInt8) (m:M):Prop where
 u:m.u={U0 with au:=au,port:= -1,bY:=(gQ t).2.1,bZ:=(gQ t).2.2}
 pass:m.pass=(gQ t).1
 buf:m.buf=B
 inn:m.inn=false
 yes:m.sign=true→fP W=some (t,B)
 no:m.sign=false→fP W=none∧W=B∧t=[]
 out:∀c ∈ W,bW (aj au) c=false
 mid:Mid W
theorem Au.sub {au W t B:List UInt8} {m:M} (h:Au au W t B m):∀c ∈ B,c ∈ W:=by
 intro c a;cases e:m.sign with
 |true=>rw[Bv (h.yes e)];simp[a]
 |false=>rw[(h.no e).2.1];exact a
theorem TY (au:List UInt8):∀(P T W t B:List UInt8) (k:Nat) (m:M),m.p=k→S.drop k=P++T→k≤S.length→m.st=8→B.length≤k→S.drop (k - B.length)=B++(P++T)→Au au W t B m→Mid P→bU T=true→Run S base m ((authority au (W++P)).map fun u=>fH u T):=by
 have fin:∀(P T W t B:List UInt8) (k:Nat) (m:M),m.p=k→S.drop k=P++T→k≤S.length→m.st=8→B.length≤k→S.drop (k - B.length)=B++(P++T)→Au au W t B m→Mid P→bU T=true→¬(bU (P++T)=false∧cc (P++T)=64)→(bU (P++T)=true∨kL (aj au) (P++T)=true)→upto (aj au) P=0→Run S base m ((authority au (W++P)).map fun u=>fH u T):=by
  intro P T W t B k m n x y i r A a j l f D I;have g:m.u.au=au:=by rw[a.u]
  refine bC n y x (by rw[i];decide) ?_;rw[ms8 i];unfold kF;have w:bU (P++T)=true∨kL (sp m) (P++T)=true:=by unfold sp;rw[g];exact D
  rw[if_neg f,if_pos w];have Z:(W++P).take (upto (aj au) (W++P))=W:=by rw[oO _ _ _ a.out,I,Nat.add_zero,List.take_left'];rfl
  have hD:(W++P).drop (upto (aj au) (W++P))=P:=by rw[oO _ _ _ a.out,I,Nat.add_zero,List.drop_left'];rfl
  have hC:iR W=((gQ t).2.1,(gQ t).2.2,B,m.sign):=by
   unfold iR;cases e:m.sign with
   |true=>rw[a.yes e];rfl
   |false=>
    obtain⟨G,X,h3⟩:=a.no e;rw[G,h3,X];rfl
  unfold authority;simp only[Z,hD,hC];rw[a.buf];by_cases hf:m.sign=true∧B=[]
  ·rw[if_pos hf,if_pos hf];exact lF S base _ _ rfl
  rw[if_neg hf,if_neg hf];have C:({m with p:=m.p - B.length - 1,buf:=[],st:=9}:M).p=((k - B.length:Nat):Int) - 1:=by
   show m.p - B.length - 1=_;rw[n];omega
  refine fD (k:=k - B.length) C (by omega) ?_;have N:Mid (B++P):=by
   intro c q;rcases List.mem_append.1 q with h|h
   ·exact a.mid c (a.sub c h)
   exact j c h
  have F:∀c ∈ B,bW (aj au) c=false:=fun c q=>a.out c (a.sub c q);have e1:(B++P).take (upto (aj au) (B++P))=B:=by rw[oO _ _ _ F,I,Nat.add_zero,List.take_left'];rfl
  have V:(B++P).drop (upto (aj au) (B++P))=P:=by rw[oO _ _ _ F,I,Nat.add_zero,List.drop_left'];rfl
  have this:Run S base {m with p:=((k - B.length:Nat):Int),buf:=[],st:=9} (yx m.u m.inn [] (B++P) T):=UM (base:=base) (B++P) T (k - B.length) _ rfl (by rw[A,List.append_assoc]) (by omega) rfl (by show m.u.aF=[];rw[a.u];rfl) (by show m.u.port= -1;rw[a.u]) N l;have J : yx m.u m.inn [] (B ++ P) T = Option.map (fun u => fH u T) (if (kT false B).2.2 = true ∧ (kT false B).1 = [] then none else match aU (kT false B).1 (aj au), prt au (kT false B).2.1 with
   |some H,some p=>some {U0 with au:=au,bY:=(gQ t).2.1,bZ:=(gQ t).2.2,aU:=H,hh:=true,port:=p,aF:=aB au P}
   |_,_=>none):=by
   unfold yx;simp only[g,a.inn,e1,V,List.nil_append];by_cases hh:(kT false B).2.2=true∧(kT false B).1=[]
   ·rw[if_pos hh,if_pos hh];rfl
   ·rw [if_neg hh, if_neg hh];cases aU (kT false B).1 (aj au)with
    |none=>rfl
    |some H=>
     cases prt au (kT false B).2.1 with
     |none=>rfl
     |some z=>
      rw[a.u];rfl
  rw[J]at this;exact this
 intro P;induction P with
 |nil=>
  intro T W t B k m n x y i r A a j l;exact fin [] T W t B k m n x y i r A a j l (by rintro⟨h,_⟩;rw[List.nil_append,l]at h;cases h) (.inl l) rfl
 | cons c P ih=>
  intro T W t B k m n x y i r A a j l;obtain⟨G,X⟩:=drop_cons x;have g:m.u.au=au:=by rw[a.u]
  by_cases q:bW (aj au) c=true
  ·refine fin (c::P) T W t B k m n x y i r A a j l ?_ (.inr q) (by rw[upto,if_pos q]);rintro⟨_,h⟩;have h:c=64:=h;subst h;exact absurd q (by cases aj au<;>decide)
  have Q:bW (aj au) c=false:=by cases h:bW (aj au) c with|true=>exact absurd h q|false=>rfl
  refine bC n y x (by rw[i];decide) ?_;rw[ms8 i,rP];unfold kF;have s:∀d ∈ W++[c],bW (aj au) d=false:=by
   intro d O;rcases List.mem_append.1 O with h|h
   ·exact a.out d h
   rw[List.mem_singleton.1 h];exact Q
  have v:Mid (W++[c]):=by
   intro d O;rcases List.mem_append.1 O with h|h
   ·exact a.mid d h
   rw[List.mem_singleton.1 h];exact j.head
  have Y:W++c::P=W++[c]++P:=by simp
  by_cases f:c=64
  ·rw [if_pos ⟨kJ j T, f⟩];refine fM (k:=k) ?_ ?_
   ·rw[mF];exact n
   have E:ou (if m.sign=true then[37,52,48]++m.buf else m.buf) (m.pass,m.u.bY,m.u.bZ)=gQ W:=by
    have e0:(m.pass,m.u.bY,m.u.bZ)=gQ t:=by rw[a.pass,a.u]
    rw[e0,a.buf];cases e:m.sign with
    |true=>
     rw[if_pos rfl,Ui];have:=Bv (a.yes e);rw[this];simp
    |false=>
     obtain⟨_,V,e3⟩:=a.no e;rw[if_neg (by decide),Ef,e3,V,List.nil_append]
   rw[Y];refine ih T (W++[c]) W [] (k+1) _ rfl G (by omega) ?_ (Nat.zero_le _) (by rw[List.length_nil,Nat.sub_zero];exact G) ⟨?_,?_,rfl,?_,?_,?_,s,v⟩ j.tail l
   ·show(gY _ _).st=8;rw[mF];exact i
   ·show(gY _ _).u=_;rw[mF];show({m.u with bY:=(ou _ (m.pass,m.u.bY,m.u.bZ)).2.1,bZ:=(ou _ (m.pass,m.u.bY,m.u.bZ)).2.2}:U)=_;rw[E,a.u]
   ·show(gY _ _).pass=_;rw[mF];show(ou _ (m.pass,m.u.bY,m.u.bZ)).1=_;rw[E]
   ·show(gY _ _).inn=_;rw[mF];exact a.inn
   ·intro _;rw[qW,if_pos f]
   intro h;have h:(gY _ _).sign=false:=h;rw[mF]at h;cases h
  have L:¬(bU (c::P++T)=true∨kL (sp m) (c::P++T)=true):=by
   rintro(h|h)
   ·rw[kJ j T]at h;cases h
   unfold sp at h;rw[g]at h;exact q h
  rw[if_neg (fun h=>f h.2),if_neg L];refine fM (k:=k) n ?_;rw[Y];refine ih T (W++[c]) t (B++[c]) (k+1) _ rfl G (by omega) i (by simp;omega) ?_ ⟨a.u,a.pass,by show m.buf++[c]=_;rw[a.buf],a.inn,?_,?_,s,v⟩ j.tail l
  ·rw[List.length_append,List.length_singleton,show k+1 - (B.length+1)=k - B.length by omega,A];simp
  ·intro h;rw[qW,if_neg f,a.yes h];rfl
  intro h;obtain⟨g1,g2,g3⟩:=a.no h;exact⟨by rw[qW,if_neg f,g1];rfl,by rw[g2],g3⟩
theorem Bf {P T:List UInt8} {k:Nat} {m:M} (g:m.p=k) (c:S.drop k=P++T) (j:k≤S.length) (f:m.st=8) (d:m.u={U0 with au:=m.u.au,port:= -1}) (n:m.buf=[]) (hi:m.inn=false) (l:m.sign=false) (a:m.pass=false) (i:Mid P) (e:bU T=true):Run S base m ((authority m.u.au P).map fun u=>fH u T):=
 TY m.u.au P T [] [] [] k m g c j f (Nat.zero_le _) (by rw[List.length_nil,Nat.sub_zero];exact c) {u:=d,pass:=a,buf:=n,inn:=hi,yes:=fun h=>(by rw[l]at h;cases h),no:=fun _=>⟨rfl,rfl,rfl⟩,out:=fun _ h=>(by cases h),mid:=fun _ h=>(by cases h)} i e
structure BZ (m:M):Prop where
 u:m.u={U0 with au:=m.u.au,port:= -1}
 buf:m.buf=[]
 inn:m.inn=false
 sign:m.sign=false
 pass:m.pass=false
theorem OB:∀(P T:List UInt8) (k:Nat) (m:M),m.p=k→S.drop k=P++T→k≤S.length→m.st=7→BZ m→aj m.u.au=true→Mid P→bU T=true→Run S base m ((authority m.u.au (P.dropWhile (bW true))).map fun u=>fH u T):=by
 have fin:∀(P T:List UInt8) (k:Nat) (m:M),m.p=k→S.drop k=P++T→k≤S.length→m.st=7→BZ m→aj m.u.au=true→Mid P→bU T=true→kL true (P++T)=false→P.dropWhile (bW true)=P→Run S base m ((authority m.u.au (P.dropWhile (bW true))).map fun u=>fH u T):=by
  intro P T k m f i g e d a l j n q;refine bC f g i (by rw[e];decide) ?_;rw[ms7 e];unfold Dn sp;rw[a,n,if_pos (.inl rfl),q];refine fD (k:=k) (by show m.p - 1=_;rw[f]) g ?_;exact Bf (base:=base) (m:={begin' m with p:=(k:Int)}) rfl i g rfl d.u rfl d.inn d.sign d.pass l j
 intro P;induction P with
 |nil=>
  intro T k m f i g e d a l j;exact fin [] T k m f i g e d a l j (Jp true j) rfl
 |cons c P ih=>
  intro T k m f i g e d a l j;obtain⟨r,s⟩:=drop_cons i;cases hc:bW true c with
  |false=>exact fin (c::P) T k m f i g e d a l j hc (by rw[List.dropWhile_cons,hc];rfl)
  |true=>
   refine bC f g i (by rw[e];decide) ?_;rw[ms7 e,rP];unfold Dn sp;rw[a,if_neg (fun h:kL true (c::P++T)=false∨true=false=>h.elim (fun h=>by rw[show kL true (c::P++T)=bW true c from rfl,hc]at h;cases h) (fun h=>by cases h))];refine fM (k:=k) f ?_;rw[List.dropWhile_cons,hc,if_pos rfl];exact ih T (k+1) {m with p:=((k+1:Nat):Int)} rfl r (by omega) e ⟨d.u,d.buf,d.inn,d.sign,d.pass⟩ a l.tail j
end Z7
