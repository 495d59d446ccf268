/- Lemmas. -/
import Derived.Test.YtaeohdlnidnofaaGreatDoorPRAAG
import Derived.Sort.Grow
import Derived.Deep.QuietTactic
set_option linter.unusedSimpArgs false
set_option linter.unusedVariables false
set_option maxRecDepth 100000
set_option maxHeartbeats 64000000
namespace Go.Proofs.YtaeohdlnidnofaaGreatDoor
open Tryz
namespace Xy
open Go.RowKit Base bC lS Xx NC ND vP
theorem abW:mk 0=4294967296∧mk 1=16777216∧mk 2=65536∧mk 3=256:=⟨rfl,rfl,rfl,rfl⟩
theorem AA (s:ByteArray) (w:World) (hs:s.size≤900000):Calls prog 225 #[.string s] w fun e w'=>e=.returned (pI (Dz s.data.toList))∧Below w.heap.size w w':=by
 have a8:s.data.toList.length=s.size:=Array.length_toList;obtain⟨S,hS⟩:∃S,S=Dz s.data.toList:=⟨_,rfl⟩;obtain⟨R,hR⟩:∃R,R=prt (cO s.data.toList):=⟨_,rfl⟩;have H:R=cO (vV s.data.toList):=by rw[hR,LZ]
 have b5:S=if R.length≤4 then kW 4294967296 0 R else none:=by rw[hS,H];rfl
 have c0:(vV s.data.toList).length≤s.size:=by rw[←a8];exact yt _
 have a9:0<R.length:=by rw[H];exact List.length_pos_iff.2 (oz _)
 have c1:R.length≤900001:=by have:=oL (vV s.data.toList);rw[H];omega
 have a6:Hid (∀p ∈ R,p.length≤900000):=by
  intro p hp;rw[H]at hp;have:=nS _ p hp;omega
 have HR:=hid hR;have b7:=hid b5;rw[←hS];clear hS b5 hR H c0 a8;go_enter func225,ntmps225;go_wp2_with fail
 refine(AO s _ hs).mono ?_;rw[←HR.out];rintro e w3 ⟨A,n,c,rfl,hn,c7,c2,b0,hb⟩;rw[←hn]at a9 c1;have b8:=hid b0;have b9:=hid hb;have HN:=hid hn;unfold maxLen at c2;clear hn b0 hb;by_cases h4:n≤4
 ·have b6:¬(4:Int)<(n:Int):=by omega
  have c3:Hid (S=kW 4294967296 0 (R.drop 0)):=by show _=_;rw[b7.out,if_pos (by rw[←HN.out];exact h4),List.drop_zero]
  go_wp2;generalize decide ((4:Int)<(n:Int))=dd;go_loopw [5,6,7,8,16] (fun vm va _ _ vk wr=>∃(k a:Nat),k≤n∧vk=.int .i64 (k:Int)∧(k<n→vm=.int .i64 (mk k:Int))∧va=.int .i64 (a:Int)∧a<4294967296∧Hid (Below w.heap.size w wr)∧Hid (dP wr A n ((R.map ah).map Value.string))∧Hid (k<n→a+mk k≤4294967296)∧Hid (S=kW (mk k) a (R.drop k))) (fun _ _ _ _ vk _=>n - (intOf vk).toNat)
  case atStart=>exact⟨0,0,Nat.zero_le _,rfl,fun _=>rfl,rfl,by omega,b9,b8,fun _=>Nat.le_refl _,c3⟩
  case round=>
   clear b6;obtain⟨k,a,hk,rfl,D,rfl,i,HB,a5,c5,HW⟩:=hrel;by_cases hlt:k<n
   ·have j := c5 hlt;have F:k=0∨k=1∨k=2∨k=3:=by omega
    have E:mk k≤4294967296:=by rcases F with rfl|rfl|rfl|rfl<;>decide
    obtain rfl:=D hlt;obtain⟨p,hp⟩:∃p,p=R[k]'(by rw[←HN.out];exact hlt):=⟨_,rfl⟩;obtain⟨Y,hY⟩:∃Y,Y=ah p:=⟨_,rfl⟩;obtain⟨g,c6,rfl,hg,G⟩:=a5.spot a9;have B:=G k (by rw[List.length_map,List.length_map,←HN.out];exact hlt);rw[List.getElem_map,List.getElem_map,←hp,←hY]at B;have J:Hid (Y.data.toList=p):=by show _=_;rw[hY];rfl
    have C:Y.size≤1073741824:=by
     rw[hY,ak];have:=a6 p (by rw[hp];exact List.getElem_mem _);omega
    have O:Hid (R.drop k=p::R.drop (k+1)):=drop_at R k p (by rw[←HN.out];exact hlt) hp.symm;have t:(0:Int)≤(a:Int):=by omega
    clear hp hY G;cases hnp:num p with
    |none=>
     have HV:=hid (sV p hnp);have m:=hid (dh S (by rw[HW.out,O.out];exact wo _ _ _ _ hnp));clear hnp E j i;rcases F with rfl|rfl|rfl|rfl
     all_goals
      try rw[Nat.add_zero]at B
      simp only[abW];generalize (a:Int)=AC at t⊢;go_wp2_with fail
      refine(bP Y _ C).mono ?_;rw[J.out,HV.out];rintro e P ⟨rfl,d⟩;have l:Hid (Below w.heap.size w P):=bF HB d;clear d;go_wp2;go_ret2;exact⟨by rw[m.out];rfl,l⟩
    | some v=>
     obtain⟨x,hx,V,T⟩:=sW p v hnp;have HV:=hid hx;have Z:(0:Int)≤(x:Int):=by omega
     have W:¬(x:Int)<0:=by omega
     have y:(x:Int)≤17592186044431:=by omega
     clear hx;by_cases hq:n=k+1
     ·have I:R.drop (k+1)=[]:=drop_end R _ (by rw[←HN.out];exact hq);have hB:¬(k:Int)<(n:Int) - 1:=by omega
      have a2:=hid hq;clear hq;by_cases hxm:x<mk k
      ·have Q:x=v:=by omega
       have m:=hid ((show S=kW (mk k) a [p]by rw[HW.out,O.out,I]).trans (kX (mk k) a p v hnp (by omega)));have c4:=hid I;have f:Hid ((a:Int)+(x:Int)=((a+v:Nat):Int)):=by show _=_;omega
       have q:(x:Int)<(mk k:Int):=by omega
       have r:(a:Int)+(mk k:Int)≤4294967296:=by omega
       have a1:Hid (a+v<4294967296):=by show _<_;omega
       have a4:Hid (S=kW (mk (k+1)) (a+v) (R.drop (k+1))):=by show _=_;rw[c4.out];exact m
       clear hnp Q I hxm V j i T E;rcases F with rfl|rfl|rfl|rfl
       all_goals
        try rw[Nat.add_zero]at B
        simp only[abW,Int.cast_ofNat_Int]at hB q r⊢;generalize (x:Int)=X at q Z W y f HV;generalize (a:Int)=AC at r t f⊢;go_wp2_with fail
        refine(bP Y _ C).mono ?_;rw[J.out,HV.out];rintro e P ⟨rfl,d⟩;have l:Hid (Below w.heap.size w P):=bF HB d;have L:=hid (a5.below d);clear d;go_wp2;go_roundw
        case rel=>exact⟨_,a+v,by have:=a2.out;omega,by go_num,fun h=>absurd h (by have:=a2.out;omega),by first|exact int_eq f|(rw[←f.out]),a1,l,L,fun h=>absurd h (by have:=a2.out;omega),a4⟩
        case measure=>(have:=a2.out;simp[intOf];omega)
      have m:=hid (dh S ((show S=kW (mk k) a [p]by rw[HW.out,O.out,I]).trans (jA (mk k) a p v hnp (by omega))));have q:(mk k:Int)≤(x:Int):=by omega
      clear hnp I hxm V j i T E;rcases F with rfl|rfl|rfl|rfl
      all_goals
       try rw[Nat.add_zero]at B
       simp only[abW,Int.cast_ofNat_Int]at hB q⊢;generalize (x:Int)=X at q Z W y HV;generalize (a:Int)=AC at t⊢;go_wp2_with fail
       refine(bP Y _ C).mono ?_;rw[J.out,HV.out];rintro e P ⟨rfl,d⟩;have l:Hid (Below w.heap.size w P):=bF HB d;clear d;go_wp2;go_ret2;exact⟨by rw[m.out];rfl,l⟩
     have hB:(k:Int)<(n:Int) - 1:=by omega
     have a0:k=0∨k=1∨k=2:=by omega
     have z:k+1<n:=by omega
     obtain⟨p2,b3⟩:∃p2,p2=R[k+1]'(by rw[←HN.out];exact z):=⟨_,rfl⟩;have N:Hid (R.drop (k+1)=p2::R.drop (k+2)):=drop_at R (k+1) p2 (by rw[←HN.out];exact z) b3.symm;have a3:=hid z;clear b3 hq z F;by_cases hxm:x≤255
     ·have Q:x=v:=by omega
      have m:=(show S=kW (mk k) a (p::p2::R.drop (k+2))by rw[HW.out,O.out,N.out]).trans (uq (mk k) a p p2 (R.drop (k+2)) v hnp (by omega));rw[show mk k / 256=mk (k+1)by rcases a0 with rfl|rfl|rfl<;>rfl,←N.out]at m
      have a4:=hid m;have f:Hid ((a:Int)+(x:Int)*(mk (k+1):Int)=((a+v*mk (k+1):Nat):Int)):=by show _=_;rw[Q];simp
      have q:(x:Int)≤255:=by omega
      have r:(a:Int)+(mk k:Int)≤4294967296:=by omega
      have a1:Hid (a+v*mk (k+1)<4294967296∧a+v*mk (k+1)+mk (k+1)≤4294967296):=by show _∧_;rcases a0 with rfl|rfl|rfl<;>simp only[mk]at j⊢<;>omega
      clear hnp Q hxm V j i T m E;rcases a0 with rfl|rfl|rfl
      all_goals
       try rw[Nat.add_zero]at B
       simp only[abW,Int.cast_ofNat_Int]at hB r⊢;simp only[mk,Nat.reduceAdd,Int.cast_ofNat_Int]at f;generalize (x:Int)=X at q Z W y f HV;generalize (a:Int)=AC at r t f⊢;go_wp2_with fail
       refine(bP Y _ C).mono ?_;rw[J.out,HV.out];rintro e P ⟨rfl,d⟩;have l:Hid (Below w.heap.size w P):=bF HB d;have L:=hid (a5.below d);clear d;go_wp2;go_roundw
       case rel=>exact⟨_,_,by have:=a3.out;omega,by go_num,fun _=>rfl,by first|exact int_eq f|(rw[←f.out]),a1.out.1,l,L,fun _=>a1.out.2,a4⟩
       case measure=>(have:=a3.out;simp[intOf];omega)
     have m:=hid (dh S ((show S=kW (mk k) a (p::p2::R.drop (k+2))by rw[HW.out,O.out,N.out]).trans (nG (mk k) a p p2 (R.drop (k+2)) v hnp (by omega))));have a7:(255:Int)<(x:Int):=by omega
     clear hnp hxm V j i T E;rcases a0 with rfl|rfl|rfl
     all_goals
      try rw[Nat.add_zero]at B
      simp only[abW,Int.cast_ofNat_Int]at hB⊢;generalize (x:Int)=X at a7 Z W y HV;generalize (a:Int)=AC at t⊢;go_wp2_with fail
      refine(bP Y _ C).mono ?_;rw[J.out,HV.out];rintro e P ⟨rfl,d⟩;have l:Hid (Below w.heap.size w P):=bF HB d;clear d;go_wp2;go_ret2;exact⟨by rw[m.out];rfl,l⟩
   obtain rfl:k=n:=by omega
   have m:=hid (tC S a (by rw[HW.out,drop_end R k HN.out.symm];rfl));have t:(0:Int)≤(a:Int):=by omega
   have r:(a:Int)<4294967296:=by omega
   clear i D;generalize (a:Int)=AC at t r m⊢;go_wp2;go_ret2;exact⟨by rw[m.out];rfl,HB⟩
 have b6:(4:Int)<(n:Int):=by omega
 have m:=hid (dh S (by rw[b7.out,if_neg (by rw[←HN.out];exact h4)]));go_wp2;go_ret2;exact⟨by rw[m.out];rfl,b9⟩
end Xy
namespace Tab
open Go.RowKit Base
def Pow (w:World):Prop:=Lib.TabIs prog w "internal/strconv.uint64pow10" .u64 Lib.pow10Tab
theorem zf:prog.globalNamed "internal/strconv.uint64pow10" =some 3:=by kernel_rfl
theorem abh {W:World} {l:List (String×DataW Unit)} (h:laidMet prog l W) (f:("internal/strconv.uint64pow10",Lib.tabData .u64 Lib.pow10Tab) ∈ l):Pow W:=by
 obtain⟨j,i,cs,e,p,d,c,a,g⟩:=Lib.laidMet.reads h f;obtain rfl:=Option.some.inj (zf.symm.trans d);obtain rfl:=Option.some.inj ((show(prog.globals[3]?).map (·.type)=some 221 by kernel_rfl).symm.trans c);show World.var? _ _ _=_;rw[a,←Lib.cells_of_tab (k:=.u64) (zs:=Lib.pow10Tab) underlying221 underlying167 (by kernel_rfl) (by kernel_rfl) g]
theorem Pow.below {w w':World} (h:Pow w) (a:Below w.heap.size w w'):Pow w':=Joins.tab_stays zf h a (Nat.le_refl _)
theorem below_grow (w:World) (k:Nat) (a:Array Obj):Below w.heap.size w (Sort.grow (w.drewN k) a):=
 ⟨rfl,rfl,rfl,by rw[Sort.size_grow];exact Nat.le_add_right _ _,fun g hg=>by
  show(w.heap++a)[g]?=w.heap[g]?
  rw[Array.getElem?_append_left hg]⟩
theorem LC (n:Nat):Lib.itoa (n:Int)=Lib.decDigits n:=by unfold Lib.itoa;rw[if_neg (by omega)];simp
theorem Aa (n:Nat) (c:n≤9223372036854775807) (w:World) (a:Pow w):
  Calls prog 109 #[.int .i64 (n:Int)] w fun e w'=>e=.returned (.string (ah (Lib.decDigits n)))∧Below w.heap.size w w':=
 (strconv_Itoa (n:Int) (by omega) (by omega) w a).mono fun e w' ⟨he,k,os,hw⟩=>⟨by rw[he,LC];rfl,by rw[hw];exact below_grow w k os⟩
end Tab
namespace yN
open Go.RowKit Base bC
theorem nK (k:Nat):∀n,n<10^(k+1)→(Lib.decDigits n).length≤k+1:=by
 induction k with
 |zero=>intro n h;rw[Lib.decDigits,dif_pos (by omega)];simp
 |succ k ih=>
  intro n h;rw[Lib.decDigits];split
  ·simp
  have:=ih (n / 10) (by rw[Nat.pow_succ]at h;omega);rw[List.length_append];simp;omega
theorem Pg (n:Nat):((UInt8.ofNat (48+n%10)).toNat:Int)=48+(n:Int)%10:=by simp;omega
theorem one_row (c:UInt8) (w:World):dP (w.alloc (.cells #[.int .u8 (c.toNat:Int)] 5)) (some ⟨w.heap.size,0,none⟩) 1 (aQ [c]):=iR w [c] 5 (0,0)
theorem mM (n:Nat) (h:n≤18446744073709551615):(Lib.decDigits n).length≤20:=nK 19 n (by omega)
theorem iV:∀(N n:Nat),n<N→n≤18446744073709551615→∀w:World,Calls prog 189 #[.int .u64 (n:Int)] w fun e w'=>e=.returned (.string (ah (Lib.decDigits n)))∧Below w.heap.size w w'
 |0,n,h,_,w=>absurd h (by omega)
 |N+1,n,hN,hn,w=>by
  obtain⟨c,f⟩:∃c:UInt8,c=UInt8.ofNat (48+n%10):=⟨_,rfl⟩
  have a:(c.toNat:Int)=48+(n:Int)%10:=by rw[f];exact Pg n
  have z:(n:Int).tmod 10=(n:Int)%10:=Int.tmod_eq_emod_of_nonneg (by omega)
  have y:IntKind.u8.wrap ((n:Int)%10)=(n:Int)%10:=by rw[IntKind.wrap_u8];omega
  have q3:IntKind.u8.wrap (48+(n:Int)%10)=(c.toNat:Int):=by rw[IntKind.wrap_u8,a];omega
  have x:48+(n:Int)%10=(c.toNat:Int):=a.symm
  have aU:=fun w:World=>aT (P:=prog) (w:=w.alloc (.cells #[.int .u8 (c.toNat:Int)] 5)) 45 9 5 underlying45 underlying5 underlying9 [c] 1 (one_row c w)
  by_cases h9:n<10
  ·have l:Hid (Lib.decDigits n=[c]):=by rw[Lib.decDigits,dif_pos h9,f,Nat.mod_eq_of_lt h9];rfl
   have i:(n:Int)≤9:=by omega
   clear f a
   go_enter func189,ntmps189
   go_wp2
   go_ret
   exact⟨by rw[l.out];rfl,(Below.refl _ _).alloc (Nat.le_refl _) _⟩
  ·have i:9<(n:Int):=by omega
   obtain⟨m,r⟩:∃m,m=n / 10:=⟨_,rfl⟩
   have l:Hid (Lib.decDigits n=Lib.decDigits m++[c]):=by rw[Lib.decDigits,dif_neg h9,f,r];rfl
   have s:(n:Int) / 10=(m:Int):=by omega
   have v:(n:Int).tdiv 10=(m:Int):=by rw[Int.tdiv_eq_ediv_of_nonneg (by omega)];exact s
   have d:=mM m (by omega)
   have j:=hid d
   have q:=iV N m (by omega) (by omega)
   have k:=hid q
   have A:∀w:World,(Op.stringOp .add (ah (Lib.decDigits m)) (ah [c])).run prog w=.ok (.string (ah (Lib.decDigits m++[c]))) w:=fun w=>bJ _ _ w (by have:=j.out;simp;omega)
   clear f a r d q
   go_enter func189,ntmps189
   go_wp2_with fail
   refine(k _).mono ?_
   rintro e t ⟨rfl,g⟩
   go_wp2
   go_ret
   exact⟨by rw[l.out];rfl,bF ((Below.refl _ _).alloc (Nat.le_refl _) _) g⟩
def p1 (n:Nat):List UInt8:=Lib.decDigits (n / 16777216)++[46]
def p2 (n:Nat):List UInt8:=p1 n++Lib.decDigits (n / 65536%256)++[46]
def p3 (n:Nat):List UInt8:=p2 n++Lib.decDigits (n / 256%256)++[46]
def pr (n:Nat):List UInt8:=p3 n++Lib.decDigits (n%256)
theorem Dy (n:Nat) (h:n<256):(Lib.decDigits n).length≤3:=nK 2 n (by omega)
theorem OD (n:Nat) (h:n<4294967296):(p1 n).length≤4:=by have:=Dy (n / 16777216) (by omega);simp[p1];omega
theorem OE (n:Nat) (h:n<4294967296):(p2 n).length≤8:=by have:=Dy (n / 65536%256) (by omega);have:=OD n h;simp[p2];omega
theorem OG (n:Nat) (h:n<4294967296):(p3 n).length≤12:=by have:=Dy (n / 256%256) (by omega);have:=OE n h;simp[p3];omega
theorem abj (n:Nat) (h:n<4294967296):(pr n).length≤15:=by have:=Dy (n%256) (by omega);have:=OG n h;simp[pr];omega
theorem IZ (a:Nat) (h:a<4294967296):bits .and .u32 (a:Int) 255=((a%256:Nat):Int):=by
 have:=u32_and_nat a 255 h (by omega);rw[show((255:Nat):Int)=255 from rfl]at this;rw[this];congr 1;exact Nat.and_two_pow_sub_one_eq_mod a 8
def pj (n:Nat):Nat→List UInt8
 |0=>[]
 |1=>p1 n
 |2=>p2 n
 |3=>p3 n
 |_=>pr n
theorem nR (n:Nat) (H:n<4294967296) (w:World) (L:Tab.Pow w):Calls prog 220 #[.int .u32 (n:Int)] w fun e w'=>e=.returned (.string (ah (pr n)))∧Below w.heap.size w w':=by
 have G:=hid L;have N:(n:Int)<4294967296:=by omega
 have O:0≤(n:Int):=by omega
 have l:Hid ((p1 n).length≤4∧(p2 n).length≤8∧(p3 n).length≤12):=⟨OD n H,OE n H,OG n H⟩;clear L;go_enter func220,ntmps220;go_wp2;go_loopw [3,4] (fun vo vs wr=>∃j:Nat,j≤4∧vo=.string (ah (pj n j))∧vs=.int .i64 (24 - 8*(j:Int))∧Hid (Below w.heap.size w wr)) (fun _ vs _=>(intOf vs+8).toNat)
 case atStart=>exact⟨0,by omega,rfl,rfl,Below.refl _ _⟩
 case round=>
  obtain⟨j,P,rfl,rfl,x⟩:=hrel;have I:j=0∨j=1∨j=2∨j=3∨j=4:=by omega
  rcases I with rfl|rfl|rfl|rfl|rfl
  ·obtain⟨b,s⟩:∃b,b=n / 16777216:=⟨_,rfl⟩;have c:b<256:=by omega
   obtain⟨a,D⟩:∃a,a=n / 16777216:=⟨_,rfl⟩;have g:a<4294967296:=by omega
   have A:(n:Int) / 16777216=(a:Int):=by omega
   have t:bits .and .u32 (a:Int) 255=(b:Int):=by rw[IZ a g];omega
   have d:=Dy b c;have h:=hid d;have m:=hid s;have C:(a:Int)<4294967296:=by omega
   have B:(b:Int)<256:=by omega
   have i:∀w:World,(Op.stringOp .add (ah (pj n 0)) (ah (Lib.decDigits b))).run prog w=.ok (.string (ah (pj n 0++Lib.decDigits b))) w:=fun w=>bJ _ _ w (by have r:=l.out;have F:=h.out;simp only[pj]at r⊢;simp;omega);have y:∀w:World,(Op.stringOp .add (ah (pj n 0++Lib.decDigits b)) ⟨#[46]⟩).run prog w=.ok (.string (ah (pj n 1))) w:=fun w=>by
    have e:pj n 1=pj n 0++Lib.decDigits b++[46]:=by rw[m.out];rfl
    rw[e];exact bJ _ [46] w (by have r:=l.out;have F:=h.out;simp only[pj]at r⊢;simp;omega)
   clear s D g d;generalize hX:ah (pj n 0)=X at i⊢;generalize hY:ah (Lib.decDigits b)=Y at i;generalize hZ:ah (pj n 0++Lib.decDigits b)=Z at i y;generalize hV:ah (pj n 1)=V at y;have k:=hid hY;have v:=hid hV;clear hV;clear hX hY hZ;go_wp2_with fail
   refine(Tab.Aa b (by omega) _ (G.below x)).mono ?_;rw[k.out];rintro e z ⟨rfl,f⟩;have q:Hid (Below w.heap.size w z):=bF x f;clear f;go_wp2;go_roundw
   case rel=>exact⟨1,by omega,by rw[v.out],rfl,q⟩
   case measure=>simp[intOf]
  ·obtain⟨b,s⟩:∃b,b=n / 65536%256:=⟨_,rfl⟩;have c:b<256:=by omega
   obtain⟨a,D⟩:∃a,a=n / 65536:=⟨_,rfl⟩;have g:a<4294967296:=by omega
   have A:(n:Int) / 65536=(a:Int):=by omega
   have t:bits .and .u32 (a:Int) 255=(b:Int):=by rw[IZ a g];omega
   have d:=Dy b c;have h:=hid d;have m:=hid s;have C:(a:Int)<4294967296:=by omega
   have B:(b:Int)<256:=by omega
   have i:∀w:World,(Op.stringOp .add (ah (pj n 1)) (ah (Lib.decDigits b))).run prog w=.ok (.string (ah (pj n 1++Lib.decDigits b))) w:=fun w=>bJ _ _ w (by have r:=l.out;have F:=h.out;simp only[pj]at r⊢;simp;omega);have y:∀w:World,(Op.stringOp .add (ah (pj n 1++Lib.decDigits b)) ⟨#[46]⟩).run prog w=.ok (.string (ah (pj n 2))) w:=fun w=>by
    have e:pj n 2=pj n 1++Lib.decDigits b++[46]:=by rw[m.out];rfl
    rw[e];exact bJ _ [46] w (by have r:=l.out;have F:=h.out;simp only[pj]at r⊢;simp;omega)
   clear s D g d;generalize hX:ah (pj n 1)=X at i⊢;generalize hY:ah (Lib.decDigits b)=Y at i;generalize hZ:ah (pj n 1++Lib.decDigits b)=Z at i y;generalize hV:ah (pj n 2)=V at y;have k:=hid hY;have v:=hid hV;clear hV;clear hX hY hZ;go_wp2_with fail
   refine(Tab.Aa b (by omega) _ (G.below x)).mono ?_;rw[k.out];rintro e z ⟨rfl,f⟩;have q:Hid (Below w.heap.size w z):=bF x f;clear f;go_wp2;go_roundw
   case rel=>exact⟨2,by omega,by rw[v.out],rfl,q⟩
   case measure=>simp[intOf]
  ·obtain⟨b,s⟩:∃b,b=n / 256%256:=⟨_,rfl⟩;have c:b<256:=by omega
   obtain⟨a,D⟩:∃a,a=n / 256:=⟨_,rfl⟩;have g:a<4294967296:=by omega
   have A:(n:Int) / 256=(a:Int):=by omega
   have t:bits .and .u32 (a:Int) 255=(b:Int):=by rw[IZ a g];omega
   have d:=Dy b c;have h:=hid d;have m:=hid s;have C:(a:Int)<4294967296:=by omega
   have B:(b:Int)<256:=by omega
   have i:∀w:World,(Op.stringOp .add (ah (pj n 2)) (ah (Lib.decDigits b))).run prog w=.ok (.string (ah (pj n 2++Lib.decDigits b))) w:=fun w=>bJ _ _ w (by have r:=l.out;have F:=h.out;simp only[pj]at r⊢;simp;omega);have y:∀w:World,(Op.stringOp .add (ah (pj n 2++Lib.decDigits b)) ⟨#[46]⟩).run prog w=.ok (.string (ah (pj n 3))) w:=fun w=>by
    have e:pj n 3=pj n 2++Lib.decDigits b++[46]:=by rw[m.out];rfl
    rw[e];exact bJ _ [46] w (by have r:=l.out;have F:=h.out;simp only[pj]at r⊢;simp;omega)
   clear s D g d;generalize hX:ah (pj n 2)=X at i⊢;generalize hY:ah (Lib.decDigits b)=Y at i;generalize hZ:ah (pj n 2++Lib.decDigits b)=Z at i y;generalize hV:ah (pj n 3)=V at y;have k:=hid hY;have v:=hid hV;clear hV;clear hX hY hZ;go_wp2_with fail
   refine(Tab.Aa b (by omega) _ (G.below x)).mono ?_;rw[k.out];rintro e z ⟨rfl,f⟩;have q:Hid (Below w.heap.size w z):=bF x f;clear f;go_wp2;go_roundw
   case rel=>exact⟨3,by omega,by rw[v.out],rfl,q⟩
   case measure=>simp[intOf]
  ·obtain⟨b,s⟩:∃b,b=n%256:=⟨_,rfl⟩;have c:b<256:=by omega
   obtain⟨a,D⟩:∃a,a=n:=⟨_,rfl⟩;have g:a<4294967296:=by omega
   have A:(n:Int) / 1=(a:Int):=by omega
   have t:bits .and .u32 (a:Int) 255=(b:Int):=by rw[IZ a g];omega
   have d:=Dy b c;have h:=hid d;have m:=hid s;have C:(a:Int)<4294967296:=by omega
   have B:(b:Int)<256:=by omega
   have i:∀w:World,(Op.stringOp .add (ah (pj n 3)) (ah (Lib.decDigits b))).run prog w=.ok (.string (ah (pj n 3++Lib.decDigits b))) w:=fun w=>bJ _ _ w (by have r:=l.out;have F:=h.out;simp only[pj]at r⊢;simp;omega);have E:Hid (pj n 3++Lib.decDigits b=pj n 4):=by show _=_;rw[m.out];rfl
   clear s D g d;generalize hX:ah (pj n 3)=X at i⊢;generalize hY:ah (Lib.decDigits b)=Y at i;generalize hZ:ah (pj n 3++Lib.decDigits b)=Z at i;have k:=hid hY;have J:=hid hZ;clear hX hY hZ;go_wp2_with fail
   refine(Tab.Aa b (by omega) _ (G.below x)).mono ?_;rw[k.out];rintro e z ⟨rfl,f⟩;have q:Hid (Below w.heap.size w z):=bF x f;clear f;go_wp2;go_roundw
   case rel=>exact⟨4,by omega,by rw[←J.out,E.out],rfl,q⟩
   case measure=>simp[intOf]
  go_wp2;go_ret;exact⟨rfl,x⟩
end yN
namespace aav
open Go.RowKit Base bC yN
theorem AB (n:Nat) (m:n<4294967296) (w:World):Calls prog 226 #[.int .u32 (n:Int)] w fun e w'=>e=.returned (.string (ah (pr n)))∧Below w.heap.size w w':=by
 have s:=OD n m;have r:=OE n m;have q:=OG n m;obtain⟨a,F⟩:∃a,a=n / 16777216:=⟨_,rfl⟩;have i:a<256:=by omega
 have y:=Dy a i;obtain⟨b,E⟩:∃b,b=n / 65536%256:=⟨_,rfl⟩;have h:b<256:=by omega
 have x:=Dy b h;obtain⟨c,D⟩:∃c,c=n / 256%256:=⟨_,rfl⟩;have g:c<256:=by omega
 have v:=Dy c g;obtain⟨d,C⟩:∃d,d=n%256:=⟨_,rfl⟩;have f:d<256:=by omega
 have t:=Dy d f;have q1:(n:Int).tdiv 16777216=(a:Int):=by rw[Int.tdiv_eq_ediv_of_nonneg (by omega)];omega
 have q2:((n:Int).tdiv 65536).tmod 256=(b:Int):=by rw[Int.tdiv_eq_ediv_of_nonneg (by omega),Int.tmod_eq_emod_of_nonneg (by omega)];omega
 have q3:((n:Int).tdiv 256).tmod 256=(c:Int):=by rw[Int.tdiv_eq_ediv_of_nonneg (by omega),Int.tmod_eq_emod_of_nonneg (by omega)];omega
 have q4:(n:Int).tmod 256=(d:Int):=by rw[Int.tmod_eq_emod_of_nonneg (by omega)];omega
 have r1:(n:Int) / 16777216=(a:Int):=by omega
 have r2:(n:Int) / 65536%256=(b:Int):=by omega
 have r3:(n:Int) / 256%256=(c:Int):=by omega
 have r4:(n:Int)%256=(d:Int):=by omega
 have P:p1 n=Lib.decDigits a++[46]:=by rw[F];rfl
 have O:p2 n=p1 n++Lib.decDigits b++[46]:=by rw[E];rfl
 have N:p3 n=p2 n++Lib.decDigits c++[46]:=by rw[D];rfl
 have L:pr n=p3 n++Lib.decDigits d:=by rw[C];rfl
 have B:∀w:World,(Op.stringOp .add (ah (Lib.decDigits a)) ⟨#[46]⟩).run prog w=.ok (.string (ah (p1 n))) w:=fun w=>by rw[P];exact bJ _ [46] w (by simp;omega)
 have l:∀w:World,(Op.stringOp .add (ah (p1 n)) (ah (Lib.decDigits b))).run prog w=.ok (.string (ah (p1 n++Lib.decDigits b))) w:=fun w=>bJ _ _ w (by omega);have A:∀w:World,(Op.stringOp .add (ah (p1 n++Lib.decDigits b)) ⟨#[46]⟩).run prog w=.ok (.string (ah (p2 n))) w:=fun w=>by rw[O];exact bJ _ [46] w (by simp;omega)
 have k:∀w:World,(Op.stringOp .add (ah (p2 n)) (ah (Lib.decDigits c))).run prog w=.ok (.string (ah (p2 n++Lib.decDigits c))) w:=fun w=>bJ _ _ w (by omega);have z:∀w:World,(Op.stringOp .add (ah (p2 n++Lib.decDigits c)) ⟨#[46]⟩).run prog w=.ok (.string (ah (p3 n))) w:=fun w=>by rw[N];exact bJ _ [46] w (by simp;omega)
 have j:∀w:World,(Op.stringOp .add (ah (p3 n)) (ah (Lib.decDigits d))).run prog w=.ok (.string (ah (pr n))) w:=fun w=>by rw[L];exact bJ _ _ w (by omega)
 generalize ah (p1 n)=P1 at B l;generalize ah (p1 n++Lib.decDigits b)=P2 at l A;generalize ah (p2 n)=P3 at A k;generalize ah (p2 n++Lib.decDigits c)=P4 at k z;generalize ah (p3 n)=P5 at z j;generalize ah (pr n)=P6 at j⊢;have W:=hid (fun w=>iV (a+1) a (by omega) (by omega) w);have V:=hid (fun w=>iV (b+1) b (by omega) (by omega) w);have T:=hid (fun w=>iV (c+1) c (by omega) (by omega) w);have Q:=hid (fun w=>iV (d+1) d (by omega) (by omega) w);generalize ah (Lib.decDigits a)=S1 at B W;generalize ah (Lib.decDigits b)=S2 at l V;generalize ah (Lib.decDigits c)=S3 at k T;generalize ah (Lib.decDigits d)=S4 at j Q;have X:(n:Int)<4294967296:=by omega
 have Y:0≤(n:Int):=by omega
 have a2:(a:Int)<256:=by omega
 have a1:(b:Int)<256:=by omega
 have a0:(c:Int)<256:=by omega
 have Z:(d:Int)<256:=by omega
 clear P O N L s r q y x v t F E D C i h g f;go_enter func226,ntmps226;go_wp2_with fail
 refine(W _).mono ?_;rintro e w2 ⟨rfl,J⟩;have H2:=hid J;clear J;go_wp2_with fail
 refine(V _).mono ?_;rintro e w3 ⟨rfl,I⟩;have H3:=hid (bF H2 I);clear I;go_wp2_with fail
 refine(T _).mono ?_;rintro e w4 ⟨rfl,H⟩;have H4:=hid (bF H3 H);clear H;go_wp2_with fail
 refine(Q _).mono ?_;rintro e w5 ⟨rfl,G⟩;have H5:=hid (bF H4 G);clear G;go_wp2;go_ret;exact⟨rfl,H5⟩
end aav
namespace jY
open Go.RowKit Base
def P1 (c:Int):Prop:=c=32∨c=34∨c=60∨c=62∨c=96
instance (c:Int):Decidable (P1 c):=by unfold P1;exact inferInstance
def P2 (c:Int):Prop:=c=32∨c=34∨c=35∨c=60∨c=62
instance (c:Int):Decidable (P2 c):=by unfold P2;exact inferInstance
def P3 (c:Int):Prop:=c=32∨c=34∨c=35∨c=60∨c=62∨c=39
instance (c:Int):Decidable (P3 c):=by unfold P3;exact inferInstance
def P4 (c:Int):Prop:=c=32∨c=34∨c=35∨c=60∨c=62∨c=63∨c=94∨c=96∨c=123∨c=125
instance (c:Int):Decidable (P4 c):=by unfold P4;exact inferInstance
def P5 (c:Int):Prop:=c=32∨c=34∨c=35∨c=60∨c=62∨c=63∨c=94∨c=96∨c=123∨c=125∨c=47∨c=58∨c=59∨c=61∨c=64∨c=91∨c=92∨c=93∨c=124
instance (c:Int):Decidable (P5 c):=by unfold P5;exact inferInstance
def P6 (c:Int):Prop:=c=32∨c=34∨c=35∨c=60∨c=62∨c=63∨c=94∨c=96∨c=123∨c=125∨c=47∨c=58∨c=59∨c=61∨c=64∨c=91∨c=92∨c=93∨c=124∨c=36∨c=37∨c=38∨c=43∨c=44
instance (c:Int):Decidable (P6 c):=by unfold P6;exact inferInstance
def iL (k c:Int):Bool:=decide (0≤k∧k≤6∧(c<32∨126<c∨k=1∧P1 c∨k=2∧P2 c∨k=3∧P3 c∨k=4∧P4 c∨k=5∧P5 c∨k=6∧P6 c))
def S:Int→List UInt8
 |1=>[32,34,60,62,96]
 |2=>[32,34,35,60,62]
 |3=>[32,34,35,60,62,39]
 |4=>[32,34,35,60,62,63,94,96,123,125]
 |5=>[32,34,35,60,62,63,94,96,123,125,47,58,59,61,64,91,92,93,124]
 |6=>[32,34,35,60,62,63,94,96,123,125,47,58,59,61,64,91,92,93,124,36,37,38,43,44]
 |_=>[]
theorem aeS (k:Int) (e:0≤k∧k≤6) (c:UInt8) (i:32≤(c.toNat:Int)) (h:(c.toNat:Int)≤126):decide (0≤Lib.indexByte (S k) c)=iL k c.toNat:=by
 obtain⟨f,g⟩:=e;have a:k=0∨k=1∨k=2∨k=3∨k=4∨k=5∨k=6:=by omega
 have H:∀n:Fin 256,(32≤n.val∧n.val≤126)→∀k:Fin 7,decide (0≤Lib.indexByte (S (k.val:Int)) (UInt8.ofNat n.val))=iL (k.val:Int) (n.val:Int):=by decide+kernel
 have d:=H ⟨c.toNat,c.toNat_lt⟩ ⟨by simp;omega,by simp;omega⟩ ⟨k.toNat,by omega⟩;simpa[Int.toNat_of_nonneg f]using d
theorem DU (k c:Int) (h:k<0∨6<k):iL k c=false:=by unfold iL;rw[decide_eq_false_iff_not];omega
theorem Qk (k c:Int) (d:0≤k) (a:k≤6) (h:c<32∨126<c):iL k c=true:=by unfold iL;rw[decide_eq_true_iff];omega
theorem adu (c:Int):iL 0 c=decide (c<32∨126<c):=by unfold iL;congr 1;simp
theorem adw (c:Int):iL 1 c=decide (c<32∨126<c∨P1 c):=by unfold iL;congr 1;simp
theorem adx (c:Int):iL 2 c=decide (c<32∨126<c∨P2 c):=by unfold iL;congr 1;simp
theorem ady (c:Int):iL 3 c=decide (c<32∨126<c∨P3 c):=by unfold iL;congr 1;simp
theorem adz (c:Int):iL 4 c=decide (c<32∨126<c∨P4 c):=by unfold iL;congr 1;simp
theorem adA (c:Int):iL 5 c=decide (c<32∨126<c∨P5 c):=by unfold iL;congr 1;simp
theorem adB (c:Int):iL 6 c=decide (c<32∨126<c∨P6 c):=by unfold iL;congr 1;simp
theorem Gy (k:Int) (w:World) (d:0≤k) (c:k≤6):Calls prog 201 #[.int .i64 k] w fun e w'=>e=.returned (.string (ah (S k)))∧w=w':=by
 have a:k=0∨k=1∨k=2∨k=3∨k=4∨k=5∨k=6:=by omega
 rcases a with rfl|rfl|rfl|rfl|rfl|rfl|rfl
 all_goals
  go_enter func201,ntmps201;go_wp2;go_ret;exact⟨rfl,rfl⟩
theorem Jg (k:Int) (c:UInt8) (w:World):Calls prog 155 #[.int .i64 k,.int .u8 (c.toNat:Int)] w fun e w'=>e=.returned (.bool (iL k c.toNat))∧w=w':=by
 by_cases ho:k<0∨6<k
 ·have a:=hid (DU k c.toNat ho);rcases ho with ho|ho
  all_goals
   go_enter func155,ntmps155;go_wp2;go_ret;rw[a.out];exact⟨rfl,rfl⟩
 have f:0≤k:=by omega
 have d:k≤6:=by omega
 by_cases hf:(c.toNat:Int)<32∨126<(c.toNat:Int)
 ·have a:=hid (Qk k c.toNat f d hf);rcases hf with hf|hf
  ·go_enter func155,ntmps155;go_wp2;go_ret;rw[a.out];exact⟨rfl,rfl⟩
  have j:¬(c.toNat:Int)<32:=by omega
  go_enter func155,ntmps155;go_wp2;go_ret;rw[a.out];exact⟨rfl,rfl⟩
 have i:32≤(c.toNat:Int):=by omega
 have h:(c.toNat:Int)≤126:=by omega
 have a:=hid (aeS k ⟨f,d⟩ c i h);go_enter func155,ntmps155;go_wp2_with fail
 refine(Gy k _ f d).mono ?_;rintro e g ⟨rfl,rfl⟩;go_wp2_with fail
 refine(strings_IndexByte _ _ _).mono ?_;rintro e g ⟨rfl,rfl⟩;rw[show(ah (S k)).data.toList=S k from rfl,show((c.toNat:Int).toNat).toUInt8=c by simp];go_wp2_with fail
 go_ret;exact⟨aC (by rw[←a.out,decide_eq_false (show ¬(c.toNat:Int)<32 by omega),decide_eq_false (show ¬126<(c.toNat:Int)by omega)];simp),rfl⟩
theorem YR (k c:Int) (w:World) (a:k<0∨6<k):Calls prog 167 #[.int .i64 k,.int .u8 c] w fun e w'=>e=.returned (.bool (iL k c))∧w=w':=by
 have d:=hid (DU k c a);rcases a with a|a
 all_goals
  go_enter func167,ntmps167;go_wp2;go_ret;rw[d.out];exact⟨rfl,rfl⟩
theorem Jz (k c:Int) (w:World) (f:0≤k) (d:k≤6) (hf:c<32∨126<c):Calls prog 167 #[.int .i64 k,.int .u8 c] w fun e w'=>e=.returned (.bool (iL k c))∧w=w':=by
 have a:=hid (Qk k c f d hf);rcases hf with hf|hf
 ·go_enter func167,ntmps167;go_wp2;go_ret;rw[a.out];exact⟨rfl,rfl⟩
 have g:¬c<32:=by omega
 go_enter func167,ntmps167;go_wp2;go_ret;rw[a.out];exact⟨rfl,rfl⟩
end jY
namespace aG
open Go.RowKit Base jY
def kV (n:Nat):UInt8:=if n<10 then UInt8.ofNat (48+n)else UInt8.ofNat (55+n)
def one (k:Int) (c:UInt8):List UInt8:=if iL k c.toNat=true then[37,kV (c.toNat / 16),kV (c.toNat%16)]else[c]
def enc (k:Int) (L:List UInt8):List UInt8:=L.flatMap (one k)
theorem oH (k:Int) (L:List UInt8) (c:UInt8):enc k (L++[c])=enc k L++one k c:=by simp[enc]
theorem Jp (k:Int) (c:UInt8):1≤(one k c).length∧(one k c).length≤3:=by unfold one;split<;>simp
theorem fO (k:Int) (L:List UInt8):(enc k L).length≤3*L.length:=by
 induction L with
 |nil=>simp[enc]
 |cons c L ih=>
  have h:=Jp k c;have e:enc k (c::L)=one k c++enc k L:=by simp[enc]
  rw[e,List.length_append,List.length_cons];omega
theorem BH (k:Nat) (h:k<(⟨#[48,49,50,51,52,53,54,55,56,57,65,66,67,68,69,70]⟩:ByteArray).size):(⟨#[48,49,50,51,52,53,54,55,56,57,65,66,67,68,69,70]⟩:ByteArray)[k]'h=kV k:=by
 have c:k<16:=h;have a:k=0∨k=1∨k=2∨k=3∨k=4∨k=5∨k=6∨k=7∨k=8∨k=9∨k=10∨k=11∨k=12∨k=13∨k=14∨k=15:=by omega
 rcases a with rfl|rfl|rfl|rfl|rfl|rfl|rfl|rfl|rfl|rfl|rfl|rfl|rfl|rfl|rfl|rfl<;>rfl
theorem Tz (a b c:Int):∀u ∈ [Value.int .u8 a,Value.int .u8 b,Value.int .u8 c],u.oneCell'=true:=by
 intro u d;simp at d;rcases d with rfl|rfl|rfl<;>rfl
attribute [local go_sem ↓] Go.wp_at_zero Go.wp_at_succ
theorem gB (k : Int) (A : Option Addr) (n I : Nat) (L : List UInt8) (w : World) (h : dP w A n (aQ L)) (hm : n ≤ 1073741824) :
  Calls prog 71 #[.int .i64 k,.slice A n I] w fun e w'=>e=.returned (.string (ah (enc k L)))∧Below w.heap.size w w':=by
 have O:L.length=n:=by rw[←bK];exact h.1
 have B:=hid O;clear O;obtain⟨D,hi,s,r,q⟩:=info_parts pU;have T:=hid h;clear h;go_enter func71,ntmps71;go_wp2_with (at_make;refine wpList_make_own _ rfl _ _ 45 rfl w.heap.size 5 D (.int .u8 0) 1 underlying45 hi s r .i64 .i64 _ n rfl rfl rfl (by rw[q];omega) (by unfold maxLen;omega) (Nat.le_refl _) ?_)
 intro V i y;have l:Below w.heap.size w V:=(Below.refl _ _).grown y (Nat.le_refl _) (by intro k h;cases h);clear y;go_wp2;go_loopw [5,13] (fun v vk wr=>∃(j:Nat),j≤n∧vk=.int .i64 j∧wr.ownsRow w.heap.size 5 1 v (enc k (L.take j)).length (aQ (enc k (L.take j)))∧Below w.heap.size w wr) (fun _ vk _=>n - (intOf vk).toNat)
 case atStart=>exact⟨0,Nat.zero_le _,rfl,i,l⟩
 case round=>
  clear i l;obtain⟨j,hj,rfl,d,a⟩:=hrel;by_cases hlt:j<n
  ·obtain ⟨b,x,rfl,hb,_⟩:=(T).spot (by omega);obtain⟨c,hx⟩:∃c,c=L[j]'(by rw[B.out];exact hlt):=⟨_,rfl⟩;have G:wr.cell? ⟨b,x+j,none⟩=some (.int .u8 (c.toNat:Int)):=by
    rw[hx,←T.out.byte j (by rw[B.out];exact hlt)];exact a.cell (p:=⟨b,x+j,none⟩) hb
   have P:Hid (L.take (j+1)=L.take j++[c]):=by
    rw[hx];exact List.take_succ_eq_append_getElem (by rw[B.out];exact hlt)
   clear hx;have F:=fO k (L.take j);have N:(L.take j).length≤j:=List.length_take_le _ _;obtain⟨m,t⟩:∃m,m=(enc k (L.take j)).length:=⟨_,rfl⟩;rw[←t]at F d;have Q:=hid t;clear t;have a0:(c.toNat:Int)<256:=by have:=c.toNat_lt;omega
   cases hin:iL k c.toNat
   ·have z:=hid hin;clear hin;go_wp2_with fail
    refine(Jg _ _ _).mono ?_;rintro e C ⟨rfl,rfl⟩;rw[z.out];go_wp2_with (at_builtin;refine bI rfl _ _ 45 rfl w.heap.size 5 D (.int .u8 0) 1 underlying45 hi s r q rfl _ m _ rfl d a a.size [.int .u8 (c.toNat:Int)] 1 rfl rfl (by intro u J;simp at J;subst J;rfl) (by unfold maxLen;omega) (by omega) ?_)
    intro W C f g;clear d a;go_wp2;go_roundw
    case rel=>exact⟨j+1,by omega,by go_num,by
      have H:one k c=[c]:=by unfold one;rw[z.out];rfl
      rw[P.out,oH,H,List.length_append,dR,←Q.out];exact f,g⟩
    case measure=>simp[intOf];omega
   ·have z:=hid hin;clear hin;go_wp2_with fail
    refine(Jg _ _ _).mono ?_;rintro e C ⟨rfl,rfl⟩;rw[z.out];go_wp2;have q1:(0:Int)≤(c.toNat:Int) / 16:=by omega
    have q2:(c.toNat:Int) / 16<16:=by omega
    have q3:(0:Int)≤(c.toNat:Int)%16:=by omega
    have q4:(c.toNat:Int)%16<16:=by omega
    have Z:=Uk c;have Y:∀h,(⟨#[48,49,50,51,52,53,54,55,56,57,65,66,67,68,69,70]⟩:ByteArray)[((c.toNat:Int) / 16).toNat]'h=kV (c.toNat / 16):=fun h=>BH _ h;have X:∀h,(⟨#[48,49,50,51,52,53,54,55,56,57,65,66,67,68,69,70]⟩:ByteArray)[((c.toNat:Int)%16).toNat]'h=kV (c.toNat%16):=fun h=>BH _ h
    go_region_held3 (fun _=>True) (trivial) ((refine MZ (by rfl) _ _ 45 (by rfl) w.heap.size 5 D (.int .u8 0) 1 underlying45 hi s r q (by rfl) _ m _ (by rfl) d a a.size [.int .u8 37,.int .u8 ((kV (c.toNat / 16)).toNat:Int),.int .u8 ((kV (c.toNat%16)).toNat:Int)] 3 (by rfl) (by decide) (by rfl) (Tz _ _ _) (by unfold maxLen;omega) (by omega) ⟨(Below.refl _ _).drew,fun _=>rfl,by simp⟩ ?_;intro W C f g))
    all_goals
     clear d a q1 q2 q3 q4 Z Y X;go_wp2;go_roundw
     case rel=>exact⟨j+1,by omega,by go_num,by
       have H:one k c=[37,kV (c.toNat / 16),kV (c.toNat%16)]:=by unfold one;rw[if_pos z.out]
       rw[P.out,oH,H,List.length_append,dR,←Q.out];exact f,g⟩
     case measure=>simp[intOf];omega
  ·obtain rfl:j=n:=by omega
   have HE:Hid (L.take j=L):=by
    rw[←B.out];exact List.take_length
   rw[HE.out]at d;obtain⟨A',c',rfl,_,_,E⟩:=aS d;have aU:=aT 45 9 5 underlying45 underlying5 underlying9 _ c' E;go_wp2;go_ret;exact⟨rfl,a⟩
end aG
namespace Bl
open Go.RowKit Base jY aG
theorem II (a b c:UInt8) (w:World):dP (w.alloc (.cells #[.int .u8 (a.toNat:Int),.int .u8 (b.toNat:Int),.int .u8 (c.toNat:Int)] 5)) (some ⟨w.heap.size,0,none⟩) 3 (aQ [a,b,c]):=
 dP.lK rfl (by simp) (fun j hj=>by
  have e:j<3:=hj
  rw[World.cell?_alloc_mark]
  have d:j=0∨j=1∨j=2:=by omega
  rcases d with rfl|rfl|rfl<;>rfl)
attribute [local go_sem ↓] Go.wp_at_zero Go.wp_at_succ
theorem abU (c:UInt8):IntKind.u8.wrap ((c.toNat:Int) / 16)=(c.toNat:Int) / 16:=by
 have H:∀n:Fin 256,IntKind.u8.wrap ((n.val:Int) / 16)=(n.val:Int) / 16:=by decide+kernel
 exact H ⟨c.toNat,c.toNat_lt⟩
theorem abI (c:UInt8):(c.toNat:Int).tmod 16=(c.toNat:Int)%16:=Int.tmod_eq_emod_of_nonneg (by omega)
theorem one_any (c:UInt8) (w:World):Calls prog 168 #[.int .u8 (c.toNat:Int)] w fun e w'=>e=.returned (.string (ah [37,kV (c.toNat / 16),kV (c.toNat%16)]))∧Below w.heap.size w w':=by
 have f:(c.toNat:Int)<256:=by have:=c.toNat_lt;omega
 have m:(0:Int)≤(c.toNat:Int) / 16:=by omega
 have l:(c.toNat:Int) / 16<16:=by omega
 have q3:(0:Int)≤(c.toNat:Int)%16:=by omega
 have k:(c.toNat:Int)%16<16:=by omega
 have j:∀h,(⟨#[48,49,50,51,52,53,54,55,56,57,65,66,67,68,69,70]⟩:ByteArray)[((c.toNat:Int) / 16).toNat]'h=kV (c.toNat / 16):=fun h=>BH _ h;have i:∀h,(⟨#[48,49,50,51,52,53,54,55,56,57,65,66,67,68,69,70]⟩:ByteArray)[((c.toNat:Int)%16).toNat]'h=kV (c.toNat%16):=fun h=>BH _ h;have aU:=aT 45 9 5 underlying45 underlying5 underlying9 _ 3 (II 37 (kV (c.toNat / 16)) (kV (c.toNat%16)) w);have d:dP (w.alloc (.cells #[.int .u8 ((37:UInt8).toNat:Int),.int .u8 ((kV (c.toNat / 16)).toNat:Int),.int .u8 ((kV (c.toNat%16)).toNat:Int)] 5)).drew (some ⟨w.heap.size,0,none⟩) 3 (aQ [37,kV (c.toNat / 16),kV (c.toNat%16)]):=II 37 (kV (c.toNat / 16)) (kV (c.toNat%16)) w;have a:=aT 45 9 5 underlying45 underlying5 underlying9 _ 3 d;rw[show((37:UInt8).toNat:Int)=37 from rfl]at aU a;have g:=abU c;have qb:=abI c;go_enter func168,ntmps168;go_wp2
 go_region
 go_wp2;go_ret;exact⟨rfl,((Below.refl _ _).alloc (Nat.le_refl _) _).drew⟩
theorem bJ (X Y:List UInt8) (w:World) (h:X.length+Y.length≤9223372036854775807):(Op.stringOp .add (ah X) (ah Y)).run prog w=.ok (.string (ah (X++Y))) w:=by
 rw[run_string_add_sum w _ _ (by rw[ak,ak];exact h)];congr 2
theorem JK (s:ByteArray) (k:Nat) (h:k<s.size):s.extract k (k+1)=ah [s[k]]:=by
 apply ByteArray.ext;have a:k<s.data.size:=h;apply Array.ext';rw[ByteArray.data_extract];simp[ah,Array.toList_extract,List.extract_eq_take_drop];rw[List.drop_eq_getElem_cons (by simpa using a)];rfl
theorem gI (k:Int) (s:ByteArray) (w:World) (C:s.size≤1073741824) (d:∀(c:UInt8) (w:World),Calls prog 167 #[.int .i64 k,.int .u8 (c.toNat:Int)] w fun e w'=>e=.returned (.bool (iL k c.toNat))∧w=w'):
  Calls prog 93 #[.int .i64 k,.string s] w fun e w'=>e=.returned (.string (ah (enc k s.data.toList)))∧Below w.heap.size w w':=by
 have z:s.data.toList.length=s.size:=Array.length_toList;have x:=hid z;have y:=hid d;go_enter func93,ntmps93;go_wp2;go_loopw [5,9] (fun v vk wr=>∃(j:Nat) (X:List UInt8),j≤s.size∧vk=.int .i64 j∧v=.string (ah X)∧X.length≤3*j∧Hid (X=enc k (s.data.toList.take j))∧Below w.heap.size w wr) (fun _ vk _=>s.size - (intOf vk).toNat)
 case atStart=>exact⟨0,[],Nat.zero_le _,rfl,rfl,Nat.le_refl _,rfl,Below.refl _ _⟩
 case round=>
  obtain⟨j,X,D,rfl,rfl,E,q,a⟩:=hrel;by_cases hlt:j<s.size
  ·obtain ⟨c,r⟩:∃c,s[j]=c:=⟨_,rfl⟩;have t:Hid (s.data.toList.take (j+1)=s.data.toList.take j++[c]):=by
    rw[←r,List.take_succ_eq_append_getElem (by rw[x.out];exact hlt)];rfl
   have g:=JK s j hlt;rw[r]at g;have A:(c.toNat:Int)<256:=by have:=c.toNat_lt;omega
   cases d:iL k c.toNat
   ·have i:=hid d;go_wp2_with fail
    refine(y _ _).mono ?_;rintro e l ⟨rfl,rfl⟩;rw[i.out];have h:=bJ X [c] wr (by simp;omega);go_wp2;go_roundw
    case rel=>exact⟨j+1,X++[c],by omega,by go_num,rfl,by simp;omega,by
      have n:one k c=[c]:=by unfold one;rw[i.out];rfl
      rw[t.out,oH,n,q.out];exact rfl,a⟩
    case measure=>simp[intOf];omega
   ·have i:=hid d;go_wp2_with fail
    refine(y _ _).mono ?_;rintro e l ⟨rfl,rfl⟩;rw[i.out];go_wp2_with fail
    refine(one_any _ _).mono ?_;rintro e l ⟨rfl,m⟩;have h:=bJ X [37,kV (c.toNat / 16),kV (c.toNat%16)] l (by simp;omega);have f:=a.trans (m.mono a.size);go_wp2;go_roundw
    case rel=>exact⟨j+1,X++[37,kV (c.toNat / 16),kV (c.toNat%16)],by omega,by go_num,rfl,by simp;omega,by
      have n:one k c=[37,kV (c.toNat / 16),kV (c.toNat%16)]:=by unfold one;rw[if_pos i.out]
      rw[t.out,oH,n,q.out];exact rfl,f⟩
    case measure=>simp[intOf];omega
  ·obtain rfl:j=s.size:=by omega
   have B:Hid (X=enc k s.data.toList):=by
    rw[q.out,←x.out,List.take_length];exact rfl
   go_wp2;go_ret;rw[B.out];exact⟨rfl,a⟩
end Bl
namespace nD
open Go.RowKit Base dJ
def esc:List UInt8→Option UInt8
 |a::b::c::_=>if a=37∧0≤hex b.toNat∧0≤hex c.toNat then some (UInt8.ofNat (16*hex b.toNat+hex c.toNat).toNat)else none
 |_=>none
def rO:Nat→List UInt8→List UInt8
 |0,_=>[]
 |_+1,[]=>[]
 |n+1,x::t=>match esc (x::t)with
  |some c=>c::rO n (t.drop 2)
  |none=>x::rO n t
def dec (L:List UInt8):List UInt8:=rO L.length L
theorem pX:∀(n m:Nat) (L:List UInt8),L.length≤n→L.length≤m→rO n L=rO m L
 |0,0,_,_,_=>rfl
 |0,m+1,[],_,_=>rfl
 |0,_+1,_::_,h,_=>by simp at h
 |n+1,0,[],_,_=>rfl
 |_+1,0,_::_,_,h=>by simp at h
 |_+1,_+1,[],_,_=>rfl
 |n+1,m+1,x::t,h1,h2=>by
  simp only[List.length_cons]at h1 h2
  rw[rO,rO,pX n m _ (by simp;omega) (by simp;omega),pX n m _ (by omega) (by omega)]
theorem mO:dec []=[]:=rfl
theorem sH (x:UInt8) (t:List UInt8) (c:UInt8) (h:esc (x::t)=some c):dec (x::t)=c::dec (t.drop 2):=by
 unfold dec;rw[List.length_cons,rO,h];rw[pX t.length (t.drop 2).length _ (by simp) (Nat.le_refl _)]
theorem lq (x:UInt8) (t:List UInt8) (h:esc (x::t)=none):dec (x::t)=x::dec t:=by
 unfold dec;rw[List.length_cons,rO,h]
theorem mM (L:List UInt8):(dec L).length≤L.length:=by
 have H : ∀ (n : Nat) (L : List UInt8), (rO n L).length ≤ L.length := by
  intro n;induction n with
  |zero=>intro L;simp[rO]
  | succ n ih=>
   intro L;cases L with
   |nil=>simp[rO]
   |cons x t=>
    rw[rO];split
    ·have:=ih (t.drop 2);simp at this⊢;omega
    have:=ih t;simp at this⊢;omega
 exact H _ _
theorem qC (c:UInt8): -1≤hex c.toNat∧hex c.toNat≤15:=by
 unfold hex
 (repeat' split)<;>omega
attribute [local go_sem ↓] Go.wp_at_zero Go.wp_at_succ
def yA (L:List UInt8):Value×Bool:=match esc L with
 |some c=>(.int .u8 (c.toNat:Int),true)
 |none=>(.int .u8 0,false)
theorem Hu (s:ByteArray) (h:s.size<3):esc s.data.toList=none:=by
 have a:s.data.toList.length<3:=by rw[Array.length_toList];exact h
 match e:s.data.toList,a with
 |[],_=>rfl
 |[_],_=>rfl
 |[_,_],_=>rfl
theorem UR (s:ByteArray) (h:3≤s.size):∃t,s.data.toList=s[0]::s[1]::s[2]::t:=by
 have d:3≤s.data.toList.length:=by rw[Array.length_toList];exact h
 match e:s.data.toList,d with
 |a::b::c::t,_=>
  have i:s[0]=a:=by
   have:s.data.toList[0]'(by omega)=a:=by simp[e]
   exact this
  have g:s[1]=b:=by
   have:s.data.toList[1]'(by omega)=b:=by simp[e]
   exact this
  have f:s[2]=c:=by
   have:s.data.toList[2]'(by omega)=c:=by simp[e]
   exact this
  exact⟨t,by rw[i,g,f]⟩
theorem aaf (z:Int) (c:0≤z) (a:z≤255):((UInt8.ofNat z.toNat).toNat:Int)=z:=by simp;omega
theorem ae4 (h l:Int) (d:0≤h) (f:h≤15) (c:0≤l) (e:l≤15):bits .or .i64 (h*16) l=16*h+l:=by
 have H:∀a b:Fin 16,bits .or .i64 ((a.val:Int)*16) (b.val:Int)=16*(a.val:Int)+(b.val:Int):=by decide+kernel
 have:=H ⟨h.toNat,by omega⟩ ⟨l.toNat,by omega⟩;simp only[Int.toNat_of_nonneg d,Int.toNat_of_nonneg c]at this;exact this
theorem aaV (c:Int) (w:World) (d:0≤c) (a:c≤255):Calls prog 182 #[.int .u8 c] w fun e w'=>e=.returned (.int .i64 (hex c))∧w'=w:=
 (dI c w d a).mono fun _ _ ⟨he,hw⟩=>⟨he,hw.symm⟩
theorem CW (s:ByteArray) (w:World) (v:s.size≤maxLen):Calls prog 120 #[.string s] w fun e w'=>e=.returned (.tuple #[(yA s.data.toList).1,.bool (yA s.data.toList).2])∧Below w.heap.size w w':=by
 unfold maxLen at v;by_cases h3:s.size<3
 ·have d:Hid (yA s.data.toList=(.int .u8 0,false)):=by unfold yA;rw[Hu s h3];exact rfl
  have m:(s.size:Int)<3:=by omega
  go_enter func120,ntmps120;go_wp2;go_ret2;rw[d.out];exact⟨rfl,Below.refl _ _⟩
 have m:(3:Int)≤(s.size:Int):=by omega
 obtain⟨t,n⟩:=UR s (by omega);obtain⟨a,C⟩:∃a,s[0]=a:=⟨_,rfl⟩;obtain⟨b,B⟩:∃b,s[1]=b:=⟨_,rfl⟩;obtain⟨c,z⟩:∃c,s[2]=c:=⟨_,rfl⟩;rw[C,B,z]at n;have j:=hid n;have A:0≤(b.toNat:Int)∧(b.toNat:Int)≤255:=by have:=b.toNat_lt;omega
 have y:0≤(c.toNat:Int)∧(c.toNat:Int)≤255:=by have:=c.toNat_lt;omega
 by_cases h37:a=37
 ·subst h37;have i:(((37:UInt8).toNat:Int) !=37)=false:=by decide
  obtain⟨r,l⟩:=qC b;obtain⟨q,k⟩:=qC c;by_cases hx:hex b.toNat<0
  ·have d:Hid (yA s.data.toList=(.int .u8 0,false)):=by
    unfold yA;rw[j.out,esc,if_neg (by intro h;omega)];exact rfl
   go_enter func120,ntmps120;go_wp2
   go_quiet ((go_at_call 182;exact Calls.quiet_of_same (aaV _ _ (by omega) (by omega))))
   go_wp2;go_ret2;rw[d.out];exact⟨rfl,Base.below_drewN (Below.refl _ _) _⟩
  have g:0≤hex b.toNat:=by omega
  by_cases hy:hex c.toNat<0
  ·have d:Hid (yA s.data.toList=(.int .u8 0,false)):=by
    unfold yA;rw[j.out,esc,if_neg (by intro h;omega)];exact rfl
   go_enter func120,ntmps120;go_wp2
   go_quiet ((go_at_call 182;exact Calls.quiet_of_same (aaV _ _ (by omega) (by omega))))
   go_wp2;go_ret2;rw[d.out];exact⟨rfl,Base.below_drewN (Below.refl _ _) _⟩
  have f:0≤hex c.toNat:=by omega
  have d:Hid (yA s.data.toList=(.int .u8 (16*hex b.toNat+hex c.toNat),true)):=by
   unfold yA;rw[j.out,esc,if_pos ⟨rfl,g,f⟩];show(Value.int .u8 ((UInt8.ofNat (16*hex b.toNat+hex c.toNat).toNat).toNat:Int),true)=_;rw[aaf _ (by omega) (by omega)]
  have x:=ae4 _ _ g l f k;go_enter func120,ntmps120;go_wp2
  go_quiet ((go_at_call 182;exact Calls.quiet_of_same (aaV _ _ (by omega) (by omega))))
  go_wp2;go_ret2;rw[d.out];exact⟨AQ rfl rfl,Base.below_drewN (Below.refl _ _) _⟩
 have d:Hid (yA s.data.toList=(.int .u8 0,false)):=by
  unfold yA;rw[j.out,esc,if_neg (by intro h;exact h37 h.1)];exact rfl
 have i:((a.toNat:Int) !=37)=true:=by
  simp;intro h;exact h37 (UInt8.toNat_inj.1 (by simp;omega))
 go_enter func120,ntmps120;go_wp2;go_ret2;rw[d.out];exact⟨rfl,Below.refl _ _⟩
theorem extract_drop (s:ByteArray) (k:Nat) (_h:k≤s.size):(s.extract k s.size).data.toList=s.data.toList.drop k:=by
 rw[ByteArray.data_extract];simp[Array.toList_extract,List.extract_eq_take_drop];rw[List.take_of_length_le (by rw[List.length_drop,Array.length_toList];exact Nat.le_refl _)]
theorem nJ (s:ByteArray) (w:World) (W:s.size≤1073741824):Calls prog 48 #[.string s] w fun e w'=>∃v,e=.returned v∧w'.ownsRow w.heap.size 5 1 v (dec s.data.toList).length (aQ (dec s.data.toList))∧Below w.heap.size w w':=by
 obtain⟨C,hi,r,q,n⟩:=info_parts pU;have P:s.data.toList.length=s.size:=Array.length_toList;have H:=hid P;go_enter func48,ntmps48;go_wp2_with (at_make;refine wpList_make_own _ rfl _ _ 45 rfl w.heap.size 5 C (.int .u8 0) 1 underlying45 hi r q .i64 .i64 _ s.size rfl rfl rfl (by rw[n];omega) (by unfold maxLen;omega) (Nat.le_refl _) ?_)
 intro N t E;have y:Below w.heap.size w N:=(Below.refl _ _).grown E (Nat.le_refl _) (by intro k h;cases h);go_wp2;go_loopw [3,4] (fun v vk wr=>∃(j:Nat) (X:List UInt8),j≤s.size∧X.length≤j∧vk=.int .i64 j∧wr.ownsRow w.heap.size 5 1 v X.length (aQ X)∧Below w.heap.size w wr∧Hid (X++dec (s.data.toList.drop j)=dec s.data.toList)) (fun _ vk _=>s.size - (intOf vk).toNat)
 case atStart=>exact⟨0,[],Nat.zero_le _,Nat.le_refl _,rfl,t,y,rfl⟩
 case round=>
  obtain⟨j,X,Q,Y,rfl,l,d,F⟩:=hrel;by_cases hlt:j<s.size
  ·obtain ⟨x,hx⟩:∃x,s[j]=x:=⟨_,rfl⟩;have T:s.data.toList.drop j=x::s.data.toList.drop (j+1):=by
    rw[←hx];exact List.drop_eq_getElem_cons (by rw[H.out];exact hlt)
   have I:=hid T;have A:Hid ((s.extract j s.size).data.toList=s.data.toList.drop j):=extract_drop s j Q;have D:(s.extract j s.size).size=s.size - j:=by simp
   have z:=hid D;cases hesc:esc (s.data.toList.drop j)with
   | none=>
    have HV:Hid (yA (s.extract j s.size).data.toList=(.int .u8 0,false)):=by
     unfold yA;rw[A.out,hesc];exact rfl
    have G:Hid (dec (s.data.toList.drop j)=x::dec (s.data.toList.drop (j+1))):=by
     rw[I.out]at hesc⊢;exact lq _ _ hesc
    go_wp2_with fail
    refine(CW _ _ (by rw[z.out];unfold maxLen;omega)).mono ?_;rintro e L ⟨rfl,m⟩;rw[HV.out];have g:=bf l m;have a:=d.trans (m.mono d.size);go_wp2_with (at_builtin;refine bI rfl _ _ 45 rfl w.heap.size 5 C (.int .u8 0) 1 underlying45 hi r q n rfl _ X.length _ rfl g a a.size [.int .u8 (x.toNat:Int)] 1 rfl rfl (by intro u B;simp at B;subst B;rfl) (by unfold maxLen;omega) (by omega) ?_)
    intro O J f i;go_wp2;go_roundw
    case rel=>exact⟨j+1,X++[x],by omega,by simp;omega,by go_num,by rw[dR,List.length_append];exact f,i,by
      rw[List.append_assoc];have:=F.out;rw[G.out]at this;exact this⟩
    case measure=>simp[intOf];omega
   | some c=>
    have Z:j+3≤s.size:=by
     rcases Nat.lt_or_ge (s.size - j) 3 with h|h
     ·have:=Hu (s.extract j s.size) (by rw[z.out];exact h);rw[A.out,hesc]at this;cases this
     omega
    have HV:Hid (yA (s.extract j s.size).data.toList=(.int .u8 (c.toNat:Int),true)):=by
     unfold yA;rw[A.out,hesc];exact rfl
    have G:Hid (dec (s.data.toList.drop j)=c::dec (s.data.toList.drop (j+3))):=by
     rw[I.out]at hesc⊢;rw[sH _ _ _ hesc,List.drop_drop];exact rfl
    go_wp2_with fail
    refine(CW _ _ (by rw[z.out];unfold maxLen;omega)).mono ?_;rintro e L ⟨rfl,m⟩;rw[HV.out];have g:=bf l m;have a:=d.trans (m.mono d.size);go_wp2_with (at_builtin;refine bI rfl _ _ 45 rfl w.heap.size 5 C (.int .u8 0) 1 underlying45 hi r q n rfl _ X.length _ rfl g a a.size [.int .u8 (c.toNat:Int)] 1 rfl rfl (by intro u B;simp at B;subst B;rfl) (by unfold maxLen;omega) (by omega) ?_)
    intro O J f i;go_wp2;go_roundw
    case rel=>exact⟨j+3,X++[c],by omega,by simp;omega,by rw[show((j+3:Nat):Int)=(j:Int)+2+1 by omega],by rw[dR,List.length_append];exact f,i,by
      rw[List.append_assoc];have:=F.out;rw[G.out]at this;exact this⟩
    case measure=>simp[intOf];omega
  obtain rfl:j=s.size:=by omega
  have V:Hid (X=dec s.data.toList):=by
   have e:=F.out;rw[←H.out,List.drop_length,mO,List.append_nil]at e;exact e
  go_wp2;go_ret;exact⟨_,rfl,by rw[←V.out];exact l,d⟩
end nD
namespace jy
open Go.RowKit Base gJ lS qm
def FRB:List UInt8:=[0,9,10,13,32,35,47,58,60,62,63,64,91,92,93,94,124]
def RH (c:UInt8):Bool:=FRB.contains c
def zx (d:Bool) (c:UInt8):Bool:=RH c||(d&&(decide (c.toNat<32)||(c==127||c==37)))
theorem Hw (c:UInt8):zx false c=RH c:=by simp[zx]
def okb (d:Bool) (c:UInt8):Bool:= !(zx d c)&&(!d||decide (c.toNat≤126))
def oks (d:Bool) (L:List UInt8):Bool:=L.all (okb d)
def VZ (V:List Nat):List UInt8:=jE.prt fun i=>V.getD i 0
def addr (M:List UInt8):Option (List UInt8):=match six M with
 |none=>none
 |some V=>some (91::(VZ V++[93]))
def hbr (M:List UInt8):Option (List UInt8):=if Lib.hasSuffix M [93]=true then addr (Lib.trimSuffix M [93])else none
def I9 (M:List UInt8):Option (List UInt8):=if M=[]then none else if ends M=true then(Dz M).map yN.pr else some M
def NU (L:List UInt8):Option (List UInt8):=if oks true L=true then I9 (lower L)else none
def SB (s:List UInt8):Option (List UInt8):=if oks false s=true then some (aG.enc 0 s)else none
def aU (s:List UInt8) (sp:Bool):Option (List UInt8):=if s.head?=some 91 then hbr s.tail else if sp=true then NU (nD.dec s)else SB s
def HV (o:Option (List UInt8)):Value:=match o with
 |none=>.tuple #[.string (ah []),.bool false]
 |some L=>.tuple #[.string (ah L),.bool true]
theorem H7 (c:UInt8):decide (0≤Lib.indexByte FRB c)=RH c:=by
 have H:∀n:Fin 256,decide (0≤Lib.indexByte FRB (UInt8.ofNat n.val))=RH (UInt8.ofNat n.val):=by decide+kernel
 have:=H ⟨c.toNat,c.toNat_lt⟩;simpa using this
theorem qG (c:UInt8):okb true c=(!(zx true c)&&decide (c.toNat≤126)):=by simp[okb]
theorem RI (c:UInt8) (h:RH c=true):c=0∨c=9∨c=10∨c=13∨c=32∨c=35∨c=47∨c=58∨c=60∨c=62∨c=63∨c=64∨c=91∨c=92∨c=93∨c=94∨c=124:=by
 unfold RH FRB at h;simpa using h
theorem gY (c:UInt8) (h:RH c=false) (k:UInt8) (a:RH k=true):((c.toNat:Int)==(k.toNat:Int))=false:=by
 rw[beq_eq_false_iff_ne];intro e;have:c=k:=UInt8.toNat_inj.1 (by omega);rw[this,a]at h;cases h
theorem Yw (c:UInt8):okb true (low c)=okb true c:=by
 have H:∀n:Fin 256,okb true (low (UInt8.ofNat n.val))=okb true (UInt8.ofNat n.val):=by decide+kernel
 have:=H ⟨c.toNat,c.toNat_lt⟩;simpa using this
theorem Il (L:List UInt8):oks true (lower L)=oks true L:=by
 unfold oks lower;rw[List.all_map];congr 1
 funext c
 exact Yw c
theorem jQ (d:Bool) (L:List UInt8) (k:Nat) (h:k<L.length):oks d (L.take (k+1))=(oks d (L.take k)&&okb d L[k]):=by
 unfold oks;rw[List.take_succ_eq_append_getElem h,List.all_append];simp
theorem uQ (d:Bool) (L:List UInt8) (k:Nat) (h:k<L.length) (a:okb d L[k]=false):oks d L=false:=by
 unfold oks;rw[List.all_eq_false];exact⟨L[k],List.getElem_mem h,by rw[a];exact Bool.false_ne_true⟩
end jy
