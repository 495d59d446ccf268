/- Texts that belong together: RefD, akn, CV, qg, Regs, IdxM, OW. -/
import Derived.Test.YtmpeaoacaecgpaaGreatDoorXAB
import Derived.Deep.QuietTactic
import Derived.BigQuiet
import Derived.Test.YtmpeaoacaecgpaaGreatDoorXAA
import Derived.Lib.TrimUEq
import Derived.Laws.RangeAny
import Derived.Test.YtmpeaoacaecgpaaGreatDoorShelf
import Derived.Laws.Runes
import Derived.Deep.LoopGhost
import Derived.WalkMore
set_option linter.unusedSimpArgs false
set_option linter.unusedVariables false
set_option maxRecDepth 100000
set_option maxHeartbeats 64000000
namespace Go.Proofs.YtmpeaoacaecgpaaGreatDoor.RefD
open Go.RowKit Base Base2 qh RefS RefN RefM
def akr (L:List UInt8) (j:Nat) (wh:Bool):Prop:=j=0∧wh=false∨1≤j∧j≤L.length∧st (L.take j)=(true,wh)
theorem LG (x:UInt8) (T:List UInt8) (j:Nat) (wh:Bool) (h:akr (x::T) j wh) (hend:wh=true∨j=T.length+1∨j≤T.length∧(st ((x::T).take (j+1))).1=false):
  (wh=true→rd (x::T)=(fo (first x.toNat) ((x::T).take j).tail,(j:Int),true)∧st ((x::T).take j)=(true,true)∧1≤j∧j≤T.length+1)∧(wh=false→rd (x::T)=(65533,((max j 1:Nat):Int),false)):=by
 constructor
 ·rintro rfl
  rcases h with⟨_,h⟩|⟨h1,h2,h3⟩
  ·cases h
  ·obtain⟨i,rfl⟩:∃i,j=i+1:=⟨j - 1,by omega⟩
   rw[List.take_succ_cons]at h3⊢
   have e:=an2 x (T.take i) (T.drop i) h3
   rw[List.take_append_drop]at e
   refine⟨?_,h3,by omega,by simpa using h2⟩
   rw[e]
   simp only[List.tail_cons,List.length_take,List.length_cons]at h2⊢
   refine Prod.ext rfl (Prod.ext ?_ rfl)
   simp only
   omega
 ·rintro rfl
  rcases h with⟨rfl,_⟩|⟨h1,h2,h3⟩
  ·rcases hend with h|h|⟨_,h⟩
   ·cases h
   ·omega
   ·rw[List.take_succ_cons,List.take_zero]at h
    exact none_rd x T h
  ·obtain ⟨i,rfl⟩:∃i,j=i+1:=⟨j - 1,by omega⟩
   rw[List.take_succ_cons]at h3
   simp only[List.length_cons]at h2
   have e:=part_rd x (T.take i) (T.drop i) h3 (by
    rcases hend with h|h|⟨h4,h⟩
    ·cases h
    ·exact .inl (List.drop_of_length_le (by omega))
    ·refine .inr ⟨T[i],T.drop (i+1),List.drop_eq_getElem_cons (by omega),?_⟩
     rw[List.take_succ_cons,List.take_succ_eq_append_getElem (by omega)]at h
     exact h)
   rw[List.take_append_drop]at e
   rw[e]
   refine Prod.ext rfl (Prod.ext ?_ rfl)
   simp only[List.length_take]
   omega
theorem abD (L:List UInt8) (j:Nat) (wh:Bool) (h:akr L j wh):j≤4∧j≤L.length:=by
 rcases h with⟨rfl,_⟩|⟨h1,h2,h3⟩
 ·exact⟨by omega,by omega⟩
 obtain⟨x,T,rfl⟩:∃x T,L=x::T:=by
  cases L with
  |nil=>simp at h2;omega
  |cons x T=>exact⟨x,T,rfl⟩
 obtain⟨i,rfl⟩:∃i,j=i+1:=⟨j - 1,by omega⟩
 rw[List.take_succ_cons]at h3
 obtain⟨h4,_⟩:=JC x _ _ h3
 have:=size_le x.toNat
 simp only[List.length_take,List.length_cons]at h4 h2
 exact⟨by omega,by simp;omega⟩
def KT:Value→Nat
 | .slice _ n _=>n
 |_=>0
theorem decode_any (A0:Option Addr) (n0 cap0:Nat) (L:List UInt8) (w:World) (h:aY w A0 n0 (ah L)) (hm:n0≤1073741824) (hcap:n0≤cap0):
  Calls Tryz.prog 61 #[.slice A0 n0 cap0] w fun e w'=>∃v,e=.returned v∧w'.ownsRow w.heap.size 21 1 v (dec L).length (gV .i32 (dec L))∧Below w.heap.size w w':=by
 have hl:L.length=n0:=by rw[←aI];exact h.1
 have HL:=hid hl
 clear hl
 obtain⟨i0,hi,hz0,hz1,hz2⟩:=info_parts info21
 have HH:=hid h
 clear h
 go_enter Tryz.func61,Tryz.ntmps61
 go_wp2
 go_loopw [0,3] (fun vb v wr=>∃(A:Option Addr) (n cap:Nat) (R:List UInt8) (acc:List Int),n≤cap∧acc.length+n≤1073741824∧vb=.slice A n cap∧aY w A n (ah R)∧wr.ownsRow w.heap.size 21 1 v acc.length (gV .i32 acc)∧Below w.heap.size w wr∧Hid (acc++dec R=dec L)) (fun vb _ _=>KT vb)
 case atStart=>exact⟨A0,n0,cap0,L,[],hcap,by simpa using hm,rfl,HH.out,World.ownsRow_nil _ _ _ _,Below.refl _ _,rfl⟩
 case round =>
  clear HH HL hcap hm
  obtain⟨A,n,cap,R,acc,hcap,hlen,rfl,hr,hown,hbel,HT⟩:=hrel
  cases R with
  |nil=>
   have hn0:n=0:=by have:=hr.1;simp[ah]at this;omega
   subst hn0
   clear hr
   have HE:Hid (acc=dec L):=by
    have e:=HT.out
    rw[lT,List.append_nil]at e
    exact e
   go_wp2
   go_ret
   exact⟨_,rfl,by rw[←HE.out];exact hown,hbel⟩
  | cons x T=>
   have hn1:n=T.length+1:=by have:=hr.1;rw[aI]at this;exact this.symm
   obtain⟨b,off,rfl,hb,_⟩:=hr.spot (by omega)
   have hp:0<n:=by omega
   have HLEN:=hid hn1
   clear hn1
   have hrw:aY wr (some ⟨b,off,none⟩) n (ah (x::T)):=hr.below hbel
   have HRW:=hid hrw
   have HR:=hid hr
   clear hrw hr
   go_wp2
   go_loop [4,5,6,7] (fun vn vw _ _=>∃(j:Nat) (wh:Bool),j≤n∧j≤4∧vn=.int .i64 j∧vw=.bool wh∧Hid (akr (x::T) j wh)) (fun vn _ _ _=>n - (intOf vn).toNat)
   case atStart=>exact⟨0,false,Nat.zero_le _,by omega,rfl,rfl,.inl ⟨rfl,rfl⟩⟩
   case round=>
    obtain⟨j,wh,hj,hj4,rfl,rfl,HS⟩:=hrel
    cases wh with
    | true=>
     obtain⟨hrd,hst,hj1,hjT⟩:=(LG x T j true HS.out (.inl rfl)).1 rfl
     have uq:=hid hrd
     have hcut:Hid (aY wr (some ⟨b,off,none⟩) j (ah (x::((x::T).take j).tail))):=by
      have:=HRW.out.upto j hj
      rw[←lC]at this
      obtain⟨i,rfl⟩:∃i,j=i+1:=⟨j - 1,by omega⟩
      exact this
     have hst':Hid (st (x::((x::T).take j).tail)=(true,true)):=by
      obtain⟨i,rfl⟩:∃i,j=i+1:=⟨j - 1,by omega⟩
      exact hst
     clear hrd hst
     have hjc:(j:Int)≤(cap:Int):=by omega
     obtain⟨q,hq⟩:∃q,q=fo (first x.toNat) ((x::T).take j).tail:=⟨_,rfl⟩
     have HQ:=hid hq
     clear hq
     by_cases hlt:j<n
     all_goals
      go_wp2_with fail
      refine(bf b off j cap x ((x::T).take j).tail _ hcut.out hst'.out).mono ?_
      rintro e w1 ⟨rfl,rfl⟩
      rw[←HQ.out]
      go_wp2_with (at_builtin;refine aQ rfl _ _ 73 rfl w.heap.size 21 i0 (.int .i32 0) 4 Tryz.underlying73 hi hz0 hz1 hz2 rfl _ acc.length _ rfl hown hbel hbel.size [.int .i32 (q)] 1 rfl rfl (by intro u hu;simp at hu;subst hu;rfl) (by unfold maxLen;omega) (by omega) ?_)
      intro v' w3 hown3 dG
      clear hown hbel
      have OI:Hid (dec (x::T)=(q)::dec ((x::T).drop (j))):=by
       rw[iK,uq.out,←HQ.out]
       exact rfl
      by_cases hcm:cap=j
      ·have hnm:n=j:=by omega
       have OL:Hid ((x::T).drop (j)=[]):=List.drop_of_length_le (by have:=HLEN.out;rw[List.length_cons];omega)
       go_wp2
       go_roundw
       case rel=>exact⟨some ⟨b,off,none⟩,0,0,[],acc++[q],by omega,by simp;omega,(by first|(simp;done)|(simp;omega)),aY.nil _,by rw[iE,List.length_append];exact hown3,dG,by
         have e:=HT.out
         rw[OI.out,OL.out]at e
         rw[List.append_assoc]
         exact e⟩
       case measure=>simp[KT];omega
      ·go_wp2
       go_roundw
       case rel=>exact⟨some ⟨b,off+(j),none⟩,n - (j),cap - (j),(x::T).drop (j),acc++[q],by omega,by simp;omega,(by first|rfl|(simp;done)|(simp;omega)),by rw[jl];exact HR.out.cut _ (by omega),by rw[iE,List.length_append];exact hown3,dG,by
         have e:=HT.out
         rw[OI.out]at e
         rw[List.append_assoc]
         exact e⟩
       case measure=>simp[KT];omega
    | false =>
     by_cases hlt:j<n
     ·have hcut:Hid (aY wr (some ⟨b,off,none⟩) (j+1) (ah (x::T.take j))):=by
       have:=HRW.out.upto (j+1) (by omega)
       rw[←lC,List.take_succ_cons]at this
       exact this
      have hcm:(j:Int)+1≤(cap:Int):=by omega
      obtain⟨p,hpp⟩:∃p,p=st (x::T.take j):=⟨_,rfl⟩
      have HP:=hid hpp
      clear hpp
      go_wp2_with fail
      refine(aeC b off (j+1) cap x (T.take j) _ hcut.out (by omega)).mono ?_
      rintro e w1 ⟨rfl,rfl⟩
      rw[←HP.out]
      obtain⟨ok,is⟩:=p
      cases ok with
      | true=>
       go_wp2
       go_round
       case rel=>exact⟨j+1,is,by omega,by
         have:=(abD (x::T) (j+1) is (.inr ⟨by omega,by simp;have:=HLEN.out;omega,by rw[List.take_succ_cons];exact HP.out.symm⟩)).1
         omega,by go_num,rfl,.inr ⟨by omega,by simp;have:=HLEN.out;omega,by rw[List.take_succ_cons];exact HP.out.symm⟩⟩
       case measure=>simp[intOf];omega
      | false=>
       have uq:Hid (rd (x::T)=(65533,((max j 1:Nat):Int),false)):=(LG x T j false HS.out (.inr (.inr ⟨by have:=HLEN.out;omega,by rw[List.take_succ_cons,←HP.out]⟩))).2 rfl
       by_cases hj0:j=0
       ·subst hj0
        go_wp2_with (at_builtin;refine aQ rfl _ _ 73 rfl w.heap.size 21 i0 (.int .i32 0) 4 Tryz.underlying73 hi hz0 hz1 hz2 rfl _ acc.length _ rfl hown hbel hbel.size [.int .i32 (65533)] 1 rfl rfl (by intro u hu;simp at hu;subst hu;rfl) (by unfold maxLen;omega) (by omega) ?_)
        intro v' w3 hown3 dG
        clear hown hbel
        have OI:Hid (dec (x::T)=(65533)::dec ((x::T).drop (1))):=by
         rw[iK,uq.out]
         exact rfl
        by_cases hcm:cap=1
        ·have hnm:n=1:=by omega
         have OL:Hid ((x::T).drop (1)=[]):=List.drop_of_length_le (by have:=HLEN.out;rw[List.length_cons];omega)
         go_wp2
         go_roundw
         case rel=>exact⟨some ⟨b,off,none⟩,0,0,[],acc++[65533],by omega,by simp;omega,(by first|(simp;done)|(simp;omega)),aY.nil _,by rw[iE,List.length_append];exact hown3,dG,by
           have e:=HT.out
           rw[OI.out,OL.out]at e
           rw[List.append_assoc]
           exact e⟩
         case measure=>simp[KT];omega
        ·go_wp2
         go_roundw
         case rel=>exact⟨some ⟨b,off+(1),none⟩,n - (1),cap - (1),(x::T).drop (1),acc++[65533],by omega,by simp;omega,(by first|rfl|(simp;done)|(simp;omega)),by rw[jl];exact HR.out.cut _ (by omega),by rw[iE,List.length_append];exact hown3,dG,by
           have e:=HT.out
           rw[OI.out]at e
           rw[List.append_assoc]
           exact e⟩
         case measure=>simp[KT];omega
       ·have hj1:1≤j:=by omega
        have hmx:Hid (max j 1=j):=by show max j 1=j;omega
        rw[hmx.out]at uq
        go_wp2_with (at_builtin;refine aQ rfl _ _ 73 rfl w.heap.size 21 i0 (.int .i32 0) 4 Tryz.underlying73 hi hz0 hz1 hz2 rfl _ acc.length _ rfl hown hbel hbel.size [.int .i32 (65533)] 1 rfl rfl (by intro u hu;simp at hu;subst hu;rfl) (by unfold maxLen;omega) (by omega) ?_)
        intro v' w3 hown3 dG
        clear hown hbel
        have OI:Hid (dec (x::T)=(65533)::dec ((x::T).drop (j))):=by
         rw[iK,uq.out]
         exact rfl
        by_cases hcm:cap=j
        ·have hnm:n=j:=by omega
         have OL:Hid ((x::T).drop (j)=[]):=List.drop_of_length_le (by have:=HLEN.out;rw[List.length_cons];omega)
         go_wp2
         go_roundw
         case rel=>exact⟨some ⟨b,off,none⟩,0,0,[],acc++[65533],by omega,by simp;omega,(by first|(simp;done)|(simp;omega)),aY.nil _,by rw[iE,List.length_append];exact hown3,dG,by
           have e:=HT.out
           rw[OI.out,OL.out]at e
           rw[List.append_assoc]
           exact e⟩
         case measure=>simp[KT];omega
        ·go_wp2
         go_roundw
         case rel=>exact⟨some ⟨b,off+(j),none⟩,n - (j),cap - (j),(x::T).drop (j),acc++[65533],by omega,by simp;omega,(by first|rfl|(simp;done)|(simp;omega)),by rw[jl];exact HR.out.cut _ (by omega),by rw[iE,List.length_append];exact hown3,dG,by
           have e:=HT.out
           rw[OI.out]at e
           rw[List.append_assoc]
           exact e⟩
         case measure=>simp[KT];omega
     ·have hjn : j = n := by omega
      subst hjn
      have uq:Hid (rd (x::T)=(65533,((max j 1:Nat):Int),false)):=(LG x T j false HS.out (.inr (.inl HLEN.out))).2 rfl
      by_cases hj0:j=0
      ·exact absurd hp (by omega)
      ·have hj1:1≤j:=by omega
       have hmx:Hid (max j 1=j):=by show max j 1=j;omega
       rw[hmx.out]at uq
       go_wp2_with (at_builtin;refine aQ rfl _ _ 73 rfl w.heap.size 21 i0 (.int .i32 0) 4 Tryz.underlying73 hi hz0 hz1 hz2 rfl _ acc.length _ rfl hown hbel hbel.size [.int .i32 (65533)] 1 rfl rfl (by intro u hu;simp at hu;subst hu;rfl) (by unfold maxLen;omega) (by omega) ?_)
       intro v' w3 hown3 dG
       clear hown hbel
       have OI:Hid (dec (x::T)=(65533)::dec ((x::T).drop (j))):=by
        rw[iK,uq.out]
        exact rfl
       by_cases hcm:cap=j
       ·have hnm:j=j:=rfl
        have OL:Hid ((x::T).drop (j)=[]):=List.drop_of_length_le (by have:=HLEN.out;rw[List.length_cons];omega)
        go_wp2
        go_roundw
        case rel=>exact⟨some ⟨b,off,none⟩,0,0,[],acc++[65533],by omega,by simp;omega,(by first|(simp;done)|(simp;omega)),aY.nil _,by rw[iE,List.length_append];exact hown3,dG,by
          have e:=HT.out
          rw[OI.out,OL.out]at e
          rw[List.append_assoc]
          exact e⟩
        case measure=>simp[KT];omega
       ·go_wp2
        go_roundw
        case rel=>exact⟨some ⟨b,off+(j),none⟩,j - (j),cap - (j),(x::T).drop (j),acc++[65533],by omega,by simp;omega,(by first|rfl|(simp;done)|(simp;omega)),by rw[jl];exact HR.out.cut _ (by omega),by rw[iE,List.length_append];exact hown3,dG,by
          have e:=HT.out
          rw[OI.out]at e
          rw[List.append_assoc]
          exact e⟩
        case measure=>simp[KT];omega
end Go.Proofs.YtmpeaoacaecgpaaGreatDoor.RefD
namespace Go.Proofs.YtmpeaoacaecgpaaGreatDoor.akn
open Go.RowKit Base Base2 qh acU
theorem ku (L:List UInt8):(dec L).length≤L.length:=by
 have H:∀(n:Nat) (L:List UInt8),L.length≤n→(dec L).length≤L.length:=by
  intro n
  induction n with
  |zero=>intro L hl;obtain rfl:L=[]:=List.eq_nil_of_length_eq_zero (by omega);simp[lT]
  |succ n ih=>
   intro L hl
   cases L with
   |nil=>simp[lT]
   |cons x t=>
    have hs:=nJ x t
    rw[iK,List.length_cons,List.length_cons]
    have:=ih ((x::t).drop (rd (x::t)).2.1.toNat) (by simp only[List.length_drop,List.length_cons]at hl⊢;omega)
    simp only[List.length_drop,List.length_cons]at this
    omega
 exact H _ L (Nat.le_refl _)
theorem fF (A:Option Addr) (n cap:Nat) (L:List UInt8) (w:World) (h:aY w A n (ah L)) (hm:n≤1073741824) (hcap:n≤cap):
  Calls Tryz.prog 99 #[.slice A n cap] w fun e w'=>e=.returned (.bool (val L))∧Below w.heap.size w w':=by
 have hl:L.length=n:=by rw[←aI];exact h.1
 have HDL:Hid ((dec L).length≤1073741824):=by have:=ku L;show _≤_;omega
 have hs0:=aF 45 9 5 Tryz.underlying45 Tryz.underlying5 Tryz.underlying9 _ cap h
 have hs0':=aF 45 9 5 Tryz.underlying45 Tryz.underlying5 Tryz.underlying9 _ cap (uT h)
 have hbel0:Below w.heap.size w w:=Below.refl _ _
 have HV:Hid (((strOf (BI.enc (dec L))).toList==(strOf L).toList)=val L):=by
  show _=_
  rw[strOf,strOf,ByteArray.toList_mk,ByteArray.toList_mk,val_iff,Bool.eq_iff_iff]
  simp
 clear hl
 go_enter Tryz.func99,Tryz.ntmps99
 go_wp2
 go_region_with (first
  |(go_at_call 61;refine(RefD.decode_any _ _ _ L _ (by first|assumption|exact uT (by assumption)) hm hcap).mono ?_;rintro e w2 ⟨v,rfl,hown,hb2⟩;obtain⟨A2,c2,rfl,hc2,_,hr2⟩:=aJ hown;have dZ:Below w.heap.size w w2:=(by first|exact bel (by assumption) hb2|exact CY (by assumption) hb2);have hl2:aY w2 A n (ah L):=(by first|exact aY.below (by assumption) hb2|exact D5 (by assumption) hb2);have hs2:=aF 45 9 5 Tryz.underlying45 Tryz.underlying5 Tryz.underlying9 _ cap hl2;have hs2':=aF 45 9 5 Tryz.underlying45 Tryz.underlying5 Tryz.underlying9 _ cap (uT hl2);clear hown)
  |(go_at_call 60;refine(RefC.Rn _ _ _ (dec L) _ (by first|assumption|exact uT (by assumption)) HDL.out).mono ?_;rintro e w3 ⟨v,rfl,hown,hb3⟩;obtain⟨A3,c3,rfl,hc3,_,hr3⟩:=aJ hown;have dG:Below w.heap.size w w3:=(by first|exact bel (by assumption) hb3|exact CY (by assumption) hb3);have hl3:aY w3 A n (ah L):=(by first|exact aY.below (by assumption) hb3|exact D5 (by assumption) hb3);have hs3:=aF 45 9 5 Tryz.underlying45 Tryz.underlying5 Tryz.underlying9 _ cap hl3;have hs3':=aF 45 9 5 Tryz.underlying45 Tryz.underlying5 Tryz.underlying9 _ cap (uT hl3);have he3:=aF 45 9 5 Tryz.underlying45 Tryz.underlying5 Tryz.underlying9 _ c3 hr3;have he3':=aF 45 9 5 Tryz.underlying45 Tryz.underlying5 Tryz.underlying9 _ c3 (uT hr3);clear hown))
 all_goals
  go_wp2
  go_ret
  refine⟨ak ?_,by first|assumption|exact Below.drew (by assumption)⟩
  rw[←HV.out]
end Go.Proofs.YtmpeaoacaecgpaaGreatDoor.akn
namespace Go.Proofs.YtmpeaoacaecgpaaGreatDoor.CV
open Go.RowKit Base Base2 pU WZ qh acU
theorem un (x:Int) (h0:0≤x) (h1:x≤255):(u x).toNat=x.toNat:=by have:=jw x h0 h1;omega
theorem Dj (r:Int) (h:Cc r) (t:List UInt8):Lib.decodeN (Lib.encodeRune r++t).length ((Lib.encodeRune r++t).getD 0 0).toNat ((Lib.encodeRune r++t).getD 1 0).toNat ((Lib.encodeRune r++t).getD 2 0).toNat ((Lib.encodeRune r++t).getD 3 0).toNat=(r.toNat,(Lib.encodeRune r).length):=by
 obtain⟨h0,h1,h2⟩:=h
 by_cases a:r≤127
 ·rw[enc1 r h0 a]
  simp only[List.cons_append,List.nil_append,List.getD_cons_zero,un r h0 (by omega),Lib.decodeN]
  rw[if_pos (by omega)]
  rfl
 by_cases b:r≤2047
 ·rw[enc2 r (by omega) b]
  simp only[List.cons_append,List.nil_append,List.getD_cons_zero,List.getD_cons_succ,un (192+r / 64) (by omega) (by omega),un (128+r%64) (by omega) (by omega),Lib.decodeN,List.length_cons,List.length_nil]
  rw[if_neg (by omega),if_pos (by omega),if_pos (by omega)]
  refine Prod.ext ?_ rfl
  simp only
  omega
 by_cases c:r≤65535
 ·rw[enc3 r (by omega)]
  simp only[List.cons_append,List.nil_append,List.getD_cons_zero,List.getD_cons_succ,un (224+r / 4096) (by omega) (by omega),un (128+r / 64%64) (by omega) (by omega),un (128+r%64) (by omega) (by omega),Lib.decodeN,List.length_cons,List.length_nil]
  rw[if_neg (by omega),if_neg (by omega),if_pos (by omega),if_pos (by omega)]
  refine Prod.ext ?_ rfl
  simp only
  omega
 rw[enc4 r (by omega) h1]
 simp only[List.cons_append,List.nil_append,List.getD_cons_zero,List.getD_cons_succ,un (240+r / 262144) (by omega) (by omega),un (128+r / 4096%64) (by omega) (by omega),un (128+r / 64%64) (by omega) (by omega),un (128+r%64) (by omega) (by omega),Lib.decodeN,List.length_cons,List.length_nil]
 rw[if_neg (by omega),if_neg (by omega),if_neg (by omega),if_pos (by omega),if_pos (by omega)]
 refine Prod.ext ?_ rfl
 simp only
 omega
theorem ahj (s:ByteArray) (pos:Nat) (h:pos<s.size) (hw:(rd (s.data.toList.drop pos)).2.2=true):
  ∃c z:Nat,Utf8.decode s pos=(c,z)∧(c:Int)=(rd (s.data.toList.drop pos)).1∧(z:Int)=(rd (s.data.toList.drop pos)).2.1∧c≤1114111:=by
 obtain⟨x,t,hL⟩:∃x t,s.data.toList.drop pos=x::t:=⟨_,_,drop_at s pos h⟩
 obtain⟨hC,hE⟩:=(sF x t).1 (by rw[←hL];exact hw)
 have hsz:=nJ x t
 have hpos:1≤(rd (x::t)).2.1.toNat:=by omega
 obtain⟨r,hr⟩:∃r,r=(rd (x::t)).1:=⟨_,rfl⟩
 obtain⟨z,hz⟩:∃z,z=(rd (x::t)).2.1.toNat:=⟨_,rfl⟩
 rw[←hr]at hC hE
 rw[←hz]at hE
 have hsplit:x::t=Lib.encodeRune r++(x::t).drop z:=by rw[hE,List.take_append_drop]
 have hlen:(Lib.encodeRune r).length=z:=by
  rw[hE,List.length_take,List.length_cons]
  omega
 have hd:=Dj r hC ((x::t).drop z)
 rw[←hsplit,hlen]at hd
 have hg:∀k,(x::t).getD k 0=s.data.toList.getD (pos+k) 0:=fun k=>by
  rw[←hL,List.getD_eq_getElem?_getD,List.getD_eq_getElem?_getD,List.getElem?_drop]
 have hl:(x::t).length=s.data.toList.length - pos:=by rw[←hL,List.length_drop]
 rw[hg,hg,hg,hg,hl,Nat.add_zero,←Lib.decode_N]at hd
 refine⟨r.toNat,z,hd,?_,?_,?_⟩
 ·rw[hL,←hr]
  have:=hC.1
  omega
 ·rw[hL]
  omega
 ·have:=hC.2.1
  omega
def qch (r:Int):Bool:=decide (r=9∨32≤r∧r≤126∨128≤r∧r≤255)
def quotable (L:List UInt8):Bool:=val L&&(dec L).all qch
theorem Jo (s : ByteArray) (w : World) (hs : s.size ≤ 1073741824) :
  Calls Tryz.prog 186 #[.string s] w fun e w'=>e=.returned (.bool (quotable s.data.toList))∧Below w.heap.size w w':=by
 have hl:s.data.toList.length=s.size:=Array.length_toList
 have HL:=hid hl
 clear hl
 have hcv:=fun(w:World) s=>run_bytes_of_string (P:=Tryz.prog) w 9 45 5 s Tryz.underlying9 Tryz.underlying45 Tryz.underlying5
 have Gh:Hid (s.size≤grownCap w s.size 0 5):=grownCap_ge w s.size 0 5
 cases hv:val s.data.toList
 ·have HV:Hid (quotable s.data.toList=false):=by show _=_;rw[quotable,hv,Bool.false_and]
  have HVV:=hid hv
  clear hv
  go_enter Tryz.func186,Tryz.ntmps186
  go_wp2_with fail
  refine(qh.fF _ s.size _ s.data.toList _ (fV s _ w 5) hs Gh.out).mono ?_
  rintro e w2 ⟨rfl,hb2⟩
  rw[HVV.out]
  clear hcv
  go_wp2_with fail
  go_ret
  rw[HV.out]
  exact⟨rfl,((Below.refl _ _).alloc (Nat.le_refl _) _).drew.trans (hb2.mono (by simp))⟩
 ·have HVV:=hid hv
  clear hv
  go_enter Tryz.func186,Tryz.ntmps186
  go_wp2_with fail
  refine(qh.fF _ s.size _ s.data.toList _ (fV s _ w 5) hs Gh.out).mono ?_
  rintro e w2 ⟨rfl,hb2⟩
  rw[HVV.out]
  clear hcv
  have hbel:Below w.heap.size w w2:=((Below.refl _ _).alloc (Nat.le_refl _) _).drew.trans (hb2.mono (by simp))
  clear hb2
  go_wp2_with fail
  go_loopw [] (fun wr=>∃pos:Nat,wr=w2.iter s pos∧pos≤s.size∧Hid (val (s.data.toList.drop pos)=true)∧Hid ((dec s.data.toList).all qch=(dec (s.data.toList.drop pos)).all qch)) (fun wr=>s.size - wr.iterPos w2.heap.size)
  case atStart=>exact⟨0,rfl,Nat.zero_le _,HVV.out,rfl⟩
  case round=>
   obtain⟨pos,rfl,hpos,OT,HQ⟩:=hrel
   by_cases hlt:pos<s.size
   ·have hvd:=ab5 s.data.toList pos (by rw[HL.out];exact hlt)
    rw[OT.out]at hvd
    have hvd':=hvd.symm
    rw[Bool.and_eq_true]at hvd'
    obtain⟨hw,hvn⟩:=hvd'
    obtain⟨c,z,hdec,hc,hz,hcm⟩:=ahj s pos hlt hw
    obtain⟨d1,d2,d3⟩:=Qc s.data.toList pos (by rw[HL.out];exact hlt)
    rw[←hz]at hvn d1 d2 d3
    rw[←hc]at d1
    simp only[Int.toNat_natCast]at hvn d1
    rw[HL.out]at d3
    have hz1:1≤z:=by omega
    have hz2:pos+z≤s.size:=by omega
    have HVN:=hid hvn
    have HD:=hid d1
    have hnx:∀ty,(Instr.next (.pointer (some ⟨w2.heap.size,0,none⟩)) true ty).run Tryz.prog (w2.iter s pos)=.ok (.tuple #[.bool true,.int .i64 pos,.int .i32 (c:Int)]) (w2.iter s (pos+z)):=fun ty=>by
     have:=run_next_any (P:=Tryz.prog) w2 s pos ty hlt
     rw[hdec]at this
     exact this
    clear hvd hw hvn hdec hc hz d1 d2 d3
    by_cases hq:(c:Int)=9∨32≤(c:Int)∧(c:Int)≤126∨128≤(c:Int)∧(c:Int)≤255
    ·have HQ2:Hid ((dec s.data.toList).all qch=(dec (s.data.toList.drop (pos+z))).all qch):=by
      show _=_
      rw[HQ.out,HD.out,List.all_cons,show qch (c:Int)=true by unfold qch;rw[decide_eq_true_iff];exact hq,Bool.true_and]
     rcases hq with h|⟨h1,h2⟩|⟨h1,h2⟩
     ·have e1:((c:Int) !=9)=false:=by simp[h]
      clear h
      go_wp2
      all_goals
       go_roundw
       case rel=>exact⟨pos+z,rfl,hz2,HVN,HQ2⟩
       case measure=>simp;omega
     ·have e1:((c:Int) !=9)=true:=by simp;omega
      go_wp2
      all_goals
       go_roundw
       case rel=>exact⟨pos+z,rfl,hz2,HVN,HQ2⟩
       case measure=>simp;omega
     ·have e1:((c:Int) !=9)=true:=by simp;omega
      go_wp2
      all_goals
       go_roundw
       case rel=>exact⟨pos+z,rfl,hz2,HVN,HQ2⟩
       case measure=>simp;omega
    ·have HF:Hid (quotable s.data.toList=false):=by
      show _=_
      rw[quotable,HQ.out,HD.out,List.all_cons,show qch (c:Int)=false by unfold qch;rw[decide_eq_false_iff_not];exact hq,Bool.false_and,Bool.and_false]
     have e1:((c:Int) !=9)=true:=by simp;omega
     have hcase:(c:Int)<32∨(c:Int)=127∨255<(c:Int):=by omega
     clear hq
     rcases hcase with h|h|h
     all_goals
      go_wp2
      all_goals
       go_ret
       rw[HF.out]
       exact⟨rfl,hbel.alloc hbel.size _⟩
   ·obtain rfl:pos=s.size:=by omega
    have HF:Hid (quotable s.data.toList=true):=by
     show _=_
     rw[quotable,HQ.out,←HL.out,List.drop_length,HVV.out]
     rfl
    have hnx:∀ty,(Instr.next (.pointer (some ⟨w2.heap.size,0,none⟩)) true ty).run Tryz.prog (w2.iter s s.size)=.ok (.tuple #[.bool false]) (w2.iter s s.size):=fun ty=>run_next_end w2 s s.size ty hlt
    go_wp2
    go_ret
    rw[HF.out]
    exact⟨rfl,hbel.alloc hbel.size _⟩
end Go.Proofs.YtmpeaoacaecgpaaGreatDoor.CV
namespace Go.Proofs.YtmpeaoacaecgpaaGreatDoor.qg
open Go.RowKit Base cO pU
def tw (st L:List UInt8):List UInt8:=L.takeWhile fun c=> !st.contains c
def dw (st L:List UInt8):List UInt8:=L.dropWhile fun c=> !st.contains c
theorem Wp (st L:List UInt8):tw st L++dw st L=L:=List.takeWhile_append_dropWhile
theorem agz (st L:List UInt8):tw st L=L.take (tw st L).length:=by
 have h:=congrArg (List.take (tw st L).length) (Wp st L)
 rw[List.take_append_of_le_length (Nat.le_refl _),List.take_length]at h
 exact h
theorem afl (st L:List UInt8):dw st L=L.drop (tw st L).length:=by
 have h:=congrArg (List.drop (tw st L).length) (Wp st L)
 rw[←h]
 simp
theorem amv (p:UInt8→Bool) (c:UInt8):∀L:List UInt8,c ∈ L.takeWhile p→p c=true
 |[],h=>by simp at h
 |x::L,h=>by
  rw[List.takeWhile_cons]at h
  split at h
  ·rename_i hx
   rcases List.mem_cons.1 h with rfl|h
   ·exact hx
   ·exact amv p c L h
  ·simp at h
theorem tw_no {st L:List UInt8} {c:UInt8} (h:c ∈ tw st L):st.contains c=false:=by
 unfold tw at h
 have:=amv _ c L h
 simpa using this
theorem dw_head {st L:List UInt8} {c:UInt8} {r:List UInt8} (h:dw st L=c::r):st.contains c=true:=by
 unfold dw at h
 have:=List.head_dropWhile_not (fun c=> !st.contains c) (l:=L) (by rw[h];simp)
 simp only[h,List.head_cons]at this
 simpa using this
theorem AY (st L:List UInt8):(tw st L).length≤L.length:=by
 have:=congrArg List.length (Wp st L)
 rw[List.length_append]at this
 omega
theorem zX (st L:List UInt8):(dw st L).length≤L.length:=by
 have:=congrArg List.length (Wp st L)
 rw[List.length_append]at this
 omega
theorem ahK (st L:List UInt8):Lib.indexAny L st=if dw st L=[]then -1 else((tw st L).length:Int):=by
 have hno:Lib.NoAny L st (tw st L).length:=fun j b hj hb=>by
  refine tw_no (st:=st) (L:=L) ?_
  obtain⟨hjl,e⟩:=List.getElem?_eq_some_iff.1 hb
  rw[agz,←e]
  exact List.mem_iff_getElem.2 ⟨j,by rw[List.length_take];omega,by rw[List.getElem_take]⟩
 have hl:=congrArg List.length (Wp st L)
 rw[List.length_append]at hl
 cases hd:dw st L with
 |nil=>
  rw[if_pos rfl]
  rw[hd]at hl
  exact Lib.indexAny_none (by rw[←hl];simpa using hno)
 |cons c r=>
  rw[if_neg (by simp)]
  refine Lib.indexAny_hit (x:=c) hno ?_ (dw_head hd)
  have h2:=afl st L
  rw[hd]at h2
  have h3:=congrArg (fun M:List UInt8=>M[0]?) h2
  simp only[List.getElem?_cons_zero,List.getElem?_drop,Nat.add_zero]at h3
  exact h3.symm
def vl (s:List UInt8):List UInt8×Bool×List UInt8:=
 if 0<(jT s).2 then((jT s).1,true,dw [59] (s.drop (jT s).2))else(tr (tw [59] s),decide (tr (tw [59] s)≠[]),dw [59] s)
def pm (s:List UInt8):Option (List UInt8×List UInt8)×List UInt8:=match dw [59,61] (tl s)with
 |[]=>(none,[])
 |c::r=>if c=59 then(none,c::r)else(if ((vl r).2.1&&dP (tw [59,61] (tl s))&&VW (vl r).1)=true then some (lower (tw [59,61] (tl s)),(vl r).1)else none,(vl r).2.2)
where VW (L:List UInt8):Bool:=CV.quotable L
def GH (n:List UInt8) (acc:List (List UInt8×List UInt8)):Bool:=acc.any fun p=>p.1==n
def Kt (acc:List (List UInt8×List UInt8)) (o:Option (List UInt8×List UInt8)):List (List UInt8×List UInt8):=match o with
 |none=>acc
 |some p=>if GH p.1 acc=true then acc else acc++[p]
def prF:Nat→List UInt8→List (List UInt8×List UInt8)→List (List UInt8×List UInt8)
 |0,_,acc=>acc
 |_+1,[],acc=>acc
 |n+1,_::t,acc=>prF n (pm t).2 (Kt acc (pm t).1)
theorem vl_len (s:List UInt8):(vl s).2.2.length≤s.length:=by
 unfold vl
 split
 ·have:=zX [59] (s.drop (jT s).2)
  rw[List.length_drop]at this
  show(dw [59] (s.drop (jT s).2)).length≤_
  omega
 exact zX [59] s
theorem Ya (s:List UInt8):(pm s).2.length≤s.length:=by
 have h1:=zX [59,61] (tl s)
 have h2:=Hl s
 unfold pm
 split
 ·simp
 rename_i c r h
 rw[h]at h1
 split
 ·show(c::r).length≤_
  omega
 have:=vl_len r
 show(vl r).2.2.length≤_
 simp at h1
 omega
theorem aa5:∀(n m:Nat) (r:List UInt8) (acc:List (List UInt8×List UInt8)),r.length≤n→r.length≤m→prF n r acc=prF m r acc
 |0,0,_,_,_,_=>rfl
 |0,_+1,[],_,_,_=>rfl
 |0,_+1,_::_,_,h,_=>by simp at h
 |_+1,0,[],_,_,_=>rfl
 |_+1,0,_::_,_,_,h=>by simp at h
 |_+1,_+1,[],_,_,_=>rfl
 |n+1,m+1,_::t,acc,h1,h2=>by
  have:=Ya t
  simp at h1 h2
  exact aa5 n m _ _ (by omega) (by omega)
def uj (r:List UInt8) (acc:List (List UInt8×List UInt8)):List (List UInt8×List UInt8):=prF r.length r acc
theorem aa7 (acc:List (List UInt8×List UInt8)):uj [] acc=acc:=rfl
theorem Lr (c:UInt8) (t:List UInt8) (acc:List (List UInt8×List UInt8)):uj (c::t) acc=uj (pm t).2 (Kt acc (pm t).1):=by
 unfold uj
 show prF t.length (pm t).2 (Kt acc (pm t).1)=_
 exact aa5 _ _ _ _ (Ya t) (Nat.le_refl _)
structure MT where
 ty:List UInt8
 sub:List UInt8
 ps:List (List UInt8×List UInt8)
def mime (s:List UInt8):Option MT:=match dw [47] (ru s)with
 |[]=>none
 |_::B=>if (dP (tw [47] (ru s))&&dP (tr (tw [59] B)))=true then some ⟨lower (tw [47] (ru s)),lower (tr (tw [59] B)),uj (dw [59] B) []⟩else none
end Go.Proofs.YtmpeaoacaecgpaaGreatDoor.qg
namespace Go.Proofs.YtmpeaoacaecgpaaGreatDoor.Regs
open Go.RowKit Base
structure Keep where
 says:Value→World→Prop
 stays:∀v w w',Below w.heap.size w w'→says v w→says v w'
def is (v:Value):Keep:=⟨fun u _=>u=v,fun _ _ _ _ h=>h⟩
def any:Keep:=⟨fun _ _=>True,fun _ _ _ _ h=>h⟩
def row (n:Nat) (xs:List Value):Keep:=⟨fun u w=>∃A c,u=.slice A n c∧n≤c∧c≤maxLen∧aY w A n xs,fun _ _ _ hb ⟨A,c,h1,h2,h3,h4⟩=>⟨A,c,h1,h2,h3,h4.below hb⟩⟩
def pick:List Keep→Nat→Keep
 |[],_=>any
 |r::_,0=>r
 |_::rs,n+1=>pick rs n
def upd (t:Nat→Value) (i:Nat) (v:Value) (k:Nat):Value:=if k=i then v else t k
def filled (t:Nat→Value):List Oper→Nat→Act→Act
 |[],_,a=>a
 |o::os,k,a=>filled t os (k+1) (a.put o.dst (t k))
def Have (R:List Keep) (t:Nat→Value) (w:World):List Nat→Prop
 |[]=>True
 |k::ks=>(pick R k).says (t k) w∧Have R t w ks
section
variable {P:Program} {md:Region.Mode} {ops:Array Oper} {Q:Exit→Act→World→Prop}
def Step (P:Program) (ops:Array Oper) (Q:Exit→Act→World→Prop) (A:(Nat→Value)→Act) (w0:World) (R:List Keep) (i:Nat) (o:Oper) (ns:List Nat):Prop:=
 ∀t w,Below w0.heap.size w0 w→Have R t w ns→∀K:Act→World→Prop,(∀v w',Below w.heap.size w w'→(pick R i).says v w'→K (A (upd t i v)) w')→
  if Region.wanted o (yielded ops (A t).tmps)=true then Oper.wp P o (A t) w K Q else K ((A t).put o.dst undef) w
def Steps (P:Program) (ops:Array Oper) (Q:Exit→Act→World→Prop) (A:(Nat→Value)→Act) (w0:World) (R:List Keep):Nat→List Oper→List (List Nat)→Prop
 |_,[],_=>True
 |k,o::os,ns=>Step P ops Q A w0 R k o (ns.headD [])∧Steps P ops Q A w0 R (k+1) os ns.tail
theorem Steps.at {A:(Nat→Value)→Act} {w0:World} {R:List Keep}:∀(os:List Oper) (k:Nat) (ns:List (List Nat)),Steps P ops Q A w0 R k os ns→∀j o,os[j]?=some o→Step P ops Q A w0 R (k+j) o (ns.getD j [])
 |[],_,_,_,j,o,h=>by simp at h
 |p::os,k,ns,h,0,o,e=>by
  simp at e
  subst e
  cases ns<;>exact h.1
 |p::os,k,ns,h,j+1,o,e=>by
  have:=Steps.at os (k+1) ns.tail h.2 j o (by simpa using e)
  rw[Nat.add_assoc,Nat.add_comm 1 j]at this
  cases ns<;>simpa using this
def DF (md:Region.Mode) (ops:Array Oper) (ns:List (List Nat)):Bool:=
 (List.range ops.size).all fun i=>match ops[i]? with
  |none=>false
  |some o=>(o.after.all fun e=> !Region.binds md e||decide (e.on<i))&&(ns.getD i []).all fun k=>o.after.any fun e=>Region.binds md e&&(e.on==k||(ns.getD e.on []).contains k)
theorem vK {ns:List (List Nat)} (h:DF md ops ns=true) {i:Nat} {o:Oper} (ho:ops[i]?=some o):(∀e ∈ o.after,Region.binds md e=true→e.on<i)∧∀k ∈ ns.getD i [],∃e ∈ o.after,Region.binds md e=true∧(e.on=k∨k ∈ ns.getD e.on []):=by
 have h1:=List.all_eq_true.1 h i (by simp only[List.mem_range];exact(Array.getElem?_eq_some_iff.1 ho).1)
 simp only[ho,Bool.and_eq_true]at h1
 obtain⟨h1,h2⟩:=h1
 constructor
 ·intro e he hb
  have:=Array.all_eq_true_iff_forall_mem.1 h1 e he
  simpa[hb]using this
 intro k hk
 have:=List.all_eq_true.1 h2 k hk
 obtain⟨e,he,h3⟩:=Array.any_eq_true'.1 this
 simp only[Bool.and_eq_true,Bool.or_eq_true,beq_iff_eq,List.contains_iff_mem]at h3
 exact⟨e,he,h3.1,h3.2⟩
def YV (ops:Array Oper) (listed:Array Bool):Nat:=(List.range ops.size).countP fun i=> !listed.getD i true
theorem wP {l:Array Bool} {i:Nat} (h:i<l.size) (d d':Bool):l.getD i d=l.getD i d':=by simp[Array.getD,h]
structure Inv (ops:Array Oper) (w0:World) (R:List Keep) (ns:List (List Nat)) (listed:Array Bool) (t:Nat→Value) (w:World):Prop where
 below:Below w0.heap.size w0 w
 size:listed.size=ops.size
 held:∀i,listed.getD i false=true→(pick R i).says (t i) w∧∀k ∈ ns.getD i [],listed.getD k false=true
theorem o8 {R:List Keep} {t:Nat→Value} {w:World}:∀ks:List Nat,(∀k ∈ ks,(pick R k).says (t k) w)→Have R t w ks
 |[],_=>trivial
 |k::ks,h=>⟨h k (by simp),o8 ks fun j hj=>h j (by simp[hj])⟩
theorem aB {R:List Keep} {t:Nat→Value} {w:World} {n:Nat} (h:Have R t w (List.range n)) (k:Nat) (hk:k<n):(pick R k).says (t k) w:=by
 have H:∀ks:List Nat,Have R t w ks→∀k ∈ ks,(pick R k).says (t k) w:=by
  intro ks
  induction ks with
  |nil=>intro _ k hk;cases hk
  |cons x xs ih=>
   intro h k hk
   rcases List.mem_cons.1 hk with rfl|hk
   ·exact h.1
   exact ih h.2 k hk
 exact H _ h k (by simpa using hk)
theorem uU {ns:List (List Nat)} (hB:DF md ops ns=true) {listed:Array Bool} (hs:listed.size=ops.size) (hr:Region.ready md ops listed=[]):∀n i,i<n→i<ops.size→listed.getD i false=true:=by
 intro n
 induction n with
 |zero=>intro i h;omega
 |succ n ih=>
  intro i hi hlt
  by_cases hn:listed.getD i false=true
  ·exact hn
  exfalso
  have ho:ops[i]?=some ops[i]:=Array.getElem?_eq_getElem hlt
  have:i ∈ Region.ready md ops listed:=mem_ready.2 ⟨by rw[wP (by omega) true false];simpa using hn,_,ho,fun e he hb=>by
   have:=(vK hB ho).1 e he hb
   exact ih e.on (by omega) (by omega)⟩
  rw[hr]at this
  cases this
theorem countP_set {listed:Array Bool} {i:Nat} (hs:listed.size=ops.size) (hi:i<ops.size) (hu:listed.getD i true=false):YV ops (listed.setIfInBounds i true)<YV ops listed:=by
 unfold YV
 have key:∀l:List Nat,l.countP (fun j=> !(listed.setIfInBounds i true).getD j true)≤l.countP (fun j=> !listed.getD j true)∧(i ∈ l→l.countP (fun j=> !(listed.setIfInBounds i true).getD j true)<l.countP (fun j=> !listed.getD j true)):=by
  intro l
  induction l with
  |nil=>simp
  |cons x l ih=>
   have hx:x=i∨x≠i:=Decidable.em _
   rcases hx with rfl|hx
   ·have h1:(listed.setIfInBounds x true).getD x true=true:=by simp[Array.getD]
    rw[List.countP_cons,List.countP_cons,h1,hu]
    simp only[Bool.not_true,Bool.not_false,Bool.false_eq_true,if_true,if_false]
    have:=ih.1
    exact⟨by omega,fun _=>by omega⟩
   have h1:(listed.setIfInBounds i true).getD x true=listed.getD x true:=getD_set_ne true (Ne.symm hx)
   rw[List.countP_cons,List.countP_cons,h1]
   refine⟨by omega,fun h=>?_⟩
   rcases List.mem_cons.1 h with h|h
   ·exact absurd h.symm hx
   have:=ih.2 h
   omega
 exact(key _).2 (by simpa using hi)
theorem aiZ {A:(Nat→Value)→Act} {w0:World} {R:List Keep} {ns:List (List Nat)} (hB:DF md ops ns=true) (steps:Steps P ops Q A w0 R 0 ops.toList ns)
  (fin:∀t w,Below w0.heap.size w0 w→Have R t w (List.range ops.size)→Q .normal (A t) w):
  ∀(fuel:Nat) (listed:Array Bool) (t:Nat→Value) (w:World),Inv ops w0 R ns listed t w→YV ops listed≤fuel→wpAny P md ops Q fuel listed (A t) w:=by
 have done:∀(listed:Array Bool) (t:Nat→Value) (w:World),Inv ops w0 R ns listed t w→Region.ready md ops listed=[]→Q .normal (A t) w:=fun listed t w h hr=>
  fin t w h.below (o8 _ fun k hk=>(h.held k (uU hB h.size hr (k+1) k (by omega) (by simpa using hk))).1)
 intro fuel
 induction fuel with
 | zero=>
  intro listed t w h hu
  have hr:Region.ready md ops listed=[]:=by
   cases e:Region.ready md ops listed with
   |nil=>rfl
   |cons i l=>
    have hi:i ∈ Region.ready md ops listed:=by rw[e];simp
    obtain⟨h0,o,ho,_⟩:=mem_ready.1 hi
    have:=countP_set h.size (Array.getElem?_eq_some_iff.1 ho).1 h0
    omega
  exact⟨hr,done listed t w h hr⟩
 | succ fuel ih=>
  intro listed t w h hu
  refine⟨done listed t w h,fun i hi=>?_⟩
  obtain⟨h0,o,ho,hall⟩:=mem_ready.1 hi
  have hlt:=(Array.getElem?_eq_some_iff.1 ho).1
  have wQ:∀k ∈ ns.getD i [],listed.getD k false=true:=fun k hk=>by
   obtain⟨e,he,hb,hk⟩:=(vK hB ho).2 k hk
   rcases hk with rfl|hk
   ·exact hall e he hb
   ·exact(h.held e.on (hall e he hb)).2 k hk
  have hst:=Steps.at ops.toList 0 ns steps i o (by simpa using ho)
  rw[Nat.zero_add]at hst
  refine wpOp_step ho fun K hK=>hst t w h.below (o8 _ fun k hk=>(h.held k (wQ k hk)).1) K fun v w' hb hv=>hK _ _ (ih _ _ _ ⟨h.below.trans (hb.mono h.below.size),by simpa using h.size,fun j hj=>?_⟩ ?_)
  ·by_cases hji:j=i
   ·subst hji
    refine⟨by simpa[upd]using hv,fun k hk=>getD_set_true (wQ k hk)⟩
   ·rw[getD_set_ne false (Ne.symm hji)]at hj
    have:=h.held j hj
    refine⟨by simp only[upd,if_neg hji];exact(pick R j).stays _ _ _ hb this.1,fun k hk=>getD_set_true (this.2 k hk)⟩
  ·have:=countP_set h.size hlt h0
   omega
def now (ops:List Oper) (a:Act) (k:Nat):Value:=match (ops[k]?).bind (·.dst)with|some d=>a.tmps.getD d undef|none=>undef
theorem put_now (a:Act) (d:Option Tmp) (v:Value) (h:∀x,d=some x→v=a.tmps.getD x undef):a.put d v=a:=by
 cases d with
 |none=>rfl
 |some x=>
  have:=h x rfl
  subst this
  unfold Act.put
  simp only
  congr 1
  apply Array.ext_getElem?
  intro i
  by_cases hi:x=i
  ·subst hi
   by_cases hx:x<a.tmps.size
   ·simp[hx]
   simp[hx]
  rw[Array.getElem?_setIfInBounds_ne hi]
theorem uY (a:Act) (all:List Oper):∀(os:List Oper) (k:Nat),(∀j,os[j]?=all[k+j]?)→filled (now all a) os k a=a
 |[],_,_=>rfl
 |o::os,k,h=>by
  have h0:all[k]?=some o:=by simpa using(h 0).symm
  have e:a.put o.dst (now all a k)=a:=put_now a _ _ fun x hx=>by unfold now;rw[h0];simp[hx]
  show filled (now all a) os (k+1) (a.put o.dst (now all a k))=a
  rw[e]
  exact uY a all os (k+1) fun j=>by have:=h (j+1);simpa[Nat.add_assoc,Nat.add_comm 1 j]using this
theorem aV {id:Nat} {a:Act} {w:World} {l:List Oper} (hm:P.follows .mixedOrders=true) (R:List Keep) (ns:List (List Nat)) (hB:DF .any l.toArray ns=true)
  (steps:Steps P l.toArray Q (fun t=>filled t l 0 a) w R 0 l ns)
  (fin:∀t w',Below w.heap.size w w'→Have R t w' (List.range l.length)→Q .normal (filled t l 0 a) w'):(Code.region id l.toArray true).wp P Q a w:=by
 refine wp_region_any hm ?_
 have h:=aiZ (P:=P) (Q:=Q) (md:=.any) (ops:=l.toArray) (A:=fun t=>filled t l 0 a) (w0:=w) (R:=R) (ns:=ns) hB (by simpa using steps) (by simpa using fin) l.length (Array.replicate l.length false) (now l a) {w with drawn:=w.drawn+1}
  ⟨⟨rfl,rfl,rfl,Nat.le_refl _,fun _ _=>rfl⟩,by simp,fun i hi=>by
   by_cases h:i<l.length<;>simp[Array.getD,h]at hi⟩ (by unfold YV;refine Nat.le_trans List.countP_le_length ?_;simp)
 have e:=uY a l l 0 (fun j=>by simp)
 have h':wpAny P .any l.toArray Q l.length (Array.replicate l.length false) (filled (now l a) l 0 a) {w with drawn:=w.drawn+1}:=h
 rw[e]at h'
 simpa using h'
end
end Go.Proofs.YtmpeaoacaecgpaaGreatDoor.Regs
namespace Go.Proofs.YtmpeaoacaecgpaaGreatDoor.IdxM
open Go.RowKit Base Base2 Regs
theorem lK (w:World) (s:ByteArray) (p:Nat):Below w.heap.size w (w.iter s p):=(Below.refl _ _).alloc (Nat.le_refl _) _
theorem fF (r:Int) (w:World) (h0:128≤r):Calls Tryz.prog 333 #[.int .i32 r] w fun e w'=>e=.returned (.bool (validRune r))∧w=w':=by
 have q0:(0:Int)≤r:=by omega
 by_cases h1:r<55296
 ·have HV:Hid (validRune r=true):=decide_eq_true (.inl ⟨q0,h1⟩)
  go_enter Tryz.func333,Tryz.ntmps333
  go_wp2
  go_ret
  exact⟨ak HV.out.symm,rfl⟩
 by_cases h2:57343<r
 ·by_cases h3:r≤1114111
  ·have HV:Hid (validRune r=true):=decide_eq_true (.inr ⟨h2,h3⟩)
   go_enter Tryz.func333,Tryz.ntmps333
   go_wp2
   go_ret
   exact⟨ak HV.out.symm,rfl⟩
  have HV:Hid (validRune r=false):=decide_eq_false (by omega)
  go_enter Tryz.func333,Tryz.ntmps333
  go_wp2
  go_ret
  exact⟨ak HV.out.symm,rfl⟩
 have HV:Hid (validRune r=false):=decide_eq_false (by omega)
 go_enter Tryz.func333,Tryz.ntmps333
 go_wp2
 go_ret
 exact⟨ak HV.out.symm,rfl⟩
def two:ByteArray:=⟨#[59,61]⟩
theorem D7 (r:Int) (w:World) (h0:128≤r):Calls Tryz.prog 298 #[.string two,.int .i32 r] w fun e w'=>e=.returned (.int .i64 (-1))∧Below w.heap.size w w':=by
 have q0:(0:Int)≤r:=by omega
 have q1:¬r<128:=by omega
 obtain⟨T,hT⟩:∃T,T=two:=⟨_,rfl⟩
 have hsz:T.size=2:=by rw[hT];rfl
 have g0:∀h,T[0]'h=59:=by subst hT;intro h;rfl
 have g1:∀h,T[1]'h=61:=by subst hT;intro h;rfl
 rw[←hT]
 by_cases hE:r=65533
 ·subst hE
  have hn0:∀ty,(Instr.next (.pointer (some ⟨w.heap.size,0,none⟩)) true ty).run Tryz.prog (w.iter T 0)=.ok (.tuple #[.bool true,.int .i64 0,.int .i32 59]) (w.iter T 1):=fun ty=>by
   have:=run_next_ascii (P:=Tryz.prog) w T 0 ty (by omega) (by rw[g0];decide)
   rw[g0]at this
   exact this
  have hn1:∀ty,(Instr.next (.pointer (some ⟨w.heap.size,0,none⟩)) true ty).run Tryz.prog (w.iter T 1)=.ok (.tuple #[.bool true,.int .i64 1,.int .i32 61]) (w.iter T 2):=fun ty=>by
   have:=run_next_ascii (P:=Tryz.prog) w T 1 ty (by omega) (by rw[g1];decide)
   rw[g1]at this
   exact this
  have hn2:∀ty,(Instr.next (.pointer (some ⟨w.heap.size,0,none⟩)) true ty).run Tryz.prog (w.iter T 2)=.ok (.tuple #[.bool false]) (w.iter T 2):=fun ty=>run_next_end w T 2 ty (by omega)
  clear hT g0 g1 hsz
  go_enter Tryz.func298,Tryz.ntmps298
  go_wp2
  go_loopg [5,6] 2 (fun g _ _ wx=>∃i:Nat,i+g=2∧wx=w.iter T i)
  case atStart=>exact⟨0,rfl,rfl⟩
  case round=>
   obtain⟨i,hig,rfl⟩:=hrel
   cases gk with
   |zero=>
    obtain rfl:i=2:=by omega
    go_wp2
    go_ret
    exact⟨rfl,lK _ _ _⟩
   |succ g=>
    cases g with
    |zero=>
     obtain rfl:i=1:=by omega
     go_wp2
     go_roundg 0
     case measure=>omega
     case rel=>exact⟨2,rfl,rfl⟩
    |succ g=>
     obtain rfl:g=0:=by omega
     obtain rfl:i=0:=by omega
     go_wp2
     go_roundg 1
     case measure=>omega
     case rel=>exact⟨1,rfl,rfl⟩
 cases hv:validRune r with
 |false=>
  have HV:=hid hv
  clear hT g0 g1 hsz hv
  go_enter Tryz.func298,Tryz.ntmps298
  go_wp2_with fail
  refine(fF r _ h0).mono ?_
  rintro e w2 ⟨rfl,rfl⟩
  rw[HV.out]
  go_wp2
  go_ret
  exact⟨rfl,Below.refl _ _⟩
 | true=>
  have HV:=hid hv
  obtain⟨hE2,hE4,hEl⟩:=encode_facts r (by rw[validRune_eq];exact hv) h0
  obtain⟨E,hEE⟩:∃E,E=Utf8.encode r:=⟨_,rfl⟩
  rw[←hEE]at hE2 hE4 hEl
  have hcv:∀w:World,(convert 21 9 (.int .i32 r)).run Tryz.prog w=.ok (.string E) w:=fun w=>by
   rw[hEE]
   exact run_convert_int_string w _ _ .i32 r (by rw[Tryz.underlying21];rfl) Tryz.underlying9
  clear hT hv hEE
  by_cases h2:E.size=2
  ·obtain ⟨c,hc⟩:∃c,c=E[1]'(by omega):=⟨_,rfl⟩
   have hc128:128≤c.toNat:=by
    have:=hEl (by omega)
    rw[hc]
    have e:E.size - 1=1:=by omega
    simpa[e]using this
   have g92:=g1 (by omega)
   have hne:((61:Int) !=(c.toNat:Int))=true:=by simp;omega
   have HC:=hid hc128
   have hcE:E[1]'(by omega)=c:=hc.symm
   have hz:(E.size:Int) - 1=1:=by omega
   clear hEl hE2 hE4 hc hc128 g0
   go_enter Tryz.func298,Tryz.ntmps298
   go_wp2_with fail
   refine(fF r _ h0).mono ?_
   rintro e w2 ⟨rfl,rfl⟩
   rw[HV.out]
   go_wp2
   go_step3
   go_wp2
   go_loopg [9] 0 (fun _ s9 wx=>s9=.int .i64 1∧wx=w)
   case atStart=>exact⟨int_eq (by omega),rfl⟩
   case round=>
    obtain⟨rfl,rfl⟩:=hrel
    go_wp2
    go_step3
    go_wp2
    go_region
    go_wp2_with fail
    refine aV (by kernel_rfl) [is (.string T),is (.int .i64 1),is (.int .i64 2),is (.string ByteArray.empty),is (.string E),is (.int .i64 1),is (.int .u8 (c.toNat:Int)),is (.int .i64 (-1)),is (.int .i64 (-1))] [[],[],[1],[0,2],[],[],[4,5],[3,6],[7]] (by kernel_rfl) ?_ ?_
    ·refine⟨?_,?_,?_,?_,?_,?_,?_,?_,?_,trivial⟩
     all_goals(intro t wq hbq hh K hK;simp only[filled,upd,Have,is,any,row,pick,Act.put,List.setIfInBounds_toArray,List.set_cons_zero,List.set_cons_succ,Nat.reduceAdd,Nat.reduceEqDiff,reduceIte,List.tail_cons,List.headD_cons]at hh hK⊢;(try simp only[hh]at hK⊢);try clear hh)
     iterate 2 · go_simp;exact hK _ _ (Below.refl _ _) rfl
     ·go_simp;first|exact hK _ _ (Below.refl _ _) rfl|exact hK _ _ (Below.refl _ _) (iC (by omega) (by omega))
     iterate 4 · go_simp;exact hK _ _ (Below.refl _ _) rfl
     ·go_simp;refine(Tryz.strings_IndexByte ByteArray.empty _ _).mono ?_;rintro e wz ⟨rfl,hwz⟩;subst hwz;exact hK _ _ (Below.refl _ _) rfl
     go_simp;exact hK _ _ (Below.refl _ _) rfl
    intro t wq hbq hh
    have f8:=aB hh 8 (by decide)
    simp only[pick]at f8
    replace f8:t 8=(.int .i64 (-1)):=f8
    clear hh
    simp only[filled,upd,Have,is,any,row,pick,Act.put,List.setIfInBounds_toArray,List.set_cons_zero,List.set_cons_succ,Nat.reduceAdd,Nat.reduceEqDiff,reduceIte]
    simp only[f8]
    go_wp2
    rw[Exit.noGoto_ret]
    go_simp
    go_ret
    exact⟨rfl,CY (Below.refl _ _) hbq⟩
  have h3:3≤E.size:=by omega
  clear hEl g0 g1 h2
  have q3:¬((E.size:Int) - 1<2):=by omega
  go_enter Tryz.func298,Tryz.ntmps298
  go_wp2_with fail
  refine(fF r _ h0).mono ?_
  rintro e w2 ⟨rfl,rfl⟩
  rw[HV.out]
  go_wp2
  go_step3
  go_wp2
  go_loopg [9] 0 (fun _ s9 wx=>s9=.int .i64 ((E.size:Int) - 1)∧wx=w)
  case atStart=>exact⟨rfl,rfl⟩
  case round=>
   obtain⟨rfl,rfl⟩:=hrel
   go_wp2
   rw[Exit.noGoto_ret]
   go_ret
   exact⟨rfl,Below.refl _ _⟩
theorem vJ (r:Int) (w:World) (h0:0≤r) (h1:r<128):Calls Tryz.prog 298 #[.string two,.int .i32 r] w fun e w'=>e=.returned (.int .i64 (Lib.indexByte two.data.toList r.toNat.toUInt8))∧w'=w:=Any.strings_IndexRune_ascii {Tryz.l153 with} two r w h0 h1
theorem far_no (c:UInt8) (h:128≤c.toNat):([59,61]:List UInt8).contains c=false:=by
 have h1:¬c=59:=by rintro rfl;exact absurd h (by decide)
 have h2:¬c=61:=by rintro rfl;exact absurd h (by decide)
 simp[h1,h2]
theorem Qq (s:ByteArray) (i:Nat) (h:i<s.size):(s.get! i)=s[i]'h:=by
 simp[ByteArray.get!,getElem!_pos,h]
 rfl
theorem wide (s:ByteArray) (i:Nat) (h:i<s.size) (ha:128≤(s[i]'h).toNat):i+(Utf8.decode s i).2≤s.size∧∀j (hj:j<s.size),i≤j→j<i+(Utf8.decode s i).2→128≤(s[j]'hj).toNat:=by
 have hn:¬(s[i]'h).toNat<128:=by omega
 have one:i+1≤s.size∧∀j (hj:j<s.size),i≤j→j<i+1→128≤(s[j]'hj).toNat:=⟨by omega,fun j hj h1 h2=>by
  obtain rfl:j=i:=by omega
  exact ha⟩
 simp only[Utf8.decode,get_at s i h,hn,if_false]
 have c1:∀k,(decide (i+k<s.size)&&(s.get! (i+k)).toNat / 64==2)=true→∃hk:i+k<s.size,128≤(s[i+k]'hk).toNat:=fun k hk=>by
  simp only[Bool.and_eq_true,decide_eq_true_eq,beq_iff_eq]at hk
  refine⟨hk.1,?_⟩
  have:=hk.2
  rw[Qq s _ hk.1]at this
  omega
 split
 ·rename_i h2
  simp only[Bool.and_eq_true]at h2
  obtain⟨k1,b1⟩:=c1 1 (by simpa using h2.2)
  split
  ·refine⟨by show i+2≤_;omega,fun j hj h1 h2=>?_⟩
   replace h2:j<i+2:=h2
   have:j=i∨j=i+1:=by omega
   rcases this with rfl|rfl
   ·exact ha
   exact b1
  exact one
 split
 ·rename_i h2
  simp only[Bool.and_eq_true]at h2
  obtain⟨k1,b1⟩:=c1 1 (by simpa using h2.1.2)
  obtain⟨k2,b2⟩:=c1 2 (by simpa using h2.2)
  split
  ·refine⟨by show i+3≤_;omega,fun j hj h1 h2=>?_⟩
   replace h2:j<i+3:=h2
   have:j=i∨j=i+1∨j=i+2:=by omega
   rcases this with rfl|rfl|rfl
   ·exact ha
   ·exact b1
   exact b2
  exact one
 split
 ·rename_i h2
  simp only[Bool.and_eq_true]at h2
  obtain⟨k1,b1⟩:=c1 1 (by simpa using h2.1.1.2)
  obtain⟨k2,b2⟩:=c1 2 (by simpa using h2.1.2)
  obtain⟨k3,b3⟩:=c1 3 (by simpa using h2.2)
  split
  ·refine⟨by show i+4≤_;omega,fun j hj h1 h2=>?_⟩
   replace h2:j<i+4:=h2
   have:j=i∨j=i+1∨j=i+2∨j=i+3:=by omega
   rcases this with rfl|rfl|rfl|rfl
   ·exact ha
   ·exact b1
   ·exact b2
   exact b3
  exact one
 exact one
def ZJ (w:World) (k:Nat) (s:ByteArray) (p:Nat):World:={w with heap:=w.heap.setIfInBounds k (.stringIter s p)}
theorem Pz (w:World) (k:Nat) (s:ByteArray) (p:Nat) (h:k<w.heap.size):(ZJ w k s p).heap[k]?=some (.stringIter s p):=by
 show(w.heap.setIfInBounds k _)[k]?=_
 simp[h]
theorem yC {w0 w:World} (h:Below w0.heap.size w0 w) (s:ByteArray) (p:Nat):Below w0.heap.size w0 (ZJ w w0.heap.size s p):=
 ⟨h.os,h.tape,h.output,by show _≤(w.heap.setIfInBounds _ _).size;simpa using h.size,fun k hk=>by
  show(w.heap.setIfInBounds _ _)[k]?=_
  rw[Array.getElem?_setIfInBounds_ne (by omega)]
  exact h.block k hk⟩
theorem next_any {P:Program} (w:World) (k:Nat) (s:ByteArray) (pos:Nat) (ty:TypeId) (hk:w.heap[k]?=some (.stringIter s pos)) (h:pos<s.size):
  (Instr.next (.pointer (some ⟨k,0,none⟩)) true ty).run P w=.ok (.tuple #[.bool true,.int .i64 pos,.int .i32 (Utf8.decode s pos).1]) (ZJ w k s (pos+(Utf8.decode s pos).2)):=by
 simp only[Instr.next,getObj,setObj,Sem.run_bind,Sem.run,hk,Result.andThen,h,if_true]
 simp[goInt,ZJ]
theorem DI {P:Program} (w:World) (k:Nat) (s:ByteArray) (pos:Nat) (ty:TypeId) (hk:w.heap[k]?=some (.stringIter s pos)) (h:¬pos<s.size):
  (Instr.next (.pointer (some ⟨k,0,none⟩)) true ty).run P w=.ok (.tuple #[.bool false]) w:=by
 simp[Instr.next,getObj,Sem.run,hk,h]
theorem short_any (s:ByteArray) (w:World) (h8:s.size≤8):
  Calls Tryz.prog 271 #[.string s,.string two] w fun e w'=>e=.returned (.int .i64 (Lib.indexAny s.data.toList [59,61]))∧Below w.heap.size w w':=by
 have hemp:two.toList.isEmpty=false:=by unfold two;rw[ByteArray.toList_mk];rfl
 have hsz2:((two.size:Int)==1)=false:=rfl
 have h8z:decide ((8:Int)<(s.size:Int))=false:=decide_eq_false (by omega)
 have hL:s.data.toList.length=s.size:=Array.length_toList
 have HL:=hid hL
 clear hL
 have Du:=vJ
 have Dw:=D7
 obtain⟨T,hT⟩:∃T,T=two:=⟨_,rfl⟩
 rw[←hT]at Du Dw
 have MB:=hid Du
 have Zg:=hid Dw
 clear Du Dw
 rw[←hT]at hemp hsz2⊢
 have HT:=hid hT
 clear hT
 go_enter Tryz.func271,Tryz.ntmps271
 go_wp2_with fail
 refine(Any.strings_shouldUseASCIISet {Tryz.l153 with} _ _).mono ?_
 rintro e w2 ⟨rfl,hw2⟩
 subst hw2
 rw[h8z]
 go_wp2
 go_loopg [9,10] s.size (fun g _ _ wx=>∃i:Nat,i≤s.size∧s.size≤i+g∧wx.heap[w2.heap.size]?=some (.stringIter s i)∧Hid (Below w2.heap.size w2 wx)∧Hid (Lib.NoAny s.data.toList [59,61] i))
 case atStart=>exact⟨0,Nat.zero_le _,by omega,World.iter_heap _ _ _,lK _ _ _,Lib.NoAny.zero _ _⟩
 case round=>
  obtain⟨i,hile,hig,hit,HB,HN⟩:=hrel
  have FD:w2.heap.size<wr.heap.size:=(Array.getElem?_eq_some_iff.1 hit).1
  by_cases hi:i<s.size
  ·obtain ⟨g,rfl⟩:∃g,gk=g+1:=⟨gk - 1,by omega⟩
   obtain⟨x,hx⟩:∃x:UInt8,s[i]'hi=x:=⟨_,rfl⟩
   have hxl:s.data.toList[i]?=some x:=by rw[←hx];exact Lib.data_getElem? s i hi
   have hnx:=fun ty=>next_any (P:=Tryz.prog) wr w2.heap.size s i ty hit hi
   obtain⟨r,hr⟩:∃r:Nat,r=(Utf8.decode s i).1:=⟨_,rfl⟩
   obtain⟨d,hd⟩:∃d:Nat,d=(Utf8.decode s i).2:=⟨_,rfl⟩
   rw[←hr,←hd]at hnx
   obtain⟨wa,bI⟩:∃wa,wa=ZJ wr w2.heap.size s (i+d):=⟨_,rfl⟩
   have hia:wa.heap[w2.heap.size]?=some (.stringIter s (i+d)):=by rw[bI];exact Pz _ _ _ _ FD
   have HBA:Hid (Below w2.heap.size w2 wa):=by show Below _ _ _;rw[bI];exact yC HB.out _ _
   have hka:w2.heap.size<wa.heap.size:=(Array.getElem?_eq_some_iff.1 hia).1
   rw[←bI]at hnx
   have HIA:=hid hia
   have HKA:=hid hka
   clear bI hit FD hia hka
   by_cases hx128:x.toNat<128
   ·obtain rfl:d=1:=by rw[hd,decode_ascii s i hi (by rw[hx];exact hx128)]
    obtain rfl:r=x.toNat:=by rw[hr,decode_ascii s i hi (by rw[hx];exact hx128),hx]
    have Hx:=hid hxl
    have HBK:Hid (((x.toNat:Int)).toNat.toUInt8=x):=by show _=_;simp
    have Y4:=hid (Lib.contains_iff_indexByte [59,61] x)
    have hx0:(0:Int)≤(x.toNat:Int):=by omega
    clear hxl hx hr hd
    cases hin:([59,61]:List UInt8).contains x
    ·have hlt:¬((0:Int)≤Lib.indexByte T.data.toList x):=by rw[HT.out];exact of_decide_eq_false (Y4.out.symm.trans hin)
     have Y7:=hid hin
     clear hin
     go_wp2_with fail
     refine(MB.out _ _ hx0 (by omega)).mono ?_
     rintro e w3 ⟨rfl,hw3⟩
     subst hw3
     rw[HBK.out]
     go_wp2
     go_roundg g
     case measure=>omega
     case rel=>exact⟨i+1,by omega,by omega,HIA.out,HBA,HN.out.succ Hx.out Y7.out⟩
    ·have hlt:(0:Int)≤Lib.indexByte T.data.toList x:=by rw[HT.out];exact of_decide_eq_true (Y4.out.symm.trans hin)
     have Y7:=hid hin
     clear hin
     go_wp2_with fail
     refine(MB.out _ _ hx0 (by omega)).mono ?_
     rintro e w3 ⟨rfl,hw3⟩
     subst hw3
     rw[HBK.out]
     go_wp2
     go_ret
     exact⟨by rw[Lib.indexAny_hit HN.out Hx.out Y7.out];rfl,HBA.out⟩
   ·obtain ⟨aaw,hpos⟩:=decode_high s i hi (by rw[hx];omega)
    have HWD:=wide s i hi (by rw[hx];omega)
    rw[←hr]at aaw
    rw[←hd]at hpos HWD
    have HNX:Hid (Lib.NoAny s.data.toList [59,61] (i+d)):=fun j b hj hb=>by
     by_cases hji:j<i
     ·exact HN.out j b hji hb
     ·obtain⟨hjs,e⟩:=List.getElem?_eq_some_iff.1 hb
      have aax:j<s.size:=by rw[HL.out]at hjs;exact hjs
      have:=HWD.2 j aax (by omega) hj
      have hb':s[j]'aax=b:=e
      rw[hb']at this
      exact far_no b this
    have hid1:=HWD.1
    have ajw:Hid (128≤(r:Int)):=by show _≤_;omega
    clear hr hd HWD hx hxl aaw
    go_wp2_with fail
    refine(Zg.out _ _ ajw.out).mono ?_
    rintro e w3 ⟨rfl,hb3⟩
    have HI3:Hid (w3.heap[w2.heap.size]?=some (.stringIter s (i+d))):=(hb3.block _ HKA.out).trans HIA.out
    have HB3:Hid (Below w2.heap.size w2 w3):=bel HBA.out hb3
    clear hb3
    go_wp2
    go_roundg g
    case measure=>omega
    case rel=>exact⟨i+d,by omega,by omega,HI3.out,HB3,HNX⟩
  ·obtain rfl:i=s.size:=by omega
   have hnx:=fun ty=>DI (P:=Tryz.prog) wr w2.heap.size s s.size ty hit hi
   go_wp2
   go_ret
   exact⟨by rw[Lib.indexAny_none (by rw[HL.out];exact HN.out)];rfl,HB.out⟩
end Go.Proofs.YtmpeaoacaecgpaaGreatDoor.IdxM
namespace Go.Proofs.YtmpeaoacaecgpaaGreatDoor.OW
open Go.RowKit Base Base2 qg
theorem ext_take (s:ByteArray) (k:Nat):(s.extract 0 k).data.toList=s.data.toList.take k:=by
 rw[ByteArray.data_extract]
 simp[Array.toList_extract,List.extract_eq_take_drop]
theorem ext_drop (s:ByteArray) (k:Nat):(s.extract k s.size).data.toList=s.data.toList.drop k:=by
 have hl:s.data.toList.length=s.size:=Array.length_toList
 rw[ByteArray.data_extract]
 simp only[Array.toList_extract,List.extract_eq_take_drop]
 rw[List.take_of_length_le (by rw[List.length_drop];omega)]
theorem lZ (s stops:ByteArray) (st:List UInt8) (w:World) (hs:s.size≤1073741824) (hI:Calls Tryz.prog 271 #[.string s,.string stops] w fun e w'=>e=.returned (.int .i64 (Lib.indexAny s.data.toList st))∧Below w.heap.size w w'):
  Calls Tryz.prog 261 #[.string s,.string stops] w fun e w'=>e=.returned (.tuple #[.string (strOf (tw st s.data.toList)),.string (strOf (dw st s.data.toList))])∧Below w.heap.size w w':=by
 have hl:s.data.toList.length=s.size:=Array.length_toList
 have hlen:=AY st s.data.toList
 obtain⟨n,hn⟩:∃n,n=(tw st s.data.toList).length:=⟨_,rfl⟩
 rw[ahK,←hn]at hI
 by_cases hd:dw st s.data.toList=[]
 ·rw[if_pos hd]at hI
  have ht:tw st s.data.toList=s.data.toList:=by
   have:=Wp st s.data.toList
   rwa[hd,List.append_nil]at this
  have HI:=hid hI
  have HE:Hid (strOf (tw st s.data.toList)=s∧strOf (dw st s.data.toList)=⟨#[]⟩):=by
   refine⟨?_,?_⟩
   ·rw[ht,aG]
   ·rw[hd];rfl
  clear hI ht hd hn hl hlen
  go_enter Tryz.func261,Tryz.ntmps261
  go_wp2_with fail
  refine(HI.out).mono ?_
  rintro e w2 ⟨rfl,hb2⟩
  have HB2:=hid hb2
  clear hb2
  go_wp2
  go_ret2
  exact⟨by rw[HE.out.1,HE.out.2];rfl,HB2.out⟩
 ·rw[if_neg hd]at hI
  have HI:=hid hI
  have hns:n≤s.size:=by omega
  have HE:Hid (strOf (tw st s.data.toList)=s.extract 0 n∧strOf (dw st s.data.toList)=s.extract n s.size):=by
   refine⟨?_,?_⟩
   ·rw[agz,←hn,←ext_take,aG]
   ·rw[afl,←hn,←ext_drop,aG]
  have h0:¬(n:Int)<0:=by omega
  have h1:(n:Int)≤(s.size:Int):=by omega
  clear hI hd hn hl hlen
  go_enter Tryz.func261,Tryz.ntmps261
  go_wp2_with fail
  refine(HI.out).mono ?_
  rintro e w2 ⟨rfl,hb2⟩
  have HB2:=hid hb2
  clear hb2
  go_wp2_with fail
  go_quiet (fail)
  go_wp2
  go_ret2
  exact⟨by rw[HE.out.1,HE.out.2];rfl,Base.below_drewN HB2.out _⟩
theorem split47 (s:ByteArray) (w:World) (hs:s.size≤1073741824):Calls Tryz.prog 261 #[.string s,.string ⟨#[47]⟩] w fun e w'=>e=.returned (.tuple #[.string (strOf (tw [47] s.data.toList)),.string (strOf (dw [47] s.data.toList))])∧Below w.heap.size w w':=
 lZ s ⟨#[47]⟩ [47] w hs ((Tryz.strings_IndexAny_one s ⟨#[47]⟩ w rfl (by intro j b h;match j,h with|0,h=>(simp at h;subst h;decide))).mono fun e w' ⟨h1,h2⟩=>⟨h1,h2▸Below.refl _ _⟩)
theorem Yx (s:ByteArray) (w:World) (hs:s.size≤1073741824):Calls Tryz.prog 261 #[.string s,.string ⟨#[59]⟩] w fun e w'=>e=.returned (.tuple #[.string (strOf (tw [59] s.data.toList)),.string (strOf (dw [59] s.data.toList))])∧Below w.heap.size w w':=
 lZ s ⟨#[59]⟩ [59] w hs ((Tryz.strings_IndexAny_one s ⟨#[59]⟩ w rfl (by intro j b h;match j,h with|0,h=>(simp at h;subst h;decide))).mono fun e w' ⟨h1,h2⟩=>⟨h1,h2▸Below.refl _ _⟩)
theorem split2 (s:ByteArray) (w:World) (hs:s.size≤1073741824):Calls Tryz.prog 261 #[.string s,.string ⟨#[59,61]⟩] w fun e w'=>e=.returned (.tuple #[.string (strOf (tw [59,61] s.data.toList)),.string (strOf (dw [59,61] s.data.toList))])∧Below w.heap.size w w':=by
 refine lZ s ⟨#[59,61]⟩ [59,61] w hs ?_
 by_cases h8:8<s.size
 ·exact Tryz.strings_IndexAny_long s ⟨#[59,61]⟩ w (Nat.le_refl _) h8 (by omega) (by decide) (by intro j b h;match j,h with|0,h=>(simp at h;subst h;decide)|1,h=>(simp at h;subst h;decide))
 exact IdxM.short_any s w (by omega)
end Go.Proofs.YtmpeaoacaecgpaaGreatDoor.OW
