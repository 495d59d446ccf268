/- Texts that belong together: PthG, PthH, PthJ, aZ, UrlA. -/
import Derived.Test.YtmpeaoacaecgpaaGreatDoorXAI
import Derived.Test.YtmpeaoacaecgpaaGreatDoorXAG
import Derived.Lib.SliceRun
import Derived.Lib.IndexAny
import Derived.Test.YtmpeaoacaecgpaaGreatDoorXAA
import Derived.Lib.ItoaNum
set_option linter.unusedSimpArgs false
set_option linter.unusedVariables false
set_option maxRecDepth 100000
set_option maxHeartbeats 64000000
namespace Go.Proofs.YtmpeaoacaecgpaaGreatDoor.PthG
open Go.RowKit Base Base2 PthP acL Kr PthC PthE WR
theorem pq:(Tryz.prog.info? 9).map (fun i=>(i.zero,i.size,i.bytes))=some (some (.string ByteArray.empty),1,16):=by kernel_rfl
theorem ah1 {w:World} {B:Nat} {e:TypeId} {A:Option Addr} {n cap:Nat} {xs:List Value} (h:w.ownsRow B e 1 (.slice A n cap) n xs) (m:Nat) (hm:m≤n):w.ownsRow B e 1 (.slice A m cap) m (xs.take m):=by
 obtain⟨hl,h⟩:=h
 rw[Nat.mul_one]at hl
 refine⟨by rw[List.length_take];omega,?_⟩
 rcases h with⟨hv,h0⟩|⟨g,cap',cur,hv,hb,hh,hc,hmm,hs,ht⟩
 ·injection hv with h1 h2 h3
  obtain rfl:m=0:=by omega
  exact .inl ⟨by rw[h1,h3],rfl⟩
 injection hv with h1 h2 h3
 subst h3
 refine .inr ⟨g,cap,cur,by rw[h1],hb,hh,by omega,hmm,hs,?_⟩
 rw[Nat.mul_one]at ht⊢
 rw[←ht,List.take_take,Nat.min_eq_left hm]
def Hu (file last:Bool) (l:List ByteArray) (L:List UInt8):List ByteArray:=
 if Bo L then(if last then mM file l++[strOf []]else mM file l)else if xW L then(if last then l++[strOf []]else l)else l++[strOf (wr (file&&l.isEmpty) L)]
def lu (B:Nat) (w:World) (l:List ByteArray) (e:Ending) (w':World):Prop:=∃v,e=.returned v∧w'.ownsRow B 9 1 v l.length (l.map Value.string)∧Below B w w'
theorem abK (file last:Bool) (B:Nat) (v:Value) (l:List ByteArray) (s:ByteArray) (w:World) (hown:w.ownsRow B 9 1 v l.length (l.map Value.string)) (hB:B≤w.heap.size) (hl:l.length≤1000000) (hs:s.size≤1073741824):
  Calls Tryz.prog 322 #[.bool file,.bool last,v,.string s] w (lu B w (Hu file last l s.data.toList)):=by
 obtain⟨i0,hi,hz0,hz1,hz2⟩:=info_parts pq
 obtain⟨A,cap,rfl,hnc,hcm,hR⟩:=aJ hown
 obtain⟨n,hn⟩:∃n,n=l.length:=⟨_,rfl⟩
 rw[←hn]at hown hl hnc hR⊢
 obtain⟨S,hS⟩:∃S,S=Hu file last l s.data.toList:=⟨_,rfl⟩
 rw[←hS]
 have HN:=hid hn
 obtain⟨d,hd⟩:∃d,d=Bo s.data.toList:=⟨_,rfl⟩
 have HD:=hid hd
 cases d with
 |true=>
  obtain⟨m,hm⟩:∃m,m=if keep file l then n else n - 1:=⟨_,rfl⟩
  have hmn:m≤n:=by rw[hm];split<;>omega
  have aaz:mM file l=l.take m:=by
   unfold mM
   rw[hm]
   split
   ·rw[List.take_of_length_le (by omega)]
   ·rw[hn]
  have hlt:(l.take m).length=m:=by rw[List.length_take];omega
  have hown2:=ah1 hown m hmn
  rw[←List.map_take]at hown2
  have HOWN2:=hid hown2
  have HR:=hid hR
  have HM:=hid hm
  have sQ:=hid hlt
  have HSH:=hid aaz
  cases last with
  |false=>
   have F9:Hid (S=l.take m):=by show _=_;rw[hS];unfold Hu;rw[←hd,if_pos rfl,if_neg (by decide),aaz]
   clear hown hown2 hR hm aaz hS hd hn hlt
   go_enter Tryz.func322,Tryz.ntmps322
   go_wp2_with fail
   refine(nS s _ hs).mono ?_
   rintro e w2 ⟨rfl,hb2⟩
   rw[←HD.out]
   go_wp2_with fail
   refine(xQ file A n cap l _ (HR.out.below hb2) hnc hcm).mono ?_
   rintro e w3 ⟨rfl,rfl⟩
   rw[←HM.out]
   have HX:Hid (lu B w S (.returned (.slice A m cap)) w2):=⟨_,rfl,by rw[F9.out,sQ.out];exact aP HOWN2.out hb2,hb2.mono hB⟩
   go_wp2
   go_ret
   exact HX
  |true=>
   have F9:Hid (S=l.take m++[strOf []]):=by show _=_;rw[hS];unfold Hu;rw[←hd,if_pos rfl,if_pos rfl,aaz]
   clear hown hown2 hR hm aaz hS hd hn hlt
   go_enter Tryz.func322,Tryz.ntmps322
   go_wp2_with fail
   refine(nS s _ hs).mono ?_
   rintro e w2 ⟨rfl,hb2⟩
   rw[←HD.out]
   go_wp2_with fail
   refine(xQ file A n cap l _ (HR.out.below hb2) hnc hcm).mono ?_
   rintro e w3 ⟨rfl,rfl⟩
   rw[←HM.out]
   have hown3:=aP HOWN2.out hb2
   have hbel:Below B w w2:=hb2.mono hB
   have hB2:B≤w2.heap.size:=Nat.le_trans hB hb2.size
   go_wp2_with (at_builtin;refine aQ rfl _ _ 23 rfl B 9 i0 (.string ByteArray.empty) 16 Tryz.underlying23 hi hz0 hz1 hz2 rfl _ m _ rfl hown3 hbel hB2 [.string (strOf [])] 1 rfl rfl (by intro u hu;simp at hu;subst hu;rfl) (by unfold maxLen;omega) (by omega) ?_)
   intro v4 w4 hown4 rQ
   have HX:Hid (lu B w S (.returned v4) w4):=⟨_,rfl,by rw[F9.out,List.length_append,List.map_append,sQ.out,List.map_take];exact hown4,rQ⟩
   clear hown3 hown4 hbel
   go_wp2
   go_ret
   exact HX
 | false=>
  obtain⟨g,hg⟩:∃g,g=xW s.data.toList:=⟨_,rfl⟩
  have HG:=hid hg
  have hsm:s.size≤maxLen:=by unfold maxLen;omega
  have JO:=hid hsm
  have HOWN:=hid hown
  cases g with
  |true=>
   cases last with
   |false=>
    have F9:Hid (S=l):=by show _=_;rw[hS];unfold Hu;rw[←hd,if_neg (by decide),←hg,if_pos rfl,if_neg (by decide)]
    clear hown hR hS hd hg hn hsm
    go_enter Tryz.func322,Tryz.ntmps322
    go_wp2_with fail
    refine(nS s _ hs).mono ?_
    rintro e w2 ⟨rfl,hb2⟩
    rw[←HD.out]
    go_wp2_with fail
    refine(kE s _ JO.out).mono ?_
    rintro e w3 ⟨rfl,hb3⟩
    rw[←HG.out]
    have HX:Hid (lu B w S (.returned (.slice A n cap)) w3):=⟨_,rfl,by rw[F9.out,←HN.out];exact aP (aP HOWN.out hb2) hb3,(bel hb2 hb3).mono hB⟩
    go_wp2
    go_ret
    exact HX
   |true=>
    have F9:Hid (S=l++[strOf []]):=by show _=_;rw[hS];unfold Hu;rw[←hd,if_neg (by decide),←hg,if_pos rfl,if_pos rfl]
    clear hown hR hS hd hg hn hsm
    go_enter Tryz.func322,Tryz.ntmps322
    go_wp2_with fail
    refine(nS s _ hs).mono ?_
    rintro e w2 ⟨rfl,hb2⟩
    rw[←HD.out]
    go_wp2_with fail
    refine(kE s _ JO.out).mono ?_
    rintro e w3 ⟨rfl,hb3⟩
    rw[←HG.out]
    have hown3:=aP (aP HOWN.out hb2) hb3
    have hbel:Below B w w3:=(bel hb2 hb3).mono hB
    have hB2:B≤w3.heap.size:=Nat.le_trans hB (Nat.le_trans hb2.size hb3.size)
    go_wp2_with (at_builtin;refine aQ rfl _ _ 23 rfl B 9 i0 (.string ByteArray.empty) 16 Tryz.underlying23 hi hz0 hz1 hz2 rfl _ n _ rfl hown3 hbel hB2 [.string (strOf [])] 1 rfl rfl (by intro u hu;simp at hu;subst hu;rfl) (by unfold maxLen;omega) (by omega) ?_)
    intro v4 w4 hown4 rQ
    have HX:Hid (lu B w S (.returned v4) w4):=⟨_,rfl,by rw[F9.out,List.length_append,List.map_append,←HN.out];exact hown4,rQ⟩
    clear hown3 hown4 hbel
    go_wp2
    go_ret
    exact HX
  | false=>
   obtain⟨f,hf⟩:∃f,f=(file&&l.isEmpty):=⟨_,rfl⟩
   obtain⟨R,hR2⟩:∃R,R=strOf (wr f s.data.toList):=⟨_,rfl⟩
   have F9:Hid (S=l++[R]):=by show _=_;rw[hS];unfold Hu;rw[←hd,if_neg (by decide),←hg,if_neg (by decide),←hf,hR2]
   have HR2:=hid hR2
   have hcase:(file=false∧f=false)∨(file=true∧n=0∧f=true)∨(file=true∧n≠0∧f=false):=by
    cases file with
    |false=>exact .inl ⟨rfl,by rw[hf];rfl⟩
    |true=>
     match l,hn with
     |[],hn=>exact .inr (.inl ⟨rfl,by simpa using hn,by rw[hf];rfl⟩)
     |_::_,hn=>exact .inr (.inr ⟨rfl,by simp at hn;omega,by rw[hf];rfl⟩)
   clear hown hR hS hd hg hn hsm hf hR2
   rcases hcase with⟨rfl,rfl⟩|⟨rfl,h0,rfl⟩|⟨rfl,h0,rfl⟩
   ·go_enter Tryz.func322,Tryz.ntmps322
    go_wp2_with fail
    refine(nS s _ hs).mono ?_
    rintro e w2 ⟨rfl,hb2⟩
    rw[←HD.out]
    go_wp2_with fail
    refine(kE s _ JO.out).mono ?_
    rintro e w3 ⟨rfl,hb3⟩
    rw[←HG.out]
    go_wp2_with fail
    refine(sN _ s _ hs).mono ?_
    rintro e w5 ⟨rfl,hb5⟩
    rw[←HR2.out]
    have hown3:=aP (aP (aP HOWN.out hb2) hb3) hb5
    have hbel:Below B w w5:=(bel (bel hb2 hb3) hb5).mono hB
    have hB2:B≤w5.heap.size:=Nat.le_trans hB (Nat.le_trans hb2.size (Nat.le_trans hb3.size hb5.size))
    go_wp2_with (at_builtin;refine aQ rfl _ _ 23 rfl B 9 i0 (.string ByteArray.empty) 16 Tryz.underlying23 hi hz0 hz1 hz2 rfl _ n _ rfl hown3 hbel hB2 [.string R] 1 rfl rfl (by intro u hu;simp at hu;subst hu;rfl) (by unfold maxLen;omega) (by omega) ?_)
    intro v4 w4 hown4 rQ
    have HX:Hid (lu B w S (.returned v4) w4):=⟨_,rfl,by rw[F9.out,List.length_append,List.map_append,←HN.out];exact hown4,rQ⟩
    clear hown3 hown4 hbel
    go_wp2
    go_ret
    exact HX
   ·have q0:((n:Int)==0)=true:=by simp;omega
    have Uz:=hid h0
    clear h0
    go_enter Tryz.func322,Tryz.ntmps322
    go_wp2_with fail
    refine(nS s _ hs).mono ?_
    rintro e w2 ⟨rfl,hb2⟩
    rw[←HD.out]
    go_wp2_with fail
    refine(kE s _ JO.out).mono ?_
    rintro e w3 ⟨rfl,hb3⟩
    rw[←HG.out]
    go_wp2_with fail
    refine(sN _ s _ hs).mono ?_
    rintro e w5 ⟨rfl,hb5⟩
    rw[←HR2.out]
    have hown3:=aP (aP (aP HOWN.out hb2) hb3) hb5
    have hbel:Below B w w5:=(bel (bel hb2 hb3) hb5).mono hB
    have hB2:B≤w5.heap.size:=Nat.le_trans hB (Nat.le_trans hb2.size (Nat.le_trans hb3.size hb5.size))
    go_wp2_with (at_builtin;refine aQ rfl _ _ 23 rfl B 9 i0 (.string ByteArray.empty) 16 Tryz.underlying23 hi hz0 hz1 hz2 rfl _ n _ rfl hown3 hbel hB2 [.string R] 1 rfl rfl (by intro u hu;simp at hu;subst hu;rfl) (by unfold maxLen;omega) (by omega) ?_)
    intro v4 w4 hown4 rQ
    have HX:Hid (lu B w S (.returned v4) w4):=⟨_,rfl,by rw[F9.out,List.length_append,List.map_append,←HN.out];exact hown4,rQ⟩
    clear hown3 hown4 hbel
    go_wp2
    go_ret
    exact HX
   ·have q0:((n:Int)==0)=false:=by simp;omega
    clear h0
    go_enter Tryz.func322,Tryz.ntmps322
    go_wp2_with fail
    refine(nS s _ hs).mono ?_
    rintro e w2 ⟨rfl,hb2⟩
    rw[←HD.out]
    go_wp2_with fail
    refine(kE s _ JO.out).mono ?_
    rintro e w3 ⟨rfl,hb3⟩
    rw[←HG.out]
    go_wp2_with fail
    refine(sN _ s _ hs).mono ?_
    rintro e w5 ⟨rfl,hb5⟩
    rw[←HR2.out]
    have hown3:=aP (aP (aP HOWN.out hb2) hb3) hb5
    have hbel:Below B w w5:=(bel (bel hb2 hb3) hb5).mono hB
    have hB2:B≤w5.heap.size:=Nat.le_trans hB (Nat.le_trans hb2.size (Nat.le_trans hb3.size hb5.size))
    go_wp2_with (at_builtin;refine aQ rfl _ _ 23 rfl B 9 i0 (.string ByteArray.empty) 16 Tryz.underlying23 hi hz0 hz1 hz2 rfl _ n _ rfl hown3 hbel hB2 [.string R] 1 rfl rfl (by intro u hu;simp at hu;subst hu;rfl) (by unfold maxLen;omega) (by omega) ?_)
    intro v4 w4 hown4 rQ
    have HX:Hid (lu B w S (.returned v4) w4):=⟨_,rfl,by rw[F9.out,List.length_append,List.map_append,←HN.out];exact hown4,rQ⟩
    clear hown3 hown4 hbel
    go_wp2
    go_ret
    exact HX
end Go.Proofs.YtmpeaoacaecgpaaGreatDoor.PthG
namespace Go.Proofs.YtmpeaoacaecgpaaGreatDoor.PthH
open Go.RowKit Base Base2 Base3 PthE PthG
theorem JE (l:List ByteArray):∀u ∈ l.map Value.string,u.oneCell'=true:=by
 intro u hu
 simp only[List.mem_map]at hu
 obtain⟨s,_,rfl⟩:=hu
 rfl
theorem zS (A:Option Addr) (n cap:Nat) (l:List ByteArray) (w:World) (h:aY w A n (l.map Value.string)) (hm:n≤1000000):
  Calls Tryz.prog 232 #[.slice A n cap] w (lu w.heap.size w l):=by
 have hl:l.length=n:=by rw[←h.1,List.length_map]
 have HH:=hid h
 clear h
 obtain⟨i0,hi,hz0,hz1,hz2⟩:=info_parts pq
 have hnil:=fun(W:World)=>Lib.run_eql_slice_nil (P:=Tryz.prog) W 23 9 A n cap 0 0 Tryz.underlying23
 cases A with
 | none=>
  have h0:n=0:=by
   rcases Nat.eq_zero_or_pos n with h0|h0
   ·exact h0
   ·obtain⟨_,_,e,_⟩:=HH.out.spot h0
    cases e
  subst h0
  obtain rfl:l=[]:=List.eq_nil_of_length_eq_zero hl
  have HX:Hid (lu w.heap.size w [] (.returned (.slice none 0 0)) w):=⟨_,rfl,World.ownsRow_nil _ _ _ _,Below.refl _ _⟩
  clear hl
  go_enter Tryz.func232,Tryz.ntmps232
  go_wp2
  go_ret
  exact HX
 |some ad=>
  have hownA:(w.alloc (.cells #[] 9)).ownsRow w.heap.size 9 1 (.slice (some ⟨w.heap.size,0,none⟩) 0 0) 0 []:=World.ownsRow_made w #[] 0 (Nat.le_refl _) (by decide) rfl
  have jm:Below w.heap.size w (w.alloc (.cells #[] 9)):=(Below.refl _ _).alloc (Nat.le_refl _) _
  have Zf:Hid (aY (w.alloc (.cells #[] 9)) (some ad) n (l.map Value.string)):=HH.out.below jm
  have HL:=hid hl
  clear hl
  go_enter Tryz.func232,Tryz.ntmps232
  go_wp2_with (at_builtin;refine dH rfl _ _ 23 rfl w.heap.size 9 i0 (.string ByteArray.empty) 16 Tryz.underlying23 hi hz0 hz1 hz2 rfl _ 0 [] rfl hownA jm jm.size (some ad) n cap (l.map Value.string) rfl Zf.out (JE _) (by unfold maxLen;omega) (by omega) ?_)
  intro v3 w3 hown3 dG
  have HX:Hid (lu w.heap.size w l (.returned v3) w3):=⟨_,rfl,by rw[HL.out];simpa using hown3,dG⟩
  clear hownA jm Zf hown3
  go_wp2
  go_ret
  exact HX
theorem agi {w:World} {A:Option Addr} {n:Nat} {l:List ByteArray} (file:Bool) (hR:aY w A n (l.map Value.string)):aY w A (if keep file l then n else n - 1) ((mM file l).map Value.string):=by
 have hl:l.length=n:=by rw[←hR.1,List.length_map]
 unfold mM
 cases e:keep file l with
 |true=>simpa using hR
 |false=>
  rcases Nat.eq_zero_or_pos n with h0|h0
  ·obtain rfl:l=[]:=List.eq_nil_of_length_eq_zero (by omega)
   cases e
  obtain⟨g,off,rfl,_⟩:=hR.spot h0
  have:=hR.upto (n - 1) (by omega)
  rw[if_neg (by decide),if_neg (by decide),List.map_take,hl]
  exact this
theorem Ed (file:Bool) (A:Option Addr) (n cap:Nat) (l:List ByteArray) (w:World) (hR:aY w A n (l.map Value.string)) (hnc:n≤cap) (hcm:cap≤maxLen) (hm:n≤1000000):
  Calls Tryz.prog 223 #[.bool file,.slice A n cap] w (lu w.heap.size w (mM file l)):=by
 have HS:=hid (agi file hR)
 have HR:=hid hR
 obtain⟨m,hmm⟩:∃m,m=if keep file l then n else n - 1:=⟨_,rfl⟩
 have hmn:m≤1000000:=by rw[hmm];split<;>omega
 have HM:=hid hmm
 clear hR hmm
 go_enter Tryz.func223,Tryz.ntmps223
 go_wp2_with fail
 refine(xQ file A n cap l _ HR.out hnc hcm).mono ?_
 rintro e w2 ⟨rfl,rfl⟩
 rw[←HM.out]
 go_wp2_with fail
 refine(zS A m cap (mM file l) _ (by rw[HM.out];exact HS.out) hmn).mono ?_
 rintro e w3 ⟨v,rfl,hown,hb3⟩
 have HX:Hid (lu w.heap.size w (mM file l) (.returned v) w3):=⟨v,rfl,hown,hb3⟩
 clear hown
 go_wp2
 go_ret
 exact HX
end Go.Proofs.YtmpeaoacaecgpaaGreatDoor.PthH
namespace Go.Proofs.YtmpeaoacaecgpaaGreatDoor.PthJ
open Go.RowKit Base Base2 PthP Kr PthE WR PthG
def gB (sp:Bool) (c:UInt8):Bool:=decide (c=47)||(sp&&decide (c=92))
def upto (sp:Bool):List UInt8→Nat
 |[]=>0
 |c::L=>if gB sp c=true then 0 else upto sp L+1
theorem YH (sp:Bool):∀L:List UInt8,upto sp L≤L.length
 |[]=>Nat.le_refl _
 |c::L=>by
  have:=YH sp L
  unfold upto
  split
  ·omega
  ·simp;omega
def chs (sp:Bool):List UInt8:=if sp then[47,92]else[47]
theorem afd (sp:Bool) (c:UInt8):(chs sp).contains c=gB sp c:=by
 rw[Bool.eq_iff_iff]
 cases sp<;>simp[chs,gB]
theorem Vq (sp:Bool):∀L:List UInt8,Lib.indexAny L (chs sp)=if upto sp L<L.length then(upto sp L:Int)else -1
 |[]=>by simp[Lib.indexAny]
 | c :: L => by
  have ih:=Vq sp L
  rw[Lib.indexAny,afd,ih,upto]
  cases h:gB sp c with
  |true=>simp
  |false=>
   simp only[Bool.false_eq_true,if_false]
   by_cases h2:upto sp L<L.length
   ·have h3:((upto sp L:Int)== -1)=false:=by rw[beq_eq_false_iff_ne];omega
    have h4:upto sp L+1<(c::L).length:=by simp;omega
    simp only[if_pos h2,h3,h4,Bool.false_eq_true,if_false,if_true]
    omega
   ·have h4:¬upto sp L+1<(c::L).length:=by simp;omega
    simp only[if_neg h2,if_neg h4]
    rfl
def wb (file sp:Bool):List ByteArray→List UInt8→List UInt8→List ByteArray
 |l,b,[]=>Hu file true l b
 |l,b,c::M=>if gB sp c=true then wb file sp (Hu file false l b) [] M else wb file sp l (b++[c]) M
theorem agC (file sp:Bool):∀(M:List UInt8) (l:List ByteArray) (b:List UInt8),¬upto sp M<M.length→wb file sp l b M=Hu file true l (b++M)
 |[],l,b,_=>by rw[List.append_nil];rfl
 |c::M,l,b,h=>by
  unfold upto at h
  cases hs:gB sp c with
  |true=>rw[hs]at h;simp at h
  |false=>
   rw[hs,if_neg (by decide)]at h
   rw[wb,hs,if_neg (by decide),agC file sp M l (b++[c]) (by simp at h;omega),List.append_assoc]
   rfl
theorem agD (file sp:Bool):∀(M:List UInt8) (l:List ByteArray) (b:List UInt8),upto sp M<M.length→wb file sp l b M=wb file sp (Hu file false l (b++M.take (upto sp M))) [] (M.drop (upto sp M+1))
 |[],l,b,h=>by simp[upto]at h
 |c::M,l,b,h=>by
  unfold upto at h
  cases hs:gB sp c with
  |true=>
   rw[wb,hs,if_pos rfl,upto,hs,if_pos rfl]
   simp
  |false=>
   rw[hs,if_neg (by decide)]at h
   rw[wb,hs,if_neg (by decide),agD file sp M l (b++[c]) (by simp at h;omega),List.append_assoc,upto,hs,if_neg (by decide)]
   rfl
theorem vI (file last:Bool) (l:List ByteArray) (L:List UInt8):(Hu file last l L).length≤l.length+1:=by
 have h:(mM file l).length≤l.length:=by rw[GN];split<;>omega
 unfold Hu
 repeat' split
 all_goals simp
 all_goals omega
end Go.Proofs.YtmpeaoacaecgpaaGreatDoor.PthJ
namespace Go.Proofs.YtmpeaoacaecgpaaGreatDoor.aZ
open Go.RowKit Base
def aO (l:List ByteArray):List UInt8:=l.flatMap fun s=>47::s.data.toList
def pF (b6:Bool) (s7:ByteArray) (l:List ByteArray):List UInt8:=if b6 then s7.data.toList else aO l
def lD (s1 s2:ByteArray):List UInt8:=if s2.data.toList=[]then(if s1.data.toList=[]then[]else s1.data.toList++[64])else s1.data.toList++[58]++s2.data.toList++[64]
def kK (z5:Int):List UInt8:=if z5= -1 then[]else 58::Lib.itoa z5
def dotted (b6:Bool) (l:List ByteArray):Bool:= !b6&&match l with
 |a::_::_=>decide (a.data.toList=[])
 |_=>false
def ug (s1 s2 s3:ByteArray) (b4:Bool) (z5:Int) (b6:Bool) (l:List ByteArray):List UInt8:=
 if b4 then[47,47]++lD s1 s2++s3.data.toList++kK z5 else if dotted b6 l then[47,46]else[]
def wH (s0 s1 s2 s3:ByteArray) (b4:Bool) (z5:Int) (b6:Bool) (s7:ByteArray) (l:List ByteArray) (b9:Bool) (s11:ByteArray):List UInt8:=
 s0.data.toList++[58]++ug s1 s2 s3 b4 z5 b6 l++pF b6 s7 l++(if b9 then 63::s11.data.toList else[])
def adw (s0 s1 s2 s3 s7 s11 s12:ByteArray) (l:List ByteArray):Nat:=s0.size+s1.size+s2.size+s3.size+s7.size+s11.size+s12.size+(l.map (·.size)).sum
theorem abf (l:List ByteArray) (s:ByteArray):aO (l++[s])=aO l++(47::s.data.toList):=by simp[aO]
theorem fM (l:List ByteArray):(aO l).length=l.length+(l.map (·.size)).sum:=by
 induction l with
 |nil=>rfl
 |cons a l ih=>
  have e:aO (a::l)=(47::a.data.toList)++aO l:=rfl
  rw[e,List.length_append,ih]
  simp only[List.length_cons,List.map_cons,List.sum_cons]
  rw[show a.data.toList.length=a.size from Array.length_toList]
  omega
theorem take_snoc (l:List ByteArray) (k:Nat) (h:k<l.length):l.take (k+1)=l.take k++[l[k]]:=by
 rw[List.take_succ_eq_append_getElem h]
theorem pK (l:List ByteArray) (k:Nat):((l.take k).map (·.size)).sum≤(l.map (·.size)).sum:=by
 have h:l.map (·.size)=(l.take k).map (·.size)++(l.drop k).map (·.size):=by rw[←List.map_append,List.take_append_drop]
 rw[h,List.sum_append]
 omega
theorem AV (l:List ByteArray) (k:Nat) (h:k<l.length):((l.take (k+1)).map (·.size)).sum=((l.take k).map (·.size)).sum+l[k].size:=by
 rw[take_snoc l k h,List.map_append,List.sum_append]
 simp
theorem kX (L:List UInt8):(strOf L).data.toList=L:=rfl
theorem tl (s:ByteArray):s.toList=s.data.toList:=by
 obtain⟨d⟩:=s;rw[ByteArray.toList_mk]
end Go.Proofs.YtmpeaoacaecgpaaGreatDoor.aZ
namespace Go.Proofs.YtmpeaoacaecgpaaGreatDoor.UrlA
open Go.RowKit Base Base2 aZ
def portOf (L:List UInt8):Int:=if L=[102,116,112]then 21 else if L=[104,116,116,112]∨L=[119,115]then 80 else if L=[104,116,116,112,115]∨L=[119,115,115]then 443 else -1
def special (L:List UInt8):Bool:=decide (L=[102,105,108,101])||decide (portOf L≠-1)
theorem sorts (L:List UInt8):L=[102,116,112]∨L=[104,116,116,112]∨L=[119,115]∨L=[104,116,116,112,115]∨L=[119,115,115]∨L=[102,105,108,101]∨(L≠[102,116,112]∧L≠[104,116,116,112]∧L≠[119,115]∧L≠[104,116,116,112,115]∧L≠[119,115,115]∧L≠[102,105,108,101]):=by
 by_cases h1:L=[102,116,112]
 ·exact .inl h1
 by_cases h2:L=[104,116,116,112]
 ·exact .inr (.inl h2)
 by_cases h3:L=[119,115]
 ·exact .inr (.inr (.inl h3))
 by_cases h4:L=[104,116,116,112,115]
 ·exact .inr (.inr (.inr (.inl h4)))
 by_cases h5:L=[119,115,115]
 ·exact .inr (.inr (.inr (.inr (.inl h5))))
 by_cases h6:L=[102,105,108,101]
 ·exact .inr (.inr (.inr (.inr (.inr (.inl h6)))))
 exact .inr (.inr (.inr (.inr (.inr (.inr ⟨h1,h2,h3,h4,h5,h6⟩)))))
theorem iD {s:ByteArray} {L:List UInt8} (h:s.data.toList=L):s=⟨L.toArray⟩:=by
 obtain⟨d⟩:=s
 subst h
 rfl
theorem jd {s:ByteArray} {L:List UInt8} (h:s.data.toList≠L):(s.toList==L)=false:=by
 rw[tl];simpa using h
theorem ML (s:ByteArray) (w:World):Calls Tryz.prog 225 #[.string s] w fun e w'=>e=.returned (.int .i64 (portOf s.data.toList))∧w'=w:=by
 rcases sorts s.data.toList with h|h|h|h|h|h|⟨h1,h2,h3,h4,h5,h6⟩
 ·obtain rfl:=iD h
  clear h
  go_enter Tryz.func225,Tryz.ntmps225
  go_wp2
  go_ret
  exact⟨rfl,rfl⟩
 ·obtain rfl:=iD h
  clear h
  go_enter Tryz.func225,Tryz.ntmps225
  go_wp2
  go_ret
  exact⟨rfl,rfl⟩
 ·obtain rfl:=iD h
  clear h
  go_enter Tryz.func225,Tryz.ntmps225
  go_wp2
  go_ret
  exact⟨rfl,rfl⟩
 ·obtain rfl:=iD h
  clear h
  go_enter Tryz.func225,Tryz.ntmps225
  go_wp2
  go_ret
  exact⟨rfl,rfl⟩
 ·obtain rfl:=iD h
  clear h
  go_enter Tryz.func225,Tryz.ntmps225
  go_wp2
  go_ret
  exact⟨rfl,rfl⟩
 ·obtain rfl:=iD h
  clear h
  go_enter Tryz.func225,Tryz.ntmps225
  go_wp2
  go_ret
  exact⟨rfl,rfl⟩
 have HP:Hid (portOf s.data.toList= -1):=by
  unfold portOf
  show _=_
  rw[if_neg h1,if_neg (by rintro(h|h);exact h2 h;exact h3 h),if_neg (by rintro(h|h);exact h4 h;exact h5 h)]
 have HS:Hid (special s.data.toList=false):=by
  unfold special
  show _=_
  rw[HP.out]
  simpa using h6
 replace h1:=jd h1
 replace h2:=jd h2
 replace h3:=jd h3
 replace h4:=jd h4
 replace h5:=jd h5
 replace h6:=jd h6
 go_enter Tryz.func225,Tryz.ntmps225
 go_wp2
 go_ret
 exact⟨iw HP.out.symm,rfl⟩
theorem jv (s:ByteArray) (w:World):Calls Tryz.prog 114 #[.string s] w fun e w'=>e=.returned (.bool (special s.data.toList))∧w'=w:=by
 by_cases h:s.data.toList=[102,105,108,101]
 ·obtain rfl:=iD h
  clear h
  go_enter Tryz.func114,Tryz.ntmps114
  go_wp2
  go_ret
  exact⟨rfl,rfl⟩
 obtain⟨p,hp⟩:∃p,p=portOf s.data.toList:=⟨_,rfl⟩
 have HS:Hid (special s.data.toList=decide (p≠-1)):=by
  unfold special
  show _=_
  rw[←hp,decide_eq_false h]
  rfl
 have HP:=hid hp
 replace h:=jd h
 clear hp
 go_enter Tryz.func114,Tryz.ntmps114
 go_wp2_with fail
 refine(ML _ _).mono ?_
 rintro e w1 ⟨rfl,rfl⟩
 rw[←HP.out]
 by_cases e1:p= -1
 ·subst e1
  go_wp2
  go_ret
  exact⟨ak HS.out.symm,rfl⟩
 have q1:(p== -1)=false:=by simpa using e1
 have q2:(p != -1)=true:=by simpa using e1
 have HE:Hid (decide (p≠-1)=true):=decide_eq_true e1
 clear e1
 go_wp2
 go_ret
 exact⟨ak (by rw[HS.out,HE.out]),rfl⟩
end Go.Proofs.YtmpeaoacaecgpaaGreatDoor.UrlA
