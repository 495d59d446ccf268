/- Lemmas. -/
import Derived.Test.YtgockiomacchoaaGreatDoorPRBAM
import Derived.Lib.TrimUEq
import Derived.Lib.SpaceUEq
import Derived.Lib.TrimAscii
import Derived.Lib.MapU
import Derived.Test.YtgockiomacchoaaGreatDoorShelf2
set_option linter.unusedSimpArgs false
set_option linter.unusedVariables false
set_option maxRecDepth 100000
set_option maxHeartbeats 64000000
namespace Go.Proofs.YtgockiomacchoaaGreatDoor
open Tryz
namespace aac
open Go.RowKit Base eH bf jR gK aJ yG vP Zl vK yH mY uf zf
theorem Yt {r:List UInt8} (h:Lib.hasPrefix r [47,47]=true):2≤r.length:=by
 unfold Lib.hasPrefix at h
 match r,h with
 |[],h=>cases h
 |[a],h=>simp[List.isPrefixOf]at h
 |a::b::t,_=>simp
theorem WL (E:List UInt8):(Lib.trimSuffix E [32]).length≤E.length:=by
 unfold Lib.trimSuffix;split
 ·simp
 exact Nat.le_refl _
theorem Hy (p:Parts) (w:World) (hs:p.rest.length≤900000) (hL:oZ w) (hT:Tab.Pow w) (hM:Max w):Calls prog 35 #[.agg (fQ p)] w (l7 w (aJ.plain p)):=by
 obtain⟨s,r,q,f,hq,hf⟩:=p;simp only at hs;obtain⟨O,hO⟩:∃O,O=aJ.plain ⟨s,r,q,f,hq,hf⟩:=⟨_,rfl⟩;rw[←hO];obtain⟨a2,b6⟩:∃x,x=Lib.hasPrefix r [47,47]:=⟨_,rfl⟩;obtain⟨a1,e2⟩:∃x,x=Lib.hasPrefix r [47]:=⟨_,rfl⟩;unfold aJ.plain at hO;simp only at hO;rw[←b6,←e2]at hO;have f3:a2=true→2≤r.length:=fun h=>by rw[h]at b6;exact Yt b6.symm
 have i2:=hid f3;have h4:Hid (∀w:World,Calls prog 30 #[.string (ah r),.string ⟨#[47,47]⟩] w fun e w'=>e=.returned (.bool a2)∧w'=w):=fun w=>by rw[b6];exact strings_HasPrefix (ah r) ⟨#[47,47]⟩ w
 have h5:Hid (∀w:World,Calls prog 30 #[.string (ah r),.string ⟨#[47]⟩] w fun e w'=>e=.returned (.bool a1)∧w'=w):=fun w=>by rw[e2];exact strings_HasPrefix (ah r) ⟨#[47]⟩ w
 have i1:Hid (∀(L:List UInt8) (w:World),L.length≤900000→oZ w→Tab.Pow w→Max w→Calls prog 32 #[.string (ah s),.string (ah L)] w (l7 w (authority s L))):=fun L w h a c d=>nR s L w h a c d;have h3:Hid (∀w:World,Calls prog 92 #[.string (ah s),.string (ah r)] w (jY w.heap.size w (aB s r))):=fun w=>uS (ah s) (ah r) w (dN (by omega));obtain⟨E,hE⟩:∃E,E=aG.enc 0 r:=⟨_,rfl⟩;have i6:E.length≤3000000:=by rw[hE];have:=aG.fK 0 r;omega
 have h8:Hid (∀(A:Option Addr) (n c:Nat) (w:World),dV w A n (aQ r)→n≤1073741824→Calls prog 37 #[.int .i64 0,.slice A n c] w fun e w'=>e=.returned (.string (ah E))∧Below w.heap.size w w'):=fun A n c w h1 h2=>by rw[hE];exact aG.gq 0 A n c r w h1 h2
 have e9:aJ.dK (hq||hf) r=if Lib.hasSuffix E [32]=true∧(hq||hf)=true then Lib.trimSuffix E [32]++[37,50,48]else E:=by rw[hE];rfl
 rw[e9]at hO;obtain⟨sb,e0⟩:∃x,x=Lib.hasSuffix E [32]:=⟨_,rfl⟩;obtain⟨z,d1⟩:∃x,x=Lib.trimSuffix E [32]:=⟨_,rfl⟩;have i3:z.length≤3000000:=by rw[d1];have:=WL E;omega
 have h9:Hid (∀w:World,Calls prog 102 #[.string (ah E),.string ⟨#[32]⟩] w fun e w'=>e=.returned (.tuple #[.string (ah z),.bool sb])∧w'=w):=fun w=>by rw[d1,e0];exact strings_CutSuffix (ah E) ⟨#[32]⟩ w (by rw[ak];omega)
 have f8:Hid (∀w:World,(Op.stringOp .add (ah z) ⟨#[37,50,48]⟩).run prog w=.ok (.string (ah (z++[37,50,48]))) w):=fun w=>iY (ah z) ⟨#[37,50,48]⟩ w (by rw[ak];show _+3≤_;omega);rw[←e0,←d1]at hO;have HO:=hid hO;have HL:=hid hL;have HT:=hid hT;have HM:=hid hM;clear hO b6 e2 f3 e9 e0 d1 hE hL hT hM;go_enter func35,ntmps35;go_upto_region 1 with(fail)
 generalize hw:World.alloc (World.alloc w _) _=w1;have h1:PB w1 (w.heap.size) (⟨s,r,q,f,hq,hf⟩)∧UB w1 ((w.heap.size+1)) (U0) (.slice none 0 0)∧Below w.heap.size w w1:=by
  subst hw;exact EH w _ _ _ _
 clear hw;have C:Hid (w.heap.size≤(w.heap.size+1)):=Nat.le_succ _;have a8:=hid h1.1;have b8:=hid h1.2.1;have d9:=hid h1.2.2;clear h1;obtain⟨p0,p1,p2,p3,p4,p5⟩:=a8.facts;go_upto_region 7 with(fail)
 generalize hw:World.alloc w1 _=w2;have h1:UB w2 (w1.heap.size) ({U0 with au:=s,port:= -1}) (.slice none 0 0)∧Below w1.heap.size w1 w2:=by
  subst hw;exact jd w1 _ _
 clear hw;have g3:=a8.lt;have y:Hid (w.heap.size≠w1.heap.size):=by show _≠_;omega
 clear g3;have g2:=b8.lt;have v:Hid ((w.heap.size+1)≠w1.heap.size):=by show _≠_;omega
 clear g2;have a5:Hid (w.heap.size≤w1.heap.size):=d9.size;have a3:=hid (a8.below h1.2);have N:=hid (b8.below h1.2);have X:=hid (bD d9 h1.2);have I:=hid h1.1;clear h1;clear p0 p1 p2 p3 p4 p5;obtain⟨p0,p1,p2,p3,p4,p5⟩:=a3.facts;go_wp2_with fail
 refine(h4 _).mono ?_;rintro e wx ⟨rfl,D⟩;obtain rfl:w2=wx:=by first|exact D|exact D.symm
 clear D;cases a2 with
 | true=>
  have g4:=i2 (by simp);have W:Hid (O=authority s (r.drop 2)):=by show _=_;rw[HO.out,if_pos (by simp)]
  obtain⟨T2,d2⟩:∃x,x=r.drop 2:=⟨_,rfl⟩;have e8:(ah r).extract 2 (ah r).size=ah T2:=by rw[kS,d2];rfl
  have h0:=hid e8;have i5:(2:Int)≤((ah r).size:Int):=by rw[ak];omega
  rw[←d2]at W;have i4:T2.length≤900000:=by rw[d2,List.length_drop];omega
  have b0:Hid ((w.heap.size+1)<w2.heap.size):=N.lt;have HF:=hid a3.facts;obtain⟨OA,e3⟩:∃x,x=authority s T2:=⟨_,rfl⟩;have f5:Hid (∀w:World,oZ w→Tab.Pow w→Max w→Calls prog 32 #[.string (ah s),.string (ah T2)] w (l7 w OA)):=fun w a b c=>by rw[e3];exact i1 T2 w (by omega) a b c
  rw[←e3]at W;clear d2 g4 e8 e3;clear p0 p1 p2 p3 p4 p5;go_upto_region 8 with(fail)
  refine aV (by kernel_rfl) 8 [pg w.heap.size 0,is (.string (ah s)),pg w.heap.size 1,is (.string (ah r)),is (.string (ah T2)),OJ OA w2.heap.size,ML OA w2.heap.size,is (.bool OA.isSome)] [[],[0],[],[2],[2,3],[0,1,2,3,4],[0,1,2,3,4,5],[0,1,2,3,4,5],[0,1,2,3,4,5,6,7]] (by kernel_rfl) ?_ ?_
  ·refine⟨?_,?_,?_,?_,?_,?_,?_,?_,trivial⟩;all_goals(intro t wq T hh K hK;simp only[iD,oP,Act.put,Nat.reduceAdd,Nat.reduceEqDiff,reduceIte]at hh hK⊢)
   ·try simp only[hh]at hK⊢
    clear hh;go_simp;exact hK _ _ aT rfl
   ·try simp only[hh]at hK⊢
    clear hh;have hc:=HF.1;have g6:=(T.cell (p:=⟨w.heap.size,0,none⟩) (by have:=b0.out;show w.heap.size<_;omega)).trans hc;go_simp;exact hK _ _ aT rfl
   ·try simp only[hh]at hK⊢
    clear hh;go_simp;exact hK _ _ aT rfl
   ·try simp only[hh]at hK⊢
    clear hh;have hc:=HF.2.1;have g6:=(T.cell (p:=⟨w.heap.size,1,none⟩) (by have:=b0.out;show w.heap.size<_;omega)).trans hc;go_simp;exact hK _ _ aT rfl
   ·try simp only[hh]at hK⊢
    clear hh;have hx:=h0.out;go_simp;exact hK _ _ aT rfl
   ·try simp only[hh]at hK⊢
    clear hh;go_simp;refine(f5 _ (HL.below (bD X T)) (cZ HT (bD X T)) (HM.below (bD X T))).mono ?_;intro e w9 ha;obtain⟨g7,A9,n9,c9,rfl,g1⟩:=eH.ny ha;exact hK _ _ g7 ⟨A9,n9,c9,rfl,aH g1 T.size⟩
   ·have e5:=hh.2.2.2.2.2.1;clear hh;obtain⟨A5,n5,c5,e5,f1⟩:=e5;simp only[e5]at hK⊢;go_simp;exact hK _ _ aT ⟨_,_,_,rfl,f1⟩
   have e5:=hh.2.2.2.2.2.1;clear hh;obtain⟨A5,n5,c5,e5,f1⟩:=e5;simp only[e5]at hK⊢;go_simp;exact hK _ _ aT rfl
  intro t wq T hh;have f6:=aO hh 6 (by decide);simp only[pick]at f6;have f7:=aO hh 7 (by decide);simp only[pick]at f7;replace f7:t 7=(.bool OA.isSome):=f7;clear hh;simp only[iD,oP,Act.put,Nat.reduceAdd,Nat.reduceEqDiff,reduceIte];obtain⟨A6,n6,c6,f6,f0⟩:=f6;simp only[f6,f7];have d8:=hid (N.below T);have i0:=hid (bD X T);have h6:=hid f0;clear f0 T;refine aI d8 ((OA).getD U0) A6 n6 c6 (.tmp 2) (.tmp 44) rfl rfl rfl rfl ?_;go_wp2;have ho:=aH (fC.aP (w':=World.setRow wq (w.heap.size+1) (cells ((OA).getD U0) (.slice A6 n6 c6))) (gb:=(w.heap.size+1)) (h6) (fun k hk=>setRow_other _ _ _ _ hk) b0) (by have h1:=C.out;have h2:=b0.out;omega:w.heap.size≤_);refine bodyPost_ret (gJ rfl (d8.row _ _) (OA).isSome _ rfl rfl) rfl ?_;rw[W.out];exact eH.nO (below_setRow i0 C _) ho
 | false=>
  have f4:Hid (O=if a1=true then some {U0 with au:=s,port:= -1,aF:=aB s r}else some {U0 with au:=s,port:= -1,dK:=true,txt:=if sb=true∧(hq||hf)=true then z++[37,50,48]else E}):=by show _=_;rw[HO.out,if_neg (by simp)]
  go_wp2_with fail
  refine(h5 _).mono ?_;rintro e wx ⟨rfl,D⟩;obtain rfl:w2=wx:=by first|exact D|exact D.symm
  clear D;cases a1 with
  |true=>
   have W:Hid (O=some {U0 with au:=s,port:= -1,aF:=aB s r}):=by show _=_;rw[f4.out,if_pos (by simp)]
   go_wp2_with fail
   clear p0 p1 p2 p3 p4 p5;refine(h3 _).mono ?_;rintro e w3 ⟨q1,rfl,a4,F⟩;obtain⟨Aq,cq,rfl,f9⟩:=bV (u:={U0 with aF:=aB s r}) a4;clear f9;replace a4:=aH a4 (Nat.le_refl _);have h7:Hid (w1.heap.size<w2.heap.size):=I.lt;have b0:Hid ((w.heap.size+1)<w2.heap.size):=N.lt;have a0:=hid (a3.below F);have a7:=hid (N.below F);have H:=hid (I.below F);have d0:=hid (bD X F);have e7:=hid a4;clear a4;clear F;have b5:=fC.aP (w':=w3.setCell ⟨w1.heap.size,8,none⟩ (.slice Aq (aB s r).length cq)) (gb:=w1.heap.size) e7 (fun k hk=>heap_setCell_other _ _ _ _ hk) h7;have d7:=hid b5;clear b5;have cx:=H.facts.2.2.2.2.2.2.2.2.1;have fx:=H.thaw.2.2.2.2.2.2.2.2.1;go_upto_region 11 with(fail)
   have m:=a0.set (k:=w1.heap.size) (i:=8) (.slice Aq (aB s r).length cq) y;have j:=a7.set (k:=w1.heap.size) (i:=8) (.slice Aq (aB s r).length cq) v;have g:=H.path (.slice Aq (aB s r).length cq);have Y:=d0.setCell (p:=⟨w1.heap.size,8,none⟩) a5 (.slice Aq (aB s r).length cq);have b5:=d7.out;clear cx fx d7;generalize World.setCell w3 _ _=w4 at m j g Y b5⊢;clear m;have Z:Hid (UB w4 ((w.heap.size+1)) (U0) (.slice none 0 0)):=j;clear j;have G:Hid (UB w4 (w1.heap.size) ({U0 with au:=s,port:= -1}) (.slice Aq (aB s r).length cq)):=g;clear g;have c2:=hid Y;have e6:=hid b5;clear Y b5;obtain⟨c0,c1,d3,c3,c4,c5,c6,c7,c8,c9,d6,d5,d4⟩:=G.facts;go_wp2_with (refine aI Z ({U0 with au:=s,port:= -1}) Aq (aB s r).length cq (.tmp 2) (.tmp 56) rfl rfl rfl rfl ?_)
   have g0:∀k,k≠(w.heap.size+1)→(World.setRow w4 ((w.heap.size+1)) (cells ({U0 with au:=s,port:= -1}) (.slice Aq (aB s r).length cq))).heap[k]?=w4.heap[k]?:=fun k hk=>setRow_other _ _ _ _ hk;have ho:=aH (fC.aP e6 g0 b0) (by have h1:=C.out;have h2:=b0.out;omega:w.heap.size≤_);exact bodyPost_ret (gJ rfl (Z.row ({U0 with au:=s,port:= -1}) _) true _ rfl rfl) rfl (dW (u:={U0 with au:=s,port:= -1,aF:=aB s r}) W (below_setRow c2 C _) ho)
  | false=>
   have W:Hid (O=some {U0 with au:=s,port:= -1,dK:=true,txt:=if sb=true∧(hq||hf)=true then z++[37,50,48]else E}):=by show _=_;rw[f4.out,if_neg (by simp)]
   clear p0 p1 p2 p3 p4 p5;have g9:=I.facts.2.2.2.2.2.2.1;have g8:=I.thaw.2.2.2.2.2.2.1;go_upto_region 3 with(fail)
   have m:=(a3.set (k:=w1.heap.size) (i:=6) (.bool true) y);have j:=(N.set (k:=w1.heap.size) (i:=6) (.bool true) v);have g:=(I.dK true);have Y:=(X.setCell (p:=⟨w1.heap.size,6,none⟩) a5 (.bool true));clear g9 g8;generalize (World.setCell w2 ⟨w1.heap.size,6,none⟩ (.bool true))=w3 at m j g Y⊢;have a0:Hid (PB w3 (w.heap.size) (⟨s,r,q,f,hq,hf⟩)):=m;clear m;have a7:Hid (UB w3 ((w.heap.size+1)) (U0) (.slice none 0 0)):=j;clear j;have H:Hid (UB w3 (w1.heap.size) ({U0 with au:=s,port:= -1,dK:=true}) (.slice none 0 0)):=g;clear g;have d0:=hid Y;clear Y;obtain⟨p0,p1,p2,p3,p4,p5⟩:=a0.facts;have g5:=fun(w:World) s=>run_bytes_of_string (P:=prog) w 9 50 5 s underlying9 underlying50 underlying5;go_wp2_with fail
   clear g5;refine(h8 _ _ _ _ (jq (ah r) _ _ _) (dN (by omega))).mono ?_;rintro e w4 ⟨rfl,f2⟩;have F:Below w3.heap.size w3 w4:=bD (((Below.refl w3.heap.size w3).alloc (Nat.le_refl _) _).drew) f2;clear f2;have e4:=hid (a0.below F);have Z:=hid (a7.below F);have G:=hid (H.below F);have c2:=hid (bD d0 F);clear F;clear p0 p1 p2 p3 p4 p5;have V:=G.facts.2.2.2.2.2.2.2.1;have b7:=G.thaw.2.2.2.2.2.2.2.1;go_upto_region 4 with(fail)
   have m:=(e4.set (k:=w1.heap.size) (i:=7) (.string (ah E)) y);have j:=(Z.set (k:=w1.heap.size) (i:=7) (.string (ah E)) v);have g:=(G.txt E);have Y:=(c2.setCell (p:=⟨w1.heap.size,7,none⟩) a5 (.string (ah E)));clear V b7;generalize (World.setCell w4 ⟨w1.heap.size,7,none⟩ (.string (ah E)))=w5 at m j g Y⊢;have Q:Hid (PB w5 (w.heap.size) (⟨s,r,q,f,hq,hf⟩)):=m;clear m;have B:Hid (UB w5 ((w.heap.size+1)) (U0) (.slice none 0 0)):=j;clear j;have l:Hid (UB w5 (w1.heap.size) ({U0 with au:=s,port:= -1,dK:=true,txt:=E}) (.slice none 0 0)):=g;clear g;have b3:=hid Y;clear Y;have V:=l.facts.2.2.2.2.2.2.2.1;go_wp2_with fail
   refine(h9 _).mono ?_;rintro e wx ⟨rfl,D⟩;obtain rfl:w5=wx:=by first|exact D|exact D.symm
   clear D;cases sb with
   |false=>
    go_upto_region 11 with(fail)
    clear V;have a9:Hid (O=some {U0 with au:=s,port:= -1,dK:=true,txt:=E}):=by show _=_;rw[W.out];first|done|rfl|simp
    obtain⟨c0,c1,d3,c3,c4,c5,c6,c7,c8,c9,d6,d5,d4⟩:=l.facts;go_wp2_with (refine aI B {U0 with au:=s,port:= -1,dK:=true,txt:=E} none 0 0 (.tmp 2) (.tmp 56) rfl rfl rfl rfl ?_)
    exact bodyPost_ret (gJ rfl (B.row {U0 with au:=s,port:= -1,dK:=true,txt:=E} _) true _ rfl rfl) rfl (dW (u:={U0 with au:=s,port:= -1,dK:=true,txt:=E}) a9 (below_setRow b3 C _) (uO _ _ rfl))
   | true=>
    cases hq with
    |true=>
     obtain⟨p0,p1,p2,p3,p4,p5⟩:=Q.facts;have e1:=f8.out;clear V;have V:=l.facts.2.2.2.2.2.2.2.1;have b7:=l.thaw.2.2.2.2.2.2.2.1;go_upto_region 11 with(fail)
     have m:=(Q.set (k:=w1.heap.size) (i:=7) (.string (ah (z++[37,50,48]))) y);have j:=(B.set (k:=w1.heap.size) (i:=7) (.string (ah (z++[37,50,48]))) v);have g:=(l.txt (z++[37,50,48]));have Y:=(b3.setCell (p:=⟨w1.heap.size,7,none⟩) a5 (.string (ah (z++[37,50,48]))));clear V b7;generalize (World.setCell w5 ⟨w1.heap.size,7,none⟩ (.string (ah (z++[37,50,48]))))=w6 at m j g Y⊢;clear m;have J:Hid (UB w6 ((w.heap.size+1)) (U0) (.slice none 0 0)):=j;clear j;have a6:Hid (UB w6 (w1.heap.size) ({U0 with au:=s,port:= -1,dK:=true,txt:=z++[37,50,48]}) (.slice none 0 0)):=g;clear g;have b9:=hid Y;clear Y;clear p0 p1 p2 p3 p4 p5;clear e1;have a9:Hid (O=some {U0 with au:=s,port:= -1,dK:=true,txt:=z++[37,50,48]}):=by show _=_;rw[W.out];first|done|rfl|simp
     obtain⟨c0,c1,d3,c3,c4,c5,c6,c7,c8,c9,d6,d5,d4⟩:=a6.facts;go_wp2_with (refine aI J {U0 with au:=s,port:= -1,dK:=true,txt:=z++[37,50,48]} none 0 0 (.tmp 2) (.tmp 56) rfl rfl rfl rfl ?_)
     exact bodyPost_ret (gJ rfl (J.row {U0 with au:=s,port:= -1,dK:=true,txt:=z++[37,50,48]} _) true _ rfl rfl) rfl (dW (u:={U0 with au:=s,port:= -1,dK:=true,txt:=z++[37,50,48]}) a9 (below_setRow b9 C _) (uO _ _ rfl))
    |false=>
     cases hf with
     |true=>
      obtain⟨p0,p1,p2,p3,p4,p5⟩:=Q.facts;have e1:=f8.out;clear V;have V:=l.facts.2.2.2.2.2.2.2.1;have b7:=l.thaw.2.2.2.2.2.2.2.1;go_upto_region 11 with(fail)
      have m:=(Q.set (k:=w1.heap.size) (i:=7) (.string (ah (z++[37,50,48]))) y);have j:=(B.set (k:=w1.heap.size) (i:=7) (.string (ah (z++[37,50,48]))) v);have g:=(l.txt (z++[37,50,48]));have Y:=(b3.setCell (p:=⟨w1.heap.size,7,none⟩) a5 (.string (ah (z++[37,50,48]))));clear V b7;generalize (World.setCell w5 ⟨w1.heap.size,7,none⟩ (.string (ah (z++[37,50,48]))))=w6 at m j g Y⊢;clear m;have J:Hid (UB w6 ((w.heap.size+1)) (U0) (.slice none 0 0)):=j;clear j;have a6:Hid (UB w6 (w1.heap.size) ({U0 with au:=s,port:= -1,dK:=true,txt:=z++[37,50,48]}) (.slice none 0 0)):=g;clear g;have b9:=hid Y;clear Y;clear p0 p1 p2 p3 p4 p5;clear e1;have a9:Hid (O=some {U0 with au:=s,port:= -1,dK:=true,txt:=z++[37,50,48]}):=by show _=_;rw[W.out];first|done|rfl|simp
      obtain⟨c0,c1,d3,c3,c4,c5,c6,c7,c8,c9,d6,d5,d4⟩:=a6.facts;go_wp2_with (refine aI J {U0 with au:=s,port:= -1,dK:=true,txt:=z++[37,50,48]} none 0 0 (.tmp 2) (.tmp 56) rfl rfl rfl rfl ?_)
      exact bodyPost_ret (gJ rfl (J.row {U0 with au:=s,port:= -1,dK:=true,txt:=z++[37,50,48]} _) true _ rfl rfl) rfl (dW (u:={U0 with au:=s,port:= -1,dK:=true,txt:=z++[37,50,48]}) a9 (below_setRow b9 C _) (uO _ _ rfl))
     |false=>
      obtain⟨p0,p1,p2,p3,p4,p5⟩:=Q.facts;go_upto_region 11 with(fail)
      clear V;clear p0 p1 p2 p3 p4 p5;have a9:Hid (O=some {U0 with au:=s,port:= -1,dK:=true,txt:=E}):=by show _=_;rw[W.out];first|done|rfl|simp
      obtain⟨c0,c1,d3,c3,c4,c5,c6,c7,c8,c9,d6,d5,d4⟩:=l.facts;go_wp2_with (refine aI B {U0 with au:=s,port:= -1,dK:=true,txt:=E} none 0 0 (.tmp 2) (.tmp 56) rfl rfl rfl rfl ?_)
      exact bodyPost_ret (gJ rfl (B.row {U0 with au:=s,port:= -1,dK:=true,txt:=E} _) true _ rfl rfl) rfl (dW (u:={U0 with au:=s,port:= -1,dK:=true,txt:=E}) a9 (below_setRow b3 C _) (uO _ _ rfl))
end aac
namespace acB
open Go.RowKit Base eH bf ug aJ vP Zl vK yH
theorem I5 (p:Parts) (b:U) (A:Option Addr) (n c:Nat) (w:World) (hn:n≤100000) (hP:iC w b A n c):Calls prog 36 #[.agg (fQ p),.agg (cells b (.slice A n c))] w (l7 w (aJ.jk p b)):=by
 obtain⟨s,t,q,f,hq,hf⟩:=p;obtain⟨O,hO⟩:∃O,O=aJ.jk ⟨s,t,q,f,hq,hf⟩ b:=⟨_,rfl⟩;rw[←hO];have L:O=if t≠[]∨hq=true∨hf=false then none else some b:=hO
 have Y:=hid L;have HP:=hid hP;clear hO L hP;go_enter func36,ntmps36;go_upto_region 1 with(fail)
 generalize hw:World.alloc (World.alloc (World.alloc w _) _) _=w1;have H:PB w1 (w.heap.size) (⟨s,t,q,f,hq,hf⟩)∧UB w1 ((w.heap.size+1)) (b) (.slice A n c)∧UB w1 ((w.heap.size+1+1)) (U0) (.slice none 0 0)∧Below w.heap.size w w1:=by
  subst hw;exact U2 w _ _ _ _ _ _
 clear hw;have N:Hid (w.heap.size≤(w.heap.size+1)):=by show _≤_;omega
 have z:Hid ((w.heap.size+1+1)≠(w.heap.size+1)):=by show _≠_;omega
 have h:Hid (w.heap.size≤(w.heap.size+1+1)):=by show _≤_;omega
 have d:=hid H.1;have m:=hid H.2.1;have a:=hid H.2.2.1;have j:=hid H.2.2.2;clear H;by_cases h0:t=[]
 ·
  have q0:((ah t).toList==[])=true:=by rw[bG,h0];rfl
  have q1:(ah t).toList=[]:=by rw[bG,h0]
  cases hq with
  |true=>
   have x:Hid (O=none):=by show _=_;rw[Y.out,if_pos (by simp)]
   clear h0;obtain⟨X,p1,p2,p3,W,V⟩:=d.facts;go_wp2_with (refine aI a U0 none 0 0 (.tmp 4) (.tmp 18) rfl rfl rfl rfl ?_)
   exact bodyPost_ret (gJ rfl (a.row U0 _) false _ rfl rfl) rfl (jH x (below_setRow j h _))
  |false=>
   cases hf with
   |false=>
    have x:Hid (O=none):=by show _=_;rw[Y.out,if_pos (by simp)]
    clear h0;obtain⟨X,p1,p2,p3,W,V⟩:=d.facts;go_wp2_with (refine aI a U0 none 0 0 (.tmp 4) (.tmp 18) rfl rfl rfl rfl ?_)
    exact bodyPost_ret (gJ rfl (a.row U0 _) false _ rfl rfl) rfl (jH x (below_setRow j h _))
   |true=>
    have a4:Hid (O=some b):=by show _=_;rw[Y.out,if_neg (by simp[h0])]
    clear h0;obtain⟨X,p1,p2,p3,W,V⟩:=d.facts;obtain⟨d0,d1,d2,d3,d4,d5,d6,d7,d8,d9,a2,a1,a0⟩:=m.facts;go_wp2_with fail
    clear X p1 p2 p3 W V;clear d0 d1 d2 d3 d4 d5 d6 d7 d8 d9 a2 a1 a0;refine(uo A n c b.aF _ (vP.iC.below HP j).1 (by omega)).mono ?_;rintro e w2 ⟨v,rfl,g,y⟩;obtain⟨J,I,rfl,hq⟩:=bV (u:=b) g;clear hq;replace g:=aH g (Nat.le_refl _);have a5:Hid ((w.heap.size+1)<w1.heap.size):=m.lt;have P:Hid ((w.heap.size+1+1)<w1.heap.size):=a.lt;have l:=hid (m.below y);have F:=hid (a.below y);have T:=hid (bD j y);have G:=hid g;clear g;clear y;have cx:=l.facts.2.2.2.2.2.2.2.2.1;have fx:=l.thaw.2.2.2.2.2.2.2.2.1;go_upto_region 4 with(fail)
    have B:=l.path (.slice J b.aF.length I);have C:=F.set (k:=(w.heap.size+1)) (i:=8) (.slice J b.aF.length I) z;have Z:=T.setCell (p:=⟨(w.heap.size+1),8,none⟩) N (.slice J b.aF.length I);have D:=fC.aP (w':=w2.setCell ⟨(w.heap.size+1),8,none⟩ (.slice J b.aF.length I)) (gb:=(w.heap.size+1)) G (fun k hk=>heap_setCell_other _ _ _ _ hk) a5;clear cx fx;generalize World.setCell w2 _ _=w3 at B C Z D⊢;have E:=hid B;have r:=hid C;have Q:=hid Z;have a3:=hid D;clear B C Z D;obtain⟨c0,c1,a6,c3,c4,c5,c6,c7,c8,c9,a9,a8,a7⟩:=E.facts;go_wp2_with (refine aI r b J b.aF.length I (.tmp 4) (.tmp 23) rfl rfl rfl rfl ?_)
    have ho:=aH (fC.aP (w':=World.setRow w3 (w.heap.size+1+1) (cells b (.slice J b.aF.length I))) (gb:=(w.heap.size+1+1)) a3 (fun k hk=>setRow_other _ _ _ _ hk) P) (by have H:=h.out;have h2:=P.out;omega:w.heap.size≤_);exact bodyPost_ret (gJ rfl (r.row b _) true _ rfl rfl) rfl (dW (u:=b) a4 (below_setRow Q h _) ho)
 ·
  have q0:((ah t).toList==[])=false:=by rw[bG,beq_eq_false_iff_ne];exact h0
  have q1:¬(ah t).toList=[]:=by rw[bG];exact h0
  have q2:(ah t).toList.isEmpty=false:=by rw[bG];simpa using h0
  have x:Hid (O=none):=by show _=_;rw[Y.out,if_pos (.inl h0)]
  clear h0;obtain⟨X,p1,p2,p3,W,V⟩:=d.facts;go_wp2_with (refine aI a U0 none 0 0 (.tmp 4) (.tmp 18) rfl rfl rfl rfl ?_)
  exact bodyPost_ret (gJ rfl (a.row U0 _) false _ rfl rfl) rfl (jH x (below_setRow j h _))
end acB
namespace Xi
open Go.RowKit Base eH bf iH gK aJ yG vP Zl vK yH JR mY uf zf TA Z9 aac
theorem Jk (p:Parts) (w:World) (hs:p.rest.length≤700000) (hL:oZ w) (hT:Tab.Pow w) (hM:Max w):Calls prog 12 #[.agg (fQ p),.pointer none] w (l7 w (aJ.resolve p none)):=by
 obtain⟨s,n,q,f,hq,hf⟩:=p;simp only at hs;obtain⟨O,hO⟩:∃O,O=aJ.resolve ⟨s,n,q,f,hq,hf⟩ none:=⟨_,rfl⟩;rw[←hO];unfold aJ.resolve at hO;simp only at hO;have HO:=hid hO;have P:Hid (∀w:World,Calls prog 29 #[.string (ah s)] w fun e w'=>e=.returned (.bool (aj s))∧w'=w):=fun w=>jC (ah s) w;have b3:Hid (∀w:World,oZ w→Tab.Pow w→Max w→Calls prog 35 #[.agg (fQ ⟨s,n,q,f,hq,hf⟩)] w (l7 w (aJ.plain ⟨s,n,q,f,hq,hf⟩))):=fun w a c d=>Hy ⟨s,n,q,f,hq,hf⟩ w (by show n.length≤_;omega) a c d;have b7:Hid (∀w:World,oZ w→Tab.Pow w→Max w→Calls prog 28 #[.string (ah n),.pointer none] w (l7 w (file n none))):=fun w a c d=>G5 n w hs a c d;have a9:Hid (∀w:World,Calls prog 34 #[.string (ah s)] w fun e w'=>e=.returned (.string (cs (aj s)))∧w'=w):=fun w=>oN (ah s) w;have a8:Hid (∀w:World,Calls prog 33 #[.string (ah n),.string (cs true)] w fun e w'=>e=.returned (.string (ah (n.dropWhile (bW true))))∧Below w.heap.size w w'):=fun w=>uY n w;obtain⟨T2,W⟩:∃x,x=n.dropWhile (bW true):=⟨_,rfl⟩;have a5:T2.length≤900000:=by rw[W];have:=(List.dropWhile_sublist (bW true) (l:=n)).length_le;omega
 rw[←W]at a8 HO;obtain⟨N,X⟩:∃x,x=authority s T2:=⟨_,rfl⟩;have b9:Hid (∀w:World,oZ w→Tab.Pow w→Max w→Calls prog 32 #[.string (ah s),.string (ah T2)] w (l7 w N)):=fun w a b c=>by rw[X];exact nR s T2 w a5 a b c
 rw[←X]at HO;have HL:=hid hL;have HT:=hid hT;have HM:=hid hM;clear hO W X hL hT hM;go_enter func12,ntmps12;go_upto_region 1 with(fail)
 generalize hw:World.alloc (World.alloc w _) _=w1;have h1:PB w1 (w.heap.size) (⟨s,n,q,f,hq,hf⟩)∧UB w1 ((w.heap.size+1)) (U0) (.slice none 0 0)∧Below w.heap.size w w1:=by
  subst hw;exact EH w _ _ _ _
 clear hw;have v:Hid (w.heap.size≤(w.heap.size+1)):=Nat.le_succ _;have F:=hid h1.1;have j:=hid h1.2.1;have g:=hid h1.2.2;clear h1;obtain⟨p0,p1,p2,p3,p4,p5⟩:=F.facts;by_cases hs1:s=ay
 ·
  have G:Hid (O=file n none):=by show _=_;rw[HO.out,if_pos hs1];first|done|rfl
  have a0:((ah s).toList==[102,105,108,101])=true:=by rw[bG,hs1];first|done|rfl
  have Z:(ah s).toList=[102,105,108,101]:=by rw[bG,hs1];first|done|rfl
  clear hs1;go_wp2_with fail
  refine(b7 _ (HL.below g) (cZ HT g) (HM.below g)).mono ?_;rintro e w2 ⟨z,T,A',n',c',ok,rfl,r,D⟩;have C:Hid ((w.heap.size+1)<w1.heap.size):=j.lt;have a1:=hid r;have a2:=hid D;clear r D;have m:=hid (j.below z);have H:=hid (bD g z);have a3:Hid (w.heap.size≤w1.heap.size):=g.size;clear z;go_wp2_with (refine aI m T A' n' c' (.tmp 4) (.tmp 23) rfl rfl rfl rfl ?_)
  exact bodyPost_ret (gJ rfl (m.row T _) ok _ rfl rfl) rfl ⟨below_setRow H v _,T,A',n',c',ok,rfl,(a1.row C _).base a3,by rw[G.out];exact a2⟩
 ·
  have a0:((ah s).toList==[102,105,108,101])=false:=by rw[bG,beq_eq_false_iff_ne];exact hs1
  have Z:¬(ah s).toList=[102,105,108,101]:=by rw[bG];exact hs1
  cases hsp:aj s with
  | true=>
   have G:Hid (O=N):=by show _=_;rw[HO.out,if_neg hs1,if_pos hsp]
   rw[hsp]at P a9;clear hsp hs1;go_wp2_with fail
   refine(P _).mono ?_;rintro e wx ⟨rfl,y⟩;obtain rfl:w1=wx:=by first|exact y|exact y.symm
   clear y;clear p0 p1 p2 p3 p4 p5;go_upto_region 6 with(fail)
   refine dF (by kernel_rfl) [is (.pointer none),is (.bool false),is (.bool false),is (undef),is (undef),is (undef),is (undef),is (undef),is (undef),is (undef),is (.bool false),is (.bool false),is (undef),is (undef),is (undef),is (undef),is (.bool false)] [[],[0],[1],[2],[2,3],[2,4],[2,5],[2],[2,7],[2,6,8],[2,9],[10],[11],[11,12],[11,13],[11,14],[11,15]] (by kernel_rfl) ?_ ?_
   ·refine⟨?_,?_,?_,?_,?_,?_,?_,?_,?_,?_,?_,?_,?_,?_,?_,?_,?_,trivial⟩;all_goals(intro t wq h hh K i;simp only[iD,Act.put,Nat.reduceAdd,Nat.reduceEqDiff,reduceIte]at hh i⊢;(try simp only[hh]at i⊢);clear hh;go_simp)
    ·exact i _ _ aT rfl
    ·first|exact i _ _ aT rfl|exact i _ _ aT (jI (by omega) (by omega))
    iterate 7 · exact i _ _ aT rfl
    ·first|exact i _ _ aT rfl|exact i _ _ aT (jI (by omega) (by omega))
    iterate 7 · exact i _ _ aT rfl
   ·intro t wz h hh;have J:=aO hh 16 (by decide);simp only[pick]at J;replace J:t 16=(.bool false):=J;clear hh;simp only[iD,Act.put,Nat.reduceAdd,Nat.reduceEqDiff,reduceIte];simp only[J];have A:=hid (F.below h);have E:=hid (j.below h);have B:=hid (bD g h);clear h;have C:Hid ((w.heap.size+1)<wz.heap.size):=E.lt;go_upto_region 8 with(fail)
    refine aV (by kernel_rfl) 11 [pg w.heap.size 0,is (.string (ah s)),pg w.heap.size 1,is (.string (ah n)),pg w.heap.size 0,is (.string (ah s)),is (.string (cs true)),is (.string (ah T2)),OJ N wz.heap.size,ML N wz.heap.size,is (.bool N.isSome)] [[],[0],[],[2],[],[4],[4,5],[2,3,4,5,6],[0,1,2,3,4,5,6,7],[0,1,2,3,4,5,6,7,8],[0,1,2,3,4,5,6,7,8],[0,1,2,3,4,5,6,7,8,9,10]] (by kernel_rfl) ?_ ?_
    ·refine⟨?_,?_,?_,?_,?_,?_,?_,?_,?_,?_,?_,trivial⟩;all_goals(intro t wq h hh K i;simp only[iD,oP,Act.put,Nat.reduceAdd,Nat.reduceEqDiff,reduceIte]at hh i⊢)
     ·try simp only[hh]at i⊢
      clear hh;go_simp;exact i _ _ aT rfl
     ·try simp only[hh]at i⊢
      clear hh;have hc:=(A.below h).facts.1;go_simp;exact i _ _ aT rfl
     ·try simp only[hh]at i⊢
      clear hh;go_simp;exact i _ _ aT rfl
     ·try simp only[hh]at i⊢
      clear hh;have hc:=(A.below h).facts.2.1;go_simp;exact i _ _ aT rfl
     ·try simp only[hh]at i⊢
      clear hh;go_simp;exact i _ _ aT rfl
     ·try simp only[hh]at i⊢
      clear hh;have hc:=(A.below h).facts.1;go_simp;exact i _ _ aT rfl
     ·try simp only[hh]at i⊢
      clear hh;go_simp;refine(a9 _).mono ?_;rintro e w9 ⟨rfl,b0⟩;subst b0;exact i _ _ aT rfl
     ·try simp only[hh]at i⊢
      clear hh;go_simp;refine(a8 _).mono ?_;rintro e w9 ⟨rfl,V⟩;exact i _ _ V rfl
     ·try simp only[hh]at i⊢
      clear hh;go_simp;refine(b9 _ (HL.below (bD B h)) (cZ HT (bD B h)) (HM.below (bD B h))).mono ?_;intro e w9 ha;obtain⟨V,A9,n9,c9,rfl,I⟩:=eH.ny ha;exact i _ _ V ⟨A9,n9,c9,rfl,aH I h.size⟩
     ·have Y:=hh.2.2.2.2.2.2.2.2.1;clear hh;obtain⟨A8,n8,c8,Y,a4⟩:=Y;simp only[Y]at i⊢;go_simp;exact i _ _ aT ⟨_,_,_,rfl,a4⟩
     ·have Y:=hh.2.2.2.2.2.2.2.2.1;clear hh;obtain⟨A8,n8,c8,Y,a4⟩:=Y;simp only[Y]at i⊢;go_simp;exact i _ _ aT rfl
    ·intro t wq h hh;have f9:=aO hh 9 (by decide);simp only[pick]at f9;have L:=aO hh 10 (by decide);simp only[pick]at L;replace L:t 10=(.bool N.isSome):=L;clear hh;simp only[iD,oP,Act.put,Nat.reduceAdd,Nat.reduceEqDiff,reduceIte];obtain⟨A9,n9,c9,f9,I⟩:=f9;simp only[f9,L];have Q:=hid (E.below h);have b8:=hid (bD B h);have b5:=hid I;clear I h;refine aI Q ((N).getD U0) A9 n9 c9 (.tmp 4) (.tmp 63) rfl rfl rfl rfl ?_;go_wp2;have ho:=aH (fC.aP (w':=World.setRow wq (w.heap.size+1) (cells ((N).getD U0) (.slice A9 n9 c9))) (gb:=(w.heap.size+1)) (b5) (fun k hk=>setRow_other _ _ _ _ hk) C) (by have h1:=v.out;have h2:=C.out;omega:w.heap.size≤_);refine bodyPost_ret (gJ rfl (Q.row _ _) (N).isSome _ rfl rfl) rfl ?_;rw[G.out];exact eH.nO (below_setRow b8 v _) ho
  |false=>
   rw[hsp]at P;go_wp2_with fail
   refine(P _).mono ?_;rintro e wx ⟨rfl,y⟩;obtain rfl:w1=wx:=by first|exact y|exact y.symm
   clear y;by_cases h0:s=[]
   ·
    have b6:Hid (O=none):=by show _=_;rw[HO.out,if_neg hs1,if_neg (by rw[hsp];simp),if_neg (by simp[h0])]
    have a7:((ah s).toList==[])=true:=by rw[bG,h0];first|done|rfl
    have a6:(ah s).toList=[]:=by rw[bG,h0];first|done|rfl
    clear h0 hsp hs1;go_wp2_with (refine aI j U0 none 0 0 (.tmp 4) (.tmp 76) rfl rfl rfl rfl ?_)
    exact bodyPost_ret (gJ rfl (j.row U0 _) false _ rfl rfl) rfl (jH b6 (below_setRow g v _))
   ·
    have G:Hid (O=aJ.plain ⟨s,n,q,f,hq,hf⟩):=by show _=_;rw[HO.out,if_neg hs1,if_neg (by rw[hsp];simp),if_pos h0]
    have a7:((ah s).toList==[])=false:=by rw[bG,beq_eq_false_iff_ne];exact h0
    have a6:¬(ah s).toList=[]:=by rw[bG];exact h0
    have e2:(ah s).toList.isEmpty=false:=by rw[bG];simpa using h0
    clear h0 hsp hs1;go_wp2_with fail
    refine(b3 _ (HL.below g) (cZ HT g) (HM.below g)).mono ?_;rintro e w2 ⟨z,T,A',n',c',ok,rfl,r,D⟩;have C:Hid ((w.heap.size+1)<w1.heap.size):=j.lt;have a1:=hid r;have a2:=hid D;clear r D;have m:=hid (j.below z);have H:=hid (bD g z);have a3:Hid (w.heap.size≤w1.heap.size):=g.size;clear z;go_wp2_with (refine aI m T A' n' c' (.tmp 4) (.tmp 71) rfl rfl rfl rfl ?_)
    exact bodyPost_ret (gJ rfl (m.row T _) ok _ rfl rfl) rfl ⟨below_setRow H v _,T,A',n',c',ok,rfl,(a1.row C _).base a3,by rw[G.out];exact a2⟩
end Xi
namespace QG
open Go.RowKit rY uh
def xB (r:Int):Prop:=0≤r∧r≤1114111∧¬(55296≤r∧r≤57343)
instance (r:Int):Decidable (xB r):=by unfold xB;exact inferInstance
def u (x:Int):UInt8:=x.toNat.toUInt8
theorem je (x:Int) (c:0≤x) (a:x≤255):((u x).toNat:Int)=x:=by
 unfold u;simp;omega
theorem enc1 (r:Int) (c:0≤r) (a:r≤127):Lib.encodeRune r=[u r]:=by unfold Lib.encodeRune;rw[Lib.encodeRuneZ_one c a];rfl
theorem enc2 (r:Int) (c:128≤r) (a:r≤2047):Lib.encodeRune r=[u (192+r / 64),u (128+r%64)]:=by unfold Lib.encodeRune;rw[Lib.encodeRuneZ_two c a];rfl
theorem enc3 (r:Int) (h:(2048≤r∧r<55296)∨(57343<r∧r≤65535)):Lib.encodeRune r=[u (224+r / 4096),u (128+r / 64%64),u (128+r%64)]:=by unfold Lib.encodeRune;rw[Lib.encodeRuneZ_three h];rfl
theorem enc4 (r:Int) (c:65536≤r) (a:r≤1114111):Lib.encodeRune r=[u (240+r / 262144),u (128+r / 4096%64),u (128+r / 64%64),u (128+r%64)]:=by unfold Lib.encodeRune;rw[Lib.encodeRuneZ_four c a];rfl
theorem encBad (r:Int) (h:¬xB r):Lib.encodeRune r=Lib.encodeRune 65533:=by
 unfold Lib.encodeRune;rw[Lib.encodeRuneZ_bad (by unfold xB at h;omega),Lib.encodeRuneZ_three (r:=65533) (by omega)];rfl
theorem abz (c:UInt8):u (c.toNat:Int)=c:=by unfold u;simp
theorem Gm (x:Int) (c:UInt8) (h:x=(c.toNat:Int)):u x=c:=by rw[h,abz]
theorem qF (x:UInt8) (t:List UInt8):
  ((rd (x::t)).2.2=true→xB (rd (x::t)).1∧Lib.encodeRune (rd (x::t)).1=(x::t).take (rd (x::t)).2.1.toNat)∧((rd (x::t)).2.2=false→(rd (x::t)).1=65533):=by
 have hx:(x.toNat:Int)<256:=by have:=x.toNat_lt;omega
 simp only[rd];by_cases a:(x.toNat:Int)≤127
 ·rw[if_pos a];refine⟨fun _=>⟨by unfold xB;simp only;omega,?_⟩,fun h=>by cases h⟩;simp only;rw[enc1 _ (by omega) a,abz];rfl
 rw[if_neg a];by_cases b:(x.toNat:Int)≤193∨245≤(x.toNat:Int)
 ·rw[if_pos b];exact⟨(fun h=>by cases h),fun _=>rfl⟩
 rw[if_neg b];by_cases c2:(x.toNat:Int)≤223
 ·rw [if_pos c2];have j:lo x.toNat=128:=by unfold lo;(repeat' split)<;>omega
  have k:hi x.toNat=191:=by unfold hi;(repeat' split)<;>omega
  match t with
  |[]=>simp[tail]
  |y::t=>
   have c:(y.toNat:Int)<256:=by have:=y.toNat_lt;omega
   rw[tail,j,k];by_cases d:(y.toNat:Int)<128∨191<(y.toNat:Int)
   ·rw[if_pos d];exact⟨(fun h=>by cases h),fun _=>rfl⟩
   ·rw[if_neg d,tail];refine⟨fun _=>⟨by unfold xB;simp only;omega,?_⟩,fun h=>by cases h⟩;simp only;rw[enc2 _ (by omega) (by omega),Gm _ x (by omega),Gm _ y (by omega)];rfl
 rw[if_neg c2];by_cases c3:(x.toNat:Int)≤239
 ·rw [if_pos c3]
  match t with
  |[]=>simp[tail]
  | y ::t=>
   have c:(y.toNat:Int)<256:=by have:=y.toNat_lt;omega
   rw[tail];by_cases d:(y.toNat:Int)<lo x.toNat∨hi x.toNat<(y.toNat:Int)
   ·rw[if_pos d];exact⟨(fun h=>by cases h),fun _=>rfl⟩
   ·rw [if_neg d];have i:128≤(y.toNat:Int)∧(y.toNat:Int)≤191∧((x.toNat:Int)=224→160≤(y.toNat:Int))∧((x.toNat:Int)=237→(y.toNat:Int)≤159):=by
     unfold lo hi at d
     (repeat' split at d)<;>omega
    match t with
    |[]=>simp[tail]
    |z::t=>
     have e:(z.toNat:Int)<256:=by have:=z.toNat_lt;omega
     rw[tail];by_cases f:(z.toNat:Int)<128∨191<(z.toNat:Int)
     ·rw[if_pos f];exact⟨(fun h=>by cases h),fun _=>rfl⟩
     ·rw[if_neg f,tail];refine⟨fun _=>⟨by unfold xB;simp only;omega,?_⟩,fun h=>by cases h⟩;simp only;rw[enc3 _ (by omega),Gm _ x (by omega),Gm _ y (by omega),Gm _ z (by omega)];rfl
 ·rw [if_neg c3]
  match t with
  |[]=>simp[tail]
  | y :: t =>
   have c:(y.toNat:Int)<256:=by have:=y.toNat_lt;omega
   rw[tail];by_cases d:(y.toNat:Int)<lo x.toNat∨hi x.toNat<(y.toNat:Int)
   ·rw[if_pos d];exact⟨(fun h=>by cases h),fun _=>rfl⟩
   ·rw [if_neg d];have i:128≤(y.toNat:Int)∧(y.toNat:Int)≤191∧((x.toNat:Int)=240→144≤(y.toNat:Int))∧((x.toNat:Int)=244→(y.toNat:Int)≤143):=by
     unfold lo hi at d
     (repeat' split at d)<;>omega
    match t with
    |[]=>simp[tail]
    | z ::t=>
     have e:(z.toNat:Int)<256:=by have:=z.toNat_lt;omega
     rw[tail];by_cases f:(z.toNat:Int)<128∨191<(z.toNat:Int)
     ·rw[if_pos f];exact⟨(fun h=>by cases h),fun _=>rfl⟩
     ·rw [if_neg f]
      match t with
      |[]=>simp[tail]
      |v::t=>
       have l:(v.toNat:Int)<256:=by have:=v.toNat_lt;omega
       rw[tail];by_cases g:(v.toNat:Int)<128∨191<(v.toNat:Int)
       ·rw[if_pos g];exact⟨(fun h=>by cases h),fun _=>rfl⟩
       ·rw[if_neg g,tail];refine⟨fun _=>⟨by unfold xB;simp only;omega,?_⟩,fun h=>by cases h⟩;simp only;rw[enc4 _ (by omega) (by omega),Gm _ x (by omega),Gm _ y (by omega),Gm _ z (by omega),Gm _ v (by omega)];rfl
theorem Nv (r:Int) (t:List UInt8):Lib.encodeRune r++t≠[]:=by
 intro h;have:=Ar r;have e:=congrArg List.length h;simp at e;rw[e.1]at this;simp at this
theorem dX (r:Int) (l:List Int):enc (r::l)=Lib.encodeRune r++enc l:=by simp[enc]
theorem OY:xB 65533:=by decide
theorem OZ:∀(n:Nat) (L:List UInt8),L.length≤n→∀r ∈ dec L,xB r
 |_,[],_,r,h=>by simp[mG]at h
 |0,_::_,h,_,_=>by simp at h
 |n+1,x::t,hl,r,h=>by
  have a:=mQ x t
  rw[gU,List.mem_cons]at h
  rcases h with rfl|h
  ·cases hw:(rd (x::t)).2.2
   ·rw[(qF x t).2 hw];exact OY
   ·exact((qF x t).1 hw).1
  ·exact OZ n _ (by simp only[List.length_drop,List.length_cons]at hl⊢;omega) r h
theorem uw (L:List UInt8):∀r ∈ dec L,xB r:=OZ _ L (Nat.le_refl _)
end QG
namespace MN
open Go.RowKit Base rY uh QG aJ
theorem un (x:Int) (c:0≤x) (a:x≤255):(u x).toNat=x.toNat:=by have:=je x c a;omega
theorem Kz (r:Int) (h:xB r):(r≤127∧Lib.encodeRune r=[u r])∨(128≤r∧∃a b:UInt8,Lib.encodeRune r=[a,b]∧192≤a.toNat∧b.toNat / 64=2)∨
  (128≤r∧∃a b c:UInt8,Lib.encodeRune r=[a,b,c]∧192≤a.toNat∧b.toNat / 64=2∧c.toNat / 64=2)∨(128≤r∧∃a b c d:UInt8,Lib.encodeRune r=[a,b,c,d]∧192≤a.toNat∧b.toNat / 64=2∧c.toNat / 64=2∧d.toNat / 64=2):=by
 obtain⟨f,e,g⟩:=h;by_cases a:r≤127
 ·exact .inl ⟨a,enc1 r f a⟩
 by_cases b:r≤2047
 ·refine .inr (.inl ⟨by omega,_,_,enc2 r (by omega) b,?_,?_⟩)
  ·rw[un _ (by omega) (by omega)];omega
  ·rw[un _ (by omega) (by omega)];omega
 by_cases c:r≤65535
 ·refine .inr (.inr (.inl ⟨by omega,_,_,_,enc3 r (by omega),?_,?_,?_⟩))
  ·rw[un _ (by omega) (by omega)];omega
  ·rw[un _ (by omega) (by omega)];omega
  ·rw[un _ (by omega) (by omega)];omega
 ·refine .inr (.inr (.inr ⟨by omega,_,_,_,_,enc4 r (by omega) e,?_,?_,?_,?_⟩))
  ·rw[un _ (by omega) (by omega)];omega
  ·rw[un _ (by omega) (by omega)];omega
  ·rw[un _ (by omega) (by omega)];omega
  ·rw[un _ (by omega) (by omega)];omega
theorem Kw (r:Int) (h:xB r) (t:List UInt8):Lib.decodeN (Lib.encodeRune r++t).length ((Lib.encodeRune r++t).getD 0 0).toNat ((Lib.encodeRune r++t).getD 1 0).toNat ((Lib.encodeRune r++t).getD 2 0).toNat ((Lib.encodeRune r++t).getD 3 0).toNat=(r.toNat,(Lib.encodeRune r).length):=by
 obtain⟨d,e,f⟩:=h;by_cases a:r≤127
 ·rw[enc1 r d a];simp only[List.cons_append,List.nil_append,List.getD_cons_zero,un r d (by omega),Lib.decodeN];rw[if_pos (by omega)];rfl
 by_cases b:r≤2047
 ·rw[enc2 r (by omega) b];simp only[List.cons_append,List.nil_append,List.getD_cons_zero,List.getD_cons_succ,un (192+r / 64) (by omega) (by omega),un (128+r%64) (by omega) (by omega),Lib.decodeN,List.length_cons,List.length_nil];rw[if_neg (by omega),if_pos (by omega),if_pos (by omega)];refine Prod.ext ?_ rfl;simp only;omega
 by_cases c:r≤65535
 ·rw[enc3 r (by omega)];simp only[List.cons_append,List.nil_append,List.getD_cons_zero,List.getD_cons_succ,un (224+r / 4096) (by omega) (by omega),un (128+r / 64%64) (by omega) (by omega),un (128+r%64) (by omega) (by omega),Lib.decodeN,List.length_cons,List.length_nil];rw[if_neg (by omega),if_neg (by omega),if_pos (by omega),if_pos (by omega)];refine Prod.ext ?_ rfl;simp only;omega
 rw[enc4 r (by omega) e];simp only[List.cons_append,List.nil_append,List.getD_cons_zero,List.getD_cons_succ,un (240+r / 262144) (by omega) (by omega),un (128+r / 4096%64) (by omega) (by omega),un (128+r / 64%64) (by omega) (by omega),un (128+r%64) (by omega) (by omega),Lib.decodeN,List.length_cons,List.length_nil];rw[if_neg (by omega),if_neg (by omega),if_neg (by omega),if_pos (by omega),if_pos (by omega)];refine Prod.ext ?_ rfl;simp only;omega
theorem qP (r:Int) (h:xB r) (t:List UInt8):Lib.decodeL (Lib.encodeRune r++t)=(r.toNat,(Lib.encodeRune r).length):=by rw[Lib.decodeL_N];exact Kw r h t
theorem adq (t:List UInt8) (e d c a:UInt8) (s:128≤a.toNat) (i:Lib.runeStartB c=false) (j:Lib.runeStartB d=false) (k:Lib.runeStartB e=true) (h:(Lib.decodeL [e,d,c,a]).2=4):Lib.decodeLastL (t++[e,d,c,a])=Lib.decodeL [e,d,c,a]:=by
 have q:=Lib.getD_app_end t [e,d,c,a] 1 (by omega) (by simp);have n:=Lib.getD_app_end t [e,d,c,a] 2 (by omega) (by simp);have m:=Lib.getD_app_end t [e,d,c,a] 3 (by omega) (by simp);have l:=Lib.getD_app_end t [e,d,c,a] 4 (by omega) (by simp);have r:(t++[e,d,c,a]).length=t.length+4:=by simp
 have g:Lib.lastStart (t++[e,d,c,a])=(t++[e,d,c,a]).length - 4:=by
  unfold Lib.lastStart;simp only[n,m,l];rw[if_neg (by omega)];simp only[List.length_cons,List.length_nil,List.getD_cons_succ,List.getD_cons_zero,Nat.reduceAdd,Nat.reduceSub,i,j,k,Bool.false_eq_true,if_false,if_true];rw[if_neg (by omega),if_neg (by omega)]
 have f:=Lib.drop_app_end t [e,d,c,a];unfold Lib.decodeLastL;rw[if_neg (by simp),q,if_neg (by simp;omega),g];simp only[List.length_cons,List.length_nil]at f;simp only[f,h];rw[if_pos (by omega)]
theorem Fj {c:UInt8} (h:c.toNat / 64=2):Lib.runeStartB c=false:=by unfold Lib.runeStartB;rw[h];rfl
theorem BQ {c:UInt8} (h:192≤c.toNat):Lib.runeStartB c=true:=by
 unfold Lib.runeStartB;have:=c.toNat_lt;have a:c.toNat / 64≠2:=by omega
 simpa using a
theorem wC (r:Int) (h:xB r) (t:List UInt8):Lib.decodeLastL (t++Lib.encodeRune r)=(r.toNat,(Lib.encodeRune r).length):=by
 have f:=qP r h [];rw[List.append_nil]at f;rcases Kz r h with⟨l,e⟩|⟨_,a,b,e,g,i⟩|⟨_,a,b,c,e,g,i,j⟩|⟨_,a,b,c,d,e,g,i,j,k⟩
 ·rw[e]at f⊢;rw[Lib.decodeLastL_ascii t _ (by rw[un r h.1 (by omega)];have:=h.1;omega),un r h.1 (by omega)];rfl
 ·rw[e]at f⊢;rw[Lib.last2 t a b (by omega) (BQ g) (by rw[f];rfl),f]
 ·rw[e]at f⊢;rw[Lib.last3 t a b c (by omega) (Fj i) (BQ g) (by rw[f];rfl),f]
 rw[e]at f⊢;rw[adq t a b c d (by omega) (Fj j) (Fj i) (BQ g) (by rw[f];rfl),f]
def jg (l:List Int):Prop:=∀r ∈ l,xB r
theorem fA (a b:List Int):enc (a++b)=enc a++enc b:=by simp[enc]
theorem mJ (r:Int):enc [r]=Lib.encodeRune r:=by simp[enc]
theorem dl (s:ByteArray):s.data.toList.length=s.size:=Array.length_toList
theorem Um (a b:List Int) (r:Int) (h:xB r) (S:ByteArray) (c:S.data.toList=enc (a++r::b)):Utf8.decode S (enc a).length=(r.toNat,(Lib.encodeRune r).length):=by
 rw[←Lib.decodeL_drop,c,fA,List.drop_left,dX];exact qP r h _
def bl (r:Int):Bool:=decide (r≤32)
def pn (r:Nat):Bool:=decide (r≤32)
theorem ZE (r:Int) (h:0≤r):pn r.toNat=bl r:=by unfold pn bl;congr 1;rw[eq_iff_iff];omega
theorem wV (r:Int):0<(Lib.encodeRune r).length:=by have:=(Ar r).1;omega
theorem KO (S:ByteArray):∀(b a:List Int) (f:Nat),S.data.toList=enc (a++b)→jg b→b.length<f→
  Lib.idxFuncFrom pn false S f (enc a).length=if b.all bl=true then -1 else(((enc a).length+(enc (b.takeWhile bl)).length:Nat):Int)
 |[],a,f,hS,_,_=>by
  rw[List.append_nil]at hS
  have c:S.size=(enc a).length:=by rw[←dl,hS]
  rw[Lib.idxFuncFrom_end _ _ _ _ _ (by omega)]
  rfl
 | r :: b, a, f, hS, hC, hf => by
  obtain⟨g,rfl⟩:∃g,f=g+1:=⟨f - 1,by simp at hf;omega⟩
  have e:=hC r (by simp)
  have h:=Um a b r e S hS
  have c:(enc a).length<S.size:=by
   rw[←dl,hS,fA,List.length_append,dX,List.length_append];have:=wV r;omega
  rw[Lib.idxFuncFrom,if_pos c,h];simp only[ZE r e.1];cases hb:bl r with
  |false=>simp[hb,enc]
  |true=>
   rw[if_neg (by simp)];have d:=KO S b (a++[r]) g (by rw[hS];simp) (fun x hx=>hC x (by simp[hx])) (by simp at hf;omega);rw[fA,mJ,List.length_append]at d;rw[d];simp only[List.all_cons,hb,Bool.true_and,List.takeWhile_cons,if_true,dX,List.length_append];split
   ·rfl
   ·congr 1;omega
theorem Hl (S:ByteArray) (m:List Int):∀(n:Nat) (l:List Int) (f:Nat),l.length=n→S.data.toList=enc (l++m)→jg l→n<f→
  (l.all bl=true∧Lib.lastIdxFuncFrom pn false S f (enc l).length= -1)∨∃d r c,l=d++r::c∧bl r=false∧c.all bl=true∧Lib.lastIdxFuncFrom pn false S f (enc l).length=((enc d).length:Int)
 |0,l,f,hl,_,_,_=>by
  obtain rfl:=List.eq_nil_of_length_eq_zero hl
  exact .inl ⟨rfl,Lib.lastIdxFuncFrom_zero _ _ _ _⟩
 |n+1,l,f,hl,hS,hC,hf=>by
  obtain⟨g,rfl⟩:∃g,f=g+1:=⟨f - 1,by omega⟩
  have h:l≠[]:=by rintro rfl;simp at hl
  obtain⟨k,r,rfl⟩:∃k r,l=k++[r]:=⟨_,_,(List.dropLast_concat_getLast h).symm⟩
  have s:=hC r (by simp)
  have e:S.data.toList.take (enc (k++[r])).length=enc k++Lib.encodeRune r:=by rw[hS,fA (k++[r]),List.take_left,fA,mJ]
  have t:0<(enc (k++[r])).length:=by rw[fA,List.length_append,mJ];have:=wV r;omega
  rw[Lib.lastIdxFuncFrom,if_pos t,e,wC r s]
  simp only[ZE r s.1]
  have a:(enc (k++[r])).length - (Lib.encodeRune r).length=(enc k).length:=by rw[fA,List.length_append,mJ];omega
  rw[a]
  cases hb:bl r with
  |false=>
   rw[if_pos rfl]
   exact .inr ⟨k,r,[],rfl,hb,rfl,rfl⟩
  |true=>
   rw[if_neg (by simp)]
   simp at hl
   rcases Hl S ([r]++m) n k g hl (by rw[hS];simp) (fun x hx=>hC x (by simp[hx])) (by omega)with⟨j,i⟩|⟨d,q,c,j,i,w,v⟩
   ·exact .inl ⟨by simp[j,hb],i⟩
   ·exact .inr ⟨d,q,c++[r],by rw[j];simp,i,by simp[w,hb],v⟩
def SL (l:List Int):List Int:=((l.dropWhile bl).reverse.dropWhile bl).reverse
theorem Uu {p:Int→Bool} {l:List Int} (h:l.all p=true):l.dropWhile p=[]:=by
 induction l with
 |nil=>rfl
 |cons x l ih=>
  simp only[List.all_cons,Bool.and_eq_true]at h;rw[List.dropWhile_cons,if_pos h.1];exact ih h.2
theorem aaw {p:Int→Bool} {a:List Int} (b:List Int) (h:a.all p=true):(a++b).dropWhile p=b.dropWhile p:=by
 induction a with
 |nil=>rfl
 |cons x l ih=>
  simp only[List.all_cons,Bool.and_eq_true]at h;rw[List.cons_append,List.dropWhile_cons,if_pos h.1];exact ih h.2
theorem trR (c a:List Int) (r:Int) (h:bl r=false) (d:a.all bl=true):((c++r::a).reverse.dropWhile bl).reverse=c++[r]:=by
 rw[List.reverse_append,List.reverse_cons,List.append_assoc,aaw _ (by simpa using d),List.singleton_append,List.dropWhile_cons,h];simp
theorem Qw (l:List Int):l=l.takeWhile bl++l.dropWhile bl:=List.takeWhile_append_dropWhile.symm
theorem U4 (l:List Int) (f:jg l):Lib.trimLeftF pn (ah (enc l))=ah (enc (l.dropWhile bl)):=by
 have hf:l.length≤(enc l).length:=(fK l).2;have d:(ah (enc l)).size=(enc l).length:=ak _;unfold Lib.trimLeftF Lib.idxFunc;by_cases hl:l=[]
 ·subst hl;rfl
 have i:0<l.length:=List.length_pos_iff.2 hl;have h:=KO (ah (enc l)) l [] ((ah (enc l)).size+1) rfl f (by omega);have a:Lib.idxFuncFrom pn false (ah (enc l)) (ah (enc l)).size (enc []).length=Lib.idxFuncFrom pn false (ah (enc l)) ((ah (enc l)).size+1) (enc []).length:=idx_fuel (ah (enc l)) l [] _ _ rfl f (by omega) (by omega);rw[show(0:Nat)=(enc []).length from rfl,a,h];by_cases ha:l.all bl=true
 ·rw[if_pos ha,if_pos rfl,Uu ha];rfl
 rw[if_neg ha,if_neg (by omega)];apply ByteArray.ext;apply Array.ext';show((ah (enc l)).extract _ _).data.toList=_;rw[d];have e:((((enc ([]:List Int)).length+(enc (l.takeWhile bl)).length:Nat):Int)).toNat=(enc (l.takeWhile bl)).length:=by rw[show(enc ([]:List Int)).length=0 from rfl,Nat.zero_add,Int.toNat_natCast]
 rw[e];have hx:((ah (enc l)).extract (enc (l.takeWhile bl)).length (enc l).length).data.toList=(enc l).drop (enc (l.takeWhile bl)).length:=by
  rw[ByteArray.data_extract];simp only[ah,Array.toList_extract,List.extract_eq_take_drop];exact List.take_of_length_le (by rw[List.length_drop];exact Nat.le_refl _)
 rw[hx];have g:enc l=enc (l.takeWhile bl)++enc (l.dropWhile bl):=by rw[←fA,←Qw]
 have c:=congrArg (List.drop (enc (l.takeWhile bl)).length) g;rw[List.drop_left]at c;exact c
where
 idx_fuel (S:ByteArray):∀(b a:List Int) (f g:Nat),S.data.toList=enc (a++b)→jg b→b.length≤f→b.length≤g→Lib.idxFuncFrom pn false S f (enc a).length=Lib.idxFuncFrom pn false S g (enc a).length
  |[],a,f,g,hS,_,_,_=>by
   rw[List.append_nil]at hS
   have hsz:S.size=(enc a).length:=by rw[←dl,hS]
   rw[Lib.idxFuncFrom_end _ _ _ _ _ (by omega),Lib.idxFuncFrom_end _ _ _ _ _ (by omega)]
  |r::b,a,f,g,hS,hC,hf,hg=>by
   obtain⟨f',rfl⟩:∃g,f=g+1:=⟨f - 1,by simp at hf;omega⟩
   obtain⟨g',rfl⟩:∃f,g=f+1:=⟨g - 1,by simp at hg;omega⟩
   have hr:=hC r (by simp)
   have hd:=Um a b r hr S hS
   have ih:=idx_fuel S b (a++[r]) f' g' (by rw[hS];simp) (fun x hx=>hC x (by simp[hx])) (by simp at hf;omega) (by simp at hg;omega)
   rw[fA,mJ,List.length_append]at ih
   rw[Lib.idxFuncFrom,Lib.idxFuncFrom,hd,ih]
theorem Sm (l:List Int) (j:jg l):Lib.trimRightF pn (ah (enc l))=ah (enc (l.reverse.dropWhile bl).reverse):=by
 have hf:l.length≤(enc l).length:=(fK l).2;have d:(ah (enc l)).size=(enc l).length:=ak _;unfold Lib.trimRightF Lib.rightEndF Lib.lastIdxFunc;have hx:∀k,((ah (enc l)).extract 0 k).data.toList=(enc l).take k:=fun k=>by
  rw[ByteArray.data_extract];simp[ah,Array.toList_extract,List.extract_eq_take_drop]
 by_cases hl:l=[]
 ·subst hl;rfl
 have f:=last_fuel (ah (enc l)) [] l.length l (ah (enc l)).size ((ah (enc l)).size+1) rfl (by rw[List.append_nil];rfl) j (by omega) (by omega);rw[←d]at f;rw[f];rw[d];rcases Hl (ah (enc l)) [] l.length l ((enc l).length+1) rfl (by rw[List.append_nil];rfl) j (by omega)with⟨c,m⟩|⟨a,r,g,c,m,t,s⟩
 ·rw[m,if_neg (by omega)];apply ByteArray.ext;apply Array.ext';rw[hx,List.take_zero,Uu (by simpa using c)];rfl
 rw[s,if_pos (by omega)];have q:=j r (by rw[c];simp);have i:Lib.decodeGoB ((ah (enc l)).extract (enc a).length (enc l).length)=(r.toNat,(Lib.encodeRune r).length):=by
  have n:((ah (enc l)).extract (enc a).length (enc l).length).data.toList=Lib.encodeRune r++enc g:=by
   rw[ByteArray.data_extract];simp only[ah,Array.toList_extract,List.extract_eq_take_drop];rw[c,fA,List.drop_left,dX,List.take_of_length_le (by simp)]
  have h:((ah (enc l)).extract (enc a).length (enc l).length).size≠0:=by
   rw[←dl,n,List.length_append];have:=wV r;omega
  unfold Lib.decodeGoB;rw[if_neg h,←Lib.decodeL_drop,List.drop_zero,n];exact qP r q _
 have e:(((enc a).length:Nat):Int).toNat=(enc a).length:=by simp
 rw[e,i];apply ByteArray.ext;apply Array.ext';rw[hx];have x:(l.reverse.dropWhile bl).reverse=a++[r]:=by rw[c];exact trR a g r m t
 rw[x];show _=enc (a++[r])
 conv=>lhs;rw[c]
 have w:enc (a++r::g)=enc (a++[r])++enc g:=by rw[←fA];simp
 rw[w];have v:(enc a).length+(Lib.encodeRune r).length=(enc (a++[r])).length:=by rw[fA,mJ,List.length_append]
 rw[v,List.take_left]
where
 last_fuel (S:ByteArray) (m:List Int):∀(n:Nat) (l:List Int) (f g:Nat),l.length=n→S.data.toList=enc (l++m)→jg l→n≤f→n≤g→Lib.lastIdxFuncFrom pn false S f (enc l).length=Lib.lastIdxFuncFrom pn false S g (enc l).length
  |0,l,f,g,hl,_,_,_,_=>by
   obtain rfl:=List.eq_nil_of_length_eq_zero hl
   rw[show(enc ([]:List Int)).length=0 from rfl,Lib.lastIdxFuncFrom_zero,Lib.lastIdxFuncFrom_zero]
  |n+1,l,f,g,hl,hS,hC,hf,hg=>by
   obtain⟨f',rfl⟩:∃g,f=g+1:=⟨f - 1,by omega⟩
   obtain⟨g',rfl⟩:∃f,g=f+1:=⟨g - 1,by omega⟩
   have hne:l≠[]:=by rintro rfl;simp at hl
   obtain⟨k,r,rfl⟩:∃k r,l=k++[r]:=⟨_,_,(List.dropLast_concat_getLast hne).symm⟩
   have hr:=hC r (by simp)
   simp at hl
   have htk:S.data.toList.take (enc (k++[r])).length=enc k++Lib.encodeRune r:=by rw[hS,fA (k++[r]),List.take_left,fA,mJ]
   have hlen:(enc (k++[r])).length - (Lib.encodeRune r).length=(enc k).length:=by rw[fA,List.length_append,mJ];omega
   have ih:=last_fuel S ([r]++m) n k f' g' hl (by rw[hS];simp) (fun x hx=>hC x (by simp[hx])) (by omega) (by omega)
   rw[Lib.lastIdxFuncFrom,Lib.lastIdxFuncFrom,htk,wC r hr]
   simp only[hlen,ih]
theorem zo {l:List Int} (h:jg l) (p:Int→Bool):jg (l.dropWhile p):=fun r hr=>h r ((List.dropWhile_sublist p).subset hr)
theorem FD (l:List Int) (a:jg l):Lib.trimF pn (ah (enc l))=ah (enc (SL l)):=by
 unfold Lib.trimF SL;rw[U4 l a,Sm _ (zo a bl)]
def bk (r:Int):Bool:=decide (r=9)||(decide (r=10)||decide (r=13))
def fz (r:Int):Int:=if bk r=true then -1 else r
theorem Va:∀(l:List Int) (n:Nat),jg l→l.length≤n→Lib.mapGoD fz n (enc l)=enc (l.filter fun r=> !bk r)
 |[],0,_,_=>rfl
 |[],n+1,_,_=>rfl
 |_::_,0,_,h=>by simp at h
 |r::l,n+1,hC,hn=>by
  have a:=hC r (by simp)
  have c:enc (r::l)≠[]:=by rw[dX];exact Nv r _
  have d:=qP r a (enc l)
  rw[←dX]at d
  rw[Lib.mapGoD,if_neg c,d]
  have e:((r.toNat:Nat):Int)=r:=by have:=a.1;omega
  simp only[e]
  rw[dX,List.drop_left,Va l n (fun x hx=>hC x (by simp[hx])) (by simp at hn;omega)]
  cases hb:bk r with
  |true=>
   have:fz r= -1:=by unfold fz;rw[hb];rfl
   rw[this]
   simp[hb]
  |false=>
   have f:fz r=r:=by unfold fz;rw[hb];rfl
   rw[f,if_pos a.1]
   simp[hb,enc]
theorem X9 (l:List Int) (a:jg l):Lib.mapD fz (enc l)=enc (l.filter fun r=> !bk r):=Va l _ a (fK l).2
theorem U8 (r:Int) (h:xB r) (d:r≤127):cu (u r)=bl r∧brk (u r)=bk r:=by
 have c:=un r h.1 (by omega);constructor
 ·unfold cu bl;congr 1;rw[c,eq_iff_iff];have:=h.1;omega
 have a:∀k:UInt8,(k.toNat:Int)≤127→(decide (u r=k)=decide (r=(k.toNat:Int))):=fun k a=>by
  congr 1;rw[eq_iff_iff];constructor
  ·intro e;have:=congrArg UInt8.toNat e;rw[c]at this;have:=h.1;omega
  intro e;apply UInt8.toNat_inj.1;rw[c];omega
 unfold brk bk;rw[a 9 (by decide),a 10 (by decide),a 13 (by decide)];rfl
theorem zI {c:UInt8} (h:128≤c.toNat):cu c=false∧brk c=false:=by
 constructor
 ·unfold cu;simp;omega
 unfold brk;have a:∀k:UInt8,k.toNat<128→decide (c=k)=false:=fun k a=>by
  rw[decide_eq_false_iff_not];rintro rfl;omega
 rw[a 9 (by decide),a 10 (by decide),a 13 (by decide)];rfl
theorem zJ (r:Int) (h:xB r) (l:128≤r):∀c ∈ Lib.encodeRune r,128≤c.toNat:=by
 rcases Kz r h with⟨k,_⟩|⟨_,a,b,e,g,f⟩|⟨_,a,b,c,e,g,f,i⟩|⟨_,a,b,c,d,e,g,f,i,j⟩
 ·omega
 all_goals
  intro x hx;rw[e]at hx;simp only[List.mem_cons,List.not_mem_nil,or_false]at hx
 ·rcases hx with rfl|rfl<;>omega
 ·rcases hx with rfl|rfl|rfl<;>omega
 rcases hx with rfl|rfl|rfl|rfl<;>omega
theorem Nc (r:Int) (h:128≤r):bl r=false∧bk r=false:=by
 constructor
 ·unfold bl;simp;omega
 unfold bk;simp;omega
theorem Uw:∀l:List Int,jg l→(enc l).dropWhile cu=enc (l.dropWhile bl)
 |[],_=>rfl
 | r :: l, hC => by
  have a:=hC r (by simp)
  have d:=Uw l fun x hx=>hC x (by simp[hx])
  by_cases h1:r≤127
  ·have e:=enc1 r a.1 h1
   have g:=(U8 r a h1).1
   rw[dX,e,List.singleton_append,List.dropWhile_cons,List.dropWhile_cons,g,d]
   split
   ·rfl
   ·rw[dX,e];rfl
  ·obtain⟨c,t,e⟩:∃c t,Lib.encodeRune r=c::t:=by
    cases e:Lib.encodeRune r with
    |nil=>have:=wV r;rw[e]at this;simp at this
    |cons c t=>exact⟨c,t,rfl⟩
   have f:=zJ r a (by omega) c (by rw[e];simp);rw[dX,e,List.cons_append,List.dropWhile_cons,(zI f).1,List.dropWhile_cons,(Nc r (by omega)).1];simp only[Bool.false_eq_true,if_false];rw[dX,e];rfl
theorem Ej:∀(n:Nat) (l:List Int),l.length=n→jg l→((enc l).reverse.dropWhile cu).reverse=enc (l.reverse.dropWhile bl).reverse
 |0,l,hl,_=>by
  obtain rfl:=List.eq_nil_of_length_eq_zero hl
  rfl
 | n + 1, l, hl, hC => by
  have d:l≠[]:=by rintro rfl;simp at hl
  obtain⟨k,r,rfl⟩:∃k r,l=k++[r]:=⟨_,_,(List.dropLast_concat_getLast d).symm⟩
  simp at hl
  have a:=hC r (by simp)
  have f:=Ej n k hl fun x hx=>hC x (by simp[hx])
  rw[fA,mJ,List.reverse_append,List.reverse_append]
  by_cases h1:r≤127
  ·have e:=enc1 r a.1 h1
   have i:=(U8 r a h1).1
   rw[e]
   simp only[List.reverse_singleton,List.singleton_append,List.dropWhile_cons,i]
   split
   ·exact f
   ·simp[fA,mJ,e]
  ·obtain⟨t,c,e⟩:∃t c,Lib.encodeRune r=t++[c]:=by
    have g:Lib.encodeRune r≠[]:=by intro e;have:=wV r;rw[e]at this;simp at this
    exact⟨_,_,(List.dropLast_concat_getLast g).symm⟩
   have h:=zJ r a (by omega) c (by rw[e];simp);rw[e];simp only[List.reverse_append,List.reverse_singleton,List.singleton_append,List.cons_append,List.dropWhile_cons,(zI h).1,(Nc r (by omega)).1,Bool.false_eq_true,if_false];simp[fA,mJ,e]
theorem Zg (l:List Int) (a:jg l):tX (enc l)=enc (SL l):=by
 unfold tX SL;rw[Uw l a,Ej _ _ rfl (zo a bl)]
theorem En:∀l:List Int,jg l→(enc l).filter (fun c=> !brk c)=enc (l.filter fun r=> !bk r)
 |[],_=>rfl
 | r :: l, hC => by
  have a:=hC r (by simp)
  rw[dX,List.filter_append,En l fun x hx=>hC x (by simp[hx])]
  by_cases h1:r≤127
  ·have e:=enc1 r a.1 h1
   have d:=(U8 r a h1).2
   rw[e,List.filter_cons,d,List.filter_cons]
   cases bk r<;>simp[enc,e]
  ·have hf:(Lib.encodeRune r).filter (fun c=> !brk c)=Lib.encodeRune r:=by
    refine List.filter_eq_self.2 fun c hc=>?_;rw[(zI (zJ r a (by omega) c hc)).2];rfl
   rw[hf,List.filter_cons,(Nc r (by omega)).2];simp[enc]
theorem O1 {l:List Int} (h:jg l):jg l.reverse:=fun r hr=>h r (by simpa using hr)
theorem O4 {l:List Int} (h:jg l):jg (SL l):=O1 (zo (O1 (zo h bl)) bl)
theorem Nk (L:List UInt8):Lib.mapD fz (Lib.trimF pn (ah (enc (dec L)))).data.toList=clean L:=by
 have a:jg (dec L):=uw L;rw[FD _ a];show Lib.mapD fz (enc (SL (dec L)))=_;rw[X9 _ (O4 a)];unfold clean;rw[Zg _ a,En _ (O4 a)]
theorem su (L:List UInt8):(clean L).length≤3*L.length:=by
 unfold clean;refine Nat.le_trans (List.length_filter_le _ _) ?_;have a:(tX (enc (dec L))).length≤(enc (dec L)).length:=by
  unfold tX;rw[List.length_reverse];refine Nat.le_trans (List.dropWhile_sublist _).length_le ?_;rw[List.length_reverse];exact(List.dropWhile_sublist _).length_le
 exact Nat.le_trans a (enc_dec_len _ L (Nat.le_refl _))
where
 enc_dec_len:∀(n:Nat) (L:List UInt8),L.length≤n→(enc (dec L)).length≤3*L.length
  |_,[],_=>by simp[mG,enc]
  |0,_::_,h=>by simp at h
  | n + 1, x :: t, h => by
   have hs:=mQ x t
   have he:(Lib.encodeRune (rd (x::t)).1).length≤3*(rd (x::t)).2.1.toNat:=by
    cases hw:(rd (x::t)).2.2
    ·rw[(qF x t).2 hw];have:(Lib.encodeRune 65533).length=3:=by decide
     omega
    ·rw[((qF x t).1 hw).2,List.length_take];omega
   simp only[List.length_cons]at h;have ih:=enc_dec_len n ((x::t).drop (rd (x::t)).2.1.toNat) (by rw[List.length_drop,List.length_cons];omega);rw[List.length_drop,List.length_cons]at ih;rw[gU,dX,List.length_append,List.length_cons];omega
end MN
namespace JL
open Go.RowKit Base bf rY uh QG aJ MN
def yg (w:World):Prop:=Lib.Utf8Tabs 1 2 w
theorem yg.below {w w':World} (h:yg w) (a:Below w.heap.size w w'):yg w':=Utf8Tabs_below h a
theorem aaI (x:Int) (w:World):Calls prog 25 #[.int .i32 x] w fun e w'=>e=.returned (.bool (decide (x≤32)))∧w'=w:=by
 go_enter func25,ntmps25;go_wp2;go_ret;exact⟨rfl,rfl⟩
theorem Ur (x:Int) (w:World):Calls prog 27 #[.int .i32 x] w fun e w'=>e=.returned (.int .i32 (fz x))∧w'=w:=by
 obtain⟨y,c⟩:∃y,y=fz x:=⟨_,rfl⟩;rw[←c];have a:=hid c;clear c;by_cases h9:x=9
 ·subst h9;go_enter func27,ntmps27;go_wp2;go_ret;exact⟨by rw[a.out];rfl,rfl⟩
 by_cases h10:x=10
 ·subst h10;go_enter func27,ntmps27;go_wp2;go_ret;exact⟨by rw[a.out];rfl,rfl⟩
 by_cases h13:x=13
 ·subst h13;go_enter func27,ntmps27;go_wp2;go_ret;exact⟨by rw[a.out];rfl,rfl⟩
 have g:(x==9)=false:=beq_eq_false_iff_ne.2 h9;have f:(x==10)=false:=beq_eq_false_iff_ne.2 h10;have q3:(x==13)=false:=beq_eq_false_iff_ne.2 h13;have d:Hid (y=x):=by show _=_;rw[a.out];simp[fz,bk,h9,h10,h13]
 go_enter func27,ntmps27;go_wp2;go_ret;exact⟨by rw[d.out];rfl,rfl⟩
theorem pred (w:World):PredAt prog 25 #[] encR pn w:=fun W x _=>(aaI (x:Int) W).mono fun e w' ⟨h1,h2⟩=>⟨by rw[h1];unfold pn;congr 2;rw[decide_eq_decide];omega,0,h2⟩
theorem maps (w:World):MapGrows prog 27 #[] fz w:=fun W x _ _=>(Ur (x:Int) W).mono fun e w' ⟨h1,h2⟩=>⟨h1,by rw[h2];exact Below.refl _ _⟩
theorem Ze (l:List Int):(SL l).length≤l.length:=by
 unfold SL;rw[List.length_reverse];refine Nat.le_trans (List.dropWhile_sublist _).length_le ?_;rw[List.length_reverse];exact(List.dropWhile_sublist _).length_le
theorem Gw (T:List UInt8) (w:World) (H:T.length≤1000000) (B:yg w):Calls prog 11 #[.string (ah T)] w fun e w'=>e=.returned (.string (ah (clean T)))∧Below w.heap.size w w':=by
 have z:(enc (dec T)).length≤3*T.length:=su.enc_dec_len _ T (Nat.le_refl _);have J:(dec T).length≤3000000:=by have:=(fK (dec T)).2;omega
 have f:∀r ∈ dec T,QC r:=fun r m=>by have:=uw T r m;unfold xB at this;unfold QC;omega
 have n:(enc (SL (dec T))).length≤12000000:=by have h1:=(fK (SL (dec T))).1;have Z:=Ze (dec T);omega
 have d:=Nk T;rw[FD _ (uw T)]at d;have C:∀w:World,yg w→Calls prog 24 #[.string (ah (enc (dec T))),.func (.func 25) #[] #[]] w fun e w'=>e=.returned (.string (ah (enc (SL (dec T)))))∧Below w.heap.size w w':=fun w h=>by
  have:=strings_TrimFunc 25 #[] (enters_of func25 (by kernel_rfl) rfl) pn (ah (enc (dec T))) w (by rw[ak];omega) h (pred w);rw[FD _ (uw T)]at this;exact this
 have D:∀w:World,yg w→Calls prog 26 #[.func (.func 27) #[] #[],.string (ah (enc (SL (dec T))))] w fun e w'=>e=.returned (.string (ah (clean T)))∧Below w.heap.size w w':=fun w h=>by
  have:=strings_Map 27 #[] (enters_of func27 (by kernel_rfl) rfl) fz (ah (enc (SL (dec T)))) w (by rw[ak];omega) (maps w) (fun x hx=>by unfold fz;split<;>omega) h;rw[d]at this;exact this
 have O:=hid C;have V:=hid D;have E:=hid B;have t:=hid f;clear C D B d f n;have G:(ah T).size≤1000000:=by rw[ak];exact H
 have q:=fun(w:World) s=>run_bytes_of_string (P:=prog) w 9 50 5 s underlying9 underlying50 underlying5;have k:Hid ((ah T).size≤grownCap w (ah T).size 0 5):=grownCap_ge w (ah T).size 0 5;go_enter func11,ntmps11;go_wp2_with fail
 clear q;refine(rY.qj _ (ah T).size _ T _ (jq (ah T) _ w 5) (by omega) k).mono ?_;rintro e F ⟨v,rfl,a,j⟩;have y:Hid (Below w.heap.size w F):=bD (((Below.refl w.heap.size w).alloc (Nat.le_refl _) _).drew) j;clear j;obtain⟨A,c,rfl,Y,X,m⟩:=aS a;have Q:=hid m;clear a m;go_wp2_with fail
 refine(uh.gq A _ c (dec T) _ Q t (by omega)).mono ?_;rintro e W ⟨v,rfl,a,i⟩;have l:=hid (bD y i);clear i;obtain⟨A3,N,rfl,L,I,g⟩:=aS a;have aU:=bI 50 9 5 underlying50 underlying5 underlying9 _ N g;clear a g;go_wp2_with fail
 clear aU;refine qy l (O _ (E.below l)) fun w4 HB4=>?_;go_wp2_with fail
 refine qy HB4 (V _ (E.below HB4)) fun w5 HB5=>?_;go_wp2;go_ret;exact⟨rfl,HB5⟩
end JL
namespace Iq
open Go.RowKit Base eH bf aJ vP Zl vK yH mY uf zf MN JL MS Xi
theorem Gu (C:List UInt8):(aJ.apart C).rest.length≤C.length∧(aJ.apart C).bT.length≤C.length∧(aJ.apart C).eY.length≤C.length:=by
 have d:=oz 35 C;have c:=oz 63 (aW 35 C).1;have a:=oz 58 (aW 63 (aW 35 C).1).1;unfold aJ.apart;simp only;split
 ·refine⟨?_,?_,?_⟩<;>simp only<;>omega
 refine⟨?_,?_,?_⟩<;>simp only<;>omega
theorem Ep (u:U) (p:Parts):(aJ.finish u p).aF=u.aF:=by
 cases h1:p.hq<;>cases h2:p.hf<;>simp[aJ.finish,h1,h2]
theorem LD {f:Func} {a b:Tmp} {w:World} {g:Nat} {u:U} {p:Value} (h:f.results=#[.cell a 25,.tmp b]) (i:UB w g u p) (z:Int) (c:Array Value) (k:c.getD a undef=.pointer (some ⟨g,0,none⟩)) (j:c.getD b undef=.int .i64 z):
  (results f c).run prog w=.ok (.tuple #[.agg (cells u p),.int .i64 z]) w:=by
 have e:c[a]?.getD undef=.pointer (some ⟨g,0,none⟩):=by simpa using k
 have d:c[b]?.getD undef=.int .i64 z:=by simpa using j
 simp[results,h,e,d,asAddr,i.load]
def acf (w:World) (o:Option U) (e:Ending) (w':World):Prop:=Below w.heap.size w w'∧∃A n c,e=.returned (.tuple #[.agg (cells (o.getD U0) (.slice A n c)),.int .i64 (if o.isSome=true then 0 else 2)])∧Own w w' (o.getD U0) A n c
theorem EP (T:List UInt8) (w:World) (hs:T.length≤65536) (hL:oZ w) (hT:Tab.Pow w) (hM:Max w) (hU:yg w):Calls prog 5 #[.string (ah T),.pointer none] w (acf w (aJ.url T none)):=by
 have a2:=su T;obtain⟨C,hC⟩:∃x,x=clean T:=⟨_,rfl⟩;rw[←hC]at a2;obtain⟨p,hp⟩:∃x,x=aJ.apart C:=⟨_,rfl⟩;have a0:=Gu C;rw[←hp]at a0;obtain⟨OR,Q⟩:∃x,x=aJ.resolve p none:=⟨_,rfl⟩;obtain⟨OU,P⟩:∃x,x=aJ.url T none:=⟨_,rfl⟩;have a4:Hid (OU=OR.map fun u=>aJ.finish u p):=by show _=_;rw[P];unfold aJ.url;rw[←hC,←hp,←Q]
 rw[←P];have c7:Hid (∀w:World,yg w→Calls prog 11 #[.string (ah T)] w fun e w'=>e=.returned (.string (ah C))∧Below w.heap.size w w'):=fun w h=>by rw[hC];exact Gw T w (by omega) h
 have c9:Hid (∀w:World,Max w→Calls prog 10 #[.string (ah C)] w fun e w'=>e=.returned (.agg (fQ p))∧Below w.heap.size w w'):=fun w h=>by rw[hp];exact Gt C w (by omega) h
 have c1:Hid (∀w:World,oZ w→Tab.Pow w→Max w→Calls prog 12 #[.agg (fQ p),.pointer none] w (l7 w OR)):=fun w a c d=>by rw[Q];exact Jk p w (by omega) a c d
 have c6:Hid (∀(u:U) (A:Option Addr) (n c:Nat) (w:World),Calls prog 13 #[.agg (cells u (.slice A n c)),.agg (fQ p)] w fun e w'=>e=.returned (.agg (cells (aJ.finish u p) (.slice A n c)))∧Below w.heap.size w w'):=fun u A n c w=>Eo u p A n c w (by omega) (by omega);have e1:¬((ah T).size:Int)>65536:=by rw[ak];omega
 have e0:((ah T).size:Int)≤65536:=by omega
 have HL:=hid hL;have HT:=hid hT;have HM:=hid hM;have b9:=hid hU;clear P Q hp hC hL hT hM hU a0 a2;obtain⟨s,B,q,f,hq,hf⟩:=p;go_enter func5,ntmps5;go_upto_region 1 with(fail)
 generalize hw:World.alloc w _=w1;have k:UB w1 (w.heap.size) (U0) (.slice none 0 0)∧Below w.heap.size w w1:=by
  subst hw;exact jd w _ _
 clear hw;have I:Hid (w.heap.size≤w.heap.size):=(Below.refl w.heap.size w).size;have N:=hid (bD (Below.refl w.heap.size w) k.2);have X:=hid k.1;clear k;go_wp2_with fail
 refine(c7 _ (b9.below N)).mono ?_;rintro e w2 ⟨rfl,g⟩;have W:=hid (X.below g);have L:=hid (bD N g);clear g;go_wp2_with fail
 refine(c9 _ (HM.below L)).mono ?_;rintro e Z ⟨rfl,g⟩;have v:=hid (W.below g);have a8:=hid (bD L g);clear g;rw[show Value.agg (fQ ⟨s,B,q,f,hq,hf⟩)=.agg #[.string (ah s),.string (ah B),.string (ah q),.string (ah f),.bool hq,.bool hf]from rfl];go_upto_region 4 with(fail)
 generalize hw:World.alloc Z _=w4;have k:PB w4 (Z.heap.size) (⟨s,B,q,f,hq,hf⟩)∧Below Z.heap.size Z w4:=by
  subst hw;exact jd Z _ _
 clear hw;have O:=v.lt;clear O;have t:=hid (v.below k.2);have j:=hid (bD a8 k.2);have z:=hid k.1;clear k;obtain⟨p0,p1,p2,p3,p4,p5⟩:=z.facts;go_wp2_with fail
 clear p0 p1 p2 p3 p4 p5;refine(c1 _ (HL.below j) (cZ HT j) (HM.below j)).mono ?_;rintro e G ⟨g,i,F,D,E,ok,rfl,H,a1⟩;have c4:Hid (w.heap.size<w4.heap.size):=t.lt;have c2:Hid (w.heap.size≤w4.heap.size):=j.size;have r:=hid (t.below g);have y:=hid (z.below g);have a7:=hid (bD j g);have a5:=hid a1;have a3:=hid (show Own w4 G i F D E from H);clear a1 H;clear g;rw[show Value.agg (cells i (.slice F D E))=.agg #[.string (ah i.au),.string (ah i.bY),.string (ah i.bZ),.string (ah i.aU),.bool i.hh,.int .i64 i.port,.bool i.dK,.string (ah i.txt),.slice F D E,.bool i.hq,.bool i.hf,.string (ah i.bT),.string (ah i.eY)]from rfl];go_upto_region 5 with(fail)
 generalize hw:World.alloc G _=w6;have k:UB w6 (G.heap.size) (i) (.slice F D E)∧Below G.heap.size G w6:=by
  subst hw;exact jd G _ _
 clear hw;have O:=r.lt;clear O;have b3:=y.lt;clear b3;have l:=hid (r.below k.2);have Y:=hid (y.below k.2);have J:=hid (bD a7 k.2);have V:=hid k.1;have c8:=hid k.2;clear k
 skip
 cases ok with
 |false=>
  have c3:Hid (OU=none):=by
   show _=_;rcases a5 with⟨_,h⟩|⟨h,_⟩
   ·cases h
   rw[a4.out,h];rfl
  go_wp2_with (refine aI l U0 none 0 0 (.tmp 4) (.tmp 24) rfl rfl rfl rfl ?_)
  refine bodyPost_ret (LD (u:=U0) (p:=.slice none 0 0) rfl (l.row U0 _) 2 _ rfl rfl) rfl ?_;rw[c3.out];exact⟨below_setRow J I _,none,0,0,rfl,uO _ _ rfl⟩
 |true=>
  have c0:Hid (OU=some (aJ.finish i ⟨s,B,q,f,hq,hf⟩)):=by
   show _=_;rcases a5 with⟨h,_⟩|⟨_,h,_⟩
   ·rw[a4.out,h];rfl
   cases h
  have b5:(aJ.finish i ⟨s,B,q,f,hq,hf⟩).aF=i.aF:=Ep _ _;obtain⟨d0,d1,d2,d3,d4,d5,d6,d7,d8,d9,b8,b7,b6⟩:=V.facts;obtain⟨p0,p1,p2,p3,p4,p5⟩:=Y.facts;go_wp2_with fail
  clear d0 d1 d2 d3 d4 d5 d6 d7 d8 d9 b8 b7 b6;clear p0 p1 p2 p3 p4 p5
  skip
  have c5:Hid (Below G.heap.size G w6):=c8.out;refine(c6 i F D E _).mono ?_;rintro e w7 ⟨rfl,g⟩;have m:=hid (l.below g);have a6:=hid (bD J g);have a9:=hid g;clear g;have b0:=(a3.below c5).below a9;go_wp2_with (refine aI m (aJ.finish i ⟨s,B,q,f,hq,hf⟩) F D E (.tmp 4) (.tmp 27) rfl rfl rfl rfl ?_)
  have ho:=(b0.row c4 (cells (aJ.finish i ⟨s,B,q,f,hq,hf⟩) (.slice F D E))).base c2;refine bodyPost_ret (LD (u:=aJ.finish i ⟨s,B,q,f,hq,hf⟩) (p:=.slice F D E) rfl (m.row _ _) 0 _ rfl rfl) rfl ?_;rw[c0.out];exact⟨below_setRow a6 I _,F,D,E,rfl,by show Own _ _ (aJ.finish i ⟨s,B,q,f,hq,hf⟩) _ _ _;unfold Own;rw[b5];exact ho⟩
end Iq
