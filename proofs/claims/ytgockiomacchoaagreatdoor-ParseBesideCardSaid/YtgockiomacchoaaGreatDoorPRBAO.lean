/- Lemmas. -/
import Derived.Test.YtgockiomacchoaaGreatDoorPRBAN
set_option linter.unusedSimpArgs false
set_option linter.unusedVariables false
set_option maxRecDepth 100000
set_option maxHeartbeats 64000000
namespace Go.Proofs.YtgockiomacchoaaGreatDoor
open Tryz
namespace acC
open Go.RowKit Base eH bf iI oQ mD JR jR ug iH mY uf zf aJ yG vP vK yH JO TA
def Hb (w0:World) (gu gr gb:Nat) (b:U) (q:Value) (L:Nat→Bool) (w:World):Prop:=
 UB w gu (if L 8=true then aN b else uF) (.slice none 0 0)∧UB w gr U0 (.slice none 0 0)∧UB w gb b q∧Below w0.heap.size w0 w∧gr≠gu∧gb≠gu∧w0.heap.size≤gu
theorem rV {w0:World} {c d gb:Nat} {b:U} {q:Value} {L:Nat→Bool} {w w':World} (i:Nat) (hi:(i==8)=false) (a:Below w.heap.size w w') (e:Hb w0 c d gb b q L w):Hb w0 c d gb b q (did L i) w':=by
 rw[beq_eq_false_iff_ne]at hi;obtain⟨k,j,h,g,f⟩:=e;unfold Hb;rw[aK L (Ne.symm hi)];exact⟨k.below a,j.below a,h.below a,bD g a,f⟩
theorem hb8 {w0:World} {a f gb:Nat} {b:U} {q:Value} {L:Nat→Bool} {w:World} (g:Hb w0 a f gb b q L w):Hb w0 a f gb b q (did L 8) (w.setRow a (cells (aN b) (.slice none 0 0))):=by
 obtain⟨k,j,i,h,e,d,c⟩:=g;unfold Hb;rw[dJ];exact⟨k.row _ _,j.YI e _,i.YI d _,below_setRow h c _,e,d,c⟩
theorem Q8 (T:List UInt8) (b:U) (gb:Nat) (A:Option Addr) (n c:Nat) (w:World) (hs:T.length≤700000) (hn:n≤100000) (hB:UB w gb b (.slice A n c)) (hP:iC w b A n c) (hL:oZ w) (hT:Tab.Pow w) (hM:Max w):Calls prog 28 #[.string (ah T),.pointer (some ⟨gb,0,none⟩)] w (l7 w (file T (some b))):=by
 obtain⟨O,hO⟩:∃O,O=file T (some b):=⟨_,rfl⟩;rw[←hO];obtain⟨s0,f0⟩:∃x,x=iK true T 0:=⟨_,rfl⟩;obtain⟨s1,e9⟩:∃x,x=iK true T 1:=⟨_,rfl⟩;unfold file at hO;rw[←f0,←e9]at hO;have f6:s0=true→1≤T.length:=fun h=>by
  rw[h]at f0;by_cases h2:0<T.length
  ·omega
  rw[sJ _ _ _ h2]at f0;cases f0
 have i9:=hid f6;have h9:s1=true→2≤T.length:=fun h=>by
  rw[h]at e9;by_cases h2:1<T.length
  ·omega
  rw[sJ _ _ _ h2]at e9;cases e9
 have k0:=hid h9;have i7:Hid (∀w:World,Calls prog 82 #[.string ⟨#[102,105,108,101]⟩,.string (ah T),.int .i64 0] w fun e w'=>e=.returned (.bool s0)∧Below w.heap.size w w'):=fun w=>by rw[f0];exact kC (ah ay) (ah T) 0 w (by omega)
 have k8:Hid (∀w:World,Calls prog 82 #[.string ⟨#[102,105,108,101]⟩,.string (ah T),.int .i64 1] w fun e w'=>e=.returned (.bool s1)∧Below w.heap.size w w'):=fun w=>by rw[e9];exact kC (ah ay) (ah T) 1 w (by omega)
 have HO:=hid hO;have l4:Hid (∀(L:List UInt8) (w:World),L.length≤900000→oZ w→Tab.Pow w→Max w→Calls prog 83 #[.string (ah L)] w (l7 w (far L))):=fun L w h a c d=>Po L w h a c d;have h8:Hid (∀(L:List UInt8) (w:World),L.length≤900000→Calls prog 86 #[.string (ah L)] w fun e w'=>e=.returned (.bool (pz L))∧w=w'):=fun L w h=>D9 (ah L) w (dN (by omega));have f1:Hid (∀(A:Option Addr) (n c:Nat) (l:List ByteArray) (L:List UInt8) (w:World),dV w A n (l.map Value.string)→n≤c→c≤maxLen→n+L.length≤900000→Calls prog 89 #[.string ⟨#[102,105,108,101]⟩,.slice A n c,.string (ah L)] w (jY w.heap.size w (walk ay l L))):=fun A n c l L w h1 h2 h3 h4=>tZ (ah ay) A n c l (ah L) w h1 h2 h3 (by rw[ak];exact h4);have HL:=hid hL;have HT:=hid hT;have HM:=hid hM;clear hO f0 e9 h9 f6 hL hT hM;have i0:=hid hB;have HP:=hid hP;have h7:b.aF.length=n:=by have:=hP.1.1;simpa using this
 clear hB hP;go_enter func28,ntmps28;go_upto_region 1 with(fail)
 generalize hw:World.alloc w _=w1;have h1:UB w1 (w.heap.size) (U0) (.slice none 0 0)∧Below w.heap.size w w1:=by
  subst hw;exact jd w _ _
 clear hw;have f7:=i0.lt;clear f7;have J:Hid (w.heap.size≤w.heap.size):=(Below.refl w.heap.size w).size;have i6:=hid (i0.below h1.2);have k2:=hid (bD (Below.refl w.heap.size w) h1.2);have i4:=hid h1.1;clear h1;go_wp2_with fail
 refine(i7 _).mono ?_;rintro e w2 ⟨rfl,f⟩;have e7:=hid (i6.below f);have e4:=hid (i4.below f);have g8:=hid (bD k2 f);clear f;cases s0 with
 | true=>
  go_wp2_with fail
  refine(k8 _).mono ?_;rintro e Q ⟨rfl,f⟩;have b9:=hid (e7.below f);have a5:=hid (e4.below f);have a3:=hid (bD g8 f);clear f;cases s1 with
  |true=>
   have k4:=k0 (by simp);have b0:Hid (O=far (T.drop 2)):=by show _=_;rw[HO.out,if_pos (by simp)]
   obtain⟨T2,b6⟩:∃x,x=T.drop 2:=⟨_,rfl⟩;have f3:(ah T).extract 2 (ah T).size=ah T2:=by rw[kS,b6];rfl
   have k6:(2:Int)≤((ah T).size:Int):=by rw[ak];omega
   rw[←b6]at b0;have j8:T2.length≤800000:=by rw[b6,List.length_drop];omega
   clear b6 k4;go_wp2_with fail
   clear f3;refine(l4 _ _ (by omega) (HL.below a3) (cZ HT a3) (HM.below a3)).mono ?_;rintro e w4 ⟨f,u',A',n',c',ok,rfl,g,j2⟩;have P:Hid (w.heap.size<Q.heap.size):=a5.lt;have l0:=hid g;have l2:=hid j2;clear g j2;have b8:=hid (a5.below f);have g7:=hid (bD a3 f);have l3:Hid (w.heap.size≤Q.heap.size):=a3.size;clear f;go_wp2_with (refine aI b8 u' A' n' c' (.tmp 4) (.tmp 17) rfl rfl rfl rfl ?_)
   exact bodyPost_ret (gJ rfl (b8.row u' _) ok _ rfl rfl) rfl ⟨below_setRow g7 J _,u',A',n',c',ok,rfl,(l0.row P _).base l3,by rw[b0.out];exact l2⟩
  | false=>
   have k5:=i9 (by simp);have b0:Hid (O=some {aN b with aF:=walk ay (if wJ (b.aF.head?.elim [] fun x=>x.data.toList)=true∧pz (T.drop 1)=false then b.aF.take 1 else[]) (T.drop 1)}):=by show _=_;rw[HO.out,if_neg (by simp),if_pos (by simp)];first|done|rfl
   obtain⟨T2,b6⟩:∃x,x=T.drop 1:=⟨_,rfl⟩;have f3:(ah T).extract 1 (ah T).size=ah T2:=by rw[kS,b6];rfl
   have k6:(1:Int)≤((ah T).size:Int):=by rw[ak];omega
   rw[←b6]at b0;have j8:T2.length≤700000:=by rw[b6,List.length_drop];omega
   have k7:=hid f3;clear b6 k5 f3;go_upto_region 4 with(fail)
   generalize hw:World.alloc Q _=w4;have h1:UB w4 (Q.heap.size) (uF) (.slice none 0 0)∧Below Q.heap.size Q w4:=by
    subst hw;exact jd Q _ _
   clear hw;have f7:=b9.lt;have G:Hid (gb≠Q.heap.size):=by show _≠_;omega
   clear f7;have i1:=a5.lt;have F:Hid (w.heap.size≠Q.heap.size):=by show _≠_;omega
   clear i1;have a1:Hid (w.heap.size≤Q.heap.size):=a3.size;have i5:=hid (b9.below h1.2);have b8:=hid (a5.below h1.2);have g7:=hid (bD a3 h1.2);have i2:=hid h1.1;clear h1;go_upto_region 6 with(fail)
   refine iE (by kernel_rfl) (fun L _ wq=>Hb w Q.heap.size w.heap.size gb b (.slice A n c) L wq) [pg gb 0,pg gb 0,is (.agg (cells b (.slice A n c))),is (.agg (cells (aN b) (.slice none 0 0))),pg gb 0,pg gb 0,pg gb 8,is (.slice A n c),any,is (.slice A n c)] [[],[0],[1],[2],[],[4],[5],[6],[3],[7]] (by kernel_rfl) (by repeat (first|exact oG|refine qQ _ ?_|refine oD ?_)) ?_ ?_ ?_
   ·exact fun t=>⟨i2,b8,i5,g7.drew,F,G,a1⟩
   ·refine ⟨?_,?_,?_,?_,?_,?_,?_,?_,?_,?_,trivial⟩;all_goals(intro L t wq hG hL hC hN hh K hK;simp only[iD,Act.put,Nat.reduceAdd,Nat.reduceEqDiff,reduceIte]at hh hK⊢;(try simp only[hh]at hK⊢);clear hh)
    iterate 2
     ·go_simp;exact hK _ _ rfl (rV _ (by decide) aT hG)
    ·obtain⟨d0,d1,d2,d3,d4,d5,d6,d7,d8,d9,g2,g1,g0⟩:=hG.2.2.1.facts;go_simp;exact hK _ _ rfl (rV 2 (by decide) aT hG)
    ·go_simp;refine(uH b (.slice A n c) _).mono ?_;rintro e w9 ⟨rfl,f8⟩;exact hK _ _ rfl (rV 3 (by decide) f8 hG)
    iterate 3
     ·go_simp;exact hK _ _ rfl (rV _ (by decide) aT hG)
    ·obtain⟨d0,d1,d2,d3,d4,d5,d6,d7,d8,d9,g2,g1,g0⟩:=hG.2.2.1.facts;go_simp;exact hK _ _ rfl (rV 7 (by decide) aT hG)
    ·have f5:=hG.1;simp only[hL,Bool.false_eq_true,reduceIte]at f5;refine wp_store_row 25 (.tmp 6) (.tmp 25) rfl Q.heap.size (cells (aN b) (.slice none 0 0)) rfl rfl 25 _ f5 (by kernel_rfl) rfl (by simp[cells,Value.oneCell']) ?_;exact hK undef _ trivial (hb8 hG)
    go_simp;exact hK _ _ rfl (rV _ (by decide) aT hG)
   intro Lz t wq hG e0 hh;have f9:=aO hh 9 (by decide);simp only[pick]at f9;replace f9:t 9=(.slice A n c):=f9;clear hh;simp only[iD,Act.put,Nat.reduceAdd,Nat.reduceEqDiff,reduceIte];simp only[f9];obtain⟨m,s,H,hb,_,_,_⟩:=hG;simp only[e0 8 (by decide),reduceIte]at m;have e3:=hid m;have a4:=hid s;have e5:=hid H;have e1:=hid hb;clear m s H hb e0;go_upto_region 8 with(fail)
   go_wp2_with fail
   refine(i7 _).mono ?_;rintro e w6 ⟨rfl,f⟩;have Y:=hid (e5.below f);have C:=hid (a4.below f);have r:=hid (e3.below f);have a0:=hid (bD e1 f);clear f;have f3:=k7.out;cases hbp:b.aF with
   |nil=>
    have h0:n=0:=by rw[hbp]at h7;exact h7.symm
    have k3:¬(0:Int)<(n:Int):=by omega
    have a6:Hid (O=some {aN b with aF:=walk ay [] T2}):=by show _=_;rw[b0.out,hbp];simp[ite_self]
    clear hbp h0;go_wp2_with fail
    refine(f1 none 0 0 ([]) T2 _ (dV.nil _) (Nat.le_refl _) (Nat.zero_le _) (by omega)).mono ?_;rintro e w7 ⟨q,rfl,g,f⟩;obtain⟨D,B,rfl,hq⟩:=bV (u:={U0 with aF:=walk ay [] T2}) g;clear hq;replace g:=aH g (Nat.le_refl _);have b3:Hid (Q.heap.size<w6.heap.size):=r.lt;have P:Hid (w.heap.size<w6.heap.size):=C.lt;have W:=hid (Y.below f);have E:=hid (C.below f);have j:=hid (r.below f);have Z:=hid (bD a0 f);have N:=hid g;clear g;clear f;have a8:=b3.out;have cx:=j.facts.2.2.2.2.2.2.2.2.1;have fx:=j.thaw.2.2.2.2.2.2.2.2.1;go_upto_region 18 with(fail)
    have H:=W.set (k:=Q.heap.size) (i:=8) (.slice D (walk ay [] T2).length B) (G);have s:=E.set (k:=Q.heap.size) (i:=8) (.slice D (walk ay [] T2).length B) (F);have m:=j.path (.slice D (walk ay [] T2).length B);have I:=fC.aP (w':=w7.setCell ⟨Q.heap.size,8,none⟩ (.slice D (walk ay [] T2).length B)) (gb:=Q.heap.size) N (fun k hk=>heap_setCell_other _ _ _ _ hk) (by omega);have hb:=Z.setCell (p:=⟨Q.heap.size,8,none⟩) (a1) (.slice D (walk ay [] T2).length B);clear cx fx;generalize World.setCell w7 _ _=w8 at H s m I hb⊢;clear H;have y:Hid (UB w8 (w.heap.size) (U0) (.slice none 0 0)):=s;clear s;have V:Hid (UB w8 (Q.heap.size) (aN b) (.slice D (walk ay [] T2).length B)):=m;clear m;have X:=hid I;clear I;have a2:=hid hb;clear hb;clear a8;obtain⟨c0,c1,g3,c3,c4,c5,c6,c7,c8,c9,g6,g5,g4⟩:=V.facts;go_wp2_with (refine aI y (aN b) D (walk ay [] T2).length B (.tmp 4) (.tmp 72) rfl rfl rfl rfl ?_)
    have a7:∀k,k≠w.heap.size→(World.setRow w8 (w.heap.size) (cells (aN b) (.slice D (walk ay [] T2).length B))).heap[k]?=w8.heap[k]?:=fun k hk=>setRow_other _ _ _ _ hk;have ho:=aH (fC.aP X a7 P) (by have h1:=J.out;have h2:=P.out;omega:w.heap.size≤_);exact bodyPost_ret (gJ rfl (y.row (aN b) _) true _ rfl rfl) rfl (dW (u:={aN b with aF:=walk ay [] T2}) a6 (below_setRow a2 J _) ho)
   | cons x xs=>
    have l6:1≤n:=by rw[hbp]at h7;simp at h7;omega
    obtain⟨bb,g9,rfl,j0,j4⟩:=HP.1.spot (by omega);have j7:w.cell? ⟨bb,g9,none⟩=some (.string x):=by
     have:=j4 0 (by rw[hbp];simp);simp only[hbp,List.map_cons,List.getElem_cons_zero,Nat.add_zero]at this;exact this
    have j6:=a0.cell (p:=⟨bb,g9,none⟩) j0;have m1:=j6.trans j7;have f2:Hid (∀w:World,Calls prog 85 #[.string x] w fun e w'=>e=.returned (.bool (wJ x.data.toList))∧w=w'):=fun w=>yQ x w;have k3:(0:Int)<(n:Int):=by omega
    have l8:0<n:=by omega
    have k1:Hid (b.aF.head?.elim [] (fun x=>x.data.toList)=x.data.toList):=by show _=_;rw[hbp];rfl
    clear hbp j7 j6 j4 j0;cases hnr:wJ x.data.toList with
    |false=>
     have a6:Hid (O=some {aN b with aF:=walk ay [] T2}):=by show _=_;rw[b0.out,k1.out,hnr,if_neg (by simp)]
     rw[hnr]at f2;clear hnr;go_wp2_with fail
     refine(f2 _).mono ?_;rintro e wx ⟨rfl,z⟩;obtain rfl:w6=wx:=by first|exact z|exact z.symm
     clear z;go_wp2_with fail
     refine(f1 none 0 0 ([]) T2 _ (dV.nil _) (Nat.le_refl _) (Nat.zero_le _) (by omega)).mono ?_;rintro e w7 ⟨q,rfl,g,f⟩;obtain⟨D,B,rfl,hq⟩:=bV (u:={U0 with aF:=walk ay [] T2}) g;clear hq;replace g:=aH g (Nat.le_refl _);have b3:Hid (Q.heap.size<w6.heap.size):=r.lt;have P:Hid (w.heap.size<w6.heap.size):=C.lt;have W:=hid (Y.below f);have E:=hid (C.below f);have j:=hid (r.below f);have Z:=hid (bD a0 f);have N:=hid g;clear g;clear f;have a8:=b3.out;have cx:=j.facts.2.2.2.2.2.2.2.2.1;have fx:=j.thaw.2.2.2.2.2.2.2.2.1;go_upto_region 18 with(fail)
     have H:=W.set (k:=Q.heap.size) (i:=8) (.slice D (walk ay [] T2).length B) (G);have s:=E.set (k:=Q.heap.size) (i:=8) (.slice D (walk ay [] T2).length B) (F);have m:=j.path (.slice D (walk ay [] T2).length B);have I:=fC.aP (w':=w7.setCell ⟨Q.heap.size,8,none⟩ (.slice D (walk ay [] T2).length B)) (gb:=Q.heap.size) N (fun k hk=>heap_setCell_other _ _ _ _ hk) (by omega);have hb:=Z.setCell (p:=⟨Q.heap.size,8,none⟩) (a1) (.slice D (walk ay [] T2).length B);clear cx fx;generalize World.setCell w7 _ _=w8 at H s m I hb⊢;clear H;have y:Hid (UB w8 (w.heap.size) (U0) (.slice none 0 0)):=s;clear s;have V:Hid (UB w8 (Q.heap.size) (aN b) (.slice D (walk ay [] T2).length B)):=m;clear m;have X:=hid I;clear I;have a2:=hid hb;clear hb;clear a8;obtain⟨c0,c1,g3,c3,c4,c5,c6,c7,c8,c9,g6,g5,g4⟩:=V.facts;go_wp2_with (refine aI y (aN b) D (walk ay [] T2).length B (.tmp 4) (.tmp 72) rfl rfl rfl rfl ?_)
     have a7:∀k,k≠w.heap.size→(World.setRow w8 (w.heap.size) (cells (aN b) (.slice D (walk ay [] T2).length B))).heap[k]?=w8.heap[k]?:=fun k hk=>setRow_other _ _ _ _ hk;have ho:=aH (fC.aP X a7 P) (by have h1:=J.out;have h2:=P.out;omega:w.heap.size≤_);exact bodyPost_ret (gJ rfl (y.row (aN b) _) true _ rfl rfl) rfl (dW (u:={aN b with aF:=walk ay [] T2}) a6 (below_setRow a2 J _) ho)
    |true=>
     cases hbg:pz T2 with
     |true=>
      have a6:Hid (O=some {aN b with aF:=walk ay [] T2}):=by show _=_;rw[b0.out,hbg,if_neg (by simp)]
      have b5:=h8 T2;rw[hbg]at b5;have e8:=hid b5;rw[hnr]at f2;clear hnr hbg;go_wp2_with fail
      refine(f2 _).mono ?_;rintro e wx ⟨rfl,z⟩;obtain rfl:w6=wx:=by first|exact z|exact z.symm
      clear z;go_wp2_with fail
      refine(e8 _ (by omega)).mono ?_;rintro e wx ⟨rfl,z⟩;obtain rfl:w6=wx:=by first|exact z|exact z.symm
      clear z;go_wp2_with fail
      refine(f1 none 0 0 ([]) T2 _ (dV.nil _) (Nat.le_refl _) (Nat.zero_le _) (by omega)).mono ?_;rintro e w7 ⟨q,rfl,g,f⟩;obtain⟨D,B,rfl,hq⟩:=bV (u:={U0 with aF:=walk ay [] T2}) g;clear hq;replace g:=aH g (Nat.le_refl _);have b3:Hid (Q.heap.size<w6.heap.size):=r.lt;have P:Hid (w.heap.size<w6.heap.size):=C.lt;have W:=hid (Y.below f);have E:=hid (C.below f);have j:=hid (r.below f);have Z:=hid (bD a0 f);have N:=hid g;clear g;clear f;have a8:=b3.out;have cx:=j.facts.2.2.2.2.2.2.2.2.1;have fx:=j.thaw.2.2.2.2.2.2.2.2.1;go_upto_region 18 with(fail)
      have H:=W.set (k:=Q.heap.size) (i:=8) (.slice D (walk ay [] T2).length B) (G);have s:=E.set (k:=Q.heap.size) (i:=8) (.slice D (walk ay [] T2).length B) (F);have m:=j.path (.slice D (walk ay [] T2).length B);have I:=fC.aP (w':=w7.setCell ⟨Q.heap.size,8,none⟩ (.slice D (walk ay [] T2).length B)) (gb:=Q.heap.size) N (fun k hk=>heap_setCell_other _ _ _ _ hk) (by omega);have hb:=Z.setCell (p:=⟨Q.heap.size,8,none⟩) (a1) (.slice D (walk ay [] T2).length B);clear cx fx;generalize World.setCell w7 _ _=w8 at H s m I hb⊢;clear H;have y:Hid (UB w8 (w.heap.size) (U0) (.slice none 0 0)):=s;clear s;have V:Hid (UB w8 (Q.heap.size) (aN b) (.slice D (walk ay [] T2).length B)):=m;clear m;have X:=hid I;clear I;have a2:=hid hb;clear hb;clear a8;obtain⟨c0,c1,g3,c3,c4,c5,c6,c7,c8,c9,g6,g5,g4⟩:=V.facts;go_wp2_with (refine aI y (aN b) D (walk ay [] T2).length B (.tmp 4) (.tmp 72) rfl rfl rfl rfl ?_)
      have a7:∀k,k≠w.heap.size→(World.setRow w8 (w.heap.size) (cells (aN b) (.slice D (walk ay [] T2).length B))).heap[k]?=w8.heap[k]?:=fun k hk=>setRow_other _ _ _ _ hk;have ho:=aH (fC.aP X a7 P) (by have h1:=J.out;have h2:=P.out;omega:w.heap.size≤_);exact bodyPost_ret (gJ rfl (y.row (aN b) _) true _ rfl rfl) rfl (dW (u:={aN b with aF:=walk ay [] T2}) a6 (below_setRow a2 J _) ho)
     |false=>
      have a6:Hid (O=some {aN b with aF:=walk ay (b.aF.take 1) T2}):=by show _=_;rw[b0.out,k1.out,hnr,hbg,if_pos (by simp)]
      have b5:=h8 T2;rw[hbg]at b5;have e8:=hid b5;rw[hnr]at f2;clear hnr hbg;go_wp2_with fail
      refine(f2 _).mono ?_;rintro e wx ⟨rfl,z⟩;obtain rfl:w6=wx:=by first|exact z|exact z.symm
      clear z;go_wp2_with fail
      refine(e8 _ (by omega)).mono ?_;rintro e wx ⟨rfl,z⟩;obtain rfl:w6=wx:=by first|exact z|exact z.symm
      clear z;have j1:dV w6 (some ⟨bb,g9,none⟩) 1 ((b.aF.take 1).map Value.string):=by have h:=((HP.1.below a0).upto 1 (by omega));rw[List.map_take];exact h
      have k9:=hid j1;clear j1;have j5:1≤c:=by have:=HP.2.1;omega
      go_wp2_with fail
      refine(f1 (some ⟨bb,g9,none⟩) 1 c (b.aF.take 1) T2 _ k9 j5 HP.2.2 (by omega)).mono ?_;rintro e w7 ⟨q,rfl,g,f⟩;obtain⟨D,B,rfl,hq⟩:=bV (u:={U0 with aF:=walk ay (b.aF.take 1) T2}) g;clear hq;replace g:=aH g (Nat.le_refl _);have b3:Hid (Q.heap.size<w6.heap.size):=r.lt;have P:Hid (w.heap.size<w6.heap.size):=C.lt;have W:=hid (Y.below f);have E:=hid (C.below f);have j:=hid (r.below f);have Z:=hid (bD a0 f);have N:=hid g;clear g;clear f;have a8:=b3.out;have cx:=j.facts.2.2.2.2.2.2.2.2.1;have fx:=j.thaw.2.2.2.2.2.2.2.2.1;go_upto_region 18 with(fail)
      have H:=W.set (k:=Q.heap.size) (i:=8) (.slice D (walk ay (b.aF.take 1) T2).length B) (G);have s:=E.set (k:=Q.heap.size) (i:=8) (.slice D (walk ay (b.aF.take 1) T2).length B) (F);have m:=j.path (.slice D (walk ay (b.aF.take 1) T2).length B);have I:=fC.aP (w':=w7.setCell ⟨Q.heap.size,8,none⟩ (.slice D (walk ay (b.aF.take 1) T2).length B)) (gb:=Q.heap.size) N (fun k hk=>heap_setCell_other _ _ _ _ hk) (by omega);have hb:=Z.setCell (p:=⟨Q.heap.size,8,none⟩) (a1) (.slice D (walk ay (b.aF.take 1) T2).length B);clear cx fx;generalize World.setCell w7 _ _=w8 at H s m I hb⊢;clear H;have y:Hid (UB w8 (w.heap.size) (U0) (.slice none 0 0)):=s;clear s;have V:Hid (UB w8 (Q.heap.size) (aN b) (.slice D (walk ay (b.aF.take 1) T2).length B)):=m;clear m;have X:=hid I;clear I;have a2:=hid hb;clear hb;clear a8;obtain⟨c0,c1,g3,c3,c4,c5,c6,c7,c8,c9,g6,g5,g4⟩:=V.facts;go_wp2_with (refine aI y (aN b) D (walk ay (b.aF.take 1) T2).length B (.tmp 4) (.tmp 72) rfl rfl rfl rfl ?_)
      have a7:∀k,k≠w.heap.size→(World.setRow w8 (w.heap.size) (cells (aN b) (.slice D (walk ay (b.aF.take 1) T2).length B))).heap[k]?=w8.heap[k]?:=fun k hk=>setRow_other _ _ _ _ hk;have ho:=aH (fC.aP X a7 P) (by have h1:=J.out;have h2:=P.out;omega:w.heap.size≤_);exact bodyPost_ret (gJ rfl (y.row (aN b) _) true _ rfl rfl) rfl (dW (u:={aN b with aF:=walk ay (b.aF.take 1) T2}) a6 (below_setRow a2 J _) ho)
 | false=>
  have j9:Hid (O=if T=[]then some (along (aN b) b)else some {aN b with aF:=walk ay (if pz T=true then[]else iW true b.aF) T}):=by show _=_;rw[HO.out,if_neg (by simp),if_neg (by simp)]
  go_upto_region 4 with(fail)
  generalize hw:World.alloc w2 _=Q;have h1:UB Q (w2.heap.size) (uF) (.slice none 0 0)∧Below w2.heap.size w2 Q:=by
   subst hw;exact jd w2 _ _
  clear hw;have f7:=e7.lt;have G:Hid (gb≠w2.heap.size):=by show _≠_;omega
  clear f7;have i1:=e4.lt;have F:Hid (w.heap.size≠w2.heap.size):=by show _≠_;omega
  clear i1;have a1:Hid (w.heap.size≤w2.heap.size):=g8.size;have b9:=hid (e7.below h1.2);have a5:=hid (e4.below h1.2);have a3:=hid (bD g8 h1.2);have i3:=hid h1.1;clear h1;go_upto_region 6 with(fail)
  refine iE (by kernel_rfl) (fun L _ wq=>Hb w w2.heap.size w.heap.size gb b (.slice A n c) L wq) [pg gb 0,pg gb 0,is (.agg (cells b (.slice A n c))),is (.agg (cells (aN b) (.slice none 0 0))),pg gb 0,pg gb 0,pg gb 8,is (.slice A n c),any,is (.slice A n c)] [[],[0],[1],[2],[],[4],[5],[6],[3],[7]] (by kernel_rfl) (by repeat (first|exact oG|refine qQ _ ?_|refine oD ?_)) ?_ ?_ ?_
  ·exact fun t=>⟨i3,a5,b9,a3.drew,F,G,a1⟩
  ·refine ⟨?_,?_,?_,?_,?_,?_,?_,?_,?_,?_,trivial⟩;all_goals(intro L t wq hG hL hC hN hh K hK;simp only[iD,Act.put,Nat.reduceAdd,Nat.reduceEqDiff,reduceIte]at hh hK⊢;(try simp only[hh]at hK⊢);clear hh)
   iterate 2
    ·go_simp;exact hK _ _ rfl (rV _ (by decide) aT hG)
   ·obtain⟨d0,d1,d2,d3,d4,d5,d6,d7,d8,d9,g2,g1,g0⟩:=hG.2.2.1.facts;go_simp;exact hK _ _ rfl (rV 2 (by decide) aT hG)
   ·go_simp;refine(uH b (.slice A n c) _).mono ?_;rintro e w9 ⟨rfl,f8⟩;exact hK _ _ rfl (rV 3 (by decide) f8 hG)
   iterate 3
    ·go_simp;exact hK _ _ rfl (rV _ (by decide) aT hG)
   ·obtain⟨d0,d1,d2,d3,d4,d5,d6,d7,d8,d9,g2,g1,g0⟩:=hG.2.2.1.facts;go_simp;exact hK _ _ rfl (rV 7 (by decide) aT hG)
   ·have f5:=hG.1;simp only[hL,Bool.false_eq_true,reduceIte]at f5;refine wp_store_row 25 (.tmp 6) (.tmp 25) rfl w2.heap.size (cells (aN b) (.slice none 0 0)) rfl rfl 25 _ f5 (by kernel_rfl) rfl (by simp[cells,Value.oneCell']) ?_;exact hK undef _ trivial (hb8 hG)
   ·go_simp;exact hK _ _ rfl (rV _ (by decide) aT hG)
  ·intro Lz t wq hG e0 hh;have f9:=aO hh 9 (by decide);simp only[pick]at f9;replace f9:t 9=(.slice A n c):=f9;clear hh;simp only[iD,Act.put,Nat.reduceAdd,Nat.reduceEqDiff,reduceIte];simp only[f9];obtain⟨m,s,H,hb,_,_,_⟩:=hG;simp only[e0 8 (by decide),reduceIte]at m;have e3:=hid m;have a4:=hid s;have e5:=hid H;have e1:=hid hb;clear m s H hb e0;go_upto_region 8 with(fail)
   go_wp2_with fail
   refine(i7 _).mono ?_;rintro e w5 ⟨rfl,f⟩;have e6:=hid (e5.below f);have a9:=hid (a4.below f);have b7:=hid (e3.below f);have e2:=hid (bD e1 f);clear f;by_cases h0:T=[]
   ·
    have a6:Hid (O=some (along (aN b) b)):=by show _=_;rw[j9.out,if_pos h0]
    have q0:((ah T).toList==[])=true:=by rw[bG,h0];rfl
    have q1:(ah T).toList=[]:=by rw[bG,h0]
    clear h0;go_upto_region 14 with(fail)
    have P:Hid (w.heap.size<w5.heap.size):=a9.lt;refine aV (by kernel_rfl) 5 [is (.agg (cells (aN b) (.slice none 0 0))),pg gb 0,pg gb 0,is (.agg (cells b (.slice A n c))),ML (some (along (aN b) b)) w5.heap.size] [[],[],[1],[1,2],[0,1,2,3],[0,1,2,3,4]] (by kernel_rfl) ?_ ?_
    ·refine ⟨?_,?_,?_,?_,?_,trivial⟩;all_goals(intro t wq c2 hh K hK;simp only[iD,oP,Act.put,Nat.reduceAdd,Nat.reduceEqDiff,reduceIte]at hh hK⊢;(try simp only[hh]at hK⊢);clear hh)
     ·obtain⟨d0,d1,d2,d3,d4,d5,d6,d7,d8,d9,g2,g1,g0⟩:=(b7.below c2).facts;go_simp;exact hK _ _ aT rfl
     iterate 2
      ·go_simp;exact hK _ _ aT rfl
     ·obtain⟨d0,d1,d2,d3,d4,d5,d6,d7,d8,d9,g2,g1,g0⟩:=(e6.below c2).facts;go_simp;exact hK _ _ aT rfl
     ·go_simp;refine(Gq (aN b) b (.slice none 0 0) A n c _ (vP.iC.below HP (bD e2 c2)) (by omega)).mono ?_;rintro e w9 ⟨f8,D,nq,B,rfl,g⟩;exact hK _ _ f8 ⟨D,nq,B,rfl,aH g c2.size⟩
    ·intro t wq c2 hh;have f4:=aO hh 4 (by decide);simp only[pick]at f4;clear hh;simp only[iD,oP,Act.put,Nat.reduceAdd,Nat.reduceEqDiff,reduceIte];obtain⟨A4,n4,c4,f4,j3⟩:=f4;simp only[f4];have a4:=hid (a9.below c2);have e1:=hid (bD e2 c2);have l1:=hid j3;clear j3 c2;refine aI a4 (along (aN b) b) A4 n4 c4 (.tmp 4) (.tmp 64) rfl rfl rfl rfl ?_;go_wp2;have ho:=aH (fC.aP (w':=World.setRow wq w.heap.size (cells (along (aN b) b) (.slice A4 n4 c4))) (gb:=w.heap.size) l1 (fun k hk=>setRow_other _ _ _ _ hk) P) (by have h1:=J.out;have h2:=P.out;omega:w.heap.size≤_);exact bodyPost_ret (gJ rfl (a4.row _ _) true _ rfl rfl) rfl (dW a6 (below_setRow e1 J _) ho)
   ·
    have b0:Hid (O=some {aN b with aF:=walk ay (if pz T=true then[]else iW true b.aF) T}):=by show _=_;rw[j9.out,if_neg h0]
    have q0:((ah T).toList==[])=false:=by rw[bG,beq_eq_false_iff_ne];exact h0
    have q1:¬(ah T).toList=[]:=by rw[bG];exact h0
    have q2:(ah T).toList.isEmpty=false:=by rw[bG];simpa using h0
    clear h0;cases hbg:pz T with
    |true=>
     have b5:=h8 T;rw[hbg]at b5;have e8:=hid b5;have a6:Hid (O=some {aN b with aF:=walk ay [] T}):=by show _=_;rw[b0.out,hbg];rfl
     clear hbg;go_wp2_with fail
     refine(e8 _ (by omega)).mono ?_;rintro e wx ⟨rfl,z⟩;obtain rfl:w5=wx:=by first|exact z|exact z.symm
     clear z;go_wp2_with fail
     refine(f1 none 0 0 ([]) T _ (dV.nil _) (Nat.le_refl _) (Nat.zero_le _) (by omega)).mono ?_;rintro e w6 ⟨q,rfl,g,f⟩;obtain⟨D,B,rfl,hq⟩:=bV (u:={U0 with aF:=walk ay [] T}) g;clear hq;replace g:=aH g (Nat.le_refl _);have b3:Hid (w2.heap.size<w5.heap.size):=b7.lt;have P:Hid (w.heap.size<w5.heap.size):=a9.lt;have Y:=hid (e6.below f);have C:=hid (a9.below f);have r:=hid (b7.below f);have a0:=hid (bD e2 f);have i8:=hid g;clear g;clear f;have a8:=b3.out;have cx:=r.facts.2.2.2.2.2.2.2.2.1;have fx:=r.thaw.2.2.2.2.2.2.2.2.1;go_upto_region 18 with(fail)
     have H:=Y.set (k:=w2.heap.size) (i:=8) (.slice D (walk ay [] T).length B) (G);have s:=C.set (k:=w2.heap.size) (i:=8) (.slice D (walk ay [] T).length B) (F);have m:=r.path (.slice D (walk ay [] T).length B);have I:=fC.aP (w':=w6.setCell ⟨w2.heap.size,8,none⟩ (.slice D (walk ay [] T).length B)) (gb:=w2.heap.size) i8 (fun k hk=>heap_setCell_other _ _ _ _ hk) (by omega);have hb:=a0.setCell (p:=⟨w2.heap.size,8,none⟩) (a1) (.slice D (walk ay [] T).length B);clear cx fx;generalize World.setCell w6 _ _=w7 at H s m I hb⊢;clear H;have E:Hid (UB w7 (w.heap.size) (U0) (.slice none 0 0)):=s;clear s;have j:Hid (UB w7 (w2.heap.size) (aN b) (.slice D (walk ay [] T).length B)):=m;clear m;have N:=hid I;clear I;have Z:=hid hb;clear hb;clear a8;obtain⟨c0,c1,g3,c3,c4,c5,c6,c7,c8,c9,g6,g5,g4⟩:=j.facts;go_wp2_with (refine aI E (aN b) D (walk ay [] T).length B (.tmp 4) (.tmp 72) rfl rfl rfl rfl ?_)
     have a7:∀k,k≠w.heap.size→(World.setRow w7 (w.heap.size) (cells (aN b) (.slice D (walk ay [] T).length B))).heap[k]?=w7.heap[k]?:=fun k hk=>setRow_other _ _ _ _ hk;have ho:=aH (fC.aP N a7 P) (by have h1:=J.out;have h2:=P.out;omega:w.heap.size≤_);exact bodyPost_ret (gJ rfl (E.row (aN b) _) true _ rfl rfl) rfl (dW (u:={aN b with aF:=walk ay [] T}) a6 (below_setRow Z J _) ho)
    |false=>
     have b5:=h8 T;rw[hbg]at b5;have e8:=hid b5;have a6:Hid (O=some {aN b with aF:=walk ay (iW true b.aF) T}):=by show _=_;rw[b0.out,hbg];rfl
     clear hbg;go_wp2_with fail
     refine(e8 _ (by omega)).mono ?_;rintro e wx ⟨rfl,z⟩;obtain rfl:w5=wx:=by first|exact z|exact z.symm
     clear z;go_wp2_with fail
     refine(wZ true A n c b.aF _ (HP.1.below e2) HP.2.1 HP.2.2 (by omega)).mono ?_;rintro e w6 ⟨v,rfl,g,f⟩;obtain⟨A4,c4,rfl,h4,h5,h6⟩:=aS g;have Y:=hid (e6.below f);have C:=hid (a9.below f);have r:=hid (b7.below f);have a0:=hid (bD e2 f);clear f g;have l5:(iW true b.aF).length≤n:=by
      have h:=nI true b.aF;split at h<;>omega
     go_wp2_with fail
     refine(f1 A4 (iW true b.aF).length c4 (iW true b.aF) T _ h6 h4 h5 (by omega)).mono ?_;rintro e w7 ⟨q,rfl,g,f⟩;obtain⟨D,B,rfl,hq⟩:=bV (u:={U0 with aF:=walk ay (iW true b.aF) T}) g;clear hq;replace g:=aH g (Nat.le_refl _);have b3:Hid (w2.heap.size<w6.heap.size):=r.lt;have P:Hid (w.heap.size<w6.heap.size):=C.lt;have W:=hid (Y.below f);have E:=hid (C.below f);have j:=hid (r.below f);have Z:=hid (bD a0 f);have N:=hid g;clear g;clear f;have a8:=b3.out;have cx:=j.facts.2.2.2.2.2.2.2.2.1;have fx:=j.thaw.2.2.2.2.2.2.2.2.1;go_upto_region 18 with(fail)
     have H:=W.set (k:=w2.heap.size) (i:=8) (.slice D (walk ay (iW true b.aF) T).length B) (G);have s:=E.set (k:=w2.heap.size) (i:=8) (.slice D (walk ay (iW true b.aF) T).length B) (F);have m:=j.path (.slice D (walk ay (iW true b.aF) T).length B);have I:=fC.aP (w':=w7.setCell ⟨w2.heap.size,8,none⟩ (.slice D (walk ay (iW true b.aF) T).length B)) (gb:=w2.heap.size) N (fun k hk=>heap_setCell_other _ _ _ _ hk) (by omega);have hb:=Z.setCell (p:=⟨w2.heap.size,8,none⟩) (a1) (.slice D (walk ay (iW true b.aF) T).length B);clear cx fx;generalize World.setCell w7 _ _=w8 at H s m I hb⊢;clear H;have y:Hid (UB w8 (w.heap.size) (U0) (.slice none 0 0)):=s;clear s;have V:Hid (UB w8 (w2.heap.size) (aN b) (.slice D (walk ay (iW true b.aF) T).length B)):=m;clear m;have X:=hid I;clear I;have a2:=hid hb;clear hb;clear a8;obtain⟨c0,c1,g3,c3,c4,c5,c6,c7,c8,c9,g6,g5,g4⟩:=V.facts;go_wp2_with (refine aI y (aN b) D (walk ay (iW true b.aF) T).length B (.tmp 4) (.tmp 72) rfl rfl rfl rfl ?_)
     have a7:∀k,k≠w.heap.size→(World.setRow w8 (w.heap.size) (cells (aN b) (.slice D (walk ay (iW true b.aF) T).length B))).heap[k]?=w8.heap[k]?:=fun k hk=>setRow_other _ _ _ _ hk;have ho:=aH (fC.aP X a7 P) (by have h1:=J.out;have h2:=P.out;omega:w.heap.size≤_);exact bodyPost_ret (gJ rfl (y.row (aN b) _) true _ rfl rfl) rfl (dW (u:={aN b with aF:=walk ay (iW true b.aF) T}) a6 (below_setRow a2 J _) ho)
end acC
namespace acD
open Go.RowKit Base eH bf iH gK aJ yG vP Zl vK yH JR mY uf zf TA Z9 aac acB acC
theorem Jj (p:Parts) (b:U) (gb:Nat) (A:Option Addr) (n c:Nat) (w:World) (hs:p.rest.length≤700000) (hn:n≤100000) (hB:UB w gb b (.slice A n c)) (hP:iC w b A n c) (hL:oZ w) (hT:Tab.Pow w) (hM:Max w):Calls prog 12 #[.agg (fQ p),.pointer (some ⟨gb,0,none⟩)] w (l7 w (aJ.resolve p (some b))):=by
 obtain⟨s,D,q,f,hq,hf⟩:=p;simp only at hs;obtain⟨O,hO⟩:∃O,O=aJ.resolve ⟨s,D,q,f,hq,hf⟩ (some b):=⟨_,rfl⟩;rw[←hO];unfold aJ.resolve at hO;simp only at hO;have HO:=hid hO;have b7:Hid (∀w:World,Calls prog 29 #[.string (ah s)] w fun e w'=>e=.returned (.bool (aj s))∧w'=w):=fun w=>jC (ah s) w;have g3:Hid (∀w:World,oZ w→Tab.Pow w→Max w→Calls prog 35 #[.agg (fQ ⟨s,D,q,f,hq,hf⟩)] w (l7 w (aJ.plain ⟨s,D,q,f,hq,hf⟩))):=fun w a c d=>Hy ⟨s,D,q,f,hq,hf⟩ w (by show D.length≤_;omega) a c d;have g4:Hid (∀w:World,oZ w→Tab.Pow w→Max w→Calls prog 28 #[.string (ah D),.pointer none] w (l7 w (file D none))):=fun w a c d=>G5 D w hs a c d;have e6:Hid (∀w:World,Calls prog 34 #[.string (ah s)] w fun e w'=>e=.returned (.string (cs (aj s)))∧w'=w):=fun w=>oN (ah s) w;have e3:Hid (∀w:World,Calls prog 33 #[.string (ah D),.string (cs true)] w fun e w'=>e=.returned (.string (ah (D.dropWhile (bW true))))∧Below w.heap.size w w'):=fun w=>uY D w;obtain⟨T2,c0⟩:∃x,x=D.dropWhile (bW true):=⟨_,rfl⟩;have f1:T2.length≤900000:=by rw[c0];have:=(List.dropWhile_sublist (bW true) (l:=D)).length_le;omega
 rw[←c0]at e3 HO;obtain⟨OA,c3⟩:∃x,x=authority s T2:=⟨_,rfl⟩;have g2:Hid (∀w:World,oZ w→Tab.Pow w→Max w→Calls prog 32 #[.string (ah s),.string (ah T2)] w (l7 w OA)):=fun w a b c=>by rw[c3];exact nR s T2 w f1 a b c
 rw[←c3]at HO;have HL:=hid hL;have HT:=hid hT;have HM:=hid hM;clear hO c0 c3 hL hT hM;have g1:Hid (∀w:World,UB w gb b (.slice A n c)→iC w b A n c→oZ w→Tab.Pow w→Max w→Calls prog 28 #[.string (ah D),.pointer (some ⟨gb,0,none⟩)] w (l7 w (file D (some b)))):=fun w h1 h2 a d e=>Q8 D b gb A n c w hs hn h1 h2 a d e;obtain⟨V,c1⟩:∃x,x=dS D b:=⟨_,rfl⟩;have f8:Hid (∀w:World,iC w b A n c→oZ w→Tab.Pow w→Max w→Calls prog 31 #[.string (ah D),.agg (cells b (.slice A n c))] w (l7 w V)):=fun w h a d e=>by rw[c1];exact Ji D b A n c w hs hn h a d e
 obtain⟨OO,c2⟩:∃x,x=aJ.jk ⟨s,D,q,f,hq,hf⟩ b:=⟨_,rfl⟩;have a1:Hid (∀w:World,iC w b A n c→Calls prog 36 #[.agg (fQ ⟨s,D,q,f,hq,hf⟩),.agg (cells b (.slice A n c))] w (l7 w OO)):=fun w h=>by rw[c2];exact I5 ⟨s,D,q,f,hq,hf⟩ b A n c w hn h
 rw[←c1,←c2]at HO;obtain⟨a2,b9⟩:∃x,x=Lib.hasPrefix D [47,47]:=⟨_,rfl⟩;have g0:Hid (∀w:World,Calls prog 30 #[.string (ah D),.string ⟨#[47,47]⟩] w fun e w'=>e=.returned (.bool a2)∧w'=w):=fun w=>by rw[b9];exact strings_HasPrefix (ah D) ⟨#[47,47]⟩ w
 rw[←b9]at HO;have HP:=hid hP;have f4:=hid hB;clear c1 c2 b9 hP hB;go_enter func12,ntmps12;go_upto_region 1 with(fail)
 generalize hw:World.alloc (World.alloc w _) _=w1;have h1:PB w1 (w.heap.size) (⟨s,D,q,f,hq,hf⟩)∧UB w1 ((w.heap.size+1)) (U0) (.slice none 0 0)∧Below w.heap.size w w1:=by
  subst hw;exact EH w _ _ _ _
 clear hw;have B:Hid (w.heap.size≤(w.heap.size+1)):=Nat.le_succ _;have v:=hid h1.1;have m:=hid h1.2.1;have j:=hid h1.2.2;have F:=hid (f4.below h1.2.2);clear h1;obtain⟨p0,p1,p2,p3,p4,p5⟩:=v.facts;obtain⟨d0,d1,d2,d3,d4,d5,d6,d7,d8,d9,Z,Y,X⟩:=F.facts;by_cases hs1:s=ay
 ·
  have e0:((ah s).toList==[102,105,108,101])=true:=by rw[bG,hs1];first|done|rfl
  have c7:(ah s).toList=[102,105,108,101]:=by rw[bG,hs1];first|done|rfl
  by_cases hb1:b.au=ay
  ·
   have I:Hid (O=file D (some b)):=by
    show _=_;rw[HO.out,if_pos hs1];first|(rw[if_pos hb1];done)|(show file D (if decide (b.au=ay)=true then some b else none)=_;rw[if_pos (decide_eq_true hb1)])|(congr 1;simp[Option.filter,hb1])|(trace_state;simp_all)
   have a8:((ah b.au).toList==[102,105,108,101])=true:=by rw[bG,hb1];first|done|rfl
   have a7:(ah b.au).toList=[102,105,108,101]:=by rw[bG,hb1];first|done|rfl
   clear hs1 hb1;go_wp2_with fail
   refine(g1 _ F (vP.iC.below HP j) (HL.below j) (cZ HT j) (HM.below j)).mono ?_;rintro e w2 ⟨L,u',A',n',c',ok,rfl,G,Q⟩;have z:Hid ((w.heap.size+1)<w1.heap.size):=m.lt;have a9:=hid G;have a1:=hid Q;clear G Q;have r:=hid (m.below L);have T:=hid (bD j L);have b0:Hid (w.heap.size≤w1.heap.size):=j.size;clear L;go_wp2_with (refine aI r u' A' n' c' (.tmp 4) (.tmp 23) rfl rfl rfl rfl ?_)
   exact bodyPost_ret (gJ rfl (r.row u' _) ok _ rfl rfl) rfl ⟨below_setRow T B _,u',A',n',c',ok,rfl,(a9.row z _).base b0,by rw[I.out];exact a1⟩
  ·
   have I:Hid (O=file D none):=by
    show _=_;rw[HO.out,if_pos hs1];first|(rw[if_neg hb1];done)|(show file D (if decide (b.au=ay)=true then some b else none)=_;rw[if_neg (by simpa using hb1)])|(congr 1;simp[Option.filter,hb1])|(trace_state;simp_all)
   have a8:((ah b.au).toList==[102,105,108,101])=false:=by rw[bG,beq_eq_false_iff_ne];exact hb1
   have a7:¬(ah b.au).toList=[102,105,108,101]:=by rw[bG];exact hb1
   clear hs1 hb1;go_wp2_with fail
   refine(g4 _ (HL.below j) (cZ HT j) (HM.below j)).mono ?_;rintro e w2 ⟨L,u',A',n',c',ok,rfl,G,Q⟩;have z:Hid ((w.heap.size+1)<w1.heap.size):=m.lt;have a9:=hid G;have a1:=hid Q;clear G Q;have r:=hid (m.below L);have T:=hid (bD j L);have b0:Hid (w.heap.size≤w1.heap.size):=j.size;clear L;go_wp2_with (refine aI r u' A' n' c' (.tmp 4) (.tmp 23) rfl rfl rfl rfl ?_)
   exact bodyPost_ret (gJ rfl (r.row u' _) ok _ rfl rfl) rfl ⟨below_setRow T B _,u',A',n',c',ok,rfl,(a9.row z _).base b0,by rw[I.out];exact a1⟩
 ·
  have e0:((ah s).toList==[102,105,108,101])=false:=by rw[bG,beq_eq_false_iff_ne];exact hs1
  have c7:¬(ah s).toList=[102,105,108,101]:=by rw[bG];exact hs1
  cases hsp:aj s with
  | true =>
   have b3:Hid (O=if b.au=s∧a2=false then V else OA):=by show _=_;rw[HO.out,if_neg hs1,if_pos hsp]
   rw[hsp]at b7 e6;clear hsp hs1;go_wp2_with fail
   refine(b7 _).mono ?_;rintro e wx ⟨rfl,a5⟩;obtain rfl:w1=wx:=by first|exact a5|exact a5.symm
   clear a5;clear p0 p1 p2 p3 p4 p5;clear d0 d1 d2 d3 d4 d5 d6 d7 d8 d9 Z Y X;by_cases hb1:b.au=s
   ·
    have b8:Hid (((ah b.au).toList==(ah s).toList)=true):=by show _=_;rw[hb1];simp
    cases a2 with
    | true=>
     have I:Hid (O=OA):=by show _=_;rw[b3.out,if_neg (by simp)]
     clear hb1;go_upto_region 6 with(fail)
     refine dF (by kernel_rfl) [pg gb 0,is (.bool true),is (.bool true),pg gb 0,pg gb 0,pg gb 0,is (.string (ah b.au)),pg w.heap.size 0,is (.string (ah s)),is (.bool true),is (.bool true),is (.bool true),pg w.heap.size 1,is (.string (ah D)),is (.bool true),is (.bool false),is (.bool false)] [[],[0],[1],[2],[2,3],[2,4],[2,5],[2],[2,7],[2,6,8],[2,9],[10],[11],[11,12],[11,13],[11,14],[11,15]] (by kernel_rfl) ?_ ?_
     ·refine ⟨?_,?_,?_,?_,?_,?_,?_,?_,?_,?_,?_,?_,?_,?_,?_,?_,?_,trivial⟩;all_goals(intro t wq g hh K i;simp only[iD,Act.put,Nat.reduceAdd,Nat.reduceEqDiff,reduceIte]at hh i⊢;(try simp only[hh]at i⊢);clear hh)
      ·go_simp;exact i _ _ aT rfl
      ·go_simp;first|exact i _ _ aT rfl|exact i _ _ aT (jI (by omega) (by omega))
      iterate 4
       ·go_simp;exact i _ _ aT rfl
      ·obtain⟨d0,d1,d2,d3,d4,d5,d6,d7,d8,d9,Z,Y,X⟩:=(F.below g).facts;go_simp;exact i _ _ aT rfl
      ·go_simp;exact i _ _ aT rfl
      ·have hc:=(v.below g).facts.1;go_simp;exact i _ _ aT rfl
      ·have e9:=b8.out;go_simp;exact i _ _ aT rfl
      iterate 3
       ·go_simp;exact i _ _ aT rfl
      ·have hc:=(v.below g).facts.2.1;go_simp;exact i _ _ aT rfl
      ·go_simp;refine(g0 _).mono ?_;rintro e w9 ⟨rfl,a6⟩;subst a6;exact i _ _ aT rfl
      iterate 2
       ·go_simp;exact i _ _ aT rfl
     ·intro t wz g hh;have N:=aO hh 16 (by decide);simp only[pick]at N;replace N:t 16=(.bool false):=N;clear hh;simp only[iD,Act.put,Nat.reduceAdd,Nat.reduceEqDiff,reduceIte];simp only[N];have E:=hid (v.below g);have H:=hid (m.below g);have y:=hid (bD j g);clear g;have z:Hid ((w.heap.size+1)<wz.heap.size):=H.lt;go_upto_region 8 with(fail)
      refine aV (by kernel_rfl) 11 [pg w.heap.size 0,is (.string (ah s)),pg w.heap.size 1,is (.string (ah D)),pg w.heap.size 0,is (.string (ah s)),is (.string (cs true)),is (.string (ah T2)),OJ OA wz.heap.size,ML OA wz.heap.size,is (.bool OA.isSome)] [[],[0],[],[2],[],[4],[4,5],[2,3,4,5,6],[0,1,2,3,4,5,6,7],[0,1,2,3,4,5,6,7,8],[0,1,2,3,4,5,6,7,8],[0,1,2,3,4,5,6,7,8,9,10]] (by kernel_rfl) ?_ ?_
      ·refine⟨?_,?_,?_,?_,?_,?_,?_,?_,?_,?_,?_,trivial⟩;all_goals(intro t wq g hh K i;simp only[iD,oP,Act.put,Nat.reduceAdd,Nat.reduceEqDiff,reduceIte]at hh i⊢)
       ·try simp only[hh]at i⊢
        clear hh;go_simp;exact i _ _ aT rfl
       ·try simp only[hh]at i⊢
        clear hh;have hc:=(E.below g).facts.1;go_simp;exact i _ _ aT rfl
       ·try simp only[hh]at i⊢
        clear hh;go_simp;exact i _ _ aT rfl
       ·try simp only[hh]at i⊢
        clear hh;have hc:=(E.below g).facts.2.1;go_simp;exact i _ _ aT rfl
       ·try simp only[hh]at i⊢
        clear hh;go_simp;exact i _ _ aT rfl
       ·try simp only[hh]at i⊢
        clear hh;have hc:=(E.below g).facts.1;go_simp;exact i _ _ aT rfl
       ·try simp only[hh]at i⊢
        clear hh;go_simp;refine(e6 _).mono ?_;rintro e w9 ⟨rfl,a6⟩;subst a6;exact i _ _ aT rfl
       ·try simp only[hh]at i⊢
        clear hh;go_simp;refine(e3 _).mono ?_;rintro e w9 ⟨rfl,P⟩;exact i _ _ P rfl
       ·try simp only[hh]at i⊢
        clear hh;go_simp;refine(g2 _ (HL.below (bD y g)) (cZ HT (bD y g)) (HM.below (bD y g))).mono ?_;intro e w9 ha;obtain⟨P,A9,n9,c9,rfl,J⟩:=eH.ny ha;exact i _ _ P ⟨A9,n9,c9,rfl,aH J g.size⟩
       ·have e8:=hh.2.2.2.2.2.2.2.2.1;clear hh;obtain⟨A8,n8,c8,e8,b5⟩:=e8;simp only[e8]at i⊢;go_simp;exact i _ _ aT ⟨_,_,_,rfl,b5⟩
       ·have e8:=hh.2.2.2.2.2.2.2.2.1;clear hh;obtain⟨A8,n8,c8,e8,b5⟩:=e8;simp only[e8]at i⊢;go_simp;exact i _ _ aT rfl
      ·intro t wq g hh;have f9:=aO hh 9 (by decide);simp only[pick]at f9;have W:=aO hh 10 (by decide);simp only[pick]at W;replace W:t 10=(.bool OA.isSome):=W;clear hh;simp only[iD,oP,Act.put,Nat.reduceAdd,Nat.reduceEqDiff,reduceIte];obtain⟨A9,n9,c9,f9,J⟩:=f9;simp only[f9,W];have C:=hid (H.below g);have a3:=hid (bD y g);have a0:=hid J;clear J g;refine aI C ((OA).getD U0) A9 n9 c9 (.tmp 4) (.tmp 63) rfl rfl rfl rfl ?_;go_wp2;have ho:=aH (fC.aP (w':=World.setRow wq (w.heap.size+1) (cells ((OA).getD U0) (.slice A9 n9 c9))) (gb:=(w.heap.size+1)) (a0) (fun k hk=>setRow_other _ _ _ _ hk) z) (by have h1:=B.out;have h2:=z.out;omega:w.heap.size≤_);refine bodyPost_ret (gJ rfl (C.row _ _) (OA).isSome _ rfl rfl) rfl ?_;rw[I.out];exact eH.nO (below_setRow a3 B _) ho
    | false=>
     have I:Hid (O=V):=by show _=_;rw[b3.out,if_pos ⟨hb1,rfl⟩]
     clear hb1;go_upto_region 6 with(fail)
     refine dF (by kernel_rfl) [pg gb 0,is (.bool true),is (.bool true),pg gb 0,pg gb 0,pg gb 0,is (.string (ah b.au)),pg w.heap.size 0,is (.string (ah s)),is (.bool true),is (.bool true),is (.bool true),pg w.heap.size 1,is (.string (ah D)),is (.bool false),is (.bool true),is (.bool true)] [[],[0],[1],[2],[2,3],[2,4],[2,5],[2],[2,7],[2,6,8],[2,9],[10],[11],[11,12],[11,13],[11,14],[11,15]] (by kernel_rfl) ?_ ?_
     ·refine ⟨?_,?_,?_,?_,?_,?_,?_,?_,?_,?_,?_,?_,?_,?_,?_,?_,?_,trivial⟩;all_goals(intro t wq g hh K i;simp only[iD,Act.put,Nat.reduceAdd,Nat.reduceEqDiff,reduceIte]at hh i⊢;(try simp only[hh]at i⊢);clear hh)
      ·go_simp;exact i _ _ aT rfl
      ·go_simp;first|exact i _ _ aT rfl|exact i _ _ aT (jI (by omega) (by omega))
      iterate 4
       ·go_simp;exact i _ _ aT rfl
      ·obtain⟨d0,d1,d2,d3,d4,d5,d6,d7,d8,d9,Z,Y,X⟩:=(F.below g).facts;go_simp;exact i _ _ aT rfl
      ·go_simp;exact i _ _ aT rfl
      ·have hc:=(v.below g).facts.1;go_simp;exact i _ _ aT rfl
      ·have e9:=b8.out;go_simp;exact i _ _ aT rfl
      iterate 3
       ·go_simp;exact i _ _ aT rfl
      ·have hc:=(v.below g).facts.2.1;go_simp;exact i _ _ aT rfl
      ·go_simp;refine(g0 _).mono ?_;rintro e w9 ⟨rfl,a6⟩;subst a6;exact i _ _ aT rfl
      iterate 2
       ·go_simp;exact i _ _ aT rfl
     ·intro t wz g hh;have N:=aO hh 16 (by decide);simp only[pick]at N;replace N:t 16=(.bool true):=N;clear hh;simp only[iD,Act.put,Nat.reduceAdd,Nat.reduceEqDiff,reduceIte];simp only[N];have e1:=hid (F.below g);have E:=hid (v.below g);have H:=hid (m.below g);have y:=hid (bD j g);clear g;have z:Hid ((w.heap.size+1)<wz.heap.size):=H.lt;go_upto_region 7 with(fail)
      refine aV (by kernel_rfl) 8 [pg w.heap.size 1,is (.string (ah D)),pg gb 0,pg gb 0,is (.agg (cells b (.slice A n c))),OJ V wz.heap.size,ML V wz.heap.size,is (.bool V.isSome)] [[],[0],[],[2],[2,3],[0,1,2,3,4],[0,1,2,3,4,5],[0,1,2,3,4,5],[0,1,2,3,4,5,6,7]] (by kernel_rfl) ?_ ?_
      ·refine ⟨?_,?_,?_,?_,?_,?_,?_,?_,trivial⟩;all_goals(intro t wq g hh K i;simp only[iD,oP,Act.put,Nat.reduceAdd,Nat.reduceEqDiff,reduceIte]at hh i⊢)
       ·try simp only[hh]at i⊢
        clear hh;go_simp;exact i _ _ aT rfl
       ·try simp only[hh]at i⊢
        clear hh;have hc:=(E.below g).facts.2.1;go_simp;exact i _ _ aT rfl
       iterate 2
        ·try simp only[hh]at i⊢
         clear hh;go_simp;exact i _ _ aT rfl
       ·try simp only[hh]at i⊢
        clear hh;obtain⟨d0,d1,d2,d3,d4,d5,d6,d7,d8,d9,Z,Y,X⟩:=(e1.below g).facts;go_simp;exact i _ _ aT rfl
       ·try simp only[hh]at i⊢
        clear hh;go_simp;refine(f8 _ (vP.iC.below HP (bD y g)) (HL.below (bD y g)) (cZ HT (bD y g)) (HM.below (bD y g))).mono ?_;intro e w9 ha;obtain⟨P,A9,n9,c9,rfl,J⟩:=eH.ny ha;exact i _ _ P ⟨A9,n9,c9,rfl,aH J g.size⟩
       ·have e5:=hh.2.2.2.2.2.1;clear hh;obtain⟨A5,n5,c5,e5,a4⟩:=e5;simp only[e5]at i⊢;go_simp;exact i _ _ aT ⟨_,_,_,rfl,a4⟩
       ·have e5:=hh.2.2.2.2.2.1;clear hh;obtain⟨A5,n5,c5,e5,a4⟩:=e5;simp only[e5]at i⊢;go_simp;exact i _ _ aT rfl
      ·intro t wq g hh;have f6:=aO hh 6 (by decide);simp only[pick]at f6;have f7:=aO hh 7 (by decide);simp only[pick]at f7;replace f7:t 7=(.bool V.isSome):=f7;clear hh;simp only[iD,oP,Act.put,Nat.reduceAdd,Nat.reduceEqDiff,reduceIte];obtain⟨A6,n6,c6,f6,b6⟩:=f6;simp only[f6,f7];have C:=hid (H.below g);have a3:=hid (bD y g);have a0:=hid b6;clear b6 g;refine aI C ((V).getD U0) A6 n6 c6 (.tmp 4) (.tmp 52) rfl rfl rfl rfl ?_;go_wp2;have ho:=aH (fC.aP (w':=World.setRow wq (w.heap.size+1) (cells ((V).getD U0) (.slice A6 n6 c6))) (gb:=(w.heap.size+1)) (a0) (fun k hk=>setRow_other _ _ _ _ hk) z) (by have h1:=B.out;have h2:=z.out;omega:w.heap.size≤_);refine bodyPost_ret (gJ rfl (C.row _ _) (V).isSome _ rfl rfl) rfl ?_;rw[I.out];exact eH.nO (below_setRow a3 B _) ho
   ·
    have b8:Hid (((ah b.au).toList==(ah s).toList)=false):=by show _=_;rw[bG,bG,beq_eq_false_iff_ne];exact hb1
    have I:Hid (O=OA):=by show _=_;rw[b3.out,if_neg (fun h=>hb1 h.1)]
    clear hb1;go_upto_region 6 with(fail)
    refine dF (by kernel_rfl) [pg gb 0,is (.bool true),is (.bool true),pg gb 0,pg gb 0,pg gb 0,is (.string (ah b.au)),pg w.heap.size 0,is (.string (ah s)),is (.bool false),is (.bool false),is (.bool false),is (undef),is (undef),is (undef),is (undef),is (.bool false)] [[],[0],[1],[2],[2,3],[2,4],[2,5],[2],[2,7],[2,6,8],[2,9],[10],[11],[11,12],[11,13],[11,14],[11,15]] (by kernel_rfl) ?_ ?_
    ·refine ⟨?_,?_,?_,?_,?_,?_,?_,?_,?_,?_,?_,?_,?_,?_,?_,?_,?_,trivial⟩;all_goals(intro t wq g hh K i;simp only[iD,Act.put,Nat.reduceAdd,Nat.reduceEqDiff,reduceIte]at hh i⊢;(try simp only[hh]at i⊢);clear hh)
     ·go_simp;exact i _ _ aT rfl
     ·go_simp;first|exact i _ _ aT rfl|exact i _ _ aT (jI (by omega) (by omega))
     iterate 4
      ·go_simp;exact i _ _ aT rfl
     ·obtain⟨d0,d1,d2,d3,d4,d5,d6,d7,d8,d9,Z,Y,X⟩:=(F.below g).facts;go_simp;exact i _ _ aT rfl
     ·go_simp;exact i _ _ aT rfl
     ·have hc:=(v.below g).facts.1;go_simp;exact i _ _ aT rfl
     ·have e9:=b8.out;go_simp;exact i _ _ aT rfl
     iterate 7
      ·go_simp;exact i _ _ aT rfl
    ·intro t wz g hh;have N:=aO hh 16 (by decide);simp only[pick]at N;replace N:t 16=(.bool false):=N;clear hh;simp only[iD,Act.put,Nat.reduceAdd,Nat.reduceEqDiff,reduceIte];simp only[N];have E:=hid (v.below g);have H:=hid (m.below g);have y:=hid (bD j g);clear g;have z:Hid ((w.heap.size+1)<wz.heap.size):=H.lt;go_upto_region 8 with(fail)
     refine aV (by kernel_rfl) 11 [pg w.heap.size 0,is (.string (ah s)),pg w.heap.size 1,is (.string (ah D)),pg w.heap.size 0,is (.string (ah s)),is (.string (cs true)),is (.string (ah T2)),OJ OA wz.heap.size,ML OA wz.heap.size,is (.bool OA.isSome)] [[],[0],[],[2],[],[4],[4,5],[2,3,4,5,6],[0,1,2,3,4,5,6,7],[0,1,2,3,4,5,6,7,8],[0,1,2,3,4,5,6,7,8],[0,1,2,3,4,5,6,7,8,9,10]] (by kernel_rfl) ?_ ?_
     ·refine⟨?_,?_,?_,?_,?_,?_,?_,?_,?_,?_,?_,trivial⟩;all_goals(intro t wq g hh K i;simp only[iD,oP,Act.put,Nat.reduceAdd,Nat.reduceEqDiff,reduceIte]at hh i⊢)
      ·try simp only[hh]at i⊢
       clear hh;go_simp;exact i _ _ aT rfl
      ·try simp only[hh]at i⊢
       clear hh;have hc:=(E.below g).facts.1;go_simp;exact i _ _ aT rfl
      ·try simp only[hh]at i⊢
       clear hh;go_simp;exact i _ _ aT rfl
      ·try simp only[hh]at i⊢
       clear hh;have hc:=(E.below g).facts.2.1;go_simp;exact i _ _ aT rfl
      ·try simp only[hh]at i⊢
       clear hh;go_simp;exact i _ _ aT rfl
      ·try simp only[hh]at i⊢
       clear hh;have hc:=(E.below g).facts.1;go_simp;exact i _ _ aT rfl
      ·try simp only[hh]at i⊢
       clear hh;go_simp;refine(e6 _).mono ?_;rintro e w9 ⟨rfl,a6⟩;subst a6;exact i _ _ aT rfl
      ·try simp only[hh]at i⊢
       clear hh;go_simp;refine(e3 _).mono ?_;rintro e w9 ⟨rfl,P⟩;exact i _ _ P rfl
      ·try simp only[hh]at i⊢
       clear hh;go_simp;refine(g2 _ (HL.below (bD y g)) (cZ HT (bD y g)) (HM.below (bD y g))).mono ?_;intro e w9 ha;obtain⟨P,A9,n9,c9,rfl,J⟩:=eH.ny ha;exact i _ _ P ⟨A9,n9,c9,rfl,aH J g.size⟩
      ·have e8:=hh.2.2.2.2.2.2.2.2.1;clear hh;obtain⟨A8,n8,c8,e8,b5⟩:=e8;simp only[e8]at i⊢;go_simp;exact i _ _ aT ⟨_,_,_,rfl,b5⟩
      ·have e8:=hh.2.2.2.2.2.2.2.2.1;clear hh;obtain⟨A8,n8,c8,e8,b5⟩:=e8;simp only[e8]at i⊢;go_simp;exact i _ _ aT rfl
     ·intro t wq g hh;have f9:=aO hh 9 (by decide);simp only[pick]at f9;have W:=aO hh 10 (by decide);simp only[pick]at W;replace W:t 10=(.bool OA.isSome):=W;clear hh;simp only[iD,oP,Act.put,Nat.reduceAdd,Nat.reduceEqDiff,reduceIte];obtain⟨A9,n9,c9,f9,J⟩:=f9;simp only[f9,W];have C:=hid (H.below g);have a3:=hid (bD y g);have a0:=hid J;clear J g;refine aI C ((OA).getD U0) A9 n9 c9 (.tmp 4) (.tmp 63) rfl rfl rfl rfl ?_;go_wp2;have ho:=aH (fC.aP (w':=World.setRow wq (w.heap.size+1) (cells ((OA).getD U0) (.slice A9 n9 c9))) (gb:=(w.heap.size+1)) (a0) (fun k hk=>setRow_other _ _ _ _ hk) z) (by have h1:=B.out;have h2:=z.out;omega:w.heap.size≤_);refine bodyPost_ret (gJ rfl (C.row _ _) (OA).isSome _ rfl rfl) rfl ?_;rw[I.out];exact eH.nO (below_setRow a3 B _) ho
  | false =>
   have b3:Hid (O=if s≠[]then aJ.plain ⟨s,D,q,f,hq,hf⟩else if b.dK=true then OO else if b.au=ay then file D (some b)else V):=by show _=_;rw[HO.out,if_neg hs1,if_neg (by rw[hsp];simp)]
   rw[hsp]at b7;clear hsp hs1;go_wp2_with fail
   refine(b7 _).mono ?_;rintro e wx ⟨rfl,a5⟩;obtain rfl:w1=wx:=by first|exact a5|exact a5.symm
   clear a5;by_cases h0:s=[]
   ·
    have e7:Hid (O=if b.dK=true then OO else if b.au=ay then file D (some b)else V):=by show _=_;rw[b3.out,if_neg (by simp[h0])]
    have f3:((ah s).toList==[])=true:=by rw[bG,h0];first|done|rfl
    have f2:(ah s).toList=[]:=by rw[bG,h0];first|done|rfl
    clear h0;cases hbo:b.dK with
    | true=>
     have I:Hid (O=OO):=by show _=_;rw[e7.out,if_pos hbo]
     rw[hbo]at d6;clear hbo;go_upto_region 14 with(fail)
     clear p0 p1 p2 p3 p4 p5;clear d0 d1 d2 d3 d4 d5 d6 d7 d8 d9 Z Y X;have z:Hid ((w.heap.size+1)<w1.heap.size):=m.lt;go_upto_region 14 with(fail)
     refine aV (by kernel_rfl) 7 [is (.agg (fQ ⟨s,D,q,f,hq,hf⟩)),pg gb 0,pg gb 0,is (.agg (cells b (.slice A n c))),OJ OO w1.heap.size,ML OO w1.heap.size,is (.bool OO.isSome)] [[],[],[1],[1,2],[0,1,2,3],[0,1,2,3,4],[0,1,2,3,4],[0,1,2,3,4,5,6]] (by kernel_rfl) ?_ ?_
     ·refine ⟨?_,?_,?_,?_,?_,?_,?_,trivial⟩;all_goals(intro t wq g hh K i;simp only[iD,oP,Act.put,Nat.reduceAdd,Nat.reduceEqDiff,reduceIte]at hh i⊢)
      ·try simp only[hh]at i⊢
       clear hh;obtain⟨p0,p1,p2,p3,p4,p5⟩:=(v.below g).facts;go_simp;exact i _ _ aT rfl
      iterate 2
       ·try simp only[hh]at i⊢
        clear hh;go_simp;exact i _ _ aT rfl
      ·try simp only[hh]at i⊢
       clear hh;obtain⟨d0,d1,d2,d3,d4,d5,d6,d7,d8,d9,Z,Y,X⟩:=(F.below g).facts;go_simp;exact i _ _ aT rfl
      ·try simp only[hh]at i⊢
       clear hh;go_simp;refine(a1 _ (vP.iC.below HP (bD j g))).mono ?_;intro e w9 ha;obtain⟨P,A9,n9,c9,rfl,J⟩:=eH.ny ha;exact i _ _ P ⟨A9,n9,c9,rfl,aH J g.size⟩
      ·have e4:=hh.2.2.2.2.1;clear hh;obtain⟨A4,n4,c4,e4,f0⟩:=e4;simp only[e4]at i⊢;go_simp;exact i _ _ aT ⟨_,_,_,rfl,f0⟩
      ·have e4:=hh.2.2.2.2.1;clear hh;obtain⟨A4,n4,c4,e4,f0⟩:=e4;simp only[e4]at i⊢;go_simp;exact i _ _ aT rfl
     ·intro t wq g hh;have f5:=aO hh 5 (by decide);simp only[pick]at f5;have f6:=aO hh 6 (by decide);simp only[pick]at f6;replace f6:t 6=(.bool OO.isSome):=f6;clear hh;simp only[iD,oP,Act.put,Nat.reduceAdd,Nat.reduceEqDiff,reduceIte];obtain⟨A5,n5,c5,f5,a4⟩:=f5;simp only[f5,f6];have C:=hid (m.below g);have a3:=hid (bD j g);have a0:=hid a4;clear a4 g;refine aI C ((OO).getD U0) A5 n5 c5 (.tmp 4) (.tmp 87) rfl rfl rfl rfl ?_;go_wp2;have ho:=aH (fC.aP (w':=World.setRow wq (w.heap.size+1) (cells ((OO).getD U0) (.slice A5 n5 c5))) (gb:=(w.heap.size+1)) (a0) (fun k hk=>setRow_other _ _ _ _ hk) z) (by have h1:=B.out;have h2:=z.out;omega:w.heap.size≤_);refine bodyPost_ret (gJ rfl (C.row _ _) (OO).isSome _ rfl rfl) rfl ?_;rw[I.out];exact eH.nO (below_setRow a3 B _) ho
    | false=>
     rw[hbo]at d6;by_cases hb1:b.au=ay
     ·
      have I:Hid (O=file D (some b)):=by show _=_;rw[e7.out,if_neg (by rw[hbo];simp),if_pos hb1]
      have a8:((ah b.au).toList==[102,105,108,101])=true:=by rw[bG,hb1];first|done|rfl
      have a7:(ah b.au).toList=[102,105,108,101]:=by rw[bG,hb1];first|done|rfl
      clear hb1 hbo;go_wp2_with fail
      refine(g1 _ F (vP.iC.below HP j) (HL.below j) (cZ HT j) (HM.below j)).mono ?_;rintro e w2 ⟨L,u',A',n',c',ok,rfl,G,Q⟩;have z:Hid ((w.heap.size+1)<w1.heap.size):=m.lt;have a9:=hid G;have a1:=hid Q;clear G Q;have r:=hid (m.below L);have T:=hid (bD j L);have b0:Hid (w.heap.size≤w1.heap.size):=j.size;clear L;go_wp2_with (refine aI r u' A' n' c' (.tmp 4) (.tmp 99) rfl rfl rfl rfl ?_)
      exact bodyPost_ret (gJ rfl (r.row u' _) ok _ rfl rfl) rfl ⟨below_setRow T B _,u',A',n',c',ok,rfl,(a9.row z _).base b0,by rw[I.out];exact a1⟩
     ·
      have I:Hid (O=V):=by show _=_;rw[e7.out,if_neg (by rw[hbo];simp),if_neg hb1]
      have a8:((ah b.au).toList==[102,105,108,101])=false:=by rw[bG,beq_eq_false_iff_ne];exact hb1
      have a7:¬(ah b.au).toList=[102,105,108,101]:=by rw[bG];exact hb1
      clear hb1 hbo;go_upto_region 17 with(fail)
      clear p0 p1 p2 p3 p4 p5;clear d0 d1 d2 d3 d4 d5 d6 d7 d8 d9 Z Y X;have z:Hid ((w.heap.size+1)<w1.heap.size):=m.lt;go_upto_region 17 with(fail)
      refine aV (by kernel_rfl) 8 [pg w.heap.size 1,is (.string (ah D)),pg gb 0,pg gb 0,is (.agg (cells b (.slice A n c))),OJ V w1.heap.size,ML V w1.heap.size,is (.bool V.isSome)] [[],[0],[],[2],[2,3],[0,1,2,3,4],[0,1,2,3,4,5],[0,1,2,3,4,5],[0,1,2,3,4,5,6,7]] (by kernel_rfl) ?_ ?_
      ·refine ⟨?_,?_,?_,?_,?_,?_,?_,?_,trivial⟩;all_goals(intro t wq g hh K i;simp only[iD,oP,Act.put,Nat.reduceAdd,Nat.reduceEqDiff,reduceIte]at hh i⊢)
       ·try simp only[hh]at i⊢
        clear hh;go_simp;exact i _ _ aT rfl
       ·try simp only[hh]at i⊢
        clear hh;have hc:=(v.below g).facts.2.1;go_simp;exact i _ _ aT rfl
       iterate 2
        ·try simp only[hh]at i⊢
         clear hh;go_simp;exact i _ _ aT rfl
       ·try simp only[hh]at i⊢
        clear hh;obtain⟨d0,d1,d2,d3,d4,d5,d6,d7,d8,d9,Z,Y,X⟩:=(F.below g).facts;go_simp;exact i _ _ aT rfl
       ·try simp only[hh]at i⊢
        clear hh;go_simp;refine(f8 _ (vP.iC.below HP (bD j g)) (HL.below (bD j g)) (cZ HT (bD j g)) (HM.below (bD j g))).mono ?_;intro e w9 ha;obtain⟨P,A9,n9,c9,rfl,J⟩:=eH.ny ha;exact i _ _ P ⟨A9,n9,c9,rfl,aH J g.size⟩
       ·have e5:=hh.2.2.2.2.2.1;clear hh;obtain⟨A5,n5,c5,e5,a4⟩:=e5;simp only[e5]at i⊢;go_simp;exact i _ _ aT ⟨_,_,_,rfl,a4⟩
       ·have e5:=hh.2.2.2.2.2.1;clear hh;obtain⟨A5,n5,c5,e5,a4⟩:=e5;simp only[e5]at i⊢;go_simp;exact i _ _ aT rfl
      ·intro t wq g hh;have f6:=aO hh 6 (by decide);simp only[pick]at f6;have f7:=aO hh 7 (by decide);simp only[pick]at f7;replace f7:t 7=(.bool V.isSome):=f7;clear hh;simp only[iD,oP,Act.put,Nat.reduceAdd,Nat.reduceEqDiff,reduceIte];obtain⟨A6,n6,c6,f6,b6⟩:=f6;simp only[f6,f7];have C:=hid (m.below g);have a3:=hid (bD j g);have a0:=hid b6;clear b6 g;refine aI C ((V).getD U0) A6 n6 c6 (.tmp 4) (.tmp 107) rfl rfl rfl rfl ?_;go_wp2;have ho:=aH (fC.aP (w':=World.setRow wq (w.heap.size+1) (cells ((V).getD U0) (.slice A6 n6 c6))) (gb:=(w.heap.size+1)) (a0) (fun k hk=>setRow_other _ _ _ _ hk) z) (by have h1:=B.out;have h2:=z.out;omega:w.heap.size≤_);refine bodyPost_ret (gJ rfl (C.row _ _) (V).isSome _ rfl rfl) rfl ?_;rw[I.out];exact eH.nO (below_setRow a3 B _) ho
   ·
    have I:Hid (O=aJ.plain ⟨s,D,q,f,hq,hf⟩):=by show _=_;rw[b3.out,if_pos h0]
    have f3:((ah s).toList==[])=false:=by rw[bG,beq_eq_false_iff_ne];exact h0
    have f2:¬(ah s).toList=[]:=by rw[bG];exact h0
    have e2:(ah s).toList.isEmpty=false:=by rw[bG];simpa using h0
    clear h0;go_wp2_with fail
    refine(g3 _ (HL.below j) (cZ HT j) (HM.below j)).mono ?_;rintro e w2 ⟨L,u',A',n',c',ok,rfl,G,Q⟩;have z:Hid ((w.heap.size+1)<w1.heap.size):=m.lt;have a9:=hid G;have a1:=hid Q;clear G Q;have r:=hid (m.below L);have T:=hid (bD j L);have b0:Hid (w.heap.size≤w1.heap.size):=j.size;clear L;go_wp2_with (refine aI r u' A' n' c' (.tmp 4) (.tmp 71) rfl rfl rfl rfl ?_)
    exact bodyPost_ret (gJ rfl (r.row u' _) ok _ rfl rfl) rfl ⟨below_setRow T B _,u',A',n',c',ok,rfl,(a9.row z _).base b0,by rw[I.out];exact a1⟩
end acD
namespace TB
open Go.RowKit Base eH bf aJ vP Zl vK mY uf zf MN JL MS acD Iq
theorem yR (T:List UInt8) (b:U) (gb:Nat) (A:Option Addr) (n c:Nat) (w:World) (hs:T.length≤65536) (hn:n≤100000) (hB:UB w gb b (.slice A n c)) (hP:iC w b A n c) (hL:oZ w) (hT:Tab.Pow w) (hM:Max w) (hU:yg w):Calls prog 5 #[.string (ah T),.pointer (some ⟨gb,0,none⟩)] w (acf w (aJ.url T (some b))):=by
 have a8:=su T;obtain⟨C,hC⟩:∃x,x=clean T:=⟨_,rfl⟩;rw[←hC]at a8;obtain⟨p,hp⟩:∃x,x=aJ.apart C:=⟨_,rfl⟩;have a6:=Gu C;rw[←hp]at a6;obtain⟨OR,Y⟩:∃x,x=aJ.resolve p (some b):=⟨_,rfl⟩;obtain⟨OU,X⟩:∃x,x=aJ.url T (some b):=⟨_,rfl⟩;have b0:Hid (OU=OR.map fun u=>aJ.finish u p):=by show _=_;rw[X];unfold aJ.url;rw[←hC,←hp,←Y]
 rw[←X];have e3:Hid (∀w:World,yg w→Calls prog 11 #[.string (ah T)] w fun e w'=>e=.returned (.string (ah C))∧Below w.heap.size w w'):=fun w h=>by rw[hC];exact Gw T w (by omega) h
 have e5:Hid (∀w:World,Max w→Calls prog 10 #[.string (ah C)] w fun e w'=>e=.returned (.agg (fQ p))∧Below w.heap.size w w'):=fun w h=>by rw[hp];exact Gt C w (by omega) h
 have c7:Hid (∀w:World,UB w gb b (.slice A n c)→iC w b A n c→oZ w→Tab.Pow w→Max w→Calls prog 12 #[.agg (fQ p),.pointer (some ⟨gb,0,none⟩)] w (l7 w OR)):=fun w k h2 a d e=>by rw[Y];exact Jj p b gb A n c w (by omega) hn k h2 a d e
 have O:=hid hB;have HP:=hid hP;clear hB hP;have e2:Hid (∀(u:U) (A:Option Addr) (n c:Nat) (w:World),Calls prog 13 #[.agg (cells u (.slice A n c)),.agg (fQ p)] w fun e w'=>e=.returned (.agg (cells (aJ.finish u p) (.slice A n c)))∧Below w.heap.size w w'):=fun u A n c w=>Eo u p A n c w (by omega) (by omega);have e7:¬((ah T).size:Int)>65536:=by rw[ak];omega
 have e6:((ah T).size:Int)≤65536:=by omega
 have HL:=hid hL;have HT:=hid hT;have HM:=hid hM;have c5:=hid hU;clear X Y hp hC hL hT hM hU a6 a8;obtain⟨s,F,q,f,hq,hf⟩:=p;go_enter func5,ntmps5;go_upto_region 1 with(fail)
 generalize hw:World.alloc w _=w1;have k:UB w1 (w.heap.size) (U0) (.slice none 0 0)∧Below w.heap.size w w1:=by
  subst hw;exact jd w _ _
 clear hw;have m:=O.lt;clear m;have N:Hid (w.heap.size≤w.heap.size):=(Below.refl w.heap.size w).size;have a5:=hid (O.below k.2);have V:=hid (bD (Below.refl w.heap.size w) k.2);have a1:=hid k.1;clear k;go_wp2_with fail
 refine(e3 _ (c5.below V)).mono ?_;rintro e w2 ⟨rfl,g⟩;have a4:=hid (a5.below g);have a0:=hid (a1.below g);have Q:=hid (bD V g);clear g;go_wp2_with fail
 refine(e5 _ (HM.below Q)).mono ?_;rintro e w3 ⟨rfl,g⟩;have E:=hid (a4.below g);have y:=hid (a0.below g);have b7:=hid (bD Q g);clear g;rw[show Value.agg (fQ ⟨s,F,q,f,hq,hf⟩)=.agg #[.string (ah s),.string (ah F),.string (ah q),.string (ah f),.bool hq,.bool hf]from rfl];go_upto_region 4 with(fail)
 generalize hw:World.alloc w3 _=w4;have k:PB w4 (w3.heap.size) (⟨s,F,q,f,hq,hf⟩)∧Below w3.heap.size w3 w4:=by
  subst hw;exact jd w3 _ _
 clear hw;have m:=E.lt;clear m;have W:=y.lt;clear W;have D:=hid (E.below k.2);have v:=hid (y.below k.2);have j:=hid (bD b7 k.2);have B:=hid k.1;clear k;obtain⟨p0,p1,p2,p3,p4,p5⟩:=B.facts;go_wp2_with fail
 clear p0 p1 p2 p3 p4 p5;refine(c7 _ D (vP.iC.below HP j) (HL.below j) (cZ HT j) (HM.below j)).mono ?_;rintro e J ⟨g,i,I,G,H,ok,rfl,L,a7⟩;have e0:Hid (w.heap.size<w4.heap.size):=v.lt;have c8:Hid (w.heap.size≤w4.heap.size):=j.size;have a3:=hid (D.below g);have t:=hid (v.below g);have z:=hid (B.below g);have b6:=hid (bD j g);have b3:=hid a7;have a9:=hid (show Own w4 J i I G H from L);clear a7 L;clear g;rw[show Value.agg (cells i (.slice I G H))=.agg #[.string (ah i.au),.string (ah i.bY),.string (ah i.bZ),.string (ah i.aU),.bool i.hh,.int .i64 i.port,.bool i.dK,.string (ah i.txt),.slice I G H,.bool i.hq,.bool i.hf,.string (ah i.bT),.string (ah i.eY)]from rfl];go_upto_region 5 with(fail)
 generalize hw:World.alloc J _=w6;have k:UB w6 (J.heap.size) (i) (.slice I G H)∧Below J.heap.size J w6:=by
  subst hw;exact jd J _ _
 clear hw;have m:=a3.lt;clear m;have W:=t.lt;clear W;have c0:=z.lt;clear c0;have l:=hid (t.below k.2);have a2:=hid (z.below k.2);have P:=hid (bD b6 k.2);have Z:=hid k.1;have e4:=hid k.2;clear k
 skip
 cases ok with
 |false=>
  have c9:Hid (OU=none):=by
   show _=_;rcases b3 with⟨_,h⟩|⟨h,_⟩
   ·cases h
   rw[b0.out,h];rfl
  go_wp2_with (refine aI l U0 none 0 0 (.tmp 4) (.tmp 24) rfl rfl rfl rfl ?_)
  refine bodyPost_ret (LD (u:=U0) (p:=.slice none 0 0) rfl (l.row U0 _) 2 _ rfl rfl) rfl ?_;rw[c9.out];exact⟨below_setRow P N _,none,0,0,rfl,uO _ _ rfl⟩
 |true=>
  have c6:Hid (OU=some (aJ.finish i ⟨s,F,q,f,hq,hf⟩)):=by
   show _=_;rcases b3 with⟨h,_⟩|⟨_,h,_⟩
   ·rw[b0.out,h];rfl
   cases h
  have c1:(aJ.finish i ⟨s,F,q,f,hq,hf⟩).aF=i.aF:=Ep _ _;obtain⟨d0,d1,d2,d3,d4,d5,d6,d7,d8,d9,c4,c3,c2⟩:=Z.facts;obtain⟨p0,p1,p2,p3,p4,p5⟩:=a2.facts;go_wp2_with fail
  clear d0 d1 d2 d3 d4 d5 d6 d7 d8 d9 c4 c3 c2;clear p0 p1 p2 p3 p4 p5
  skip
  have e1:Hid (Below J.heap.size J w6):=e4.out;refine(e2 i I G H _).mono ?_;rintro e w7 ⟨rfl,g⟩;have r:=hid (l.below g);have b5:=hid (bD P g);have b8:=hid g;clear g;have b9:=(a9.below e1).below b8;go_wp2_with (refine aI r (aJ.finish i ⟨s,F,q,f,hq,hf⟩) I G H (.tmp 4) (.tmp 27) rfl rfl rfl rfl ?_)
  have ho:=(b9.row e0 (cells (aJ.finish i ⟨s,F,q,f,hq,hf⟩) (.slice I G H))).base c8;refine bodyPost_ret (LD (u:=aJ.finish i ⟨s,F,q,f,hq,hf⟩) (p:=.slice I G H) rfl (r.row _ _) 0 _ rfl rfl) rfl ?_;rw[c6.out];exact⟨below_setRow b5 N _,I,G,H,rfl,by show Own _ _ (aJ.finish i ⟨s,F,q,f,hq,hf⟩) _ _ _;unfold Own;rw[c1];exact ho⟩
end TB
namespace QA
open Go.RowKit aJ
theorem jB {α:Type} {c:Prop} [Decidable c] {x:Option α} {u:α} (h:(if c then none else x)=some u):¬c∧x=some u:=by
 by_cases hc:c
 ·rw[if_pos hc]at h;cases h
 rw[if_neg hc]at h;exact⟨hc,h⟩
end QA
