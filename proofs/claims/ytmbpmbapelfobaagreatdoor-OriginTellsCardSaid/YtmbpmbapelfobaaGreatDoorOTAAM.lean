/- Lemmas. -/
import Derived.Test.YtmbpmbapelfobaaGreatDoorOTAAL
set_option linter.unusedSimpArgs false
set_option linter.unusedVariables false
set_option maxRecDepth 100000
set_option maxHeartbeats 64000000
namespace Go.Proofs.YtmbpmbapelfobaaGreatDoor
open Tryz
namespace abR
open Go.RowKit Base dJ aV iy mJ Jf jr qU kS pJ vJ aC vH qB pz rV KL U1
theorem Ig (T:List UInt8) (w:World) (hs:T.length≤700000) (hL:pK w) (hT:Tab.Pow w) (hM:Max w):Calls prog 31 #[.string (ah T),.pointer none] w (kZ w (file T none)):=by
 obtain⟨O,hO⟩:∃O,O=file T none:=⟨_,rfl⟩;rw[←hO];obtain⟨s0,a8⟩:∃x,x=iL true T 0:=⟨_,rfl⟩;obtain⟨s1,a7⟩:∃x,x=iL true T 1:=⟨_,rfl⟩;unfold file at hO;rw[←a8,←a7]at hO;have b3:s0=true→1≤T.length:=fun h=>by
  rw[h]at a8;by_cases h2:0<T.length
  ·omega
  rw[sW _ _ _ h2]at a8;cases a8
 have d6:=hid b3;have b9:s1=true→2≤T.length:=fun h=>by
  rw[h]at a7;by_cases h2:1<T.length
  ·omega
  rw[sW _ _ _ h2]at a7;cases a7
 have e5:=hid b9;have d4:Hid (∀w:World,Calls prog 83 #[.string ⟨#[102,105,108,101]⟩,.string (ah T),.int .i64 0] w fun e w'=>e=.returned (.bool s0)∧Below w.heap.size w w'):=fun w=>by rw[a8];exact kD (ah aB) (ah T) 0 w (by omega)
 have f1:Hid (∀w:World,Calls prog 83 #[.string ⟨#[102,105,108,101]⟩,.string (ah T),.int .i64 1] w fun e w'=>e=.returned (.bool s1)∧Below w.heap.size w w'):=fun w=>by rw[a7];exact kD (ah aB) (ah T) 1 w (by omega)
 have HO:=hid hO;have f5:Hid (∀(L:List UInt8) (w:World),L.length≤900000→pK w→Tab.Pow w→Max w→Calls prog 84 #[.string (ah L)] w (kZ w (far L))):=fun L w h a c d=>Qw L w h a c d;have e7:Hid (∀(L:List UInt8) (w:World),L.length≤900000→Calls prog 87 #[.string (ah L)] w fun e w'=>e=.returned (.bool (pR L))∧w=w'):=fun L w h=>Et (ah L) w (dZ (by omega));have d3:Hid (∀(A:Option Addr) (n c:Nat) (l:List ByteArray) (L:List UInt8) (w:World),dW w A n (l.map Value.string)→n≤c→c≤maxLen→n+L.length≤900000→Calls prog 90 #[.string ⟨#[102,105,108,101]⟩,.slice A n c,.string (ah L)] w (ku w.heap.size w (walk aB l L))):=fun A n c l L w h1 h2 h3 h4=>uh (ah aB) A n c l (ah L) w h1 h2 h3 (by rw[ak];exact h4);have HL:=hid hL;have HT:=hid hT;have HM:=hid hM;clear hO a8 a7 b9 b3 hL hT hM;go_enter func31,ntmps31;go_upto_region 1 with(fail)
 generalize hw:World.alloc w _=w1;have h1:UB w1 (w.heap.size) (U0) (.slice none 0 0)∧Below w.heap.size w w1:=by
  subst hw;exact iG w _ _
 clear hw;have G:Hid (w.heap.size≤w.heap.size):=(Below.refl w.heap.size w).size;have e6:=hid (bD (Below.refl w.heap.size w) h1.2);have d2:=hid h1.1;clear h1;go_wp2_with fail
 refine(d4 _).mono ?_;rintro e V ⟨rfl,f⟩;have a4:=hid (d2.below f);have b7:=hid (bD e6 f);clear f;cases s0 with
 | true=>
  go_wp2_with fail
  refine(f1 _).mono ?_;rintro e Y ⟨rfl,f⟩;have z:=hid (a4.below f);have t:=hid (bD b7 f);clear f;cases s1 with
  |true=>
   have e8:=e5 (by simp);have X:Hid (O=far (T.drop 2)):=by show _=_;rw[HO.out,if_pos (by simp)]
   obtain⟨T2,W⟩:∃x,x=T.drop 2:=⟨_,rfl⟩;have c2:(ah T).extract 2 (ah T).size=ah T2:=by rw[kY,W];rfl
   have f0:(2:Int)≤((ah T).size:Int):=by rw[ak];omega
   rw[←W]at X;have d9:T2.length≤800000:=by rw[W,List.length_drop];omega
   clear W e8;go_wp2_with fail
   clear c2;refine(f5 _ _ (by omega) (HL.below t) (cO HT t) (HM.below t)).mono ?_;rintro e w4 ⟨f,u',A',n',c',ok,rfl,g,d8⟩;have P:Hid (w.heap.size<Y.heap.size):=z.lt;have f2:=hid g;have f3:=hid d8;clear g d8;have r:=hid (z.below f);have Q:=hid (bD t f);have f4:Hid (w.heap.size≤Y.heap.size):=t.size;clear f;go_wp2_with (refine aJ r u' A' n' c' (.tmp 4) (.tmp 17) rfl rfl rfl rfl ?_)
   exact bodyPost_ret (gY rfl (r.row u' _) ok _ rfl rfl) rfl ⟨below_setRow Q G _,u',A',n',c',ok,rfl,(f2.row P _).base f4,by rw[X.out];exact f3⟩
  |false=>
   have e9:=d6 (by simp);have X:Hid (O=some {uF with aF:=walk aB [] (T.drop 1)}):=by show _=_;rw[HO.out,if_neg (by simp),if_pos (by simp)];first|done|rfl|(congr 2;simp)
   obtain⟨T2,W⟩:∃x,x=T.drop 1:=⟨_,rfl⟩;have c2:(ah T).extract 1 (ah T).size=ah T2:=by rw[kY,W];rfl
   have f0:(1:Int)≤((ah T).size:Int):=by rw[ak];omega
   rw[←W]at X;have d9:T2.length≤800000:=by rw[W,List.length_drop];omega
   clear W e9;go_upto_region 4 with(fail)
   generalize hw:World.alloc Y _=w4;have h1:UB w4 (Y.heap.size) (uF) (.slice none 0 0)∧Below Y.heap.size Y w4:=by
    subst hw;exact iG Y _ _
   clear hw;have d0:=z.lt;have B:Hid (w.heap.size≠Y.heap.size):=by show _≠_;omega
   clear d0;have a6:Hid (w.heap.size≤Y.heap.size):=t.size;have r:=hid (z.below h1.2);have Q:=hid (bD t h1.2);have H:=hid h1.1;clear h1;go_wp2_with fail
   refine(d4 _).mono ?_;rintro e w5 ⟨rfl,f⟩;have s:=hid (r.below f);have m:=hid (H.below f);have a1:=hid (bD Q f);clear f;go_wp2_with fail
   clear c2;refine(d3 none 0 0 [] T2 _ (dW.nil _) (Nat.le_refl _) (Nat.zero_le _) (by omega)).mono ?_;rintro e w6 ⟨q,rfl,g,f⟩;obtain⟨N,F,rfl,hq⟩:=cZ (u:={U0 with aF:=walk aB [] T2}) g;clear hq;replace g:=aI g (Nat.le_refl _);have b5:Hid (Y.heap.size<w5.heap.size):=m.lt;have P:Hid (w.heap.size<w5.heap.size):=s.lt;have y:=hid (s.below f);have j:=hid (m.below f);have a0:=hid (bD a1 f);have J:=hid g;clear g;clear f;have b0:=b5.out;have cx:=j.facts.2.2.2.2.2.2.2.2.1;have fx:=j.thaw.2.2.2.2.2.2.2.2.1;go_upto_region 18 with(fail)
   have D:=y.set (k:=Y.heap.size) (i:=8) (.slice N (walk aB [] T2).length F) (B);have C:=j.path (.slice N (walk aB [] T2).length F);have E:=fH.aQ (w':=w6.setCell ⟨Y.heap.size,8,none⟩ (.slice N (walk aB [] T2).length F)) (gb:=Y.heap.size) J (fun k hk=>heap_setCell_other _ _ _ _ hk) (by omega);have Z:=a0.setCell (p:=⟨Y.heap.size,8,none⟩) (a6) (.slice N (walk aB [] T2).length F);clear cx fx;generalize World.setCell w6 _ _=w7 at D C E Z⊢;have I:Hid (UB w7 (w.heap.size) (U0) (.slice none 0 0)):=D;clear D;have a3:Hid (UB w7 (Y.heap.size) (uF) (.slice N (walk aB [] T2).length F)):=C;clear C;have a5:=hid E;clear E;have b6:=hid Z;clear Z;clear b0;obtain⟨c0,c1,e0,c3,c4,c5,c6,c7,c8,c9,e3,e2,e1⟩:=a3.facts;go_wp2_with (refine aJ I (uF) N (walk aB [] T2).length F (.tmp 4) (.tmp 72) rfl rfl rfl rfl ?_)
   have a9:∀k,k≠w.heap.size→(World.setRow w7 (w.heap.size) (cells (uF) (.slice N (walk aB [] T2).length F))).heap[k]?=w7.heap[k]?:=fun k hk=>setRow_other _ _ _ _ hk;have ho:=aI (fH.aQ a5 a9 P) (by have h1:=G.out;have h2:=P.out;omega:w.heap.size≤_);exact bodyPost_ret (gY rfl (I.row (uF) _) true _ rfl rfl) rfl (dR (u:={uF with aF:=walk aB [] T2}) X (below_setRow b6 G _) ho)
 |false=>
  have e4:Hid (O=some {uF with aF:=walk aB (if pR T=true then[]else jd true []) T}):=by show _=_;rw[HO.out,if_neg (by simp),if_neg (by simp)]
  go_upto_region 4 with(fail)
  generalize hw:World.alloc V _=Y;have h1:UB Y (V.heap.size) (uF) (.slice none 0 0)∧Below V.heap.size V Y:=by
   subst hw;exact iG V _ _
  clear hw;have d0:=a4.lt;have B:Hid (w.heap.size≠V.heap.size):=by show _≠_;omega
  clear d0;have a6:Hid (w.heap.size≤V.heap.size):=b7.size;have z:=hid (a4.below h1.2);have t:=hid (bD b7 h1.2);have d1:=hid h1.1;clear h1;go_wp2_with fail
  refine(d4 _).mono ?_;rintro e w4 ⟨rfl,f⟩;have r:=hid (z.below f);have H:=hid (d1.below f);have Q:=hid (bD t f);clear f;cases Z:pR T with
  |true=>
   have b8:=e7 T;rw[Z]at b8;have d7:=hid b8;have X:Hid (O=some {uF with aF:=walk aB [] T}):=by show _=_;rw[e4.out,Z];rfl
   clear Z;go_wp2_with fail
   refine(d7 _ (by omega)).mono ?_;rintro e wx ⟨rfl,a2⟩;obtain rfl:w4=wx:=by first|exact a2|exact a2.symm
   clear a2;go_wp2_with fail
   refine(d3 none 0 0 [] T _ (dW.nil _) (Nat.le_refl _) (Nat.zero_le _) (by omega)).mono ?_;rintro e w5 ⟨q,rfl,g,f⟩;obtain⟨N,F,rfl,hq⟩:=cZ (u:={U0 with aF:=walk aB [] T}) g;clear hq;replace g:=aI g (Nat.le_refl _);have b5:Hid (V.heap.size<w4.heap.size):=H.lt;have P:Hid (w.heap.size<w4.heap.size):=r.lt;have s:=hid (r.below f);have m:=hid (H.below f);have a1:=hid (bD Q f);have d5:=hid g;clear g;clear f;have b0:=b5.out;have cx:=m.facts.2.2.2.2.2.2.2.2.1;have fx:=m.thaw.2.2.2.2.2.2.2.2.1;go_upto_region 18 with(fail)
   have D:=s.set (k:=V.heap.size) (i:=8) (.slice N (walk aB [] T).length F) (B);have C:=m.path (.slice N (walk aB [] T).length F);have E:=fH.aQ (w':=w5.setCell ⟨V.heap.size,8,none⟩ (.slice N (walk aB [] T).length F)) (gb:=V.heap.size) d5 (fun k hk=>heap_setCell_other _ _ _ _ hk) (by omega);have Z:=a1.setCell (p:=⟨V.heap.size,8,none⟩) (a6) (.slice N (walk aB [] T).length F);clear cx fx;generalize World.setCell w5 _ _=w6 at D C E Z⊢;have y:Hid (UB w6 (w.heap.size) (U0) (.slice none 0 0)):=D;clear D;have j:Hid (UB w6 (V.heap.size) (uF) (.slice N (walk aB [] T).length F)):=C;clear C;have J:=hid E;clear E;have a0:=hid Z;clear Z;clear b0;obtain⟨c0,c1,e0,c3,c4,c5,c6,c7,c8,c9,e3,e2,e1⟩:=j.facts;go_wp2_with (refine aJ y (uF) N (walk aB [] T).length F (.tmp 4) (.tmp 72) rfl rfl rfl rfl ?_)
   have a9:∀k,k≠w.heap.size→(World.setRow w6 (w.heap.size) (cells (uF) (.slice N (walk aB [] T).length F))).heap[k]?=w6.heap[k]?:=fun k hk=>setRow_other _ _ _ _ hk;have ho:=aI (fH.aQ J a9 P) (by have h1:=G.out;have h2:=P.out;omega:w.heap.size≤_);exact bodyPost_ret (gY rfl (y.row (uF) _) true _ rfl rfl) rfl (dR (u:={uF with aF:=walk aB [] T}) X (below_setRow a0 G _) ho)
  |false=>
   have b8:=e7 T;rw[Z]at b8;have d7:=hid b8;have X:Hid (O=some {uF with aF:=walk aB [] T}):=by show _=_;rw[e4.out,Z];rfl
   clear Z;go_wp2_with fail
   refine(d7 _ (by omega)).mono ?_;rintro e wx ⟨rfl,a2⟩;obtain rfl:w4=wx:=by first|exact a2|exact a2.symm
   clear a2;go_wp2_with fail
   refine(wR true none 0 0 [] _ (dW.nil _) (Nat.le_refl _) (Nat.zero_le _) (by omega)).mono ?_;rintro e w5 ⟨v,rfl,g,f⟩;obtain⟨A4,c4,rfl,h4,h5,h6⟩:=aW g;have s:=hid (r.below f);have m:=hid (H.below f);have a1:=hid (bD Q f);clear f g;rw[show jd true []=[]from rfl]at h4 h6⊢;go_wp2_with fail
   refine(d3 A4 _ c4 [] T _ h6 h4 h5 (by simp;omega)).mono ?_;rintro e w6 ⟨q,rfl,g,f⟩;obtain⟨N,F,rfl,hq⟩:=cZ (u:={U0 with aF:=walk aB [] T}) g;clear hq;replace g:=aI g (Nat.le_refl _);have b5:Hid (V.heap.size<w5.heap.size):=m.lt;have P:Hid (w.heap.size<w5.heap.size):=s.lt;have y:=hid (s.below f);have j:=hid (m.below f);have a0:=hid (bD a1 f);have J:=hid g;clear g;clear f;have b0:=b5.out;have cx:=j.facts.2.2.2.2.2.2.2.2.1;have fx:=j.thaw.2.2.2.2.2.2.2.2.1;go_upto_region 18 with(fail)
   have D:=y.set (k:=V.heap.size) (i:=8) (.slice N (walk aB [] T).length F) (B);have C:=j.path (.slice N (walk aB [] T).length F);have E:=fH.aQ (w':=w6.setCell ⟨V.heap.size,8,none⟩ (.slice N (walk aB [] T).length F)) (gb:=V.heap.size) J (fun k hk=>heap_setCell_other _ _ _ _ hk) (by omega);have Z:=a0.setCell (p:=⟨V.heap.size,8,none⟩) (a6) (.slice N (walk aB [] T).length F);clear cx fx;generalize World.setCell w6 _ _=w7 at D C E Z⊢;have I:Hid (UB w7 (w.heap.size) (U0) (.slice none 0 0)):=D;clear D;have a3:Hid (UB w7 (V.heap.size) (uF) (.slice N (walk aB [] T).length F)):=C;clear C;have a5:=hid E;clear E;have b6:=hid Z;clear Z;clear b0;obtain⟨c0,c1,e0,c3,c4,c5,c6,c7,c8,c9,e3,e2,e1⟩:=a3.facts;go_wp2_with (refine aJ I (uF) N (walk aB [] T).length F (.tmp 4) (.tmp 72) rfl rfl rfl rfl ?_)
   have a9:∀k,k≠w.heap.size→(World.setRow w7 (w.heap.size) (cells (uF) (.slice N (walk aB [] T).length F))).heap[k]?=w7.heap[k]?:=fun k hk=>setRow_other _ _ _ _ hk;have ho:=aI (fH.aQ a5 a9 P) (by have h1:=G.out;have h2:=P.out;omega:w.heap.size≤_);exact bodyPost_ret (gY rfl (I.row (uF) _) true _ rfl rfl) rfl (dR (u:={uF with aF:=walk aB [] T}) X (below_setRow b6 G _) ho)
end abR
namespace UG
open Go.RowKit Base aC
def eu (p:Parts):Array Value:=#[.string (ah p.au),.string (ah p.rest),.string (ah p.bQ),.string (ah p.dY),.bool p.hq,.bool p.hf]
def P0:Parts:=⟨[],[],[],[],false,false⟩
def PB (w:World) (g:Nat) (p:Parts):Prop:=w.heap[g]?=some (.cells (eu p) 40 (0,0))
variable {w w':World} {g:Nat} {p:Parts}
theorem PB.lt (h:PB w g p):g<w.heap.size:=(Array.getElem?_eq_some_iff.1 h).1
theorem PB.below (h:PB w g p) (a:Below w.heap.size w w'):PB w' g p:=(a.block g h.lt).trans h
theorem PB.facts (h:PB w g p):w.cell? ⟨g,0,none⟩=some (.string (ah p.au))∧w.cell? ⟨g,1,none⟩=some (.string (ah p.rest))∧w.cell? ⟨g,2,none⟩=some (.string (ah p.bQ))∧w.cell? ⟨g,3,none⟩=some (.string (ah p.dY))∧w.cell? ⟨g,4,none⟩=some (.bool p.hq)∧w.cell? ⟨g,5,none⟩=some (.bool p.hf):=
 ⟨cell_of_row w g 0 _ _ _ h,cell_of_row w g 1 _ _ _ h,cell_of_row w g 2 _ _ _ h,cell_of_row w g 3 _ _ _ h,cell_of_row w g 4 _ _ _ h,cell_of_row w g 5 _ _ _ h⟩
theorem PB.thaw (h:PB w g p):w.frozen? ⟨g,0,none⟩=false∧w.frozen? ⟨g,1,none⟩=false∧w.frozen? ⟨g,2,none⟩=false∧w.frozen? ⟨g,3,none⟩=false∧w.frozen? ⟨g,4,none⟩=false∧w.frozen? ⟨g,5,none⟩=false:=
 ⟨frozen_of_row w g 0 _ _ h,frozen_of_row w g 1 _ _ h,frozen_of_row w g 2 _ _ h,frozen_of_row w g 3 _ _ h,frozen_of_row w g 4 _ _ h,frozen_of_row w g 5 _ _ h⟩
theorem PB.au (h:PB w g p) (s:List UInt8):PB (w.setCell ⟨g,0,none⟩ (.string (ah s))) g {p with au:=s}:=heap_setCell_same w g 0 _ _ _ h
theorem PB.rest (h:PB w g p) (s:List UInt8):PB (w.setCell ⟨g,1,none⟩ (.string (ah s))) g {p with rest:=s}:=heap_setCell_same w g 1 _ _ _ h
theorem PB.bQ (h:PB w g p) (s:List UInt8):PB (w.setCell ⟨g,2,none⟩ (.string (ah s))) g {p with bQ:=s}:=heap_setCell_same w g 2 _ _ _ h
theorem PB.dY (h:PB w g p) (s:List UInt8):PB (w.setCell ⟨g,3,none⟩ (.string (ah s))) g {p with dY:=s}:=heap_setCell_same w g 3 _ _ _ h
theorem PB.hq (h:PB w g p) (b:Bool):PB (w.setCell ⟨g,4,none⟩ (.bool b)) g {p with hq:=b}:=heap_setCell_same w g 4 _ _ _ h
theorem PB.hf (h:PB w g p) (b:Bool):PB (w.setCell ⟨g,5,none⟩ (.bool b)) g {p with hf:=b}:=heap_setCell_same w g 5 _ _ _ h
theorem PB.set (h:PB w g p) {k i:Nat} (x:Value) (a:g≠k):PB (w.setCell ⟨k,i,none⟩ x) g p:=by
 unfold PB;rw[heap_setCell_other _ _ _ _ a];exact h
theorem PB.row (h:PB w g p) (q:Parts):PB (w.setRow g (eu q)) g q:=setRow_heap w g (eu p) (eu q) _ (0,0) h
theorem wY {ops:Array Oper} {rest:List Oper} {o:Oper} {a:Act} {Q:Exit→Act→World→Prop} (f:PB w g p) (q:Parts) (x y:Operand) (e:o.op=.store 40 x y) (c:o.guard=none)
  (hx:a.eval x=.pointer (some ⟨g,0,none⟩)) (d:a.eval y=.agg (eu q))
  (h:wpList prog ops Q rest (a.put o.dst undef) (w.setRow g (eu q))):wpList prog ops Q (o::rest) a w:=
 wpList_store_row c 40 x y e g (eu q) hx d 40 (eu p) f (by kernel_rfl) rfl (by simp[eu,Value.oneCell']) h
theorem ada {d:Func} {a:Tmp} (h:d.results=#[.cell a 40]) (e:PB w g p) (c:Array Value) (f:c.getD a undef=.pointer (some ⟨g,0,none⟩)):
  (results d c).run prog w=.ok (.agg (eu p)) w:=
 results_cell_row h c w g _ _ _ _ f e underlying40 rfl (by kernel_rfl)
end UG
namespace Gz
open Go.RowKit Base dJ aV fA fJ aC xR qB UG rV vJ
theorem Bh (T:List UInt8) (w:World) (hs:T.length≤1000000) (hM:Max w):Calls prog 11 #[.string (ah T)] w fun e w'=>e=.returned (.agg (eu (aC.apart T)))∧Below w.heap.size w w':=by
 obtain⟨O,L⟩:∃O,O=aC.apart T:=⟨_,rfl⟩;rw[←L];obtain⟨F1,v,t,Q⟩:∃a b c,aT 35 T=(a,b,c):=⟨_,_,_,rfl⟩;obtain⟨y,x,qb,P⟩:∃a b c,aT 63 F1=(a,b,c):=⟨_,_,_,rfl⟩;obtain⟨z,N,cb,V⟩:∃a b c,aT 58 y=(a,b,c):=⟨_,_,_,rfl⟩;have a4:=oK 35 T;have a3:=oK 63 F1;have a2:=oK 58 y;rw[Q]at a4;rw[P]at a3;rw[V]at a2;simp only at a4 a3 a2;unfold aC.apart at L;rw[Q]at L;simp only at L;rw[P]at L;simp only at L;rw[V]at L;simp only at L;have HF:∀w:World,Max w→Calls prog 22 #[.string (ah T),.string ⟨#[35]⟩] w fun e w'=>e=.returned (.tuple #[.string (ah F1),.string (ah v),.bool t])∧Below w.heap.size w w':=fun w ⟨m,hm⟩=>(strings_Cut (ah T) ⟨#[35]⟩ m w (by rw[ak];omega) hm).mono fun e w' ⟨E,q,h2⟩=>⟨by rw[E,show(ah T).data.toList=T from rfl,show(⟨#[35]⟩:ByteArray).data.toList=[35]from rfl,vX,Q];rfl,by rw[h2];exact Base.below_drewN (Below.refl _ _) _⟩;have HQ:∀w:World,Max w→Calls prog 22 #[.string (ah F1),.string ⟨#[63]⟩] w fun e w'=>e=.returned (.tuple #[.string (ah y),.string (ah x),.bool qb])∧Below w.heap.size w w':=fun w ⟨m,hm⟩=>(strings_Cut (ah F1) ⟨#[63]⟩ m w (by rw[ak];omega) hm).mono fun e w' ⟨E,q,h2⟩=>⟨by rw[E,show(ah F1).data.toList=F1 from rfl,show(⟨#[63]⟩:ByteArray).data.toList=[63]from rfl,vX,P];rfl,by rw[h2];exact Base.below_drewN (Below.refl _ _) _⟩;have HC:∀w:World,Max w→Calls prog 22 #[.string (ah y),.string ⟨#[58]⟩] w fun e w'=>e=.returned (.tuple #[.string (ah z),.string (ah N),.bool cb])∧Below w.heap.size w w':=fun w ⟨m,hm⟩=>(strings_Cut (ah y) ⟨#[58]⟩ m w (by rw[ak];omega) hm).mono fun e w' ⟨E,q,h2⟩=>⟨by rw[E,show(ah y).data.toList=y from rfl,show(⟨#[58]⟩:ByteArray).data.toList=[58]from rfl,vX,V];rfl,by rw[h2];exact Base.below_drewN (Below.refl _ _) _⟩;have d8:=hid HF;have d6:=hid HQ;have d9:=hid HC;have X:Hid (∀w:World,Calls prog 23 #[.string (ah z)] w fun e w'=>e=.returned (.bool (iY z))∧w'=w):=fun w=>Jy (ah z) w (dZ (by omega));have d7:Hid (∀w:World,Calls prog 24 #[.string (ah z)] w fun e w'=>e=.returned (.string (ah (lower z)))∧Below w.heap.size w w'):=fun w=>jQ (ah z) w (by rw[ak];unfold maxLen;omega);have HO:=hid L;have HM:=hid hM;clear Q P V L hM a4 a3 a2;go_enter func11,ntmps11;go_upto_region 1 with(fail)
 generalize hw:World.alloc w _=w1;have E:PB w1 (w.heap.size) (P0)∧Below w.heap.size w w1:=by
  subst hw;exact iG w _ _
 clear hw;have G:Hid (w.heap.size≤w.heap.size):=(Below.refl w.heap.size w).size;have a1:=hid (bD (Below.refl w.heap.size w) E.2);have H:=hid E.1;clear E;go_upto_region 2 with(fail)
 generalize hw:World.alloc w1 _=w2;have E:PB w2 (w1.heap.size) (P0)∧Below w1.heap.size w1 w2:=by
  subst hw;exact iG w1 _ _
 clear hw;have c5:=H.lt;have f:Hid (w.heap.size≠w1.heap.size):=by show _≠_;omega
 clear c5;have j:Hid (w.heap.size≤w1.heap.size):=a1.size;have b9:=hid (H.below E.2);have a0:=hid (bD a1 E.2);have a9:=hid E.1;clear E;go_wp2_with fail
 refine(d8 _ (HM.below a0)).mono ?_;rintro e w3 ⟨rfl,d⟩;have b8:=hid (b9.below d);have r:=hid (a9.below d);have c4:=hid (bD a0 d);clear d;have d3:=r.facts.2.2.2.1;have c8:=r.thaw.2.2.2.1;have d1:=r.facts.2.2.2.2.2;have c6:=r.thaw.2.2.2.2.2;go_upto_region 3 with(fail)
 have h:=((b8.set (k:=w1.heap.size) (i:=3) (.string (ah v)) f).set (k:=w1.heap.size) (i:=5) (.bool t) f);have g:=((r.dY v).hf t);have B:=((c4.setCell (p:=⟨w1.heap.size,3,none⟩) j (.string (ah v))).setCell (p:=⟨w1.heap.size,5,none⟩) j (.bool t));clear d3 c8 d1 c6;generalize (World.setCell (World.setCell w3 ⟨w1.heap.size,3,none⟩ (.string (ah v))) ⟨w1.heap.size,5,none⟩ (.bool t))=w4 at h g B⊢;have b7:Hid (PB w4 (w.heap.size) (P0)):=h;clear h;have a8:Hid (PB w4 (w1.heap.size) ({P0 with dY:=v,hf:=t})):=g;clear g;have Z:=hid B;clear B;go_wp2_with fail
 refine(d6 _ (HM.below Z)).mono ?_;rintro e w5 ⟨rfl,d⟩;have b6:=hid (b7.below d);have n:=hid (a8.below d);have c3:=hid (bD Z d);clear d;have d4:=n.facts.2.2.1;have c9:=n.thaw.2.2.1;have d2:=n.facts.2.2.2.2.1;have c7:=n.thaw.2.2.2.2.1;go_upto_region 4 with(fail)
 have h:=((b6.set (k:=w1.heap.size) (i:=2) (.string (ah x)) f).set (k:=w1.heap.size) (i:=4) (.bool qb) f);have g:=((n.bQ x).hq qb);have B:=((c3.setCell (p:=⟨w1.heap.size,2,none⟩) j (.string (ah x))).setCell (p:=⟨w1.heap.size,4,none⟩) j (.bool qb));clear d4 c9 d2 c7;generalize (World.setCell (World.setCell w5 ⟨w1.heap.size,2,none⟩ (.string (ah x))) ⟨w1.heap.size,4,none⟩ (.bool qb))=w6 at h g B⊢;have b5:Hid (PB w6 (w.heap.size) (P0)):=h;clear h;have D:Hid (PB w6 (w1.heap.size) ({P0 with dY:=v,hf:=t,bQ:=x,hq:=qb})):=g;clear g;have c2:=hid B;clear B;have a6:=D.facts.2.1;have a5:=D.thaw.2.1;go_upto_region 5 with(fail)
 have h:=(b5.set (k:=w1.heap.size) (i:=1) (.string (ah y)) f);have g:=(D.rest y);have B:=(c2.setCell (p:=⟨w1.heap.size,1,none⟩) j (.string (ah y)));clear a6 a5;generalize (World.setCell w6 ⟨w1.heap.size,1,none⟩ (.string (ah y)))=w7 at h g B⊢;have b3:Hid (PB w7 (w.heap.size) (P0)):=h;clear h;have a7:Hid (PB w7 (w1.heap.size) ({P0 with dY:=v,hf:=t,bQ:=x,hq:=qb,rest:=y})):=g;clear g;have Y:=hid B;clear B;go_wp2_with fail
 refine(d9 _ (HM.below Y)).mono ?_;rintro e w8 ⟨rfl,d⟩;have s:=hid (b3.below d);have C:=hid (a7.below d);have J:=hid (bD Y d);clear d;cases cb with
 |false=>
  have I:Hid (O=⟨[],y,x,v,qb,t⟩):=by show _=_;rw[HO.out];first|done|rfl|simp
  obtain⟨p0,p1,p2,p3,p4,p5⟩:=C.facts;go_wp2_with (refine wY s ({P0 with dY:=v,hf:=t,bQ:=x,hq:=qb,rest:=y}) (.tmp 2) (.tmp 41) rfl rfl rfl rfl ?_)
  exact bodyPost_ret (ada (p:={P0 with dY:=v,hf:=t,bQ:=x,hq:=qb,rest:=y}) rfl (s.row ({P0 with dY:=v,hf:=t,bQ:=x,hq:=qb,rest:=y})) _ rfl) rfl ⟨by rw[I.out];first|done|rfl,below_setRow J G _⟩
 |true=>
  cases hi:iY z with
  |false=>
   have I:Hid (O=⟨[],y,x,v,qb,t⟩):=by show _=_;rw[HO.out,hi];first|done|rfl|simp
   rw[hi]at X;clear hi;go_wp2_with fail
   refine(X _).mono ?_;rintro e wx ⟨rfl,A⟩;obtain rfl:w8=wx:=by first|exact A|exact A.symm
   clear A;obtain⟨p0,p1,p2,p3,p4,p5⟩:=C.facts;go_wp2_with (refine wY s ({P0 with dY:=v,hf:=t,bQ:=x,hq:=qb,rest:=y}) (.tmp 2) (.tmp 41) rfl rfl rfl rfl ?_)
   exact bodyPost_ret (ada (p:={P0 with dY:=v,hf:=t,bQ:=x,hq:=qb,rest:=y}) rfl (s.row ({P0 with dY:=v,hf:=t,bQ:=x,hq:=qb,rest:=y})) _ rfl) rfl ⟨by rw[I.out];first|done|rfl,below_setRow J G _⟩
  |true=>
   have I:Hid (O=⟨lower z,N,x,v,qb,t⟩):=by show _=_;rw[HO.out,hi];first|done|rfl|simp
   rw[hi]at X;clear hi;go_wp2_with fail
   refine(X _).mono ?_;rintro e wx ⟨rfl,A⟩;obtain rfl:w8=wx:=by first|exact A|exact A.symm
   clear A;go_wp2_with fail
   refine(d7 _).mono ?_;rintro e w9 ⟨rfl,d⟩;have b0:=hid (s.below d);have l:=hid (C.below d);have c1:=hid (bD J d);clear d;have d5:=l.facts.1;have d0:=l.thaw.1;have a6:=l.facts.2.1;have a5:=l.thaw.2.1;go_upto_region 8 with(fail)
   have h:=((b0.set (k:=w1.heap.size) (i:=0) (.string (ah (lower z))) f).set (k:=w1.heap.size) (i:=1) (.string (ah N)) f);have g:=((l.au (lower z)).rest N);have B:=((c1.setCell (p:=⟨w1.heap.size,0,none⟩) j (.string (ah (lower z)))).setCell (p:=⟨w1.heap.size,1,none⟩) j (.string (ah N)));clear d5 d0 a6 a5;generalize (World.setCell (World.setCell w9 ⟨w1.heap.size,0,none⟩ (.string (ah (lower z)))) ⟨w1.heap.size,1,none⟩ (.string (ah N)))=w10 at h g B⊢;have F:Hid (PB w10 (w.heap.size) (P0)):=h;clear h;have W:Hid (PB w10 (w1.heap.size) ({P0 with dY:=v,hf:=t,bQ:=x,hq:=qb,rest:=N,au:=lower z})):=g;clear g;have c0:=hid B;clear B;obtain⟨p0,p1,p2,p3,p4,p5⟩:=W.facts;go_wp2_with (refine wY F ({P0 with dY:=v,hf:=t,bQ:=x,hq:=qb,rest:=N,au:=lower z}) (.tmp 2) (.tmp 41) rfl rfl rfl rfl ?_)
   exact bodyPost_ret (ada (p:={P0 with dY:=v,hf:=t,bQ:=x,hq:=qb,rest:=N,au:=lower z}) rfl (F.row ({P0 with dY:=v,hf:=t,bQ:=x,hq:=qb,rest:=N,au:=lower z})) _ rfl) rfl ⟨by rw[I.out];first|done|rfl,below_setRow c0 G _⟩
theorem yF (u:U) (p:Parts) (A:Option Addr) (n c:Nat) (w:World) (L:p.bQ.length≤1000000) (h2:p.dY.length≤1000000):Calls prog 14 #[.agg (cells u (.slice A n c)),.agg (eu p)] w fun e w'=>e=.returned (.agg (cells (aC.finish u p) (.slice A n c)))∧Below w.heap.size w w':=by
 obtain⟨O,hO⟩:∃O,O=aC.finish u p:=⟨_,rfl⟩;rw[←hO];have V:Hid (∀w:World,Calls prog 32 #[.string (ah u.au)] w fun e w'=>e=.returned (.bool (aj u.au))∧w'=w):=fun w=>je (ah u.au) w;obtain⟨pv,c2⟩:∃q,q=Value.slice A n c:=⟨_,rfl⟩;obtain⟨s,r,q,f,hq,hf⟩:=p;have HO:=hid hO;clear hO;simp only at L h2;go_enter func14,ntmps14;go_upto_region 1 with(fail)
 generalize hw:World.alloc (World.alloc (World.alloc w _) _) _=w1;have L:UB w1 (w.heap.size) (u) (.slice A n c)∧PB w1 ((w.heap.size+1)) (⟨s,r,q,f,hq,hf⟩)∧UB w1 ((w.heap.size+1+1)) (U0) (.slice none 0 0)∧Below w.heap.size w w1:=by
  subst hw;exact Wi w _ _ _ _ _ _
 clear hw;have t:Hid (w.heap.size≤w.heap.size):=by show _≤_;omega
 have m:Hid ((w.heap.size+1)≠w.heap.size):=by show _≠_;omega
 have a:Hid ((w.heap.size+1+1)≠w.heap.size):=by show _≠_;omega
 have F:Hid (w.heap.size≤(w.heap.size+1+1)):=by show _≤_;omega
 have l:=hid L.1;have h:=hid L.2.1;have z:=hid L.2.2.1;have H:=hid L.2.2.2;clear L;rcases hq with _|_
 focus
  have X:Hid (O=if hf=true then {u with hf:=true,dY:=aP.enc 1 f}else u):=by show _=_;rw[HO.out];unfold aC.finish;first|done|rfl|simp
  obtain⟨p0,p1,p2,p3,p4,p5⟩:=h.facts;go_upto_region 6 with(fail)
  clear p0 p1 p2 p3 p4 p5;clear V;obtain⟨D,rfl⟩:∃x,x=u:=⟨_,rfl⟩;obtain⟨Z,rfl⟩:∃x,x=w1:=⟨_,rfl⟩;have y:=l;have T:=h;have C:=z;have HB:=H
 rotate_left
 focus
  obtain⟨E,Y⟩:∃E,E=aP.enc (if aj u.au=true then 3 else 2) q:=⟨_,rfl⟩;obtain⟨D,hu⟩:∃x,x={u with hq:=true,bQ:=E}:=⟨_,rfl⟩;have X:Hid (O=if hf=true then {D with hf:=true,dY:=aP.enc 1 f}else D):=by show _=_;rw[HO.out,hu,Y];unfold aC.finish;first|done|rfl|simp
  have HU:=hid hu;clear hu;cases hs:aj u.au;all_goals
   rw[hs]at V Y;first|rw[if_pos rfl]at Y|rw[if_neg (by decide)]at Y
   have HE:=hid Y;clear hs Y;obtain⟨p0,p1,p2,p3,p4,p5⟩:=h.facts;have b3:=l.facts.1;go_wp2_with fail
   refine(V _).mono ?_;rintro e wx ⟨rfl,I⟩;obtain rfl:w1=wx:=by first|exact I|exact I.symm
   clear I;have J:=fun(w:World) s=>run_bytes_of_string (P:=prog) w 9 55 5 s underlying9 underlying55 underlying5;go_wp2_with fail
   clear J;refine(aP.iK _ _ _ _ q _ (kM (ah q) _ _ _) (dZ (by omega))).mono ?_;rintro e w2 ⟨rfl,v⟩;rw[←HE.out];have g:Below w1.heap.size w1 w2:=bD (((Below.refl w1.heap.size w1).alloc (Nat.le_refl _) _).drew) v;clear v;have d:=hid (l.below g);have Q:=hid (h.below g);have N:=hid (z.below g);have a7:=hid (bD H g);clear g p0 p1 p2 p3 p4 p5 b3;have b0:=d.facts.2.2.2.2.2.2.2.2.2.1;have a9:=d.thaw.2.2.2.2.2.2.2.2.2.1;have a4:=d.facts.2.2.2.2.2.2.2.2.2.2.2.1;have a1:=d.thaw.2.2.2.2.2.2.2.2.2.2.2.1;go_upto_region 6 with(fail)
   have y:=hid ((d.hq true).bQ E);have T:=hid ((Q.set (k:=w.heap.size) (i:=9) (.bool true) m).set (k:=w.heap.size) (i:=11) (.string (ah E)) m);have C:=hid ((N.set (k:=w.heap.size) (i:=9) (.bool true) a).set (k:=w.heap.size) (i:=11) (.string (ah E)) a);have HB:=hid ((a7.setCell (p:=⟨w.heap.size,9,none⟩) t (.bool true)).setCell (p:=⟨w.heap.size,11,none⟩) t (.string (ah E)));clear b0 a9 a4 a1;rw[←HU.out]at y;generalize (World.setCell (World.setCell w2 ⟨w.heap.size,9,none⟩ (.bool true)) ⟨w.heap.size,11,none⟩ (.string (ah E)))=Z at y T C HB⊢
 all_goals
  obtain⟨p0,p1,p2,p3,p4,p5⟩:=T.facts;cases hf with
  |false=>
   have W:Hid (O=D):=by show _=_;rw[X.out];first|done|rfl|simp
   obtain⟨c0,c1,b5,c3,c4,c5,c6,c7,c8,c9,b8,b7,b6⟩:=y.facts;go_wp2_with (refine aJ C D A n c (.tmp 4) (.tmp 26) rfl rfl rfl rfl ?_)
   exact bodyPost_ret (res1 rfl (C.row D _) _ rfl) rfl ⟨by rw[W.out];first|done|rfl,below_setRow HB F _⟩
  |true=>
   have W:Hid (O={D with hf:=true,dY:=aP.enc 1 f}):=by show _=_;rw[X.out];first|done|rfl|simp
   have J:=fun(w:World) s=>run_bytes_of_string (P:=prog) w 9 55 5 s underlying9 underlying55 underlying5;go_wp2_with fail
   clear J;refine(aP.iK 1 _ _ _ f _ (kM (ah f) _ _ _) (dZ (by omega))).mono ?_;rintro e w4 ⟨rfl,v⟩;have g:Below Z.heap.size Z w4:=bD (((Below.refl Z.heap.size Z).alloc (Nat.le_refl _) _).drew) v;clear v;have j:=hid (y.below g);have a6:=hid (C.below g);have b9:=hid (bD HB g);clear g p0 p1 p2 p3 p4 p5;have a5:=j.facts.2.2.2.2.2.2.2.2.2.2.1;have a2:=j.thaw.2.2.2.2.2.2.2.2.2.2.1;have a3:=j.facts.2.2.2.2.2.2.2.2.2.2.2.2;have a0:=j.thaw.2.2.2.2.2.2.2.2.2.2.2.2;go_upto_region 8 with(fail)
   have G:=hid ((j.hf true).dY (aP.enc 1 f));have B:=hid ((a6.set (k:=w.heap.size) (i:=10) (.bool true) a).set (k:=w.heap.size) (i:=12) (.string (ah (aP.enc 1 f))) a);have a8:=hid ((b9.setCell (p:=⟨w.heap.size,10,none⟩) t (.bool true)).setCell (p:=⟨w.heap.size,12,none⟩) t (.string (ah (aP.enc 1 f))));clear a5 a2 a3 a0;generalize (World.setCell (World.setCell w4 ⟨w.heap.size,10,none⟩ (.bool true)) ⟨w.heap.size,12,none⟩ (.string (ah (aP.enc 1 f))))=w5 at G B a8⊢;obtain⟨c0,c1,b5,c3,c4,c5,c6,c7,c8,c9,b8,b7,b6⟩:=G.facts;go_wp2_with (refine aJ B ({D with hf:=true,dY:=aP.enc 1 f}) A n c (.tmp 4) (.tmp 26) rfl rfl rfl rfl ?_)
   exact bodyPost_ret (res1 rfl (B.row ({D with hf:=true,dY:=aP.enc 1 f}) _) _ rfl) rfl ⟨by rw[W.out];first|done|rfl,below_setRow a8 F _⟩
end Gz
namespace dJ
open Go.RowKit Base aC qB pz
def PZ (o:Option U) (B:Nat):Keep:=⟨fun v w=>∃A n c,v=.tuple #[.agg (cells (o.getD U0) (.slice A n c)),.bool o.isSome]∧w.ownsRow B 9 1 (.slice A n c) n ((o.getD U0).aF.map Value.string),fun _ _ _ hb ⟨A,n,c,h1,h2⟩=>⟨A,n,c,h1,aY h2 hb⟩⟩
def NP (o:Option U) (B:Nat):Keep:=⟨fun v w=>∃A n c,v=.agg (cells (o.getD U0) (.slice A n c))∧w.ownsRow B 9 1 (.slice A n c) n ((o.getD U0).aF.map Value.string),fun _ _ _ hb ⟨A,n,c,h1,h2⟩=>⟨A,n,c,h1,aY h2 hb⟩⟩
theorem nP {w w':World} {o:Option U} {e:Ending} (h:kZ w o e w'):Below w.heap.size w w'∧∃A n c,e=.returned (.tuple #[.agg (cells (o.getD U0) (.slice A n c)),.bool o.isSome])∧w'.ownsRow w.heap.size 9 1 (.slice A n c) n ((o.getD U0).aF.map Value.string):=by
 obtain⟨f,u,A,n,c,g,rfl,a,d|d⟩:=h
 ·obtain⟨rfl,rfl⟩:=d;exact⟨f,A,n,c,rfl,a⟩
 obtain⟨rfl,rfl,rfl⟩:=d;exact⟨f,A,n,c,rfl,a⟩
theorem nZ {w w':World} {o:Option U} {A:Option Addr} {n c:Nat} (a:Below w.heap.size w w') (h:w'.ownsRow w.heap.size 9 1 (.slice A n c) n ((o.getD U0).aF.map Value.string)):kZ w o (.returned (.tuple #[.agg (cells (o.getD U0) (.slice A n c)),.bool o.isSome])) w':=by
 cases o with
 |none=>exact⟨a,U0,A,n,c,false,rfl,h,.inr ⟨rfl,rfl,rfl⟩⟩
 |some u=>exact⟨a,u,A,n,c,true,rfl,h,.inl ⟨rfl,rfl⟩⟩
end dJ
namespace U2
open Go.RowKit Base dJ aV jr fJ aC vH qB UG pz rV kS pJ vJ
theorem ZV {r:List UInt8} (h:Lib.hasPrefix r [47,47]=true):2≤r.length:=by
 unfold Lib.hasPrefix at h
 match r,h with
 |[],h=>cases h
 |[a],h=>simp[List.isPrefixOf]at h
 |a::b::t,_=>simp
theorem Ye (E:List UInt8):(Lib.trimSuffix E [32]).length≤E.length:=by
 unfold Lib.trimSuffix;split
 ·simp
 exact Nat.le_refl _
theorem IL (p:Parts) (w:World) (hs:p.rest.length≤900000) (hL:pK w) (hT:Tab.Pow w) (hM:Max w):Calls prog 38 #[.agg (eu p)] w (kZ w (aC.plain p)):=by
 obtain⟨s,r,q,f,hq,hf⟩:=p;simp only at hs;obtain⟨O,hO⟩:∃O,O=aC.plain ⟨s,r,q,f,hq,hf⟩:=⟨_,rfl⟩;rw[←hO];obtain⟨a2,b6⟩:∃x,x=Lib.hasPrefix r [47,47]:=⟨_,rfl⟩;obtain⟨a1,e2⟩:∃x,x=Lib.hasPrefix r [47]:=⟨_,rfl⟩;unfold aC.plain at hO;simp only at hO;rw[←b6,←e2]at hO;have f3:a2=true→2≤r.length:=fun h=>by rw[h]at b6;exact ZV b6.symm
 have i2:=hid f3;have h4:Hid (∀w:World,Calls prog 33 #[.string (ah r),.string ⟨#[47,47]⟩] w fun e w'=>e=.returned (.bool a2)∧w'=w):=fun w=>by rw[b6];exact strings_HasPrefix (ah r) ⟨#[47,47]⟩ w
 have h5:Hid (∀w:World,Calls prog 33 #[.string (ah r),.string ⟨#[47]⟩] w fun e w'=>e=.returned (.bool a1)∧w'=w):=fun w=>by rw[e2];exact strings_HasPrefix (ah r) ⟨#[47]⟩ w
 have i1:Hid (∀(L:List UInt8) (w:World),L.length≤900000→pK w→Tab.Pow w→Max w→Calls prog 35 #[.string (ah s),.string (ah L)] w (kZ w (authority s L))):=fun L w h a c d=>og s L w h a c d;have h3:Hid (∀w:World,Calls prog 93 #[.string (ah s),.string (ah r)] w (ku w.heap.size w (aG s r))):=fun w=>uP (ah s) (ah r) w (dZ (by omega));obtain⟨E,hE⟩:∃E,E=aP.enc 0 r:=⟨_,rfl⟩;have i6:E.length≤3000000:=by rw[hE];have:=aP.fE 0 r;omega
 have h8:Hid (∀(A:Option Addr) (n c:Nat) (w:World),dW w A n (aU r)→n≤1073741824→Calls prog 40 #[.int .i64 0,.slice A n c] w fun e w'=>e=.returned (.string (ah E))∧Below w.heap.size w w'):=fun A n c w h1 h2=>by rw[hE];exact aP.iK 0 A n c r w h1 h2
 have e9:aC.bP (hq||hf) r=if Lib.hasSuffix E [32]=true∧(hq||hf)=true then Lib.trimSuffix E [32]++[37,50,48]else E:=by rw[hE];rfl
 rw[e9]at hO;obtain⟨sb,e0⟩:∃x,x=Lib.hasSuffix E [32]:=⟨_,rfl⟩;obtain⟨z,d1⟩:∃x,x=Lib.trimSuffix E [32]:=⟨_,rfl⟩;have i3:z.length≤3000000:=by rw[d1];have:=Ye E;omega
 have h9:Hid (∀w:World,Calls prog 103 #[.string (ah E),.string ⟨#[32]⟩] w fun e w'=>e=.returned (.tuple #[.string (ah z),.bool sb])∧w'=w):=fun w=>by rw[d1,e0];exact strings_CutSuffix (ah E) ⟨#[32]⟩ w (by rw[ak];omega)
 have f8:Hid (∀w:World,(Op.stringOp .add (ah z) ⟨#[37,50,48]⟩).run prog w=.ok (.string (ah (z++[37,50,48]))) w):=fun w=>iO (ah z) ⟨#[37,50,48]⟩ w (by rw[ak];show _+3≤_;omega);rw[←e0,←d1]at hO;have HO:=hid hO;have HL:=hid hL;have HT:=hid hT;have HM:=hid hM;clear hO b6 e2 f3 e9 e0 d1 hE hL hT hM;go_enter func38,ntmps38;go_upto_region 1 with(fail)
 generalize hw:World.alloc (World.alloc w _) _=w1;have h1:PB w1 (w.heap.size) (⟨s,r,q,f,hq,hf⟩)∧UB w1 ((w.heap.size+1)) (U0) (.slice none 0 0)∧Below w.heap.size w w1:=by
  subst hw;exact jC w _ _ _ _
 clear hw;have C:Hid (w.heap.size≤(w.heap.size+1)):=Nat.le_succ _;have a8:=hid h1.1;have b8:=hid h1.2.1;have d9:=hid h1.2.2;clear h1;obtain⟨p0,p1,p2,p3,p4,p5⟩:=a8.facts;go_upto_region 7 with(fail)
 generalize hw:World.alloc w1 _=w2;have h1:UB w2 (w1.heap.size) ({U0 with au:=s,port:= -1}) (.slice none 0 0)∧Below w1.heap.size w1 w2:=by
  subst hw;exact iG w1 _ _
 clear hw;have g3:=a8.lt;have y:Hid (w.heap.size≠w1.heap.size):=by show _≠_;omega
 clear g3;have g2:=b8.lt;have v:Hid ((w.heap.size+1)≠w1.heap.size):=by show _≠_;omega
 clear g2;have a5:Hid (w.heap.size≤w1.heap.size):=d9.size;have a3:=hid (a8.below h1.2);have N:=hid (b8.below h1.2);have X:=hid (bD d9 h1.2);have I:=hid h1.1;clear h1;clear p0 p1 p2 p3 p4 p5;obtain⟨p0,p1,p2,p3,p4,p5⟩:=a3.facts;go_wp2_with fail
 refine(h4 _).mono ?_;rintro e wx ⟨rfl,D⟩;obtain rfl:w2=wx:=by first|exact D|exact D.symm
 clear D;cases a2 with
 | true=>
  have g4:=i2 (by simp);have W:Hid (O=authority s (r.drop 2)):=by show _=_;rw[HO.out,if_pos (by simp)]
  obtain⟨T2,d2⟩:∃x,x=r.drop 2:=⟨_,rfl⟩;have e8:(ah r).extract 2 (ah r).size=ah T2:=by rw[kY,d2];rfl
  have h0:=hid e8;have i5:(2:Int)≤((ah r).size:Int):=by rw[ak];omega
  rw[←d2]at W;have i4:T2.length≤900000:=by rw[d2,List.length_drop];omega
  have b0:Hid ((w.heap.size+1)<w2.heap.size):=N.lt;have HF:=hid a3.facts;obtain⟨OA,e3⟩:∃x,x=authority s T2:=⟨_,rfl⟩;have f5:Hid (∀w:World,pK w→Tab.Pow w→Max w→Calls prog 35 #[.string (ah s),.string (ah T2)] w (kZ w OA)):=fun w a b c=>by rw[e3];exact i1 T2 w (by omega) a b c
  rw[←e3]at W;clear d2 g4 e8 e3;clear p0 p1 p2 p3 p4 p5;go_upto_region 8 with(fail)
  refine bf (by kernel_rfl) 8 [pg w.heap.size 0,is (.string (ah s)),pg w.heap.size 1,is (.string (ah r)),is (.string (ah T2)),PZ OA w2.heap.size,NP OA w2.heap.size,is (.bool OA.isSome)] [[],[0],[],[2],[2,3],[0,1,2,3,4],[0,1,2,3,4,5],[0,1,2,3,4,5],[0,1,2,3,4,5,6,7]] (by kernel_rfl) ?_ ?_
  ·refine⟨?_,?_,?_,?_,?_,?_,?_,?_,trivial⟩;all_goals(intro t wq T hh K hK;simp only[iQ,qQ,Act.put,Nat.reduceAdd,Nat.reduceEqDiff,reduceIte]at hh hK⊢)
   ·try simp only[hh]at hK⊢
    clear hh;go_simp;exact hK _ _ aZ rfl
   ·try simp only[hh]at hK⊢
    clear hh;have hc:=HF.1;have g6:=(T.cell (p:=⟨w.heap.size,0,none⟩) (by have:=b0.out;show w.heap.size<_;omega)).trans hc;go_simp;exact hK _ _ aZ rfl
   ·try simp only[hh]at hK⊢
    clear hh;go_simp;exact hK _ _ aZ rfl
   ·try simp only[hh]at hK⊢
    clear hh;have hc:=HF.2.1;have g6:=(T.cell (p:=⟨w.heap.size,1,none⟩) (by have:=b0.out;show w.heap.size<_;omega)).trans hc;go_simp;exact hK _ _ aZ rfl
   ·try simp only[hh]at hK⊢
    clear hh;have hx:=h0.out;go_simp;exact hK _ _ aZ rfl
   ·try simp only[hh]at hK⊢
    clear hh;go_simp;refine(f5 _ (HL.below (bD X T)) (cO HT (bD X T)) (HM.below (bD X T))).mono ?_;intro e w9 ha;obtain⟨g7,A9,n9,c9,rfl,g1⟩:=dJ.nP ha;exact hK _ _ g7 ⟨A9,n9,c9,rfl,aI g1 T.size⟩
   ·have e5:=hh.2.2.2.2.2.1;clear hh;obtain⟨A5,n5,c5,e5,f1⟩:=e5;simp only[e5]at hK⊢;go_simp;exact hK _ _ aZ ⟨_,_,_,rfl,f1⟩
   have e5:=hh.2.2.2.2.2.1;clear hh;obtain⟨A5,n5,c5,e5,f1⟩:=e5;simp only[e5]at hK⊢;go_simp;exact hK _ _ aZ rfl
  intro t wq T hh;have f6:=aO hh 6 (by decide);simp only[pick]at f6;have f7:=aO hh 7 (by decide);simp only[pick]at f7;replace f7:t 7=(.bool OA.isSome):=f7;clear hh;simp only[iQ,qQ,Act.put,Nat.reduceAdd,Nat.reduceEqDiff,reduceIte];obtain⟨A6,n6,c6,f6,f0⟩:=f6;simp only[f6,f7];have d8:=hid (N.below T);have i0:=hid (bD X T);have h6:=hid f0;clear f0 T;refine aJ d8 ((OA).getD U0) A6 n6 c6 (.tmp 2) (.tmp 44) rfl rfl rfl rfl ?_;go_wp2;have ho:=aI (fH.aQ (w':=World.setRow wq (w.heap.size+1) (cells ((OA).getD U0) (.slice A6 n6 c6))) (gb:=(w.heap.size+1)) (h6) (fun k hk=>setRow_other _ _ _ _ hk) b0) (by have h1:=C.out;have h2:=b0.out;omega:w.heap.size≤_);refine bodyPost_ret (gY rfl (d8.row _ _) (OA).isSome _ rfl rfl) rfl ?_;rw[W.out];exact dJ.nZ (below_setRow i0 C _) ho
 | false=>
  have f4:Hid (O=if a1=true then some {U0 with au:=s,port:= -1,aF:=aG s r}else some {U0 with au:=s,port:= -1,bP:=true,txt:=if sb=true∧(hq||hf)=true then z++[37,50,48]else E}):=by show _=_;rw[HO.out,if_neg (by simp)]
  go_wp2_with fail
  refine(h5 _).mono ?_;rintro e wx ⟨rfl,D⟩;obtain rfl:w2=wx:=by first|exact D|exact D.symm
  clear D;cases a1 with
  |true=>
   have W:Hid (O=some {U0 with au:=s,port:= -1,aF:=aG s r}):=by show _=_;rw[f4.out,if_pos (by simp)]
   go_wp2_with fail
   clear p0 p1 p2 p3 p4 p5;refine(h3 _).mono ?_;rintro e w3 ⟨q1,rfl,a4,F⟩;obtain⟨Aq,cq,rfl,f9⟩:=cZ (u:={U0 with aF:=aG s r}) a4;clear f9;replace a4:=aI a4 (Nat.le_refl _);have h7:Hid (w1.heap.size<w2.heap.size):=I.lt;have b0:Hid ((w.heap.size+1)<w2.heap.size):=N.lt;have a0:=hid (a3.below F);have a7:=hid (N.below F);have H:=hid (I.below F);have d0:=hid (bD X F);have e7:=hid a4;clear a4;clear F;have b5:=fH.aQ (w':=w3.setCell ⟨w1.heap.size,8,none⟩ (.slice Aq (aG s r).length cq)) (gb:=w1.heap.size) e7 (fun k hk=>heap_setCell_other _ _ _ _ hk) h7;have d7:=hid b5;clear b5;have cx:=H.facts.2.2.2.2.2.2.2.2.1;have fx:=H.thaw.2.2.2.2.2.2.2.2.1;go_upto_region 11 with(fail)
   have m:=a0.set (k:=w1.heap.size) (i:=8) (.slice Aq (aG s r).length cq) y;have j:=a7.set (k:=w1.heap.size) (i:=8) (.slice Aq (aG s r).length cq) v;have g:=H.path (.slice Aq (aG s r).length cq);have Y:=d0.setCell (p:=⟨w1.heap.size,8,none⟩) a5 (.slice Aq (aG s r).length cq);have b5:=d7.out;clear cx fx d7;generalize World.setCell w3 _ _=w4 at m j g Y b5⊢;clear m;have Z:Hid (UB w4 ((w.heap.size+1)) (U0) (.slice none 0 0)):=j;clear j;have G:Hid (UB w4 (w1.heap.size) ({U0 with au:=s,port:= -1}) (.slice Aq (aG s r).length cq)):=g;clear g;have c2:=hid Y;have e6:=hid b5;clear Y b5;obtain⟨c0,c1,d3,c3,c4,c5,c6,c7,c8,c9,d6,d5,d4⟩:=G.facts;go_wp2_with (refine aJ Z ({U0 with au:=s,port:= -1}) Aq (aG s r).length cq (.tmp 2) (.tmp 56) rfl rfl rfl rfl ?_)
   have g0:∀k,k≠(w.heap.size+1)→(World.setRow w4 ((w.heap.size+1)) (cells ({U0 with au:=s,port:= -1}) (.slice Aq (aG s r).length cq))).heap[k]?=w4.heap[k]?:=fun k hk=>setRow_other _ _ _ _ hk;have ho:=aI (fH.aQ e6 g0 b0) (by have h1:=C.out;have h2:=b0.out;omega:w.heap.size≤_);exact bodyPost_ret (gY rfl (Z.row ({U0 with au:=s,port:= -1}) _) true _ rfl rfl) rfl (dR (u:={U0 with au:=s,port:= -1,aF:=aG s r}) W (below_setRow c2 C _) ho)
  | false=>
   have W:Hid (O=some {U0 with au:=s,port:= -1,bP:=true,txt:=if sb=true∧(hq||hf)=true then z++[37,50,48]else E}):=by show _=_;rw[f4.out,if_neg (by simp)]
   clear p0 p1 p2 p3 p4 p5;have g9:=I.facts.2.2.2.2.2.2.1;have g8:=I.thaw.2.2.2.2.2.2.1;go_upto_region 3 with(fail)
   have m:=(a3.set (k:=w1.heap.size) (i:=6) (.bool true) y);have j:=(N.set (k:=w1.heap.size) (i:=6) (.bool true) v);have g:=(I.bP true);have Y:=(X.setCell (p:=⟨w1.heap.size,6,none⟩) a5 (.bool true));clear g9 g8;generalize (World.setCell w2 ⟨w1.heap.size,6,none⟩ (.bool true))=w3 at m j g Y⊢;have a0:Hid (PB w3 (w.heap.size) (⟨s,r,q,f,hq,hf⟩)):=m;clear m;have a7:Hid (UB w3 ((w.heap.size+1)) (U0) (.slice none 0 0)):=j;clear j;have H:Hid (UB w3 (w1.heap.size) ({U0 with au:=s,port:= -1,bP:=true}) (.slice none 0 0)):=g;clear g;have d0:=hid Y;clear Y;obtain⟨p0,p1,p2,p3,p4,p5⟩:=a0.facts;have g5:=fun(w:World) s=>run_bytes_of_string (P:=prog) w 9 55 5 s underlying9 underlying55 underlying5;go_wp2_with fail
   clear g5;refine(h8 _ _ _ _ (kM (ah r) _ _ _) (dZ (by omega))).mono ?_;rintro e w4 ⟨rfl,f2⟩;have F:Below w3.heap.size w3 w4:=bD (((Below.refl w3.heap.size w3).alloc (Nat.le_refl _) _).drew) f2;clear f2;have e4:=hid (a0.below F);have Z:=hid (a7.below F);have G:=hid (H.below F);have c2:=hid (bD d0 F);clear F;clear p0 p1 p2 p3 p4 p5;have V:=G.facts.2.2.2.2.2.2.2.1;have b7:=G.thaw.2.2.2.2.2.2.2.1;go_upto_region 4 with(fail)
   have m:=(e4.set (k:=w1.heap.size) (i:=7) (.string (ah E)) y);have j:=(Z.set (k:=w1.heap.size) (i:=7) (.string (ah E)) v);have g:=(G.txt E);have Y:=(c2.setCell (p:=⟨w1.heap.size,7,none⟩) a5 (.string (ah E)));clear V b7;generalize (World.setCell w4 ⟨w1.heap.size,7,none⟩ (.string (ah E)))=w5 at m j g Y⊢;have Q:Hid (PB w5 (w.heap.size) (⟨s,r,q,f,hq,hf⟩)):=m;clear m;have B:Hid (UB w5 ((w.heap.size+1)) (U0) (.slice none 0 0)):=j;clear j;have l:Hid (UB w5 (w1.heap.size) ({U0 with au:=s,port:= -1,bP:=true,txt:=E}) (.slice none 0 0)):=g;clear g;have b3:=hid Y;clear Y;have V:=l.facts.2.2.2.2.2.2.2.1;go_wp2_with fail
   refine(h9 _).mono ?_;rintro e wx ⟨rfl,D⟩;obtain rfl:w5=wx:=by first|exact D|exact D.symm
   clear D;cases sb with
   |false=>
    go_upto_region 11 with(fail)
    clear V;have a9:Hid (O=some {U0 with au:=s,port:= -1,bP:=true,txt:=E}):=by show _=_;rw[W.out];first|done|rfl|simp
    obtain⟨c0,c1,d3,c3,c4,c5,c6,c7,c8,c9,d6,d5,d4⟩:=l.facts;go_wp2_with (refine aJ B {U0 with au:=s,port:= -1,bP:=true,txt:=E} none 0 0 (.tmp 2) (.tmp 56) rfl rfl rfl rfl ?_)
    exact bodyPost_ret (gY rfl (B.row {U0 with au:=s,port:= -1,bP:=true,txt:=E} _) true _ rfl rfl) rfl (dR (u:={U0 with au:=s,port:= -1,bP:=true,txt:=E}) a9 (below_setRow b3 C _) (rJ _ _ rfl))
   | true=>
    cases hq with
    |true=>
     obtain⟨p0,p1,p2,p3,p4,p5⟩:=Q.facts;have e1:=f8.out;clear V;have V:=l.facts.2.2.2.2.2.2.2.1;have b7:=l.thaw.2.2.2.2.2.2.2.1;go_upto_region 11 with(fail)
     have m:=(Q.set (k:=w1.heap.size) (i:=7) (.string (ah (z++[37,50,48]))) y);have j:=(B.set (k:=w1.heap.size) (i:=7) (.string (ah (z++[37,50,48]))) v);have g:=(l.txt (z++[37,50,48]));have Y:=(b3.setCell (p:=⟨w1.heap.size,7,none⟩) a5 (.string (ah (z++[37,50,48]))));clear V b7;generalize (World.setCell w5 ⟨w1.heap.size,7,none⟩ (.string (ah (z++[37,50,48]))))=w6 at m j g Y⊢;clear m;have J:Hid (UB w6 ((w.heap.size+1)) (U0) (.slice none 0 0)):=j;clear j;have a6:Hid (UB w6 (w1.heap.size) ({U0 with au:=s,port:= -1,bP:=true,txt:=z++[37,50,48]}) (.slice none 0 0)):=g;clear g;have b9:=hid Y;clear Y;clear p0 p1 p2 p3 p4 p5;clear e1;have a9:Hid (O=some {U0 with au:=s,port:= -1,bP:=true,txt:=z++[37,50,48]}):=by show _=_;rw[W.out];first|done|rfl|simp
     obtain⟨c0,c1,d3,c3,c4,c5,c6,c7,c8,c9,d6,d5,d4⟩:=a6.facts;go_wp2_with (refine aJ J {U0 with au:=s,port:= -1,bP:=true,txt:=z++[37,50,48]} none 0 0 (.tmp 2) (.tmp 56) rfl rfl rfl rfl ?_)
     exact bodyPost_ret (gY rfl (J.row {U0 with au:=s,port:= -1,bP:=true,txt:=z++[37,50,48]} _) true _ rfl rfl) rfl (dR (u:={U0 with au:=s,port:= -1,bP:=true,txt:=z++[37,50,48]}) a9 (below_setRow b9 C _) (rJ _ _ rfl))
    |false=>
     cases hf with
     |true=>
      obtain⟨p0,p1,p2,p3,p4,p5⟩:=Q.facts;have e1:=f8.out;clear V;have V:=l.facts.2.2.2.2.2.2.2.1;have b7:=l.thaw.2.2.2.2.2.2.2.1;go_upto_region 11 with(fail)
      have m:=(Q.set (k:=w1.heap.size) (i:=7) (.string (ah (z++[37,50,48]))) y);have j:=(B.set (k:=w1.heap.size) (i:=7) (.string (ah (z++[37,50,48]))) v);have g:=(l.txt (z++[37,50,48]));have Y:=(b3.setCell (p:=⟨w1.heap.size,7,none⟩) a5 (.string (ah (z++[37,50,48]))));clear V b7;generalize (World.setCell w5 ⟨w1.heap.size,7,none⟩ (.string (ah (z++[37,50,48]))))=w6 at m j g Y⊢;clear m;have J:Hid (UB w6 ((w.heap.size+1)) (U0) (.slice none 0 0)):=j;clear j;have a6:Hid (UB w6 (w1.heap.size) ({U0 with au:=s,port:= -1,bP:=true,txt:=z++[37,50,48]}) (.slice none 0 0)):=g;clear g;have b9:=hid Y;clear Y;clear p0 p1 p2 p3 p4 p5;clear e1;have a9:Hid (O=some {U0 with au:=s,port:= -1,bP:=true,txt:=z++[37,50,48]}):=by show _=_;rw[W.out];first|done|rfl|simp
      obtain⟨c0,c1,d3,c3,c4,c5,c6,c7,c8,c9,d6,d5,d4⟩:=a6.facts;go_wp2_with (refine aJ J {U0 with au:=s,port:= -1,bP:=true,txt:=z++[37,50,48]} none 0 0 (.tmp 2) (.tmp 56) rfl rfl rfl rfl ?_)
      exact bodyPost_ret (gY rfl (J.row {U0 with au:=s,port:= -1,bP:=true,txt:=z++[37,50,48]} _) true _ rfl rfl) rfl (dR (u:={U0 with au:=s,port:= -1,bP:=true,txt:=z++[37,50,48]}) a9 (below_setRow b9 C _) (rJ _ _ rfl))
     |false=>
      obtain⟨p0,p1,p2,p3,p4,p5⟩:=Q.facts;go_upto_region 11 with(fail)
      clear V;clear p0 p1 p2 p3 p4 p5;have a9:Hid (O=some {U0 with au:=s,port:= -1,bP:=true,txt:=E}):=by show _=_;rw[W.out];first|done|rfl|simp
      obtain⟨c0,c1,d3,c3,c4,c5,c6,c7,c8,c9,d6,d5,d4⟩:=l.facts;go_wp2_with (refine aJ B {U0 with au:=s,port:= -1,bP:=true,txt:=E} none 0 0 (.tmp 2) (.tmp 56) rfl rfl rfl rfl ?_)
      exact bodyPost_ret (gY rfl (B.row {U0 with au:=s,port:= -1,bP:=true,txt:=E} _) true _ rfl rfl) rfl (dR (u:={U0 with au:=s,port:= -1,bP:=true,txt:=E}) a9 (below_setRow b3 C _) (rJ _ _ rfl))
end U2
namespace U3
open Go.RowKit Base dJ aV ig fJ aC vH qB UG pz rV Jf kS pJ vJ U1 abR U2
theorem JZ (p:Parts) (w:World) (hs:p.rest.length≤700000) (hL:pK w) (hT:Tab.Pow w) (hM:Max w):Calls prog 13 #[.agg (eu p),.pointer none] w (kZ w (aC.resolve p none)):=by
 obtain⟨s,n,q,f,hq,hf⟩:=p;simp only at hs;obtain⟨O,hO⟩:∃O,O=aC.resolve ⟨s,n,q,f,hq,hf⟩ none:=⟨_,rfl⟩;rw[←hO];unfold aC.resolve at hO;simp only at hO;have HO:=hid hO;have P:Hid (∀w:World,Calls prog 32 #[.string (ah s)] w fun e w'=>e=.returned (.bool (aj s))∧w'=w):=fun w=>je (ah s) w;have b3:Hid (∀w:World,pK w→Tab.Pow w→Max w→Calls prog 38 #[.agg (eu ⟨s,n,q,f,hq,hf⟩)] w (kZ w (aC.plain ⟨s,n,q,f,hq,hf⟩))):=fun w a c d=>IL ⟨s,n,q,f,hq,hf⟩ w (by show n.length≤_;omega) a c d;have b7:Hid (∀w:World,pK w→Tab.Pow w→Max w→Calls prog 31 #[.string (ah n),.pointer none] w (kZ w (file n none))):=fun w a c d=>Ig n w hs a c d;have a9:Hid (∀w:World,Calls prog 37 #[.string (ah s)] w fun e w'=>e=.returned (.string (cs (aj s)))∧w'=w):=fun w=>o8 (ah s) w;have a8:Hid (∀w:World,Calls prog 36 #[.string (ah n),.string (cs true)] w fun e w'=>e=.returned (.string (ah (n.dropWhile (bU true))))∧Below w.heap.size w w'):=fun w=>uU n w;obtain⟨T2,W⟩:∃x,x=n.dropWhile (bU true):=⟨_,rfl⟩;have a5:T2.length≤900000:=by rw[W];have:=(List.dropWhile_sublist (bU true) (l:=n)).length_le;omega
 rw[←W]at a8 HO;obtain⟨N,X⟩:∃x,x=authority s T2:=⟨_,rfl⟩;have b9:Hid (∀w:World,pK w→Tab.Pow w→Max w→Calls prog 35 #[.string (ah s),.string (ah T2)] w (kZ w N)):=fun w a b c=>by rw[X];exact og s T2 w a5 a b c
 rw[←X]at HO;have HL:=hid hL;have HT:=hid hT;have HM:=hid hM;clear hO W X hL hT hM;go_enter func13,ntmps13;go_upto_region 1 with(fail)
 generalize hw:World.alloc (World.alloc w _) _=w1;have h1:PB w1 (w.heap.size) (⟨s,n,q,f,hq,hf⟩)∧UB w1 ((w.heap.size+1)) (U0) (.slice none 0 0)∧Below w.heap.size w w1:=by
  subst hw;exact jC w _ _ _ _
 clear hw;have v:Hid (w.heap.size≤(w.heap.size+1)):=Nat.le_succ _;have F:=hid h1.1;have j:=hid h1.2.1;have g:=hid h1.2.2;clear h1;obtain⟨p0,p1,p2,p3,p4,p5⟩:=F.facts;by_cases hs1:s=aB
 ·
  have G:Hid (O=file n none):=by show _=_;rw[HO.out,if_pos hs1];first|done|rfl
  have a0:((ah s).toList==[102,105,108,101])=true:=by rw[ay,hs1];first|done|rfl
  have Z:(ah s).toList=[102,105,108,101]:=by rw[ay,hs1];first|done|rfl
  clear hs1;go_wp2_with fail
  refine(b7 _ (HL.below g) (cO HT g) (HM.below g)).mono ?_;rintro e w2 ⟨z,T,A',n',c',ok,rfl,r,D⟩;have C:Hid ((w.heap.size+1)<w1.heap.size):=j.lt;have a1:=hid r;have a2:=hid D;clear r D;have m:=hid (j.below z);have H:=hid (bD g z);have a3:Hid (w.heap.size≤w1.heap.size):=g.size;clear z;go_wp2_with (refine aJ m T A' n' c' (.tmp 4) (.tmp 23) rfl rfl rfl rfl ?_)
  exact bodyPost_ret (gY rfl (m.row T _) ok _ rfl rfl) rfl ⟨below_setRow H v _,T,A',n',c',ok,rfl,(a1.row C _).base a3,by rw[G.out];exact a2⟩
 ·
  have a0:((ah s).toList==[102,105,108,101])=false:=by rw[ay,beq_eq_false_iff_ne];exact hs1
  have Z:¬(ah s).toList=[102,105,108,101]:=by rw[ay];exact hs1
  cases hsp:aj s with
  | true=>
   have G:Hid (O=N):=by show _=_;rw[HO.out,if_neg hs1,if_pos hsp]
   rw[hsp]at P a9;clear hsp hs1;go_wp2_with fail
   refine(P _).mono ?_;rintro e wx ⟨rfl,y⟩;obtain rfl:w1=wx:=by first|exact y|exact y.symm
   clear y;clear p0 p1 p2 p3 p4 p5;go_upto_region 6 with(fail)
   refine dG (by kernel_rfl) [is (.pointer none),is (.bool false),is (.bool false),is (undef),is (undef),is (undef),is (undef),is (undef),is (undef),is (undef),is (.bool false),is (.bool false),is (undef),is (undef),is (undef),is (undef),is (.bool false)] [[],[0],[1],[2],[2,3],[2,4],[2,5],[2],[2,7],[2,6,8],[2,9],[10],[11],[11,12],[11,13],[11,14],[11,15]] (by kernel_rfl) ?_ ?_
   ·refine⟨?_,?_,?_,?_,?_,?_,?_,?_,?_,?_,?_,?_,?_,?_,?_,?_,?_,trivial⟩;all_goals(intro t wq h hh K i;simp only[iQ,Act.put,Nat.reduceAdd,Nat.reduceEqDiff,reduceIte]at hh i⊢;(try simp only[hh]at i⊢);clear hh;go_simp)
    ·exact i _ _ aZ rfl
    ·first|exact i _ _ aZ rfl|exact i _ _ aZ (jL (by omega) (by omega))
    iterate 7 · exact i _ _ aZ rfl
    ·first|exact i _ _ aZ rfl|exact i _ _ aZ (jL (by omega) (by omega))
    iterate 7 · exact i _ _ aZ rfl
   ·intro t wz h hh;have J:=aO hh 16 (by decide);simp only[pick]at J;replace J:t 16=(.bool false):=J;clear hh;simp only[iQ,Act.put,Nat.reduceAdd,Nat.reduceEqDiff,reduceIte];simp only[J];have A:=hid (F.below h);have E:=hid (j.below h);have B:=hid (bD g h);clear h;have C:Hid ((w.heap.size+1)<wz.heap.size):=E.lt;go_upto_region 8 with(fail)
    refine bf (by kernel_rfl) 11 [pg w.heap.size 0,is (.string (ah s)),pg w.heap.size 1,is (.string (ah n)),pg w.heap.size 0,is (.string (ah s)),is (.string (cs true)),is (.string (ah T2)),PZ N wz.heap.size,NP N wz.heap.size,is (.bool N.isSome)] [[],[0],[],[2],[],[4],[4,5],[2,3,4,5,6],[0,1,2,3,4,5,6,7],[0,1,2,3,4,5,6,7,8],[0,1,2,3,4,5,6,7,8],[0,1,2,3,4,5,6,7,8,9,10]] (by kernel_rfl) ?_ ?_
    ·refine⟨?_,?_,?_,?_,?_,?_,?_,?_,?_,?_,?_,trivial⟩;all_goals(intro t wq h hh K i;simp only[iQ,qQ,Act.put,Nat.reduceAdd,Nat.reduceEqDiff,reduceIte]at hh i⊢)
     ·try simp only[hh]at i⊢
      clear hh;go_simp;exact i _ _ aZ rfl
     ·try simp only[hh]at i⊢
      clear hh;have hc:=(A.below h).facts.1;go_simp;exact i _ _ aZ rfl
     ·try simp only[hh]at i⊢
      clear hh;go_simp;exact i _ _ aZ rfl
     ·try simp only[hh]at i⊢
      clear hh;have hc:=(A.below h).facts.2.1;go_simp;exact i _ _ aZ rfl
     ·try simp only[hh]at i⊢
      clear hh;go_simp;exact i _ _ aZ rfl
     ·try simp only[hh]at i⊢
      clear hh;have hc:=(A.below h).facts.1;go_simp;exact i _ _ aZ rfl
     ·try simp only[hh]at i⊢
      clear hh;go_simp;refine(a9 _).mono ?_;rintro e w9 ⟨rfl,b0⟩;subst b0;exact i _ _ aZ rfl
     ·try simp only[hh]at i⊢
      clear hh;go_simp;refine(a8 _).mono ?_;rintro e w9 ⟨rfl,V⟩;exact i _ _ V rfl
     ·try simp only[hh]at i⊢
      clear hh;go_simp;refine(b9 _ (HL.below (bD B h)) (cO HT (bD B h)) (HM.below (bD B h))).mono ?_;intro e w9 ha;obtain⟨V,A9,n9,c9,rfl,I⟩:=dJ.nP ha;exact i _ _ V ⟨A9,n9,c9,rfl,aI I h.size⟩
     ·have Y:=hh.2.2.2.2.2.2.2.2.1;clear hh;obtain⟨A8,n8,c8,Y,a4⟩:=Y;simp only[Y]at i⊢;go_simp;exact i _ _ aZ ⟨_,_,_,rfl,a4⟩
     ·have Y:=hh.2.2.2.2.2.2.2.2.1;clear hh;obtain⟨A8,n8,c8,Y,a4⟩:=Y;simp only[Y]at i⊢;go_simp;exact i _ _ aZ rfl
    ·intro t wq h hh;have f9:=aO hh 9 (by decide);simp only[pick]at f9;have L:=aO hh 10 (by decide);simp only[pick]at L;replace L:t 10=(.bool N.isSome):=L;clear hh;simp only[iQ,qQ,Act.put,Nat.reduceAdd,Nat.reduceEqDiff,reduceIte];obtain⟨A9,n9,c9,f9,I⟩:=f9;simp only[f9,L];have Q:=hid (E.below h);have b8:=hid (bD B h);have b5:=hid I;clear I h;refine aJ Q ((N).getD U0) A9 n9 c9 (.tmp 4) (.tmp 63) rfl rfl rfl rfl ?_;go_wp2;have ho:=aI (fH.aQ (w':=World.setRow wq (w.heap.size+1) (cells ((N).getD U0) (.slice A9 n9 c9))) (gb:=(w.heap.size+1)) (b5) (fun k hk=>setRow_other _ _ _ _ hk) C) (by have h1:=v.out;have h2:=C.out;omega:w.heap.size≤_);refine bodyPost_ret (gY rfl (Q.row _ _) (N).isSome _ rfl rfl) rfl ?_;rw[G.out];exact dJ.nZ (below_setRow b8 v _) ho
  |false=>
   rw[hsp]at P;go_wp2_with fail
   refine(P _).mono ?_;rintro e wx ⟨rfl,y⟩;obtain rfl:w1=wx:=by first|exact y|exact y.symm
   clear y;by_cases h0:s=[]
   ·
    have b6:Hid (O=none):=by show _=_;rw[HO.out,if_neg hs1,if_neg (by rw[hsp];simp),if_neg (by simp[h0])]
    have a7:((ah s).toList==[])=true:=by rw[ay,h0];first|done|rfl
    have a6:(ah s).toList=[]:=by rw[ay,h0];first|done|rfl
    clear h0 hsp hs1;go_wp2_with (refine aJ j U0 none 0 0 (.tmp 4) (.tmp 76) rfl rfl rfl rfl ?_)
    exact bodyPost_ret (gY rfl (j.row U0 _) false _ rfl rfl) rfl (mX b6 (below_setRow g v _))
   ·
    have G:Hid (O=aC.plain ⟨s,n,q,f,hq,hf⟩):=by show _=_;rw[HO.out,if_neg hs1,if_neg (by rw[hsp];simp),if_pos h0]
    have a7:((ah s).toList==[])=false:=by rw[ay,beq_eq_false_iff_ne];exact h0
    have a6:¬(ah s).toList=[]:=by rw[ay];exact h0
    have e2:(ah s).toList.isEmpty=false:=by rw[ay];simpa using h0
    clear h0 hsp hs1;go_wp2_with fail
    refine(b3 _ (HL.below g) (cO HT g) (HM.below g)).mono ?_;rintro e w2 ⟨z,T,A',n',c',ok,rfl,r,D⟩;have C:Hid ((w.heap.size+1)<w1.heap.size):=j.lt;have a1:=hid r;have a2:=hid D;clear r D;have m:=hid (j.below z);have H:=hid (bD g z);have a3:Hid (w.heap.size≤w1.heap.size):=g.size;clear z;go_wp2_with (refine aJ m T A' n' c' (.tmp 4) (.tmp 71) rfl rfl rfl rfl ?_)
    exact bodyPost_ret (gY rfl (m.row T _) ok _ rfl rfl) rfl ⟨below_setRow H v _,T,A',n',c',ok,rfl,(a1.row C _).base a3,by rw[G.out];exact a2⟩
end U3
namespace RY
open Go.RowKit sO uj
def xk (r:Int):Prop:=0≤r∧r≤1114111∧¬(55296≤r∧r≤57343)
instance (r:Int):Decidable (xk r):=by unfold xk;exact inferInstance
def u (x:Int):UInt8:=x.toNat.toUInt8
theorem jl (x:Int) (c:0≤x) (a:x≤255):((u x).toNat:Int)=x:=by
 unfold u;simp;omega
theorem enc1 (r:Int) (c:0≤r) (a:r≤127):Lib.encodeRune r=[u r]:=by unfold Lib.encodeRune;rw[Lib.encodeRuneZ_one c a];rfl
theorem enc2 (r:Int) (c:128≤r) (a:r≤2047):Lib.encodeRune r=[u (192+r / 64),u (128+r%64)]:=by unfold Lib.encodeRune;rw[Lib.encodeRuneZ_two c a];rfl
theorem enc3 (r:Int) (h:(2048≤r∧r<55296)∨(57343<r∧r≤65535)):Lib.encodeRune r=[u (224+r / 4096),u (128+r / 64%64),u (128+r%64)]:=by unfold Lib.encodeRune;rw[Lib.encodeRuneZ_three h];rfl
theorem enc4 (r:Int) (c:65536≤r) (a:r≤1114111):Lib.encodeRune r=[u (240+r / 262144),u (128+r / 4096%64),u (128+r / 64%64),u (128+r%64)]:=by unfold Lib.encodeRune;rw[Lib.encodeRuneZ_four c a];rfl
theorem encBad (r:Int) (h:¬xk r):Lib.encodeRune r=Lib.encodeRune 65533:=by
 unfold Lib.encodeRune;rw[Lib.encodeRuneZ_bad (by unfold xk at h;omega),Lib.encodeRuneZ_three (r:=65533) (by omega)];rfl
theorem adB (c:UInt8):u (c.toNat:Int)=c:=by unfold u;simp
theorem G8 (x:Int) (c:UInt8) (h:x=(c.toNat:Int)):u x=c:=by rw[h,adB]
theorem qK (x:UInt8) (t:List UInt8):
  ((rd (x::t)).2.2=true→xk (rd (x::t)).1∧Lib.encodeRune (rd (x::t)).1=(x::t).take (rd (x::t)).2.1.toNat)∧((rd (x::t)).2.2=false→(rd (x::t)).1=65533):=by
 have hx:(x.toNat:Int)<256:=by have:=x.toNat_lt;omega
 simp only[rd];by_cases a:(x.toNat:Int)≤127
 ·rw[if_pos a];refine⟨fun _=>⟨by unfold xk;simp only;omega,?_⟩,fun h=>by cases h⟩;simp only;rw[enc1 _ (by omega) a,adB];rfl
 rw[if_neg a];by_cases b:(x.toNat:Int)≤193∨245≤(x.toNat:Int)
 ·rw[if_pos b];exact⟨(fun h=>by cases h),fun _=>rfl⟩
 rw[if_neg b];by_cases c2:(x.toNat:Int)≤223
 ·rw [if_pos c2];have j:lo x.toNat=128:=by unfold lo;(repeat' split)<;>omega
  have k:hi x.toNat=191:=by unfold hi;(repeat' split)<;>omega
  match t with
  |[]=>simp[tail]
  |y::t=>
   have c:(y.toNat:Int)<256:=by have:=y.toNat_lt;omega
   rw[tail,j,k];by_cases d:(y.toNat:Int)<128∨191<(y.toNat:Int)
   ·rw[if_pos d];exact⟨(fun h=>by cases h),fun _=>rfl⟩
   ·rw[if_neg d,tail];refine⟨fun _=>⟨by unfold xk;simp only;omega,?_⟩,fun h=>by cases h⟩;simp only;rw[enc2 _ (by omega) (by omega),G8 _ x (by omega),G8 _ y (by omega)];rfl
 rw[if_neg c2];by_cases c3:(x.toNat:Int)≤239
 ·rw [if_pos c3]
  match t with
  |[]=>simp[tail]
  | y ::t=>
   have c:(y.toNat:Int)<256:=by have:=y.toNat_lt;omega
   rw[tail];by_cases d:(y.toNat:Int)<lo x.toNat∨hi x.toNat<(y.toNat:Int)
   ·rw[if_pos d];exact⟨(fun h=>by cases h),fun _=>rfl⟩
   ·rw [if_neg d];have i:128≤(y.toNat:Int)∧(y.toNat:Int)≤191∧((x.toNat:Int)=224→160≤(y.toNat:Int))∧((x.toNat:Int)=237→(y.toNat:Int)≤159):=by
     unfold lo hi at d
     (repeat' split at d)<;>omega
    match t with
    |[]=>simp[tail]
    |z::t=>
     have e:(z.toNat:Int)<256:=by have:=z.toNat_lt;omega
     rw[tail];by_cases f:(z.toNat:Int)<128∨191<(z.toNat:Int)
     ·rw[if_pos f];exact⟨(fun h=>by cases h),fun _=>rfl⟩
     ·rw[if_neg f,tail];refine⟨fun _=>⟨by unfold xk;simp only;omega,?_⟩,fun h=>by cases h⟩;simp only;rw[enc3 _ (by omega),G8 _ x (by omega),G8 _ y (by omega),G8 _ z (by omega)];rfl
 ·rw [if_neg c3]
  match t with
  |[]=>simp[tail]
  | y :: t =>
   have c:(y.toNat:Int)<256:=by have:=y.toNat_lt;omega
   rw[tail];by_cases d:(y.toNat:Int)<lo x.toNat∨hi x.toNat<(y.toNat:Int)
   ·rw[if_pos d];exact⟨(fun h=>by cases h),fun _=>rfl⟩
   ·rw [if_neg d];have i:128≤(y.toNat:Int)∧(y.toNat:Int)≤191∧((x.toNat:Int)=240→144≤(y.toNat:Int))∧((x.toNat:Int)=244→(y.toNat:Int)≤143):=by
     unfold lo hi at d
     (repeat' split at d)<;>omega
    match t with
    |[]=>simp[tail]
    | z ::t=>
     have e:(z.toNat:Int)<256:=by have:=z.toNat_lt;omega
     rw[tail];by_cases f:(z.toNat:Int)<128∨191<(z.toNat:Int)
     ·rw[if_pos f];exact⟨(fun h=>by cases h),fun _=>rfl⟩
     ·rw [if_neg f]
      match t with
      |[]=>simp[tail]
      |v::t=>
       have l:(v.toNat:Int)<256:=by have:=v.toNat_lt;omega
       rw[tail];by_cases g:(v.toNat:Int)<128∨191<(v.toNat:Int)
       ·rw[if_pos g];exact⟨(fun h=>by cases h),fun _=>rfl⟩
       ·rw[if_neg g,tail];refine⟨fun _=>⟨by unfold xk;simp only;omega,?_⟩,fun h=>by cases h⟩;simp only;rw[enc4 _ (by omega) (by omega),G8 _ x (by omega),G8 _ y (by omega),G8 _ z (by omega),G8 _ v (by omega)];rfl
theorem Ov (r:Int) (t:List UInt8):Lib.encodeRune r++t≠[]:=by
 intro h;have:=Ak r;have e:=congrArg List.length h;simp at e;rw[e.1]at this;simp at this
theorem dS (r:Int) (l:List Int):enc (r::l)=Lib.encodeRune r++enc l:=by simp[enc]
theorem Qg:xk 65533:=by decide
theorem Qh:∀(n:Nat) (L:List UInt8),L.length≤n→∀r ∈ dec L,xk r
 |_,[],_,r,h=>by simp[mZ]at h
 |0,_::_,h,_,_=>by simp at h
 |n+1,x::t,hl,r,h=>by
  have a:=nD x t
  rw[gU,List.mem_cons]at h
  rcases h with rfl|h
  ·cases hw:(rd (x::t)).2.2
   ·rw[(qK x t).2 hw];exact Qg
   ·exact((qK x t).1 hw).1
  ·exact Qh n _ (by simp only[List.length_drop,List.length_cons]at hl⊢;omega) r h
theorem uq (L:List UInt8):∀r ∈ dec L,xk r:=Qh _ L (Nat.le_refl _)
end RY
