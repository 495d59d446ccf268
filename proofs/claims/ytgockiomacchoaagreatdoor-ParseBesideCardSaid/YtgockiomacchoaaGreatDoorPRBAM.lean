/- Lemmas. -/
import Derived.Test.YtgockiomacchoaaGreatDoorPRBAL
set_option linter.unusedSimpArgs false
set_option linter.unusedVariables false
set_option maxRecDepth 100000
set_option maxHeartbeats 64000000
namespace Go.Proofs.YtgockiomacchoaaGreatDoor
open Tryz
namespace TA
open Go.RowKit Base eH bf iI oQ mD JR jR ug iH gK mY jw uf zf aJ yG vP vK yH
theorem uY (L:List UInt8) (w:World):Calls prog 33 #[.string (ah L),.string (cs true)] w fun e w'=>e=.returned (.string (ah (L.dropWhile (bW true))))∧Below w.heap.size w w':=by
 refine(strings_TrimLeft_set (ah L) (cs true) w (by decide) (fun j b h=>?_)).mono ?_
 ·have:b ∈ [47,92]:=List.mem_of_getElem? h;simp only[List.mem_cons,List.not_mem_nil,or_false]at this;rcases this with rfl|rfl<;>decide
 rintro e d ⟨rfl,a⟩;refine⟨?_,a⟩;rw[show(ah L).data.toList=L from rfl,show(cs true).data.toList=[47,92]from rfl];unfold Lib.trimLeftS;congr 3;have:(fun c=>[47,92].contains c)=bW true:=by
  funext c
  simp[bW]
 rw[this]
theorem Po (T:List UInt8) (w:World) (hs:T.length≤900000) (hL:oZ w) (hT:Tab.Pow w) (hM:Max w):Calls prog 83 #[.string (ah T)] w (l7 w (far T)):=by
 obtain⟨O,hO⟩:∃O,O=far T:=⟨_,rfl⟩;rw[←hO];obtain⟨X,hX⟩:∃X,X=T.take (upto true T):=⟨_,rfl⟩;obtain⟨D,hD⟩:∃D,D=T.drop (upto true T):=⟨_,rfl⟩;have d0:X.length≤900000:=by rw[hX,List.length_take];omega
 have a9:D.length≤900000:=by rw[hD,List.length_drop];omega
 have hU:∀w:World,Calls prog 93 #[.string ⟨#[102,105,108,101]⟩,.string (ah T)] w fun e w'=>e=.returned (.tuple #[.string (ah X),.string (ah D)])∧Below w.heap.size w w':=fun w=>by rw[hX,hD];exact Ik (ah ay) (ah T) w (dN (by omega))
 unfold far at hO;rw[←hX,←hD]at hO;have HO:=hid hO;have HU:=hid hU;have a7:Hid (∀w:World,Calls prog 132 #[.string (ah X)] w fun e w'=>e=.returned (.bool (lq X))∧w=w'):=fun w=>jK (ah X) w;have a6:Hid (∀(L:List UInt8) (w:World),L.length≤900000→Calls prog 92 #[.string ⟨#[102,105,108,101]⟩,.string (ah L)] w (jY w.heap.size w (aB ay L))):=fun L w h=>uS (ah ay) (ah L) w (dN h);have HH:Hid (∀w:World,oZ w→Tab.Pow w→Max w→Calls prog 96 #[.string (ah X),.bool true] w fun e w'=>e=.returned (HV (aU X true))∧Below w.heap.size w w'):=fun w a b d=>uf.jl (ah X) true w (dN d0) a b d;have HL:=hid hL;have HT:=hid hT;have HM:=hid hM;clear hO hU hX hD hL hT hM d0;go_enter func83,ntmps83;go_upto_region 1 with(fail)
 generalize hw:World.alloc w _=w1;have h1:UB w1 (w.heap.size) (U0) (.slice none 0 0)∧Below w.heap.size w w1:=by
  subst hw;exact jd w _ _
 clear hw;have z:Hid (w.heap.size≤w.heap.size):=(Below.refl w.heap.size w).size;have a8:=hid (bD (Below.refl w.heap.size w) h1.2);have a4:=hid h1.1;clear h1;go_upto_region 2 with(fail)
 generalize hw:World.alloc w1 _=w2;have h1:UB w2 (w1.heap.size) (uF) (.slice none 0 0)∧Below w1.heap.size w1 w2:=by
  subst hw;exact jd w1 _ _
 clear hw;have d6:=a4.lt;have y:Hid (w.heap.size≠w1.heap.size):=by show _≠_;omega
 clear d6;have Q:Hid (w.heap.size≤w1.heap.size):=a8.size;have b9:=hid (a4.below h1.2);have d5:=hid (bD a8 h1.2);have b8:=hid h1.1;clear h1;go_wp2_with fail
 refine(HU _).mono ?_;rintro e w3 ⟨rfl,f⟩;have A:=hid (b9.below f);have E:=hid (b8.below f);have s:=hid (bD d5 f);clear f;cases hd:lq X with
 |true=>
  have a1:Hid (O=some {uF with aF:=aB ay T}):=by show _=_;rw[HO.out,if_pos hd]
  rw[hd]at a7;clear hd;go_wp2_with fail
  refine(a7 _).mono ?_;rintro e wx ⟨rfl,V⟩;obtain rfl:w3=wx:=by first|exact V|exact V.symm
  clear V;go_wp2_with fail
  refine(a6 T _ hs).mono ?_;rintro e w4 ⟨q,rfl,c,f⟩;obtain⟨x,v,rfl,hq⟩:=bV (u:={U0 with aF:=aB ay T}) c;clear hq;replace c:=aH c (Nat.le_refl _);have a2:Hid (w1.heap.size<w3.heap.size):=E.lt;have G:Hid (w.heap.size<w3.heap.size):=A.lt;have m:=hid (A.below f);have g:=hid (E.below f);have B:=hid (bD s f);have a0:=hid c;clear c;clear f;have Y:=a2.out;have cx:=g.facts.2.2.2.2.2.2.2.2.1;have fx:=g.thaw.2.2.2.2.2.2.2.2.1;go_upto_region 12 with(fail)
  have r:=m.set (k:=w1.heap.size) (i:=8) (.slice x (aB ay T).length v) (y);have n:=g.path (.slice x (aB ay T).length v);have t:=fC.aP (w':=w4.setCell ⟨w1.heap.size,8,none⟩ (.slice x (aB ay T).length v)) (gb:=w1.heap.size) a0 (fun k hk=>heap_setCell_other _ _ _ _ hk) (by omega);have J:=B.setCell (p:=⟨w1.heap.size,8,none⟩) (Q) (.slice x (aB ay T).length v);clear cx fx;generalize World.setCell w4 _ _=P at r n t J⊢;have l:Hid (UB P (w.heap.size) (U0) (.slice none 0 0)):=r;clear r;have j:Hid (UB P (w1.heap.size) (uF) (.slice x (aB ay T).length v)):=n;clear n;have F:=hid t;clear t;have I:=hid J;clear J;clear Y;obtain⟨c0,c1,b0,c3,c4,c5,c6,c7,c8,c9,b6,b5,b3⟩:=j.facts;go_wp2_with (refine aI l (uF) x (aB ay T).length v (.tmp 2) (.tmp 35) rfl rfl rfl rfl ?_)
  have W:∀k,k≠w.heap.size→(World.setRow P (w.heap.size) (cells (uF) (.slice x (aB ay T).length v))).heap[k]?=P.heap[k]?:=fun k hk=>setRow_other _ _ _ _ hk;have ho:=aH (fC.aP F W G) (by have h1:=z.out;have h2:=G.out;omega:w.heap.size≤_);exact bodyPost_ret (gJ rfl (l.row (uF) _) true _ rfl rfl) rfl (dW (u:={uF with aF:=aB ay T}) a1 (below_setRow I z _) ho)
 | false=>
  have d3:Hid (O=if X=[]then some {uF with aF:=aB ay D}else match aU X true with|none=>none|some H=>some {uF with aU:=if H=LOCAL then[]else H,aF:=aB ay D}):=by show _=_;rw[HO.out,if_neg (by rw[hd];simp)];first|done|rfl
  rw[hd]at a7;clear hd;go_wp2_with fail
  refine(a7 _).mono ?_;rintro e wx ⟨rfl,V⟩;obtain rfl:w3=wx:=by first|exact V|exact V.symm
  clear V;by_cases h0:X=[]
  ·
   have a1:Hid (O=some {uF with aF:=aB ay D}):=by show _=_;rw[d3.out,if_pos h0]
   have q0:((ah X).toList==[])=true:=by rw[bG,h0];rfl
   have q1:(ah X).toList=[]:=by rw[bG,h0]
   clear h0;go_wp2_with fail
   refine(a6 D _ a9).mono ?_;rintro e w4 ⟨q,rfl,c,f⟩;obtain⟨x,v,rfl,hq⟩:=bV (u:={U0 with aF:=aB ay D}) c;clear hq;replace c:=aH c (Nat.le_refl _);have a2:Hid (w1.heap.size<w3.heap.size):=E.lt;have G:Hid (w.heap.size<w3.heap.size):=A.lt;have m:=hid (A.below f);have g:=hid (E.below f);have B:=hid (bD s f);have a0:=hid c;clear c;clear f;have Y:=a2.out;have cx:=g.facts.2.2.2.2.2.2.2.2.1;have fx:=g.thaw.2.2.2.2.2.2.2.2.1;go_upto_region 12 with(fail)
   have r:=m.set (k:=w1.heap.size) (i:=8) (.slice x (aB ay D).length v) (y);have n:=g.path (.slice x (aB ay D).length v);have t:=fC.aP (w':=w4.setCell ⟨w1.heap.size,8,none⟩ (.slice x (aB ay D).length v)) (gb:=w1.heap.size) a0 (fun k hk=>heap_setCell_other _ _ _ _ hk) (by omega);have J:=B.setCell (p:=⟨w1.heap.size,8,none⟩) (Q) (.slice x (aB ay D).length v);clear cx fx;generalize World.setCell w4 _ _=P at r n t J⊢;have l:Hid (UB P (w.heap.size) (U0) (.slice none 0 0)):=r;clear r;have j:Hid (UB P (w1.heap.size) (uF) (.slice x (aB ay D).length v)):=n;clear n;have F:=hid t;clear t;have I:=hid J;clear J;clear Y;obtain⟨c0,c1,b0,c3,c4,c5,c6,c7,c8,c9,b6,b5,b3⟩:=j.facts;go_wp2_with (refine aI l (uF) x (aB ay D).length v (.tmp 2) (.tmp 35) rfl rfl rfl rfl ?_)
   have W:∀k,k≠w.heap.size→(World.setRow P (w.heap.size) (cells (uF) (.slice x (aB ay D).length v))).heap[k]?=P.heap[k]?:=fun k hk=>setRow_other _ _ _ _ hk;have ho:=aH (fC.aP F W G) (by have h1:=z.out;have h2:=G.out;omega:w.heap.size≤_);exact bodyPost_ret (gJ rfl (l.row (uF) _) true _ rfl rfl) rfl (dW (u:={uF with aF:=aB ay D}) a1 (below_setRow I z _) ho)
  ·
   have d2:Hid (O=match aU X true with|none=>none|some H=>some {uF with aU:=if H=LOCAL then[]else H,aF:=aB ay D}):=by show _=_;rw[d3.out,if_neg h0]
   have q0:((ah X).toList==[])=false:=by rw[bG,beq_eq_false_iff_ne];exact h0
   have q1:¬(ah X).toList=[]:=by rw[bG];exact h0
   have q2:(ah X).toList.isEmpty=false:=by rw[bG];simpa using h0
   clear h0;cases hx:aU X true with
   |none=>
    have d7:Hid (O=none):=by show _=_;rw[d2.out,hx]
    rw[hx]at HH;clear hx;go_wp2_with fail
    refine(HH _ (HL.below s) (cZ HT s) (HM.below s)).mono ?_;rintro e w4 ⟨rfl,f⟩;have m:=hid (A.below f);have B:=hid (bD s f);clear f;rw[show HV none=.tuple #[.string (ah []),.bool false]from rfl];go_wp2_with (refine aI m U0 none 0 0 (.tmp 2) (.tmp 27) rfl rfl rfl rfl ?_)
    exact bodyPost_ret (gJ rfl (m.row U0 _) false _ rfl rfl) rfl (jH d7 (below_setRow B z _))
   |some H=>
    have d1:Hid (O=some {uF with aU:=if H=LOCAL then[]else H,aF:=aB ay D}):=by show _=_;rw[d2.out,hx]
    rw[hx]at HH;clear hx;go_wp2_with fail
    refine(HH _ (HL.below s) (cZ HT s) (HM.below s)).mono ?_;rintro e w4 ⟨rfl,f⟩;have m:=hid (A.below f);have g:=hid (E.below f);have B:=hid (bD s f);clear f;rw[show HV (some H)=.tuple #[.string (ah H),.bool true]from rfl]
    skip
    by_cases hl:H=LOCAL
    ·
     have a1:Hid (O=some {uF with aF:=aB ay D}):=by show _=_;rw[d1.out,if_pos hl];rfl
     have l0:((ah H).toList==[108,111,99,97,108,104,111,115,116])=true:=by rw[bG,hl];rfl
     have l1:(ah H).toList=[108,111,99,97,108,104,111,115,116]:=by rw[bG,hl];rfl
     clear hl;go_wp2_with fail
     refine(a6 D _ a9).mono ?_;rintro e P ⟨q,rfl,c,f⟩;obtain⟨x,v,rfl,hq⟩:=bV (u:={U0 with aF:=aB ay D}) c;clear hq;replace c:=aH c (Nat.le_refl _);have a2:Hid (w1.heap.size<w4.heap.size):=g.lt;have G:Hid (w.heap.size<w4.heap.size):=m.lt;have l:=hid (m.below f);have j:=hid (g.below f);have I:=hid (bD B f);have F:=hid c;clear c;clear f;have Y:=a2.out;have cx:=j.facts.2.2.2.2.2.2.2.2.1;have fx:=j.thaw.2.2.2.2.2.2.2.2.1;go_upto_region 12 with(fail)
     have r:=l.set (k:=w1.heap.size) (i:=8) (.slice x (aB ay D).length v) (y);have n:=j.path (.slice x (aB ay D).length v);have t:=fC.aP (w':=P.setCell ⟨w1.heap.size,8,none⟩ (.slice x (aB ay D).length v)) (gb:=w1.heap.size) F (fun k hk=>heap_setCell_other _ _ _ _ hk) (by omega);have J:=I.setCell (p:=⟨w1.heap.size,8,none⟩) (Q) (.slice x (aB ay D).length v);clear cx fx;generalize World.setCell P _ _=w6 at r n t J⊢;have N:Hid (UB w6 (w.heap.size) (U0) (.slice none 0 0)):=r;clear r;have C:Hid (UB w6 (w1.heap.size) (uF) (.slice x (aB ay D).length v)):=n;clear n;have Z:=hid t;clear t;have a5:=hid J;clear J;clear Y;obtain⟨c0,c1,b0,c3,c4,c5,c6,c7,c8,c9,b6,b5,b3⟩:=C.facts;go_wp2_with (refine aI N (uF) x (aB ay D).length v (.tmp 2) (.tmp 35) rfl rfl rfl rfl ?_)
     have W:∀k,k≠w.heap.size→(World.setRow w6 (w.heap.size) (cells (uF) (.slice x (aB ay D).length v))).heap[k]?=w6.heap[k]?:=fun k hk=>setRow_other _ _ _ _ hk;have ho:=aH (fC.aP Z W G) (by have h1:=z.out;have h2:=G.out;omega:w.heap.size≤_);exact bodyPost_ret (gJ rfl (N.row (uF) _) true _ rfl rfl) rfl (dW (u:={uF with aF:=aB ay D}) a1 (below_setRow a5 z _) ho)
    ·
     have a1:Hid (O=some {uF with aU:=H,aF:=aB ay D}):=by show _=_;rw[d1.out,if_neg hl]
     have l0:((ah H).toList==[108,111,99,97,108,104,111,115,116])=false:=by rw[bG,beq_eq_false_iff_ne];exact hl
     have l1:¬(ah H).toList=[108,111,99,97,108,104,111,115,116]:=by rw[bG];exact hl
     clear hl;have cx:=g.facts.2.2.2.1;have fx:=g.thaw.2.2.2.1;go_upto_region 11 with(fail)
     have r:=m.set (k:=w1.heap.size) (i:=3) (.string (ah H)) (y);have n:=g.aU H;have J:=B.setCell (p:=⟨w1.heap.size,3,none⟩) (Q) (.string (ah H));clear cx fx;generalize World.setCell w4 _ _=P at r n J⊢;have l:Hid (UB P (w.heap.size) (U0) (.slice none 0 0)):=r;clear r;have j:Hid (UB P (w1.heap.size) ({uF with aU:=H}) (.slice none 0 0)):=n;clear n;have I:=hid J;clear J;go_wp2_with fail
     refine(a6 D _ a9).mono ?_;rintro e w6 ⟨q,rfl,c,f⟩;obtain⟨x,v,rfl,hq⟩:=bV (u:={U0 with aF:=aB ay D}) c;clear hq;replace c:=aH c (Nat.le_refl _);have a2:Hid (w1.heap.size<P.heap.size):=j.lt;have G:Hid (w.heap.size<P.heap.size):=l.lt;have N:=hid (l.below f);have C:=hid (j.below f);have a5:=hid (bD I f);have Z:=hid c;clear c;clear f;have Y:=a2.out;have cx:=C.facts.2.2.2.2.2.2.2.2.1;have fx:=C.thaw.2.2.2.2.2.2.2.2.1;go_upto_region 12 with(fail)
     have r:=N.set (k:=w1.heap.size) (i:=8) (.slice x (aB ay D).length v) (y);have n:=C.path (.slice x (aB ay D).length v);have t:=fC.aP (w':=w6.setCell ⟨w1.heap.size,8,none⟩ (.slice x (aB ay D).length v)) (gb:=w1.heap.size) Z (fun k hk=>heap_setCell_other _ _ _ _ hk) (by omega);have J:=a5.setCell (p:=⟨w1.heap.size,8,none⟩) (Q) (.slice x (aB ay D).length v);clear cx fx;generalize World.setCell w6 _ _=w7 at r n t J⊢;have a3:Hid (UB w7 (w.heap.size) (U0) (.slice none 0 0)):=r;clear r;have b7:Hid (UB w7 (w1.heap.size) ({uF with aU:=H}) (.slice x (aB ay D).length v)):=n;clear n;have c2:=hid t;clear t;have d4:=hid J;clear J;clear Y;obtain⟨c0,c1,b0,c3,c4,c5,c6,c7,c8,c9,b6,b5,b3⟩:=b7.facts;go_wp2_with (refine aI a3 ({uF with aU:=H}) x (aB ay D).length v (.tmp 2) (.tmp 35) rfl rfl rfl rfl ?_)
     have W:∀k,k≠w.heap.size→(World.setRow w7 (w.heap.size) (cells ({uF with aU:=H}) (.slice x (aB ay D).length v))).heap[k]?=w7.heap[k]?:=fun k hk=>setRow_other _ _ _ _ hk;have ho:=aH (fC.aP c2 W G) (by have h1:=z.out;have h2:=G.out;omega:w.heap.size≤_);exact bodyPost_ret (gJ rfl (a3.row ({uF with aU:=H}) _) true _ rfl rfl) rfl (dW (u:={uF with aU:=H,aF:=aB ay D}) a1 (below_setRow d4 z _) ho)
theorem Ji (T:List UInt8) (b:U) (A:Option Addr) (n c:Nat) (w:World) (hs:T.length≤700000) (hn:n≤100000) (hP:iC w b A n c) (hL:oZ w) (hT:Tab.Pow w) (hM:Max w):Calls prog 31 #[.string (ah T),.agg (cells b (.slice A n c))] w (l7 w (dS T b)):=by
 obtain⟨O,hO⟩:∃O,O=dS T b:=⟨_,rfl⟩;rw[←hO];obtain⟨s0,f4⟩:∃x,x=iK (aj b.au) T 0:=⟨_,rfl⟩;obtain⟨s1,c2⟩:∃x,x=iK (aj b.au) T 1:=⟨_,rfl⟩;unfold dS at hO;rw[←f4,←c2]at hO;have f2:s1=true→2≤T.length:=fun h=>by
  rw[h]at c2;by_cases h2:1<T.length
  ·omega
  rw[sJ _ _ _ h2]at c2;cases c2
 have g7:=hid f2;have g2:Hid (∀w:World,Calls prog 82 #[.string (ah b.au),.string (ah T),.int .i64 0] w fun e w'=>e=.returned (.bool s0)∧Below w.heap.size w w'):=fun w=>by rw[f4];exact kC (ah b.au) (ah T) 0 w (by omega)
 have i0:Hid (∀w:World,Calls prog 82 #[.string (ah b.au),.string (ah T),.int .i64 1] w fun e w'=>e=.returned (.bool s1)∧Below w.heap.size w w'):=fun w=>by rw[c2];exact kC (ah b.au) (ah T) 1 w (by omega)
 have HO:=hid hO;have g1:Hid (∀w:World,Calls prog 29 #[.string (ah b.au)] w fun e w'=>e=.returned (.bool (aj b.au))∧w'=w):=fun w=>jC (ah b.au) w;have g6:Hid (∀w:World,Calls prog 34 #[.string (ah b.au)] w fun e w'=>e=.returned (.string (cs (aj b.au)))∧w'=w):=fun w=>oN (ah b.au) w;have h9:Hid (∀(L:List UInt8) (w:World),Calls prog 33 #[.string (ah L),.string (cs true)] w fun e w'=>e=.returned (.string (ah (L.dropWhile (bW true))))∧Below w.heap.size w w'):=fun L w=>uY L w;have g9:Hid (∀(L:List UInt8) (w:World),L.length≤900000→oZ w→Tab.Pow w→Max w→Calls prog 32 #[.string (ah b.au),.string (ah L)] w (l7 w (authority b.au L))):=fun L w h a c d=>nR b.au L w h a c d;have i1:Hid (∀w:World,Calls prog 92 #[.string (ah b.au),.string (ah T)] w (jY w.heap.size w (aB b.au T))):=fun w=>uS (ah b.au) (ah T) w (dN (by omega));have HL:=hid hL;have HT:=hid hT;have HM:=hid hM;have HP:=hid hP;clear hO f4 c2 f2 hL hT hM hP;go_enter func31,ntmps31;go_upto_region 1 with(fail)
 generalize hw:World.alloc (World.alloc w _) _=w1;have h1:UB w1 (w.heap.size) (b) (.slice A n c)∧UB w1 ((w.heap.size+1)) (U0) (.slice none 0 0)∧Below w.heap.size w w1:=by
  subst hw;exact EH w _ _ _ _
 clear hw;have F:Hid (w.heap.size≤(w.heap.size+1)):=Nat.le_succ _;have e3:=hid h1.1;have g0:=hid h1.2.1;have g8:=hid h1.2.2;clear h1;obtain⟨d0,d1,d2,d3,d4,d5,d6,d7,d8,d9,a2,a1,a0⟩:=e3.facts;go_wp2_with fail
 refine(g2 _).mono ?_;rintro e w2 ⟨rfl,f⟩;have b5:=hid (e3.below f);have e2:=hid (g0.below f);have f3:=hid (bD g8 f);clear f;cases s0 with
 | true=>
  clear d0 d1 d2 d3 d4 d5 d6 d7 d8 d9 a2 a1 a0;go_wp2_with fail
  refine(i0 _).mono ?_;rintro e I ⟨rfl,f⟩;have Z:=hid (b5.below f);have C:=hid (e2.below f);have z:=hid (bD f3 f);clear f;cases s1 with
  |true=>
   have h3:=g7 rfl;have a3:Hid (O=authority b.au (if aj b.au=true then(T.drop 2).dropWhile (bW true)else T.drop 2)):=by show _=_;rw[HO.out,if_pos (by simp)];first|done|rfl
   obtain⟨T2,e7⟩:∃x,x=T.drop 2:=⟨_,rfl⟩;have g4:(ah T).extract 2 (ah T).size=ah T2:=by rw[kS,e7];rfl
   have i4:(2:Int)≤((ah T).size:Int):=by rw[ak];omega
   rw[←e7]at a3;have i2:T2.length≤800000:=by rw[e7,List.length_drop];omega
   clear e7 h3;obtain⟨sp,g5⟩:∃x,x=aj b.au:=⟨_,rfl⟩;rw[←g5]at g1 g6 a3;clear g5;cases sp with
   |true=>
    go_wp2_with fail
    refine(g1 _).mono ?_;rintro e wx ⟨rfl,W⟩;obtain rfl:I=wx:=by first|exact W|exact W.symm
    clear W;go_wp2_with fail
    refine(g6 _).mono ?_;rintro e wx ⟨rfl,W⟩;obtain rfl:I=wx:=by first|exact W|exact W.symm
    clear W;clear g4;go_wp2_with fail
    refine(h9 T2 _).mono ?_;rintro e w4 ⟨rfl,f⟩;have m:=hid (C.below f);have s:=hid (bD z f);clear f;have h8:(T2.dropWhile (bW true)).length≤900000:=by have:=(List.dropWhile_sublist (bW true) (l:=T2)).length_le;omega
    go_wp2_with fail
    refine(g9 _ _ h8 (HL.below s) (cZ HT s) (HM.below s)).mono ?_;rintro e w5 ⟨f,u',A',n',c',ok,rfl,j,e1⟩;have H:Hid ((w.heap.size+1)<w4.heap.size):=m.lt;have b8:=hid j;have g3:=hid e1;clear j e1;have y:=hid (m.below f);have G:=hid (bD s f);have e4:Hid (w.heap.size≤w4.heap.size):=s.size;clear f;go_wp2_with (refine aI y u' A' n' c' (.tmp 4) (.tmp 29) rfl rfl rfl rfl ?_)
    exact bodyPost_ret (gJ rfl (y.row u' _) ok _ rfl rfl) rfl ⟨below_setRow G F _,u',A',n',c',ok,rfl,(b8.row H _).base e4,by rw[a3.out,if_pos (by simp)];exact g3⟩
   |false=>
    go_wp2_with fail
    refine(g1 _).mono ?_;rintro e wx ⟨rfl,W⟩;obtain rfl:I=wx:=by first|exact W|exact W.symm
    clear W;clear g4;go_wp2_with fail
    refine(g9 _ _ (by omega) (HL.below z) (cZ HT z) (HM.below z)).mono ?_;rintro e w4 ⟨f,u',A',n',c',ok,rfl,j,e1⟩;have H:Hid ((w.heap.size+1)<I.heap.size):=C.lt;have b8:=hid j;have g3:=hid e1;clear j e1;have m:=hid (C.below f);have s:=hid (bD z f);have e4:Hid (w.heap.size≤I.heap.size):=z.size;clear f;go_wp2_with (refine aI m u' A' n' c' (.tmp 4) (.tmp 29) rfl rfl rfl rfl ?_)
    exact bodyPost_ret (gJ rfl (m.row u' _) ok _ rfl rfl) rfl ⟨below_setRow s F _,u',A',n',c',ok,rfl,(b8.row H _).base e4,by rw[a3.out,if_neg (by simp)];exact g3⟩
  |false=>
   have a3:Hid (O=some {aN b with aF:=aB b.au T}):=by show _=_;rw[HO.out,if_neg (by simp),if_pos (by simp)]
   obtain⟨d0,d1,d2,d3,d4,d5,d6,d7,d8,d9,a2,a1,a0⟩:=Z.facts;go_wp2_with fail
   refine(uH b (.slice A n c) _).mono ?_;rintro e w4 ⟨rfl,f⟩;have a5:=hid (Z.below f);have m:=hid (C.below f);have s:=hid (bD z f);clear f;rw[show(aN b).agg none 0 0=.agg #[.string (ah b.au),.string (ah b.bY),.string (ah b.bZ),.string (ah b.aU),.bool b.hh,.int .i64 b.port,.bool false,.string ⟨#[]⟩,.slice none 0 0,.bool false,.bool false,.string ⟨#[]⟩,.string ⟨#[]⟩]from rfl];clear d0 d1 d2 d3 d4 d5 d6 d7 d8 d9 a2 a1 a0;go_upto_region 9 with(fail)
   generalize hw:World.alloc w4 _=w5;have h1:UB w5 (w4.heap.size) (aN b) (.slice none 0 0)∧Below w4.heap.size w4 w5:=by
    subst hw;exact jd w4 _ _
   clear hw;have f8:=a5.lt;have a4:Hid (w.heap.size≠w4.heap.size):=by show _≠_;omega
   clear f8;have f7:=m.lt;have N:Hid ((w.heap.size+1)≠w4.heap.size):=by show _≠_;omega
   clear f7;have b9:Hid (w.heap.size≤w4.heap.size):=s.size;have Y:=hid (a5.below h1.2);have y:=hid (m.below h1.2);have G:=hid (bD s h1.2);have D:=hid h1.1;clear h1
   skip
   go_wp2_with fail
   refine(g2 _).mono ?_;rintro e w6 ⟨rfl,f⟩;have b3:=hid (Y.below f);have B:=hid (y.below f);have t:=hid (D.below f);have a7:=hid (bD G f);clear f;go_wp2_with fail
   refine(i1 _).mono ?_;rintro e w7 ⟨q,rfl,j,f⟩;obtain⟨P,J,rfl,hq⟩:=bV (u:={U0 with aF:=aB b.au T}) j;clear hq;replace j:=aH j (Nat.le_refl _);have e5:Hid (w4.heap.size<w6.heap.size):=t.lt;have H:Hid ((w.heap.size+1)<w6.heap.size):=B.lt;have b0:=hid (b3.below f);have E:=hid (B.below f);have r:=hid (t.below f);have a6:=hid (bD a7 f);have b7:=hid j;clear j;clear f;have f6:=e5.out;have cx:=r.facts.2.2.2.2.2.2.2.2.1;have fx:=r.thaw.2.2.2.2.2.2.2.2.1;go_upto_region 13 with(fail)
   have e0:=b0.set (k:=w4.heap.size) (i:=8) (.slice P (aB b.au T).length J) (a4);have V:=E.set (k:=w4.heap.size) (i:=8) (.slice P (aB b.au T).length J) (N);have Q:=r.path (.slice P (aB b.au T).length J);have a8:=fC.aP (w':=w7.setCell ⟨w4.heap.size,8,none⟩ (.slice P (aB b.au T).length J)) (gb:=w4.heap.size) b7 (fun k hk=>heap_setCell_other _ _ _ _ hk) (by omega);have hb:=a6.setCell (p:=⟨w4.heap.size,8,none⟩) (b9) (.slice P (aB b.au T).length J);clear cx fx;generalize World.setCell w7 _ _=w8 at e0 V Q a8 hb⊢;clear e0;have X:Hid (UB w8 ((w.heap.size+1)) (U0) (.slice none 0 0)):=V;clear V;have a9:Hid (UB w8 (w4.heap.size) (aN b) (.slice P (aB b.au T).length J)):=Q;clear Q;have b6:=hid a8;clear a8;have e6:=hid hb;clear hb;clear f6;obtain⟨c0,c1,e8,c3,c4,c5,c6,c7,c8,c9,f1,f0,e9⟩:=a9.facts;go_wp2_with (refine aI X (aN b) P (aB b.au T).length J (.tmp 4) (.tmp 54) rfl rfl rfl rfl ?_)
   have f5:∀k,k≠(w.heap.size+1)→(World.setRow w8 ((w.heap.size+1)) (cells (aN b) (.slice P (aB b.au T).length J))).heap[k]?=w8.heap[k]?:=fun k hk=>setRow_other _ _ _ _ hk;have ho:=aH (fC.aP b6 f5 H) (by have h1:=F.out;have h2:=H.out;omega:w.heap.size≤_);exact bodyPost_ret (gJ rfl (X.row (aN b) _) true _ rfl rfl) rfl (dW (u:={aN b with aF:=aB b.au T}) a3 (below_setRow e6 F _) ho)
 | false=>
  clear d0 d1 d2 d3 d4 d5 d6 d7 d8 d9 a2 a1 a0;obtain⟨d0,d1,d2,d3,d4,d5,d6,d7,d8,d9,a2,a1,a0⟩:=b5.facts;go_wp2_with fail
  refine(uH b (.slice A n c) _).mono ?_;rintro e I ⟨rfl,f⟩;have Z:=hid (b5.below f);have C:=hid (e2.below f);have z:=hid (bD f3 f);clear f;rw[show(aN b).agg none 0 0=.agg #[.string (ah b.au),.string (ah b.bY),.string (ah b.bZ),.string (ah b.aU),.bool b.hh,.int .i64 b.port,.bool false,.string ⟨#[]⟩,.slice none 0 0,.bool false,.bool false,.string ⟨#[]⟩,.string ⟨#[]⟩]from rfl];clear d0 d1 d2 d3 d4 d5 d6 d7 d8 d9 a2 a1 a0;go_upto_region 9 with(fail)
  generalize hw:World.alloc I _=w4;have h1:UB w4 (I.heap.size) (aN b) (.slice none 0 0)∧Below I.heap.size I w4:=by
   subst hw;exact jd I _ _
  clear hw;have f8:=Z.lt;have a4:Hid (w.heap.size≠I.heap.size):=by show _≠_;omega
  clear f8;have f7:=C.lt;have N:Hid ((w.heap.size+1)≠I.heap.size):=by show _≠_;omega
  clear f7;have b9:Hid (w.heap.size≤I.heap.size):=z.size;have a5:=hid (Z.below h1.2);have m:=hid (C.below h1.2);have s:=hid (bD z h1.2);have f9:=hid h1.1;clear h1
  skip
  go_wp2_with fail
  refine(g2 _).mono ?_;rintro e w5 ⟨rfl,f⟩;have Y:=hid (a5.below f);have y:=hid (m.below f);have D:=hid (f9.below f);have G:=hid (bD s f);clear f;by_cases h0:T=[]
  ·
   have a3:Hid (O=some (along (aN b) b)):=by show _=_;rw[HO.out,if_neg (by simp),if_neg (by simp),if_pos h0]
   have q0:((ah T).toList==[])=true:=by rw[bG,h0];rfl
   have q1:(ah T).toList=[]:=by rw[bG,h0]
   clear h0;obtain⟨d0,d1,d2,d3,d4,d5,d6,d7,d8,d9,a2,a1,a0⟩:=Y.facts;obtain⟨c0,c1,e8,c3,c4,c5,c6,c7,c8,c9,f1,f0,e9⟩:=D.facts;go_wp2_with fail
   clear c0 c1 e8 c3 c4 c5 c6 c7 c8 c9 f1 f0 e9;clear d0 d1 d2 d3 d4 d5 d6 d7 d8 d9 a2 a1 a0;refine(Gq (aN b) b (.slice none 0 0) A n c _ (vP.iC.below HP G) (by omega)).mono ?_;rintro e w6 ⟨f,P,nq,J,rfl,j⟩;have e5:Hid (I.heap.size<w5.heap.size):=D.lt;have H:Hid ((w.heap.size+1)<w5.heap.size):=y.lt;have B:=hid (y.below f);have t:=hid (D.below f);have a7:=hid (bD G f);have b8:=hid j;clear j;clear f;have e4:Hid (w.heap.size≤w5.heap.size):=by have h1:=F.out;have h2:=H.out;show _≤_;omega
   go_upto_region 13 with(refine aI t (along (aN b) b) P nq J (.tmp 7) (.tmp 53) rfl rfl rfl rfl ?_)
   have Q:=t.row (along (aN b) b) (.slice P nq J);have V:=B.YI (k:=I.heap.size) N (cells (along (aN b) b) (.slice P nq J));have hb:=below_setRow a7 b9 (cells (along (aN b) b) (.slice P nq J));have ho:=b8.row (g:=I.heap.size) e5 (cells (along (aN b) b) (.slice P nq J));generalize World.setRow w6 _ _=w7 at Q V hb ho⊢;have r:=hid Q;have E:=hid V;have a6:=hid hb;have b8:=hid ho;clear Q V hb ho;obtain⟨c0,c1,e8,c3,c4,c5,c6,c7,c8,c9,f1,f0,e9⟩:=r.facts;go_wp2_with (refine aI E (along (aN b) b) P nq J (.tmp 4) (.tmp 54) rfl rfl rfl rfl ?_)
   exact bodyPost_ret (gJ rfl (E.row _ _) true _ rfl rfl) rfl (dW a3 (below_setRow a6 F _) ((b8.row H _).base e4))
  ·
   have a3:Hid (O=some {aN b with aF:=walk b.au (iW false b.aF) T}):=by show _=_;rw[HO.out,if_neg (by simp),if_neg (by simp),if_neg h0]
   have q0:((ah T).toList==[])=false:=by rw[bG,beq_eq_false_iff_ne];exact h0
   have q1:¬(ah T).toList=[]:=by rw[bG];exact h0
   have q2:(ah T).toList.isEmpty=false:=by rw[bG];simpa using h0
   clear h0;obtain⟨d0,d1,d2,d3,d4,d5,d6,d7,d8,d9,a2,a1,a0⟩:=Y.facts;go_wp2_with fail
   clear d0 d1 d2 d3 d4 d5 d6 d7 d8 d9 a2 a1 a0;refine(wZ false A n c b.aF _ (HP.1.below G) HP.2.1 HP.2.2 (by omega)).mono ?_;rintro e w6 ⟨v,rfl,j,f⟩;obtain⟨A4,c4,rfl,h4,h5,h6⟩:=aS j;have b3:=hid (Y.below f);have B:=hid (y.below f);have t:=hid (D.below f);have a7:=hid (bD G f);clear f j;have h7:b.aF.length=n:=by have:=HP.1.1;simpa using this
   have i3:(iW false b.aF).length≤n:=by
    have h:=nI false b.aF;split at h<;>omega
   clear h7;go_wp2_with fail
   refine(tZ (ah b.au) A4 (iW false b.aF).length c4 (iW false b.aF) (ah T) _ h6 h4 h5 (by rw[ak];omega)).mono ?_;rintro e w7 ⟨q,rfl,j,f⟩;obtain⟨P,J,rfl,hq⟩:=bV (u:={U0 with aF:=walk b.au (iW false b.aF) T}) j;clear hq;replace j:=aH j (Nat.le_refl _);have e5:Hid (I.heap.size<w6.heap.size):=t.lt;have H:Hid ((w.heap.size+1)<w6.heap.size):=B.lt;have b0:=hid (b3.below f);have E:=hid (B.below f);have r:=hid (t.below f);have a6:=hid (bD a7 f);have b7:=hid j;clear j;clear f;have f6:=e5.out;have cx:=r.facts.2.2.2.2.2.2.2.2.1;have fx:=r.thaw.2.2.2.2.2.2.2.2.1;go_upto_region 13 with(fail)
   have e0:=b0.set (k:=I.heap.size) (i:=8) (.slice P (walk b.au (iW false b.aF) T).length J) (a4);have V:=E.set (k:=I.heap.size) (i:=8) (.slice P (walk b.au (iW false b.aF) T).length J) (N);have Q:=r.path (.slice P (walk b.au (iW false b.aF) T).length J);have a8:=fC.aP (w':=w7.setCell ⟨I.heap.size,8,none⟩ (.slice P (walk b.au (iW false b.aF) T).length J)) (gb:=I.heap.size) b7 (fun k hk=>heap_setCell_other _ _ _ _ hk) (by omega);have hb:=a6.setCell (p:=⟨I.heap.size,8,none⟩) (b9) (.slice P (walk b.au (iW false b.aF) T).length J);clear cx fx;generalize World.setCell w7 _ _=w8 at e0 V Q a8 hb⊢;clear e0;have X:Hid (UB w8 ((w.heap.size+1)) (U0) (.slice none 0 0)):=V;clear V;have a9:Hid (UB w8 (I.heap.size) (aN b) (.slice P (walk b.au (iW false b.aF) T).length J)):=Q;clear Q;have b6:=hid a8;clear a8;have e6:=hid hb;clear hb;clear f6;obtain⟨c0,c1,e8,c3,c4,c5,c6,c7,c8,c9,f1,f0,e9⟩:=a9.facts;go_wp2_with (refine aI X (aN b) P (walk b.au (iW false b.aF) T).length J (.tmp 4) (.tmp 54) rfl rfl rfl rfl ?_)
   have f5:∀k,k≠(w.heap.size+1)→(World.setRow w8 ((w.heap.size+1)) (cells (aN b) (.slice P (walk b.au (iW false b.aF) T).length J))).heap[k]?=w8.heap[k]?:=fun k hk=>setRow_other _ _ _ _ hk;have ho:=aH (fC.aP b6 f5 H) (by have h1:=F.out;have h2:=H.out;omega:w.heap.size≤_);exact bodyPost_ret (gJ rfl (X.row (aN b) _) true _ rfl rfl) rfl (dW (u:={aN b with aF:=walk b.au (iW false b.aF) T}) a3 (below_setRow e6 F _) ho)
end TA
namespace Z9
open Go.RowKit Base eH bf iI mD JR jR ug mY uf zf aJ yG vP vK yH JO TA
theorem G5 (T:List UInt8) (w:World) (hs:T.length≤700000) (hL:oZ w) (hT:Tab.Pow w) (hM:Max w):Calls prog 28 #[.string (ah T),.pointer none] w (l7 w (file T none)):=by
 obtain⟨O,hO⟩:∃O,O=file T none:=⟨_,rfl⟩;rw[←hO];obtain⟨s0,a8⟩:∃x,x=iK true T 0:=⟨_,rfl⟩;obtain⟨s1,a7⟩:∃x,x=iK true T 1:=⟨_,rfl⟩;unfold file at hO;rw[←a8,←a7]at hO;have b3:s0=true→1≤T.length:=fun h=>by
  rw[h]at a8;by_cases h2:0<T.length
  ·omega
  rw[sJ _ _ _ h2]at a8;cases a8
 have d6:=hid b3;have b9:s1=true→2≤T.length:=fun h=>by
  rw[h]at a7;by_cases h2:1<T.length
  ·omega
  rw[sJ _ _ _ h2]at a7;cases a7
 have e5:=hid b9;have d4:Hid (∀w:World,Calls prog 82 #[.string ⟨#[102,105,108,101]⟩,.string (ah T),.int .i64 0] w fun e w'=>e=.returned (.bool s0)∧Below w.heap.size w w'):=fun w=>by rw[a8];exact kC (ah ay) (ah T) 0 w (by omega)
 have f1:Hid (∀w:World,Calls prog 82 #[.string ⟨#[102,105,108,101]⟩,.string (ah T),.int .i64 1] w fun e w'=>e=.returned (.bool s1)∧Below w.heap.size w w'):=fun w=>by rw[a7];exact kC (ah ay) (ah T) 1 w (by omega)
 have HO:=hid hO;have f5:Hid (∀(L:List UInt8) (w:World),L.length≤900000→oZ w→Tab.Pow w→Max w→Calls prog 83 #[.string (ah L)] w (l7 w (far L))):=fun L w h a c d=>Po L w h a c d;have e7:Hid (∀(L:List UInt8) (w:World),L.length≤900000→Calls prog 86 #[.string (ah L)] w fun e w'=>e=.returned (.bool (pz L))∧w=w'):=fun L w h=>D9 (ah L) w (dN (by omega));have d3:Hid (∀(A:Option Addr) (n c:Nat) (l:List ByteArray) (L:List UInt8) (w:World),dV w A n (l.map Value.string)→n≤c→c≤maxLen→n+L.length≤900000→Calls prog 89 #[.string ⟨#[102,105,108,101]⟩,.slice A n c,.string (ah L)] w (jY w.heap.size w (walk ay l L))):=fun A n c l L w h1 h2 h3 h4=>tZ (ah ay) A n c l (ah L) w h1 h2 h3 (by rw[ak];exact h4);have HL:=hid hL;have HT:=hid hT;have HM:=hid hM;clear hO a8 a7 b9 b3 hL hT hM;go_enter func28,ntmps28;go_upto_region 1 with(fail)
 generalize hw:World.alloc w _=w1;have h1:UB w1 (w.heap.size) (U0) (.slice none 0 0)∧Below w.heap.size w w1:=by
  subst hw;exact jd w _ _
 clear hw;have G:Hid (w.heap.size≤w.heap.size):=(Below.refl w.heap.size w).size;have e6:=hid (bD (Below.refl w.heap.size w) h1.2);have d2:=hid h1.1;clear h1;go_wp2_with fail
 refine(d4 _).mono ?_;rintro e V ⟨rfl,f⟩;have a4:=hid (d2.below f);have b7:=hid (bD e6 f);clear f;cases s0 with
 | true=>
  go_wp2_with fail
  refine(f1 _).mono ?_;rintro e Y ⟨rfl,f⟩;have z:=hid (a4.below f);have t:=hid (bD b7 f);clear f;cases s1 with
  |true=>
   have e8:=e5 (by simp);have X:Hid (O=far (T.drop 2)):=by show _=_;rw[HO.out,if_pos (by simp)]
   obtain⟨T2,W⟩:∃x,x=T.drop 2:=⟨_,rfl⟩;have c2:(ah T).extract 2 (ah T).size=ah T2:=by rw[kS,W];rfl
   have f0:(2:Int)≤((ah T).size:Int):=by rw[ak];omega
   rw[←W]at X;have d9:T2.length≤800000:=by rw[W,List.length_drop];omega
   clear W e8;go_wp2_with fail
   clear c2;refine(f5 _ _ (by omega) (HL.below t) (cZ HT t) (HM.below t)).mono ?_;rintro e w4 ⟨f,u',A',n',c',ok,rfl,g,d8⟩;have P:Hid (w.heap.size<Y.heap.size):=z.lt;have f2:=hid g;have f3:=hid d8;clear g d8;have r:=hid (z.below f);have Q:=hid (bD t f);have f4:Hid (w.heap.size≤Y.heap.size):=t.size;clear f;go_wp2_with (refine aI r u' A' n' c' (.tmp 4) (.tmp 17) rfl rfl rfl rfl ?_)
   exact bodyPost_ret (gJ rfl (r.row u' _) ok _ rfl rfl) rfl ⟨below_setRow Q G _,u',A',n',c',ok,rfl,(f2.row P _).base f4,by rw[X.out];exact f3⟩
  |false=>
   have e9:=d6 (by simp);have X:Hid (O=some {uF with aF:=walk ay [] (T.drop 1)}):=by show _=_;rw[HO.out,if_neg (by simp),if_pos (by simp)];first|done|rfl|(congr 2;simp)
   obtain⟨T2,W⟩:∃x,x=T.drop 1:=⟨_,rfl⟩;have c2:(ah T).extract 1 (ah T).size=ah T2:=by rw[kS,W];rfl
   have f0:(1:Int)≤((ah T).size:Int):=by rw[ak];omega
   rw[←W]at X;have d9:T2.length≤800000:=by rw[W,List.length_drop];omega
   clear W e9;go_upto_region 4 with(fail)
   generalize hw:World.alloc Y _=w4;have h1:UB w4 (Y.heap.size) (uF) (.slice none 0 0)∧Below Y.heap.size Y w4:=by
    subst hw;exact jd Y _ _
   clear hw;have d0:=z.lt;have B:Hid (w.heap.size≠Y.heap.size):=by show _≠_;omega
   clear d0;have a6:Hid (w.heap.size≤Y.heap.size):=t.size;have r:=hid (z.below h1.2);have Q:=hid (bD t h1.2);have H:=hid h1.1;clear h1;go_wp2_with fail
   refine(d4 _).mono ?_;rintro e w5 ⟨rfl,f⟩;have s:=hid (r.below f);have m:=hid (H.below f);have a1:=hid (bD Q f);clear f;go_wp2_with fail
   clear c2;refine(d3 none 0 0 [] T2 _ (dV.nil _) (Nat.le_refl _) (Nat.zero_le _) (by omega)).mono ?_;rintro e w6 ⟨q,rfl,g,f⟩;obtain⟨N,F,rfl,hq⟩:=bV (u:={U0 with aF:=walk ay [] T2}) g;clear hq;replace g:=aH g (Nat.le_refl _);have b5:Hid (Y.heap.size<w5.heap.size):=m.lt;have P:Hid (w.heap.size<w5.heap.size):=s.lt;have y:=hid (s.below f);have j:=hid (m.below f);have a0:=hid (bD a1 f);have J:=hid g;clear g;clear f;have b0:=b5.out;have cx:=j.facts.2.2.2.2.2.2.2.2.1;have fx:=j.thaw.2.2.2.2.2.2.2.2.1;go_upto_region 18 with(fail)
   have D:=y.set (k:=Y.heap.size) (i:=8) (.slice N (walk ay [] T2).length F) (B);have C:=j.path (.slice N (walk ay [] T2).length F);have E:=fC.aP (w':=w6.setCell ⟨Y.heap.size,8,none⟩ (.slice N (walk ay [] T2).length F)) (gb:=Y.heap.size) J (fun k hk=>heap_setCell_other _ _ _ _ hk) (by omega);have Z:=a0.setCell (p:=⟨Y.heap.size,8,none⟩) (a6) (.slice N (walk ay [] T2).length F);clear cx fx;generalize World.setCell w6 _ _=w7 at D C E Z⊢;have I:Hid (UB w7 (w.heap.size) (U0) (.slice none 0 0)):=D;clear D;have a3:Hid (UB w7 (Y.heap.size) (uF) (.slice N (walk ay [] T2).length F)):=C;clear C;have a5:=hid E;clear E;have b6:=hid Z;clear Z;clear b0;obtain⟨c0,c1,e0,c3,c4,c5,c6,c7,c8,c9,e3,e2,e1⟩:=a3.facts;go_wp2_with (refine aI I (uF) N (walk ay [] T2).length F (.tmp 4) (.tmp 72) rfl rfl rfl rfl ?_)
   have a9:∀k,k≠w.heap.size→(World.setRow w7 (w.heap.size) (cells (uF) (.slice N (walk ay [] T2).length F))).heap[k]?=w7.heap[k]?:=fun k hk=>setRow_other _ _ _ _ hk;have ho:=aH (fC.aP a5 a9 P) (by have h1:=G.out;have h2:=P.out;omega:w.heap.size≤_);exact bodyPost_ret (gJ rfl (I.row (uF) _) true _ rfl rfl) rfl (dW (u:={uF with aF:=walk ay [] T2}) X (below_setRow b6 G _) ho)
 |false=>
  have e4:Hid (O=some {uF with aF:=walk ay (if pz T=true then[]else iW true []) T}):=by show _=_;rw[HO.out,if_neg (by simp),if_neg (by simp)]
  go_upto_region 4 with(fail)
  generalize hw:World.alloc V _=Y;have h1:UB Y (V.heap.size) (uF) (.slice none 0 0)∧Below V.heap.size V Y:=by
   subst hw;exact jd V _ _
  clear hw;have d0:=a4.lt;have B:Hid (w.heap.size≠V.heap.size):=by show _≠_;omega
  clear d0;have a6:Hid (w.heap.size≤V.heap.size):=b7.size;have z:=hid (a4.below h1.2);have t:=hid (bD b7 h1.2);have d1:=hid h1.1;clear h1;go_wp2_with fail
  refine(d4 _).mono ?_;rintro e w4 ⟨rfl,f⟩;have r:=hid (z.below f);have H:=hid (d1.below f);have Q:=hid (bD t f);clear f;cases Z:pz T with
  |true=>
   have b8:=e7 T;rw[Z]at b8;have d7:=hid b8;have X:Hid (O=some {uF with aF:=walk ay [] T}):=by show _=_;rw[e4.out,Z];rfl
   clear Z;go_wp2_with fail
   refine(d7 _ (by omega)).mono ?_;rintro e wx ⟨rfl,a2⟩;obtain rfl:w4=wx:=by first|exact a2|exact a2.symm
   clear a2;go_wp2_with fail
   refine(d3 none 0 0 [] T _ (dV.nil _) (Nat.le_refl _) (Nat.zero_le _) (by omega)).mono ?_;rintro e w5 ⟨q,rfl,g,f⟩;obtain⟨N,F,rfl,hq⟩:=bV (u:={U0 with aF:=walk ay [] T}) g;clear hq;replace g:=aH g (Nat.le_refl _);have b5:Hid (V.heap.size<w4.heap.size):=H.lt;have P:Hid (w.heap.size<w4.heap.size):=r.lt;have s:=hid (r.below f);have m:=hid (H.below f);have a1:=hid (bD Q f);have d5:=hid g;clear g;clear f;have b0:=b5.out;have cx:=m.facts.2.2.2.2.2.2.2.2.1;have fx:=m.thaw.2.2.2.2.2.2.2.2.1;go_upto_region 18 with(fail)
   have D:=s.set (k:=V.heap.size) (i:=8) (.slice N (walk ay [] T).length F) (B);have C:=m.path (.slice N (walk ay [] T).length F);have E:=fC.aP (w':=w5.setCell ⟨V.heap.size,8,none⟩ (.slice N (walk ay [] T).length F)) (gb:=V.heap.size) d5 (fun k hk=>heap_setCell_other _ _ _ _ hk) (by omega);have Z:=a1.setCell (p:=⟨V.heap.size,8,none⟩) (a6) (.slice N (walk ay [] T).length F);clear cx fx;generalize World.setCell w5 _ _=w6 at D C E Z⊢;have y:Hid (UB w6 (w.heap.size) (U0) (.slice none 0 0)):=D;clear D;have j:Hid (UB w6 (V.heap.size) (uF) (.slice N (walk ay [] T).length F)):=C;clear C;have J:=hid E;clear E;have a0:=hid Z;clear Z;clear b0;obtain⟨c0,c1,e0,c3,c4,c5,c6,c7,c8,c9,e3,e2,e1⟩:=j.facts;go_wp2_with (refine aI y (uF) N (walk ay [] T).length F (.tmp 4) (.tmp 72) rfl rfl rfl rfl ?_)
   have a9:∀k,k≠w.heap.size→(World.setRow w6 (w.heap.size) (cells (uF) (.slice N (walk ay [] T).length F))).heap[k]?=w6.heap[k]?:=fun k hk=>setRow_other _ _ _ _ hk;have ho:=aH (fC.aP J a9 P) (by have h1:=G.out;have h2:=P.out;omega:w.heap.size≤_);exact bodyPost_ret (gJ rfl (y.row (uF) _) true _ rfl rfl) rfl (dW (u:={uF with aF:=walk ay [] T}) X (below_setRow a0 G _) ho)
  |false=>
   have b8:=e7 T;rw[Z]at b8;have d7:=hid b8;have X:Hid (O=some {uF with aF:=walk ay [] T}):=by show _=_;rw[e4.out,Z];rfl
   clear Z;go_wp2_with fail
   refine(d7 _ (by omega)).mono ?_;rintro e wx ⟨rfl,a2⟩;obtain rfl:w4=wx:=by first|exact a2|exact a2.symm
   clear a2;go_wp2_with fail
   refine(wZ true none 0 0 [] _ (dV.nil _) (Nat.le_refl _) (Nat.zero_le _) (by omega)).mono ?_;rintro e w5 ⟨v,rfl,g,f⟩;obtain⟨A4,c4,rfl,h4,h5,h6⟩:=aS g;have s:=hid (r.below f);have m:=hid (H.below f);have a1:=hid (bD Q f);clear f g;rw[show iW true []=[]from rfl]at h4 h6⊢;go_wp2_with fail
   refine(d3 A4 _ c4 [] T _ h6 h4 h5 (by simp;omega)).mono ?_;rintro e w6 ⟨q,rfl,g,f⟩;obtain⟨N,F,rfl,hq⟩:=bV (u:={U0 with aF:=walk ay [] T}) g;clear hq;replace g:=aH g (Nat.le_refl _);have b5:Hid (V.heap.size<w5.heap.size):=m.lt;have P:Hid (w.heap.size<w5.heap.size):=s.lt;have y:=hid (s.below f);have j:=hid (m.below f);have a0:=hid (bD a1 f);have J:=hid g;clear g;clear f;have b0:=b5.out;have cx:=j.facts.2.2.2.2.2.2.2.2.1;have fx:=j.thaw.2.2.2.2.2.2.2.2.1;go_upto_region 18 with(fail)
   have D:=y.set (k:=V.heap.size) (i:=8) (.slice N (walk ay [] T).length F) (B);have C:=j.path (.slice N (walk ay [] T).length F);have E:=fC.aP (w':=w6.setCell ⟨V.heap.size,8,none⟩ (.slice N (walk ay [] T).length F)) (gb:=V.heap.size) J (fun k hk=>heap_setCell_other _ _ _ _ hk) (by omega);have Z:=a0.setCell (p:=⟨V.heap.size,8,none⟩) (a6) (.slice N (walk ay [] T).length F);clear cx fx;generalize World.setCell w6 _ _=w7 at D C E Z⊢;have I:Hid (UB w7 (w.heap.size) (U0) (.slice none 0 0)):=D;clear D;have a3:Hid (UB w7 (V.heap.size) (uF) (.slice N (walk ay [] T).length F)):=C;clear C;have a5:=hid E;clear E;have b6:=hid Z;clear Z;clear b0;obtain⟨c0,c1,e0,c3,c4,c5,c6,c7,c8,c9,e3,e2,e1⟩:=a3.facts;go_wp2_with (refine aI I (uF) N (walk ay [] T).length F (.tmp 4) (.tmp 72) rfl rfl rfl rfl ?_)
   have a9:∀k,k≠w.heap.size→(World.setRow w7 (w.heap.size) (cells (uF) (.slice N (walk ay [] T).length F))).heap[k]?=w7.heap[k]?:=fun k hk=>setRow_other _ _ _ _ hk;have ho:=aH (fC.aP a5 a9 P) (by have h1:=G.out;have h2:=P.out;omega:w.heap.size≤_);exact bodyPost_ret (gJ rfl (I.row (uF) _) true _ rfl rfl) rfl (dW (u:={uF with aF:=walk ay [] T}) X (below_setRow b6 G _) ho)
end Z9
namespace Zl
open Go.RowKit Base aJ
def fQ (p:Parts):Array Value:=#[.string (ah p.au),.string (ah p.rest),.string (ah p.bT),.string (ah p.eY),.bool p.hq,.bool p.hf]
def P0:Parts:=⟨[],[],[],[],false,false⟩
def PB (w:World) (g:Nat) (p:Parts):Prop:=w.heap[g]?=some (.cells (fQ p) 37 (0,0))
variable {w w':World} {g:Nat} {p:Parts}
theorem PB.lt (h:PB w g p):g<w.heap.size:=(Array.getElem?_eq_some_iff.1 h).1
theorem PB.below (h:PB w g p) (a:Below w.heap.size w w'):PB w' g p:=(a.block g h.lt).trans h
theorem PB.facts (h:PB w g p):w.cell? ⟨g,0,none⟩=some (.string (ah p.au))∧w.cell? ⟨g,1,none⟩=some (.string (ah p.rest))∧w.cell? ⟨g,2,none⟩=some (.string (ah p.bT))∧w.cell? ⟨g,3,none⟩=some (.string (ah p.eY))∧w.cell? ⟨g,4,none⟩=some (.bool p.hq)∧w.cell? ⟨g,5,none⟩=some (.bool p.hf):=
 ⟨cell_of_row w g 0 _ _ _ h,cell_of_row w g 1 _ _ _ h,cell_of_row w g 2 _ _ _ h,cell_of_row w g 3 _ _ _ h,cell_of_row w g 4 _ _ _ h,cell_of_row w g 5 _ _ _ h⟩
theorem PB.thaw (h:PB w g p):w.frozen? ⟨g,0,none⟩=false∧w.frozen? ⟨g,1,none⟩=false∧w.frozen? ⟨g,2,none⟩=false∧w.frozen? ⟨g,3,none⟩=false∧w.frozen? ⟨g,4,none⟩=false∧w.frozen? ⟨g,5,none⟩=false:=
 ⟨frozen_of_row w g 0 _ _ h,frozen_of_row w g 1 _ _ h,frozen_of_row w g 2 _ _ h,frozen_of_row w g 3 _ _ h,frozen_of_row w g 4 _ _ h,frozen_of_row w g 5 _ _ h⟩
theorem PB.au (h:PB w g p) (s:List UInt8):PB (w.setCell ⟨g,0,none⟩ (.string (ah s))) g {p with au:=s}:=heap_setCell_same w g 0 _ _ _ h
theorem PB.rest (h:PB w g p) (s:List UInt8):PB (w.setCell ⟨g,1,none⟩ (.string (ah s))) g {p with rest:=s}:=heap_setCell_same w g 1 _ _ _ h
theorem PB.bT (h:PB w g p) (s:List UInt8):PB (w.setCell ⟨g,2,none⟩ (.string (ah s))) g {p with bT:=s}:=heap_setCell_same w g 2 _ _ _ h
theorem PB.eY (h:PB w g p) (s:List UInt8):PB (w.setCell ⟨g,3,none⟩ (.string (ah s))) g {p with eY:=s}:=heap_setCell_same w g 3 _ _ _ h
theorem PB.hq (h:PB w g p) (b:Bool):PB (w.setCell ⟨g,4,none⟩ (.bool b)) g {p with hq:=b}:=heap_setCell_same w g 4 _ _ _ h
theorem PB.hf (h:PB w g p) (b:Bool):PB (w.setCell ⟨g,5,none⟩ (.bool b)) g {p with hf:=b}:=heap_setCell_same w g 5 _ _ _ h
theorem PB.set (h:PB w g p) {k i:Nat} (x:Value) (a:g≠k):PB (w.setCell ⟨k,i,none⟩ x) g p:=by
 unfold PB;rw[heap_setCell_other _ _ _ _ a];exact h
theorem PB.row (h:PB w g p) (q:Parts):PB (w.setRow g (fQ q)) g q:=setRow_heap w g (fQ p) (fQ q) _ (0,0) h
theorem xu {ops:Array Oper} {rest:List Oper} {o:Oper} {a:Act} {Q:Exit→Act→World→Prop} (f:PB w g p) (q:Parts) (x y:Operand) (e:o.op=.store 37 x y) (c:o.guard=none)
  (hx:a.eval x=.pointer (some ⟨g,0,none⟩)) (d:a.eval y=.agg (fQ q))
  (h:wpList prog ops Q rest (a.put o.dst undef) (w.setRow g (fQ q))):wpList prog ops Q (o::rest) a w:=
 wpList_store_row c 37 x y e g (fQ q) hx d 37 (fQ p) f (by kernel_rfl) rfl (by simp[fQ,Value.oneCell']) h
theorem abd {d:Func} {a:Tmp} (h:d.results=#[.cell a 37]) (e:PB w g p) (c:Array Value) (f:c.getD a undef=.pointer (some ⟨g,0,none⟩)):
  (results d c).run prog w=.ok (.agg (fQ p)) w:=
 results_cell_row h c w g _ _ _ _ f e underlying37 rfl (by kernel_rfl)
end Zl
namespace MS
open Go.RowKit Base eH bf gB gK aJ AZ vP Zl yH zf
theorem Gt (T:List UInt8) (w:World) (hs:T.length≤1000000) (hM:Max w):Calls prog 10 #[.string (ah T)] w fun e w'=>e=.returned (.agg (fQ (aJ.apart T)))∧Below w.heap.size w w':=by
 obtain⟨O,L⟩:∃O,O=aJ.apart T:=⟨_,rfl⟩;rw[←L];obtain⟨F1,v,t,Q⟩:∃a b c,aW 35 T=(a,b,c):=⟨_,_,_,rfl⟩;obtain⟨y,x,qb,P⟩:∃a b c,aW 63 F1=(a,b,c):=⟨_,_,_,rfl⟩;obtain⟨z,N,cb,V⟩:∃a b c,aW 58 y=(a,b,c):=⟨_,_,_,rfl⟩;have a4:=oz 35 T;have a3:=oz 63 F1;have a2:=oz 58 y;rw[Q]at a4;rw[P]at a3;rw[V]at a2;simp only at a4 a3 a2;unfold aJ.apart at L;rw[Q]at L;simp only at L;rw[P]at L;simp only at L;rw[V]at L;simp only at L;have HF:∀w:World,Max w→Calls prog 19 #[.string (ah T),.string ⟨#[35]⟩] w fun e w'=>e=.returned (.tuple #[.string (ah F1),.string (ah v),.bool t])∧Below w.heap.size w w':=fun w ⟨m,hm⟩=>(strings_Cut (ah T) ⟨#[35]⟩ m w (by rw[ak];omega) hm).mono fun e w' ⟨E,q,h2⟩=>⟨by rw[E,show(ah T).data.toList=T from rfl,show(⟨#[35]⟩:ByteArray).data.toList=[35]from rfl,wu,Q];rfl,by rw[h2];exact Base.below_drewN (Below.refl _ _) _⟩;have HQ:∀w:World,Max w→Calls prog 19 #[.string (ah F1),.string ⟨#[63]⟩] w fun e w'=>e=.returned (.tuple #[.string (ah y),.string (ah x),.bool qb])∧Below w.heap.size w w':=fun w ⟨m,hm⟩=>(strings_Cut (ah F1) ⟨#[63]⟩ m w (by rw[ak];omega) hm).mono fun e w' ⟨E,q,h2⟩=>⟨by rw[E,show(ah F1).data.toList=F1 from rfl,show(⟨#[63]⟩:ByteArray).data.toList=[63]from rfl,wu,P];rfl,by rw[h2];exact Base.below_drewN (Below.refl _ _) _⟩;have HC:∀w:World,Max w→Calls prog 19 #[.string (ah y),.string ⟨#[58]⟩] w fun e w'=>e=.returned (.tuple #[.string (ah z),.string (ah N),.bool cb])∧Below w.heap.size w w':=fun w ⟨m,hm⟩=>(strings_Cut (ah y) ⟨#[58]⟩ m w (by rw[ak];omega) hm).mono fun e w' ⟨E,q,h2⟩=>⟨by rw[E,show(ah y).data.toList=y from rfl,show(⟨#[58]⟩:ByteArray).data.toList=[58]from rfl,wu,V];rfl,by rw[h2];exact Base.below_drewN (Below.refl _ _) _⟩;have d8:=hid HF;have d6:=hid HQ;have d9:=hid HC;have X:Hid (∀w:World,Calls prog 20 #[.string (ah z)] w fun e w'=>e=.returned (.bool (ji z))∧w'=w):=fun w=>IV (ah z) w (dN (by omega));have d7:Hid (∀w:World,Calls prog 21 #[.string (ah z)] w fun e w'=>e=.returned (.string (ah (lower z)))∧Below w.heap.size w w'):=fun w=>jM (ah z) w (by rw[ak];unfold maxLen;omega);have HO:=hid L;have HM:=hid hM;clear Q P V L hM a4 a3 a2;go_enter func10,ntmps10;go_upto_region 1 with(fail)
 generalize hw:World.alloc w _=w1;have E:PB w1 (w.heap.size) (P0)∧Below w.heap.size w w1:=by
  subst hw;exact jd w _ _
 clear hw;have G:Hid (w.heap.size≤w.heap.size):=(Below.refl w.heap.size w).size;have a1:=hid (bD (Below.refl w.heap.size w) E.2);have H:=hid E.1;clear E;go_upto_region 2 with(fail)
 generalize hw:World.alloc w1 _=w2;have E:PB w2 (w1.heap.size) (P0)∧Below w1.heap.size w1 w2:=by
  subst hw;exact jd w1 _ _
 clear hw;have c5:=H.lt;have f:Hid (w.heap.size≠w1.heap.size):=by show _≠_;omega
 clear c5;have j:Hid (w.heap.size≤w1.heap.size):=a1.size;have b9:=hid (H.below E.2);have a0:=hid (bD a1 E.2);have a9:=hid E.1;clear E;go_wp2_with fail
 refine(d8 _ (HM.below a0)).mono ?_;rintro e w3 ⟨rfl,d⟩;have b8:=hid (b9.below d);have r:=hid (a9.below d);have c4:=hid (bD a0 d);clear d;have d3:=r.facts.2.2.2.1;have c8:=r.thaw.2.2.2.1;have d1:=r.facts.2.2.2.2.2;have c6:=r.thaw.2.2.2.2.2;go_upto_region 3 with(fail)
 have h:=((b8.set (k:=w1.heap.size) (i:=3) (.string (ah v)) f).set (k:=w1.heap.size) (i:=5) (.bool t) f);have g:=((r.eY v).hf t);have B:=((c4.setCell (p:=⟨w1.heap.size,3,none⟩) j (.string (ah v))).setCell (p:=⟨w1.heap.size,5,none⟩) j (.bool t));clear d3 c8 d1 c6;generalize (World.setCell (World.setCell w3 ⟨w1.heap.size,3,none⟩ (.string (ah v))) ⟨w1.heap.size,5,none⟩ (.bool t))=w4 at h g B⊢;have b7:Hid (PB w4 (w.heap.size) (P0)):=h;clear h;have a8:Hid (PB w4 (w1.heap.size) ({P0 with eY:=v,hf:=t})):=g;clear g;have Z:=hid B;clear B;go_wp2_with fail
 refine(d6 _ (HM.below Z)).mono ?_;rintro e w5 ⟨rfl,d⟩;have b6:=hid (b7.below d);have n:=hid (a8.below d);have c3:=hid (bD Z d);clear d;have d4:=n.facts.2.2.1;have c9:=n.thaw.2.2.1;have d2:=n.facts.2.2.2.2.1;have c7:=n.thaw.2.2.2.2.1;go_upto_region 4 with(fail)
 have h:=((b6.set (k:=w1.heap.size) (i:=2) (.string (ah x)) f).set (k:=w1.heap.size) (i:=4) (.bool qb) f);have g:=((n.bT x).hq qb);have B:=((c3.setCell (p:=⟨w1.heap.size,2,none⟩) j (.string (ah x))).setCell (p:=⟨w1.heap.size,4,none⟩) j (.bool qb));clear d4 c9 d2 c7;generalize (World.setCell (World.setCell w5 ⟨w1.heap.size,2,none⟩ (.string (ah x))) ⟨w1.heap.size,4,none⟩ (.bool qb))=w6 at h g B⊢;have b5:Hid (PB w6 (w.heap.size) (P0)):=h;clear h;have D:Hid (PB w6 (w1.heap.size) ({P0 with eY:=v,hf:=t,bT:=x,hq:=qb})):=g;clear g;have c2:=hid B;clear B;have a6:=D.facts.2.1;have a5:=D.thaw.2.1;go_upto_region 5 with(fail)
 have h:=(b5.set (k:=w1.heap.size) (i:=1) (.string (ah y)) f);have g:=(D.rest y);have B:=(c2.setCell (p:=⟨w1.heap.size,1,none⟩) j (.string (ah y)));clear a6 a5;generalize (World.setCell w6 ⟨w1.heap.size,1,none⟩ (.string (ah y)))=w7 at h g B⊢;have b3:Hid (PB w7 (w.heap.size) (P0)):=h;clear h;have a7:Hid (PB w7 (w1.heap.size) ({P0 with eY:=v,hf:=t,bT:=x,hq:=qb,rest:=y})):=g;clear g;have Y:=hid B;clear B;go_wp2_with fail
 refine(d9 _ (HM.below Y)).mono ?_;rintro e w8 ⟨rfl,d⟩;have s:=hid (b3.below d);have C:=hid (a7.below d);have J:=hid (bD Y d);clear d;cases cb with
 |false=>
  have I:Hid (O=⟨[],y,x,v,qb,t⟩):=by show _=_;rw[HO.out];first|done|rfl|simp
  obtain⟨p0,p1,p2,p3,p4,p5⟩:=C.facts;go_wp2_with (refine xu s ({P0 with eY:=v,hf:=t,bT:=x,hq:=qb,rest:=y}) (.tmp 2) (.tmp 41) rfl rfl rfl rfl ?_)
  exact bodyPost_ret (abd (p:={P0 with eY:=v,hf:=t,bT:=x,hq:=qb,rest:=y}) rfl (s.row ({P0 with eY:=v,hf:=t,bT:=x,hq:=qb,rest:=y})) _ rfl) rfl ⟨by rw[I.out];first|done|rfl,below_setRow J G _⟩
 |true=>
  cases hi:ji z with
  |false=>
   have I:Hid (O=⟨[],y,x,v,qb,t⟩):=by show _=_;rw[HO.out,hi];first|done|rfl|simp
   rw[hi]at X;clear hi;go_wp2_with fail
   refine(X _).mono ?_;rintro e wx ⟨rfl,A⟩;obtain rfl:w8=wx:=by first|exact A|exact A.symm
   clear A;obtain⟨p0,p1,p2,p3,p4,p5⟩:=C.facts;go_wp2_with (refine xu s ({P0 with eY:=v,hf:=t,bT:=x,hq:=qb,rest:=y}) (.tmp 2) (.tmp 41) rfl rfl rfl rfl ?_)
   exact bodyPost_ret (abd (p:={P0 with eY:=v,hf:=t,bT:=x,hq:=qb,rest:=y}) rfl (s.row ({P0 with eY:=v,hf:=t,bT:=x,hq:=qb,rest:=y})) _ rfl) rfl ⟨by rw[I.out];first|done|rfl,below_setRow J G _⟩
  |true=>
   have I:Hid (O=⟨lower z,N,x,v,qb,t⟩):=by show _=_;rw[HO.out,hi];first|done|rfl|simp
   rw[hi]at X;clear hi;go_wp2_with fail
   refine(X _).mono ?_;rintro e wx ⟨rfl,A⟩;obtain rfl:w8=wx:=by first|exact A|exact A.symm
   clear A;go_wp2_with fail
   refine(d7 _).mono ?_;rintro e w9 ⟨rfl,d⟩;have b0:=hid (s.below d);have l:=hid (C.below d);have c1:=hid (bD J d);clear d;have d5:=l.facts.1;have d0:=l.thaw.1;have a6:=l.facts.2.1;have a5:=l.thaw.2.1;go_upto_region 8 with(fail)
   have h:=((b0.set (k:=w1.heap.size) (i:=0) (.string (ah (lower z))) f).set (k:=w1.heap.size) (i:=1) (.string (ah N)) f);have g:=((l.au (lower z)).rest N);have B:=((c1.setCell (p:=⟨w1.heap.size,0,none⟩) j (.string (ah (lower z)))).setCell (p:=⟨w1.heap.size,1,none⟩) j (.string (ah N)));clear d5 d0 a6 a5;generalize (World.setCell (World.setCell w9 ⟨w1.heap.size,0,none⟩ (.string (ah (lower z)))) ⟨w1.heap.size,1,none⟩ (.string (ah N)))=w10 at h g B⊢;have F:Hid (PB w10 (w.heap.size) (P0)):=h;clear h;have W:Hid (PB w10 (w1.heap.size) ({P0 with eY:=v,hf:=t,bT:=x,hq:=qb,rest:=N,au:=lower z})):=g;clear g;have c0:=hid B;clear B;obtain⟨p0,p1,p2,p3,p4,p5⟩:=W.facts;go_wp2_with (refine xu F ({P0 with eY:=v,hf:=t,bT:=x,hq:=qb,rest:=N,au:=lower z}) (.tmp 2) (.tmp 41) rfl rfl rfl rfl ?_)
   exact bodyPost_ret (abd (p:={P0 with eY:=v,hf:=t,bT:=x,hq:=qb,rest:=N,au:=lower z}) rfl (F.row ({P0 with eY:=v,hf:=t,bT:=x,hq:=qb,rest:=N,au:=lower z})) _ rfl) rfl ⟨by rw[I.out];first|done|rfl,below_setRow c0 G _⟩
theorem Eo (u:U) (p:Parts) (A:Option Addr) (n c:Nat) (w:World) (h1:p.bT.length≤1000000) (h2:p.eY.length≤1000000):Calls prog 13 #[.agg (cells u (.slice A n c)),.agg (fQ p)] w fun e w'=>e=.returned (.agg (cells (aJ.finish u p) (.slice A n c)))∧Below w.heap.size w w':=by
 obtain⟨O,hO⟩:∃O,O=aJ.finish u p:=⟨_,rfl⟩;rw[←hO];have b6:Hid (∀w:World,Calls prog 29 #[.string (ah u.au)] w fun e w'=>e=.returned (.bool (aj u.au))∧w'=w):=fun w=>jC (ah u.au) w;obtain⟨pv,c2⟩:∃q,q=Value.slice A n c:=⟨_,rfl⟩;obtain⟨s,r,q,f,hq,hf⟩:=p;have HO:=hid hO;clear hO;simp only at h1 h2;go_enter func13,ntmps13;go_upto_region 1 with(fail)
 generalize hw:World.alloc (World.alloc (World.alloc w _) _) _=w1;have h1:UB w1 (w.heap.size) (u) (.slice A n c)∧PB w1 ((w.heap.size+1)) (⟨s,r,q,f,hq,hf⟩)∧UB w1 ((w.heap.size+1+1)) (U0) (.slice none 0 0)∧Below w.heap.size w w1:=by
  subst hw;exact U2 w _ _ _ _ _ _
 clear hw;have y:Hid (w.heap.size≤w.heap.size):=by show _≤_;omega
 have h:Hid ((w.heap.size+1)≠w.heap.size):=by show _≠_;omega
 have g:Hid ((w.heap.size+1+1)≠w.heap.size):=by show _≠_;omega
 have L:Hid (w.heap.size≤(w.heap.size+1+1)):=by show _≤_;omega
 have D:=hid h1.1;have v:=hid h1.2.1;have G:=hid h1.2.2.1;have a4:=hid h1.2.2.2;clear h1;cases hq with
 |false=>
  have Y:Hid (O=if hf=true then {u with hf:=true,eY:=aG.enc 1 f}else u):=by show _=_;rw[HO.out];unfold aJ.finish;first|done|rfl|simp
  obtain⟨p0,p1,p2,p3,p4,p5⟩:=v.facts;go_upto_region 6 with(fail)
  clear p0 p1 p2 p3 p4 p5;cases hf with
  |false=>
   have I:Hid (O=u):=by show _=_;rw[Y.out];first|done|rfl|simp
   obtain⟨p0,p1,p2,p3,p4,p5⟩:=v.facts;obtain⟨c0,c1,a7,c3,c4,c5,c6,c7,c8,c9,b0,a9,a8⟩:=D.facts;go_wp2_with (refine aI G (u) A n c (.tmp 4) (.tmp 26) rfl rfl rfl rfl ?_)
   exact bodyPost_ret (res1 rfl (G.row (u) _) _ rfl) rfl ⟨by rw[I.out];first|done|rfl,below_setRow a4 L _⟩
  |true=>
   have I:Hid (O={u with hf:=true,eY:=aG.enc 1 f}):=by show _=_;rw[Y.out];first|done|rfl|simp
   obtain⟨p0,p1,p2,p3,p4,p5⟩:=v.facts;have N:=fun(w:World) s=>run_bytes_of_string (P:=prog) w 9 50 5 s underlying9 underlying50 underlying5;go_wp2_with fail
   clear N;refine(aG.gq 1 _ _ _ f _ (jq (ah f) _ _ _) (dN (by omega))).mono ?_;rintro e w2 ⟨rfl,C⟩;have d:Below w1.heap.size w1 w2:=bD (((Below.refl w1.heap.size w1).alloc (Nat.le_refl _) _).drew) C;clear C;have a:=hid (D.below d);have H:=hid (v.below d);have F:=hid (G.below d);have Z:=hid (bD a4 d);clear d;clear p0 p1 p2 p3 p4 p5;have X:=a.facts.2.2.2.2.2.2.2.2.2.2.1;have V:=a.thaw.2.2.2.2.2.2.2.2.2.2.1;have W:=a.facts.2.2.2.2.2.2.2.2.2.2.2.2;have T:=a.thaw.2.2.2.2.2.2.2.2.2.2.2.2;go_upto_region 8 with(fail)
   have m:=((a.hf true).eY (aG.enc 1 f));have x:=((H.set (k:=w.heap.size) (i:=10) (.bool true) h).set (k:=w.heap.size) (i:=12) (.string (ah (aG.enc 1 f))) h);have t:=((F.set (k:=w.heap.size) (i:=10) (.bool true) g).set (k:=w.heap.size) (i:=12) (.string (ah (aG.enc 1 f))) g);have Q:=((Z.setCell (p:=⟨w.heap.size,10,none⟩) y (.bool true)).setCell (p:=⟨w.heap.size,12,none⟩) y (.string (ah (aG.enc 1 f))));clear X V W T;generalize (World.setCell (World.setCell w2 ⟨w.heap.size,10,none⟩ (.bool true)) ⟨w.heap.size,12,none⟩ (.string (ah (aG.enc 1 f))))=w3 at m x t Q⊢;have z:Hid (UB w3 (w.heap.size) ({u with hf:=true,eY:=aG.enc 1 f}) (.slice A n c)):=m;clear m;clear x;have l:Hid (UB w3 ((w.heap.size+1+1)) (U0) (.slice none 0 0)):=t;clear t;have J:=hid Q;clear Q;obtain⟨c0,c1,a7,c3,c4,c5,c6,c7,c8,c9,b0,a9,a8⟩:=z.facts;go_wp2_with (refine aI l ({u with hf:=true,eY:=aG.enc 1 f}) A n c (.tmp 4) (.tmp 26) rfl rfl rfl rfl ?_)
   exact bodyPost_ret (res1 rfl (l.row ({u with hf:=true,eY:=aG.enc 1 f}) _) _ rfl) rfl ⟨by rw[I.out];first|done|rfl,below_setRow J L _⟩
 | true=>
  cases hs:aj u.au with
  |false=>
   have Y:Hid (O=if hf=true then {{u with hq:=true,bT:=aG.enc 2 q}with hf:=true,eY:=aG.enc 1 f}else {u with hq:=true,bT:=aG.enc 2 q}):=by show _=_;rw[HO.out];unfold aJ.finish;simp only[hs];first|done|rfl|simp
   rw[hs]at b6;clear hs;obtain⟨p0,p1,p2,p3,p4,p5⟩:=v.facts;have b9:=D.facts.1;go_wp2_with fail
   refine(b6 _).mono ?_;rintro e wx ⟨rfl,a0⟩;obtain rfl:w1=wx:=by first|exact a0|exact a0.symm
   clear a0;have N:=fun(w:World) s=>run_bytes_of_string (P:=prog) w 9 50 5 s underlying9 underlying50 underlying5;go_wp2_with fail
   clear N;refine(aG.gq 2 _ _ _ q _ (jq (ah q) _ _ _) (dN (by omega))).mono ?_;rintro e w2 ⟨rfl,C⟩;have d:Below w1.heap.size w1 w2:=bD (((Below.refl w1.heap.size w1).alloc (Nat.le_refl _) _).drew) C;clear C;have a:=hid (D.below d);have H:=hid (v.below d);have F:=hid (G.below d);have Z:=hid (bD a4 d);clear d;clear p0 p1 p2 p3 p4 p5;clear b9;have b8:=a.facts.2.2.2.2.2.2.2.2.2.1;have b7:=a.thaw.2.2.2.2.2.2.2.2.2.1;have a6:=a.facts.2.2.2.2.2.2.2.2.2.2.2.1;have a5:=a.thaw.2.2.2.2.2.2.2.2.2.2.2.1;go_upto_region 6 with(fail)
   have m:=((a.hq true).bT (aG.enc 2 q));have x:=((H.set (k:=w.heap.size) (i:=9) (.bool true) h).set (k:=w.heap.size) (i:=11) (.string (ah (aG.enc 2 q))) h);have t:=((F.set (k:=w.heap.size) (i:=9) (.bool true) g).set (k:=w.heap.size) (i:=11) (.string (ah (aG.enc 2 q))) g);have Q:=((Z.setCell (p:=⟨w.heap.size,9,none⟩) y (.bool true)).setCell (p:=⟨w.heap.size,11,none⟩) y (.string (ah (aG.enc 2 q))));clear b8 b7 a6 a5;generalize (World.setCell (World.setCell w2 ⟨w.heap.size,9,none⟩ (.bool true)) ⟨w.heap.size,11,none⟩ (.string (ah (aG.enc 2 q))))=w3 at m x t Q⊢;have z:Hid (UB w3 (w.heap.size) ({u with hq:=true,bT:=aG.enc 2 q}) (.slice A n c)):=m;clear m;have B:Hid (PB w3 ((w.heap.size+1)) (⟨s,r,q,f,true,hf⟩)):=x;clear x;have l:Hid (UB w3 ((w.heap.size+1+1)) (U0) (.slice none 0 0)):=t;clear t;have J:=hid Q;clear Q;cases hf with
   |false=>
    have I:Hid (O={u with hq:=true,bT:=aG.enc 2 q}):=by show _=_;rw[Y.out];first|done|rfl|simp
    obtain⟨p0,p1,p2,p3,p4,p5⟩:=B.facts;obtain⟨c0,c1,a7,c3,c4,c5,c6,c7,c8,c9,b0,a9,a8⟩:=z.facts;go_wp2_with (refine aI l ({u with hq:=true,bT:=aG.enc 2 q}) A n c (.tmp 4) (.tmp 26) rfl rfl rfl rfl ?_)
    exact bodyPost_ret (res1 rfl (l.row ({u with hq:=true,bT:=aG.enc 2 q}) _) _ rfl) rfl ⟨by rw[I.out];first|done|rfl,below_setRow J L _⟩
   |true=>
    have I:Hid (O={u with hq:=true,bT:=aG.enc 2 q,hf:=true,eY:=aG.enc 1 f}):=by show _=_;rw[Y.out];first|done|rfl|simp
    obtain⟨p0,p1,p2,p3,p4,p5⟩:=B.facts;have N:=fun(w:World) s=>run_bytes_of_string (P:=prog) w 9 50 5 s underlying9 underlying50 underlying5;go_wp2_with fail
    clear N;refine(aG.gq 1 _ _ _ f _ (jq (ah f) _ _ _) (dN (by omega))).mono ?_;rintro e w4 ⟨rfl,C⟩;have d:Below w3.heap.size w3 w4:=bD (((Below.refl w3.heap.size w3).alloc (Nat.le_refl _) _).drew) C;clear C;have j:=hid (z.below d);have a3:=hid (B.below d);have a2:=hid (l.below d);have b5:=hid (bD J d);clear d;clear p0 p1 p2 p3 p4 p5;have X:=j.facts.2.2.2.2.2.2.2.2.2.2.1;have V:=j.thaw.2.2.2.2.2.2.2.2.2.2.1;have W:=j.facts.2.2.2.2.2.2.2.2.2.2.2.2;have T:=j.thaw.2.2.2.2.2.2.2.2.2.2.2.2;go_upto_region 8 with(fail)
    have m:=((j.hf true).eY (aG.enc 1 f));have x:=((a3.set (k:=w.heap.size) (i:=10) (.bool true) h).set (k:=w.heap.size) (i:=12) (.string (ah (aG.enc 1 f))) h);have t:=((a2.set (k:=w.heap.size) (i:=10) (.bool true) g).set (k:=w.heap.size) (i:=12) (.string (ah (aG.enc 1 f))) g);have Q:=((b5.setCell (p:=⟨w.heap.size,10,none⟩) y (.bool true)).setCell (p:=⟨w.heap.size,12,none⟩) y (.string (ah (aG.enc 1 f))));clear X V W T;generalize (World.setCell (World.setCell w4 ⟨w.heap.size,10,none⟩ (.bool true)) ⟨w.heap.size,12,none⟩ (.string (ah (aG.enc 1 f))))=w5 at m x t Q⊢;have a1:Hid (UB w5 (w.heap.size) ({u with hq:=true,bT:=aG.enc 2 q,hf:=true,eY:=aG.enc 1 f}) (.slice A n c)):=m;clear m;clear x;have E:Hid (UB w5 ((w.heap.size+1+1)) (U0) (.slice none 0 0)):=t;clear t;have b3:=hid Q;clear Q;obtain⟨c0,c1,a7,c3,c4,c5,c6,c7,c8,c9,b0,a9,a8⟩:=a1.facts;go_wp2_with (refine aI E ({u with hq:=true,bT:=aG.enc 2 q,hf:=true,eY:=aG.enc 1 f}) A n c (.tmp 4) (.tmp 26) rfl rfl rfl rfl ?_)
    exact bodyPost_ret (res1 rfl (E.row ({u with hq:=true,bT:=aG.enc 2 q,hf:=true,eY:=aG.enc 1 f}) _) _ rfl) rfl ⟨by rw[I.out];first|done|rfl,below_setRow b3 L _⟩
  |true=>
   have Y:Hid (O=if hf=true then {{u with hq:=true,bT:=aG.enc 3 q}with hf:=true,eY:=aG.enc 1 f}else {u with hq:=true,bT:=aG.enc 3 q}):=by show _=_;rw[HO.out];unfold aJ.finish;simp only[hs];first|done|rfl|simp
   rw[hs]at b6;clear hs;obtain⟨p0,p1,p2,p3,p4,p5⟩:=v.facts;have b9:=D.facts.1;go_wp2_with fail
   refine(b6 _).mono ?_;rintro e wx ⟨rfl,a0⟩;obtain rfl:w1=wx:=by first|exact a0|exact a0.symm
   clear a0;have N:=fun(w:World) s=>run_bytes_of_string (P:=prog) w 9 50 5 s underlying9 underlying50 underlying5;go_wp2_with fail
   clear N;refine(aG.gq 3 _ _ _ q _ (jq (ah q) _ _ _) (dN (by omega))).mono ?_;rintro e w2 ⟨rfl,C⟩;have d:Below w1.heap.size w1 w2:=bD (((Below.refl w1.heap.size w1).alloc (Nat.le_refl _) _).drew) C;clear C;have a:=hid (D.below d);have H:=hid (v.below d);have F:=hid (G.below d);have Z:=hid (bD a4 d);clear d;clear p0 p1 p2 p3 p4 p5;clear b9;have b8:=a.facts.2.2.2.2.2.2.2.2.2.1;have b7:=a.thaw.2.2.2.2.2.2.2.2.2.1;have a6:=a.facts.2.2.2.2.2.2.2.2.2.2.2.1;have a5:=a.thaw.2.2.2.2.2.2.2.2.2.2.2.1;go_upto_region 6 with(fail)
   have m:=((a.hq true).bT (aG.enc 3 q));have x:=((H.set (k:=w.heap.size) (i:=9) (.bool true) h).set (k:=w.heap.size) (i:=11) (.string (ah (aG.enc 3 q))) h);have t:=((F.set (k:=w.heap.size) (i:=9) (.bool true) g).set (k:=w.heap.size) (i:=11) (.string (ah (aG.enc 3 q))) g);have Q:=((Z.setCell (p:=⟨w.heap.size,9,none⟩) y (.bool true)).setCell (p:=⟨w.heap.size,11,none⟩) y (.string (ah (aG.enc 3 q))));clear b8 b7 a6 a5;generalize (World.setCell (World.setCell w2 ⟨w.heap.size,9,none⟩ (.bool true)) ⟨w.heap.size,11,none⟩ (.string (ah (aG.enc 3 q))))=w3 at m x t Q⊢;have z:Hid (UB w3 (w.heap.size) ({u with hq:=true,bT:=aG.enc 3 q}) (.slice A n c)):=m;clear m;have B:Hid (PB w3 ((w.heap.size+1)) (⟨s,r,q,f,true,hf⟩)):=x;clear x;have l:Hid (UB w3 ((w.heap.size+1+1)) (U0) (.slice none 0 0)):=t;clear t;have J:=hid Q;clear Q;cases hf with
   |false=>
    have I:Hid (O={u with hq:=true,bT:=aG.enc 3 q}):=by show _=_;rw[Y.out];first|done|rfl|simp
    obtain⟨p0,p1,p2,p3,p4,p5⟩:=B.facts;obtain⟨c0,c1,a7,c3,c4,c5,c6,c7,c8,c9,b0,a9,a8⟩:=z.facts;go_wp2_with (refine aI l ({u with hq:=true,bT:=aG.enc 3 q}) A n c (.tmp 4) (.tmp 26) rfl rfl rfl rfl ?_)
    exact bodyPost_ret (res1 rfl (l.row ({u with hq:=true,bT:=aG.enc 3 q}) _) _ rfl) rfl ⟨by rw[I.out];first|done|rfl,below_setRow J L _⟩
   |true=>
    have I:Hid (O={u with hq:=true,bT:=aG.enc 3 q,hf:=true,eY:=aG.enc 1 f}):=by show _=_;rw[Y.out];first|done|rfl|simp
    obtain⟨p0,p1,p2,p3,p4,p5⟩:=B.facts;have N:=fun(w:World) s=>run_bytes_of_string (P:=prog) w 9 50 5 s underlying9 underlying50 underlying5;go_wp2_with fail
    clear N;refine(aG.gq 1 _ _ _ f _ (jq (ah f) _ _ _) (dN (by omega))).mono ?_;rintro e w4 ⟨rfl,C⟩;have d:Below w3.heap.size w3 w4:=bD (((Below.refl w3.heap.size w3).alloc (Nat.le_refl _) _).drew) C;clear C;have j:=hid (z.below d);have a3:=hid (B.below d);have a2:=hid (l.below d);have b5:=hid (bD J d);clear d;clear p0 p1 p2 p3 p4 p5;have X:=j.facts.2.2.2.2.2.2.2.2.2.2.1;have V:=j.thaw.2.2.2.2.2.2.2.2.2.2.1;have W:=j.facts.2.2.2.2.2.2.2.2.2.2.2.2;have T:=j.thaw.2.2.2.2.2.2.2.2.2.2.2.2;go_upto_region 8 with(fail)
    have m:=((j.hf true).eY (aG.enc 1 f));have x:=((a3.set (k:=w.heap.size) (i:=10) (.bool true) h).set (k:=w.heap.size) (i:=12) (.string (ah (aG.enc 1 f))) h);have t:=((a2.set (k:=w.heap.size) (i:=10) (.bool true) g).set (k:=w.heap.size) (i:=12) (.string (ah (aG.enc 1 f))) g);have Q:=((b5.setCell (p:=⟨w.heap.size,10,none⟩) y (.bool true)).setCell (p:=⟨w.heap.size,12,none⟩) y (.string (ah (aG.enc 1 f))));clear X V W T;generalize (World.setCell (World.setCell w4 ⟨w.heap.size,10,none⟩ (.bool true)) ⟨w.heap.size,12,none⟩ (.string (ah (aG.enc 1 f))))=w5 at m x t Q⊢;have a1:Hid (UB w5 (w.heap.size) ({u with hq:=true,bT:=aG.enc 3 q,hf:=true,eY:=aG.enc 1 f}) (.slice A n c)):=m;clear m;clear x;have E:Hid (UB w5 ((w.heap.size+1+1)) (U0) (.slice none 0 0)):=t;clear t;have b3:=hid Q;clear Q;obtain⟨c0,c1,a7,c3,c4,c5,c6,c7,c8,c9,b0,a9,a8⟩:=a1.facts;go_wp2_with (refine aI E ({u with hq:=true,bT:=aG.enc 3 q,hf:=true,eY:=aG.enc 1 f}) A n c (.tmp 4) (.tmp 26) rfl rfl rfl rfl ?_)
    exact bodyPost_ret (res1 rfl (E.row ({u with hq:=true,bT:=aG.enc 3 q,hf:=true,eY:=aG.enc 1 f}) _) _ rfl) rfl ⟨by rw[I.out];first|done|rfl,below_setRow b3 L _⟩
end MS
namespace eH
open Go.RowKit Base aJ vP vK
def OJ (o:Option U) (B:Nat):Keep:=⟨fun v w=>∃A n c,v=.tuple #[.agg (cells (o.getD U0) (.slice A n c)),.bool o.isSome]∧w.ownsRow B 9 1 (.slice A n c) n ((o.getD U0).aF.map Value.string),fun _ _ _ hb ⟨A,n,c,h1,h2⟩=>⟨A,n,c,h1,aZ h2 hb⟩⟩
def ML (o:Option U) (B:Nat):Keep:=⟨fun v w=>∃A n c,v=.agg (cells (o.getD U0) (.slice A n c))∧w.ownsRow B 9 1 (.slice A n c) n ((o.getD U0).aF.map Value.string),fun _ _ _ hb ⟨A,n,c,h1,h2⟩=>⟨A,n,c,h1,aZ h2 hb⟩⟩
theorem ny {w w':World} {o:Option U} {e:Ending} (h:l7 w o e w'):Below w.heap.size w w'∧∃A n c,e=.returned (.tuple #[.agg (cells (o.getD U0) (.slice A n c)),.bool o.isSome])∧w'.ownsRow w.heap.size 9 1 (.slice A n c) n ((o.getD U0).aF.map Value.string):=by
 obtain⟨f,u,A,n,c,g,rfl,a,d|d⟩:=h
 ·obtain⟨rfl,rfl⟩:=d;exact⟨f,A,n,c,rfl,a⟩
 obtain⟨rfl,rfl,rfl⟩:=d;exact⟨f,A,n,c,rfl,a⟩
theorem nO {w w':World} {o:Option U} {A:Option Addr} {n c:Nat} (a:Below w.heap.size w w') (h:w'.ownsRow w.heap.size 9 1 (.slice A n c) n ((o.getD U0).aF.map Value.string)):l7 w o (.returned (.tuple #[.agg (cells (o.getD U0) (.slice A n c)),.bool o.isSome])) w':=by
 cases o with
 |none=>exact⟨a,U0,A,n,c,false,rfl,h,.inr ⟨rfl,rfl,rfl⟩⟩
 |some u=>exact⟨a,u,A,n,c,true,rfl,h,.inl ⟨rfl,rfl⟩⟩
end eH
