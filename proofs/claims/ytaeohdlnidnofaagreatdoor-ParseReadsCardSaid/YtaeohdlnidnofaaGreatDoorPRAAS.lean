/- Lemmas. -/
import Derived.Test.YtaeohdlnidnofaaGreatDoorPRAAR
set_option linter.unusedSimpArgs false
set_option linter.unusedVariables false
set_option maxRecDepth 100000
set_option maxHeartbeats 64000000
namespace Go.Proofs.YtaeohdlnidnofaaGreatDoor
open Tryz
namespace yw
open Go.RowKit Base bC eU aJ jX fJ vW
variable {k:K} {m:M} {q:Value} {w:World} {j:Nat} {R:List UInt8}
theorem _root_.Go.Proofs.YtaeohdlnidnofaaGreatDoor.fJ.MX.x0 (h:MX k m q w):w.cell? ⟨k.g,0,none⟩=some (.string (ah k.T)):=cell_of_row w k.g 0 _ _ _ h.row
theorem _root_.Go.Proofs.YtaeohdlnidnofaaGreatDoor.fJ.MX.x1 (h:MX k m q w):w.cell? ⟨k.g,1,none⟩=some (.int .i64 m.p):=cell_of_row w k.g 1 _ _ _ h.row
theorem _root_.Go.Proofs.YtaeohdlnidnofaaGreatDoor.fJ.MX.x2 (h:MX k m q w):w.cell? ⟨k.g,2,none⟩=some (.int .i64 (m.st:Int)):=cell_of_row w k.g 2 _ _ _ h.row
theorem _root_.Go.Proofs.YtaeohdlnidnofaaGreatDoor.fJ.MX.x3 (h:MX k m q w):w.cell? ⟨k.g,3,none⟩=some (.string (ah m.buf)):=cell_of_row w k.g 3 _ _ _ h.row
theorem _root_.Go.Proofs.YtaeohdlnidnofaaGreatDoor.fJ.MX.x4 (h:MX k m q w):w.cell? ⟨k.g,4,none⟩=some (.string (ah m.u.au)):=cell_of_row w k.g 4 _ _ _ h.row
theorem _root_.Go.Proofs.YtaeohdlnidnofaaGreatDoor.fJ.MX.x5 (h:MX k m q w):w.cell? ⟨k.g,5,none⟩=some (.string (ah m.u.bU)):=cell_of_row w k.g 5 _ _ _ h.row
theorem _root_.Go.Proofs.YtaeohdlnidnofaaGreatDoor.fJ.MX.x6 (h:MX k m q w):w.cell? ⟨k.g,6,none⟩=some (.string (ah m.u.bW)):=cell_of_row w k.g 6 _ _ _ h.row
theorem _root_.Go.Proofs.YtaeohdlnidnofaaGreatDoor.fJ.MX.x7 (h:MX k m q w):w.cell? ⟨k.g,7,none⟩=some (.string (ah m.u.aU)):=cell_of_row w k.g 7 _ _ _ h.row
theorem _root_.Go.Proofs.YtaeohdlnidnofaaGreatDoor.fJ.MX.x8 (h:MX k m q w):w.cell? ⟨k.g,8,none⟩=some (.bool m.u.hh):=cell_of_row w k.g 8 _ _ _ h.row
theorem _root_.Go.Proofs.YtaeohdlnidnofaaGreatDoor.fJ.MX.x9 (h:MX k m q w):w.cell? ⟨k.g,9,none⟩=some (.int .i64 m.u.port):=cell_of_row w k.g 9 _ _ _ h.row
theorem _root_.Go.Proofs.YtaeohdlnidnofaaGreatDoor.fJ.MX.x10 (h:MX k m q w):w.cell? ⟨k.g,10,none⟩=some (.bool m.u.dF):=cell_of_row w k.g 10 _ _ _ h.row
theorem _root_.Go.Proofs.YtaeohdlnidnofaaGreatDoor.fJ.MX.x11 (h:MX k m q w):w.cell? ⟨k.g,11,none⟩=some (.string (ah m.u.txt)):=cell_of_row w k.g 11 _ _ _ h.row
theorem _root_.Go.Proofs.YtaeohdlnidnofaaGreatDoor.fJ.MX.x12 (h:MX k m q w):w.cell? ⟨k.g,12,none⟩=some (q):=cell_of_row w k.g 12 _ _ _ h.row
theorem _root_.Go.Proofs.YtaeohdlnidnofaaGreatDoor.fJ.MX.x13 (h:MX k m q w):w.cell? ⟨k.g,13,none⟩=some (.bool m.u.hq):=cell_of_row w k.g 13 _ _ _ h.row
theorem _root_.Go.Proofs.YtaeohdlnidnofaaGreatDoor.fJ.MX.x14 (h:MX k m q w):w.cell? ⟨k.g,14,none⟩=some (.bool m.u.hf):=cell_of_row w k.g 14 _ _ _ h.row
theorem _root_.Go.Proofs.YtaeohdlnidnofaaGreatDoor.fJ.MX.x15 (h:MX k m q w):w.cell? ⟨k.g,15,none⟩=some (.string (ah m.u.bQ)):=cell_of_row w k.g 15 _ _ _ h.row
theorem _root_.Go.Proofs.YtaeohdlnidnofaaGreatDoor.fJ.MX.x16 (h:MX k m q w):w.cell? ⟨k.g,16,none⟩=some (.string (ah m.u.eX)):=cell_of_row w k.g 16 _ _ _ h.row
theorem _root_.Go.Proofs.YtaeohdlnidnofaaGreatDoor.fJ.MX.x17 (h:MX k m q w):w.cell? ⟨k.g,17,none⟩=some (.string (ah k.b.au)):=cell_of_row w k.g 17 _ _ _ h.row
theorem _root_.Go.Proofs.YtaeohdlnidnofaaGreatDoor.fJ.MX.x18 (h:MX k m q w):w.cell? ⟨k.g,18,none⟩=some (.string (ah k.b.bU)):=cell_of_row w k.g 18 _ _ _ h.row
theorem _root_.Go.Proofs.YtaeohdlnidnofaaGreatDoor.fJ.MX.x19 (h:MX k m q w):w.cell? ⟨k.g,19,none⟩=some (.string (ah k.b.bW)):=cell_of_row w k.g 19 _ _ _ h.row
theorem _root_.Go.Proofs.YtaeohdlnidnofaaGreatDoor.fJ.MX.x20 (h:MX k m q w):w.cell? ⟨k.g,20,none⟩=some (.string (ah k.b.aU)):=cell_of_row w k.g 20 _ _ _ h.row
theorem _root_.Go.Proofs.YtaeohdlnidnofaaGreatDoor.fJ.MX.x21 (h:MX k m q w):w.cell? ⟨k.g,21,none⟩=some (.bool k.b.hh):=cell_of_row w k.g 21 _ _ _ h.row
theorem _root_.Go.Proofs.YtaeohdlnidnofaaGreatDoor.fJ.MX.x22 (h:MX k m q w):w.cell? ⟨k.g,22,none⟩=some (.int .i64 k.b.port):=cell_of_row w k.g 22 _ _ _ h.row
theorem _root_.Go.Proofs.YtaeohdlnidnofaaGreatDoor.fJ.MX.x23 (h:MX k m q w):w.cell? ⟨k.g,23,none⟩=some (.bool k.b.dF):=cell_of_row w k.g 23 _ _ _ h.row
theorem _root_.Go.Proofs.YtaeohdlnidnofaaGreatDoor.fJ.MX.x24 (h:MX k m q w):w.cell? ⟨k.g,24,none⟩=some (.string (ah k.b.txt)):=cell_of_row w k.g 24 _ _ _ h.row
theorem _root_.Go.Proofs.YtaeohdlnidnofaaGreatDoor.fJ.MX.x25 (h:MX k m q w):w.cell? ⟨k.g,25,none⟩=some (k.qb):=cell_of_row w k.g 25 _ _ _ h.row
theorem _root_.Go.Proofs.YtaeohdlnidnofaaGreatDoor.fJ.MX.x26 (h:MX k m q w):w.cell? ⟨k.g,26,none⟩=some (.bool k.b.hq):=cell_of_row w k.g 26 _ _ _ h.row
theorem _root_.Go.Proofs.YtaeohdlnidnofaaGreatDoor.fJ.MX.x28 (h:MX k m q w):w.cell? ⟨k.g,28,none⟩=some (.string (ah k.b.bQ)):=cell_of_row w k.g 28 _ _ _ h.row
theorem _root_.Go.Proofs.YtaeohdlnidnofaaGreatDoor.fJ.MX.x30 (h:MX k m q w):w.cell? ⟨k.g,30,none⟩=some (.bool k.has):=cell_of_row w k.g 30 _ _ _ h.row
theorem _root_.Go.Proofs.YtaeohdlnidnofaaGreatDoor.fJ.MX.x31 (h:MX k m q w):w.cell? ⟨k.g,31,none⟩=some (.bool m.sign):=cell_of_row w k.g 31 _ _ _ h.row
theorem _root_.Go.Proofs.YtaeohdlnidnofaaGreatDoor.fJ.MX.x32 (h:MX k m q w):w.cell? ⟨k.g,32,none⟩=some (.bool m.inn):=cell_of_row w k.g 32 _ _ _ h.row
theorem _root_.Go.Proofs.YtaeohdlnidnofaaGreatDoor.fJ.MX.x33 (h:MX k m q w):w.cell? ⟨k.g,33,none⟩=some (.bool m.pass):=cell_of_row w k.g 33 _ _ _ h.row
theorem _root_.Go.Proofs.YtaeohdlnidnofaaGreatDoor.fJ.MX.x34 (h:MX k m q w):w.cell? ⟨k.g,34,none⟩=some (.int .i64 0):=cell_of_row w k.g 34 _ _ _ h.row
theorem _root_.Go.Proofs.YtaeohdlnidnofaaGreatDoor.fJ.MX.s34 (h:MX k m q w):MX k m q (w.setCell ⟨k.g,34,none⟩ (.int .i64 0)):=⟨heap_setCell_same w k.g 34 _ _ _ h.row,gQ h.own (iP h.row h.own),h.bF.setCell h.le _,h.le⟩
theorem lC (h:MX k m q w) (a:m.p=(j:Int)) (d:k.T.drop j=R) {b:Bool} (c:decide (R=[])=b):Calls prog 28 #[.pointer (some ⟨k.g,0,none⟩)] w fun e w'=>e=.returned (.bool b)∧Below w.heap.size w w':=c▸UO h a d
theorem yQ (h:MX k m q w) (c:m.p=(j:Int)) (d:k.T.drop j=R) {v:Nat} (a:(cc R).toNat=v):Calls prog 72 #[.pointer (some ⟨k.g,0,none⟩)] w fun e w'=>e=.returned (.int .u8 (v:Int))∧Below w.heap.size w w':=a▸ZG h c d
theorem dX (h:MX k m q w) {b:Bool} (a:sp m=b):Calls prog 80 #[.pointer (some ⟨k.g,0,none⟩)] w fun e w'=>e=.returned (.bool b)∧Below w.heap.size w w':=a▸Cc h
theorem eu (h:MX k m q w) (a:m.p=(j:Int)) (d:k.T.drop j=R) {b:Bool} (c:bV R=b):Calls prog 159 #[.pointer (some ⟨k.g,0,none⟩)] w fun e w'=>e=.returned (.bool b)∧Below w.heap.size w w':=c▸abE h a d
theorem bM (h:MX k m q w) (a:m.p=(j:Int)) (d:k.T.drop j=R) {b:Bool} (c:kM (sp m) R=b):Calls prog 81 #[.pointer (some ⟨k.g,0,none⟩)] w fun e w'=>e=.returned (.bool b)∧Below w.heap.size w w':=c▸Y3 h a d
theorem xJ {c:UInt8} (n:Nat) (e:c.toNat=n) (h:n<256:=by decide):c=UInt8.ofNat n:=UInt8.toNat_inj.1 (e.trans (UInt8.toNat_ofNat_of_lt h).symm)
theorem uw {c:UInt8} {n:Nat} (e:c.toNat≠n) (h:n<256:=by decide):¬c=UInt8.ofNat n:=by rintro rfl;exact e (UInt8.toNat_ofNat_of_lt h)
theorem mZ (h:MX k m q w) (y:m.p=(j:Int)) (z:k.T.drop j=R) (A:k.T.length≤4611686018427387904) (B:j≤k.T.length):Calls prog 158 #[.pointer (some ⟨k.g,0,none⟩)] w fun e w'=>e=.returned (.tuple #[])∧MX k (tail m R) q w'∧True:=by
 have d:=hid h;have l:=hid y;have i:=hid z;have E:Hid (-4611686018427387904≤m.p∧m.p≤4611686018427387904):=⟨by omega,by omega⟩;obtain⟨b,r⟩:∃b,decide (R=[])=b:=⟨_,rfl⟩;obtain⟨v,f⟩:∃v,(cc R).toNat=v:=⟨_,rfl⟩;have C:=hid r;have HV:=hid f;rcases b with _|_
 ·have D:Hid (R≠[]):=of_decide_eq_false r;by_cases h63:v=63
  ·subst h63;have s:Hid (tail m R=mv {m with u:={m.u with hq:=true,bQ:=[]}} 17 false):=by
    show _=_
    match R,D,f with
    |c::L,_,f=>exact if_pos (xJ 63 f)
   clear r f;clear h y z A B;go_enter func158,ntmps158;go_wp2_with fail
   refine dQ d (lC d l i C) fun w2 HM2=>?_;go_wp2_with fail
   refine dQ HM2 (yQ HM2 l i HV) fun w3 HM3=>?_;have V:=HM3.x13;have P:=HM3.x15;have I:=HM3.thaw 13;have G:=HM3.thaw 15;have a:=hid (HM3.Nl true);have x:=hid (a.vM []);go_wp2_with fail
   refine jw (iy x E 17 false) fun w6 t=>?_;go_wp2;first|go_end0|((try simp only[Exit.inBlock,Exit.then]);refine fA rfl rfl ?_)
   exact⟨rfl,by rw[s.out];exact t,trivial⟩
  have J:¬(v:Int)=63:=by omega
  by_cases h35:v=35
  ·subst h35;have s:Hid (tail m R=mv {m with u:={m.u with hf:=true,eX:=[]}} 18 false):=by
    show _=_
    match R,D,f with
    |c::L,_,f=>exact(if_neg (uw (c:=c) (n:=63) (by rw[show c.toNat=35 from f];decide))).trans (if_pos (xJ 35 f))
   clear r f;clear h y z A B;go_enter func158,ntmps158;go_wp2_with fail
   refine dQ d (lC d l i C) fun w2 HM2=>?_;go_wp2_with fail
   refine dQ HM2 (yQ HM2 l i HV) fun w3 HM3=>?_;go_wp2_with fail
   refine dQ HM3 (yQ HM3 l i HV) fun w4 a=>?_;have Q:=a.x14;have O:=a.x16;have H:=a.thaw 14;have F:=a.thaw 16;have x:=hid (a.afa true);have t:=hid (x.aag []);go_wp2_with fail
   refine jw (iy t E 18 false) fun w7 HM7=>?_;go_wp2;first|go_end0|((try simp only[Exit.inBlock,Exit.then]);refine fA rfl rfl ?_)
   exact⟨rfl,by rw[s.out];exact HM7,trivial⟩
  have N:¬(v:Int)=35:=by omega
  have s:Hid (tail m R=m):=by
   show _=_
   match R,D,f with
   |c::L,_,f=>exact(if_neg (uw (c:=c) (n:=63) (by rw[show c.toNat=v from f];exact h63))).trans (if_neg (uw (c:=c) (n:=35) (by rw[show c.toNat=v from f];exact h35)))
  clear r f;clear h y z A B;go_enter func158,ntmps158;go_wp2_with fail
  refine dQ d (lC d l i C) fun w2 HM2=>?_;go_wp2_with fail
  refine dQ HM2 (yQ HM2 l i HV) fun w3 HM3=>?_;go_wp2_with fail
  refine dQ HM3 (yQ HM3 l i HV) fun w4 a=>?_;go_wp2;first|go_end0|((try simp only[Exit.inBlock,Exit.then]);refine fA rfl rfl ?_)
  exact⟨rfl,by rw[s.out];exact a,trivial⟩
 have s:Hid (tail m R=m):=by
  show _=_;rw[of_decide_eq_true r];rfl
 clear r f;clear h y z A B;go_enter func158,ntmps158;go_wp2_with fail
 refine dQ d (lC d l i C) fun w2 HM2=>?_;go_wp2;first|go_end0|((try simp only[Exit.inBlock,Exit.then]);refine fA rfl rfl ?_)
 exact⟨rfl,by rw[s.out];exact HM2,trivial⟩
theorem DK (h:MX k m q w) (f: -4611686018427387904≤m.p∧m.p≤4611686018427387904):Calls prog 78 #[.pointer (some ⟨k.g,0,none⟩)] w fun e w'=>e=.returned (.tuple #[])∧MX k (begin' m) q w'∧True:=by
 have d:=hid h;have l:=hid f;clear h f;go_enter func78,ntmps78;go_wp2_with fail
 refine jw (iy d l 8 false) fun w2 HM2=>?_;have r:=HM2.x3;have j:=HM2.x34;have n:=HM2.thaw 3;have i:=HM2.thaw 34;have c:=hid (HM2.buf []);have a:=hid (c.s34);go_wp2
 go_end0
 exact⟨rfl,a,trivial⟩
theorem LP (h:MX k m q w) (t:m.p=(j:Int)) (y:k.T.drop j=R) (v:k.T.length≤4611686018427387904) (x:j≤k.T.length):Calls prog 89 #[.pointer (some ⟨k.g,0,none⟩)] w fun e w'=>e=.returned (.tuple #[])∧MX k (eH m R) q w'∧True:=by
 have c:=hid h;have n:=hid t;have i:=hid y;have B:Hid (-4611686018427387904≤m.p∧m.p≤4611686018427387904):=⟨by omega,by omega⟩;obtain⟨s,d⟩:∃s,sp m=s:=⟨_,rfl⟩;obtain⟨l,a⟩:∃l,kM (sp m) R=l:=⟨_,rfl⟩;obtain⟨o,f⟩:∃o,bV R=o:=⟨_,rfl⟩;have z:=hid d;have C:=hid a;have D:=hid f;have E:=hid x;have A:=hid v;rcases s with _|_
 ·rcases o with _|_
  ·have r:Hid (eH m R=mv m 15 (!l)):=by
    show _=_;unfold eH;rw[d]at a⊢;rw[f,a];rfl
   clear d a f;clear h t y v x;go_enter func89,ntmps89;go_wp2_with fail
   refine dQ c (dX c z) fun w2 HM2=>?_;go_wp2_with fail
   refine dQ HM2 (eu HM2 n i D) fun w3 HM3=>?_;go_wp2_with fail
   refine dQ HM3 (bM HM3 n i C) fun w4 HM4=>?_;go_wp2_with fail
   refine jw (iy HM4 B 15 (!l)) fun w5 HM5=>?_;go_wp2
   go_end0
   exact⟨rfl,by rw[r.out];exact HM5,trivial⟩
  have r:Hid (eH m R=tail m R):=by
   show _=_;unfold eH;rw[d,f];rfl
  clear d a f;clear h t y v x;go_enter func89,ntmps89;go_wp2_with fail
  refine dQ c (dX c z) fun w2 HM2=>?_;go_wp2_with fail
  refine dQ HM2 (eu HM2 n i D) fun w3 HM3=>?_;go_wp2_with fail
  refine jw (mZ HM3 n i A E) fun w4 HM4=>?_;go_wp2
  go_end0
  exact⟨rfl,by rw[r.out];exact HM4,trivial⟩
 have r:Hid (eH m R=mv m 15 (!l)):=by
  show _=_;unfold eH;rw[d]at a⊢;rw[a];rfl
 clear d a f;clear h t y v x;go_enter func89,ntmps89;go_wp2_with fail
 refine dQ c (dX c z) fun w2 HM2=>?_;go_wp2_with fail
 refine dQ HM2 (bM HM2 n i C) fun w3 HM3=>?_;go_wp2_with fail
 refine jw (iy HM3 B 15 (!l)) fun w4 HM4=>?_;go_wp2
 go_end0
 exact⟨rfl,by rw[r.out];exact HM4,trivial⟩
end yw
namespace yK
open Go.RowKit Base bC eU jy jX fJ yw
variable {k:K} {m:M} {q:Value} {w:World} {j:Nat} {R:List UInt8}
structure Dp:Prop where
 inn:∀(x:Int) (c:UInt8) (w:World),Calls prog 167 #[.int .i64 x,.int .u8 (c.toNat:Int)] w fun e w'=>e=.returned (.bool (jY.iL x c.toNat))∧w=w'
 host:∀(s:ByteArray) (b:Bool) (w:World),s.size≤900000→Calls prog 202 #[.string s,.bool b] w fun e w'=>e=.returned (jy.HV (aU s.data.toList b))∧Below w.heap.size w w'
theorem YN (dp:Dp) (h:MX k m q w) (Q:m.p=(j:Int)) (X:k.T.drop j=R) (V:k.T.length≤4611686018427387904) (W:j≤k.T.length) (v:m.buf.length≤900000):Calls prog 92 #[.pointer (some ⟨k.g,0,none⟩),.int .u8 ((cc R).toNat:Int)] w fun e w'=>e=.returned (.tuple #[])∧MX k (pG m R) q w'∧True:=by
 have i:=hid h;have E:=hid Q;have D:=hid X;obtain⟨B,A⟩:∃B,m.buf=B:=⟨_,rfl⟩;have y:=hid A;have x:Hid (B.length≤900000):=by show _≤_;rw[←A];exact v
 obtain⟨c,z⟩:∃c,c=cc R:=⟨_,rfl⟩;rw[←z];have G:=hid dp;have F:=hid V;have HJ:=hid W;obtain⟨s,I⟩:∃s,sp m=s:=⟨_,rfl⟩;have HS:=hid I;obtain⟨b,J⟩:∃b,decide (R=[])=b:=⟨_,rfl⟩;have HB:=hid J;by_cases ha:b=false∧c≠35
 ·obtain ⟨rfl,O⟩:=ha;have L:¬(c.toNat:Int)=35:=by intro e;exact O (UInt8.toNat_inj.1 (by show c.toNat=35;omega))
  have Y:Hid (pG m R={m with buf:=B++[c]}):=by
   show _=_;unfold pG;rw[if_pos ⟨of_decide_eq_false J,z▸O⟩,A,z]
  clear A z I J O v dp;clear h Q X V W;go_enter func92,ntmps92;go_wp2_with fail
  refine dQ i (lC i E D HB) fun w2 HM2=>?_;go_wp2_with fail
  clear L;generalize ((c.toNat:Int) !=35)=g0;refine aW (by kernel_rfl) 11 [pg k.g 0,pg k.g 0,pg k.g 0,pg k.g 3,is (.string (ah B)),is (.int .u8 (c.toNat:Int)),row 1 (aQ [c]),is (.string (ah [c])),is (.string (ah (B++[c]))),pg k.g 0,pg k.g 3] [[],[],[1],[1,2],[1,2,3],[],[5],[5,6],[1,2,3,4,5,6,7],[0],[0,9],[0,1,2,3,4,5,6,7,8,9,10]] (by kernel_rfl) ?_ ?_
  ·refine ⟨?_,?_,?_,?_,?_,?_,?_,?_,?_,?_,?_,trivial⟩;all_goals(intro t Z N hh K r;simp only[iG,oV,Act.put,Nat.reduceAdd,Nat.reduceEqDiff,reduceIte]at hh r⊢)
   iterate 4
    ·try simp only[hh]at r⊢
     clear hh;go_simp;exact r _ _ aV rfl
   ·try simp only[hh]at r⊢
    clear hh;have l:=(HM2.below N).x3;rw[y.out]at l;go_simp;exact r _ _ aV rfl
   ·try simp only[hh]at r⊢
    clear hh;go_simp;exact r _ _ aV rfl
   ·try simp only[hh]at r⊢
    clear hh;go_simp;exact r _ _ ((Below.refl _ _).alloc (Nat.le_refl _) _) ⟨_,_,rfl,Nat.le_refl _,by decide,iR Z [c] 5 (0,0)⟩
   ·have e6:=hh.2.1;clear hh;obtain⟨A6,c6,e6,a4,a3,a0⟩:=e6;simp only[e6]at r⊢;have I:=aT 45 9 5 underlying45 underlying5 underlying9 _ c6 a0;go_simp;exact r _ _ aV rfl
   ·try simp only[hh]at r⊢
    clear hh;have a2:(Op.stringOp .add (ah B) (ah [c])).run prog Z=.ok (.string (ah (B++[c]))) Z:=bJ _ _ Z (by have:=x.out;simp;omega);go_simp;exact r _ _ aV rfl
   iterate 2
    ·try simp only[hh]at r⊢
     clear hh;go_simp;exact r _ _ aV rfl
  intro t Z N hh;have f8:=aO hh 8 (by decide);simp only[pick]at f8;replace f8:t 8=(.string (ah (B++[c]))):=f8;have C:=aO hh 10 (by decide);simp only[pick]at C;replace C:t 10=(.pointer (some ⟨k.g,3,none⟩)):=C;clear hh;simp only[iG,oV,Act.put,Nat.reduceAdd,Nat.reduceEqDiff,reduceIte];simp only[f8,C];have P:=hid (HM2.below N);have a1:=hid (P.buf (B++[c]));have H:=P.thaw 3;have l:=P.x3;go_wp2;first|go_end0|((try simp only[Exit.inBlock,Exit.then]);refine fA rfl rfl ?_)
  exact⟨rfl,by rw[Y.out];exact a1,trivial⟩
 have Y:Hid (pG m R=tail {m with u:={m.u with bQ:=aG.enc (if s=true then 3 else 2) B},buf:=[]} R):=by
  show _=_;unfold pG;rw[if_neg (fun h=>ha ⟨by rw[←J];exact decide_eq_false h.1,z▸h.2⟩),A,I]
 rcases s with _|_
 ·rcases b with _|_
  ·have L:(c.toNat:Int)=35:=by
    have:c=35:=by
     by_cases h:c=35
     ·exact h
     exact absurd ⟨rfl,h⟩ ha
    rw[this];rfl
   clear A z I J ha v dp;clear h Q X V W;go_enter func92,ntmps92;go_wp2_with fail
   refine dQ i (lC i E D HB) fun w2 HM2=>?_;go_wp2_with fail
   refine dQ HM2 (dX HM2 HS) fun w3 HM3=>?_;have l:=HM3.x3;have a:=HM3.x15;have H:=HM3.thaw 3;have n:=HM3.thaw 15;rw[y.out]at l;go_wp2_with fail
   refine dQ HM3 (Bl.gI 2 (ah B) _ (by have:=x.out;rw[ak];omega) (fun c w=>G.inn _ c w)) fun w9 HM9=>?_;clear l;have l:=HM9.x3;clear a;have a:=HM9.x15;have H:=HM9.thaw 3;have n:=HM9.thaw 15;have f:=hid (HM9.vM (aG.enc 2 B));have d:=hid (f.buf []);go_wp2_with fail
   refine jw (mZ d E D F HJ) fun w12 HM12=>?_;go_wp2;first|go_end0|((try simp only[Exit.inBlock,Exit.then]);refine fA rfl rfl ?_)
   exact⟨rfl,by rw[Y.out];exact HM12,trivial⟩
  clear A z I J ha v dp;clear h Q X V W;go_enter func92,ntmps92;go_wp2_with fail
  refine dQ i (lC i E D HB) fun w2 HM2=>?_;go_wp2_with fail
  refine dQ HM2 (dX HM2 HS) fun w3 HM3=>?_;have l:=HM3.x3;have a:=HM3.x15;have H:=HM3.thaw 3;have n:=HM3.thaw 15;rw[y.out]at l;go_wp2_with fail
  refine dQ HM3 (Bl.gI 2 (ah B) _ (by have:=x.out;rw[ak];omega) (fun c w=>G.inn _ c w)) fun w9 HM9=>?_;clear l;have l:=HM9.x3;clear a;have a:=HM9.x15;have H:=HM9.thaw 3;have n:=HM9.thaw 15;have f:=hid (HM9.vM (aG.enc 2 B));have d:=hid (f.buf []);go_wp2_with fail
  refine jw (mZ d E D F HJ) fun w12 HM12=>?_;go_wp2;first|go_end0|((try simp only[Exit.inBlock,Exit.then]);refine fA rfl rfl ?_)
  exact⟨rfl,by rw[Y.out];exact HM12,trivial⟩
 rcases b with _|_
 ·have L:(c.toNat:Int)=35:=by
   have:c=35:=by
    by_cases h:c=35
    ·exact h
    exact absurd ⟨rfl,h⟩ ha
   rw[this];rfl
  clear A z I J ha v dp;clear h Q X V W;go_enter func92,ntmps92;go_wp2_with fail
  refine dQ i (lC i E D HB) fun w2 HM2=>?_;go_wp2_with fail
  refine dQ HM2 (dX HM2 HS) fun w3 HM3=>?_;have l:=HM3.x3;have a:=HM3.x15;have H:=HM3.thaw 3;have n:=HM3.thaw 15;rw[y.out]at l;go_wp2_with fail
  refine dQ HM3 (Bl.gI 3 (ah B) _ (by have:=x.out;rw[ak];omega) (fun c w=>G.inn _ c w)) fun w9 HM9=>?_;clear l;have l:=HM9.x3;clear a;have a:=HM9.x15;have H:=HM9.thaw 3;have n:=HM9.thaw 15;have f:=hid (HM9.vM (aG.enc 3 B));have d:=hid (f.buf []);go_wp2_with fail
  refine jw (mZ d E D F HJ) fun w12 HM12=>?_;go_wp2;first|go_end0|((try simp only[Exit.inBlock,Exit.then]);refine fA rfl rfl ?_)
  exact⟨rfl,by rw[Y.out];exact HM12,trivial⟩
 clear A z I J ha v dp;clear h Q X V W;go_enter func92,ntmps92;go_wp2_with fail
 refine dQ i (lC i E D HB) fun w2 HM2=>?_;go_wp2_with fail
 refine dQ HM2 (dX HM2 HS) fun w3 HM3=>?_;have l:=HM3.x3;have a:=HM3.x15;have H:=HM3.thaw 3;have n:=HM3.thaw 15;rw[y.out]at l;go_wp2_with fail
 refine dQ HM3 (Bl.gI 3 (ah B) _ (by have:=x.out;rw[ak];omega) (fun c w=>G.inn _ c w)) fun w9 HM9=>?_;clear l;have l:=HM9.x3;clear a;have a:=HM9.x15;have H:=HM9.thaw 3;have n:=HM9.thaw 15;have f:=hid (HM9.vM (aG.enc 3 B));have d:=hid (f.buf []);go_wp2_with fail
 refine jw (mZ d E D F HJ) fun w12 HM12=>?_;go_wp2;first|go_end0|((try simp only[Exit.inBlock,Exit.then]);refine fA rfl rfl ?_)
 exact⟨rfl,by rw[Y.out];exact HM12,trivial⟩
end yK
namespace Ea
open Go.RowKit Base bC eU iK aJ jy jX fJ vW yw yK mF
variable {k:K} {m:M} {q:Value} {w:World} {j:Nat} {R:List UInt8}
theorem Yb (o:Option (List UInt8)):HV o=.tuple #[.string (ah (o.getD [])),.bool o.isSome]:=by cases o<;>rfl
theorem uN (dp:Dp) (h:MX k m q w) (n:m.buf.length≤900000):Calls prog 161 #[.pointer (some ⟨k.g,0,none⟩)] w fun e w'=>e=.returned (.bool (met m))∧MX k (meet m) q w':=by
 have E:=hid dp;have l:=hid h;obtain⟨B,r⟩:∃B,m.buf=B:=⟨_,rfl⟩;have G:=hid r;have F:Hid (B.length≤900000):=by show _≤_;rw[←r];exact n
 obtain⟨s,v⟩:∃s,sp m=s:=⟨_,rfl⟩;have O:=hid v;obtain⟨H,y⟩:∃H,(aU B s).getD []=H:=⟨_,rfl⟩;obtain⟨b,x⟩:∃b,(aU B s).isSome=b:=⟨_,rfl⟩;have N:Hid (HV (aU B s)=.tuple #[.string (ah H),.bool b]):=by show _=_;rw[Yb,y,x]
 have P:Hid (meet m={m with u:={m.u with hh:=true,aU:=H},buf:=[]}):=by
  show _=_;unfold meet;rw[r,v,y]
 have z:Hid (met m=b):=by
  show _=_;unfold met;rw[r,v,x]
 clear h r v y x n dp;go_enter func161,ntmps161;go_wp2_with fail
 refine dH (by kernel_rfl) [pg k.g 0,pg k.g 0,pg k.g 3,is (.string (ah B)),pg k.g 0,is (.bool s),is (.tuple #[.string (ah H),.bool b]),is (.tuple #[.string (ah H),.bool b]),is (.string (ah H)),is (.bool b),is (.string (ah H)),is (.bool b)] [[],[0],[1],[2],[],[4],[3,5],[6],[7],[7],[8],[9]] (by kernel_rfl) ?_ ?_
 ·refine ⟨?_,?_,?_,?_,?_,?_,?_,?_,?_,?_,?_,?_,trivial⟩;all_goals(intro t J c hh K i;simp only[iG,Act.put,Nat.reduceAdd,Nat.reduceEqDiff,reduceIte]at hh i⊢;(try simp only[hh]at i⊢);clear hh)
  iterate 3
   ·go_simp;exact i _ _ aV rfl
  ·have I:=(l.below c).x3;rw[G.out]at I;go_simp;exact i _ _ aV rfl
  ·go_simp;exact i _ _ aV rfl
  ·go_simp;refine(dX (l.below c) O).mono ?_;rintro e L ⟨rfl,j⟩;exact i _ _ j rfl
  ·go_simp;refine(E.host (ah B) s _ (by have:=F.out;rw[ak];omega)).mono ?_;rintro e L ⟨rfl,j⟩;rw[show(ah B).data.toList=B from rfl,N.out];exact i _ _ j rfl
  iterate 5
   ·go_simp;exact i _ _ aV rfl
 intro t J c hh;have f:=aO hh 10 (by decide);simp only[pick]at f;replace f:t 10=(.string (ah H)):=f;have d:=aO hh 11 (by decide);simp only[pick]at d;replace d:t 11=(.bool b):=d;clear hh;simp only[iG,Act.put,Nat.reduceAdd,Nat.reduceEqDiff,reduceIte];simp only[f,d];have a:=hid (l.below c);have W:=a.x8;have X:=a.x7;have I:=a.x3;have Q:=a.thaw 8;have T:=a.thaw 7;have V:=a.thaw 3;have D:=hid (a.TF true);have C:=hid (D.rJ H);have A:=hid (C.buf []);go_wp2;go_ret;exact⟨by rw[z.out];rfl,by rw[P.out];exact A⟩
theorem NZ (dp:Dp) (h:MX k m q w) (hz:m.p=(j:Int)) (hR:k.T.drop j=R) (hl:k.T.length≤4611686018427387904) (hj:j≤k.T.length) (z:m.buf.length≤900000):Calls prog 88 #[.pointer (some ⟨k.g,0,none⟩),.int .u8 ((cc R).toNat:Int)] w fun e w'=>e=.returned (.tuple #[])∧MX k (dA m R) q w'∧True:=by
 have f:=hid h;have O:=hid hz;have N:=hid hR;have HZ:Hid (-4611686018427387904≤m.p∧m.p≤4611686018427387904):=⟨by omega,by omega⟩;obtain⟨B,E⟩:∃B,m.buf=B:=⟨_,rfl⟩;have C:=hid E;have a6:Hid (B.length≤900000):=by show _≤_;rw[←E];exact z
 obtain⟨c,Y⟩:∃c,c=cc R:=⟨_,rfl⟩;rw[←Y];have a0:=hid dp;obtain⟨s,hs⟩:∃s,sp m=s:=⟨_,rfl⟩;obtain⟨l,n⟩:∃l,kM (sp m) R=l:=⟨_,rfl⟩;have HL:=hid n;obtain⟨o,X⟩:∃o,bV R=o:=⟨_,rfl⟩;have HE:=hid X;have F:Hid (m.buf.length≤900000):=by show _≤_;rw[E];exact a6
 by_cases hg:o=false∧l=false
 ·obtain ⟨rfl,rfl⟩:=hg;have P:Hid (dA m R={m with buf:=B++[c]}):=by
   show _=_;unfold dA;rw[if_pos ⟨X,n⟩,E,Y]
  clear E Y hs n X z dp;clear h hz hR hl hj;go_enter func88,ntmps88;go_wp2_with fail
  refine dQ f (eu f O N HE) fun w2 HM2=>?_;go_wp2_with fail
  refine dQ HM2 (bM HM2 O N HL) fun w3 a=>?_;go_wp2_with fail
  refine aW (by kernel_rfl) 11 [pg k.g 0,pg k.g 0,pg k.g 0,pg k.g 3,is (.string (ah B)),is (.int .u8 (c.toNat:Int)),row 1 (aQ [c]),is (.string (ah [c])),is (.string (ah (B++[c]))),pg k.g 0,pg k.g 3] [[],[],[1],[1,2],[1,2,3],[],[5],[5,6],[1,2,3,4,5,6,7],[0],[0,9],[0,1,2,3,4,5,6,7,8,9,10]] (by kernel_rfl) ?_ ?_
  ·refine ⟨?_,?_,?_,?_,?_,?_,?_,?_,?_,?_,?_,trivial⟩;all_goals(intro t wq a4 hh K Q;simp only[iG,oV,Act.put,Nat.reduceAdd,Nat.reduceEqDiff,reduceIte]at hh Q⊢)
   iterate 4
    ·try simp only[hh]at Q⊢
     clear hh;go_simp;exact Q _ _ aV rfl
   ·try simp only[hh]at Q⊢
    clear hh;have r:=(a.below a4).x3;rw[C.out]at r;go_simp;exact Q _ _ aV rfl
   ·try simp only[hh]at Q⊢
    clear hh;go_simp;exact Q _ _ aV rfl
   ·try simp only[hh]at Q⊢
    clear hh;go_simp;exact Q _ _ ((Below.refl _ _).alloc (Nat.le_refl _) _) ⟨_,_,rfl,Nat.le_refl _,by decide,iR wq [c] 5 (0,0)⟩
   ·have e6:=hh.2.1;clear hh;obtain⟨A6,c6,e6,b5,b3,a7⟩:=e6;simp only[e6]at Q⊢;have hs:=aT 45 9 5 underlying45 underlying5 underlying9 _ c6 a7;go_simp;exact Q _ _ aV rfl
   ·try simp only[hh]at Q⊢
    clear hh;have b0:(Op.stringOp .add (ah B) (ah [c])).run prog wq=.ok (.string (ah (B++[c]))) wq:=bJ _ _ wq (by have:=a6.out;simp;omega);go_simp;exact Q _ _ aV rfl
   iterate 2
    ·try simp only[hh]at Q⊢
     clear hh;go_simp;exact Q _ _ aV rfl
  intro t wq a4 hh;have f8:=aO hh 8 (by decide);simp only[pick]at f8;replace f8:t 8=(.string (ah (B++[c]))):=f8;have a2:=aO hh 10 (by decide);simp only[pick]at a2;replace a2:t 10=(.pointer (some ⟨k.g,3,none⟩)):=a2;clear hh;simp only[iG,oV,Act.put,Nat.reduceAdd,Nat.reduceEqDiff,reduceIte];simp only[f8,a2];have a5:=hid (a.below a4);have a9:=hid (a5.buf (B++[c]));have z3:=a5.thaw 3;have r:=a5.x3;go_wp2;first|go_end0|((try simp only[Exit.inBlock,Exit.then]);refine fA rfl rfl ?_)
  exact⟨rfl,by rw[P.out];exact a9,trivial⟩
 have HN:Hid (¬(bV R=false∧kM (sp m) R=false)):=by show ¬_;rw[X,n];exact hg
 obtain⟨d,L⟩:∃d,lu B=d:=⟨_,rfl⟩;have HD:=hid L;by_cases he:B=[]
 ·subst he;have a8:d=false:=L.symm.trans rfl;subst a8;have A:Hid ((ah []).toList.isEmpty=true):=by show _=_;rw[mF.tl];rfl
  have P:Hid (dA m R=mv m 14 true):=by
   show _=_;unfold dA;rw[if_neg HN.out,E,if_neg (by rw[L];decide),if_pos rfl]
  rcases o with _|_
  ·have G:l=true:=match l,hg with|true,_=>rfl|false,hg=>absurd ⟨rfl,rfl⟩ hg
   subst G;clear E Y hs n X z dp hg L;clear h hz hR hl hj;go_enter func88,ntmps88;go_wp2_with fail
   refine dQ f (eu f O N HE) fun w2 HM2=>?_;go_wp2_with fail
   refine dQ HM2 (bM HM2 O N HL) fun w3 a=>?_;have r:=a.x3;rw[C.out]at r;go_wp2_with fail
   refine(oW.bT (ah []) _).mono ?_;rintro e9 w9 ⟨rfl,rfl⟩;rw[show lu (ah []).data.toList=false from HD.out];have H:=A.out;go_wp2_with fail
   refine jw (iy a HZ 14 true) fun w4 i=>?_;go_wp2;first|go_end0|((try simp only[Exit.inBlock,Exit.then]);refine fA rfl rfl ?_)
   exact⟨rfl,by rw[P.out];exact i,trivial⟩
  clear E Y hs n X z dp hg L;clear h hz hR hl hj;go_enter func88,ntmps88;go_wp2_with fail
  refine dQ f (eu f O N HE) fun w2 HM2=>?_;have r:=HM2.x3;rw[C.out]at r;go_wp2_with fail
  refine(oW.bT (ah []) _).mono ?_;rintro e9 w9 ⟨rfl,rfl⟩;rw[show lu (ah []).data.toList=false from HD.out];have H:=A.out;go_wp2_with fail
  refine jw (iy HM2 HZ 14 true) fun w3 a=>?_;go_wp2;first|go_end0|((try simp only[Exit.inBlock,Exit.then]);refine fA rfl rfl ?_)
  exact⟨rfl,by rw[P.out];exact a,trivial⟩
 have A:Hid ((ah B).toList.isEmpty=false):=by
  show _=_;rw[mF.tl];cases B with
  |nil=>exact absurd rfl he
  |cons x y=>rfl
 rcases d with _|_
 ·obtain ⟨e,D⟩:∃e,met m=e:=⟨_,rfl⟩;have Z:=hid D;rcases e with _|_
  ·have P:Hid (dA m R=fail (meet m)):=by
    show _=_;unfold dA;rw[if_neg HN.out,E,if_neg (by rw[L];decide),if_neg he,if_pos D]
   rcases o with _|_
   ·have G:l=true:=match l,hg with|true,_=>rfl|false,hg=>absurd ⟨rfl,rfl⟩ hg
    subst G;clear E Y hs n X z dp hg L he D;clear h hz hR hl hj;go_enter func88,ntmps88;go_wp2_with fail
    refine dQ f (eu f O N HE) fun w2 HM2=>?_;go_wp2_with fail
    refine dQ HM2 (bM HM2 O N HL) fun w3 a=>?_;have r:=a.x3;rw[C.out]at r;go_wp2_with fail
    refine(oW.bT (ah B) _).mono ?_;rintro e9 w9 ⟨rfl,rfl⟩;rw[show lu (ah B).data.toList=false from HD.out];have H:=A.out;go_wp2_with fail
    refine(uN a0 a F).mono ?_;rintro e4 w4 ⟨rfl,I⟩;rw[Z.out];have i:=hid I;clear I;clear r;have c2:=i.x2;have z2:=i.thaw 2;have W:=hid (i.st 19);go_wp2;first|go_end0|((try simp only[Exit.inBlock,Exit.then]);refine fA rfl rfl ?_)
    exact⟨rfl,by rw[P.out];exact W,trivial⟩
   clear E Y hs n X z dp hg L he D;clear h hz hR hl hj;go_enter func88,ntmps88;go_wp2_with fail
   refine dQ f (eu f O N HE) fun w2 HM2=>?_;have r:=HM2.x3;rw[C.out]at r;go_wp2_with fail
   refine(oW.bT (ah B) _).mono ?_;rintro e9 w9 ⟨rfl,rfl⟩;rw[show lu (ah B).data.toList=false from HD.out];have H:=A.out;go_wp2_with fail
   refine(uN a0 HM2 F).mono ?_;rintro e3 w3 ⟨rfl,J⟩;rw[Z.out];have a:=hid J;clear J;clear r;have c2:=a.x2;have z2:=a.thaw 2;have i:=hid (a.st 19);go_wp2;first|go_end0|((try simp only[Exit.inBlock,Exit.then]);refine fA rfl rfl ?_)
   exact⟨rfl,by rw[P.out];exact i,trivial⟩
  obtain⟨V,hV⟩:∃V,(meet m).u.aU=V:=⟨_,rfl⟩;have HV:=hid hV;have a3:Hid (-4611686018427387904≤(meet m).p∧(meet m).p≤4611686018427387904):=HZ.out;by_cases v:(meet m).u.aU=LOCAL
  ·have a1:Hid (((ah V).toList==[108,111,99,97,108,104,111,115,116])=true):=by show _=_;rw[eF];exact decide_eq_true (hV▸v)
   have P:Hid (dA m R=mv {meet m with u:={(meet m).u with aU:=[]}} 14 true):=by
    show _=_;unfold dA;rw[if_neg HN.out,E,if_neg (by rw[L];decide),if_neg he,if_neg (by rw[D];decide),if_pos v]
   rcases o with _|_
   ·have G:l=true:=match l,hg with|true,_=>rfl|false,hg=>absurd ⟨rfl,rfl⟩ hg
    subst G;clear E Y hs n X z dp hg L he D v hV;clear h hz hR hl hj;go_enter func88,ntmps88;go_wp2_with fail
    refine dQ f (eu f O N HE) fun w2 HM2=>?_;go_wp2_with fail
    refine dQ HM2 (bM HM2 O N HL) fun w3 a=>?_;have r:=a.x3;rw[C.out]at r;go_wp2_with fail
    refine(oW.bT (ah B) _).mono ?_;rintro e9 w9 ⟨rfl,rfl⟩;rw[show lu (ah B).data.toList=false from HD.out];have H:=A.out;go_wp2_with fail
    refine(uN a0 a F).mono ?_;rintro e4 w4 ⟨rfl,I⟩;rw[Z.out];have i:=hid I;clear I;clear r;have c7:=i.x7;have z7:=i.thaw 7;rw[HV.out]at c7;have v:=a1.out;have W:=hid (i.rJ []);go_wp2_with fail
    refine jw (iy W a3 14 true) fun w6 HM6=>?_;go_wp2;first|go_end0|((try simp only[Exit.inBlock,Exit.then]);refine fA rfl rfl ?_)
    exact⟨rfl,by rw[P.out];exact HM6,trivial⟩
   clear E Y hs n X z dp hg L he D v hV;clear h hz hR hl hj;go_enter func88,ntmps88;go_wp2_with fail
   refine dQ f (eu f O N HE) fun w2 HM2=>?_;have r:=HM2.x3;rw[C.out]at r;go_wp2_with fail
   refine(oW.bT (ah B) _).mono ?_;rintro e9 w9 ⟨rfl,rfl⟩;rw[show lu (ah B).data.toList=false from HD.out];have H:=A.out;go_wp2_with fail
   refine(uN a0 HM2 F).mono ?_;rintro e3 w3 ⟨rfl,J⟩;rw[Z.out];have a:=hid J;clear J;clear r;have c7:=a.x7;have z7:=a.thaw 7;rw[HV.out]at c7;have v:=a1.out;have i:=hid (a.rJ []);go_wp2_with fail
   refine jw (iy i a3 14 true) fun w5 W=>?_;go_wp2;first|go_end0|((try simp only[Exit.inBlock,Exit.then]);refine fA rfl rfl ?_)
   exact⟨rfl,by rw[P.out];exact W,trivial⟩
  have a1:Hid (((ah V).toList==[108,111,99,97,108,104,111,115,116])=false):=by show _=_;rw[eF];exact decide_eq_false (hV▸v)
  have P:Hid (dA m R=mv (meet m) 14 true):=by
   show _=_;unfold dA;rw[if_neg HN.out,E,if_neg (by rw[L];decide),if_neg he,if_neg (by rw[D];decide),if_neg v]
  rcases o with _|_
  ·have G:l=true:=match l,hg with|true,_=>rfl|false,hg=>absurd ⟨rfl,rfl⟩ hg
   subst G;clear E Y hs n X z dp hg L he D v hV;clear h hz hR hl hj;go_enter func88,ntmps88;go_wp2_with fail
   refine dQ f (eu f O N HE) fun w2 HM2=>?_;go_wp2_with fail
   refine dQ HM2 (bM HM2 O N HL) fun w3 a=>?_;have r:=a.x3;rw[C.out]at r;go_wp2_with fail
   refine(oW.bT (ah B) _).mono ?_;rintro e9 w9 ⟨rfl,rfl⟩;rw[show lu (ah B).data.toList=false from HD.out];have H:=A.out;go_wp2_with fail
   refine(uN a0 a F).mono ?_;rintro e4 w4 ⟨rfl,I⟩;rw[Z.out];have i:=hid I;clear I;clear r;have c7:=i.x7;have z7:=i.thaw 7;rw[HV.out]at c7;have v:=a1.out;go_wp2_with fail
   refine jw (iy i a3 14 true) fun w5 W=>?_;go_wp2;first|go_end0|((try simp only[Exit.inBlock,Exit.then]);refine fA rfl rfl ?_)
   exact⟨rfl,by rw[P.out];exact W,trivial⟩
  clear E Y hs n X z dp hg L he D v hV;clear h hz hR hl hj;go_enter func88,ntmps88;go_wp2_with fail
  refine dQ f (eu f O N HE) fun w2 HM2=>?_;have r:=HM2.x3;rw[C.out]at r;go_wp2_with fail
  refine(oW.bT (ah B) _).mono ?_;rintro e9 w9 ⟨rfl,rfl⟩;rw[show lu (ah B).data.toList=false from HD.out];have H:=A.out;go_wp2_with fail
  refine(uN a0 HM2 F).mono ?_;rintro e3 w3 ⟨rfl,J⟩;rw[Z.out];have a:=hid J;clear J;clear r;have c7:=a.x7;have z7:=a.thaw 7;rw[HV.out]at c7;have v:=a1.out;go_wp2_with fail
  refine jw (iy a a3 14 true) fun w4 i=>?_;go_wp2;first|go_end0|((try simp only[Exit.inBlock,Exit.then]);refine fA rfl rfl ?_)
  exact⟨rfl,by rw[P.out];exact i,trivial⟩
 have P:Hid (dA m R=mv m 15 true):=by
  show _=_;unfold dA;rw[if_neg HN.out,E,if_pos L]
 rcases o with _|_
 ·have G:l=true:=match l,hg with|true,_=>rfl|false,hg=>absurd ⟨rfl,rfl⟩ hg
  subst G;clear E Y hs n X z dp hg L he;clear h hz hR hl hj;go_enter func88,ntmps88;go_wp2_with fail
  refine dQ f (eu f O N HE) fun w2 HM2=>?_;go_wp2_with fail
  refine dQ HM2 (bM HM2 O N HL) fun w3 a=>?_;have r:=a.x3;rw[C.out]at r;go_wp2_with fail
  refine(oW.bT (ah B) _).mono ?_;rintro e9 w9 ⟨rfl,rfl⟩;rw[show lu (ah B).data.toList=true from HD.out];have H:=A.out;go_wp2_with fail
  refine jw (iy a HZ 15 true) fun w4 i=>?_;go_wp2;first|go_end0|((try simp only[Exit.inBlock,Exit.then]);refine fA rfl rfl ?_)
  exact⟨rfl,by rw[P.out];exact i,trivial⟩
 clear E Y hs n X z dp hg L he;clear h hz hR hl hj;go_enter func88,ntmps88;go_wp2_with fail
 refine dQ f (eu f O N HE) fun w2 HM2=>?_;have r:=HM2.x3;rw[C.out]at r;go_wp2_with fail
 refine(oW.bT (ah B) _).mono ?_;rintro e9 w9 ⟨rfl,rfl⟩;rw[show lu (ah B).data.toList=true from HD.out];have H:=A.out;go_wp2_with fail
 refine jw (iy HM2 HZ 15 true) fun w3 a=>?_;go_wp2;first|go_end0|((try simp only[Exit.inBlock,Exit.then]);refine fA rfl rfl ?_)
 exact⟨rfl,by rw[P.out];exact a,trivial⟩
end Ea
namespace Dv
open Go.RowKit Base bC eU iJ jX fJ vW yw yK Ea
variable {k:K} {m:M} {q:Value} {w:World} {j:Nat} {R:List UInt8}
theorem EG:(ah []).toList.isEmpty=true:=by rw[mF.tl];rfl
theorem CU {B:List UInt8} (h:B≠[]):(ah B).toList.isEmpty=false:=by
 rw[mF.tl];cases B with
 |nil=>exact absurd rfl h
 |cons x y=>rfl
theorem ZH {c:UInt8} {n:Nat} (h:n<256) (e:c=UInt8.ofNat n):((c.toNat:Int)==(n:Int))=true:=by
 rw[e,show(UInt8.ofNat n).toNat=n from UInt8.toNat_ofNat_of_lt h];exact beq_self_eq_true _
theorem ZI {c:UInt8} {n:Nat} (h:n<256) (e:c≠UInt8.ofNat n):((c.toNat:Int)==(n:Int))=false:=by
 refine beq_false_of_ne fun x=>e (UInt8.toNat_inj.1 ?_);rw[show(UInt8.ofNat n).toNat=n from UInt8.toNat_ofNat_of_lt h];exact Int.ofNat.inj x
theorem ad2 {s:Bool} (h:kM s R=true):cc R≠58:=by
 match R,h with
 |c::L,h=>
  intro e;have e:c=58:=e;have h:bZ s c=true:=h;subst e;cases s<;>exact absurd h (by decide)
theorem KI {c:UInt8} (n:Nat) (h:n<256) {d:Bool} (e:decide (c=UInt8.ofNat n)=d):Hid (((c.toNat:Int)==(n:Int))=d):=by
 subst e;show _=_;by_cases g:c=UInt8.ofNat n
 ·rw[ZH h g,decide_eq_true g]
 rw[ZI h g,decide_eq_false g]
theorem b4 (d i l:Bool) (h:d=true→l=false):((d=false∧l=false)∨(d=true∧i=true∧l=false))∨(d=true∧i=false)∨(d=false∧l=true):=by
 revert d i l;decide
theorem b2 (a b:Bool) (h:a=true→b=false):(a=true∧b=false)∨(a=false∧b=true)∨(a=false∧b=false):=by
 revert a b;decide
theorem b1 (s:Bool) (B:List UInt8):(s=false∨(s=true∧B≠[]))∨(s=true∧B=[]):=by
 cases s<;>by_cases h:B=[]<;>simp[h]
theorem aaW (dp:Dp) (h:MX k m q w) (hz:m.p=(j:Int)) (hR:k.T.drop j=R) (hl:k.T.length≤4611686018427387904) (hj:j≤k.T.length) (a7:m.buf.length≤900000):Calls prog 84 #[.pointer (some ⟨k.g,0,none⟩),.int .u8 ((cc R).toNat:Int)] w fun e w'=>e=.returned (.tuple #[])∧MX k (kH m R) q w'∧True:=by
 have b3:=hid h;have HP:=hid hz;have HR:=hid hR;have HZ:Hid (-4611686018427387904≤m.p∧m.p≤4611686018427387904):=⟨by omega,by omega⟩;obtain⟨B,Y⟩:∃B,m.buf=B:=⟨_,rfl⟩;have D:=hid Y;have b5:Hid (B.length≤900000):=by show _≤_;rw[←Y];exact a7
 obtain⟨c,W⟩:∃c,c=cc R:=⟨_,rfl⟩;rw[←W];have a4:=hid dp;obtain⟨s,hs⟩:∃s,sp m=s:=⟨_,rfl⟩;have HS:=hid hs;obtain⟨l,H⟩:∃l,kM (sp m) R=l:=⟨_,rfl⟩;have HL:=hid H;obtain⟨o,ho⟩:∃o,bV R=o:=⟨_,rfl⟩;have HE:=hid ho;obtain⟨i,hi⟩:∃i,m.inn=i:=⟨_,rfl⟩;have HI:=hid hi;obtain⟨me,L⟩:∃e,met m=e:=⟨_,rfl⟩;have a3:=hid L;have J:Hid (m.buf.length≤900000):=by show _≤_;rw[Y];exact b5
 have a0:Hid (-4611686018427387904≤(meet m).p∧(meet m).p≤4611686018427387904):=HZ.out;obtain⟨F,E⟩:∃x,decide (c=58)=x:=⟨_,rfl⟩;have a5:Hid (((c.toNat:Int)==58)=F):=KI 58 (by decide) E;obtain⟨V,O⟩:∃x,decide (c=91)=x:=⟨_,rfl⟩;have c1:Hid (((c.toNat:Int)==91)=V):=KI 91 (by decide) O;obtain⟨Q,N⟩:∃x,decide (c=93)=x:=⟨_,rfl⟩;have c0:Hid (((c.toNat:Int)==93)=Q):=KI 93 (by decide) N;have a6:F=true→l=false:=by
  intro x;cases l with
  |false=>rfl
  |true=>exact absurd (W.symm.trans (of_decide_eq_true (E.trans x))) (ad2 H)
 have b9:=hid a6;have b7:Hid (Q=true→V=false):=by
  intro x;rw[←O,of_decide_eq_true (N.trans x)];decide
 have a1:Hid (o=false→F=true→i=false→kH m R=if B=[]then fail m else if me=false then fail (meet m)else mv (meet m) 10 false):=by
  intro x y z;unfold kH;rw[if_pos ⟨ho.trans x,W.symm.trans (of_decide_eq_true (E.trans y)),hi.trans z⟩,Y,L]
 have G:Hid (o=true∨(l=true∧F=false)→kH m R=if s=true∧B=[]then fail m else if me=false then fail (meet m)else mv (meet m) 14 true):=by
  intro x;unfold kH;rw[if_neg (fun y=>by rcases x with x|⟨_,x⟩;(rw[ho,x]at y;exact absurd y.1 (by decide));exact of_decide_eq_false (E.trans x) (W.trans y.2.1)),if_pos (by rw[ho,H];rcases x with x|⟨x,_⟩;exact .inl x;exact .inr x),Y,L,hs]
 have b8:Hid (o=false→l=false→(F=false∨i=true)→kH m R={m with inn:=if Q=true then false else if V=true then true else m.inn,buf:=B++[c]}):=by
  intro x y z;unfold kH;rw[if_neg (fun v=>by rcases z with z|z;(exact of_decide_eq_false (E.trans z) (W.trans v.2.1));(rw[hi,z]at v;exact absurd v.2.2 (by decide))),if_neg (by rw[ho,H,x,y];decide),Y,←W,←N,←O];simp only[decide_eq_true_eq]
 clear Y W hs H ho a7 dp hi L E O N a6;clear h hz hR hl hj;go_enter func84,ntmps84;go_wp2_with fail
 refine dQ b3 (eu b3 HP HR HE) fun w2 HM2=>?_;rcases o with _|_
 ·rcases b4 F i l b9 with (⟨rfl, rfl⟩ | ⟨rfl, rfl, rfl⟩) | ⟨rfl, rfl⟩ | ⟨rfl, rfl⟩
  iterate 2
   ·have Z := a5.out;have C:=HM2.x32;rw[HI.out]at C;go_wp2_with fail
    refine dQ HM2 (eu HM2 HP HR HE) fun w3 HM3=>?_;go_wp2_with fail
    refine dQ HM3 (bM HM3 HP HR HL) fun w4 HM4=>?_;clear C;have C:=HM4.x32;have c5:=HM4.thaw 32;rcases b2 Q V b7 with⟨rfl,rfl⟩|⟨rfl,rfl⟩|⟨rfl,rfl⟩
    all_goals
     have a9:=c1.out;have a8:=c0.out;first|(have x:((c.toNat:Int)==93)=true:=a8;clear x;have f:=hid (HM4.inn false))|(have x:((c.toNat:Int)==91)=true:=a9;clear x;have f:=hid (HM4.inn true))|(have f:Hid (MX k {m with inn:=m.inn} q _):=HM4)
     go_wp2_with fail
     clear Z a9 a8;try generalize ((c.toNat:Int)==58)=g58
     try generalize ((c.toNat:Int)==91)=g91
     try generalize ((c.toNat:Int)==93)=g93
     clear C;refine aW (by kernel_rfl) 11 [pg k.g 0,pg k.g 0,pg k.g 0,pg k.g 3,is (.string (ah B)),is (.int .u8 (c.toNat:Int)),row 1 (aQ [c]),is (.string (ah [c])),is (.string (ah (B++[c]))),pg k.g 0,pg k.g 3] [[],[],[1],[1,2],[1,2,3],[],[5],[5,6],[1,2,3,4,5,6,7],[0],[0,9],[0,1,2,3,4,5,6,7,8,9,10]] (by kernel_rfl) ?_ ?_
     ·refine ⟨?_,?_,?_,?_,?_,?_,?_,?_,?_,?_,?_,trivial⟩;all_goals(intro t wq X hh K A;simp only[iG,oV,Act.put,Nat.reduceAdd,Nat.reduceEqDiff,reduceIte]at hh A⊢)
      iterate 4
       ·try simp only[hh]at A⊢
        clear hh;go_simp;exact A _ _ aV rfl
      ·try simp only[hh]at A⊢
       clear hh;have r:=(f.below X).x3;rw[D.out]at r;go_simp;exact A _ _ aV rfl
      ·try simp only[hh]at A⊢
       clear hh;go_simp;exact A _ _ aV rfl
      ·try simp only[hh]at A⊢
       clear hh;go_simp;exact A _ _ ((Below.refl _ _).alloc (Nat.le_refl _) _) ⟨_,_,rfl,Nat.le_refl _,by decide,iR wq [c] 5 (0,0)⟩
      ·have e6:=hh.2.1;clear hh;obtain⟨A6,c6,e6,c8,c7,b6⟩:=e6;simp only[e6]at A⊢;have hs:=aT 45 9 5 underlying45 underlying5 underlying9 _ c6 b6;go_simp;exact A _ _ aV rfl
      ·try simp only[hh]at A⊢
       clear hh;have c4:(Op.stringOp .add (ah B) (ah [c])).run prog wq=.ok (.string (ah (B++[c]))) wq:=bJ _ _ wq (by have:=b5.out;simp;omega);go_simp;exact A _ _ aV rfl
      iterate 2
       ·try simp only[hh]at A⊢
        clear hh;go_simp;exact A _ _ aV rfl
     ·intro t wq X hh;have f8:=aO hh 8 (by decide);simp only[pick]at f8;replace f8:t 8=(.string (ah (B++[c]))):=f8;have P:=aO hh 10 (by decide);simp only[pick]at P;replace P:t 10=(.pointer (some ⟨k.g,3,none⟩)):=P;clear hh;simp only[iG,oV,Act.put,Nat.reduceAdd,Nat.reduceEqDiff,reduceIte];simp only[f8,P];have a2:=hid (f.below X);have b0:=hid (a2.buf (B++[c]));have z3:=a2.thaw 3;have r:=a2.x3;go_wp2;first|go_end0|((try simp only[Exit.inBlock,Exit.then]);refine fA rfl rfl ?_)
      refine⟨rfl,?_⟩;try refine⟨?_,trivial⟩
      rw[b8.out (by simp) (by simp) (by simp)];first|exact b0|(simp only[reduceIte,Bool.false_eq_true];exact b0)
  ·have Z:=a5.out;have C:=HM2.x32;rw[HI.out]at C;by_cases he:B=[]
   ·subst he;have r:=HM2.x3;have c2:=HM2.x2;have z2:=HM2.thaw 2;rw[D.out]at r;have I:=EG;have a:=hid (HM2.st 19);go_wp2;first|go_end0|((try simp only[Exit.inBlock,Exit.then]);refine fA rfl rfl ?_)
    exact⟨rfl,by rw[a1.out (by simp) (by simp) (by simp),if_pos (by simp)];exact a,trivial⟩
   have I:=CU he;have r:=HM2.x3;rw[D.out]at r;go_wp2_with fail
   refine(uN a4 HM2 J).mono ?_;rintro e7 w7 ⟨rfl,n⟩;rw[a3.out];have a:=hid n;clear n r C;rcases me with _|_
   ·have c2:=a.x2;have z2:=a.thaw 2;have d:=hid (a.st 19);go_wp2;first|go_end0|((try simp only[Exit.inBlock,Exit.then]);refine fA rfl rfl ?_)
    exact⟨rfl,by rw[a1.out (by simp) (by simp) (by simp),if_neg he,if_pos (by simp)];exact d,trivial⟩
   go_wp2_with fail
   refine jw (iy a a0 10 false) fun w8 d=>?_;go_wp2;first|go_end0|((try simp only[Exit.inBlock,Exit.then]);refine fA rfl rfl ?_)
   exact⟨rfl,by rw[a1.out (by simp) (by simp) (by simp),if_neg he,if_neg (by simp)];exact d,trivial⟩
  have Z:=a5.out;go_wp2_with fail
  refine dQ HM2 (eu HM2 HP HR HE) fun w3 HM3=>?_;go_wp2_with fail
  refine dQ HM3 (bM HM3 HP HR HL) fun w4 HM4=>?_;go_wp2_with fail
  refine dQ HM4 (dX HM4 HS) fun w5 f=>?_;rcases b1 s B with(rfl|⟨rfl,he⟩)|⟨rfl,rfl⟩
  iterate 2
   ·have r:=f.x3;rw[D.out]at r;try have I:=CU he
    skip
    go_wp2_with fail
    refine(uN a4 f J).mono ?_;rintro e7 w7 ⟨rfl,n⟩;rw[a3.out];have a:=hid n;clear n r;rcases me with _|_
    ·have c2:=a.x2;have z2:=a.thaw 2;have d:=hid (a.st 19);go_wp2;first|go_end0|((try simp only[Exit.inBlock,Exit.then]);refine fA rfl rfl ?_)
     exact⟨rfl,by rw[G.out (by simp),if_neg (by first|simp[he]|simp),if_pos (by simp)];exact d,trivial⟩
    ·go_wp2_with fail
     refine jw (iy a a0 14 true) fun w8 d=>?_;go_wp2;first|go_end0|((try simp only[Exit.inBlock,Exit.then]);refine fA rfl rfl ?_)
     exact⟨rfl,by rw[G.out (by simp),if_neg (by first|simp[he]|simp),if_neg (by simp)];exact d,trivial⟩
  skip
  have r:=f.x3;have c2:=f.x2;have z2:=f.thaw 2;rw[D.out]at r;have I:=EG;have a:=hid (f.st 19);go_wp2;first|go_end0|((try simp only[Exit.inBlock,Exit.then]);refine fA rfl rfl ?_)
  exact⟨rfl,by rw[G.out (by simp),if_pos (by simp)];exact a,trivial⟩
 go_wp2_with fail
 refine dQ HM2 (eu HM2 HP HR HE) fun w3 HM3=>?_;go_wp2_with fail
 refine dQ HM3 (dX HM3 HS) fun w4 HM4=>?_;rcases b1 s B with(rfl|⟨rfl,he⟩)|⟨rfl,rfl⟩
 iterate 2
  ·have r:=HM4.x3;rw[D.out]at r;try have I:=CU he
   skip
   go_wp2_with fail
   refine(uN a4 HM4 J).mono ?_;rintro e7 w7 ⟨rfl,n⟩;rw[a3.out];have a:=hid n;clear n r;rcases me with _|_
   ·have c2:=a.x2;have z2:=a.thaw 2;have d:=hid (a.st 19);go_wp2;first|go_end0|((try simp only[Exit.inBlock,Exit.then]);refine fA rfl rfl ?_)
    exact⟨rfl,by rw[G.out (by simp),if_neg (by first|simp[he]|simp),if_pos (by simp)];exact d,trivial⟩
   ·go_wp2_with fail
    refine jw (iy a a0 14 true) fun w8 d=>?_;go_wp2;first|go_end0|((try simp only[Exit.inBlock,Exit.then]);refine fA rfl rfl ?_)
    exact⟨rfl,by rw[G.out (by simp),if_neg (by first|simp[he]|simp),if_neg (by simp)];exact d,trivial⟩
 skip
 have r:=HM4.x3;have c2:=HM4.x2;have z2:=HM4.thaw 2;rw[D.out]at r;have I:=EG;have a:=hid (HM4.st 19);go_wp2;first|go_end0|((try simp only[Exit.inBlock,Exit.then]);refine fA rfl rfl ?_)
 exact⟨rfl,by rw[G.out (by simp),if_pos (by simp)];exact a,trivial⟩
end Dv
namespace Xm
open Go.RowKit Base bC eU jy jX fJ vW yw yK Dv
variable {k:K} {m:M} {q:Value} {w:World} {j:Nat} {R:List UInt8}
theorem ae3 (c:UInt8) (D:List UInt8):(c≠32∨(c=32∧D=[])∨∃x L,c=32∧D=x::L∧x≠63∧x≠35)∨∃x L,c=32∧D=x::L∧(x=63∨x≠63∧x=35):=by
 by_cases h:c=32
 ·cases D with
  |nil=>exact .inl (.inr (.inl ⟨h,rfl⟩))
  |cons x L=>
   by_cases h1:x=63
   ·exact .inr ⟨x,L,h,rfl,.inl h1⟩
   by_cases h2:x=35
   ·exact .inr ⟨x,L,h,rfl,.inr ⟨h1,h2⟩⟩
   exact .inl (.inr (.inr ⟨x,L,h,rfl,h1,h2⟩))
 exact .inl (.inl h)
theorem VA (dp : Dp) (h : MX k m q w) (hz : m.p = (j : Int)) (hR : k.T.drop j = R) (hl : k.T.length ≤ 4611686018427387904) (hj : j ≤ k.T.length) (N : m.u.txt.length ≤ 100000000) : Calls prog 91 #[.pointer (some ⟨k.g, 0, none⟩), .int .u8 ((cc R).toNat : Int)] w fun e w' => e = .returned (.tuple #[]) ∧ MX k (qH m R) q w' ∧ True := by
 have Y:=hid h;have HP:=hid hz;have HR:=hid hR;have a7:=hid dp;have a4:=hid hl;have HJ:=hid hj;have a9:(j:Int)≤4611686018427387904:=by omega
 obtain⟨V,Z⟩:∃V,m.u.txt=V:=⟨_,rfl⟩;have HV:=hid Z;have Q:Hid (V.length≤100000000):=by show _≤_;rw[←Z];exact N
 obtain⟨c,hc⟩:∃c,c=cc R:=⟨_,rfl⟩;rw[←hc];obtain⟨o,ho⟩:∃o,bV R=o:=⟨_,rfl⟩;have HE:=hid ho;obtain⟨D,hD⟩:∃D,R.drop 1=D:=⟨_,rfl⟩;obtain⟨X,hX⟩:∃X,X=ah D:=⟨_,rfl⟩;have HX:Hid (ah (k.T.drop (j+1))=X):=by show _=_;rw[hX,←hD,←hR,List.drop_drop]
 obtain⟨E,hE⟩:∃E,aG.enc 0 [c]=E:=⟨_,rfl⟩;have a6:=hid hE;have a5:Hid (E.length≤3):=by show _≤_;have:=aG.fO 0 [c];rw[hE]at this;simpa using this
 have i:=hid hX;have C:Hid (qH m R=if o=true then tail m R else if c=32∧D.head?.elim false (fun c=>decide (c=63)||decide (c=35))=true then {m with u:={m.u with txt:=V++[37,50,48]}}else {m with u:={m.u with txt:=V++E}}):=by
  show _=_;unfold qH;rw[ho,←hc,hD,Z,hE]
 clear Z hc ho N dp hD hX hE;clear h hz hR hl hj;go_enter func91,ntmps91;go_wp2_with fail
 refine dQ Y (eu Y HP HR HE) fun w2 HM2=>?_;rcases o with _|_
 ·have c1:=HM2.x1;rw[HP.out]at c1;rcases ae3 c D with(h|⟨h,rfl⟩|⟨x,L,h,rfl,h63,h35⟩)|⟨x,L,h,rfl,h6⟩
  iterate 3
   ·first|have B:((c.toNat:Int)==32)=true:=ZH (n:=32) (by decide) h|have B:((c.toNat:Int)==32)=false:=ZI (n:=32) (by decide) h
    try have v:X.toList.isEmpty=true:=by rw[i.out];exact EG
    try
     obtain⟨sN,J⟩:∃h:0<X.size,X[0]=x:=by have:=i;subst this;exact⟨by rw[ak];exact Nat.succ_pos _,rfl⟩
     have I:(0:Int)<(X.size:Int):=by omega
     have H:¬(X.size:Int)≤0:=by omega
     have v:X.toList.isEmpty=false:=by rw[i.out];exact CU (fun e=>by cases e)
     have A:((x.toNat:Int)==63)=false:=ZI (n:=63) (by decide) h63;have P:((x.toNat:Int)==35)=false:=ZI (n:=35) (by decide) h35
    have HO:Hid (qH m R={m with u:={m.u with txt:=V++E}}):=by
     show _=_;rw[C.out,if_neg (by simp)];first|rw[if_neg (fun y=>h y.1)]|rw[if_neg (fun y=>absurd y.2 (by decide))]|rw[if_neg (fun y=>by have:=y.2;simp[h63,h35]at this)]
    clear h;go_wp2_with fail
    refine(qJ HM2 (j+1)).mono ?_;rintro e3 w3 ⟨rfl,f⟩;rw[HX.out];have d:=hid (HM2.below f);clear f;clear c1;go_wp2_with fail
    clear B;try clear v
    try clear A P J sN I H
    try generalize ((c.toNat:Int)==32)=g32
    try generalize X.toList.isEmpty=gx
    try generalize ((x.toNat:Int)==63)=g63
    try generalize ((x.toNat:Int)==35)=g35
    refine aW (by kernel_rfl) 14 [pg k.g 0,pg k.g 0,pg k.g 0,pg k.g 4,pg k.g 11,is (.string (ah V)),is (.int .u8 (c.toNat:Int)),row 1 (aQ [c]),is (.string (ah [c])),is (.string (ah E)),is (.string (ah (V++E))),pg k.g 0,pg k.g 4,pg k.g 11] [[],[],[1],[1,2],[1,2,3],[1,2,3,4],[],[6],[6,7],[6,7,8],[1,2,3,4,5,6,7,8,9],[0],[0,11],[0,11,12],[0,1,2,3,4,5,6,7,8,9,10,11,12,13]] (by kernel_rfl) ?_ ?_
    ·refine ⟨?_,?_,?_,?_,?_,?_,?_,?_,?_,?_,?_,?_,?_,?_,trivial⟩;all_goals(intro t G z hh K a;simp only[iG,oV,Act.put,Nat.reduceAdd,Nat.reduceEqDiff,reduceIte]at hh a⊢)
     iterate 5
      ·try simp only[hh]at a⊢
       clear hh;go_simp;exact a _ _ aV rfl
     ·try simp only[hh]at a⊢
      clear hh;have s:=(d.below z).x11;rw[HV.out]at s;go_simp;exact a _ _ aV rfl
     ·try simp only[hh]at a⊢
      clear hh;go_simp;exact a _ _ aV rfl
     ·try simp only[hh]at a⊢
      clear hh;go_simp;exact a _ _ ((Below.refl _ _).alloc (Nat.le_refl _) _) ⟨_,_,rfl,Nat.le_refl _,by decide,iR G [c] 5 (0,0)⟩
     ·have e7:=hh.2.1;clear hh;obtain⟨A7,c7,e7,b0,a8,a1⟩:=e7;simp only[e7]at a⊢;have hs:=aT 45 9 5 underlying45 underlying5 underlying9 _ c7 a1;go_simp;exact a _ _ aV rfl
     ·try simp only[hh]at a⊢
      clear hh;go_simp;refine(Bl.gI 0 (ah [c]) _ (by rw[ak];exact(by decide:(1:Nat)≤1073741824)) (fun c w=>a7.inn _ c w)).mono ?_;rintro e w5 ⟨rfl,a2⟩;rw[show aG.enc 0 (ah [c]).data.toList=E from a6.out];exact a _ _ a2 rfl
     ·try simp only[hh]at a⊢
      clear hh;have O:(Op.stringOp .add (ah V) (ah E)).run prog G=.ok (.string (ah (V++E))) G:=bJ _ _ G (by have:=Q.out;have:=a5.out;simp;omega);go_simp;exact a _ _ aV rfl
     iterate 3
      ·try simp only[hh]at a⊢
       clear hh;go_simp;exact a _ _ aV rfl
    ·intro t G z hh;have r:=aO hh 10 (by decide);simp only[pick]at r;replace r:t 10=(.string (ah (V++E))):=r;have l:=aO hh 13 (by decide);simp only[pick]at l;replace l:t 13=(.pointer (some ⟨k.g,11,none⟩)):=l;clear hh;simp only[iG,oV,Act.put,Nat.reduceAdd,Nat.reduceEqDiff,reduceIte];simp only[r,l];have F:=hid (d.below z);have W:=hid (F.Xb (V++E));have a0:=F.thaw 11;have s:=F.x11;go_wp2;first|go_end0|((try simp only[Exit.inBlock,Exit.then]);refine fA rfl rfl ?_)
     first|exact⟨rfl,by rw[HO.out];exact W,trivial⟩|exact⟨rfl,by rw[HO.out];exact W⟩
  have B:((c.toNat:Int)==32)=true:=ZH (n:=32) (by decide) h;obtain⟨sN,J⟩:∃h:0<X.size,X[0]=x:=by have:=i;subst this;exact⟨by rw[ak];exact Nat.succ_pos _,rfl⟩
  have I:(0:Int)<(X.size:Int):=by omega
  have H:¬(X.size:Int)≤0:=by omega
  have v:X.toList.isEmpty=false:=by rw[i.out];exact CU (fun e=>by cases e)
  have HO:Hid (qH m R={m with u:={m.u with txt:=V++[37,50,48]}}):=by
   show _=_;rw[C.out,if_neg (by simp),if_pos ⟨h,by rcases h6 with rfl|⟨_,rfl⟩<;>rfl⟩]
  clear h;rcases h6 with h63|⟨h63,h35⟩
  all_goals
   first|have A:((x.toNat:Int)==63)=true:=ZH (n:=63) (by decide) h63|have A:((x.toNat:Int)==63)=false:=ZI (n:=63) (by decide) h63
   try have P:((x.toNat:Int)==35)=true:=ZH (n:=35) (by decide) h35
   clear h63;try clear h35
   go_wp2_with fail
   refine(qJ HM2 (j+1)).mono ?_;rintro e3 w3 ⟨rfl,f⟩;rw[HX.out];have d:=hid (HM2.below f);clear f;clear c1;have O:∀w:World,(Op.stringOp .add (ah V) ({data:=#[37,50,48]}:ByteArray)).run prog w=.ok (.string (ah (V++[37,50,48]))) w:=fun w=>bJ _ _ w (by have:=Q.out;simp;omega);have s:=d.x11;have a0:=d.thaw 11;rw[HV.out]at s;have a3:=hid (d.Xb (V++[37,50,48]));go_wp2;first|go_end0|((try simp only[Exit.inBlock,Exit.then]);refine fA rfl rfl ?_)
   exact⟨rfl,by rw[HO.out];exact a3,trivial⟩
 go_wp2_with fail
 refine jw (mZ HM2 HP HR a4 HJ) fun w3 d=>?_;go_wp2;first|go_end0|((try simp only[Exit.inBlock,Exit.then]);refine fA rfl rfl ?_)
 exact⟨rfl,by rw[C.out,if_pos (by simp)];exact d,trivial⟩
end Xm
