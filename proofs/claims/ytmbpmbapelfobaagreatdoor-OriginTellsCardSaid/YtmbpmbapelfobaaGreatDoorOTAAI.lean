/- Lemmas. -/
import Derived.Test.YtmbpmbapelfobaaGreatDoorOTAAH
import Derived.Lib.RuneBytes
set_option linter.unusedSimpArgs false
set_option linter.unusedVariables false
set_option maxRecDepth 100000
set_option maxHeartbeats 64000000
namespace Go.Proofs.YtmbpmbapelfobaaGreatDoor
open Tryz
namespace fJ
open Go.RowKit Base bZ
def iE (L:List UInt8):Int:=if L=[102,116,112]then 21 else if L=[104,116,116,112]∨L=[119,115]then 80 else if L=[104,116,116,112,115]∨L=[119,115,115]then 443 else -1
def aj (L:List UInt8):Bool:=decide (L=[102,105,108,101])||decide (iE L≠-1)
theorem sorts (L:List UInt8):L=[102,116,112]∨L=[104,116,116,112]∨L=[119,115]∨L=[104,116,116,112,115]∨L=[119,115,115]∨L=[102,105,108,101]∨(L≠[102,116,112]∧L≠[104,116,116,112]∧L≠[119,115]∧L≠[104,116,116,112,115]∧L≠[119,115,115]∧L≠[102,105,108,101]):=by
 by_cases h1:L=[102,116,112]
 ·exact .inl h1
 by_cases h2:L=[104,116,116,112]
 ·exact .inr (.inl h2)
 by_cases h3:L=[119,115]
 ·exact .inr (.inr (.inl h3))
 by_cases h4:L=[104,116,116,112,115]
 ·exact .inr (.inr (.inr (.inl h4)))
 by_cases h5:L=[119,115,115]
 ·exact .inr (.inr (.inr (.inr (.inl h5))))
 by_cases h6:L=[102,105,108,101]
 ·exact .inr (.inr (.inr (.inr (.inr (.inl h6)))))
 exact .inr (.inr (.inr (.inr (.inr (.inr ⟨h1,h2,h3,h4,h5,h6⟩)))))
theorem gI {s:ByteArray} {L:List UInt8} (h:s.data.toList=L):s=⟨L.toArray⟩:=by
 obtain⟨d⟩:=s;subst h;rfl
theorem iI {s:ByteArray} {L:List UInt8} (h:s.data.toList≠L):(s.toList==L)=false:=by
 rw[tl];simpa using h
theorem CU (s:ByteArray) (w:World):Calls prog 91 #[.string s] w fun e w'=>e=.returned (.int .i64 (iE s.data.toList))∧w'=w:=by
 rcases sorts s.data.toList with h|h|h|h|h|h|⟨h1,h2,h3,h4,h5,h6⟩
 ·obtain rfl:=gI h;clear h;go_enter func91,ntmps91;go_wp2;go_ret;exact⟨rfl,rfl⟩
 ·obtain rfl:=gI h;clear h;go_enter func91,ntmps91;go_wp2;go_ret;exact⟨rfl,rfl⟩
 ·obtain rfl:=gI h;clear h;go_enter func91,ntmps91;go_wp2;go_ret;exact⟨rfl,rfl⟩
 ·obtain rfl:=gI h;clear h;go_enter func91,ntmps91;go_wp2;go_ret;exact⟨rfl,rfl⟩
 ·obtain rfl:=gI h;clear h;go_enter func91,ntmps91;go_wp2;go_ret;exact⟨rfl,rfl⟩
 ·obtain rfl:=gI h;clear h;go_enter func91,ntmps91;go_wp2;go_ret;exact⟨rfl,rfl⟩
 have a:Hid (iE s.data.toList= -1):=by
  unfold iE;show _=_;rw[if_neg h1,if_neg (by rintro(h|h);exact h2 h;exact h3 h),if_neg (by rintro(h|h);exact h4 h;exact h5 h)]
 have c:Hid (aj s.data.toList=false):=by
  unfold aj;show _=_;rw[a.out];simpa using h6
 replace h1:=iI h1;replace h2:=iI h2;replace h3:=iI h3;replace h4:=iI h4;replace h5:=iI h5;replace h6:=iI h6;go_enter func91,ntmps91;go_wp2;go_ret;exact⟨Ro a.symm,rfl⟩
theorem oZ (s:ByteArray) (w:World):Calls prog 20 #[.string s] w fun e w'=>e=.returned (.tuple #[.int .i64 (iE s.data.toList),.bool (aj s.data.toList)])∧w'=w:=by
 rcases sorts s.data.toList with h|h|h|h|h|h|⟨h1,h2,h3,h4,h5,h6⟩
 ·obtain rfl:=gI h;clear h;go_enter func20,ntmps20;go_wp2;go_ret2;exact⟨rfl,rfl⟩
 ·obtain rfl:=gI h;clear h;go_enter func20,ntmps20;go_wp2;go_ret2;exact⟨rfl,rfl⟩
 ·obtain rfl:=gI h;clear h;go_enter func20,ntmps20;go_wp2;go_ret2;exact⟨rfl,rfl⟩
 ·obtain rfl:=gI h;clear h;go_enter func20,ntmps20;go_wp2;go_ret2;exact⟨rfl,rfl⟩
 ·obtain rfl:=gI h;clear h;go_enter func20,ntmps20;go_wp2;go_ret2;exact⟨rfl,rfl⟩
 ·obtain rfl:=gI h;clear h;go_enter func20,ntmps20;go_wp2;go_ret2;exact⟨rfl,rfl⟩
 have a:Hid (iE s.data.toList= -1):=by
  unfold iE;show _=_;rw[if_neg h1,if_neg (by rintro(h|h);exact h2 h;exact h3 h),if_neg (by rintro(h|h);exact h4 h;exact h5 h)]
 have c:Hid (aj s.data.toList=false):=by
  unfold aj;show _=_;rw[a.out];simpa using h6
 replace h1:=iI h1;replace h2:=iI h2;replace h3:=iI h3;replace h4:=iI h4;replace h5:=iI h5;replace h6:=iI h6;go_enter func20,ntmps20;go_wp2;go_ret2;exact⟨Aj (int_eq a.symm) (kT c.symm),rfl⟩
theorem je (s:ByteArray) (w:World):Calls prog 32 #[.string s] w fun e w'=>e=.returned (.bool (aj s.data.toList))∧w'=w:=by
 by_cases h:s.data.toList=[102,105,108,101]
 ·obtain rfl:=gI h;clear h;go_enter func32,ntmps32;go_wp2;go_ret;exact⟨rfl,rfl⟩
 obtain⟨p,a⟩:∃p,p=iE s.data.toList:=⟨_,rfl⟩;have c:Hid (aj s.data.toList=decide (p≠-1)):=by
  unfold aj;show _=_;rw[←a,decide_eq_false h];rfl
 have d:=hid a;replace h:=iI h;clear a;go_enter func32,ntmps32;go_wp2_with fail
 refine(CU _ _).mono ?_;rintro e g ⟨rfl,rfl⟩;rw[←d.out];by_cases e1:p= -1
 ·subst e1;go_wp2;go_ret;exact⟨aH c.symm,rfl⟩
 have j:(p== -1)=false:=by simpa using e1
 have i:(p != -1)=true:=by simpa using e1
 have f:Hid (decide (p≠-1)=true):=decide_eq_true e1;clear e1;go_wp2;go_ret;exact⟨aH (by rw[c.out,f.out]),rfl⟩
end fJ
namespace sO
open Go.RowKit Base
def size (c:Int):Int:=if c≤127 then 1 else if 194≤c∧c≤223 then 2 else if 224≤c∧c≤239 then 3 else if 240≤c∧c≤244 then 4 else 0
def lo (c:Int):Int:=if c≤193∨245≤c then 0 else if c=224 then 160 else if c=240 then 144 else 128
def hi (c:Int):Int:=if c≤193∨245≤c then 0 else if c=237 then 159 else if c=244 then 143 else 191
theorem wC (c:Int) (w:World):Calls prog 127 #[.int .u8 c] w fun e w'=>e=.returned (.tuple #[.int .i64 (size c),.int .u8 (lo c),.int .u8 (hi c)])∧w=w':=by
 go_enter func127,ntmps127;go_wp2;all_goals
  try simp only[beq_iff_eq,beq_eq_false_iff_ne,ne_eq]at*
  go_ret3
  exact⟨afR (int_eq (by unfold size;(repeat' split)<;>omega)) (int_eq (by unfold lo;(repeat' split)<;>omega)) (int_eq (by unfold hi;(repeat' split)<;>omega)),rfl⟩
theorem Xu (b off n a:Nat) (c:Int) (w:World) (h:w.cell? ⟨b,off,none⟩=some (.int .u8 c)) (k:0<n) (j:0≤c) (i:c≤127):
  Calls prog 74 #[.slice (some ⟨b,off,none⟩) n a] w fun e w'=>e=.returned (.tuple #[.int .i32 c,.int .i64 1,.bool true])∧w=w':=by
 have d:size c=1:=by unfold size;(repeat' split)<;>omega
 have f:=hid d;clear d;have g:(0:Int)<(n:Int):=by omega
 go_enter func74,ntmps74;go_wp2_with (go_at_call 127;refine(wC _ _).mono ?_;rintro e w' ⟨rfl,rfl⟩;rw[f.out])
 go_ret3
 exact⟨rfl,rfl⟩
theorem Uf (b off n a:Nat) (c:Int) (w:World) (h:w.cell? ⟨b,off,none⟩=some (.int .u8 c)) (j:0<n) (i:(128≤c∧c≤193)∨245≤c):
  Calls prog 74 #[.slice (some ⟨b,off,none⟩) n a] w fun e w'=>e=.returned (.tuple #[.int .i32 65533,.int .i64 1,.bool false])∧w=w':=by
 have d:size c=0:=by unfold size;(repeat' split)<;>omega
 have f:=hid d;clear d;have g:(0:Int)<(n:Int):=by omega
 go_enter func74,ntmps74;go_wp2_with (go_at_call 127;refine(wC _ _).mono ?_;rintro e w' ⟨rfl,rfl⟩;rw[f.out])
 go_ret3
 exact⟨rfl,rfl⟩
def tail:Nat→Nat→Int→Int→Int→List UInt8→Int×Int×Bool
 |0,k,_,_,r,_=>(r,k,true)
 |_+1,k,_,_,_,[]=>(65533,k,false)
 |m+1,k,l,h,r,c::t=>if (c.toNat:Int)<l∨h<(c.toNat:Int)then(65533,k,false)else tail m (k+1) 128 191 (r*64+(c.toNat:Int)%64) t
def room:Nat→Int
 |0=>0
 |1=>32
 |2=>2048
 |3=>131072
 |_=>8388608
theorem qw (k:Nat) (c:1≤k) (a:k≤3):room (k+1)=room k*64∧room k≤131072:=by
 match k,c,a with
 |1,_,_=>decide
 |2,_,_=>decide
 |3,_,_=>decide
theorem ac7 (b off q:Nat) (L:List UInt8) (c:Int) (w:World) (X:w.cell? ⟨b,off,none⟩=some (.int .u8 c)) (v:∀j (h:j<L.length),w.cell? ⟨b,off+j,none⟩=some (.int .u8 (L[j].toNat:Int)))
  (H:L.length≤maxLen) (h0:0<L.length) (Z:194≤c) (Y:c≤223) (R:Int×Int×Bool) (t:R=tail 1 1 (lo c) (hi c) (c%32) (L.drop 1)):
  Calls prog 74 #[.slice (some ⟨b,off,none⟩) L.length q] w fun e w'=>e=.returned (.tuple #[.int .i32 R.1,.int .i64 R.2.1,.bool R.2.2])∧Below w.heap.size w w':=by
 have s:size c=2:=by unfold size;(repeat' split)<;>omega
 have P:=hid s;clear s;unfold maxLen at H;have W:(0:Int)<(L.length:Int):=by omega
 have T:=hid v;clear v;have Q:=hid t;clear t;have d:0≤c%32∧c%32<32:=by omega
 go_enter func74,ntmps74;go_wp2_with (go_at_call 127;refine(wC _ _).mono ?_;rintro e w' ⟨rfl,rfl⟩;rw[P.out])
 go_quiet (fail)
 go_wp2
 go_loop [6,7,8,9] (fun vl vh vr vk=>∃(k:Nat) (l h r:Int),1≤k∧k≤2∧k≤L.length∧vk=.int .i64 k∧vl=.int .u8 l∧vh=.int .u8 h∧vr=.int .i32 r∧0≤r∧r<room k∧Hid (R=tail (2 - k) k l h r (L.drop k))) (fun _ _ _ vk=>2 - (intOf vk).toNat)
 case atStart=>exact⟨1,lo c,hi c,c%32,by omega,by omega,by omega,rfl,rfl,rfl,rfl,d.1,d.2,Q⟩
 case round=>
  obtain⟨k,l,h,r,m,J,I,rfl,rfl,rfl,rfl,F,E,z⟩:=hrel;by_cases hlt:k<2
  ·obtain ⟨f,O⟩:=qw k m (by omega);have V:=hid f;clear f;have D:r<131072:=by omega
   have y:2 - k=(2 - (k+1))+1:=by omega
   have i:Hid (R=tail ((2 - (k+1))+1) k l h r (L.drop k)):=by rw[←y];exact z
   clear y;by_cases hn:k<L.length
   ·obtain ⟨x,hx⟩:∃x,x=L[k]:=⟨_,rfl⟩;have n:w.cell? ⟨b,off+k,none⟩=some (.int .u8 (x.toNat:Int)):=by rw[hx];exact T k hn
    have g:Hid (R=tail ((2 - (k+1))+1) k l h r (x::L.drop (k+1))):=by
     have N:L.drop k=x::L.drop (k+1):=by rw[hx];exact List.drop_eq_getElem_cons hn
     rw[←N];exact i
    clear hx;have A:(x.toNat:Int)<256:=by have:=x.toNat_lt;omega
    have G:((k:Int)==(L.length:Int))=false:=by simp;omega
    by_cases ht:(x.toNat:Int)<l∨h<(x.toNat:Int)
    ·have a:Hid (R=(65533,(k:Int),false)):=by
      have e:=g.out;rw[tail,if_pos ht]at e;exact e
     go_wp2;all_goals
      go_ret3
      rw[a.out];exact⟨rfl,Base.below_drewN (Below.refl _ _) _⟩
    ·have a:Hid (R=tail (2 - (k+1)) (k+1) 128 191 (r*64+(x.toNat:Int)%64) (L.drop (k+1))):=by
      have e:=g.out;rw[tail,if_neg ht]at e;exact e
     have C:l≤(x.toNat:Int):=by omega
     have B:(x.toNat:Int)≤h:=by omega
     clear ht;go_wp2
     go_round
     case rel=>exact⟨k+1,128,191,r*64+(x.toNat:Int)%64,by omega,by omega,by omega,by go_num,rfl,rfl,rfl,by omega,by rw[V.out];omega,a⟩
     case measure=>simp[intOf];omega
   ·obtain rfl:k=L.length:=by omega
    have a:Hid (R=(65533,(L.length:Int),false)):=by
     have e:=i.out;rw[List.drop_length,tail]at e;exact e
    go_wp2
    go_ret3
    rw[a.out];exact⟨rfl,Base.below_drewN (Below.refl _ _) _⟩
  ·obtain rfl:k=2:=by omega
   have a:Hid (R=(r,2,true)):=by
    have e:=z.out;rw[Nat.sub_self,tail]at e;exact e
   go_wp2
   go_ret3
   rw[a.out];exact⟨rfl,Base.below_drewN (Below.refl _ _) _⟩
theorem ac8 (b off q:Nat) (L:List UInt8) (c:Int) (w:World) (X:w.cell? ⟨b,off,none⟩=some (.int .u8 c)) (v:∀j (h:j<L.length),w.cell? ⟨b,off+j,none⟩=some (.int .u8 (L[j].toNat:Int)))
  (H:L.length≤maxLen) (h0:0<L.length) (Z:224≤c) (Y:c≤239) (R:Int×Int×Bool) (t:R=tail 2 1 (lo c) (hi c) (c%16) (L.drop 1)):
  Calls prog 74 #[.slice (some ⟨b,off,none⟩) L.length q] w fun e w'=>e=.returned (.tuple #[.int .i32 R.1,.int .i64 R.2.1,.bool R.2.2])∧Below w.heap.size w w':=by
 have s:size c=3:=by unfold size;(repeat' split)<;>omega
 have P:=hid s;clear s;unfold maxLen at H;have W:(0:Int)<(L.length:Int):=by omega
 have T:=hid v;clear v;have Q:=hid t;clear t;have d:0≤c%16∧c%16<32:=by omega
 go_enter func74,ntmps74;go_wp2_with (go_at_call 127;refine(wC _ _).mono ?_;rintro e w' ⟨rfl,rfl⟩;rw[P.out])
 go_quiet (fail)
 go_wp2
 go_loop [6,7,8,9] (fun vl vh vr vk=>∃(k:Nat) (l h r:Int),1≤k∧k≤3∧k≤L.length∧vk=.int .i64 k∧vl=.int .u8 l∧vh=.int .u8 h∧vr=.int .i32 r∧0≤r∧r<room k∧Hid (R=tail (3 - k) k l h r (L.drop k))) (fun _ _ _ vk=>3 - (intOf vk).toNat)
 case atStart=>exact⟨1,lo c,hi c,c%16,by omega,by omega,by omega,rfl,rfl,rfl,rfl,d.1,d.2,Q⟩
 case round=>
  obtain⟨k,l,h,r,m,J,I,rfl,rfl,rfl,rfl,F,E,z⟩:=hrel;by_cases hlt:k<3
  ·obtain ⟨f,O⟩:=qw k m (by omega);have V:=hid f;clear f;have D:r<131072:=by omega
   have y:3 - k=(3 - (k+1))+1:=by omega
   have i:Hid (R=tail ((3 - (k+1))+1) k l h r (L.drop k)):=by rw[←y];exact z
   clear y;by_cases hn:k<L.length
   ·obtain ⟨x,hx⟩:∃x,x=L[k]:=⟨_,rfl⟩;have n:w.cell? ⟨b,off+k,none⟩=some (.int .u8 (x.toNat:Int)):=by rw[hx];exact T k hn
    have g:Hid (R=tail ((3 - (k+1))+1) k l h r (x::L.drop (k+1))):=by
     have N:L.drop k=x::L.drop (k+1):=by rw[hx];exact List.drop_eq_getElem_cons hn
     rw[←N];exact i
    clear hx;have A:(x.toNat:Int)<256:=by have:=x.toNat_lt;omega
    have G:((k:Int)==(L.length:Int))=false:=by simp;omega
    by_cases ht:(x.toNat:Int)<l∨h<(x.toNat:Int)
    ·have a:Hid (R=(65533,(k:Int),false)):=by
      have e:=g.out;rw[tail,if_pos ht]at e;exact e
     go_wp2;all_goals
      go_ret3
      rw[a.out];exact⟨rfl,Base.below_drewN (Below.refl _ _) _⟩
    ·have a:Hid (R=tail (3 - (k+1)) (k+1) 128 191 (r*64+(x.toNat:Int)%64) (L.drop (k+1))):=by
      have e:=g.out;rw[tail,if_neg ht]at e;exact e
     have C:l≤(x.toNat:Int):=by omega
     have B:(x.toNat:Int)≤h:=by omega
     clear ht;go_wp2
     go_round
     case rel=>exact⟨k+1,128,191,r*64+(x.toNat:Int)%64,by omega,by omega,by omega,by go_num,rfl,rfl,rfl,by omega,by rw[V.out];omega,a⟩
     case measure=>simp[intOf];omega
   ·obtain rfl:k=L.length:=by omega
    have a:Hid (R=(65533,(L.length:Int),false)):=by
     have e:=i.out;rw[List.drop_length,tail]at e;exact e
    go_wp2
    go_ret3
    rw[a.out];exact⟨rfl,Base.below_drewN (Below.refl _ _) _⟩
  ·obtain rfl:k=3:=by omega
   have a:Hid (R=(r,3,true)):=by
    have e:=z.out;rw[Nat.sub_self,tail]at e;exact e
   go_wp2
   go_ret3
   rw[a.out];exact⟨rfl,Base.below_drewN (Below.refl _ _) _⟩
theorem ac9 (b off q:Nat) (L:List UInt8) (c:Int) (w:World) (X:w.cell? ⟨b,off,none⟩=some (.int .u8 c)) (v:∀j (h:j<L.length),w.cell? ⟨b,off+j,none⟩=some (.int .u8 (L[j].toNat:Int)))
  (H:L.length≤maxLen) (h0:0<L.length) (Z:240≤c) (Y:c≤244) (R:Int×Int×Bool) (t:R=tail 3 1 (lo c) (hi c) (c%8) (L.drop 1)):
  Calls prog 74 #[.slice (some ⟨b,off,none⟩) L.length q] w fun e w'=>e=.returned (.tuple #[.int .i32 R.1,.int .i64 R.2.1,.bool R.2.2])∧Below w.heap.size w w':=by
 have s:size c=4:=by unfold size;(repeat' split)<;>omega
 have P:=hid s;clear s;unfold maxLen at H;have W:(0:Int)<(L.length:Int):=by omega
 have T:=hid v;clear v;have Q:=hid t;clear t;have d:0≤c%8∧c%8<32:=by omega
 go_enter func74,ntmps74;go_wp2_with (go_at_call 127;refine(wC _ _).mono ?_;rintro e w' ⟨rfl,rfl⟩;rw[P.out])
 go_quiet (fail)
 go_wp2
 go_loop [6,7,8,9] (fun vl vh vr vk=>∃(k:Nat) (l h r:Int),1≤k∧k≤4∧k≤L.length∧vk=.int .i64 k∧vl=.int .u8 l∧vh=.int .u8 h∧vr=.int .i32 r∧0≤r∧r<room k∧Hid (R=tail (4 - k) k l h r (L.drop k))) (fun _ _ _ vk=>4 - (intOf vk).toNat)
 case atStart=>exact⟨1,lo c,hi c,c%8,by omega,by omega,by omega,rfl,rfl,rfl,rfl,d.1,d.2,Q⟩
 case round=>
  obtain⟨k,l,h,r,m,J,I,rfl,rfl,rfl,rfl,F,E,z⟩:=hrel;by_cases hlt:k<4
  ·obtain ⟨f,O⟩:=qw k m (by omega);have V:=hid f;clear f;have D:r<131072:=by omega
   have y:4 - k=(4 - (k+1))+1:=by omega
   have i:Hid (R=tail ((4 - (k+1))+1) k l h r (L.drop k)):=by rw[←y];exact z
   clear y;by_cases hn:k<L.length
   ·obtain ⟨x,hx⟩:∃x,x=L[k]:=⟨_,rfl⟩;have n:w.cell? ⟨b,off+k,none⟩=some (.int .u8 (x.toNat:Int)):=by rw[hx];exact T k hn
    have g:Hid (R=tail ((4 - (k+1))+1) k l h r (x::L.drop (k+1))):=by
     have N:L.drop k=x::L.drop (k+1):=by rw[hx];exact List.drop_eq_getElem_cons hn
     rw[←N];exact i
    clear hx;have A:(x.toNat:Int)<256:=by have:=x.toNat_lt;omega
    have G:((k:Int)==(L.length:Int))=false:=by simp;omega
    by_cases ht:(x.toNat:Int)<l∨h<(x.toNat:Int)
    ·have a:Hid (R=(65533,(k:Int),false)):=by
      have e:=g.out;rw[tail,if_pos ht]at e;exact e
     go_wp2;all_goals
      go_ret3
      rw[a.out];exact⟨rfl,Base.below_drewN (Below.refl _ _) _⟩
    ·have a:Hid (R=tail (4 - (k+1)) (k+1) 128 191 (r*64+(x.toNat:Int)%64) (L.drop (k+1))):=by
      have e:=g.out;rw[tail,if_neg ht]at e;exact e
     have C:l≤(x.toNat:Int):=by omega
     have B:(x.toNat:Int)≤h:=by omega
     clear ht;go_wp2
     go_round
     case rel=>exact⟨k+1,128,191,r*64+(x.toNat:Int)%64,by omega,by omega,by omega,by go_num,rfl,rfl,rfl,by omega,by rw[V.out];omega,a⟩
     case measure=>simp[intOf];omega
   ·obtain rfl:k=L.length:=by omega
    have a:Hid (R=(65533,(L.length:Int),false)):=by
     have e:=i.out;rw[List.drop_length,tail]at e;exact e
    go_wp2
    go_ret3
    rw[a.out];exact⟨rfl,Base.below_drewN (Below.refl _ _) _⟩
  ·obtain rfl:k=4:=by omega
   have a:Hid (R=(r,4,true)):=by
    have e:=z.out;rw[Nat.sub_self,tail]at e;exact e
   go_wp2
   go_ret3
   rw[a.out];exact⟨rfl,Base.below_drewN (Below.refl _ _) _⟩
end sO
namespace sO
open Go.RowKit Base
def rd:List UInt8→Int×Int×Bool
 |[]=>(65533,1,false)
 |x::t=>
  let c:Int:=x.toNat
  if c≤127 then(c,1,true)else if c≤193∨245≤c then(65533,1,false)else if c≤223 then tail 1 1 (lo c) (hi c) (c%32) t else if c≤239 then tail 2 1 (lo c) (hi c) (c%16) t else tail 3 1 (lo c) (hi c) (c%8) t
theorem Xt (b off n a:Nat) (L:List UInt8) (w:World) (h:dW w (some ⟨b,off,none⟩) n (aU L)) (g:n≤maxLen) (d:0<n) (R:Int×Int×Bool) (c:R=rd L):
  Calls prog 74 #[.slice (some ⟨b,off,none⟩) n a] w fun e w'=>e=.returned (.tuple #[.int .i32 R.1,.int .i64 R.2.1,.bool R.2.2])∧Below w.heap.size w w':=by
 have k:L.length=n:=by rw[←bM];exact h.1
 subst k;obtain⟨x,t,rfl⟩:∃x t,L=x::t:=by
  cases L with
  |nil=>simp at d
  |cons x t=>exact⟨x,t,rfl⟩
 have f:w.cell? ⟨b,off,none⟩=some (.int .u8 (x.toNat:Int)):=by
  have:=h.byte 0 (by simp);rw[Nat.add_zero]at this;exact this
 have i:∀j (hj:j<(x::t).length),w.cell? ⟨b,off+j,none⟩=some (.int .u8 ((x::t)[j].toNat:Int)):=fun j hj=>h.byte j hj;have hx:(x.toNat:Int)<256:=by have:=x.toNat_lt;omega
 by_cases h1:(x.toNat:Int)≤127
 ·rw[rd,if_pos h1]at c;subst c;exact(Xu b off _ a _ w f d (by omega) h1).mono fun e w' ⟨he,hw⟩=>⟨he,hw▸Below.refl _ _⟩
 by_cases h2:(x.toNat:Int)≤193∨245≤(x.toNat:Int)
 ·rw[rd,if_neg h1,if_pos h2]at c;subst c;exact(Uf b off _ a _ w f d (by omega)).mono fun e w' ⟨he,hw⟩=>⟨he,hw▸Below.refl _ _⟩
 by_cases h3:(x.toNat:Int)≤223
 ·rw[rd,if_neg h1,if_neg h2,if_pos h3]at c;exact ac7 b off a _ _ w f i g d (by omega) (by omega) R c
 by_cases h4:(x.toNat:Int)≤239
 ·rw[rd,if_neg h1,if_neg h2,if_neg h3,if_pos h4]at c;exact ac8 b off a _ _ w f i g d (by omega) (by omega) R c
 ·rw[rd,if_neg h1,if_neg h2,if_neg h3,if_neg h4]at c;exact ac9 b off a _ _ w f i g d (by omega) (by omega) R c
theorem tail_size:∀(m k:Nat) (l h r:Int) (t:List UInt8),(k:Int)≤(tail m k l h r t).2.1∧(tail m k l h r t).2.1≤k+t.length
 |0,k,_,_,_,t=>by simp[tail];omega
 |m+1,k,l,h,r,[]=>by simp[tail]
 |m+1,k,l,h,r,c::t=>by
  rw[tail]
  split
  ·simp;omega
  ·have:=tail_size m (k+1) 128 191 (r*64+(c.toNat:Int)%64) t
   simp only[List.length_cons]
   omega
theorem nD (x:UInt8) (t:List UInt8):1≤(rd (x::t)).2.1∧(rd (x::t)).2.1≤(t.length:Int)+1:=by
 simp only[rd]
 (repeat' split)
 ·simp;omega
 ·simp;omega
 ·have:=tail_size 1 1 (lo x.toNat) (hi x.toNat) (x.toNat%32) t;omega
 ·have:=tail_size 2 1 (lo x.toNat) (hi x.toNat) (x.toNat%16) t;omega
 have:=tail_size 3 1 (lo x.toNat) (hi x.toNat) (x.toNat%8) t;omega
def rX:Nat→List UInt8→List Int
 |0,_=>[]
 |_+1,[]=>[]
 |n+1,x::t=>(rd (x::t)).1::rX n ((x::t).drop (rd (x::t)).2.1.toNat)
def dec (L:List UInt8):List Int:=rX L.length L
theorem qj:∀(n m:Nat) (L:List UInt8),L.length≤n→L.length≤m→rX n L=rX m L
 |0,0,_,_,_=>rfl
 |0,m+1,[],_,_=>rfl
 |0,_+1,_::_,h,_=>by simp at h
 |n+1,0,[],_,_=>rfl
 |_+1,0,_::_,_,h=>by simp at h
 |_+1,_+1,[],_,_=>rfl
 |n+1,m+1,x::t,h1,h2=>by
  have a:=nD x t
  simp only[List.length_cons]at h1 h2
  rw[rX,rX,qj n m _ (by simp;omega) (by simp;omega)]
theorem mZ:dec []=[]:=rfl
theorem gU (x:UInt8) (t:List UInt8):dec (x::t)=(rd (x::t)).1::dec ((x::t).drop (rd (x::t)).2.1.toNat):=by
 have a:=nD x t;unfold dec;rw[List.length_cons,rX,qj _ _ _ (by simp;omega) (Nat.le_refl _)]
theorem Vt (L:List UInt8) (k:Nat) (h:k<L.length):
  dec (L.drop k)=(rd (L.drop k)).1::dec (L.drop (k+(rd (L.drop k)).2.1.toNat))∧1≤(rd (L.drop k)).2.1∧(rd (L.drop k)).2.1≤(L.length:Int) - k:=by
 obtain⟨x,t,a⟩:∃x t,L.drop k=x::t:=by
  cases e:L.drop k with
  |nil=>simp at e;omega
  |cons x t=>exact⟨x,t,rfl⟩
 have c:=nD x t;have d:(L.drop k).length=L.length - k:=List.length_drop;rw[a,List.length_cons]at d;refine⟨?_,?_,?_⟩
 ·rw[a,gU,←a,List.drop_drop]
 ·rw[a];exact c.1
 ·rw[a];omega
theorem info21:(prog.info? 21).map (fun i=>(i.zero,i.size,i.bytes))=some (some (.int .i32 0),1,4):=by kernel_rfl
theorem qE (A:Option Addr) (n j:Nat) (L:List UInt8) (w:World) (h:dW w A n (aU L)) (hm:n≤1073741824) (H:n≤j):
  Calls prog 26 #[.slice A n j] w fun e w'=>∃v,e=.returned v∧w'.ownsRow w.heap.size 21 1 v (dec L).length (jv .i32 (dec L))∧Below w.heap.size w w':=by
 have G:L.length=n:=by rw[←bM];exact h.1
 have E:=hid G;clear G;obtain⟨Q,hi,B,z,y⟩:=info_parts info21;have N:=hid h;clear h;go_enter func26,ntmps26;go_wp2;go_loopw [3,4] (fun v vk wr=>∃(k:Nat) (f:List Int),k≤n∧f.length≤k∧vk=.int .i64 k∧wr.ownsRow w.heap.size 21 1 v f.length (jv .i32 f)∧Below w.heap.size w wr∧Hid (f++dec (L.drop k)=dec L)) (fun _ vk _=>n - (intOf vk).toNat)
 case atStart=>exact⟨0,[],Nat.zero_le _,Nat.le_refl _,rfl,World.ownsRow_nil _ _ _ _,Below.refl _ _,rfl⟩
 case round =>
  obtain⟨k,f,V,I,rfl,i,c,J⟩:=hrel;by_cases hlt:k<n
  ·obtain ⟨b,off,rfl,hb,_⟩:=(N).spot (by omega);have t:Hid (dW wr (some ⟨b,off+k,none⟩) (n - k) (aU (L.drop k))):=by
    rw[oH];exact(N.cut k V).below c
   have T:¬j=k:=by omega
   obtain⟨m,C,s⟩:=Vt L k (by rw[E.out];exact hlt);obtain⟨R,D⟩:∃R,R=rd (L.drop k):=⟨_,rfl⟩;rw[←D]at m C s;rw[E.out]at s;have Y:=hid m;have W:=hid D;clear m D;go_wp2_with fail
   refine(Xt b (off+k) (n - k) (j - k) (L.drop k) _ t (by unfold maxLen;omega) (by omega) R W).mono ?_;rintro e P ⟨rfl,x⟩;have d:=aY i x;have a:=c.trans (x.mono c.size);clear i c;go_wp2_with (at_builtin;refine wpList_append_own _ rfl _ _ 57 rfl w.heap.size 21 Q (.int .i32 0) 1 4 underlying57 hi B z y rfl (by decide) _ _ _ rfl (d.alloc _) ⟨P.heap.size,0,none⟩ 1 1 [.int .i32 R.1] rfl rfl ?c1 ?c2 ?c3 ?c4 ?c5 ?_)
   case c1=>exact cell_one_new _ _ _
   case c2=>intro u F;simp at F;subst F;rfl
   case c3=>unfold maxLen;omega
   case c4=>omega
   case c5=>have:=a.size;simp;omega
   intro Z O l r _;have q:Below w.heap.size w O:=(a.alloc a.size _).grown r (by have:=a.size;simp;omega) (fun g hg=>(d.lt g hg).1);clear d a r;go_wp2;go_roundw
   case rel=>exact⟨k+R.2.1.toNat,f++[R.1],by omega,by simp;omega,by rw[show((k+R.2.1.toNat:Nat):Int)=(k:Int)+R.2.1 by omega],by rw[gJ,List.length_append];exact l,q,by
     have:=J.out;rw[Y.out]at this;rw[List.append_assoc];exact this⟩
   case measure=>simp[intOf];omega
  ·obtain rfl:k=n:=by omega
   have X:Hid (f=dec L):=by
    have e:=J.out;rw[←E.out,List.drop_length,mZ,List.append_nil]at e;exact e
   go_wp2;go_ret;exact⟨_,rfl,by rw[←X.out];exact i,c⟩
end sO
namespace uj
open Go.RowKit Base
def enc (l:List Int):List UInt8:=l.flatMap Lib.encodeRune
theorem Oh (r:Int):Lib.runeCells r=aU (Lib.encodeRune r):=(Lib.byteCells_encodeRune r).symm
theorem oL (l:List Int) (r:Int):enc (l++[r])=enc l++Lib.encodeRune r:=by simp[enc]
theorem Ak (r:Int):1≤(Lib.encodeRune r).length∧(Lib.encodeRune r).length≤4:=by
 have:=Lib.runeCells_le r;rw[Lib.runeCells_length]at this;exact this
theorem fE (l:List Int):(enc l).length≤4*l.length∧l.length≤(enc l).length:=by
 induction l with
 |nil=>simp[enc]
 |cons r l ih=>
  have h:=Ak r;have e:enc (r::l)=Lib.encodeRune r++enc l:=by simp[enc]
  rw[e,List.length_append,List.length_cons];omega
def RV (r:Int):Prop:= -2147483648≤r∧r≤2147483647
theorem iK (A:Option Addr) (n B:Nat) (l:List Int) (w:World) (h:dW w A n (jv .i32 l)) (C:∀r ∈ l,RV r) (P:n≤1073741824):
  Calls prog 25 #[.slice A n B] w fun e w'=>∃v,e=.returned v∧w'.ownsRow w.heap.size 5 1 v (enc l).length (aU (enc l))∧Below w.heap.size w w':=by
 have E:l.length=n:=by rw[←lH .i32];exact h.1
 have j:=hid E;clear E;have F:=hid h;clear h;have J:=hid C;clear C;go_enter func25,ntmps25;go_wp2;go_loopw [3,8] (fun v vk wr=>∃(k:Nat),k≤n∧vk=.int .i64 k∧wr.ownsRow w.heap.size 5 1 v (enc (l.take k)).length (aU (enc (l.take k)))∧Below w.heap.size w wr) (fun _ vk _=>n - (intOf vk).toNat)
 case atStart=>exact⟨0,Nat.zero_le _,rfl,World.ownsRow_nil _ _ _ _,Below.refl _ _⟩
 case round =>
  obtain⟨k,Q,rfl,c,a⟩:=hrel;by_cases hlt:k<n
  ·obtain ⟨b,off,rfl,H,_⟩:=(F).spot (by omega);obtain⟨r,hx⟩:∃r,r=l[k]'(by rw[j.out];exact hlt):=⟨_,rfl⟩;have y:wr.cell? ⟨b,off+k,none⟩=some (.int .i32 r):=by
    rw[hx,←F.out.int k (by rw[j.out];exact hlt)];exact a.cell (p:=⟨b,off+k,none⟩) H
   have z:RV r:=by rw[hx];exact J _ (List.getElem_mem _)
   obtain⟨s,q⟩:=z;have I:Hid (l.take (k+1)=l.take k++[r]):=by
    rw[hx];exact List.take_succ_eq_append_getElem (by rw[j.out];exact hlt)
   clear hx;have t:=(fE (l.take k)).1;have D:(l.take k).length≤k:=List.length_take_le _ _;obtain⟨m,f⟩:∃m,m=(enc (l.take k)).length:=⟨_,rfl⟩;rw[←f]at t c;have L:=hid f;clear f;go_wp2_with fail
   refine(utf8_AppendRune_plain w.heap.size _ _ _ r s q _ c (by omega) a.size).mono ?_;rintro e G ⟨O,rfl,d,o,x⟩;have i:Below w.heap.size w G:=(a.alloc a.size o).grown x (by have:=a.size;simp;omega) (fun g x=>(c.lt g x).1);clear c a;go_wp2;go_roundw
   case rel=>exact⟨k+1,by omega,by go_num,by
     rw[I.out,oL,List.length_append,eG,←Oh,←Lib.runeCells_length,←L.out];exact d,i⟩
   case measure=>simp[intOf];omega
  ·obtain rfl:k=n:=by omega
   have N:Hid (l.take k=l):=by
    rw[←j.out];exact List.take_length
   go_wp2;go_ret;exact⟨_,rfl,by rw[N.out]at c;exact c,a⟩
end uj
