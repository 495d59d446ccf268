/- Lemmas. -/
import Derived.Test.YtaeohdlnidnofaaGreatDoorPRAAA
import Derived.Deep.QuietTactic
import Derived.BigQuiet
import Derived.Test.YtaeohdlnidnofaaGreatDoorShelf
import Derived.Lib.RuneBytes
set_option linter.unusedSimpArgs false
set_option linter.unusedVariables false
set_option maxRecDepth 100000
set_option maxHeartbeats 64000000
namespace Go.Proofs.YtaeohdlnidnofaaGreatDoor
open Tryz
namespace sD
open Go.RowKit Base
def size (c:Int):Int:=if c≤127 then 1 else if 194≤c∧c≤223 then 2 else if 224≤c∧c≤239 then 3 else if 240≤c∧c≤244 then 4 else 0
def lo (c:Int):Int:=if c≤193∨245≤c then 0 else if c=224 then 160 else if c=240 then 144 else 128
def hi (c:Int):Int:=if c≤193∨245≤c then 0 else if c=237 then 159 else if c=244 then 143 else 191
theorem wK (c:Int) (w:World):Calls prog 170 #[.int .u8 c] w fun e w'=>e=.returned (.tuple #[.int .i64 (size c),.int .u8 (lo c),.int .u8 (hi c)])∧w=w':=by
 go_enter func170,ntmps170;go_wp2;all_goals
  try simp only[beq_iff_eq,beq_eq_false_iff_ne,ne_eq]at*
  go_ret3
  exact⟨adW (int_eq (by unfold size;(repeat' split)<;>omega)) (int_eq (by unfold lo;(repeat' split)<;>omega)) (int_eq (by unfold hi;(repeat' split)<;>omega)),rfl⟩
theorem V7 (b a n d:Nat) (c:Int) (w:World) (i:w.cell? ⟨b,a,none⟩=some (.int .u8 c)) (l:0<n) (k:0≤c) (j:c≤127):
  Calls prog 95 #[.slice (some ⟨b,a,none⟩) n d] w fun e w'=>e=.returned (.tuple #[.int .i32 c,.int .i64 1,.bool true])∧w=w':=by
 have f:size c=1:=by unfold size;(repeat' split)<;>omega
 have g:=hid f;clear f;have h:(0:Int)<(n:Int):=by omega
 go_enter func95,ntmps95;go_wp2_with (go_at_call 170;refine(wK _ _).mono ?_;rintro e w' ⟨rfl,rfl⟩;rw[g.out])
 go_ret3
 exact⟨rfl,rfl⟩
theorem SS (b a n d:Nat) (c:Int) (w:World) (i:w.cell? ⟨b,a,none⟩=some (.int .u8 c)) (k:0<n) (j:(128≤c∧c≤193)∨245≤c):
  Calls prog 95 #[.slice (some ⟨b,a,none⟩) n d] w fun e w'=>e=.returned (.tuple #[.int .i32 65533,.int .i64 1,.bool false])∧w=w':=by
 have f:size c=0:=by unfold size;(repeat' split)<;>omega
 have g:=hid f;clear f;have h:(0:Int)<(n:Int):=by omega
 go_enter func95,ntmps95;go_wp2_with (go_at_call 170;refine(wK _ _).mono ?_;rintro e w' ⟨rfl,rfl⟩;rw[g.out])
 go_ret3
 exact⟨rfl,rfl⟩
def tail:Nat→Nat→Int→Int→Int→List UInt8→Int×Int×Bool
 |0,k,_,_,r,_=>(r,k,true)
 |_+1,k,_,_,_,[]=>(65533,k,false)
 |m+1,k,l,h,r,c::t=>if (c.toNat:Int)<l∨h<(c.toNat:Int)then(65533,k,false)else tail m (k+1) 128 191 (r*64+(c.toNat:Int)%64) t
def room:Nat→Int
 |0=>0
 |1=>32
 |2=>2048
 |3=>131072
 |_=>8388608
theorem qj (k:Nat) (c:1≤k) (a:k≤3):room (k+1)=room k*64∧room k≤131072:=by
 match k,c,a with
 |1,_,_=>decide
 |2,_,_=>decide
 |3,_,_=>decide
theorem abr (b d s:Nat) (L:List UInt8) (c:Int) (w:World) (Y:w.cell? ⟨b,d,none⟩=some (.int .u8 c)) (y:∀j (h:j<L.length),w.cell? ⟨b,d+j,none⟩=some (.int .u8 (L[j].toNat:Int)))
  (I:L.length≤maxLen) (h0:0<L.length) (h1:194≤c) (Z:c≤223) (R:Int×Int×Bool) (v:R=tail 1 1 (lo c) (hi c) (c%32) (L.drop 1)):
  Calls prog 95 #[.slice (some ⟨b,d,none⟩) L.length s] w fun e w'=>e=.returned (.tuple #[.int .i32 R.1,.int .i64 R.2.1,.bool R.2.2])∧Below w.heap.size w w':=by
 have t:size c=2:=by unfold size;(repeat' split)<;>omega
 have Q:=hid t;clear t;unfold maxLen at I;have X:(0:Int)<(L.length:Int):=by omega
 have V:=hid y;clear y;have T:=hid v;clear v;have f:0≤c%32∧c%32<32:=by omega
 go_enter func95,ntmps95;go_wp2_with (go_at_call 170;refine(wK _ _).mono ?_;rintro e w' ⟨rfl,rfl⟩;rw[Q.out])
 go_quiet (fail)
 go_wp2
 go_loop [6,7,8,9] (fun vl vh vr vk=>∃(k:Nat) (l h r:Int),1≤k∧k≤2∧k≤L.length∧vk=.int .i64 k∧vl=.int .u8 l∧vh=.int .u8 h∧vr=.int .i32 r∧0≤r∧r<room k∧Hid (R=tail (2 - k) k l h r (L.drop k))) (fun _ _ _ vk=>2 - (intOf vk).toNat)
 case atStart=>exact⟨1,lo c,hi c,c%32,by omega,by omega,by omega,rfl,rfl,rfl,rfl,f.1,f.2,T⟩
 case round=>
  obtain⟨k,l,h,r,n,N,J,rfl,rfl,rfl,rfl,G,F,A⟩:=hrel;by_cases hlt:k<2
  ·obtain ⟨g,P⟩:=qj k n (by omega);have W:=hid g;clear g;have E:r<131072:=by omega
   have z:2 - k=(2 - (k+1))+1:=by omega
   have m:Hid (R=tail ((2 - (k+1))+1) k l h r (L.drop k)):=by rw[←z];exact A
   clear z;by_cases hn:k<L.length
   ·obtain ⟨x,hx⟩:∃x,x=L[k]:=⟨_,rfl⟩;have q:w.cell? ⟨b,d+k,none⟩=some (.int .u8 (x.toNat:Int)):=by rw[hx];exact V k hn
    have i:Hid (R=tail ((2 - (k+1))+1) k l h r (x::L.drop (k+1))):=by
     have O:L.drop k=x::L.drop (k+1):=by rw[hx];exact List.drop_eq_getElem_cons hn
     rw[←O];exact m
    clear hx;have B:(x.toNat:Int)<256:=by have:=x.toNat_lt;omega
    have H:((k:Int)==(L.length:Int))=false:=by simp;omega
    by_cases ht:(x.toNat:Int)<l∨h<(x.toNat:Int)
    ·have a:Hid (R=(65533,(k:Int),false)):=by
      have e:=i.out;rw[tail,if_pos ht]at e;exact e
     go_wp2;all_goals
      go_ret3
      rw[a.out];exact⟨rfl,Base.below_drewN (Below.refl _ _) _⟩
    ·have a:Hid (R=tail (2 - (k+1)) (k+1) 128 191 (r*64+(x.toNat:Int)%64) (L.drop (k+1))):=by
      have e:=i.out;rw[tail,if_neg ht]at e;exact e
     have D:l≤(x.toNat:Int):=by omega
     have C:(x.toNat:Int)≤h:=by omega
     clear ht;go_wp2
     go_round
     case rel=>exact⟨k+1,128,191,r*64+(x.toNat:Int)%64,by omega,by omega,by omega,by go_num,rfl,rfl,rfl,by omega,by rw[W.out];omega,a⟩
     case measure=>simp[intOf];omega
   ·obtain rfl:k=L.length:=by omega
    have a:Hid (R=(65533,(L.length:Int),false)):=by
     have e:=m.out;rw[List.drop_length,tail]at e;exact e
    go_wp2
    go_ret3
    rw[a.out];exact⟨rfl,Base.below_drewN (Below.refl _ _) _⟩
  ·obtain rfl:k=2:=by omega
   have a:Hid (R=(r,2,true)):=by
    have e:=A.out;rw[Nat.sub_self,tail]at e;exact e
   go_wp2
   go_ret3
   rw[a.out];exact⟨rfl,Base.below_drewN (Below.refl _ _) _⟩
theorem abt (b d s:Nat) (L:List UInt8) (c:Int) (w:World) (Y:w.cell? ⟨b,d,none⟩=some (.int .u8 c)) (y:∀j (h:j<L.length),w.cell? ⟨b,d+j,none⟩=some (.int .u8 (L[j].toNat:Int)))
  (I:L.length≤maxLen) (h0:0<L.length) (h1:224≤c) (Z:c≤239) (R:Int×Int×Bool) (v:R=tail 2 1 (lo c) (hi c) (c%16) (L.drop 1)):
  Calls prog 95 #[.slice (some ⟨b,d,none⟩) L.length s] w fun e w'=>e=.returned (.tuple #[.int .i32 R.1,.int .i64 R.2.1,.bool R.2.2])∧Below w.heap.size w w':=by
 have t:size c=3:=by unfold size;(repeat' split)<;>omega
 have Q:=hid t;clear t;unfold maxLen at I;have X:(0:Int)<(L.length:Int):=by omega
 have V:=hid y;clear y;have T:=hid v;clear v;have f:0≤c%16∧c%16<32:=by omega
 go_enter func95,ntmps95;go_wp2_with (go_at_call 170;refine(wK _ _).mono ?_;rintro e w' ⟨rfl,rfl⟩;rw[Q.out])
 go_quiet (fail)
 go_wp2
 go_loop [6,7,8,9] (fun vl vh vr vk=>∃(k:Nat) (l h r:Int),1≤k∧k≤3∧k≤L.length∧vk=.int .i64 k∧vl=.int .u8 l∧vh=.int .u8 h∧vr=.int .i32 r∧0≤r∧r<room k∧Hid (R=tail (3 - k) k l h r (L.drop k))) (fun _ _ _ vk=>3 - (intOf vk).toNat)
 case atStart=>exact⟨1,lo c,hi c,c%16,by omega,by omega,by omega,rfl,rfl,rfl,rfl,f.1,f.2,T⟩
 case round=>
  obtain⟨k,l,h,r,n,N,J,rfl,rfl,rfl,rfl,G,F,A⟩:=hrel;by_cases hlt:k<3
  ·obtain ⟨g,P⟩:=qj k n (by omega);have W:=hid g;clear g;have E:r<131072:=by omega
   have z:3 - k=(3 - (k+1))+1:=by omega
   have m:Hid (R=tail ((3 - (k+1))+1) k l h r (L.drop k)):=by rw[←z];exact A
   clear z;by_cases hn:k<L.length
   ·obtain ⟨x,hx⟩:∃x,x=L[k]:=⟨_,rfl⟩;have q:w.cell? ⟨b,d+k,none⟩=some (.int .u8 (x.toNat:Int)):=by rw[hx];exact V k hn
    have i:Hid (R=tail ((3 - (k+1))+1) k l h r (x::L.drop (k+1))):=by
     have O:L.drop k=x::L.drop (k+1):=by rw[hx];exact List.drop_eq_getElem_cons hn
     rw[←O];exact m
    clear hx;have B:(x.toNat:Int)<256:=by have:=x.toNat_lt;omega
    have H:((k:Int)==(L.length:Int))=false:=by simp;omega
    by_cases ht:(x.toNat:Int)<l∨h<(x.toNat:Int)
    ·have a:Hid (R=(65533,(k:Int),false)):=by
      have e:=i.out;rw[tail,if_pos ht]at e;exact e
     go_wp2;all_goals
      go_ret3
      rw[a.out];exact⟨rfl,Base.below_drewN (Below.refl _ _) _⟩
    ·have a:Hid (R=tail (3 - (k+1)) (k+1) 128 191 (r*64+(x.toNat:Int)%64) (L.drop (k+1))):=by
      have e:=i.out;rw[tail,if_neg ht]at e;exact e
     have D:l≤(x.toNat:Int):=by omega
     have C:(x.toNat:Int)≤h:=by omega
     clear ht;go_wp2
     go_round
     case rel=>exact⟨k+1,128,191,r*64+(x.toNat:Int)%64,by omega,by omega,by omega,by go_num,rfl,rfl,rfl,by omega,by rw[W.out];omega,a⟩
     case measure=>simp[intOf];omega
   ·obtain rfl:k=L.length:=by omega
    have a:Hid (R=(65533,(L.length:Int),false)):=by
     have e:=m.out;rw[List.drop_length,tail]at e;exact e
    go_wp2
    go_ret3
    rw[a.out];exact⟨rfl,Base.below_drewN (Below.refl _ _) _⟩
  ·obtain rfl:k=3:=by omega
   have a:Hid (R=(r,3,true)):=by
    have e:=A.out;rw[Nat.sub_self,tail]at e;exact e
   go_wp2
   go_ret3
   rw[a.out];exact⟨rfl,Base.below_drewN (Below.refl _ _) _⟩
theorem abu (b d s:Nat) (L:List UInt8) (c:Int) (w:World) (Y:w.cell? ⟨b,d,none⟩=some (.int .u8 c)) (y:∀j (h:j<L.length),w.cell? ⟨b,d+j,none⟩=some (.int .u8 (L[j].toNat:Int)))
  (I:L.length≤maxLen) (h0:0<L.length) (h1:240≤c) (Z:c≤244) (R:Int×Int×Bool) (v:R=tail 3 1 (lo c) (hi c) (c%8) (L.drop 1)):
  Calls prog 95 #[.slice (some ⟨b,d,none⟩) L.length s] w fun e w'=>e=.returned (.tuple #[.int .i32 R.1,.int .i64 R.2.1,.bool R.2.2])∧Below w.heap.size w w':=by
 have t:size c=4:=by unfold size;(repeat' split)<;>omega
 have Q:=hid t;clear t;unfold maxLen at I;have X:(0:Int)<(L.length:Int):=by omega
 have V:=hid y;clear y;have T:=hid v;clear v;have f:0≤c%8∧c%8<32:=by omega
 go_enter func95,ntmps95;go_wp2_with (go_at_call 170;refine(wK _ _).mono ?_;rintro e w' ⟨rfl,rfl⟩;rw[Q.out])
 go_quiet (fail)
 go_wp2
 go_loop [6,7,8,9] (fun vl vh vr vk=>∃(k:Nat) (l h r:Int),1≤k∧k≤4∧k≤L.length∧vk=.int .i64 k∧vl=.int .u8 l∧vh=.int .u8 h∧vr=.int .i32 r∧0≤r∧r<room k∧Hid (R=tail (4 - k) k l h r (L.drop k))) (fun _ _ _ vk=>4 - (intOf vk).toNat)
 case atStart=>exact⟨1,lo c,hi c,c%8,by omega,by omega,by omega,rfl,rfl,rfl,rfl,f.1,f.2,T⟩
 case round=>
  obtain⟨k,l,h,r,n,N,J,rfl,rfl,rfl,rfl,G,F,A⟩:=hrel;by_cases hlt:k<4
  ·obtain ⟨g,P⟩:=qj k n (by omega);have W:=hid g;clear g;have E:r<131072:=by omega
   have z:4 - k=(4 - (k+1))+1:=by omega
   have m:Hid (R=tail ((4 - (k+1))+1) k l h r (L.drop k)):=by rw[←z];exact A
   clear z;by_cases hn:k<L.length
   ·obtain ⟨x,hx⟩:∃x,x=L[k]:=⟨_,rfl⟩;have q:w.cell? ⟨b,d+k,none⟩=some (.int .u8 (x.toNat:Int)):=by rw[hx];exact V k hn
    have i:Hid (R=tail ((4 - (k+1))+1) k l h r (x::L.drop (k+1))):=by
     have O:L.drop k=x::L.drop (k+1):=by rw[hx];exact List.drop_eq_getElem_cons hn
     rw[←O];exact m
    clear hx;have B:(x.toNat:Int)<256:=by have:=x.toNat_lt;omega
    have H:((k:Int)==(L.length:Int))=false:=by simp;omega
    by_cases ht:(x.toNat:Int)<l∨h<(x.toNat:Int)
    ·have a:Hid (R=(65533,(k:Int),false)):=by
      have e:=i.out;rw[tail,if_pos ht]at e;exact e
     go_wp2;all_goals
      go_ret3
      rw[a.out];exact⟨rfl,Base.below_drewN (Below.refl _ _) _⟩
    ·have a:Hid (R=tail (4 - (k+1)) (k+1) 128 191 (r*64+(x.toNat:Int)%64) (L.drop (k+1))):=by
      have e:=i.out;rw[tail,if_neg ht]at e;exact e
     have D:l≤(x.toNat:Int):=by omega
     have C:(x.toNat:Int)≤h:=by omega
     clear ht;go_wp2
     go_round
     case rel=>exact⟨k+1,128,191,r*64+(x.toNat:Int)%64,by omega,by omega,by omega,by go_num,rfl,rfl,rfl,by omega,by rw[W.out];omega,a⟩
     case measure=>simp[intOf];omega
   ·obtain rfl:k=L.length:=by omega
    have a:Hid (R=(65533,(L.length:Int),false)):=by
     have e:=m.out;rw[List.drop_length,tail]at e;exact e
    go_wp2
    go_ret3
    rw[a.out];exact⟨rfl,Base.below_drewN (Below.refl _ _) _⟩
  ·obtain rfl:k=4:=by omega
   have a:Hid (R=(r,4,true)):=by
    have e:=A.out;rw[Nat.sub_self,tail]at e;exact e
   go_wp2
   go_ret3
   rw[a.out];exact⟨rfl,Base.below_drewN (Below.refl _ _) _⟩
end sD
namespace sD
open Go.RowKit Base
def rd:List UInt8→Int×Int×Bool
 |[]=>(65533,1,false)
 |x::t=>
  let c:Int:=x.toNat
  if c≤127 then(c,1,true)else if c≤193∨245≤c then(65533,1,false)else if c≤223 then tail 1 1 (lo c) (hi c) (c%32) t else if c≤239 then tail 2 1 (lo c) (hi c) (c%16) t else tail 3 1 (lo c) (hi c) (c%8) t
theorem Me (b a n c:Nat) (L:List UInt8) (w:World) (h:dP w (some ⟨b,a,none⟩) n (aQ L)) (i:n≤maxLen) (f:0<n) (R:Int×Int×Bool) (d:R=rd L):
  Calls prog 95 #[.slice (some ⟨b,a,none⟩) n c] w fun e w'=>e=.returned (.tuple #[.int .i32 R.1,.int .i64 R.2.1,.bool R.2.2])∧Below w.heap.size w w':=by
 have l:L.length=n:=by rw[←bK];exact h.1
 subst l;obtain⟨x,t,rfl⟩:∃x t,L=x::t:=by
  cases L with
  |nil=>simp at f
  |cons x t=>exact⟨x,t,rfl⟩
 have g:w.cell? ⟨b,a,none⟩=some (.int .u8 (x.toNat:Int)):=by
  have:=h.byte 0 (by simp);rw[Nat.add_zero]at this;exact this
 have k:∀j (hj:j<(x::t).length),w.cell? ⟨b,a+j,none⟩=some (.int .u8 ((x::t)[j].toNat:Int)):=fun j hj=>h.byte j hj;have hx:(x.toNat:Int)<256:=by have:=x.toNat_lt;omega
 by_cases h1:(x.toNat:Int)≤127
 ·rw[rd,if_pos h1]at d;subst d;exact(V7 b a _ c _ w g f (by omega) h1).mono fun e w' ⟨he,hw⟩=>⟨he,hw▸Below.refl _ _⟩
 by_cases h2:(x.toNat:Int)≤193∨245≤(x.toNat:Int)
 ·rw[rd,if_neg h1,if_pos h2]at d;subst d;exact(SS b a _ c _ w g f (by omega)).mono fun e w' ⟨he,hw⟩=>⟨he,hw▸Below.refl _ _⟩
 by_cases h3:(x.toNat:Int)≤223
 ·rw[rd,if_neg h1,if_neg h2,if_pos h3]at d;exact abr b a c _ _ w g k i f (by omega) (by omega) R d
 by_cases h4:(x.toNat:Int)≤239
 ·rw[rd,if_neg h1,if_neg h2,if_neg h3,if_pos h4]at d;exact abt b a c _ _ w g k i f (by omega) (by omega) R d
 ·rw[rd,if_neg h1,if_neg h2,if_neg h3,if_neg h4]at d;exact abu b a c _ _ w g k i f (by omega) (by omega) R d
theorem tail_size:∀(m k:Nat) (l h r:Int) (t:List UInt8),(k:Int)≤(tail m k l h r t).2.1∧(tail m k l h r t).2.1≤k+t.length
 |0,k,_,_,_,t=>by simp[tail];omega
 |m+1,k,l,h,r,[]=>by simp[tail]
 |m+1,k,l,h,r,c::t=>by
  rw[tail]
  split
  ·simp;omega
  ·have:=tail_size m (k+1) 128 191 (r*64+(c.toNat:Int)%64) t
   simp only[List.length_cons]
   omega
theorem mX (x:UInt8) (t:List UInt8):1≤(rd (x::t)).2.1∧(rd (x::t)).2.1≤(t.length:Int)+1:=by
 simp only[rd]
 (repeat' split)
 ·simp;omega
 ·simp;omega
 ·have:=tail_size 1 1 (lo x.toNat) (hi x.toNat) (x.toNat%32) t;omega
 ·have:=tail_size 2 1 (lo x.toNat) (hi x.toNat) (x.toNat%16) t;omega
 have:=tail_size 3 1 (lo x.toNat) (hi x.toNat) (x.toNat%8) t;omega
def rO:Nat→List UInt8→List Int
 |0,_=>[]
 |_+1,[]=>[]
 |n+1,x::t=>(rd (x::t)).1::rO n ((x::t).drop (rd (x::t)).2.1.toNat)
def dec (L:List UInt8):List Int:=rO L.length L
theorem pX:∀(n m:Nat) (L:List UInt8),L.length≤n→L.length≤m→rO n L=rO m L
 |0,0,_,_,_=>rfl
 |0,m+1,[],_,_=>rfl
 |0,_+1,_::_,h,_=>by simp at h
 |n+1,0,[],_,_=>rfl
 |_+1,0,_::_,_,h=>by simp at h
 |_+1,_+1,[],_,_=>rfl
 |n+1,m+1,x::t,h1,h2=>by
  have a:=mX x t
  simp only[List.length_cons]at h1 h2
  rw[rO,rO,pX n m _ (by simp;omega) (by simp;omega)]
theorem mO:dec []=[]:=rfl
theorem gX (x:UInt8) (t:List UInt8):dec (x::t)=(rd (x::t)).1::dec ((x::t).drop (rd (x::t)).2.1.toNat):=by
 have a:=mX x t;unfold dec;rw[List.length_cons,rO,pX _ _ _ (by simp;omega) (Nat.le_refl _)]
theorem KQ (L:List UInt8) (k:Nat) (h:k<L.length):
  dec (L.drop k)=(rd (L.drop k)).1::dec (L.drop (k+(rd (L.drop k)).2.1.toNat))∧1≤(rd (L.drop k)).2.1∧(rd (L.drop k)).2.1≤(L.length:Int) - k:=by
 obtain⟨x,t,a⟩:∃x t,L.drop k=x::t:=by
  cases e:L.drop k with
  |nil=>simp at e;omega
  |cons x t=>exact⟨x,t,rfl⟩
 have c:=mX x t;have d:(L.drop k).length=L.length - k:=List.length_drop;rw[a,List.length_cons]at d;refine⟨?_,?_,?_⟩
 ·rw[a,gX,←a,List.drop_drop]
 ·rw[a];exact c.1
 ·rw[a];omega
theorem info21:(prog.info? 21).map (fun i=>(i.zero,i.size,i.bytes))=some (some (.int .i32 0),1,4):=by kernel_rfl
theorem nJ (A:Option Addr) (n j:Nat) (L:List UInt8) (w:World) (h:dP w A n (aQ L)) (hm:n≤1073741824) (I:n≤j):
  Calls prog 31 #[.slice A n j] w fun e w'=>∃v,e=.returned v∧w'.ownsRow w.heap.size 21 1 v (dec L).length (ji .i32 (dec L))∧Below w.heap.size w w':=by
 have H:L.length=n:=by rw[←bK];exact h.1
 have F:=hid H;clear H;obtain⟨T,hi,C,B,z⟩:=info_parts info21;have O:=hid h;clear h;go_enter func31,ntmps31;go_wp2;go_loopw [3,4] (fun v vk wr=>∃(k:Nat) (f:List Int),k≤n∧f.length≤k∧vk=.int .i64 k∧wr.ownsRow w.heap.size 21 1 v f.length (ji .i32 f)∧Below w.heap.size w wr∧Hid (f++dec (L.drop k)=dec L)) (fun _ vk _=>n - (intOf vk).toNat)
 case atStart=>exact⟨0,[],Nat.zero_le _,Nat.le_refl _,rfl,World.ownsRow_nil _ _ _ _,Below.refl _ _,rfl⟩
 case round =>
  obtain⟨k,f,W,J,rfl,i,c,N⟩:=hrel;by_cases hlt:k<n
  ·obtain ⟨b,r,rfl,hb,_⟩:=(O).spot (by omega);have x:Hid (dP wr (some ⟨b,r+k,none⟩) (n - k) (aQ (L.drop k))):=by
    rw[lY];exact(O.cut k W).below c
   have V:¬j=k:=by omega
   obtain⟨m,D,t⟩:=KQ L k (by rw[F.out];exact hlt);obtain⟨R,E⟩:∃R,R=rd (L.drop k):=⟨_,rfl⟩;rw[←E]at m D t;rw[F.out]at t;have Z:=hid m;have X:=hid E;clear m E;go_wp2_with fail
   refine(Me b (r+k) (n - k) (j - k) (L.drop k) _ x (by unfold maxLen;omega) (by omega) R X).mono ?_;rintro e Q ⟨rfl,y⟩;have d:=bf i y;have a:=c.trans (y.mono c.size);clear i c;go_wp2_with (at_builtin;refine wpList_append_own _ rfl _ _ 63 rfl w.heap.size 21 T (.int .i32 0) 1 4 underlying63 hi C B z rfl (by decide) _ _ _ rfl (d.alloc _) ⟨Q.heap.size,0,none⟩ 1 1 [.int .i32 R.1] rfl rfl ?c1 ?c2 ?c3 ?c4 ?c5 ?_)
   case c1=>exact cell_one_new _ _ _
   case c2=>intro u G;simp at G;subst G;rfl
   case c3=>unfold maxLen;omega
   case c4=>omega
   case c5=>have:=a.size;simp;omega
   intro v' P l s _;have q:Below w.heap.size w P:=(a.alloc a.size _).grown s (by have:=a.size;simp;omega) (fun g hg=>(d.lt g hg).1);clear d a s;go_wp2;go_roundw
   case rel=>exact⟨k+R.2.1.toNat,f++[R.1],by omega,by simp;omega,by rw[show((k+R.2.1.toNat:Nat):Int)=(k:Int)+R.2.1 by omega],by rw[gK,List.length_append];exact l,q,by
     have:=N.out;rw[Z.out]at this;rw[List.append_assoc];exact this⟩
   case measure=>simp[intOf];omega
  ·obtain rfl:k=n:=by omega
   have Y:Hid (f=dec L):=by
    have e:=N.out;rw[←F.out,List.drop_length,mO,List.append_nil]at e;exact e
   go_wp2;go_ret;exact⟨_,rfl,by rw[←Y.out];exact i,c⟩
end sD
namespace su
open Go.RowKit Base
def enc (l:List Int):List UInt8:=l.flatMap Lib.encodeRune
theorem NK (r:Int):Lib.runeCells r=aQ (Lib.encodeRune r):=(Lib.byteCells_encodeRune r).symm
theorem oH (l:List Int) (r:Int):enc (l++[r])=enc l++Lib.encodeRune r:=by simp[enc]
theorem AU (r:Int):1≤(Lib.encodeRune r).length∧(Lib.encodeRune r).length≤4:=by
 have:=Lib.runeCells_le r;rw[Lib.runeCells_length]at this;exact this
theorem fO (l:List Int):(enc l).length≤4*l.length∧l.length≤(enc l).length:=by
 induction l with
 |nil=>simp[enc]
 |cons r l ih=>
  have h:=AU r;have e:enc (r::l)=Lib.encodeRune r++enc l:=by simp[enc]
  rw[e,List.length_append,List.length_cons];omega
def Q5 (r:Int):Prop:= -2147483648≤r∧r≤2147483647
theorem gB (A:Option Addr) (n C:Nat) (l:List Int) (w:World) (h:dP w A n (ji .i32 l)) (D:∀r ∈ l,Q5 r) (Q:n≤1073741824):
  Calls prog 30 #[.slice A n C] w fun e w'=>∃v,e=.returned v∧w'.ownsRow w.heap.size 5 1 v (enc l).length (aQ (enc l))∧Below w.heap.size w w':=by
 have F:l.length=n:=by rw[←lF .i32];exact h.1
 have q:=hid F;clear F;have G:=hid h;clear h;have L:=hid D;clear D;go_enter func30,ntmps30;go_wp2;go_loopw [3,8] (fun v vk wr=>∃(k:Nat),k≤n∧vk=.int .i64 k∧wr.ownsRow w.heap.size 5 1 v (enc (l.take k)).length (aQ (enc (l.take k)))∧Below w.heap.size w wr) (fun _ vk _=>n - (intOf vk).toNat)
 case atStart=>exact⟨0,Nat.zero_le _,rfl,World.ownsRow_nil _ _ _ _,Below.refl _ _⟩
 case round =>
  obtain⟨k,T,rfl,c,a⟩:=hrel;by_cases hlt:k<n
  ·obtain ⟨b,j,rfl,I,_⟩:=(G).spot (by omega);obtain⟨r,hx⟩:∃r,r=l[k]'(by rw[q.out];exact hlt):=⟨_,rfl⟩;have z:wr.cell? ⟨b,j+k,none⟩=some (.int .i32 r):=by
    rw[hx,←G.out.int k (by rw[q.out];exact hlt)];exact a.cell (p:=⟨b,j+k,none⟩) I
   have B:Q5 r:=by rw[hx];exact L _ (List.getElem_mem _)
   obtain⟨t,s⟩:=B;have J:Hid (l.take (k+1)=l.take k++[r]):=by
    rw[hx];exact List.take_succ_eq_append_getElem (by rw[q.out];exact hlt)
   clear hx;have x:=(fO (l.take k)).1;have E:(l.take k).length≤k:=List.length_take_le _ _;obtain⟨m,f⟩:∃m,m=(enc (l.take k)).length:=⟨_,rfl⟩;rw[←f]at x c;have N:=hid f;clear f;go_wp2_with fail
   refine(utf8_AppendRune_plain w.heap.size _ _ _ r t s _ c (by omega) a.size).mono ?_;rintro e H ⟨P,rfl,d,o,y⟩;have i:Below w.heap.size w H:=(a.alloc a.size o).grown y (by have:=a.size;simp;omega) (fun g y=>(c.lt g y).1);clear c a;go_wp2;go_roundw
   case rel=>exact⟨k+1,by omega,by go_num,by
     rw[J.out,oH,List.length_append,dR,←NK,←Lib.runeCells_length,←N.out];exact d,i⟩
   case measure=>simp[intOf];omega
  ·obtain rfl:k=n:=by omega
   have O:Hid (l.take k=l):=by
    rw[←q.out];exact List.take_length
   go_wp2;go_ret;exact⟨_,rfl,by rw[O.out]at c;exact c,a⟩
end su
