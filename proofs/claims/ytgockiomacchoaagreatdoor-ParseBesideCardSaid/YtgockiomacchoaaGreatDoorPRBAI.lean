/- Lemmas. -/
import Derived.Test.YtgockiomacchoaaGreatDoorPRBAH
import Derived.Lib.IndexAny
import Derived.Lib.ItoaNum
import Derived.Lib.RuneBytes
set_option linter.unusedSimpArgs false
set_option linter.unusedVariables false
set_option maxRecDepth 100000
set_option maxHeartbeats 64000000
namespace Go.Proofs.YtgockiomacchoaaGreatDoor
open Tryz
namespace aae
open Go.RowKit Base iw iI oQ mD jR ug
def Read (w:World) (l:List ByteArray) (e:Ending) (w':World):Prop:=∃A n c,e=.returned (.slice A n c)∧n=l.length∧n≤c∧c≤maxLen∧dV w' A n (l.map Value.string)∧Below w.heap.size w w'
theorem Je {w w':World} {l:List ByteArray} {v:Value} {n:Nat} (h:w'.ownsRow w.heap.size 9 1 v n (l.map Value.string)) (d:Below w.heap.size w w'):Read w l (.returned v) w':=by
 obtain⟨A,c,rfl,f,e,a⟩:=aS h;exact⟨A,n,c,rfl,by rw[←a.1,List.length_map],f,e,a,d⟩
theorem EZ (file:Bool) (A:Option Addr) (n j:Nat) (l:List ByteArray) (w:World) (z:dV w A n (l.map Value.string)) (Q:n≤j) (N:j≤maxLen) (X:n≤1000000):
  Calls prog 112 #[.bool file,.slice A n j] w (Read w (iW file l)):=by
 obtain⟨P,hi,F,E,D⟩:=info_parts iT;have L:=N;unfold maxLen at N;have s:l.length=n:=by rw[←z.1,List.length_map]
 have q:=Jd file z;obtain⟨m,t⟩:∃m,m=if keep file l then n else n - 1:=⟨_,rfl⟩
 rw[←t]at q;have C:=hid q;have G:m=(iW file l).length:=by rw[←q.1,List.length_map]
 have Y:m≤j:=by rw[t];split<;>omega
 have H:Hid (keep file l=true→Read w (iW file l) (.returned (.slice A n j)) w):=by
  intro h;have e:m=n:=by rw[t,if_pos h]
  rw[e]at q G;exact⟨A,n,j,rfl,G,Q,L,q,Below.refl _ _⟩
 have Z:m≤1000000:=by rw[t];split<;>omega
 generalize hS:iW file l=S at C H⊢;clear G hS
 match l,s with
 |[],s=>
  obtain rfl:n=0:=by simpa using s.symm
  have B:=hid (H.out rfl);clear t s z;go_enter func112,ntmps112;go_wp2;go_ret;exact B
 | [x],s=>
  obtain rfl:n=1:=by simpa using s.symm
  obtain⟨g,k,rfl,hg,f⟩:=z.spot (by omega);have T:=f 0 (by simp);rw[Nat.add_zero]at T;replace T:w.cell? ⟨g,k,none⟩=some (.string x):=T;cases file with
  |false=>
   obtain rfl:m=0:=by rw[t];rfl
   clear t s z f;have c:(w.alloc (.cells #[] 9)).ownsRow w.heap.size 9 1 (.slice (some ⟨w.heap.size,0,none⟩) 0 0) 0 []:=World.ownsRow_made w #[] 0 (Nat.le_refl _) (by decide) rfl;have a:Below w.heap.size w (w.alloc (.cells #[] 9)):=(Below.refl _ _).alloc (Nat.le_refl _) _;have v:Hid (dV (w.alloc (.cells #[] 9)) (some ⟨g,k,none⟩) 0 (S.map Value.string)):=C.below a;go_enter func112,ntmps112;go_wp2_with (at_builtin;refine gX rfl _ _ 23 rfl w.heap.size 9 P (.string ByteArray.empty) 16 underlying23 hi F E D rfl _ 0 [] rfl c a a.size (some ⟨g,k,none⟩) 0 j (S.map Value.string) rfl v (kK _) (by unfold maxLen;omega) (by omega) ?_)
   intro J I d i;have B:Hid (Read w S (.returned J) I):=Je (by simpa using d) i;clear c a d;go_wp2;go_ret;exact B
  |true=>
   obtain⟨b,O⟩:∃b,b=wJ x.data.toList:=⟨_,rfl⟩;have V:=hid O;cases b with
   |true=>
    have B:=hid (H.out (by show(true&&wJ x.data.toList)=true;rw[←O];rfl));clear t s z f O;go_enter func112,ntmps112;go_wp2_with fail
    refine(jQ x _).mono ?_;rintro e W ⟨rfl,rfl⟩;rw[←V.out];go_wp2;go_ret;exact B
   |false=>
    obtain rfl:m=0:=by rw[t];show(if (true&&wJ x.data.toList)=true then 1 else 1 - 1)=0;rw[←O];rfl
    clear t s z f O;have c:(w.alloc (.cells #[] 9)).ownsRow w.heap.size 9 1 (.slice (some ⟨w.heap.size,0,none⟩) 0 0) 0 []:=World.ownsRow_made w #[] 0 (Nat.le_refl _) (by decide) rfl;have a:Below w.heap.size w (w.alloc (.cells #[] 9)):=(Below.refl _ _).alloc (Nat.le_refl _) _;have v:Hid (dV (w.alloc (.cells #[] 9)) (some ⟨g,k,none⟩) 0 (S.map Value.string)):=C.below a;go_enter func112,ntmps112;go_wp2_with fail
    refine(jQ x _).mono ?_;rintro e W ⟨rfl,rfl⟩;rw[←V.out];go_wp2_with (at_builtin;refine gX rfl _ _ 23 rfl w.heap.size 9 P (.string ByteArray.empty) 16 underlying23 hi F E D rfl _ 0 [] rfl c a a.size (some ⟨g,k,none⟩) 0 j (S.map Value.string) rfl v (kK _) (by unfold maxLen;omega) (by omega) ?_)
    intro J I d i;have B:Hid (Read w S (.returned J) I):=Je (by simpa using d) i;clear c a d;go_wp2;go_ret;exact B
 |x::y::r,s=>
  have h2:2≤n:=by rw[←s];simp
  have HM:Hid (m=n - 1):=by show _=_;rw[t];rfl
  have q1:((n:Int)==0)=false:=by simp;omega
  have q2:((n:Int)==1)=false:=by simp;omega
  obtain⟨g,k,rfl,hg,f⟩:=z.spot (by omega);have q3:((n:Int) - 1).toNat=m:=by have:=HM.out;omega
  clear t s z f;have c:(w.alloc (.cells #[] 9)).ownsRow w.heap.size 9 1 (.slice (some ⟨w.heap.size,0,none⟩) 0 0) 0 []:=World.ownsRow_made w #[] 0 (Nat.le_refl _) (by decide) rfl;have a:Below w.heap.size w (w.alloc (.cells #[] 9)):=(Below.refl _ _).alloc (Nat.le_refl _) _;have v:Hid (dV (w.alloc (.cells #[] 9)) (some ⟨g,k,none⟩) m (S.map Value.string)):=C.below a;cases file;all_goals
   go_enter func112,ntmps112;go_wp2_with (at_builtin;refine gX rfl _ _ 23 rfl w.heap.size 9 P (.string ByteArray.empty) 16 underlying23 hi F E D rfl _ 0 [] rfl c a a.size (some ⟨g,k,none⟩) m j (S.map Value.string) rfl v (kK _) (by unfold maxLen;omega) (by omega) ?_)
   intro J I d i;have B:Hid (Read w S (.returned J) I):=Je (by simpa using d) i;clear c a d;go_wp2;go_ret;exact B
end aae
namespace iH
open Go.RowKit mD jR
def bW (sp:Bool) (c:UInt8):Bool:=decide (c=47)||(sp&&decide (c=92))
def upto (sp:Bool):List UInt8→Nat
 |[]=>0
 |c::L=>if bW sp c=true then 0 else upto sp L+1
theorem JB (sp:Bool):∀L:List UInt8,upto sp L≤L.length
 |[]=>Nat.le_refl _
 |c::L=>by
  have:=JB sp L
  unfold upto
  split
  ·omega
  ·simp;omega
def Uh (sp:Bool):List UInt8:=if sp then[47,92]else[47]
theorem O5 (sp:Bool) (c:UInt8):(Uh sp).contains c=bW sp c:=by
 rw[Bool.eq_iff_iff];cases sp<;>simp[Uh,bW]
theorem G9 (sp:Bool):∀L:List UInt8,Lib.indexAny L (Uh sp)=if upto sp L<L.length then(upto sp L:Int)else -1
 |[]=>by simp[Lib.indexAny]
 | c :: L => by
  have d:=G9 sp L
  rw[Lib.indexAny,O5,d,upto]
  cases h:bW sp c with
  |true=>simp
  |false=>
   simp only[Bool.false_eq_true,if_false]
   by_cases h2:upto sp L<L.length
   ·have e:((upto sp L:Int)== -1)=false:=by rw[beq_eq_false_iff_ne];omega
    have a:upto sp L+1<(c::L).length:=by simp;omega
    simp only[if_pos h2,e,a,Bool.false_eq_true,if_false,if_true]
    omega
   ·have a:¬upto sp L+1<(c::L).length:=by simp;omega
    simp only[if_neg h2,if_neg a]
    rfl
def wb (file sp:Bool):List ByteArray→List UInt8→List UInt8→List ByteArray
 |l,b,[]=>rW file true l b
 |l,b,c::M=>if bW sp c=true then wb file sp (rW file false l b) [] M else wb file sp l (b++[c]) M
theorem Qx (file sp:Bool):∀(M:List UInt8) (l:List ByteArray) (b:List UInt8),¬upto sp M<M.length→wb file sp l b M=rW file true l (b++M)
 |[],l,b,_=>by rw[List.append_nil];rfl
 |c::M,l,b,h=>by
  unfold upto at h
  cases hs:bW sp c with
  |true=>rw[hs]at h;simp at h
  |false=>
   rw[hs,if_neg (by decide)]at h
   rw[wb,hs,if_neg (by decide),Qx file sp M l (b++[c]) (by simp at h;omega),List.append_assoc]
   rfl
theorem Qy (file sp:Bool):∀(M:List UInt8) (l:List ByteArray) (b:List UInt8),upto sp M<M.length→wb file sp l b M=wb file sp (rW file false l (b++M.take (upto sp M))) [] (M.drop (upto sp M+1))
 |[],l,b,h=>by simp[upto]at h
 |c::M,l,b,h=>by
  unfold upto at h
  cases hs:bW sp c with
  |true=>
   rw[wb,hs,if_pos rfl,upto,hs,if_pos rfl]
   simp
  |false=>
   rw[hs,if_neg (by decide)]at h
   rw[wb,hs,if_neg (by decide),Qy file sp M l (b++[c]) (by simp at h;omega),List.append_assoc,upto,hs,if_neg (by decide)]
   rfl
theorem nJ (file a:Bool) (l:List ByteArray) (L:List UInt8):(rW file a l L).length≤l.length+1:=by
 have h:(iW file l).length≤l.length:=by rw[nI];split<;>omega
 unfold rW
 repeat' split
 all_goals simp
 all_goals omega
end iH
namespace dL
open Go.RowKit Base
def aF (l:List ByteArray):List UInt8:=l.flatMap fun s=>47::s.data.toList
def qC (b6:Bool) (s7:ByteArray) (l:List ByteArray):List UInt8:=if b6 then s7.data.toList else aF l
def kY (s1 s2:ByteArray):List UInt8:=if s2.data.toList=[]then(if s1.data.toList=[]then[]else s1.data.toList++[64])else s1.data.toList++[58]++s2.data.toList++[64]
def jV (z5:Int):List UInt8:=if z5= -1 then[]else 58::Lib.itoa z5
def rM (b6:Bool) (l:List ByteArray):Bool:= !b6&&match l with
 |a::_::_=>decide (a.data.toList=[])
 |_=>false
def qp (s1 s2 s3:ByteArray) (b4:Bool) (z5:Int) (b6:Bool) (l:List ByteArray):List UInt8:=
 if b4 then[47,47]++kY s1 s2++s3.data.toList++jV z5 else if rM b6 l then[47,46]else[]
def vF (s0 s1 s2 s3:ByteArray) (b4:Bool) (z5:Int) (b6:Bool) (s7:ByteArray) (l:List ByteArray) (b9:Bool) (s11:ByteArray):List UInt8:=
 s0.data.toList++[58]++qp s1 s2 s3 b4 z5 b6 l++qC b6 s7 l++(if b9 then 63::s11.data.toList else[])
def BH (s0 s1 s2 s3:ByteArray) (b4:Bool) (z5:Int) (b6:Bool) (s7:ByteArray) (l:List ByteArray) (b9 b10:Bool) (s11 s12:ByteArray):List UInt8:=
 vF s0 s1 s2 s3 b4 z5 b6 s7 l b9 s11++(if b10 then 35::s12.data.toList else[])
def txt (h:Bool) (s:ByteArray):Option (List UInt8):=if h then some s.data.toList else none
def tH (s0 s1 s2 s3:ByteArray) (b4:Bool) (z5:Int) (b6:Bool) (s7:ByteArray) (l:List ByteArray) (b9 b10:Bool) (s11 s12:ByteArray):List (Option (List UInt8))×Int×Bool×List ByteArray:=
 ([some s0.data.toList,some s1.data.toList,some s2.data.toList,txt b4 s3,txt b6 s7,txt b9 s11,txt b10 s12],z5,b6,if b6 then[]else l)
def fewN (s0 s1 s2 s3 s7 s11 s12:ByteArray) (l:List ByteArray):Nat:=s0.size+s1.size+s2.size+s3.size+s7.size+s11.size+s12.size+(l.map (·.size)).sum
theorem Lr (l:List ByteArray) (s:ByteArray):aF (l++[s])=aF l++(47::s.data.toList):=by simp[aF]
theorem nH (l:List ByteArray):(aF l).length=l.length+(l.map (·.size)).sum:=by
 induction l with
 |nil=>rfl
 |cons a l ih=>
  have e:aF (a::l)=(47::a.data.toList)++aF l:=rfl;rw[e,List.length_append,ih];simp only[List.length_cons,List.map_cons,List.sum_cons];rw[show a.data.toList.length=a.size from Array.length_toList];omega
theorem dH (l:List ByteArray) (k:Nat) (h:k<l.length):l.take (k+1)=l.take k++[l[k]]:=by
 rw[List.take_succ_eq_append_getElem h]
theorem MC (l:List ByteArray) (k:Nat):((l.take k).map (·.size)).sum≤(l.map (·.size)).sum:=by
 have h:l.map (·.size)=(l.take k).map (·.size)++(l.drop k).map (·.size):=by rw[←List.map_append,List.take_append_drop]
 rw[h,List.sum_append];omega
theorem abo (l:List ByteArray) (k:Nat) (h:k<l.length):((l.take (k+1)).map (·.size)).sum=((l.take k).map (·.size)).sum+l[k].size:=by
 rw[dH l k h,List.map_append,List.sum_append];simp
theorem jU (L:List UInt8):(ah L).data.toList=L:=rfl
theorem ext_str {a b:ByteArray} (h:a.data.toList=b.data.toList):a=b:=by
 cases a;cases b;simp at h;subst h;rfl
theorem tl (s:ByteArray):s.toList=s.data.toList:=by
 obtain⟨d⟩:=s;rw[ByteArray.toList_mk]
theorem qO (a b:ByteArray):(a.toList==b.toList)=decide (a.data.toList=b.data.toList):=by
 rw[tl,tl,Bool.eq_iff_iff];simp
end dL
namespace gK
open Go.RowKit Base dL
def jm (L:List UInt8):Int:=if L=[102,116,112]then 21 else if L=[104,116,116,112]∨L=[119,115]then 80 else if L=[104,116,116,112,115]∨L=[119,115,115]then 443 else -1
def aj (L:List UInt8):Bool:=decide (L=[102,105,108,101])||decide (jm L≠-1)
theorem sorts (L:List UInt8):L=[102,116,112]∨L=[104,116,116,112]∨L=[119,115]∨L=[104,116,116,112,115]∨L=[119,115,115]∨L=[102,105,108,101]∨(L≠[102,116,112]∧L≠[104,116,116,112]∧L≠[119,115]∧L≠[104,116,116,112,115]∧L≠[119,115,115]∧L≠[102,105,108,101]):=by
 by_cases h1:L=[102,116,112]
 ·exact .inl h1
 by_cases h2:L=[104,116,116,112]
 ·exact .inr (.inl h2)
 by_cases h3:L=[119,115]
 ·exact .inr (.inr (.inl h3))
 by_cases h4:L=[104,116,116,112,115]
 ·exact .inr (.inr (.inr (.inl h4)))
 by_cases h5:L=[119,115,115]
 ·exact .inr (.inr (.inr (.inr (.inl h5))))
 by_cases h6:L=[102,105,108,101]
 ·exact .inr (.inr (.inr (.inr (.inr (.inl h6)))))
 exact .inr (.inr (.inr (.inr (.inr (.inr ⟨h1,h2,h3,h4,h5,h6⟩)))))
theorem gy {s:ByteArray} {L:List UInt8} (h:s.data.toList=L):s=⟨L.toArray⟩:=by
 obtain⟨d⟩:=s;subst h;rfl
theorem iF {s:ByteArray} {L:List UInt8} (h:s.data.toList≠L):(s.toList==L)=false:=by
 rw[tl];simpa using h
theorem Ci (s:ByteArray) (w:World):Calls prog 90 #[.string s] w fun e w'=>e=.returned (.int .i64 (jm s.data.toList))∧w'=w:=by
 rcases sorts s.data.toList with h|h|h|h|h|h|⟨h1,h2,h3,h4,h5,h6⟩
 ·obtain rfl:=gy h;clear h;go_enter func90,ntmps90;go_wp2;go_ret;exact⟨rfl,rfl⟩
 ·obtain rfl:=gy h;clear h;go_enter func90,ntmps90;go_wp2;go_ret;exact⟨rfl,rfl⟩
 ·obtain rfl:=gy h;clear h;go_enter func90,ntmps90;go_wp2;go_ret;exact⟨rfl,rfl⟩
 ·obtain rfl:=gy h;clear h;go_enter func90,ntmps90;go_wp2;go_ret;exact⟨rfl,rfl⟩
 ·obtain rfl:=gy h;clear h;go_enter func90,ntmps90;go_wp2;go_ret;exact⟨rfl,rfl⟩
 ·obtain rfl:=gy h;clear h;go_enter func90,ntmps90;go_wp2;go_ret;exact⟨rfl,rfl⟩
 have a:Hid (jm s.data.toList= -1):=by
  unfold jm;show _=_;rw[if_neg h1,if_neg (by rintro(h|h);exact h2 h;exact h3 h),if_neg (by rintro(h|h);exact h4 h;exact h5 h)]
 have c:Hid (aj s.data.toList=false):=by
  unfold aj;show _=_;rw[a.out];simpa using h6
 replace h1:=iF h1;replace h2:=iF h2;replace h3:=iF h3;replace h4:=iF h4;replace h5:=iF h5;replace h6:=iF h6;go_enter func90,ntmps90;go_wp2;go_ret;exact⟨Qm a.symm,rfl⟩
theorem CU (s:ByteArray) (w:World):Calls prog 113 #[.string s] w fun e w'=>e=.returned (.tuple #[.int .i64 (jm s.data.toList),.bool (aj s.data.toList)])∧w'=w:=by
 rcases sorts s.data.toList with h|h|h|h|h|h|⟨h1,h2,h3,h4,h5,h6⟩
 ·obtain rfl:=gy h;clear h;go_enter func113,ntmps113;go_wp2;go_ret2;exact⟨rfl,rfl⟩
 ·obtain rfl:=gy h;clear h;go_enter func113,ntmps113;go_wp2;go_ret2;exact⟨rfl,rfl⟩
 ·obtain rfl:=gy h;clear h;go_enter func113,ntmps113;go_wp2;go_ret2;exact⟨rfl,rfl⟩
 ·obtain rfl:=gy h;clear h;go_enter func113,ntmps113;go_wp2;go_ret2;exact⟨rfl,rfl⟩
 ·obtain rfl:=gy h;clear h;go_enter func113,ntmps113;go_wp2;go_ret2;exact⟨rfl,rfl⟩
 ·obtain rfl:=gy h;clear h;go_enter func113,ntmps113;go_wp2;go_ret2;exact⟨rfl,rfl⟩
 have a:Hid (jm s.data.toList= -1):=by
  unfold jm;show _=_;rw[if_neg h1,if_neg (by rintro(h|h);exact h2 h;exact h3 h),if_neg (by rintro(h|h);exact h4 h;exact h5 h)]
 have c:Hid (aj s.data.toList=false):=by
  unfold aj;show _=_;rw[a.out];simpa using h6
 replace h1:=iF h1;replace h2:=iF h2;replace h3:=iF h3;replace h4:=iF h4;replace h5:=iF h5;replace h6:=iF h6;go_enter func113,ntmps113;go_wp2;go_ret2;exact⟨Ap (int_eq a.symm) (kM c.symm),rfl⟩
theorem jC (s:ByteArray) (w:World):Calls prog 29 #[.string s] w fun e w'=>e=.returned (.bool (aj s.data.toList))∧w'=w:=by
 by_cases h:s.data.toList=[102,105,108,101]
 ·obtain rfl:=gy h;clear h;go_enter func29,ntmps29;go_wp2;go_ret;exact⟨rfl,rfl⟩
 obtain⟨p,a⟩:∃p,p=jm s.data.toList:=⟨_,rfl⟩;have c:Hid (aj s.data.toList=decide (p≠-1)):=by
  unfold aj;show _=_;rw[←a,decide_eq_false h];rfl
 have d:=hid a;replace h:=iF h;clear a;go_enter func29,ntmps29;go_wp2_with fail
 refine(Ci _ _).mono ?_;rintro e g ⟨rfl,rfl⟩;rw[←d.out];by_cases e1:p= -1
 ·subst e1;go_wp2;go_ret;exact⟨aC c.symm,rfl⟩
 have j:(p== -1)=false:=by simpa using e1
 have i:(p != -1)=true:=by simpa using e1
 have f:Hid (decide (p≠-1)=true):=decide_eq_true e1;clear e1;go_wp2;go_ret;exact⟨aC (by rw[c.out,f.out]),rfl⟩
end gK
namespace rY
open Go.RowKit Base
def size (c:Int):Int:=if c≤127 then 1 else if 194≤c∧c≤223 then 2 else if 224≤c∧c≤239 then 3 else if 240≤c∧c≤244 then 4 else 0
def lo (c:Int):Int:=if c≤193∨245≤c then 0 else if c=224 then 160 else if c=240 then 144 else 128
def hi (c:Int):Int:=if c≤193∨245≤c then 0 else if c=237 then 159 else if c=244 then 143 else 191
theorem wG (c:Int) (w:World):Calls prog 127 #[.int .u8 c] w fun e w'=>e=.returned (.tuple #[.int .i64 (size c),.int .u8 (lo c),.int .u8 (hi c)])∧w=w':=by
 go_enter func127,ntmps127;go_wp2;all_goals
  try simp only[beq_iff_eq,beq_eq_false_iff_ne,ne_eq]at*
  go_ret3
  exact⟨adK (int_eq (by unfold size;(repeat' split)<;>omega)) (int_eq (by unfold lo;(repeat' split)<;>omega)) (int_eq (by unfold hi;(repeat' split)<;>omega)),rfl⟩
theorem VU (b a n d:Nat) (c:Int) (w:World) (i:w.cell? ⟨b,a,none⟩=some (.int .u8 c)) (l:0<n) (k:0≤c) (j:c≤127):
  Calls prog 73 #[.slice (some ⟨b,a,none⟩) n d] w fun e w'=>e=.returned (.tuple #[.int .i32 c,.int .i64 1,.bool true])∧w=w':=by
 have f:size c=1:=by unfold size;(repeat' split)<;>omega
 have g:=hid f;clear f;have h:(0:Int)<(n:Int):=by omega
 go_enter func73,ntmps73;go_wp2_with (go_at_call 127;refine(wG _ _).mono ?_;rintro e w' ⟨rfl,rfl⟩;rw[g.out])
 go_ret3
 exact⟨rfl,rfl⟩
theorem RZ (b a n d:Nat) (c:Int) (w:World) (i:w.cell? ⟨b,a,none⟩=some (.int .u8 c)) (k:0<n) (j:(128≤c∧c≤193)∨245≤c):
  Calls prog 73 #[.slice (some ⟨b,a,none⟩) n d] w fun e w'=>e=.returned (.tuple #[.int .i32 65533,.int .i64 1,.bool false])∧w=w':=by
 have f:size c=0:=by unfold size;(repeat' split)<;>omega
 have g:=hid f;clear f;have h:(0:Int)<(n:Int):=by omega
 go_enter func73,ntmps73;go_wp2_with (go_at_call 127;refine(wG _ _).mono ?_;rintro e w' ⟨rfl,rfl⟩;rw[g.out])
 go_ret3
 exact⟨rfl,rfl⟩
def tail:Nat→Nat→Int→Int→Int→List UInt8→Int×Int×Bool
 |0,k,_,_,r,_=>(r,k,true)
 |_+1,k,_,_,_,[]=>(65533,k,false)
 |m+1,k,l,h,r,c::t=>if (c.toNat:Int)<l∨h<(c.toNat:Int)then(65533,k,false)else tail m (k+1) 128 191 (r*64+(c.toNat:Int)%64) t
def room:Nat→Int
 |0=>0
 |1=>32
 |2=>2048
 |3=>131072
 |_=>8388608
theorem pW (k:Nat) (c:1≤k) (a:k≤3):room (k+1)=room k*64∧room k≤131072:=by
 match k,c,a with
 |1,_,_=>decide
 |2,_,_=>decide
 |3,_,_=>decide
theorem aa8 (b d s:Nat) (L:List UInt8) (c:Int) (w:World) (Y:w.cell? ⟨b,d,none⟩=some (.int .u8 c)) (y:∀j (h:j<L.length),w.cell? ⟨b,d+j,none⟩=some (.int .u8 (L[j].toNat:Int)))
  (I:L.length≤maxLen) (h0:0<L.length) (h1:194≤c) (Z:c≤223) (R:Int×Int×Bool) (v:R=tail 1 1 (lo c) (hi c) (c%32) (L.drop 1)):
  Calls prog 73 #[.slice (some ⟨b,d,none⟩) L.length s] w fun e w'=>e=.returned (.tuple #[.int .i32 R.1,.int .i64 R.2.1,.bool R.2.2])∧Below w.heap.size w w':=by
 have t:size c=2:=by unfold size;(repeat' split)<;>omega
 have Q:=hid t;clear t;unfold maxLen at I;have X:(0:Int)<(L.length:Int):=by omega
 have V:=hid y;clear y;have T:=hid v;clear v;have f:0≤c%32∧c%32<32:=by omega
 go_enter func73,ntmps73;go_wp2_with (go_at_call 127;refine(wG _ _).mono ?_;rintro e w' ⟨rfl,rfl⟩;rw[Q.out])
 go_quiet (fail)
 go_wp2
 go_loop [6,7,8,9] (fun vl vh vr vk=>∃(k:Nat) (l h r:Int),1≤k∧k≤2∧k≤L.length∧vk=.int .i64 k∧vl=.int .u8 l∧vh=.int .u8 h∧vr=.int .i32 r∧0≤r∧r<room k∧Hid (R=tail (2 - k) k l h r (L.drop k))) (fun _ _ _ vk=>2 - (intOf vk).toNat)
 case atStart=>exact⟨1,lo c,hi c,c%32,by omega,by omega,by omega,rfl,rfl,rfl,rfl,f.1,f.2,T⟩
 case round=>
  obtain⟨k,l,h,r,n,N,J,rfl,rfl,rfl,rfl,G,F,A⟩:=hrel;by_cases hlt:k<2
  ·obtain ⟨g,P⟩:=pW k n (by omega);have W:=hid g;clear g;have E:r<131072:=by omega
   have z:2 - k=(2 - (k+1))+1:=by omega
   have m:Hid (R=tail ((2 - (k+1))+1) k l h r (L.drop k)):=by rw[←z];exact A
   clear z;by_cases hn:k<L.length
   ·obtain ⟨x,hx⟩:∃x,x=L[k]:=⟨_,rfl⟩;have q:w.cell? ⟨b,d+k,none⟩=some (.int .u8 (x.toNat:Int)):=by rw[hx];exact V k hn
    have i:Hid (R=tail ((2 - (k+1))+1) k l h r (x::L.drop (k+1))):=by
     have O:L.drop k=x::L.drop (k+1):=by rw[hx];exact List.drop_eq_getElem_cons hn
     rw[←O];exact m
    clear hx;have B:(x.toNat:Int)<256:=by have:=x.toNat_lt;omega
    have H:((k:Int)==(L.length:Int))=false:=by simp;omega
    by_cases ht:(x.toNat:Int)<l∨h<(x.toNat:Int)
    ·have a:Hid (R=(65533,(k:Int),false)):=by
      have e:=i.out;rw[tail,if_pos ht]at e;exact e
     go_wp2;all_goals
      go_ret3
      rw[a.out];exact⟨rfl,Base.below_drewN (Below.refl _ _) _⟩
    ·have a:Hid (R=tail (2 - (k+1)) (k+1) 128 191 (r*64+(x.toNat:Int)%64) (L.drop (k+1))):=by
      have e:=i.out;rw[tail,if_neg ht]at e;exact e
     have D:l≤(x.toNat:Int):=by omega
     have C:(x.toNat:Int)≤h:=by omega
     clear ht;go_wp2
     go_round
     case rel=>exact⟨k+1,128,191,r*64+(x.toNat:Int)%64,by omega,by omega,by omega,by go_num,rfl,rfl,rfl,by omega,by rw[W.out];omega,a⟩
     case measure=>simp[intOf];omega
   ·obtain rfl:k=L.length:=by omega
    have a:Hid (R=(65533,(L.length:Int),false)):=by
     have e:=m.out;rw[List.drop_length,tail]at e;exact e
    go_wp2
    go_ret3
    rw[a.out];exact⟨rfl,Base.below_drewN (Below.refl _ _) _⟩
  ·obtain rfl:k=2:=by omega
   have a:Hid (R=(r,2,true)):=by
    have e:=A.out;rw[Nat.sub_self,tail]at e;exact e
   go_wp2
   go_ret3
   rw[a.out];exact⟨rfl,Base.below_drewN (Below.refl _ _) _⟩
theorem aa9 (b d s:Nat) (L:List UInt8) (c:Int) (w:World) (Y:w.cell? ⟨b,d,none⟩=some (.int .u8 c)) (y:∀j (h:j<L.length),w.cell? ⟨b,d+j,none⟩=some (.int .u8 (L[j].toNat:Int)))
  (I:L.length≤maxLen) (h0:0<L.length) (h1:224≤c) (Z:c≤239) (R:Int×Int×Bool) (v:R=tail 2 1 (lo c) (hi c) (c%16) (L.drop 1)):
  Calls prog 73 #[.slice (some ⟨b,d,none⟩) L.length s] w fun e w'=>e=.returned (.tuple #[.int .i32 R.1,.int .i64 R.2.1,.bool R.2.2])∧Below w.heap.size w w':=by
 have t:size c=3:=by unfold size;(repeat' split)<;>omega
 have Q:=hid t;clear t;unfold maxLen at I;have X:(0:Int)<(L.length:Int):=by omega
 have V:=hid y;clear y;have T:=hid v;clear v;have f:0≤c%16∧c%16<32:=by omega
 go_enter func73,ntmps73;go_wp2_with (go_at_call 127;refine(wG _ _).mono ?_;rintro e w' ⟨rfl,rfl⟩;rw[Q.out])
 go_quiet (fail)
 go_wp2
 go_loop [6,7,8,9] (fun vl vh vr vk=>∃(k:Nat) (l h r:Int),1≤k∧k≤3∧k≤L.length∧vk=.int .i64 k∧vl=.int .u8 l∧vh=.int .u8 h∧vr=.int .i32 r∧0≤r∧r<room k∧Hid (R=tail (3 - k) k l h r (L.drop k))) (fun _ _ _ vk=>3 - (intOf vk).toNat)
 case atStart=>exact⟨1,lo c,hi c,c%16,by omega,by omega,by omega,rfl,rfl,rfl,rfl,f.1,f.2,T⟩
 case round=>
  obtain⟨k,l,h,r,n,N,J,rfl,rfl,rfl,rfl,G,F,A⟩:=hrel;by_cases hlt:k<3
  ·obtain ⟨g,P⟩:=pW k n (by omega);have W:=hid g;clear g;have E:r<131072:=by omega
   have z:3 - k=(3 - (k+1))+1:=by omega
   have m:Hid (R=tail ((3 - (k+1))+1) k l h r (L.drop k)):=by rw[←z];exact A
   clear z;by_cases hn:k<L.length
   ·obtain ⟨x,hx⟩:∃x,x=L[k]:=⟨_,rfl⟩;have q:w.cell? ⟨b,d+k,none⟩=some (.int .u8 (x.toNat:Int)):=by rw[hx];exact V k hn
    have i:Hid (R=tail ((3 - (k+1))+1) k l h r (x::L.drop (k+1))):=by
     have O:L.drop k=x::L.drop (k+1):=by rw[hx];exact List.drop_eq_getElem_cons hn
     rw[←O];exact m
    clear hx;have B:(x.toNat:Int)<256:=by have:=x.toNat_lt;omega
    have H:((k:Int)==(L.length:Int))=false:=by simp;omega
    by_cases ht:(x.toNat:Int)<l∨h<(x.toNat:Int)
    ·have a:Hid (R=(65533,(k:Int),false)):=by
      have e:=i.out;rw[tail,if_pos ht]at e;exact e
     go_wp2;all_goals
      go_ret3
      rw[a.out];exact⟨rfl,Base.below_drewN (Below.refl _ _) _⟩
    ·have a:Hid (R=tail (3 - (k+1)) (k+1) 128 191 (r*64+(x.toNat:Int)%64) (L.drop (k+1))):=by
      have e:=i.out;rw[tail,if_neg ht]at e;exact e
     have D:l≤(x.toNat:Int):=by omega
     have C:(x.toNat:Int)≤h:=by omega
     clear ht;go_wp2
     go_round
     case rel=>exact⟨k+1,128,191,r*64+(x.toNat:Int)%64,by omega,by omega,by omega,by go_num,rfl,rfl,rfl,by omega,by rw[W.out];omega,a⟩
     case measure=>simp[intOf];omega
   ·obtain rfl:k=L.length:=by omega
    have a:Hid (R=(65533,(L.length:Int),false)):=by
     have e:=m.out;rw[List.drop_length,tail]at e;exact e
    go_wp2
    go_ret3
    rw[a.out];exact⟨rfl,Base.below_drewN (Below.refl _ _) _⟩
  ·obtain rfl:k=3:=by omega
   have a:Hid (R=(r,3,true)):=by
    have e:=A.out;rw[Nat.sub_self,tail]at e;exact e
   go_wp2
   go_ret3
   rw[a.out];exact⟨rfl,Base.below_drewN (Below.refl _ _) _⟩
theorem abb (b d s:Nat) (L:List UInt8) (c:Int) (w:World) (Y:w.cell? ⟨b,d,none⟩=some (.int .u8 c)) (y:∀j (h:j<L.length),w.cell? ⟨b,d+j,none⟩=some (.int .u8 (L[j].toNat:Int)))
  (I:L.length≤maxLen) (h0:0<L.length) (h1:240≤c) (Z:c≤244) (R:Int×Int×Bool) (v:R=tail 3 1 (lo c) (hi c) (c%8) (L.drop 1)):
  Calls prog 73 #[.slice (some ⟨b,d,none⟩) L.length s] w fun e w'=>e=.returned (.tuple #[.int .i32 R.1,.int .i64 R.2.1,.bool R.2.2])∧Below w.heap.size w w':=by
 have t:size c=4:=by unfold size;(repeat' split)<;>omega
 have Q:=hid t;clear t;unfold maxLen at I;have X:(0:Int)<(L.length:Int):=by omega
 have V:=hid y;clear y;have T:=hid v;clear v;have f:0≤c%8∧c%8<32:=by omega
 go_enter func73,ntmps73;go_wp2_with (go_at_call 127;refine(wG _ _).mono ?_;rintro e w' ⟨rfl,rfl⟩;rw[Q.out])
 go_quiet (fail)
 go_wp2
 go_loop [6,7,8,9] (fun vl vh vr vk=>∃(k:Nat) (l h r:Int),1≤k∧k≤4∧k≤L.length∧vk=.int .i64 k∧vl=.int .u8 l∧vh=.int .u8 h∧vr=.int .i32 r∧0≤r∧r<room k∧Hid (R=tail (4 - k) k l h r (L.drop k))) (fun _ _ _ vk=>4 - (intOf vk).toNat)
 case atStart=>exact⟨1,lo c,hi c,c%8,by omega,by omega,by omega,rfl,rfl,rfl,rfl,f.1,f.2,T⟩
 case round=>
  obtain⟨k,l,h,r,n,N,J,rfl,rfl,rfl,rfl,G,F,A⟩:=hrel;by_cases hlt:k<4
  ·obtain ⟨g,P⟩:=pW k n (by omega);have W:=hid g;clear g;have E:r<131072:=by omega
   have z:4 - k=(4 - (k+1))+1:=by omega
   have m:Hid (R=tail ((4 - (k+1))+1) k l h r (L.drop k)):=by rw[←z];exact A
   clear z;by_cases hn:k<L.length
   ·obtain ⟨x,hx⟩:∃x,x=L[k]:=⟨_,rfl⟩;have q:w.cell? ⟨b,d+k,none⟩=some (.int .u8 (x.toNat:Int)):=by rw[hx];exact V k hn
    have i:Hid (R=tail ((4 - (k+1))+1) k l h r (x::L.drop (k+1))):=by
     have O:L.drop k=x::L.drop (k+1):=by rw[hx];exact List.drop_eq_getElem_cons hn
     rw[←O];exact m
    clear hx;have B:(x.toNat:Int)<256:=by have:=x.toNat_lt;omega
    have H:((k:Int)==(L.length:Int))=false:=by simp;omega
    by_cases ht:(x.toNat:Int)<l∨h<(x.toNat:Int)
    ·have a:Hid (R=(65533,(k:Int),false)):=by
      have e:=i.out;rw[tail,if_pos ht]at e;exact e
     go_wp2;all_goals
      go_ret3
      rw[a.out];exact⟨rfl,Base.below_drewN (Below.refl _ _) _⟩
    ·have a:Hid (R=tail (4 - (k+1)) (k+1) 128 191 (r*64+(x.toNat:Int)%64) (L.drop (k+1))):=by
      have e:=i.out;rw[tail,if_neg ht]at e;exact e
     have D:l≤(x.toNat:Int):=by omega
     have C:(x.toNat:Int)≤h:=by omega
     clear ht;go_wp2
     go_round
     case rel=>exact⟨k+1,128,191,r*64+(x.toNat:Int)%64,by omega,by omega,by omega,by go_num,rfl,rfl,rfl,by omega,by rw[W.out];omega,a⟩
     case measure=>simp[intOf];omega
   ·obtain rfl:k=L.length:=by omega
    have a:Hid (R=(65533,(L.length:Int),false)):=by
     have e:=m.out;rw[List.drop_length,tail]at e;exact e
    go_wp2
    go_ret3
    rw[a.out];exact⟨rfl,Base.below_drewN (Below.refl _ _) _⟩
  ·obtain rfl:k=4:=by omega
   have a:Hid (R=(r,4,true)):=by
    have e:=A.out;rw[Nat.sub_self,tail]at e;exact e
   go_wp2
   go_ret3
   rw[a.out];exact⟨rfl,Base.below_drewN (Below.refl _ _) _⟩
end rY
namespace rY
open Go.RowKit Base
def rd:List UInt8→Int×Int×Bool
 |[]=>(65533,1,false)
 |x::t=>
  let c:Int:=x.toNat
  if c≤127 then(c,1,true)else if c≤193∨245≤c then(65533,1,false)else if c≤223 then tail 1 1 (lo c) (hi c) (c%32) t else if c≤239 then tail 2 1 (lo c) (hi c) (c%16) t else tail 3 1 (lo c) (hi c) (c%8) t
theorem VT (b a n c:Nat) (L:List UInt8) (w:World) (h:dV w (some ⟨b,a,none⟩) n (aQ L)) (i:n≤maxLen) (f:0<n) (R:Int×Int×Bool) (d:R=rd L):
  Calls prog 73 #[.slice (some ⟨b,a,none⟩) n c] w fun e w'=>e=.returned (.tuple #[.int .i32 R.1,.int .i64 R.2.1,.bool R.2.2])∧Below w.heap.size w w':=by
 have l:L.length=n:=by rw[←bM];exact h.1
 subst l;obtain⟨x,t,rfl⟩:∃x t,L=x::t:=by
  cases L with
  |nil=>simp at f
  |cons x t=>exact⟨x,t,rfl⟩
 have g:w.cell? ⟨b,a,none⟩=some (.int .u8 (x.toNat:Int)):=by
  have:=h.byte 0 (by simp);rw[Nat.add_zero]at this;exact this
 have k:∀j (hj:j<(x::t).length),w.cell? ⟨b,a+j,none⟩=some (.int .u8 ((x::t)[j].toNat:Int)):=fun j hj=>h.byte j hj;have hx:(x.toNat:Int)<256:=by have:=x.toNat_lt;omega
 by_cases h1:(x.toNat:Int)≤127
 ·rw[rd,if_pos h1]at d;subst d;exact(VU b a _ c _ w g f (by omega) h1).mono fun e w' ⟨he,hw⟩=>⟨he,hw▸Below.refl _ _⟩
 by_cases h2:(x.toNat:Int)≤193∨245≤(x.toNat:Int)
 ·rw[rd,if_neg h1,if_pos h2]at d;subst d;exact(RZ b a _ c _ w g f (by omega)).mono fun e w' ⟨he,hw⟩=>⟨he,hw▸Below.refl _ _⟩
 by_cases h3:(x.toNat:Int)≤223
 ·rw[rd,if_neg h1,if_neg h2,if_pos h3]at d;exact aa8 b a c _ _ w g k i f (by omega) (by omega) R d
 by_cases h4:(x.toNat:Int)≤239
 ·rw[rd,if_neg h1,if_neg h2,if_neg h3,if_pos h4]at d;exact aa9 b a c _ _ w g k i f (by omega) (by omega) R d
 ·rw[rd,if_neg h1,if_neg h2,if_neg h3,if_neg h4]at d;exact abb b a c _ _ w g k i f (by omega) (by omega) R d
theorem tail_size:∀(m k:Nat) (l h r:Int) (t:List UInt8),(k:Int)≤(tail m k l h r t).2.1∧(tail m k l h r t).2.1≤k+t.length
 |0,k,_,_,_,t=>by simp[tail];omega
 |m+1,k,l,h,r,[]=>by simp[tail]
 |m+1,k,l,h,r,c::t=>by
  rw[tail]
  split
  ·simp;omega
  ·have:=tail_size m (k+1) 128 191 (r*64+(c.toNat:Int)%64) t
   simp only[List.length_cons]
   omega
theorem mQ (x:UInt8) (t:List UInt8):1≤(rd (x::t)).2.1∧(rd (x::t)).2.1≤(t.length:Int)+1:=by
 simp only[rd]
 (repeat' split)
 ·simp;omega
 ·simp;omega
 ·have:=tail_size 1 1 (lo x.toNat) (hi x.toNat) (x.toNat%32) t;omega
 ·have:=tail_size 2 1 (lo x.toNat) (hi x.toNat) (x.toNat%16) t;omega
 have:=tail_size 3 1 (lo x.toNat) (hi x.toNat) (x.toNat%8) t;omega
def rJ:Nat→List UInt8→List Int
 |0,_=>[]
 |_+1,[]=>[]
 |n+1,x::t=>(rd (x::t)).1::rJ n ((x::t).drop (rd (x::t)).2.1.toNat)
def dec (L:List UInt8):List Int:=rJ L.length L
theorem pO:∀(n m:Nat) (L:List UInt8),L.length≤n→L.length≤m→rJ n L=rJ m L
 |0,0,_,_,_=>rfl
 |0,m+1,[],_,_=>rfl
 |0,_+1,_::_,h,_=>by simp at h
 |n+1,0,[],_,_=>rfl
 |_+1,0,_::_,_,h=>by simp at h
 |_+1,_+1,[],_,_=>rfl
 |n+1,m+1,x::t,h1,h2=>by
  have a:=mQ x t
  simp only[List.length_cons]at h1 h2
  rw[rJ,rJ,pO n m _ (by simp;omega) (by simp;omega)]
theorem mG:dec []=[]:=rfl
theorem gU (x:UInt8) (t:List UInt8):dec (x::t)=(rd (x::t)).1::dec ((x::t).drop (rd (x::t)).2.1.toNat):=by
 have a:=mQ x t;unfold dec;rw[List.length_cons,rJ,pO _ _ _ (by simp;omega) (Nat.le_refl _)]
theorem Un (L:List UInt8) (k:Nat) (h:k<L.length):
  dec (L.drop k)=(rd (L.drop k)).1::dec (L.drop (k+(rd (L.drop k)).2.1.toNat))∧1≤(rd (L.drop k)).2.1∧(rd (L.drop k)).2.1≤(L.length:Int) - k:=by
 obtain⟨x,t,a⟩:∃x t,L.drop k=x::t:=by
  cases e:L.drop k with
  |nil=>simp at e;omega
  |cons x t=>exact⟨x,t,rfl⟩
 have c:=mQ x t;have d:(L.drop k).length=L.length - k:=List.length_drop;rw[a,List.length_cons]at d;refine⟨?_,?_,?_⟩
 ·rw[a,gU,←a,List.drop_drop]
 ·rw[a];exact c.1
 ·rw[a];omega
theorem info21:(prog.info? 21).map (fun i=>(i.zero,i.size,i.bytes))=some (some (.int .i32 0),1,4):=by kernel_rfl
theorem qj (A:Option Addr) (n j:Nat) (L:List UInt8) (w:World) (h:dV w A n (aQ L)) (hm:n≤1073741824) (I:n≤j):
  Calls prog 23 #[.slice A n j] w fun e w'=>∃v,e=.returned v∧w'.ownsRow w.heap.size 21 1 v (dec L).length (jh .i32 (dec L))∧Below w.heap.size w w':=by
 have H:L.length=n:=by rw[←bM];exact h.1
 have F:=hid H;clear H;obtain⟨T,hi,C,B,z⟩:=info_parts info21;have O:=hid h;clear h;go_enter func23,ntmps23;go_wp2;go_loopw [3,4] (fun v vk wr=>∃(k:Nat) (f:List Int),k≤n∧f.length≤k∧vk=.int .i64 k∧wr.ownsRow w.heap.size 21 1 v f.length (jh .i32 f)∧Below w.heap.size w wr∧Hid (f++dec (L.drop k)=dec L)) (fun _ vk _=>n - (intOf vk).toNat)
 case atStart=>exact⟨0,[],Nat.zero_le _,Nat.le_refl _,rfl,World.ownsRow_nil _ _ _ _,Below.refl _ _,rfl⟩
 case round =>
  obtain⟨k,f,W,J,rfl,i,c,N⟩:=hrel;by_cases hlt:k<n
  ·obtain ⟨b,r,rfl,hb,_⟩:=(O).spot (by omega);have x:Hid (dV wr (some ⟨b,r+k,none⟩) (n - k) (aQ (L.drop k))):=by
    rw[oq];exact(O.cut k W).below c
   have V:¬j=k:=by omega
   obtain⟨m,D,t⟩:=Un L k (by rw[F.out];exact hlt);obtain⟨R,E⟩:∃R,R=rd (L.drop k):=⟨_,rfl⟩;rw[←E]at m D t;rw[F.out]at t;have Z:=hid m;have X:=hid E;clear m E;go_wp2_with fail
   refine(VT b (r+k) (n - k) (j - k) (L.drop k) _ x (by unfold maxLen;omega) (by omega) R X).mono ?_;rintro e Q ⟨rfl,y⟩;have d:=aZ i y;have a:=c.trans (y.mono c.size);clear i c;go_wp2_with (at_builtin;refine wpList_append_own _ rfl _ _ 52 rfl w.heap.size 21 T (.int .i32 0) 1 4 underlying52 hi C B z rfl (by decide) _ _ _ rfl (d.alloc _) ⟨Q.heap.size,0,none⟩ 1 1 [.int .i32 R.1] rfl rfl ?c1 ?c2 ?c3 ?c4 ?c5 ?_)
   case c1=>exact cell_one_new _ _ _
   case c2=>intro u G;simp at G;subst G;rfl
   case c3=>unfold maxLen;omega
   case c4=>omega
   case c5=>have:=a.size;simp;omega
   intro v' P l s _;have q:Below w.heap.size w P:=(a.alloc a.size _).grown s (by have:=a.size;simp;omega) (fun g hg=>(d.lt g hg).1);clear d a s;go_wp2;go_roundw
   case rel=>exact⟨k+R.2.1.toNat,f++[R.1],by omega,by simp;omega,by rw[show((k+R.2.1.toNat:Nat):Int)=(k:Int)+R.2.1 by omega],by rw[gG,List.length_append];exact l,q,by
     have:=N.out;rw[Z.out]at this;rw[List.append_assoc];exact this⟩
   case measure=>simp[intOf];omega
  ·obtain rfl:k=n:=by omega
   have Y:Hid (f=dec L):=by
    have e:=N.out;rw[←F.out,List.drop_length,mG,List.append_nil]at e;exact e
   go_wp2;go_ret;exact⟨_,rfl,by rw[←Y.out];exact i,c⟩
end rY
namespace uh
open Go.RowKit Base
def enc (l:List Int):List UInt8:=l.flatMap Lib.encodeRune
theorem Nh (r:Int):Lib.runeCells r=aQ (Lib.encodeRune r):=(Lib.byteCells_encodeRune r).symm
theorem oC (l:List Int) (r:Int):enc (l++[r])=enc l++Lib.encodeRune r:=by simp[enc]
theorem Ar (r:Int):1≤(Lib.encodeRune r).length∧(Lib.encodeRune r).length≤4:=by
 have:=Lib.runeCells_le r;rw[Lib.runeCells_length]at this;exact this
theorem fK (l:List Int):(enc l).length≤4*l.length∧l.length≤(enc l).length:=by
 induction l with
 |nil=>simp[enc]
 |cons r l ih=>
  have h:=Ar r;have e:enc (r::l)=Lib.encodeRune r++enc l:=by simp[enc]
  rw[e,List.length_append,List.length_cons];omega
def QC (r:Int):Prop:= -2147483648≤r∧r≤2147483647
theorem gq (A:Option Addr) (n C:Nat) (l:List Int) (w:World) (h:dV w A n (jh .i32 l)) (D:∀r ∈ l,QC r) (Q:n≤1073741824):
  Calls prog 22 #[.slice A n C] w fun e w'=>∃v,e=.returned v∧w'.ownsRow w.heap.size 5 1 v (enc l).length (aQ (enc l))∧Below w.heap.size w w':=by
 have F:l.length=n:=by rw[←lD .i32];exact h.1
 have q:=hid F;clear F;have G:=hid h;clear h;have L:=hid D;clear D;go_enter func22,ntmps22;go_wp2;go_loopw [3,8] (fun v vk wr=>∃(k:Nat),k≤n∧vk=.int .i64 k∧wr.ownsRow w.heap.size 5 1 v (enc (l.take k)).length (aQ (enc (l.take k)))∧Below w.heap.size w wr) (fun _ vk _=>n - (intOf vk).toNat)
 case atStart=>exact⟨0,Nat.zero_le _,rfl,World.ownsRow_nil _ _ _ _,Below.refl _ _⟩
 case round =>
  obtain⟨k,T,rfl,c,a⟩:=hrel;by_cases hlt:k<n
  ·obtain ⟨b,j,rfl,I,_⟩:=(G).spot (by omega);obtain⟨r,hx⟩:∃r,r=l[k]'(by rw[q.out];exact hlt):=⟨_,rfl⟩;have z:wr.cell? ⟨b,j+k,none⟩=some (.int .i32 r):=by
    rw[hx,←G.out.int k (by rw[q.out];exact hlt)];exact a.cell (p:=⟨b,j+k,none⟩) I
   have B:QC r:=by rw[hx];exact L _ (List.getElem_mem _)
   obtain⟨t,s⟩:=B;have J:Hid (l.take (k+1)=l.take k++[r]):=by
    rw[hx];exact List.take_succ_eq_append_getElem (by rw[q.out];exact hlt)
   clear hx;have x:=(fK (l.take k)).1;have E:(l.take k).length≤k:=List.length_take_le _ _;obtain⟨m,f⟩:∃m,m=(enc (l.take k)).length:=⟨_,rfl⟩;rw[←f]at x c;have N:=hid f;clear f;go_wp2_with fail
   refine(utf8_AppendRune_plain w.heap.size _ _ _ r t s _ c (by omega) a.size).mono ?_;rintro e H ⟨P,rfl,d,o,y⟩;have i:Below w.heap.size w H:=(a.alloc a.size o).grown y (by have:=a.size;simp;omega) (fun g y=>(c.lt g y).1);clear c a;go_wp2;go_roundw
   case rel=>exact⟨k+1,by omega,by go_num,by
     rw[J.out,oC,List.length_append,eU,←Nh,←Lib.runeCells_length,←N.out];exact d,i⟩
   case measure=>simp[intOf];omega
  ·obtain rfl:k=n:=by omega
   have O:Hid (l.take k=l):=by
    rw[←q.out];exact List.take_length
   go_wp2;go_ret;exact⟨_,rfl,by rw[O.out]at c;exact c,a⟩
end uh
