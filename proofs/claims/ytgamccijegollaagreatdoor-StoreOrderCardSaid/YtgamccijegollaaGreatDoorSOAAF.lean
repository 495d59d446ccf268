/- Texts that belong together: agV, zD, FM, fU, acJ, acA, acL, Kr, asR, aso, acG, WR, acv, ac2, acD, aZ. -/
import Derived.Test.YtgamccijegollaaGreatDoorSOAAE
import Derived.Test.YtgamccijegollaaGreatDoorSOAAA
import Derived.Test.YtgamccijegollaaGreatDoorShelf
import Derived.Laws.IdiomStrings
import Derived.Test.YtgamccijegollaaGreatDoorSOAAD
import Derived.Deep.QuietTactic
import Derived.BigQuiet
import Derived.Test.YtgamccijegollaaGreatDoorSOAAC
import Derived.Lib.SliceRun
import Derived.Lib.IndexAny
import Derived.Lib.ItoaNum
set_option linter.unusedSimpArgs false
set_option linter.unusedVariables false
set_option maxRecDepth 100000
set_option maxHeartbeats 64000000
namespace Go.Proofs.YtgamccijegollaaGreatDoor.agV
open Go.RowKit Base dI oO BH Gl
theorem afi (d:Nat) (h:d<10):dv (UInt8.ofNat (48+d))=d∧lH 10 (UInt8.ofNat (48+d))=true:=by
 have H:∀d:Fin 10,dv (UInt8.ofNat (48+d.val))=d.val∧lH 10 (UInt8.ofNat (48+d.val))=true:=by decide+kernel
 exact H ⟨d,h⟩
theorem qW (b:Nat) (c:UInt8) (h:lH b c=true):c≠46:=by
 rintro rfl
 unfold lH at h
 rw[Bool.and_eq_true]at h
 exact absurd (of_decide_eq_true h.1) (by decide)
theorem ak9 (b:Nat) (L:List UInt8) (h:eu b L=true):∀c ∈ L,c≠46:=fun c hc=>qW b c (List.all_eq_true.1 h c hc)
theorem N8:∀(N n:Nat),n<N→val 10 (Lib.decDigits n)=n∧eu 10 (Lib.decDigits n)=true
 |0,n,h=>absurd h (by omega)
 | N + 1, n, hN => by
  rw[Lib.decDigits]
  split
  ·rename_i h
   obtain⟨h1,h2⟩:=afi n h
   refine⟨?_,?_⟩
   ·show 0*10+dv (UInt8.ofNat (48+n))=n
    rw[h1];omega
   ·show(lH 10 (UInt8.ofNat (48+n))&&true)=true
    rw[h2];rfl
  ·obtain⟨h1,h2⟩:=afi (n%10) (by omega)
   obtain⟨i1,i2⟩:=N8 N (n / 10) (by omega)
   refine⟨by rw[jh,i1,h1];omega,?_⟩
   unfold eu at i2⊢
   rw[List.all_append,i2,List.all_cons,h2]
   rfl
theorem Z5:∀(N n:Nat),n<N→0<n→(Lib.decDigits n).head?≠some 48∧Lib.decDigits n≠[]
 |0,n,h,_=>absurd h (by omega)
 | N + 1, n, hN, h0 => by
  rw[Lib.decDigits]
  split
  ·rename_i h
   refine⟨?_,by simp⟩
   have H:∀d:Fin 10,0<d.val→UInt8.ofNat (48+d.val)≠48:=by decide+kernel
   simpa using H ⟨n,h⟩ h0
  ·obtain⟨i1,i2⟩:=Z5 N (n / 10) (by omega) (by omega)
   refine⟨?_,by simp⟩
   cases hL:Lib.decDigits (n / 10)with
   |nil=>exact absurd hL i2
   |cons a r=>
    rw[hL]at i1
    exact i1
theorem Gv (n:Nat):Lib.decDigits n≠[]:=by
 rw[Lib.decDigits]
 split<;>simp
theorem shp_dec (n:Nat):Ht (Lib.decDigits n)=(10,Lib.decDigits n):=by
 by_cases h:n<10
 ·rw[Lib.decDigits,dif_pos h]
  rfl
 obtain⟨h1,h2⟩:=Z5 (n+1) n (by omega) (by omega)
 match hL:Lib.decDigits n with
 |[]=>exact absurd hL h2
 |[a]=>rfl
 |a::x::r=>
  rw[hL]at h1
  have ha:a≠48:=by simpa using h1
  unfold Ht
  simp only
  rw[if_neg ha]
theorem Ai (n:Nat):num (Lib.decDigits n)=some n:=by
 obtain⟨h1,h2⟩:=N8 (n+1) n (by omega)
 unfold num
 rw[if_neg (Gv n),shp_dec]
 simp only
 rw[if_pos h2,h1]
theorem I8:∀M:List UInt8,(∀c ∈ M,c≠46)→bZ M=[M]
 |[],_=>rfl
 |c::M,h=>by rw[bZ,if_neg (h c (by simp)),I8 M fun d hd=>h d (by simp[hd])]
theorem pI:∀(A M:List UInt8),(∀c ∈ A,c≠46)→bZ (A++46::M)=A::bZ M
 |[],M,_=>by rw[List.nil_append,bZ,if_pos rfl]
 |c::A,M,h=>by rw[List.cons_append,bZ,if_neg (h c (by simp)),pI A M fun d hd=>h d (by simp[hd])]
theorem jZ (n:Nat):∀c ∈ Lib.decDigits n,c≠46:=ak9 10 _ (N8 (n+1) n (by omega)).2
theorem SG (A M:List UInt8) (hM:M≠[]) (h:∀c ∈ M,c≠46):oH (A++M)=A++M:=by
 rcases List.eq_nil_or_concat M with rfl|⟨M',d,rfl⟩
 ·exact absurd rfl hM
 rw[List.concat_eq_append]at h⊢
 rw[←List.append_assoc]
 exact L9 _ d (h d (by simp))
def G5 (n:Nat):List (List UInt8):=[Lib.decDigits (n / 16777216),Lib.decDigits (n / 65536%256),Lib.decDigits (n / 256%256),Lib.decDigits (n%256)]
theorem af9 (n:Nat):pr n=Lib.decDigits (n / 16777216)++46::(Lib.decDigits (n / 65536%256)++46::(Lib.decDigits (n / 256%256)++46::Lib.decDigits (n%256))):=by
 simp[pr,p3,p2,p1]
theorem Yy (n:Nat):bZ (pr n)=G5 n:=by
 rw[af9,pI _ _ (jZ _),pI _ _ (jZ _),pI _ _ (jZ _),I8 _ (jZ _)]
 rfl
theorem anZ (n:Nat):oH (pr n)=pr n:=SG (p3 n) _ (Gv _) (jZ _)
theorem UH (n:Nat) (h:n<4294967296):mZ 4294967296 0 (G5 n)=some n:=by
 unfold G5
 rw[zK _ _ _ _ _ _ (Ai _) (by omega),zK _ _ _ _ _ _ (Ai _) (by omega),zK _ _ _ _ _ _ (Ai _) (by omega),ng _ _ _ _ (Ai _) (by omega)]
 congr 1
 omega
theorem prs_pr (n:Nat) (h:n<4294967296):NR (pr n)=some n:=by
 unfold NR
 rw[anZ,Yy,if_pos (by simp[G5]),UH n h]
theorem XF (L M:List UInt8) (n:Nat) (h1:oH L=M) (h2:lst M=Lib.decDigits n):ends L=true:=by
 unfold ends
 rw[h1,h2,Ai]
 rfl
theorem ams (n:Nat):lst (pr n)=Lib.decDigits (n%256):=by
 unfold lst
 rw[Yy]
 rfl
theorem ends_pr (n:Nat):ends (pr n)=true:=XF _ _ _ (anZ n) (ams n)
theorem pr_head (n:Nat):∃c r,pr n=c::r∧c≠46:=by
 rw[af9]
 cases h:Lib.decDigits (n / 16777216)with
 |nil=>exact absurd h (Gv _)
 |cons c r=>exact⟨c,_,rfl,jZ (n / 16777216) c (by rw[h];simp)⟩
end Go.Proofs.YtgamccijegollaaGreatDoor.agV
namespace Go.Proofs.YtgamccijegollaaGreatDoor.zD
open Go.RowKit Base
def P1 (c:Int):Prop:=c=32∨c=34∨c=60∨c=62∨c=96
instance (c:Int):Decidable (P1 c):=by unfold P1;exact inferInstance
def P2 (c:Int):Prop:=c=32∨c=34∨c=35∨c=60∨c=62
instance (c:Int):Decidable (P2 c):=by unfold P2;exact inferInstance
def P3 (c:Int):Prop:=c=32∨c=34∨c=35∨c=60∨c=62∨c=39
instance (c:Int):Decidable (P3 c):=by unfold P3;exact inferInstance
def P4 (c:Int):Prop:=c=32∨c=34∨c=35∨c=60∨c=62∨c=63∨c=94∨c=96∨c=123∨c=125
instance (c:Int):Decidable (P4 c):=by unfold P4;exact inferInstance
def P5 (c:Int):Prop:=c=32∨c=34∨c=35∨c=60∨c=62∨c=63∨c=94∨c=96∨c=123∨c=125∨c=47∨c=58∨c=59∨c=61∨c=64∨c=91∨c=92∨c=93∨c=124
instance (c:Int):Decidable (P5 c):=by unfold P5;exact inferInstance
def P6 (c:Int):Prop:=c=32∨c=34∨c=35∨c=60∨c=62∨c=63∨c=94∨c=96∨c=123∨c=125∨c=47∨c=58∨c=59∨c=61∨c=64∨c=91∨c=92∨c=93∨c=124∨c=36∨c=37∨c=38∨c=43∨c=44
instance (c:Int):Decidable (P6 c):=by unfold P6;exact inferInstance
def ji (k c:Int):Bool:=decide (0≤k∧k≤6∧(c<32∨126<c∨k=1∧P1 c∨k=2∧P2 c∨k=3∧P3 c∨k=4∧P4 c∨k=5∧P5 c∨k=6∧P6 c))
def S:Int→List UInt8
 |1=>[32,34,60,62,96]
 |2=>[32,34,35,60,62]
 |3=>[32,34,35,60,62,39]
 |4=>[32,34,35,60,62,63,94,96,123,125]
 |5=>[32,34,35,60,62,63,94,96,123,125,47,58,59,61,64,91,92,93,124]
 |6=>[32,34,35,60,62,63,94,96,123,125,47,58,59,61,64,91,92,93,124,36,37,38,43,44]
 |_=>[]
theorem S_in (k:Int) (hk:0≤k∧k≤6) (c:UInt8) (h1:32≤(c.toNat:Int)) (h2:(c.toNat:Int)≤126):decide (0≤Lib.indexByte (S k) c)=ji k c.toNat:=by
 obtain⟨ha,hb⟩:=hk
 have hcase:k=0∨k=1∨k=2∨k=3∨k=4∨k=5∨k=6:=by omega
 have H:∀n:Fin 256,(32≤n.val∧n.val≤126)→∀k:Fin 7,decide (0≤Lib.indexByte (S (k.val:Int)) (UInt8.ofNat n.val))=ji (k.val:Int) (n.val:Int):=by decide+kernel
 have hn:=H ⟨c.toNat,c.toNat_lt⟩ ⟨by simp;omega,by simp;omega⟩ ⟨k.toNat,by omega⟩
 simpa[Int.toNat_of_nonneg ha]using hn
theorem Oc (k:Int) (c:Int) (h:k<0∨6<k):ji k c=false:=by unfold ji;rw[decide_eq_false_iff_not];omega
theorem afG (k:Int) (c:Int) (h1:0≤k) (h2:k≤6) (h:c<32∨126<c):ji k c=true:=by unfold ji;rw[decide_eq_true_iff];omega
theorem Ui (k:Int) (w:World) (h0:0≤k) (h1:k≤6):Calls Tryz.prog 285 #[.int .i64 k] w fun e w'=>e=.returned (.string (strOf (S k)))∧w=w':=by
 have hcase:k=0∨k=1∨k=2∨k=3∨k=4∨k=5∨k=6:=by omega
 rcases hcase with rfl|rfl|rfl|rfl|rfl|rfl|rfl
 all_goals
  go_enter Tryz.func285,Tryz.ntmps285
  go_wp2
  go_ret
  exact⟨rfl,rfl⟩
theorem amc (k:Int) (c:UInt8) (w:World):Calls Tryz.prog 230 #[.int .i64 k,.int .u8 (c.toNat:Int)] w fun e w'=>e=.returned (.bool (ji k c.toNat))∧w=w':=by
 by_cases ho:k<0∨6<k
 ·have HE:=hid (Oc k c.toNat ho)
  rcases ho with ho|ho
  all_goals
   go_enter Tryz.func230,Tryz.ntmps230
   go_wp2
   go_ret
   rw[HE.out]
   exact⟨rfl,rfl⟩
 have h0:0≤k:=by omega
 have h1:k≤6:=by omega
 clear ho
 by_cases hf:(c.toNat:Int)<32∨126<(c.toNat:Int)
 ·have HE:=hid (afG k c.toNat h0 h1 hf)
  rcases hf with hf|hf
  ·go_enter Tryz.func230,Tryz.ntmps230
   go_wp2
   go_ret
   rw[HE.out]
   exact⟨rfl,rfl⟩
  have hg:¬(c.toNat:Int)<32:=by omega
  go_enter Tryz.func230,Tryz.ntmps230
  go_wp2
  go_ret
  rw[HE.out]
  exact⟨rfl,rfl⟩
 have h2:32≤(c.toNat:Int):=by omega
 have h3:(c.toNat:Int)≤126:=by omega
 clear hf
 have HE:=hid (S_in k ⟨h0,h1⟩ c h2 h3)
 go_enter Tryz.func230,Tryz.ntmps230
 go_wp2_with fail
 refine(Ui k _ h0 h1).mono ?_
 rintro e w1 ⟨rfl,rfl⟩
 go_wp2_with fail
 refine(Tryz.strings_IndexByte _ _ _).mono ?_
 rintro e w1 ⟨rfl,rfl⟩
 rw[show(strOf (S k)).data.toList=S k from rfl,show((c.toNat:Int).toNat).toUInt8=c by simp]
 go_wp2_with fail
 go_ret
 exact⟨ak (by rw[←HE.out,decide_eq_false (show ¬(c.toNat:Int)<32 by omega),decide_eq_false (show ¬126<(c.toNat:Int)by omega)];simp),rfl⟩
end Go.Proofs.YtgamccijegollaaGreatDoor.zD
namespace Go.Proofs.YtgamccijegollaaGreatDoor.FM
open Go.RowKit Base zD
def jR (n:Nat):UInt8:=if n<10 then UInt8.ofNat (48+n)else UInt8.ofNat (55+n)
def one (k:Int) (c:UInt8):List UInt8:=if ji k c.toNat=true then[37,jR (c.toNat / 16),jR (c.toNat%16)]else[c]
def enc (k:Int) (L:List UInt8):List UInt8:=L.flatMap (one k)
theorem rM (k:Int) (L:List UInt8) (c:UInt8):enc k (L++[c])=enc k L++one k c:=by simp[enc]
theorem Oj (k:Int) (c:UInt8):1≤(one k c).length∧(one k c).length≤3:=by unfold one;split<;>simp
theorem iW (k:Int) (L:List UInt8):(enc k L).length≤3*L.length:=by
 induction L with
 |nil=>simp[enc]
 |cons c L ih=>
  have h:=Oj k c
  have e:enc k (c::L)=one k c++enc k L:=by simp[enc]
  rw[e,List.length_append,List.length_cons]
  omega
theorem zV (k:Nat) (h:k<(⟨#[48,49,50,51,52,53,54,55,56,57,65,66,67,68,69,70]⟩:ByteArray).size):(⟨#[48,49,50,51,52,53,54,55,56,57,65,66,67,68,69,70]⟩:ByteArray)[k]'h=jR k:=by
 have h':k<16:=h
 have hcase:k=0∨k=1∨k=2∨k=3∨k=4∨k=5∨k=6∨k=7∨k=8∨k=9∨k=10∨k=11∨k=12∨k=13∨k=14∨k=15:=by omega
 rcases hcase with rfl|rfl|rfl|rfl|rfl|rfl|rfl|rfl|rfl|rfl|rfl|rfl|rfl|rfl|rfl|rfl<;>rfl
theorem LX (a b c:Int):∀u ∈ [Value.int .u8 a,Value.int .u8 b,Value.int .u8 c],u.oneCell'=true:=by
 intro u hu
 simp at hu
 rcases hu with rfl|rfl|rfl<;>rfl
attribute [local go_sem ↓] Go.wp_at_zero Go.wp_at_succ
theorem eF (k : Int) (A : Option Addr) (n cap : Nat) (L : List UInt8) (w : World) (h : aY w A n (ah L)) (hm : n ≤ 1073741824) :
  Calls Tryz.prog 123 #[.int .i64 k,.slice A n cap] w fun e w'=>e=.returned (.string (strOf (enc k L)))∧Below w.heap.size w w':=by
 have hl:L.length=n:=by rw[←aI];exact h.1
 have HL:=hid hl
 clear hl
 obtain⟨i0,hi,hz0,hz1,hz2⟩:=info_parts iR
 have HH:=hid h
 clear h
 go_enter Tryz.func123,Tryz.ntmps123
 go_wp2_with (at_make;refine wpList_make_own _ rfl _ _ 45 rfl w.heap.size 5 i0 (.int .u8 0) 1 Tryz.underlying45 hi hz0 hz1 .i64 .i64 _ n rfl rfl rfl (by rw[hz2];omega) (by unfold maxLen;omega) (Nat.le_refl _) ?_)
 intro w1 hown1 hg1
 have gW:Below w.heap.size w w1:=(Below.refl _ _).grown hg1 (Nat.le_refl _) (by intro k h;cases h)
 clear hg1
 go_wp2
 go_loopw [5,13] (fun v vk wr=>∃(j:Nat),j≤n∧vk=.int .i64 j∧wr.ownsRow w.heap.size 5 1 v (enc k (L.take j)).length (ah (enc k (L.take j)))∧Below w.heap.size w wr) (fun _ vk _=>n - (intOf vk).toNat)
 case atStart=>exact⟨0,Nat.zero_le _,rfl,hown1,gW⟩
 case round=>
  clear hown1 gW
  obtain⟨j,hj,rfl,hown,hbel⟩:=hrel
  by_cases hlt:j<n
  ·obtain ⟨b,off,rfl,hb,_⟩:=(HH.out).spot (by omega)
   obtain⟨c,hx⟩:∃c,c=L[j]'(by rw[HL.out];exact hlt):=⟨_,rfl⟩
   have hcell:wr.cell? ⟨b,off+j,none⟩=some (.int .u8 (c.toNat:Int)):=by
    rw[hx,←HH.out.byte j (by rw[HL.out];exact hlt)]
    exact hbel.cell (p:=⟨b,off+j,none⟩) hb
   have HS:Hid (L.take (j+1)=L.take j++[c]):=by
    rw[hx]
    exact List.take_succ_eq_append_getElem (by rw[HL.out];exact hlt)
   clear hx
   have hle:=iW k (L.take j)
   have hle2:(L.take j).length≤j:=List.length_take_le _ _
   obtain⟨m,hmm⟩:∃m,m=(enc k (L.take j)).length:=⟨_,rfl⟩
   rw[←hmm]at hle hown
   have HM:=hid hmm
   clear hmm
   have hc0:(c.toNat:Int)<256:=by have:=c.toNat_lt;omega
   cases hin:ji k c.toNat
   ·have HI:=hid hin
    clear hin
    go_wp2_with fail
    refine(amc _ _ _).mono ?_
    rintro e w2 ⟨rfl,rfl⟩
    rw[HI.out]
    go_wp2_with (at_builtin;refine aQ rfl _ _ 45 rfl w.heap.size 5 i0 (.int .u8 0) 1 Tryz.underlying45 hi hz0 hz1 hz2 rfl _ m _ rfl hown hbel hbel.size [.int .u8 (c.toNat:Int)] 1 rfl rfl (by intro u hu;simp at hu;subst hu;rfl) (by unfold maxLen;omega) (by omega) ?_)
    intro v' w2 hown2 dZ
    clear hown hbel
    go_wp2
    go_roundw
    case rel=>exact⟨j+1,by omega,by go_num,by
      have e1:one k c=[c]:=by unfold one;rw[HI.out];rfl
      rw[HS.out,rM,e1,List.length_append,aS,←HM.out]
      exact hown2,dZ⟩
    case measure=>simp[intOf];omega
   ·have HI:=hid hin
    clear hin
    go_wp2_with fail
    refine(amc _ _ _).mono ?_
    rintro e w2 ⟨rfl,rfl⟩
    rw[HI.out]
    go_wp2
    have q1:(0:Int)≤(c.toNat:Int) / 16:=by omega
    have q2:(c.toNat:Int) / 16<16:=by omega
    have q3:(0:Int)≤(c.toNat:Int)%16:=by omega
    have q4:(c.toNat:Int)%16<16:=by omega
    have q5:=PE c
    have q6:∀h,(⟨#[48,49,50,51,52,53,54,55,56,57,65,66,67,68,69,70]⟩:ByteArray)[((c.toNat:Int) / 16).toNat]'h=jR (c.toNat / 16):=fun h=>zV _ h
    have q7:∀h,(⟨#[48,49,50,51,52,53,54,55,56,57,65,66,67,68,69,70]⟩:ByteArray)[((c.toNat:Int)%16).toNat]'h=jR (c.toNat%16):=fun h=>zV _ h
    go_region_held3 (fun _=>True) (trivial) ((refine RS (by rfl) _ _ 45 (by rfl) w.heap.size 5 i0 (.int .u8 0) 1 Tryz.underlying45 hi hz0 hz1 hz2 (by rfl) _ m _ (by rfl) hown hbel hbel.size [.int .u8 37,.int .u8 ((jR (c.toNat / 16)).toNat:Int),.int .u8 ((jR (c.toNat%16)).toNat:Int)] 3 (by rfl) (by decide) (by rfl) (LX _ _ _) (by unfold maxLen;omega) (by omega) ⟨(Below.refl _ _).drew,fun _=>rfl,by simp⟩ ?_;intro v' w2 hown2 dZ))
    all_goals
     clear hown hbel q1 q2 q3 q4 q5 q6 q7
     go_wp2
     go_roundw
     case rel=>exact⟨j+1,by omega,by go_num,by
       have e1:one k c=[37,jR (c.toNat / 16),jR (c.toNat%16)]:=by unfold one;rw[if_pos HI.out]
       rw[HS.out,rM,e1,List.length_append,aS,←HM.out]
       exact hown2,dZ⟩
     case measure=>simp[intOf];omega
  ·obtain rfl:j=n:=by omega
   have HE:Hid (L.take j=L):=by
    rw[←HL.out];exact List.take_length
   rw[HE.out]at hown
   obtain⟨A',c',rfl,_,_,hrd⟩:=aJ hown
   have hst:=aF 45 9 5 Tryz.underlying45 Tryz.underlying5 Tryz.underlying9 _ c' hrd
   go_wp2
   go_ret
   exact⟨rfl,hbel⟩
end Go.Proofs.YtgamccijegollaaGreatDoor.FM
namespace Go.Proofs.YtgamccijegollaaGreatDoor.fU
open Go.RowKit Base dI
def esc:List UInt8→Option UInt8
 |a::b::c::_=>if a=37∧0≤hex b.toNat∧0≤hex c.toNat then some (UInt8.ofNat (16*hex b.toNat+hex c.toNat).toNat)else none
 |_=>none
def xI:Nat→List UInt8→List UInt8
 |0,_=>[]
 |_+1,[]=>[]
 |n+1,x::t=>match esc (x::t)with
  |some c=>c::xI n (t.drop 2)
  |none=>x::xI n t
def dec (L:List UInt8):List UInt8:=xI L.length L
theorem uy:∀(n m:Nat) (L:List UInt8),L.length≤n→L.length≤m→xI n L=xI m L
 |0,0,_,_,_=>rfl
 |0,m+1,[],_,_=>rfl
 |0,_+1,_::_,h,_=>by simp at h
 |n+1,0,[],_,_=>rfl
 |_+1,0,_::_,_,h=>by simp at h
 |_+1,_+1,[],_,_=>rfl
 |n+1,m+1,x::t,h1,h2=>by
  simp only[List.length_cons]at h1 h2
  rw[xI,xI,uy n m _ (by simp;omega) (by simp;omega),uy n m _ (by omega) (by omega)]
theorem lT:dec []=[]:=rfl
theorem oQ (x:UInt8) (t:List UInt8) (c:UInt8) (h:esc (x::t)=some c):dec (x::t)=c::dec (t.drop 2):=by
 unfold dec
 rw[List.length_cons,xI,h]
 rw[uy t.length (t.drop 2).length _ (by simp) (Nat.le_refl _)]
theorem kJ (x:UInt8) (t:List UInt8) (h:esc (x::t)=none):dec (x::t)=x::dec t:=by
 unfold dec
 rw[List.length_cons,xI,h]
theorem ku (L:List UInt8):(dec L).length≤L.length:=by
 have H : ∀ (n : Nat) (L : List UInt8), (xI n L).length ≤ L.length := by
  intro n
  induction n with
  |zero=>intro L;simp[xI]
  | succ n ih=>
   intro L
   cases L with
   |nil=>simp[xI]
   |cons x t=>
    rw[xI]
    split
    ·have:=ih (t.drop 2)
     simp at this⊢
     omega
    have:=ih t
    simp at this⊢
    omega
 exact H _ _
theorem vG (c:UInt8): -1≤hex c.toNat∧hex c.toNat≤15:=by
 unfold hex
 (repeat' split)<;>omega
attribute [local go_sem ↓] Go.wp_at_zero Go.wp_at_succ
def FB (L:List UInt8):Value×Bool:=match esc L with
 |some c=>(.int .u8 (c.toNat:Int),true)
 |none=>(.int .u8 0,false)
theorem Vb (s:ByteArray) (h:s.size<3):esc s.data.toList=none:=by
 have hl:s.data.toList.length<3:=by rw[Array.length_toList];exact h
 match e:s.data.toList,hl with
 |[],_=>rfl
 |[_],_=>rfl
 |[_,_],_=>rfl
theorem alo (s:ByteArray) (h:3≤s.size):∃t,s.data.toList=s[0]::s[1]::s[2]::t:=by
 have hl:3≤s.data.toList.length:=by rw[Array.length_toList];exact h
 match e:s.data.toList,hl with
 |a::b::c::t,_=>
  have e0:s[0]=a:=by
   have:s.data.toList[0]'(by omega)=a:=by simp[e]
   exact this
  have e1:s[1]=b:=by
   have:s.data.toList[1]'(by omega)=b:=by simp[e]
   exact this
  have e2:s[2]=c:=by
   have:s.data.toList[2]'(by omega)=c:=by simp[e]
   exact this
  exact⟨t,by rw[e0,e1,e2]⟩
theorem u8_of (z:Int) (h0:0≤z) (h1:z≤255):((UInt8.ofNat z.toNat).toNat:Int)=z:=by simp;omega
theorem or16 (h l:Int) (h0:0≤h) (h1:h≤15) (l0:0≤l) (l1:l≤15):bits .or .i64 (h*16) l=16*h+l:=by
 have H:∀a b:Fin 16,bits .or .i64 ((a.val:Int)*16) (b.val:Int)=16*(a.val:Int)+(b.val:Int):=by decide+kernel
 have:=H ⟨h.toNat,by omega⟩ ⟨l.toNat,by omega⟩
 simp only[Int.toNat_of_nonneg h0,Int.toNat_of_nonneg l0]at this
 exact this
theorem hexq (c:Int) (w:World) (h0:0≤c) (h1:c≤255):Calls Tryz.prog 256 #[.int .u8 c] w fun e w'=>e=.returned (.int .i64 (hex c))∧w'=w:=
 (dV c w h0 h1).mono fun _ _ ⟨he,hw⟩=>⟨he,hw.symm⟩
theorem wM (s:ByteArray) (w:World) (hs:s.size≤maxLen):Calls Tryz.prog 170 #[.string s] w fun e w'=>e=.returned (.tuple #[(FB s.data.toList).1,.bool (FB s.data.toList).2])∧Below w.heap.size w w':=by
 unfold maxLen at hs
 by_cases h3:s.size<3
 ·have HE:Hid (FB s.data.toList=(.int .u8 0,false)):=by unfold FB;rw[Vb s h3];exact rfl
  have h3':(s.size:Int)<3:=by omega
  go_enter Tryz.func170,Tryz.ntmps170
  go_wp2
  go_ret2
  rw[HE.out]
  exact⟨rfl,Below.refl _ _⟩
 have h3':(3:Int)≤(s.size:Int):=by omega
 obtain⟨t,ht⟩:=alo s (by omega)
 obtain⟨a,ha⟩:∃a,s[0]=a:=⟨_,rfl⟩
 obtain⟨b,hb⟩:∃b,s[1]=b:=⟨_,rfl⟩
 obtain⟨c,hc⟩:∃c,s[2]=c:=⟨_,rfl⟩
 rw[ha,hb,hc]at ht
 have HT:=hid ht
 clear ht
 have hb0:0≤(b.toNat:Int)∧(b.toNat:Int)≤255:=by have:=b.toNat_lt;omega
 have hc0:0≤(c.toNat:Int)∧(c.toNat:Int)≤255:=by have:=c.toNat_lt;omega
 by_cases h37:a=37
 ·subst h37
  have h37':(((37:UInt8).toNat:Int) !=37)=false:=by decide
  obtain⟨hx1,hx2⟩:=vG b
  obtain⟨hy1,hy2⟩:=vG c
  by_cases hx:hex b.toNat<0
  ·have HE:Hid (FB s.data.toList=(.int .u8 0,false)):=by
    unfold FB
    rw[HT.out,esc,if_neg (by intro h;omega)]
    exact rfl
   go_enter Tryz.func170,Tryz.ntmps170
   go_wp2
   go_quiet ((go_at_call 256;exact Calls.quiet_of_same (hexq _ _ (by omega) (by omega))))
   go_wp2
   go_ret2
   rw[HE.out]
   exact⟨rfl,Base.below_drewN (Below.refl _ _) _⟩
  have hx':0≤hex b.toNat:=by omega
  clear hx hx1
  by_cases hy:hex c.toNat<0
  ·have HE:Hid (FB s.data.toList=(.int .u8 0,false)):=by
    unfold FB
    rw[HT.out,esc,if_neg (by intro h;omega)]
    exact rfl
   go_enter Tryz.func170,Tryz.ntmps170
   go_wp2
   go_quiet ((go_at_call 256;exact Calls.quiet_of_same (hexq _ _ (by omega) (by omega))))
   go_wp2
   go_ret2
   rw[HE.out]
   exact⟨rfl,Base.below_drewN (Below.refl _ _) _⟩
  have hy':0≤hex c.toNat:=by omega
  clear hy hy1
  have HE:Hid (FB s.data.toList=(.int .u8 (16*hex b.toNat+hex c.toNat),true)):=by
   unfold FB
   rw[HT.out,esc,if_pos ⟨rfl,hx',hy'⟩]
   show(Value.int .u8 ((UInt8.ofNat (16*hex b.toNat+hex c.toNat).toNat).toNat:Int),true)=_
   rw[u8_of _ (by omega) (by omega)]
  have hor:=or16 _ _ hx' hx2 hy' hy2
  go_enter Tryz.func170,Tryz.ntmps170
  go_wp2
  go_quiet ((go_at_call 256;exact Calls.quiet_of_same (hexq _ _ (by omega) (by omega))))
  go_wp2
  go_ret2
  rw[HE.out]
  exact⟨vS rfl rfl,Base.below_drewN (Below.refl _ _) _⟩
 have HE:Hid (FB s.data.toList=(.int .u8 0,false)):=by
  unfold FB
  rw[HT.out,esc,if_neg (by intro h;exact h37 h.1)]
  exact rfl
 have h37':((a.toNat:Int) !=37)=true:=by
  simp
  intro h
  exact h37 (UInt8.toNat_inj.1 (by simp;omega))
 go_enter Tryz.func170,Tryz.ntmps170
 go_wp2
 go_ret2
 rw[HE.out]
 exact⟨rfl,Below.refl _ _⟩
theorem extract_drop (s:ByteArray) (k:Nat) (_h:k≤s.size):(s.extract k s.size).data.toList=s.data.toList.drop k:=by
 rw[ByteArray.data_extract]
 simp[Array.toList_extract,List.extract_eq_take_drop]
 rw[List.take_of_length_le (by rw[List.length_drop,Array.length_toList];exact Nat.le_refl _)]
theorem decode_any (s:ByteArray) (w:World) (hs:s.size≤1073741824):Calls Tryz.prog 75 #[.string s] w fun e w'=>∃v,e=.returned v∧w'.ownsRow w.heap.size 5 1 v (dec s.data.toList).length (ah (dec s.data.toList))∧Below w.heap.size w w':=by
 obtain⟨i0,hi,hz0,hz1,hz2⟩:=info_parts iR
 have hl:s.data.toList.length=s.size:=Array.length_toList
 have HL:=hid hl
 clear hl
 go_enter Tryz.func75,Tryz.ntmps75
 go_wp2_with (at_make;refine wpList_make_own _ rfl _ _ 45 rfl w.heap.size 5 i0 (.int .u8 0) 1 Tryz.underlying45 hi hz0 hz1 .i64 .i64 _ s.size rfl rfl rfl (by rw[hz2];omega) (by unfold maxLen;omega) (Nat.le_refl _) ?_)
 intro w1 hown1 hg1
 have gW:Below w.heap.size w w1:=(Below.refl _ _).grown hg1 (Nat.le_refl _) (by intro k h;cases h)
 clear hg1
 go_wp2
 go_loopw [3,4] (fun v vk wr=>∃(j:Nat) (X:List UInt8),j≤s.size∧X.length≤j∧vk=.int .i64 j∧wr.ownsRow w.heap.size 5 1 v X.length (ah X)∧Below w.heap.size w wr∧Hid (X++dec (s.data.toList.drop j)=dec s.data.toList)) (fun _ vk _=>s.size - (intOf vk).toNat)
 case atStart=>exact⟨0,[],Nat.zero_le _,Nat.le_refl _,rfl,hown1,gW,rfl⟩
 case round=>
  clear hown1 gW
  obtain⟨j,X,hj,hX,rfl,hown,hbel,HT⟩:=hrel
  by_cases hlt:j<s.size
  ·obtain ⟨x,hx⟩:∃x,s[j]=x:=⟨_,rfl⟩
   have hd:s.data.toList.drop j=x::s.data.toList.drop (j+1):=by
    rw[←hx]
    exact List.drop_eq_getElem_cons (by rw[HL.out];exact hlt)
   have HD:=hid hd
   clear hd
   have HEX:Hid ((s.extract j s.size).data.toList=s.data.toList.drop j):=extract_drop s j hj
   have hsz:(s.extract j s.size).size=s.size - j:=by simp
   have MC:=hid hsz
   clear hsz
   cases GI:esc (s.data.toList.drop j)with
   | none=>
    have HV:Hid (FB (s.extract j s.size).data.toList=(.int .u8 0,false)):=by
     unfold FB
     rw[HEX.out,GI]
     exact rfl
    have HN:Hid (dec (s.data.toList.drop j)=x::dec (s.data.toList.drop (j+1))):=by
     rw[HD.out]at GI⊢
     exact kJ _ _ GI
    clear GI
    go_wp2_with fail
    refine(wM _ _ (by rw[MC.out];unfold maxLen;omega)).mono ?_
    rintro e w2 ⟨rfl,hb2⟩
    rw[HV.out]
    have hown2:=aP hown hb2
    have dZ:=hbel.trans (hb2.mono hbel.size)
    clear hown hbel
    go_wp2_with (at_builtin;refine aQ rfl _ _ 45 rfl w.heap.size 5 i0 (.int .u8 0) 1 Tryz.underlying45 hi hz0 hz1 hz2 rfl _ X.length _ rfl hown2 dZ dZ.size [.int .u8 (x.toNat:Int)] 1 rfl rfl (by intro u hu;simp at hu;subst hu;rfl) (by unfold maxLen;omega) (by omega) ?_)
    intro v' w3 hown3 dG
    clear hown2 dZ
    go_wp2
    go_roundw
    case rel=>exact⟨j+1,X++[x],by omega,by simp;omega,by go_num,by rw[aS,List.length_append];exact hown3,dG,by
      rw[List.append_assoc]
      have:=HT.out
      rw[HN.out]at this
      exact this⟩
    case measure=>simp[intOf];omega
   | some c=>
    have h3:j+3≤s.size:=by
     rcases Nat.lt_or_ge (s.size - j) 3 with h|h
     ·have:=Vb (s.extract j s.size) (by rw[MC.out];exact h)
      rw[HEX.out,GI]at this
      cases this
     omega
    have HV:Hid (FB (s.extract j s.size).data.toList=(.int .u8 (c.toNat:Int),true)):=by
     unfold FB
     rw[HEX.out,GI]
     exact rfl
    have HN:Hid (dec (s.data.toList.drop j)=c::dec (s.data.toList.drop (j+3))):=by
     rw[HD.out]at GI⊢
     rw[oQ _ _ _ GI,List.drop_drop]
     exact rfl
    clear GI
    go_wp2_with fail
    refine(wM _ _ (by rw[MC.out];unfold maxLen;omega)).mono ?_
    rintro e w2 ⟨rfl,hb2⟩
    rw[HV.out]
    have hown2:=aP hown hb2
    have dZ:=hbel.trans (hb2.mono hbel.size)
    clear hown hbel
    go_wp2_with (at_builtin;refine aQ rfl _ _ 45 rfl w.heap.size 5 i0 (.int .u8 0) 1 Tryz.underlying45 hi hz0 hz1 hz2 rfl _ X.length _ rfl hown2 dZ dZ.size [.int .u8 (c.toNat:Int)] 1 rfl rfl (by intro u hu;simp at hu;subst hu;rfl) (by unfold maxLen;omega) (by omega) ?_)
    intro v' w3 hown3 dG
    clear hown2 dZ
    go_wp2
    go_roundw
    case rel=>exact⟨j+3,X++[c],by omega,by simp;omega,by rw[show((j+3:Nat):Int)=(j:Int)+2+1 by omega],by rw[aS,List.length_append];exact hown3,dG,by
      rw[List.append_assoc]
      have:=HT.out
      rw[HN.out]at this
      exact this⟩
    case measure=>simp[intOf];omega
  obtain rfl:j=s.size:=by omega
  have HE:Hid (X=dec s.data.toList):=by
   have e:=HT.out
   rw[←HL.out,List.drop_length,lT,List.append_nil]at e
   exact e
  go_wp2
  go_ret
  exact⟨_,rfl,by rw[←HE.out];exact hown,hbel⟩
end Go.Proofs.YtgamccijegollaaGreatDoor.fU
namespace Go.Proofs.YtgamccijegollaaGreatDoor.acJ
open Go.RowKit Base cO oO wu WU
def FRB:List UInt8:=[0,9,10,13,32,35,47,58,60,62,63,64,91,92,93,94,124]
def U1 (c:UInt8):Bool:=FRB.contains c
def JU (d:Bool) (c:UInt8):Bool:=U1 c||(d&&(decide (c.toNat<32)||(c==127||c==37)))
theorem Vd (c:UInt8):JU false c=U1 c:=by simp[JU]
def okb (d:Bool) (c:UInt8):Bool:= !(JU d c)&&(!d||decide (c.toNat≤126))
def oks (d:Bool) (L:List UInt8):Bool:=L.all (okb d)
def am8 (V:List Nat):List UInt8:=nP.prt fun i=>V.getD i 0
def addr (M:List UInt8):Option (List UInt8):=match six M with
 |none=>none
 |some V=>some (91::(am8 V++[93]))
def hbr (M:List UInt8):Option (List UInt8):=if Lib.hasSuffix M [93]=true then addr (Lib.trimSuffix M [93])else none
def XB (M:List UInt8):Option (List UInt8):=if M=[]then none else if ends M=true then(NR M).map Gl.pr else some M
def SL (L:List UInt8):Option (List UInt8):=if oks true L=true then XB (lower L)else none
def zA (s:List UInt8):Option (List UInt8):=if oks false s=true then some (FM.enc 0 s)else none
def hst (s:List UInt8) (sp:Bool):Option (List UInt8):=if s.head?=some 91 then hbr s.tail else if sp=true then SL (fU.dec s)else zA s
def HV (o:Option (List UInt8)):Value:=match o with
 |none=>.tuple #[.string (strOf []),.bool false]
 |some L=>.tuple #[.string (strOf L),.bool true]
theorem Vh (c:UInt8):decide (0≤Lib.indexByte FRB c)=U1 c:=by
 have H:∀n:Fin 256,decide (0≤Lib.indexByte FRB (UInt8.ofNat n.val))=U1 (UInt8.ofNat n.val):=by decide+kernel
 have:=H ⟨c.toNat,c.toNat_lt⟩
 simpa using this
theorem ahY (c:UInt8):okb false c= !(U1 c):=by simp[okb,JU]
theorem vM (c:UInt8):okb true c=(!(JU true c)&&decide (c.toNat≤126)):=by simp[okb]
theorem okb_low (c:UInt8):okb true (low c)=okb true c:=by
 have H:∀n:Fin 256,okb true (low (UInt8.ofNat n.val))=okb true (UInt8.ofNat n.val):=by decide+kernel
 have:=H ⟨c.toNat,c.toNat_lt⟩
 simpa using this
theorem VF (L:List UInt8):oks true (lower L)=oks true L:=by
 unfold oks lower
 rw[List.all_map]
 congr 1
 funext c
 exact okb_low c
theorem qX (d:Bool) (L:List UInt8) (k:Nat) (h:k<L.length):oks d (L.take (k+1))=(oks d (L.take k)&&okb d L[k]):=by
 unfold oks
 rw[List.take_succ_eq_append_getElem h,List.all_append]
 simp
theorem GU (d:Bool) (L:List UInt8) (k:Nat) (h:k<L.length) (hn:okb d L[k]=false):oks d L=false:=by
 unfold oks
 rw[List.all_eq_false]
 exact⟨L[k],List.getElem_mem h,by rw[hn];exact Bool.false_ne_true⟩
end Go.Proofs.YtgamccijegollaaGreatDoor.acJ
namespace Go.Proofs.YtgamccijegollaaGreatDoor.acA
open Go.RowKit Base cO dI
def xW (L:List UInt8):Bool:=decide (L=[46])||decide (lower L=[37,50,101])
def Bo (L:List UInt8):Bool:=decide (lower L=[46,46])||decide (lower L=[46,37,50,101])||decide (lower L=[37,50,101,46])||decide (lower L=[37,50,101,37,50,101])
def drv (L:List UInt8):Bool:=match L with
 |[a,b]=>letter (a.toNat:Int)&&(decide (b=58)||decide (b=124))
 |_=>false
def nrm (L:List UInt8):Bool:=match L with
 |[a,b]=>letter (a.toNat:Int)&&decide (b=58)
 |_=>false
def JR (L:List UInt8):Bool:=match L with
 |[a,b]=>drv [a,b]
 |a::b::c::_=>drv [a,b]&&(decide (c=47)||decide (c=92)||decide (c=63)||decide (c=35))
 |_=>false
theorem low46 (c:UInt8):low c=46↔c=46:=by
 have H:∀n:Fin 256,low (UInt8.ofNat n.val)=46↔UInt8.ofNat n.val=46:=by decide+kernel
 have:=H ⟨c.toNat,c.toNat_lt⟩
 simpa using this
theorem jg (c:UInt8) (L:List UInt8):lower (c::L)=low c::lower L:=rfl
theorem uD (L:List UInt8):lower L=[46]↔L=[46]:=by
 constructor
 ·intro h
  match L,h with
  |[c],h=>rw[jg]at h;injection h with h _;rw[(low46 c).1 h]
  |_::_::_,h=>simp[lower]at h
  |[],h=>simp[lower]at h
 rintro rfl;rfl
theorem dbl_dot (L:List UInt8):Bo (46::L)=xW L:=by
 have e:low 46=46:=rfl
 unfold Bo xW
 rw[jg,e,Bool.eq_iff_iff]
 simp[←uD L]
theorem U3 (c:UInt8) (L:List UInt8) (hc:c≠46):Bo (c::L)=(decide (3<(c::L).length)&&(xW ((c::L).take 3)&&xW ((c::L).drop 3))):=by
 have hl:low c≠46:=fun h=>hc ((low46 c).1 h)
 match L with
 |[]=>simp[Bo,lower,hl]
 |[_]=>simp[Bo,lower,hl]
 |[_,_]=>simp[Bo,lower,hl]
 |a::b::d::L=>
  unfold Bo xW
  simp only[List.take_succ_cons,List.take_zero,List.drop_succ_cons,List.drop_zero,jg,List.length_cons]
  rw[Bool.eq_iff_iff]
  simp[hl,←uD (d::L),jg,show lower ([]:List UInt8)=[]from rfl]
  constructor
  ·rintro(⟨h1,h2,h3,h4,h5⟩|⟨h1,h2,h3,h4⟩)
   ·exact⟨⟨h1,h2,h3⟩,.inl ⟨h4,h5⟩⟩
   exact⟨⟨h1,h2,h3⟩,.inr h4⟩
  rintro⟨⟨h1,h2,h3⟩,⟨h4,h5⟩|h4⟩
  ·exact .inl ⟨h1,h2,h3,h4,h5⟩
  exact .inr ⟨h1,h2,h3,h4⟩
end Go.Proofs.YtgamccijegollaaGreatDoor.acA
namespace Go.Proofs.YtgamccijegollaaGreatDoor.acL
open Go.RowKit Base Dp cO dI acA
theorem tl (s:ByteArray):s.toList=s.data.toList:=by
 obtain⟨d⟩:=s;rw[ByteArray.toList_mk]
theorem PN (s:ByteArray) (L:List UInt8):(s.toList==L)=decide (s.data.toList=L):=by
 rw[tl,Bool.eq_iff_iff];simp
theorem oz (M L:List UInt8):((strOf M).toList==L)=decide (M=L):=PN (strOf M) L
theorem kE (s:ByteArray) (w:World) (hs:s.size≤maxLen):Calls Tryz.prog 321 #[.string s] w fun e w'=>e=.returned (.bool (xW s.data.toList))∧Below w.heap.size w w':=by
 obtain⟨o,ho⟩:∃o,o=xW s.data.toList:=⟨_,rfl⟩
 rw[←ho]
 by_cases h1:s.data.toList=[46]
 ·have q1:(s.toList==[46])=true:=by rw[PN];exact decide_eq_true h1
  have HO:Hid (o=true):=by show _=_;rw[ho];unfold xW;rw[decide_eq_true h1];rfl
  clear h1 ho
  go_enter Tryz.func321,Tryz.ntmps321
  go_wp2
  go_ret
  exact⟨ak HO.out.symm,Below.refl _ _⟩
 have q1:(s.toList==[46])=false:=by rw[PN];exact decide_eq_false h1
 obtain⟨V,hV⟩:∃V,V=strOf (lower s.data.toList):=⟨_,rfl⟩
 have q2:(V.toList==[37,50,101])=o:=by rw[hV,oz,ho];unfold xW;rw[decide_eq_false h1,Bool.false_or]
 have HV:=hid hV
 have HQ:=hid q2
 clear h1 ho hV q2
 go_enter Tryz.func321,Tryz.ntmps321
 go_wp2_with fail
 refine(cO.gI s _ hs).mono ?_
 rintro e w2 ⟨rfl,hb2⟩
 rw[←HV.out]
 go_wp2
 go_ret
 exact⟨ak HQ.out,hb2⟩
end Go.Proofs.YtgamccijegollaaGreatDoor.acL
namespace Go.Proofs.YtgamccijegollaaGreatDoor.Kr
open Go.RowKit Base Dp cO dI acA acL
theorem u8_eq (c:UInt8) (n:Nat) (hn:n<256):decide (c=UInt8.ofNat n)=decide (c.toNat=n):=by
 refine decide_eq_decide.2 ⟨?_,?_⟩
 ·rintro rfl;simp;omega
 intro h;rw[←h];simp
theorem eq58 (c:UInt8):decide (c=58)=decide (c.toNat=58):=u8_eq c 58 (by omega)
theorem eq124 (c:UInt8):decide (c=124)=decide (c.toNat=124):=u8_eq c 124 (by omega)
theorem LY (s:ByteArray) (h:s.size=2):s.data.toList=[s[0]'(by omega),s[1]'(by omega)]:=by
 refine List.ext_getElem ((show s.data.toList.length=s.size from Array.length_toList).trans h) fun i h1 h2=>?_
 have:i=0∨i=1:=by simp at h2;omega
 rcases this with rfl|rfl<;>rfl
theorem Iz (L:List UInt8) (h:drv L=true):L.length=2:=by
 match L,h with
 |[_,_],_=>rfl
theorem afk (L:List UInt8) (h:L.length≠2):drv L=false:=by
 cases e:drv L with
 |false=>rfl
 |true=>exact absurd (Iz L e) h
theorem afU (L:List UInt8) (h:drv L=false):nrm L=false:=by
 match L,h with
 |[],_=>rfl
 |[_],_=>rfl
 |[a,b],h=>
  simp only[drv,nrm]at h⊢
  cases hl:letter (a.toNat:Int)with
  |false=>rfl
  |true=>
   rw[hl]at h
   simp at h
   simp[h.1]
 |_::_::_::_,_=>rfl
theorem afV (a b:UInt8) (h:drv [a,b]=true):nrm [a,b]=decide (b=58):=by
 simp only[drv,nrm,Bool.and_eq_true]at h⊢
 rw[h.1,Bool.true_and]
theorem kL (s:ByteArray) (w:World):Calls Tryz.prog 277 #[.string s] w fun e w'=>e=.returned (.bool (drv s.data.toList))∧w=w':=by
 obtain⟨o,ho⟩:∃o,o=drv s.data.toList:=⟨_,rfl⟩
 rw[←ho]
 by_cases h2:s.size=2
 ·have h0:0<s.size:=by omega
  have h1:1<s.size:=by omega
  obtain⟨a,ha⟩:∃a,s[0]=a:=⟨_,rfl⟩
  obtain⟨b,hb⟩:∃b,s[1]=b:=⟨_,rfl⟩
  have q1:((s.size:Int)==2)=true:=by simp;omega
  obtain⟨p,hp⟩:∃p,p=letter (a.toNat:Int):=⟨_,rfl⟩
  have HO:Hid (o=(p&&(decide (b.toNat=58)||decide (b.toNat=124)))):=by
   show _=_
   rw[ho,LY s h2,drv,ha,hb,hp,eq58,eq124]
  have HP:=hid hp
  have H2:=hid h2
  clear ho hp h2
  by_cases e1:b.toNat=58
  ·have q2:((b.toNat:Int)==58)=true:=by simp;omega
   have HE:Hid (o=p):=by show _=_;rw[HO.out,decide_eq_true e1];simp
   clear e1
   cases p
   all_goals
    go_enter Tryz.func277,Tryz.ntmps277
    go_wp2_with fail
    refine(dI.dN _ _).mono ?_
    rintro e w2 ⟨rfl,rfl⟩
    rw[←HP.out]
    go_wp2
    go_ret
    exact⟨ak HE.out.symm,rfl⟩
  have q2:((b.toNat:Int)==58)=false:=by simp;omega
  by_cases e2:b.toNat=124
  ·have q3:((b.toNat:Int)==124)=true:=by simp;omega
   have HE:Hid (o=p):=by show _=_;rw[HO.out,decide_eq_true e2];simp
   clear e1 e2
   cases p
   all_goals
    go_enter Tryz.func277,Tryz.ntmps277
    go_wp2_with fail
    refine(dI.dN _ _).mono ?_
    rintro e w2 ⟨rfl,rfl⟩
    rw[←HP.out]
    go_wp2
    go_ret
    exact⟨ak HE.out.symm,rfl⟩
  have q3:((b.toNat:Int)==124)=false:=by simp;omega
  have HE:Hid (o=false):=by show _=_;rw[HO.out,decide_eq_false e1,decide_eq_false e2];simp
  clear e1 e2
  cases p
  all_goals
   go_enter Tryz.func277,Tryz.ntmps277
   go_wp2_with fail
   refine(dI.dN _ _).mono ?_
   rintro e w2 ⟨rfl,rfl⟩
   rw[←HP.out]
   go_wp2
   go_ret
   exact⟨ak HE.out.symm,rfl⟩
 have q1:((s.size:Int)==2)=false:=by simp;omega
 have HE:Hid (o=false):=by show _=_;rw[ho];exact afk _ (by rw[show s.data.toList.length=s.size from Array.length_toList];exact h2)
 clear h2 ho
 go_enter Tryz.func277,Tryz.ntmps277
 go_wp2
 go_ret
 exact⟨ak HE.out.symm,rfl⟩
theorem Ah (s:ByteArray) (w:World):Calls Tryz.prog 216 #[.string s] w fun e w'=>e=.returned (.bool (nrm s.data.toList))∧w=w':=by
 obtain⟨o,ho⟩:∃o,o=nrm s.data.toList:=⟨_,rfl⟩
 rw[←ho]
 obtain⟨d,hd⟩:∃d,d=drv s.data.toList:=⟨_,rfl⟩
 have HD:=hid hd
 cases d with
 |false=>
  have HE:Hid (o=false):=by show _=_;rw[ho];exact afU _ hd.symm
  clear hd ho
  go_enter Tryz.func216,Tryz.ntmps216
  go_wp2_with fail
  refine(kL _ _).mono ?_
  rintro e w2 ⟨rfl,rfl⟩
  rw[←HD.out]
  go_wp2
  go_ret
  exact⟨ak HE.out.symm,rfl⟩
 |true=>
  have h2:s.size=2:=by
   have:=Iz _ hd.symm
   rw[show s.data.toList.length=s.size from Array.length_toList]at this
   exact this
  have h1:1<s.size:=by omega
  obtain⟨b,hb⟩:∃b,s[1]=b:=⟨_,rfl⟩
  have HE:Hid (o=decide (b.toNat=58)):=by
   show _=_
   rw[ho,←eq58]
   rw[LY s h2]at hd⊢
   rw[hb]at hd⊢
   exact afV _ _ hd.symm
  clear hd ho h2
  by_cases e1:b.toNat=58
  ·have q2:((b.toNat:Int)==58)=true:=by simp;omega
   have HF:Hid (o=true):=HE.out.trans (decide_eq_true e1)
   clear e1
   go_enter Tryz.func216,Tryz.ntmps216
   go_wp2_with fail
   refine(kL _ _).mono ?_
   rintro e w2 ⟨rfl,rfl⟩
   rw[←HD.out]
   go_wp2
   go_ret
   exact⟨ak HF.out.symm,rfl⟩
  have q2:((b.toNat:Int)==58)=false:=by simp;omega
  have HF:Hid (o=false):=HE.out.trans (decide_eq_false e1)
  clear e1
  go_enter Tryz.func216,Tryz.ntmps216
  go_wp2_with fail
  refine(kL _ _).mono ?_
  rintro e w2 ⟨rfl,rfl⟩
  rw[←HD.out]
  go_wp2
  go_ret
  exact⟨ak HF.out.symm,rfl⟩
end Go.Proofs.YtgamccijegollaaGreatDoor.Kr
namespace Go.Proofs.YtgamccijegollaaGreatDoor.asR
open Go.RowKit Base Dp cO dI acA acL
theorem ext_size (s:ByteArray) (a b:Nat):(s.extract a b).size≤s.size:=by
 rw[ByteArray.size_extract];omega
theorem nS (s:ByteArray) (w:World) (hs:s.size≤1073741824):Calls Tryz.prog 320 #[.string s] w fun e w'=>e=.returned (.bool (Bo s.data.toList))∧Below w.heap.size w w':=by
 have hl:s.data.toList.length=s.size:=Array.length_toList
 obtain⟨o,ho⟩:∃o,o=Bo s.data.toList:=⟨_,rfl⟩
 rw[←ho]
 obtain⟨P,hP⟩:∃P,P=Lib.hasPrefix s.data.toList [46]:=⟨_,rfl⟩
 have HP:=hid hP
 cases P with
 | true=>
  obtain⟨t,ht⟩:∃t,s.data.toList=46::t:=by
   unfold Lib.hasPrefix at hP
   match h:s.data.toList,hP with
   |c::t,hP=>
    simp at hP
    exact⟨t,by rw[hP]⟩
  have h1:1≤s.size:=by rw[←hl,ht];simp
  obtain⟨X,hX⟩:∃X,X=s.extract 1 s.size:=⟨_,rfl⟩
  have hx:s.extract 1 s.size=X:=hX.symm
  have NQ:X.data.toList=t:=by rw[hX,L6.ext_drop s 1 s.size rfl,ht];rfl
  have hXs:X.size≤maxLen:=by rw[hX];have:=ext_size s 1 s.size;unfold maxLen;omega
  have HE:Hid (o=xW X.data.toList):=by show _=_;rw[ho,ht,dbl_dot,NQ]
  have HXS:=hid hXs
  clear hP ht hX NQ ho hl hXs
  go_enter Tryz.func320,Tryz.ntmps320
  go_wp2_with fail
  refine(Tryz.strings_HasPrefix s ⟨#[46]⟩ _).mono ?_
  rintro e w2 ⟨rfl,rfl⟩
  rw[←HP.out]
  go_wp2_with fail
  refine(kE X _ HXS.out).mono ?_
  rintro e w3 ⟨rfl,hb3⟩
  rw[←HE.out]
  go_wp2
  go_ret
  exact⟨rfl,hb3⟩
 | false=>
  by_cases h4:3<s.size
  ·obtain ⟨X,hX⟩:∃X,X=s.extract 0 3:=⟨_,rfl⟩
   obtain⟨Y,hY⟩:∃Y,Y=s.extract 3 s.size:=⟨_,rfl⟩
   have hx:s.extract 0 3=X:=hX.symm
   have hy:s.extract 3 s.size=Y:=hY.symm
   have HXS:Hid (X.size≤maxLen):=by show _≤_;rw[hX];have:=ext_size s 0 3;unfold maxLen;omega
   have HYS:Hid (Y.size≤maxLen):=by show _≤_;rw[hY];have:=ext_size s 3 s.size;unfold maxLen;omega
   obtain⟨p,hp⟩:∃p,p=xW X.data.toList:=⟨_,rfl⟩
   obtain⟨q,hq⟩:∃q,q=xW Y.data.toList:=⟨_,rfl⟩
   have HE:Hid (o=(p&&q)):=by
    show _=_
    rw[ho,hp,hq,hX,hY,L6.ext_take,L6.ext_drop s 3 s.size rfl]
    show Bo s.data.toList=(xW (s.data.toList.take 3)&&xW (s.data.toList.drop 3))
    match h:s.data.toList,hP with
    |[],_=>rw[h]at hl;simp at hl;omega
    |c::t,hP=>
     have hc:c≠46:=by
      rintro rfl
      simp[Lib.hasPrefix]at hP
     rw[U3 c t hc,decide_eq_true (by rw[←h,hl];exact h4),Bool.true_and]
   have HPP:=hid hp
   have HQQ:=hid hq
   have h4':(3:Int)<(s.size:Int):=by omega
   clear hP hX hY ho hl hp hq
   cases p with
   |true=>
    go_enter Tryz.func320,Tryz.ntmps320
    go_wp2_with fail
    refine(Tryz.strings_HasPrefix s ⟨#[46]⟩ _).mono ?_
    rintro e w2 ⟨rfl,rfl⟩
    rw[←HP.out]
    go_wp2_with fail
    refine(kE X _ HXS.out).mono ?_
    rintro e w3 ⟨rfl,hb3⟩
    rw[←HPP.out]
    go_wp2_with fail
    refine(kE Y _ HYS.out).mono ?_
    rintro e w4 ⟨rfl,hb4⟩
    rw[←HQQ.out]
    have HF:Hid (o=q):=by show _=_;rw[HE.out,Bool.true_and]
    go_wp2
    go_ret
    exact⟨ak HF.out.symm,bel hb3 hb4⟩
   |false=>
    have HF:Hid (o=false):=by show _=_;rw[HE.out,Bool.false_and]
    go_enter Tryz.func320,Tryz.ntmps320
    go_wp2_with fail
    refine(Tryz.strings_HasPrefix s ⟨#[46]⟩ _).mono ?_
    rintro e w2 ⟨rfl,rfl⟩
    rw[←HP.out]
    go_wp2_with fail
    refine(kE X _ HXS.out).mono ?_
    rintro e w3 ⟨rfl,hb3⟩
    rw[←HPP.out]
    go_wp2
    go_ret
    exact⟨ak HF.out.symm,hb3⟩
  have HF:Hid (o=false):=by
   show _=_
   rw[ho]
   match h:s.data.toList,hP with
   |[],_=>rfl
   |c::t,hP=>
    have hc:c≠46:=by
     rintro rfl
     simp[Lib.hasPrefix]at hP
    rw[U3 c t hc,decide_eq_false (by rw[←h,hl];exact h4),Bool.false_and]
  have h4':¬(3:Int)<(s.size:Int):=by omega
  clear hP ho hl
  go_enter Tryz.func320,Tryz.ntmps320
  go_wp2_with fail
  refine(Tryz.strings_HasPrefix s ⟨#[46]⟩ _).mono ?_
  rintro e w2 ⟨rfl,rfl⟩
  rw[←HP.out]
  go_wp2
  go_ret
  exact⟨ak HF.out.symm,Below.refl _ _⟩
end Go.Proofs.YtgamccijegollaaGreatDoor.asR
namespace Go.Proofs.YtgamccijegollaaGreatDoor.aso
open Go.RowKit Base Dp cO dI acA acL Kr
def inq (c:UInt8):Bool:=decide (c=47)||decide (c=92)||decide (c=63)||decide (c=35)
theorem ahL (c:UInt8):0≤Lib.indexByte [47,92,63,35] (c.toNat:Int).toNat.toUInt8↔inq c=true:=by
 have H:∀n:Fin 256,0≤Lib.indexByte [47,92,63,35] ((n.val:Nat):Int).toNat.toUInt8↔inq (UInt8.ofNat n.val)=true:=by decide+kernel
 have:=H ⟨c.toNat,c.toNat_lt⟩
 simpa using this
theorem UQ (L:List UInt8) (h:L.length<2):JR L=false:=by
 match L,h with
 |[],_=>rfl
 |[_],_=>rfl
theorem ae8 (L:List UInt8) (h:L.length=2):JR L=drv (L.take 2):=by
 match L,h with
 |[_,_],_=>rfl
theorem ZR (s:ByteArray) (h:2<s.size):JR s.data.toList=(drv (s.data.toList.take 2)&&inq (s[2])):=by
 have hl:s.data.toList.length=s.size:=Array.length_toList
 have h2:s.data.toList[2]'(by rw[hl];exact h)=s[2]:=rfl
 rw[←h2]
 generalize s.data.toList=L at hl
 match L,hl with
 |[],hl=>simp at hl;omega
 |[_],hl=>simp at hl;omega
 |[_,_],hl=>simp at hl;omega
 |a::b::c::t,_=>rfl
theorem PK (s:ByteArray) (w:World) (hs:s.size≤1073741824):Calls Tryz.prog 217 #[.string s] w fun e w'=>e=.returned (.bool (JR s.data.toList))∧w=w':=by
 have hl:s.data.toList.length=s.size:=Array.length_toList
 obtain⟨o,ho⟩:∃o,o=JR s.data.toList:=⟨_,rfl⟩
 rw[←ho]
 by_cases h2:s.size<2
 ·have HE:Hid (o=false):=by show _=_;rw[ho];exact UQ _ (by rw[hl];exact h2)
  have q1:(s.size:Int)<2:=by omega
  clear ho hl h2
  go_enter Tryz.func217,Tryz.ntmps217
  go_wp2
  go_ret
  exact⟨ak HE.out.symm,rfl⟩
 have q1:¬(s.size:Int)<2:=by omega
 have q2:2≤s.size:=by omega
 obtain⟨X,hX⟩:∃X,X=s.extract 0 2:=⟨_,rfl⟩
 have hx:s.extract 0 2=X:=hX.symm
 have NQ:X.data.toList=s.data.toList.take 2:=by rw[hX,L6.ext_take];rfl
 obtain⟨d,hd⟩:∃d,d=drv X.data.toList:=⟨_,rfl⟩
 have HD:=hid hd
 by_cases h22:s.size=2
 ·have HE:Hid (o=d):=by show _=_;rw[ho,hd,NQ];exact ae8 _ (by rw[hl];exact h22)
  have q3:((s.size:Int)==2)=true:=by simp;omega
  clear ho hl h2 hX NQ hd h22
  cases d
  all_goals
   go_enter Tryz.func217,Tryz.ntmps217
   go_wp2_with fail
   refine(kL _ _).mono ?_
   rintro e w2 ⟨rfl,rfl⟩
   rw[←HD.out]
   go_wp2
   go_ret
   exact⟨ak HE.out.symm,rfl⟩
 have q3:((s.size:Int)==2)=false:=by simp;omega
 have h3:2<s.size:=by omega
 obtain⟨c,hc⟩:∃c,s[2]=c:=⟨_,rfl⟩
 obtain⟨i,hi⟩:∃i,i=inq c:=⟨_,rfl⟩
 have HE:Hid (o=(d&&i)):=by show _=_;rw[ho,hd,NQ,hi,←hc];exact ZR s h3
 have HI:=hid hi
 clear ho hl h2 hX NQ hd h22
 cases d with
 |false=>
  have HF:Hid (o=false):=by show _=_;rw[HE.out,Bool.false_and]
  clear hi
  go_enter Tryz.func217,Tryz.ntmps217
  go_wp2_with fail
  refine(kL _ _).mono ?_
  rintro e w2 ⟨rfl,rfl⟩
  rw[←HD.out]
  go_wp2
  go_ret
  exact⟨ak HF.out.symm,rfl⟩
 | true=>
  have HF:Hid (o=i):=by show _=_;rw[HE.out,Bool.true_and]
  obtain⟨z,hz⟩:∃z,z=Lib.indexByte [47,92,63,35] (c.toNat:Int).toNat.toUInt8:=⟨_,rfl⟩
  have hzi:(0≤z)↔i=true:=by rw[hz,hi];exact ahL c
  have HZ:=hid hz
  clear hi hz
  cases i with
  |true=>
   have q4:=hzi.2 rfl
   clear hzi
   go_enter Tryz.func217,Tryz.ntmps217
   go_wp2_with fail
   refine(kL _ _).mono ?_
   rintro e w2 ⟨rfl,rfl⟩
   rw[←HD.out]
   go_wp2_with fail
   refine(Tryz.strings_IndexByte ⟨#[47,92,63,35]⟩ _ _).mono ?_
   rintro e w3 ⟨rfl,rfl⟩
   rw[show(⟨#[47,92,63,35]⟩:ByteArray).data.toList=[47,92,63,35]from rfl,←HZ.out]
   go_wp2
   go_ret
   exact⟨ak HF.out.symm,rfl⟩
  |false=>
   have q4:z<0:=by
    rcases Int.lt_or_le z 0 with h|h
    ·exact h
    exact absurd (hzi.1 h) (by decide)
   have q5:¬0≤z:=by omega
   clear hzi
   go_enter Tryz.func217,Tryz.ntmps217
   go_wp2_with fail
   refine(kL _ _).mono ?_
   rintro e w2 ⟨rfl,rfl⟩
   rw[←HD.out]
   go_wp2_with fail
   refine(Tryz.strings_IndexByte ⟨#[47,92,63,35]⟩ _ _).mono ?_
   rintro e w3 ⟨rfl,rfl⟩
   rw[show(⟨#[47,92,63,35]⟩:ByteArray).data.toList=[47,92,63,35]from rfl,←HZ.out]
   go_wp2
   go_ret
   exact⟨ak ((decide_eq_false (by omega)).trans HF.out.symm),rfl⟩
end Go.Proofs.YtgamccijegollaaGreatDoor.aso
namespace Go.Proofs.YtgamccijegollaaGreatDoor.acG
open Go.RowKit Base Dp acA acL Kr
def keep (file:Bool):List ByteArray→Bool
 |[]=>true
 |[x]=>file&&nrm x.data.toList
 |_=>false
def mM (file:Bool) (l:List ByteArray):List ByteArray:=if keep file l then l else l.take (l.length - 1)
theorem GN (file:Bool) (l:List ByteArray):(mM file l).length=if keep file l then l.length else l.length - 1:=by
 unfold mM
 split
 ·rfl
 rw[List.length_take];omega
theorem xQ (file:Bool) (A:Option Addr) (n cap:Nat) (l:List ByteArray) (w:World) (hR:aY w A n (l.map Value.string)) (hnc:n≤cap) (hcm:cap≤maxLen):
  Calls Tryz.prog 278 #[.bool file,.slice A n cap] w fun e w'=>e=.returned (.slice A (if keep file l then n else n - 1) cap)∧w=w':=by
 unfold maxLen at hcm
 have hn:l.length=n:=by rw[←hR.1,List.length_map]
 obtain⟨m,hm⟩:∃m,m=if keep file l then n else n - 1:=⟨_,rfl⟩
 rw[←hm]
 match l,hn with
 |[],hn=>
  obtain rfl:n=0:=by simpa using hn.symm
  obtain rfl:m=0:=by rw[hm];rfl
  clear hm hn hR
  go_enter Tryz.func278,Tryz.ntmps278
  go_wp2
  go_ret
  exact⟨rfl,rfl⟩
 | [x],hn=>
  obtain rfl:n=1:=by simpa using hn.symm
  obtain⟨g,off,rfl,hg,hcell⟩:=hR.spot (by omega)
  have hc:=hcell 0 (by simp)
  rw[Nat.add_zero]at hc
  replace hc:w.cell? ⟨g,off,none⟩=some (.string x):=hc
  cases file with
  |false=>
   obtain rfl:m=0:=by rw[hm];rfl
   clear hm hn hR hcell
   go_enter Tryz.func278,Tryz.ntmps278
   go_wp2
   go_ret
   exact⟨rfl,rfl⟩
  |true=>
   obtain⟨b,hb⟩:∃b,b=nrm x.data.toList:=⟨_,rfl⟩
   have HM:Hid (m=if b then 1 else 0):=by
    show _=_
    rw[hm,hb]
    simp[keep]
   have HB:=hid hb
   clear hm hn hR hcell hb
   cases b with
   |true=>
    obtain rfl:m=1:=HM.out
    go_enter Tryz.func278,Tryz.ntmps278
    go_wp2_with fail
    refine(Ah x _).mono ?_
    rintro e w2 ⟨rfl,rfl⟩
    rw[←HB.out]
    go_wp2
    go_ret
    exact⟨rfl,rfl⟩
   |false=>
    obtain rfl:m=0:=HM.out
    go_enter Tryz.func278,Tryz.ntmps278
    go_wp2_with fail
    refine(Ah x _).mono ?_
    rintro e w2 ⟨rfl,rfl⟩
    rw[←HB.out]
    go_wp2
    go_ret
    exact⟨rfl,rfl⟩
 |x::y::r,hn=>
  have h2:2≤n:=by rw[←hn];simp
  have HM:Hid (m=n - 1):=by show _=_;rw[hm];rfl
  have q1:((n:Int)==0)=false:=by simp;omega
  have q2:((n:Int)==1)=false:=by simp;omega
  obtain⟨g,off,rfl,hg,hcell⟩:=hR.spot (by omega)
  have q3:((n:Int) - 1).toNat=m:=by have:=HM.out;omega
  clear hm hn hR hcell
  cases file
  all_goals
   go_enter Tryz.func278,Tryz.ntmps278
   go_wp2
   go_ret
   exact⟨by first|rfl|simp[q3],rfl⟩
end Go.Proofs.YtgamccijegollaaGreatDoor.acG
namespace Go.Proofs.YtgamccijegollaaGreatDoor.WR
open Go.RowKit Base Dp acA acL Kr
def wr (first:Bool) (L:List UInt8):List UInt8:=if first&&drv L then L.take 1++[58]else FM.enc 4 L
theorem sN (first:Bool) (s:ByteArray) (w:World) (hs:s.size≤1073741824):
  Calls Tryz.prog 322 #[.bool first,.string s] w fun e w'=>e=.returned (.string (strOf (wr first s.data.toList)))∧Below w.heap.size w w':=by
 obtain⟨d,hd⟩:∃d,d=drv s.data.toList:=⟨_,rfl⟩
 obtain⟨R,hR⟩:∃R,R=wr first s.data.toList:=⟨_,rfl⟩
 rw[←hR]
 have HD:=hid hd
 cases first with
 | true=>
  cases d with
  |true=>
   have h2:s.size=2:=by
    have:=Iz _ hd.symm
    rw[show s.data.toList.length=s.size from Array.length_toList]at this
    exact this
   obtain⟨X,hX⟩:∃X,X=s.extract 0 1:=⟨_,rfl⟩
   have hx:s.extract 0 1=X:=hX.symm
   have NQ:X=strOf (s.data.toList.take 1):=by rw[hX,L6.ext_take]
   have hRR:R=s.data.toList.take 1++[58]:=by rw[hR];unfold wr;rw[←hd];rfl
   have a1:∀w:World,(Op.stringOp .add X ⟨#[58]⟩).run Tryz.prog w=.ok (.string (strOf R)) w:=fun w=>by
    rw[NQ,hRR]
    exact dL _ ⟨#[58]⟩ w (by rw[o9,List.length_take];show _+1≤_;omega)
   have q1:(1:Int)≤(s.size:Int):=by omega
   have q2:1≤s.size:=by omega
   clear hd hR hX NQ hRR h2
   go_enter Tryz.func322,Tryz.ntmps322
   go_wp2_with fail
   refine(kL s _).mono ?_
   rintro e w2 ⟨rfl,rfl⟩
   rw[←HD.out]
   go_wp2
   go_ret
   exact⟨rfl,Below.refl _ _⟩
  |false=>
   have HRR:Hid (R=FM.enc 4 s.data.toList):=by show _=_;rw[hR];unfold wr;rw[←hd];rfl
   have hcv:=fun(w:World) s=>run_bytes_of_string (P:=Tryz.prog) w 9 45 5 s Tryz.underlying9 Tryz.underlying45 Tryz.underlying5
   clear hd hR
   go_enter Tryz.func322,Tryz.ntmps322
   go_wp2_with fail
   refine(kL s _).mono ?_
   rintro e w2 ⟨rfl,rfl⟩
   rw[←HD.out]
   go_wp2_with fail
   clear hcv
   refine(FM.eF 4 _ _ _ s.data.toList _ (fV s _ w _) hs).mono ?_
   rintro e w3 ⟨rfl,hb3⟩
   rw[←HRR.out]
   go_wp2
   go_ret
   exact⟨rfl,bel (((Below.refl w.heap.size w).alloc (Nat.le_refl _) _).drew) hb3⟩
 |false=>
  have HRR:Hid (R=FM.enc 4 s.data.toList):=by show _=_;rw[hR];rfl
  have hcv:=fun(w:World) s=>run_bytes_of_string (P:=Tryz.prog) w 9 45 5 s Tryz.underlying9 Tryz.underlying45 Tryz.underlying5
  clear hd hR
  go_enter Tryz.func322,Tryz.ntmps322
  go_wp2_with fail
  clear hcv
  refine(FM.eF 4 _ _ _ s.data.toList _ (fV s _ w _) hs).mono ?_
  rintro e w3 ⟨rfl,hb3⟩
  rw[←HRR.out]
  go_wp2
  go_ret
  exact⟨rfl,bel (((Below.refl w.heap.size w).alloc (Nat.le_refl _) _).drew) hb3⟩
end Go.Proofs.YtgamccijegollaaGreatDoor.WR
namespace Go.Proofs.YtgamccijegollaaGreatDoor.acv
open Go.RowKit Base Dp acA acL Kr asR acG WR
theorem pq:(Tryz.prog.info? 9).map (fun i=>(i.zero,i.size,i.bytes))=some (some (.string ByteArray.empty),1,16):=by kernel_rfl
theorem ah1 {w:World} {B:Nat} {e:TypeId} {A:Option Addr} {n cap:Nat} {xs:List Value} (h:w.ownsRow B e 1 (.slice A n cap) n xs) (m:Nat) (hm:m≤n):w.ownsRow B e 1 (.slice A m cap) m (xs.take m):=by
 obtain⟨hl,h⟩:=h
 rw[Nat.mul_one]at hl
 refine⟨by rw[List.length_take];omega,?_⟩
 rcases h with⟨hv,h0⟩|⟨g,cap',cur,hv,hb,hh,hc,hmm,hs,ht⟩
 ·injection hv with h1 h2 h3
  obtain rfl:m=0:=by omega
  exact .inl ⟨by rw[h1,h3],rfl⟩
 injection hv with h1 h2 h3
 subst h3
 refine .inr ⟨g,cap,cur,by rw[h1],hb,hh,by omega,hmm,hs,?_⟩
 rw[Nat.mul_one]at ht⊢
 rw[←ht,List.take_take,Nat.min_eq_left hm]
def Hu (file last:Bool) (l:List ByteArray) (L:List UInt8):List ByteArray:=
 if Bo L then(if last then mM file l++[strOf []]else mM file l)else if xW L then(if last then l++[strOf []]else l)else l++[strOf (wr (file&&l.isEmpty) L)]
def lu (B:Nat) (w:World) (l:List ByteArray) (e:Ending) (w':World):Prop:=∃v,e=.returned v∧w'.ownsRow B 9 1 v l.length (l.map Value.string)∧Below B w w'
theorem abK (file last:Bool) (B:Nat) (v:Value) (l:List ByteArray) (s:ByteArray) (w:World) (hown:w.ownsRow B 9 1 v l.length (l.map Value.string)) (hB:B≤w.heap.size) (hl:l.length≤1000000) (hs:s.size≤1073741824):
  Calls Tryz.prog 300 #[.bool file,.bool last,v,.string s] w (lu B w (Hu file last l s.data.toList)):=by
 obtain⟨i0,hi,hz0,hz1,hz2⟩:=info_parts pq
 obtain⟨A,cap,rfl,hnc,hcm,hR⟩:=aJ hown
 obtain⟨n,hn⟩:∃n,n=l.length:=⟨_,rfl⟩
 rw[←hn]at hown hl hnc hR⊢
 obtain⟨S,hS⟩:∃S,S=Hu file last l s.data.toList:=⟨_,rfl⟩
 rw[←hS]
 have HN:=hid hn
 obtain⟨d,hd⟩:∃d,d=Bo s.data.toList:=⟨_,rfl⟩
 have HD:=hid hd
 cases d with
 |true=>
  obtain⟨m,hm⟩:∃m,m=if keep file l then n else n - 1:=⟨_,rfl⟩
  have hmn:m≤n:=by rw[hm];split<;>omega
  have aaz:mM file l=l.take m:=by
   unfold mM
   rw[hm]
   split
   ·rw[List.take_of_length_le (by omega)]
   ·rw[hn]
  have hlt:(l.take m).length=m:=by rw[List.length_take];omega
  have hown2:=ah1 hown m hmn
  rw[←List.map_take]at hown2
  have HOWN2:=hid hown2
  have HR:=hid hR
  have HM:=hid hm
  have sQ:=hid hlt
  have HSH:=hid aaz
  cases last with
  |false=>
   have F9:Hid (S=l.take m):=by show _=_;rw[hS];unfold Hu;rw[←hd,if_pos rfl,if_neg (by decide),aaz]
   clear hown hown2 hR hm aaz hS hd hn hlt
   go_enter Tryz.func300,Tryz.ntmps300
   go_wp2_with fail
   refine(nS s _ hs).mono ?_
   rintro e w2 ⟨rfl,hb2⟩
   rw[←HD.out]
   go_wp2_with fail
   refine(xQ file A n cap l _ (HR.out.below hb2) hnc hcm).mono ?_
   rintro e w3 ⟨rfl,rfl⟩
   rw[←HM.out]
   have HX:Hid (lu B w S (.returned (.slice A m cap)) w2):=⟨_,rfl,by rw[F9.out,sQ.out];exact aP HOWN2.out hb2,hb2.mono hB⟩
   go_wp2
   go_ret
   exact HX
  |true=>
   have F9:Hid (S=l.take m++[strOf []]):=by show _=_;rw[hS];unfold Hu;rw[←hd,if_pos rfl,if_pos rfl,aaz]
   clear hown hown2 hR hm aaz hS hd hn hlt
   go_enter Tryz.func300,Tryz.ntmps300
   go_wp2_with fail
   refine(nS s _ hs).mono ?_
   rintro e w2 ⟨rfl,hb2⟩
   rw[←HD.out]
   go_wp2_with fail
   refine(xQ file A n cap l _ (HR.out.below hb2) hnc hcm).mono ?_
   rintro e w3 ⟨rfl,rfl⟩
   rw[←HM.out]
   have hown3:=aP HOWN2.out hb2
   have hbel:Below B w w2:=hb2.mono hB
   have hB2:B≤w2.heap.size:=Nat.le_trans hB hb2.size
   go_wp2_with (at_builtin;refine aQ rfl _ _ 23 rfl B 9 i0 (.string ByteArray.empty) 16 Tryz.underlying23 hi hz0 hz1 hz2 rfl _ m _ rfl hown3 hbel hB2 [.string (strOf [])] 1 rfl rfl (by intro u hu;simp at hu;subst hu;rfl) (by unfold maxLen;omega) (by omega) ?_)
   intro v4 w4 hown4 rQ
   have HX:Hid (lu B w S (.returned v4) w4):=⟨_,rfl,by rw[F9.out,List.length_append,List.map_append,sQ.out,List.map_take];exact hown4,rQ⟩
   clear hown3 hown4 hbel
   go_wp2
   go_ret
   exact HX
 | false=>
  obtain⟨g,hg⟩:∃g,g=xW s.data.toList:=⟨_,rfl⟩
  have HG:=hid hg
  have hsm:s.size≤maxLen:=by unfold maxLen;omega
  have JO:=hid hsm
  have HOWN:=hid hown
  cases g with
  |true=>
   cases last with
   |false=>
    have F9:Hid (S=l):=by show _=_;rw[hS];unfold Hu;rw[←hd,if_neg (by decide),←hg,if_pos rfl,if_neg (by decide)]
    clear hown hR hS hd hg hn hsm
    go_enter Tryz.func300,Tryz.ntmps300
    go_wp2_with fail
    refine(nS s _ hs).mono ?_
    rintro e w2 ⟨rfl,hb2⟩
    rw[←HD.out]
    go_wp2_with fail
    refine(kE s _ JO.out).mono ?_
    rintro e w3 ⟨rfl,hb3⟩
    rw[←HG.out]
    have HX:Hid (lu B w S (.returned (.slice A n cap)) w3):=⟨_,rfl,by rw[F9.out,←HN.out];exact aP (aP HOWN.out hb2) hb3,(bel hb2 hb3).mono hB⟩
    go_wp2
    go_ret
    exact HX
   |true=>
    have F9:Hid (S=l++[strOf []]):=by show _=_;rw[hS];unfold Hu;rw[←hd,if_neg (by decide),←hg,if_pos rfl,if_pos rfl]
    clear hown hR hS hd hg hn hsm
    go_enter Tryz.func300,Tryz.ntmps300
    go_wp2_with fail
    refine(nS s _ hs).mono ?_
    rintro e w2 ⟨rfl,hb2⟩
    rw[←HD.out]
    go_wp2_with fail
    refine(kE s _ JO.out).mono ?_
    rintro e w3 ⟨rfl,hb3⟩
    rw[←HG.out]
    have hown3:=aP (aP HOWN.out hb2) hb3
    have hbel:Below B w w3:=(bel hb2 hb3).mono hB
    have hB2:B≤w3.heap.size:=Nat.le_trans hB (Nat.le_trans hb2.size hb3.size)
    go_wp2_with (at_builtin;refine aQ rfl _ _ 23 rfl B 9 i0 (.string ByteArray.empty) 16 Tryz.underlying23 hi hz0 hz1 hz2 rfl _ n _ rfl hown3 hbel hB2 [.string (strOf [])] 1 rfl rfl (by intro u hu;simp at hu;subst hu;rfl) (by unfold maxLen;omega) (by omega) ?_)
    intro v4 w4 hown4 rQ
    have HX:Hid (lu B w S (.returned v4) w4):=⟨_,rfl,by rw[F9.out,List.length_append,List.map_append,←HN.out];exact hown4,rQ⟩
    clear hown3 hown4 hbel
    go_wp2
    go_ret
    exact HX
  | false=>
   obtain⟨f,hf⟩:∃f,f=(file&&l.isEmpty):=⟨_,rfl⟩
   obtain⟨R,hR2⟩:∃R,R=strOf (wr f s.data.toList):=⟨_,rfl⟩
   have F9:Hid (S=l++[R]):=by show _=_;rw[hS];unfold Hu;rw[←hd,if_neg (by decide),←hg,if_neg (by decide),←hf,hR2]
   have HR2:=hid hR2
   have hcase:(file=false∧f=false)∨(file=true∧n=0∧f=true)∨(file=true∧n≠0∧f=false):=by
    cases file with
    |false=>exact .inl ⟨rfl,by rw[hf];rfl⟩
    |true=>
     match l,hn with
     |[],hn=>exact .inr (.inl ⟨rfl,by simpa using hn,by rw[hf];rfl⟩)
     |_::_,hn=>exact .inr (.inr ⟨rfl,by simp at hn;omega,by rw[hf];rfl⟩)
   clear hown hR hS hd hg hn hsm hf hR2
   rcases hcase with⟨rfl,rfl⟩|⟨rfl,h0,rfl⟩|⟨rfl,h0,rfl⟩
   ·go_enter Tryz.func300,Tryz.ntmps300
    go_wp2_with fail
    refine(nS s _ hs).mono ?_
    rintro e w2 ⟨rfl,hb2⟩
    rw[←HD.out]
    go_wp2_with fail
    refine(kE s _ JO.out).mono ?_
    rintro e w3 ⟨rfl,hb3⟩
    rw[←HG.out]
    go_wp2_with fail
    refine(sN _ s _ hs).mono ?_
    rintro e w5 ⟨rfl,hb5⟩
    rw[←HR2.out]
    have hown3:=aP (aP (aP HOWN.out hb2) hb3) hb5
    have hbel:Below B w w5:=(bel (bel hb2 hb3) hb5).mono hB
    have hB2:B≤w5.heap.size:=Nat.le_trans hB (Nat.le_trans hb2.size (Nat.le_trans hb3.size hb5.size))
    go_wp2_with (at_builtin;refine aQ rfl _ _ 23 rfl B 9 i0 (.string ByteArray.empty) 16 Tryz.underlying23 hi hz0 hz1 hz2 rfl _ n _ rfl hown3 hbel hB2 [.string R] 1 rfl rfl (by intro u hu;simp at hu;subst hu;rfl) (by unfold maxLen;omega) (by omega) ?_)
    intro v4 w4 hown4 rQ
    have HX:Hid (lu B w S (.returned v4) w4):=⟨_,rfl,by rw[F9.out,List.length_append,List.map_append,←HN.out];exact hown4,rQ⟩
    clear hown3 hown4 hbel
    go_wp2
    go_ret
    exact HX
   ·have q0:((n:Int)==0)=true:=by simp;omega
    have Uz:=hid h0
    clear h0
    go_enter Tryz.func300,Tryz.ntmps300
    go_wp2_with fail
    refine(nS s _ hs).mono ?_
    rintro e w2 ⟨rfl,hb2⟩
    rw[←HD.out]
    go_wp2_with fail
    refine(kE s _ JO.out).mono ?_
    rintro e w3 ⟨rfl,hb3⟩
    rw[←HG.out]
    go_wp2_with fail
    refine(sN _ s _ hs).mono ?_
    rintro e w5 ⟨rfl,hb5⟩
    rw[←HR2.out]
    have hown3:=aP (aP (aP HOWN.out hb2) hb3) hb5
    have hbel:Below B w w5:=(bel (bel hb2 hb3) hb5).mono hB
    have hB2:B≤w5.heap.size:=Nat.le_trans hB (Nat.le_trans hb2.size (Nat.le_trans hb3.size hb5.size))
    go_wp2_with (at_builtin;refine aQ rfl _ _ 23 rfl B 9 i0 (.string ByteArray.empty) 16 Tryz.underlying23 hi hz0 hz1 hz2 rfl _ n _ rfl hown3 hbel hB2 [.string R] 1 rfl rfl (by intro u hu;simp at hu;subst hu;rfl) (by unfold maxLen;omega) (by omega) ?_)
    intro v4 w4 hown4 rQ
    have HX:Hid (lu B w S (.returned v4) w4):=⟨_,rfl,by rw[F9.out,List.length_append,List.map_append,←HN.out];exact hown4,rQ⟩
    clear hown3 hown4 hbel
    go_wp2
    go_ret
    exact HX
   ·have q0:((n:Int)==0)=false:=by simp;omega
    clear h0
    go_enter Tryz.func300,Tryz.ntmps300
    go_wp2_with fail
    refine(nS s _ hs).mono ?_
    rintro e w2 ⟨rfl,hb2⟩
    rw[←HD.out]
    go_wp2_with fail
    refine(kE s _ JO.out).mono ?_
    rintro e w3 ⟨rfl,hb3⟩
    rw[←HG.out]
    go_wp2_with fail
    refine(sN _ s _ hs).mono ?_
    rintro e w5 ⟨rfl,hb5⟩
    rw[←HR2.out]
    have hown3:=aP (aP (aP HOWN.out hb2) hb3) hb5
    have hbel:Below B w w5:=(bel (bel hb2 hb3) hb5).mono hB
    have hB2:B≤w5.heap.size:=Nat.le_trans hB (Nat.le_trans hb2.size (Nat.le_trans hb3.size hb5.size))
    go_wp2_with (at_builtin;refine aQ rfl _ _ 23 rfl B 9 i0 (.string ByteArray.empty) 16 Tryz.underlying23 hi hz0 hz1 hz2 rfl _ n _ rfl hown3 hbel hB2 [.string R] 1 rfl rfl (by intro u hu;simp at hu;subst hu;rfl) (by unfold maxLen;omega) (by omega) ?_)
    intro v4 w4 hown4 rQ
    have HX:Hid (lu B w S (.returned v4) w4):=⟨_,rfl,by rw[F9.out,List.length_append,List.map_append,←HN.out];exact hown4,rQ⟩
    clear hown3 hown4 hbel
    go_wp2
    go_ret
    exact HX
end Go.Proofs.YtgamccijegollaaGreatDoor.acv
namespace Go.Proofs.YtgamccijegollaaGreatDoor.ac2
open Go.RowKit Base Dp acj acG acv
theorem JE (l:List ByteArray):∀u ∈ l.map Value.string,u.oneCell'=true:=by
 intro u hu
 simp only[List.mem_map]at hu
 obtain⟨s,_,rfl⟩:=hu
 rfl
theorem zS (A:Option Addr) (n cap:Nat) (l:List ByteArray) (w:World) (h:aY w A n (l.map Value.string)) (hm:n≤1000000):
  Calls Tryz.prog 229 #[.slice A n cap] w (lu w.heap.size w l):=by
 have hl:l.length=n:=by rw[←h.1,List.length_map]
 have HH:=hid h
 clear h
 obtain⟨i0,hi,hz0,hz1,hz2⟩:=info_parts pq
 have hnil:=fun(W:World)=>Lib.run_eql_slice_nil (P:=Tryz.prog) W 23 9 A n cap 0 0 Tryz.underlying23
 cases A with
 | none=>
  have h0:n=0:=by
   rcases Nat.eq_zero_or_pos n with h0|h0
   ·exact h0
   ·obtain⟨_,_,e,_⟩:=HH.out.spot h0
    cases e
  subst h0
  obtain rfl:l=[]:=List.eq_nil_of_length_eq_zero hl
  have HX:Hid (lu w.heap.size w [] (.returned (.slice none 0 0)) w):=⟨_,rfl,World.ownsRow_nil _ _ _ _,Below.refl _ _⟩
  clear hl
  go_enter Tryz.func229,Tryz.ntmps229
  go_wp2
  go_ret
  exact HX
 |some ad=>
  have hownA:(w.alloc (.cells #[] 9)).ownsRow w.heap.size 9 1 (.slice (some ⟨w.heap.size,0,none⟩) 0 0) 0 []:=World.ownsRow_made w #[] 0 (Nat.le_refl _) (by decide) rfl
  have jm:Below w.heap.size w (w.alloc (.cells #[] 9)):=(Below.refl _ _).alloc (Nat.le_refl _) _
  have Zf:Hid (aY (w.alloc (.cells #[] 9)) (some ad) n (l.map Value.string)):=HH.out.below jm
  have HL:=hid hl
  clear hl
  go_enter Tryz.func229,Tryz.ntmps229
  go_wp2_with (at_builtin;refine dH rfl _ _ 23 rfl w.heap.size 9 i0 (.string ByteArray.empty) 16 Tryz.underlying23 hi hz0 hz1 hz2 rfl _ 0 [] rfl hownA jm jm.size (some ad) n cap (l.map Value.string) rfl Zf.out (JE _) (by unfold maxLen;omega) (by omega) ?_)
  intro v3 w3 hown3 dG
  have HX:Hid (lu w.heap.size w l (.returned v3) w3):=⟨_,rfl,by rw[HL.out];simpa using hown3,dG⟩
  clear hownA jm Zf hown3
  go_wp2
  go_ret
  exact HX
theorem agi {w:World} {A:Option Addr} {n:Nat} {l:List ByteArray} (file:Bool) (hR:aY w A n (l.map Value.string)):aY w A (if keep file l then n else n - 1) ((mM file l).map Value.string):=by
 have hl:l.length=n:=by rw[←hR.1,List.length_map]
 unfold mM
 cases e:keep file l with
 |true=>simpa using hR
 |false=>
  rcases Nat.eq_zero_or_pos n with h0|h0
  ·obtain rfl:l=[]:=List.eq_nil_of_length_eq_zero (by omega)
   cases e
  obtain⟨g,off,rfl,_⟩:=hR.spot h0
  have:=hR.upto (n - 1) (by omega)
  rw[if_neg (by decide),if_neg (by decide),List.map_take,hl]
  exact this
theorem Ed (file:Bool) (A:Option Addr) (n cap:Nat) (l:List ByteArray) (w:World) (hR:aY w A n (l.map Value.string)) (hnc:n≤cap) (hcm:cap≤maxLen) (hm:n≤1000000):
  Calls Tryz.prog 219 #[.bool file,.slice A n cap] w (lu w.heap.size w (mM file l)):=by
 have HS:=hid (agi file hR)
 have HR:=hid hR
 obtain⟨m,hmm⟩:∃m,m=if keep file l then n else n - 1:=⟨_,rfl⟩
 have hmn:m≤1000000:=by rw[hmm];split<;>omega
 have HM:=hid hmm
 clear hR hmm
 go_enter Tryz.func219,Tryz.ntmps219
 go_wp2_with fail
 refine(xQ file A n cap l _ HR.out hnc hcm).mono ?_
 rintro e w2 ⟨rfl,rfl⟩
 rw[←HM.out]
 go_wp2_with fail
 refine(zS A m cap (mM file l) _ (by rw[HM.out];exact HS.out) hmn).mono ?_
 rintro e w3 ⟨v,rfl,hown,hb3⟩
 have HX:Hid (lu w.heap.size w (mM file l) (.returned v) w3):=⟨v,rfl,hown,hb3⟩
 clear hown
 go_wp2
 go_ret
 exact HX
end Go.Proofs.YtgamccijegollaaGreatDoor.ac2
namespace Go.Proofs.YtgamccijegollaaGreatDoor.acD
open Go.RowKit Base Dp acA Kr acG WR acv
def gB (sp:Bool) (c:UInt8):Bool:=decide (c=47)||(sp&&decide (c=92))
def upto (sp:Bool):List UInt8→Nat
 |[]=>0
 |c::L=>if gB sp c=true then 0 else upto sp L+1
theorem YH (sp:Bool):∀L:List UInt8,upto sp L≤L.length
 |[]=>Nat.le_refl _
 |c::L=>by
  have:=YH sp L
  unfold upto
  split
  ·omega
  ·simp;omega
def chs (sp:Bool):List UInt8:=if sp then[47,92]else[47]
theorem afd (sp:Bool) (c:UInt8):(chs sp).contains c=gB sp c:=by
 rw[Bool.eq_iff_iff]
 cases sp<;>simp[chs,gB]
theorem Vq (sp:Bool):∀L:List UInt8,Lib.indexAny L (chs sp)=if upto sp L<L.length then(upto sp L:Int)else -1
 |[]=>by simp[Lib.indexAny]
 | c :: L => by
  have ih:=Vq sp L
  rw[Lib.indexAny,afd,ih,upto]
  cases h:gB sp c with
  |true=>simp
  |false=>
   simp only[Bool.false_eq_true,if_false]
   by_cases h2:upto sp L<L.length
   ·have h3:((upto sp L:Int)== -1)=false:=by rw[beq_eq_false_iff_ne];omega
    have h4:upto sp L+1<(c::L).length:=by simp;omega
    simp only[if_pos h2,h3,h4,Bool.false_eq_true,if_false,if_true]
    omega
   ·have h4:¬upto sp L+1<(c::L).length:=by simp;omega
    simp only[if_neg h2,if_neg h4]
    rfl
def wb (file sp:Bool):List ByteArray→List UInt8→List UInt8→List ByteArray
 |l,b,[]=>Hu file true l b
 |l,b,c::M=>if gB sp c=true then wb file sp (Hu file false l b) [] M else wb file sp l (b++[c]) M
theorem agC (file sp:Bool):∀(M:List UInt8) (l:List ByteArray) (b:List UInt8),¬upto sp M<M.length→wb file sp l b M=Hu file true l (b++M)
 |[],l,b,_=>by rw[List.append_nil];rfl
 |c::M,l,b,h=>by
  unfold upto at h
  cases hs:gB sp c with
  |true=>rw[hs]at h;simp at h
  |false=>
   rw[hs,if_neg (by decide)]at h
   rw[wb,hs,if_neg (by decide),agC file sp M l (b++[c]) (by simp at h;omega),List.append_assoc]
   rfl
theorem agD (file sp:Bool):∀(M:List UInt8) (l:List ByteArray) (b:List UInt8),upto sp M<M.length→wb file sp l b M=wb file sp (Hu file false l (b++M.take (upto sp M))) [] (M.drop (upto sp M+1))
 |[],l,b,h=>by simp[upto]at h
 |c::M,l,b,h=>by
  unfold upto at h
  cases hs:gB sp c with
  |true=>
   rw[wb,hs,if_pos rfl,upto,hs,if_pos rfl]
   simp
  |false=>
   rw[hs,if_neg (by decide)]at h
   rw[wb,hs,if_neg (by decide),agD file sp M l (b++[c]) (by simp at h;omega),List.append_assoc,upto,hs,if_neg (by decide)]
   rfl
theorem vI (file last:Bool) (l:List ByteArray) (L:List UInt8):(Hu file last l L).length≤l.length+1:=by
 have h:(mM file l).length≤l.length:=by rw[GN];split<;>omega
 unfold Hu
 repeat' split
 all_goals simp
 all_goals omega
end Go.Proofs.YtgamccijegollaaGreatDoor.acD
namespace Go.Proofs.YtgamccijegollaaGreatDoor.aZ
open Go.RowKit Base
def aO (l:List ByteArray):List UInt8:=l.flatMap fun s=>47::s.data.toList
def pF (b6:Bool) (s7:ByteArray) (l:List ByteArray):List UInt8:=if b6 then s7.data.toList else aO l
def lD (s1 s2:ByteArray):List UInt8:=if s2.data.toList=[]then(if s1.data.toList=[]then[]else s1.data.toList++[64])else s1.data.toList++[58]++s2.data.toList++[64]
def kK (z5:Int):List UInt8:=if z5= -1 then[]else 58::Lib.itoa z5
def dotted (b6:Bool) (l:List ByteArray):Bool:= !b6&&match l with
 |a::_::_=>decide (a.data.toList=[])
 |_=>false
def ug (s1 s2 s3:ByteArray) (b4:Bool) (z5:Int) (b6:Bool) (l:List ByteArray):List UInt8:=
 if b4 then[47,47]++lD s1 s2++s3.data.toList++kK z5 else if dotted b6 l then[47,46]else[]
def wH (s0 s1 s2 s3:ByteArray) (b4:Bool) (z5:Int) (b6:Bool) (s7:ByteArray) (l:List ByteArray) (b9:Bool) (s11:ByteArray):List UInt8:=
 s0.data.toList++[58]++ug s1 s2 s3 b4 z5 b6 l++pF b6 s7 l++(if b9 then 63::s11.data.toList else[])
def Ar (s0 s1 s2 s3:ByteArray) (b4:Bool) (z5:Int) (b6:Bool) (s7:ByteArray) (l:List ByteArray) (b9 b10:Bool) (s11 s12:ByteArray):List UInt8:=
 wH s0 s1 s2 s3 b4 z5 b6 s7 l b9 s11++(if b10 then 35::s12.data.toList else[])
def adw (s0 s1 s2 s3 s7 s11 s12:ByteArray) (l:List ByteArray):Nat:=s0.size+s1.size+s2.size+s3.size+s7.size+s11.size+s12.size+(l.map (·.size)).sum
theorem abf (l:List ByteArray) (s:ByteArray):aO (l++[s])=aO l++(47::s.data.toList):=by simp[aO]
theorem fM (l:List ByteArray):(aO l).length=l.length+(l.map (·.size)).sum:=by
 induction l with
 |nil=>rfl
 |cons a l ih=>
  have e:aO (a::l)=(47::a.data.toList)++aO l:=rfl
  rw[e,List.length_append,ih]
  simp only[List.length_cons,List.map_cons,List.sum_cons]
  rw[show a.data.toList.length=a.size from Array.length_toList]
  omega
theorem take_snoc (l:List ByteArray) (k:Nat) (h:k<l.length):l.take (k+1)=l.take k++[l[k]]:=by
 rw[List.take_succ_eq_append_getElem h]
theorem pK (l:List ByteArray) (k:Nat):((l.take k).map (·.size)).sum≤(l.map (·.size)).sum:=by
 have h:l.map (·.size)=(l.take k).map (·.size)++(l.drop k).map (·.size):=by rw[←List.map_append,List.take_append_drop]
 rw[h,List.sum_append]
 omega
theorem AV (l:List ByteArray) (k:Nat) (h:k<l.length):((l.take (k+1)).map (·.size)).sum=((l.take k).map (·.size)).sum+l[k].size:=by
 rw[take_snoc l k h,List.map_append,List.sum_append]
 simp
theorem ext_str {a b:ByteArray} (h:a.data.toList=b.data.toList):a=b:=by
 cases a;cases b;simp at h;subst h;rfl
theorem tl (s:ByteArray):s.toList=s.data.toList:=by
 obtain⟨d⟩:=s;rw[ByteArray.toList_mk]
theorem wK (a b:ByteArray):(a.toList==b.toList)=decide (a.data.toList=b.data.toList):=by
 rw[tl,tl,Bool.eq_iff_iff];simp
end Go.Proofs.YtgamccijegollaaGreatDoor.aZ
