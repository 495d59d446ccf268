/- Texts that belong together: B64U, Nw, zD, EscE, fU, oO. -/
import Derived.Test.YtmpeaoacaecgpaaGreatDoorXAD
import Derived.Test.YtmpeaoacaecgpaaGreatDoorXAA
import Derived.Test.YtmpeaoacaecgpaaGreatDoorShelf
import Derived.Laws.IdiomStrings
import Derived.Deep.QuietTactic
import Derived.BigQuiet
import Derived.Lib.SplitLaws
import Derived.Lib.LastIndexByte
set_option linter.unusedSimpArgs false
set_option linter.unusedVariables false
set_option maxRecDepth 100000
set_option maxHeartbeats 64000000
namespace Go.Proofs.YtmpeaoacaecgpaaGreatDoor.B64U
open Go.RowKit Base Base2 BZ
theorem strip_nil:strip []=[]:=rfl
theorem LW (L:List UInt8) (c:UInt8) (hc:L.getLast?=some c) (e:c=61):strip L=L.take (L.length - 1):=by
 unfold strip
 rw[if_pos (by rw[hc,e]),List.dropLast_eq_take]
theorem JD (L:List UInt8) (c:UInt8) (hc:L.getLast?=some c) (e:c≠61):strip L=L:=by
 unfold strip
 rw[if_neg (by rw[hc];simpa using e)]
theorem aiT (A:Option Addr) (n cap:Nat) (L:List UInt8) (w:World) (h:aY w A n (ah L)) (hc:n≤cap) (hm:n≤1073741824):
  Calls Tryz.prog 173 #[.slice A n cap] w fun e w'=>e=.returned (.slice A (oH L).length cap)∧aY w A (oH L).length (ah (oH L))∧Below w.heap.size w w':=by
 have hl:L.length=n:=by rw[←aI];exact h.1
 have HL:=hid hl
 have HH:=hid h
 clear h hl
 by_cases h4:n%4=0
 ·have HU:Hid (oH L=strip (strip L)):=by
   show oH L=_
   unfold oH
   rw[if_pos (by rw[HL.out];exact h4)]
  have h4':((n:Int).tmod 4)=0:=by rw[Int.tmod_eq_emod_of_nonneg (by omega)];omega
  have h4'':(n:Int)%4=0:=by omega
  go_enter Tryz.func173,Tryz.ntmps173
  go_wp2
  go_loopw [0,8] (fun v vk wr=>∃(k m:Nat) (M:List UInt8),k≤2∧vk=.int .i64 k∧v=.slice A m cap∧m≤n∧Hid (aY w A m (ah M))∧Hid ((k=0∧M=L)∨(k=1∧M=strip L)∨(k=2∧M=strip (strip L)))∧Below w.heap.size w wr) (fun _ vk _=>2 - (intOf vk).toNat)
  case atStart=>exact⟨0,n,L,by omega,rfl,rfl,Nat.le_refl _,HH,Or.inl ⟨rfl,rfl⟩,Below.refl _ _⟩
  case round=>
   obtain⟨k,m,M,hk,rfl,rfl,hmn,HM,HC,hbel⟩:=hrel
   have hml:M.length=m:=by rw[←aI];exact HM.out.1
   by_cases hlt:k<2
   ·by_cases hm0:0<m
    ·obtain ⟨b,off,rfl,hb,_⟩:=(HM.out).spot hm0
     obtain⟨c,hx⟩:∃c,c=M[m - 1]'(by omega):=⟨_,rfl⟩
     have hcell:wr.cell? ⟨b,off+(m - 1),none⟩=some (.int .u8 (c.toNat:Int)):=by
      rw[hx,←HM.out.byte (m - 1) (by omega)]
      exact hbel.cell (p:=⟨b,off+(m - 1),none⟩) hb
     have hidx:((m:Int) - 1)=((m - 1:Nat):Int):=by omega
     have hidx2:((m:Int) - 1).toNat=m - 1:=by omega
     have HX:Hid (M.getLast?=some c):=by
      show M.getLast?=some c
      rw[hx,List.getLast?_eq_getElem?,List.getElem?_eq_getElem (by omega)]
      congr 2
      omega
     have HML:=hid hml
     clear hx hml
     by_cases h61:(c.toNat:Int)=61
     ·have HS:Hid (strip M=M.take (m - 1)):=by
       have:=LW M c HX.out (UInt8.toNat_inj.1 (by simpa using Int.ofNat_inj.1 h61))
       rw[HML.out]at this
       exact this
      go_wp2
      go_roundw
      case rel=>exact⟨k+1,m - 1,M.take (m - 1),by omega,by go_num,by simp<;>omega,by omega,by rw[lC];exact HM.out.upto (m - 1) (by omega),by
       show _∨_
       rw[←HS.out]
       rcases HC.out with⟨rfl,rfl⟩|⟨rfl,rfl⟩|⟨rfl,rfl⟩
       ·exact Or.inr (Or.inl ⟨rfl,rfl⟩)
       ·exact Or.inr (Or.inr ⟨rfl,rfl⟩)
       ·omega,hbel⟩
      case measure=>simp[intOf];omega
     ·have HS:Hid (strip M=M):=JD M c HX.out (fun e=>h61 (by rw[e];rfl))
      go_wp2
      go_roundw
      case rel=>exact⟨k+1,m,M,by omega,by go_num,rfl,by omega,HM,by
       show _∨_
       rcases HC.out with⟨rfl,rfl⟩|⟨rfl,rfl⟩|⟨rfl,rfl⟩
       ·exact Or.inr (Or.inl ⟨rfl,HS.out.symm⟩)
       ·refine Or.inr (Or.inr ⟨rfl,?_⟩)
        rw[HS.out]
       ·omega,hbel⟩
      case measure=>simp[intOf];omega
    ·obtain rfl:m=0:=by omega
     have HS:Hid (strip M=M):=by
      rw[List.eq_nil_of_length_eq_zero hml]
      exact strip_nil
     clear hml
     go_wp2
     go_roundw
     case rel=>exact⟨k+1,0,M,by omega,by go_num,rfl,by omega,HM,by
      show _∨_
      rcases HC.out with⟨rfl,rfl⟩|⟨rfl,rfl⟩|⟨rfl,rfl⟩
      ·exact Or.inr (Or.inl ⟨rfl,HS.out.symm⟩)
      ·refine Or.inr (Or.inr ⟨rfl,?_⟩)
       rw[HS.out]
      ·omega,hbel⟩
     case measure=>simp[intOf];omega
   ·obtain rfl:k=2:=by omega
    have HE:Hid (M=oH L):=by
     rw[HU.out]
     rcases HC.out with⟨h,_⟩|⟨h,_⟩|⟨_,h⟩
     ·omega
     ·omega
     ·exact h
    have HML:Hid ((oH L).length=m):=by rw[←HE.out];exact hml
    clear hml
    go_wp2
    go_ret
    rw[HML.out,←HE.out]
    exact⟨rfl,HM.out,hbel⟩
 ·have HU:Hid (oH L=L):=by
   show oH L=_
   unfold oH
   rw[if_neg (by rw[HL.out];exact h4)]
  have h4':¬((n:Int).tmod 4)=0:=by rw[Int.tmod_eq_emod_of_nonneg (by omega)];omega
  have h4'':¬(n:Int)%4=0:=by omega
  go_enter Tryz.func173,Tryz.ntmps173
  go_wp2
  go_ret
  rw[HU.out,HL.out]
  exact⟨rfl,HH.out,Below.refl _ _⟩
end Go.Proofs.YtmpeaoacaecgpaaGreatDoor.B64U
namespace Go.Proofs.YtmpeaoacaecgpaaGreatDoor.Nw
open Go.RowKit Base Base2 BZ B64U
def feed (s:List UInt8×Nat×Nat) (n:Nat):List UInt8×Nat×Nat:=
 if s.2.2=0 then(s.1,s.2.1*64+n,6)else(s.1++[UInt8.ofNat ((s.2.1*64+n) / 2^(s.2.2 - 2))],(s.2.1*64+n)%2^(s.2.2 - 2),s.2.2 - 2)
def runs (T:List UInt8):List UInt8×Nat×Nat:=T.foldl (fun s c=>feed s (num c).toNat) ([],0,0)
theorem aiD (T:List UInt8) (c:UInt8):runs (T++[c])=feed (runs T) (num c).toNat:=by simp[runs]
theorem or6 (b z:Nat) (hb:b<64) (hz:z<64):bits .or .i64 ((b:Int)*64) (z:Int)=((b*64+z:Nat):Int):=by
 have H:∀(b:Fin 64) (z:Fin 64),bits .or .i64 ((b.val:Int)*64) (z.val:Int)=((b.val*64+z.val:Nat):Int):=by decide+kernel
 exact H ⟨b,hb⟩ ⟨z,hz⟩
theorem and15' (x:Nat) (h:x<4096):bits .and .i64 (x:Int) 15=((x%16:Nat):Int):=by
 have H:∀(a b:Fin 64),bits .and .i64 ((a.val*64+b.val:Nat):Int) 15=(((a.val*64+b.val)%16:Nat):Int):=by decide+kernel
 have:=H ⟨x / 64,by omega⟩ ⟨x%64,by omega⟩
 simp only at this
 rwa[show x / 64*64+x%64=x by omega]at this
theorem and3' (x:Nat) (h:x<1024):bits .and .i64 (x:Int) 3=((x%4:Nat):Int):=by
 have H:∀(a:Fin 16) (b:Fin 64),bits .and .i64 ((a.val*64+b.val:Nat):Int) 3=(((a.val*64+b.val)%4:Nat):Int):=by decide+kernel
 have:=H ⟨x / 64,by omega⟩ ⟨x%64,by omega⟩
 simp only at this
 rwa[show x / 64*64+x%64=x by omega]at this
theorem and0' (x:Nat) (h:x<256):bits .and .i64 (x:Int) 0=0:=by
 have H:∀(x:Fin 256),bits .and .i64 (x.val:Int) 0=0:=by decide+kernel
 exact H ⟨x,h⟩
theorem rX (x:Nat) (h:x<256):((UInt8.ofNat x).toNat:Int)=(x:Int):=by
 simp
 omega
def txt (L:List UInt8):List UInt8:=oH (Ho L)
def Hr (L:List UInt8):Bool:=decide ((txt L).length%4≠1∧∀c ∈ txt L,0≤num c)
def dB (L:List UInt8):List UInt8:=if Hr L=true then(runs (txt L)).1 else[]
theorem V9 (L:List UInt8):(strip L).length≤L.length:=by
 obtain⟨m,_,h⟩:=aeD L
 rw[h,List.length_take]
 omega
theorem OD (L:List UInt8):(txt L).length≤L.length:=by
 have:=JI L
 have h1:=V9 (Ho L)
 have h2:=V9 (strip (Ho L))
 unfold txt oH
 split<;>omega
theorem decode_any (s : ByteArray) (w : World) (hm : s.size ≤ 1073741824) :
  Calls Tryz.prog 74 #[.string s] w fun e w'=>∃v,e=.returned (.tuple #[v,.bool (Hr s.data.toList)])∧w'.ownsRow w.heap.size 5 1 v (dB s.data.toList).length (ah (dB s.data.toList))∧Below w.heap.size w w':=by
 have hl:s.data.toList.length=s.size:=Array.length_toList
 obtain⟨i0,hi,hz0,hz1,hz2⟩:=info_parts iR
 obtain⟨L,hL⟩:∃L,L=s.data.toList:=⟨_,rfl⟩
 have Ci:=hid hL
 have hul:(Ho s.data.toList).length≤1073741824:=by have:=JI s.data.toList;omega
 have htl:(txt L).length≤1073741824:=by have:=OD L;rw[hL]at this⊢;omega
 rw[←hL]at hl hul⊢
 clear hL hl
 have HUL:=hid hul
 clear hul
 go_enter Tryz.func74,Tryz.ntmps74
 go_wp2_with fail
 refine(abX s _ hm).mono ?_
 rintro e w1 ⟨v1,rfl,hown1,hb1⟩
 rw[←Ci.out]at hown1
 obtain⟨A1,c1,rfl,hc1,hm1,hr1⟩:=aJ hown1
 have HR1:=hid hr1
 clear hown1 hr1
 go_wp2_with fail
 refine(aiT A1 _ c1 (Ho L) _ HR1.out hc1 HUL.out).mono ?_
 rintro e w2 ⟨rfl,hr2,hb2⟩
 have hr2':aY w1 A1 (txt L).length (ah (txt L)):=hr2
 have HR2:=hid (hr2'.below hb2)
 clear hr2 hr2' HR1
 rw[show oH (Ho L)=txt L from rfl]
 obtain⟨T,hT⟩:∃T,T=txt L:=⟨_,rfl⟩
 have HT:=hid hT
 rw[←hT]at HR2 htl⊢
 clear hT
 obtain⟨m,hm2⟩:∃m,m=T.length:=⟨_,rfl⟩
 have HM:=hid hm2
 rw[←hm2]at HR2 htl⊢
 clear hm2
 have dZ:Below w.heap.size w w2:=bel hb1 hb2
 by_cases h4:m%4=1
 ·have HN:Hid (Hr L=false):=by
   show Hr L=false
   unfold Hr
   rw[←HT.out,←HM.out]
   simp[h4]
  have HB:Hid (dB L=[]):=by
   show dB L=[]
   unfold dB
   rw[HN.out]
   rfl
  have h4':((m:Int).tmod 4)=1:=by rw[Int.tmod_eq_emod_of_nonneg (by omega)];omega
  have h4'':(m:Int)%4=1:=by omega
  go_wp2
  go_ret2
  exact⟨_,vS rfl (iO HN.out.symm),by rw[HB.out];exact World.ownsRow_nil _ _ _ _,dZ⟩
 ·have h4':¬((m:Int).tmod 4)=1:=by rw[Int.tmod_eq_emod_of_nonneg (by omega)];omega
  have h4'':¬(m:Int)%4=1:=by omega
  have hq:((m:Int).tdiv 4)=((m / 4:Nat):Int):=by rw[Int.tdiv_eq_ediv_of_nonneg (by omega)];omega
  have hq2:(m:Int) / 4=((m / 4:Nat):Int):=by omega
  have hq3:m / 4≤268435456:=by omega
  obtain⟨q,hqq⟩:∃q,q=m / 4:=⟨_,rfl⟩
  rw[←hqq]at hq hq2 hq3
  clear hqq
  go_wp2_with (at_make;refine wpList_make_own _ rfl _ _ 45 rfl w2.heap.size 5 i0 (.int .u8 0) 1 Tryz.underlying45 hi hz0 hz1 .i64 .i64 _ (q*3+2) rfl rfl rfl (by rw[hz2];omega) (by unfold maxLen;omega) (Nat.le_refl _) ?_)
  intro w3 hown3 hg3
  have dG:Below w2.heap.size w2 w3:=(Below.refl _ _).grown hg3 (Nat.le_refl _) (by intro k h;cases h)
  clear hg3 hq hq2 hq3 h4' h4''
  go_wp2
  go_loopw [5,6,7,9,10,26] (fun v vb vh _ _ vk wr=>∃(j b d:Nat) (X:List UInt8),j≤m∧vk=.int .i64 j∧vb=.int .i64 b∧vh=.int .i64 d∧(d=0∧b=0∨d=6∧b<64∨d=4∧b<16∨d=2∧b<4)∧X.length≤j∧Hid (runs (T.take j)=(X,b,d))∧Hid (∀c ∈ T.take j,0≤num c)∧wr.ownsRow w2.heap.size 5 1 v X.length (ah X)∧Below w2.heap.size w2 wr) (fun _ _ _ _ _ vk _=>m - (intOf vk).toNat)
  case atStart=>exact⟨0,0,0,[],Nat.zero_le _,rfl,rfl,rfl,Or.inl ⟨rfl,rfl⟩,Nat.le_refl _,rfl,(fun c hc=>by simp at hc),hown3,dG⟩
  case round=>
   clear hown3 dG
   obtain⟨j,b,d,X,hj,rfl,rfl,rfl,hd,hX,HRU,HZ,hown,hbel⟩:=hrel
   by_cases hlt:j<m
   ·obtain ⟨g,off,rfl,hg,_⟩:=(HR2.out).spot (by omega)
    obtain⟨c,hx⟩:∃c,c=T[j]'(by rw[←HM.out];exact hlt):=⟨_,rfl⟩
    have hcell:wr.cell? ⟨g,off+j,none⟩=some (.int .u8 (c.toNat:Int)):=by
     rw[hx,←HR2.out.byte j (by rw[←HM.out];exact hlt)]
     exact hbel.cell (p:=⟨g,off+j,none⟩) hg
    have HS:Hid (T.take (j+1)=T.take j++[c]):=by
     rw[hx]
     exact List.take_succ_eq_append_getElem (by rw[←HM.out];exact hlt)
    have Y7:Hid (c ∈ T):=by rw[hx];exact List.getElem_mem _
    clear hx
    have hrg:=qE c
    by_cases hn:num c<0
    ·have hn':num c= -1:=by omega
     have HNN:=hid hn'
     have HN:Hid (Hr L=false):=by
      show Hr L=false
      unfold Hr
      rw[decide_eq_false_iff_not]
      rintro⟨_,h⟩
      have:=h c (by rw[←HT.out];exact Y7.out)
      omega
     have HB:Hid (dB L=[]):=by
      show dB L=[]
      unfold dB
      rw[HN.out]
      rfl
     clear hn hn' hrg
     go_wp2_with fail
     refine(bf c _).mono ?_
     rintro e w4 ⟨rfl,rfl⟩
     rw[HNN.out]
     go_wp2
     go_ret2
     exact⟨_,vS rfl (iO HN.out.symm),by rw[HB.out];exact World.ownsRow_nil _ _ _ _,bel dZ hbel⟩
    ·obtain ⟨z,hz⟩:∃z:Nat,num c=(z:Int):=⟨(num c).toNat,by omega⟩
     have ama:z<64:=by omega
     have HNZ:=hid hz
     have HZ2:Hid (∀x ∈ T.take (j+1),0≤num x):=by
      intro x hx
      rw[HS.out,List.mem_append]at hx
      rcases hx with hx|hx
      ·exact HZ.out x hx
      ·simp at hx
       subst hx
       omega
     have HF:Hid (runs (T.take (j+1))=feed (X,b,d) z):=by
      show runs _=_
      rw[HS.out,aiD,HRU.out,hz]
      rfl
     clear hn hrg hz
     have hor:=or6 b z (by omega) ama
     obtain⟨x,hxx⟩:∃x,x=b*64+z:=⟨_,rfl⟩
     rw[←hxx]at hor
     have HXX:=hid hxx
     have hx1:x<4096:=by omega
     have hxd:(d=4→x<1024)∧(d=2→x<256):=by omega
     clear hxx
     go_wp2_with fail
     refine(bf c _).mono ?_
     rintro e w4 ⟨rfl,rfl⟩
     rw[HNZ.out]
     rcases hd with⟨rfl,rfl⟩|⟨rfl,hb⟩|⟨rfl,hb⟩|⟨rfl,hb⟩
     ·have hor0:bits .or .i64 0 (z:Int)=(z:Int):=by
       have:=or6 0 z (by omega) ama
       simpa using this
      clear hor
      go_wp2
      go_roundw
      case rel=>exact⟨j+1,z,6,X,by omega,by go_num,by first|rfl|rw[hor0],rfl,Or.inr (Or.inl ⟨rfl,ama⟩),by omega,by
       show runs _=_
       rw[HF.out]
       simp[feed],HZ2,hown,hbel⟩
      case measure=>simp[intOf];omega
     ·have hand:=and15' x hx1
      have hb8:x<4096:=by omega
      go_wp2_with (at_builtin;refine aQ rfl _ _ 45 rfl w2.heap.size 5 i0 (.int .u8 0) 1 Tryz.underlying45 hi hz0 hz1 hz2 rfl _ X.length (ah X) rfl hown hbel hbel.size [.int .u8 ((x:Int) / 16)] 1 rfl rfl (by intro u hu;simp at hu;subst hu;rfl) (by unfold maxLen;omega) (by omega) ?_)
      intro v' w5 hown5 mJ
      clear hown hbel
      go_wp2
      go_roundw
      case rel=>exact⟨j+1,x%16,4,X++[UInt8.ofNat (x / 16)],by omega,by go_num,by first|rfl|go_num|(rw[hand]),rfl,Or.inr (Or.inr (Or.inl ⟨rfl,by omega⟩)),by simp;omega,by
       show runs _=_
       rw[HF.out]
       simp[feed,←HXX.out],HZ2,by
       have e:=rX (x / 16) (by omega)
       rw[aS,List.length_append]
       simp only[ah,List.map_cons,List.map_nil,e]
       exact hown5,mJ⟩
      case measure=>simp[intOf];omega
     ·have hand:=and3' x (hxd.1 rfl)
      have hb8:x<1024:=by omega
      go_wp2_with (at_builtin;refine aQ rfl _ _ 45 rfl w2.heap.size 5 i0 (.int .u8 0) 1 Tryz.underlying45 hi hz0 hz1 hz2 rfl _ X.length (ah X) rfl hown hbel hbel.size [.int .u8 ((x:Int) / 4)] 1 rfl rfl (by intro u hu;simp at hu;subst hu;rfl) (by unfold maxLen;omega) (by omega) ?_)
      intro v' w5 hown5 mJ
      clear hown hbel
      go_wp2
      go_roundw
      case rel=>exact⟨j+1,x%4,2,X++[UInt8.ofNat (x / 4)],by omega,by go_num,by first|rfl|go_num|(rw[hand]),rfl,Or.inr (Or.inr (Or.inr ⟨rfl,by omega⟩)),by simp;omega,by
       show runs _=_
       rw[HF.out]
       simp[feed,←HXX.out],HZ2,by
       have e:=rX (x / 4) (by omega)
       rw[aS,List.length_append]
       simp only[ah,List.map_cons,List.map_nil,e]
       exact hown5,mJ⟩
      case measure=>simp[intOf];omega
     ·have hand:=and0' x (hxd.2 rfl)
      have hb8:x<256:=hxd.2 rfl
      go_wp2_with (at_builtin;refine aQ rfl _ _ 45 rfl w2.heap.size 5 i0 (.int .u8 0) 1 Tryz.underlying45 hi hz0 hz1 hz2 rfl _ X.length (ah X) rfl hown hbel hbel.size [.int .u8 ((x:Int))] 1 rfl rfl (by intro u hu;simp at hu;subst hu;rfl) (by unfold maxLen;omega) (by omega) ?_)
      intro v' w5 hown5 mJ
      clear hown hbel
      go_wp2
      go_roundw
      case rel=>exact⟨j+1,0,0,X++[UInt8.ofNat (x)],by omega,by go_num,by first|rfl|go_num|(rw[hand]),rfl,Or.inl ⟨rfl,rfl⟩,by simp;omega,by
       show runs _=_
       rw[HF.out]
       simp[feed,←HXX.out];omega,HZ2,by
       have e:=rX (x) (by omega)
       rw[aS,List.length_append]
       simp only[ah,List.map_cons,List.map_nil,e]
       exact hown5,mJ⟩
      case measure=>simp[intOf];omega
   ·obtain rfl:j=m:=by omega
    have HE:Hid (T.take j=T):=by rw[HM.out];exact List.take_length
    rw[HE.out]at HRU HZ
    have HN:Hid (Hr L=true):=by
     show Hr L=true
     unfold Hr
     rw[←HT.out,decide_eq_true_iff]
     exact⟨by rw[←HM.out];exact h4,HZ.out⟩
    have HB:Hid (dB L=X):=by
     show dB L=X
     unfold dB
     rw[HN.out,if_pos rfl,←HT.out,HRU.out]
    go_wp2
    go_ret2
    exact⟨_,vS rfl (iO HN.out.symm),by rw[HB.out];exact ay hown dZ.size,bel dZ hbel⟩
end Go.Proofs.YtmpeaoacaecgpaaGreatDoor.Nw
namespace Go.Proofs.YtmpeaoacaecgpaaGreatDoor.zD
open Go.RowKit Base
def P1 (c:Int):Prop:=c=32∨c=34∨c=60∨c=62∨c=96
instance (c:Int):Decidable (P1 c):=by unfold P1;exact inferInstance
def P2 (c:Int):Prop:=c=32∨c=34∨c=35∨c=60∨c=62
instance (c:Int):Decidable (P2 c):=by unfold P2;exact inferInstance
def P3 (c:Int):Prop:=c=32∨c=34∨c=35∨c=60∨c=62∨c=39
instance (c:Int):Decidable (P3 c):=by unfold P3;exact inferInstance
def P4 (c:Int):Prop:=c=32∨c=34∨c=35∨c=60∨c=62∨c=63∨c=94∨c=96∨c=123∨c=125
instance (c:Int):Decidable (P4 c):=by unfold P4;exact inferInstance
def P5 (c:Int):Prop:=c=32∨c=34∨c=35∨c=60∨c=62∨c=63∨c=94∨c=96∨c=123∨c=125∨c=47∨c=58∨c=59∨c=61∨c=64∨c=91∨c=92∨c=93∨c=124
instance (c:Int):Decidable (P5 c):=by unfold P5;exact inferInstance
def P6 (c:Int):Prop:=c=32∨c=34∨c=35∨c=60∨c=62∨c=63∨c=94∨c=96∨c=123∨c=125∨c=47∨c=58∨c=59∨c=61∨c=64∨c=91∨c=92∨c=93∨c=124∨c=36∨c=37∨c=38∨c=43∨c=44
instance (c:Int):Decidable (P6 c):=by unfold P6;exact inferInstance
def ji (k c:Int):Bool:=decide (0≤k∧k≤6∧(c<32∨126<c∨k=1∧P1 c∨k=2∧P2 c∨k=3∧P3 c∨k=4∧P4 c∨k=5∧P5 c∨k=6∧P6 c))
def S:Int→List UInt8
 |1=>[32,34,60,62,96]
 |2=>[32,34,35,60,62]
 |3=>[32,34,35,60,62,39]
 |4=>[32,34,35,60,62,63,94,96,123,125]
 |5=>[32,34,35,60,62,63,94,96,123,125,47,58,59,61,64,91,92,93,124]
 |6=>[32,34,35,60,62,63,94,96,123,125,47,58,59,61,64,91,92,93,124,36,37,38,43,44]
 |_=>[]
theorem S_in (k:Int) (hk:0≤k∧k≤6) (c:UInt8) (h1:32≤(c.toNat:Int)) (h2:(c.toNat:Int)≤126):decide (0≤Lib.indexByte (S k) c)=ji k c.toNat:=by
 obtain⟨ha,hb⟩:=hk
 have hcase:k=0∨k=1∨k=2∨k=3∨k=4∨k=5∨k=6:=by omega
 have H:∀n:Fin 256,(32≤n.val∧n.val≤126)→∀k:Fin 7,decide (0≤Lib.indexByte (S (k.val:Int)) (UInt8.ofNat n.val))=ji (k.val:Int) (n.val:Int):=by decide+kernel
 have hn:=H ⟨c.toNat,c.toNat_lt⟩ ⟨by simp;omega,by simp;omega⟩ ⟨k.toNat,by omega⟩
 simpa[Int.toNat_of_nonneg ha]using hn
theorem Oc (k:Int) (c:Int) (h:k<0∨6<k):ji k c=false:=by unfold ji;rw[decide_eq_false_iff_not];omega
theorem afG (k:Int) (c:Int) (h1:0≤k) (h2:k≤6) (h:c<32∨126<c):ji k c=true:=by unfold ji;rw[decide_eq_true_iff];omega
theorem Ui (k:Int) (w:World) (h0:0≤k) (h1:k≤6):Calls Tryz.prog 291 #[.int .i64 k] w fun e w'=>e=.returned (.string (strOf (S k)))∧w=w':=by
 have hcase:k=0∨k=1∨k=2∨k=3∨k=4∨k=5∨k=6:=by omega
 rcases hcase with rfl|rfl|rfl|rfl|rfl|rfl|rfl
 all_goals
  go_enter Tryz.func291,Tryz.ntmps291
  go_wp2
  go_ret
  exact⟨rfl,rfl⟩
theorem amc (k:Int) (c:UInt8) (w:World):Calls Tryz.prog 233 #[.int .i64 k,.int .u8 (c.toNat:Int)] w fun e w'=>e=.returned (.bool (ji k c.toNat))∧w=w':=by
 by_cases ho:k<0∨6<k
 ·have HE:=hid (Oc k c.toNat ho)
  rcases ho with ho|ho
  all_goals
   go_enter Tryz.func233,Tryz.ntmps233
   go_wp2
   go_ret
   rw[HE.out]
   exact⟨rfl,rfl⟩
 have h0:0≤k:=by omega
 have h1:k≤6:=by omega
 clear ho
 by_cases hf:(c.toNat:Int)<32∨126<(c.toNat:Int)
 ·have HE:=hid (afG k c.toNat h0 h1 hf)
  rcases hf with hf|hf
  ·go_enter Tryz.func233,Tryz.ntmps233
   go_wp2
   go_ret
   rw[HE.out]
   exact⟨rfl,rfl⟩
  have hg:¬(c.toNat:Int)<32:=by omega
  go_enter Tryz.func233,Tryz.ntmps233
  go_wp2
  go_ret
  rw[HE.out]
  exact⟨rfl,rfl⟩
 have h2:32≤(c.toNat:Int):=by omega
 have h3:(c.toNat:Int)≤126:=by omega
 clear hf
 have HE:=hid (S_in k ⟨h0,h1⟩ c h2 h3)
 go_enter Tryz.func233,Tryz.ntmps233
 go_wp2_with fail
 refine(Ui k _ h0 h1).mono ?_
 rintro e w1 ⟨rfl,rfl⟩
 go_wp2_with fail
 refine(Tryz.strings_IndexByte _ _ _).mono ?_
 rintro e w1 ⟨rfl,rfl⟩
 rw[show(strOf (S k)).data.toList=S k from rfl,show((c.toNat:Int).toNat).toUInt8=c by simp]
 go_wp2_with fail
 go_ret
 exact⟨ak (by rw[←HE.out,decide_eq_false (show ¬(c.toNat:Int)<32 by omega),decide_eq_false (show ¬126<(c.toNat:Int)by omega)];simp),rfl⟩
end Go.Proofs.YtmpeaoacaecgpaaGreatDoor.zD
namespace Go.Proofs.YtmpeaoacaecgpaaGreatDoor.EscE
open Go.RowKit Base zD
def jR (n:Nat):UInt8:=if n<10 then UInt8.ofNat (48+n)else UInt8.ofNat (55+n)
def one (k:Int) (c:UInt8):List UInt8:=if ji k c.toNat=true then[37,jR (c.toNat / 16),jR (c.toNat%16)]else[c]
def enc (k:Int) (L:List UInt8):List UInt8:=L.flatMap (one k)
theorem rM (k:Int) (L:List UInt8) (c:UInt8):enc k (L++[c])=enc k L++one k c:=by simp[enc]
theorem Oj (k:Int) (c:UInt8):1≤(one k c).length∧(one k c).length≤3:=by unfold one;split<;>simp
theorem iW (k:Int) (L:List UInt8):(enc k L).length≤3*L.length:=by
 induction L with
 |nil=>simp[enc]
 |cons c L ih=>
  have h:=Oj k c
  have e:enc k (c::L)=one k c++enc k L:=by simp[enc]
  rw[e,List.length_append,List.length_cons]
  omega
theorem zV (k:Nat) (h:k<(⟨#[48,49,50,51,52,53,54,55,56,57,65,66,67,68,69,70]⟩:ByteArray).size):(⟨#[48,49,50,51,52,53,54,55,56,57,65,66,67,68,69,70]⟩:ByteArray)[k]'h=jR k:=by
 have h':k<16:=h
 have hcase:k=0∨k=1∨k=2∨k=3∨k=4∨k=5∨k=6∨k=7∨k=8∨k=9∨k=10∨k=11∨k=12∨k=13∨k=14∨k=15:=by omega
 rcases hcase with rfl|rfl|rfl|rfl|rfl|rfl|rfl|rfl|rfl|rfl|rfl|rfl|rfl|rfl|rfl|rfl<;>rfl
theorem LX (a b c:Int):∀u ∈ [Value.int .u8 a,Value.int .u8 b,Value.int .u8 c],u.oneCell'=true:=by
 intro u hu
 simp at hu
 rcases hu with rfl|rfl|rfl<;>rfl
attribute [local go_sem ↓] Go.wp_at_zero Go.wp_at_succ
theorem eF (k : Int) (A : Option Addr) (n cap : Nat) (L : List UInt8) (w : World) (h : aY w A n (ah L)) (hm : n ≤ 1073741824) :
  Calls Tryz.prog 121 #[.int .i64 k,.slice A n cap] w fun e w'=>e=.returned (.string (strOf (enc k L)))∧Below w.heap.size w w':=by
 have hl:L.length=n:=by rw[←aI];exact h.1
 have HL:=hid hl
 clear hl
 obtain⟨i0,hi,hz0,hz1,hz2⟩:=info_parts iR
 have HH:=hid h
 clear h
 go_enter Tryz.func121,Tryz.ntmps121
 go_wp2_with (at_make;refine wpList_make_own _ rfl _ _ 45 rfl w.heap.size 5 i0 (.int .u8 0) 1 Tryz.underlying45 hi hz0 hz1 .i64 .i64 _ n rfl rfl rfl (by rw[hz2];omega) (by unfold maxLen;omega) (Nat.le_refl _) ?_)
 intro w1 hown1 hg1
 have gW:Below w.heap.size w w1:=(Below.refl _ _).grown hg1 (Nat.le_refl _) (by intro k h;cases h)
 clear hg1
 go_wp2
 go_loopw [5,13] (fun v vk wr=>∃(j:Nat),j≤n∧vk=.int .i64 j∧wr.ownsRow w.heap.size 5 1 v (enc k (L.take j)).length (ah (enc k (L.take j)))∧Below w.heap.size w wr) (fun _ vk _=>n - (intOf vk).toNat)
 case atStart=>exact⟨0,Nat.zero_le _,rfl,hown1,gW⟩
 case round=>
  clear hown1 gW
  obtain⟨j,hj,rfl,hown,hbel⟩:=hrel
  by_cases hlt:j<n
  ·obtain ⟨b,off,rfl,hb,_⟩:=(HH.out).spot (by omega)
   obtain⟨c,hx⟩:∃c,c=L[j]'(by rw[HL.out];exact hlt):=⟨_,rfl⟩
   have hcell:wr.cell? ⟨b,off+j,none⟩=some (.int .u8 (c.toNat:Int)):=by
    rw[hx,←HH.out.byte j (by rw[HL.out];exact hlt)]
    exact hbel.cell (p:=⟨b,off+j,none⟩) hb
   have HS:Hid (L.take (j+1)=L.take j++[c]):=by
    rw[hx]
    exact List.take_succ_eq_append_getElem (by rw[HL.out];exact hlt)
   clear hx
   have hle:=iW k (L.take j)
   have hle2:(L.take j).length≤j:=List.length_take_le _ _
   obtain⟨m,hmm⟩:∃m,m=(enc k (L.take j)).length:=⟨_,rfl⟩
   rw[←hmm]at hle hown
   have HM:=hid hmm
   clear hmm
   have hc0:(c.toNat:Int)<256:=by have:=c.toNat_lt;omega
   cases hin:ji k c.toNat
   ·have HI:=hid hin
    clear hin
    go_wp2_with fail
    refine(amc _ _ _).mono ?_
    rintro e w2 ⟨rfl,rfl⟩
    rw[HI.out]
    go_wp2_with (at_builtin;refine aQ rfl _ _ 45 rfl w.heap.size 5 i0 (.int .u8 0) 1 Tryz.underlying45 hi hz0 hz1 hz2 rfl _ m _ rfl hown hbel hbel.size [.int .u8 (c.toNat:Int)] 1 rfl rfl (by intro u hu;simp at hu;subst hu;rfl) (by unfold maxLen;omega) (by omega) ?_)
    intro v' w2 hown2 dZ
    clear hown hbel
    go_wp2
    go_roundw
    case rel=>exact⟨j+1,by omega,by go_num,by
      have e1:one k c=[c]:=by unfold one;rw[HI.out];rfl
      rw[HS.out,rM,e1,List.length_append,aS,←HM.out]
      exact hown2,dZ⟩
    case measure=>simp[intOf];omega
   ·have HI:=hid hin
    clear hin
    go_wp2_with fail
    refine(amc _ _ _).mono ?_
    rintro e w2 ⟨rfl,rfl⟩
    rw[HI.out]
    go_wp2
    have q1:(0:Int)≤(c.toNat:Int) / 16:=by omega
    have q2:(c.toNat:Int) / 16<16:=by omega
    have q3:(0:Int)≤(c.toNat:Int)%16:=by omega
    have q4:(c.toNat:Int)%16<16:=by omega
    have q5:=PE c
    have q6:∀h,(⟨#[48,49,50,51,52,53,54,55,56,57,65,66,67,68,69,70]⟩:ByteArray)[((c.toNat:Int) / 16).toNat]'h=jR (c.toNat / 16):=fun h=>zV _ h
    have q7:∀h,(⟨#[48,49,50,51,52,53,54,55,56,57,65,66,67,68,69,70]⟩:ByteArray)[((c.toNat:Int)%16).toNat]'h=jR (c.toNat%16):=fun h=>zV _ h
    go_region_held3 (fun _=>True) (trivial) ((refine RS (by rfl) _ _ 45 (by rfl) w.heap.size 5 i0 (.int .u8 0) 1 Tryz.underlying45 hi hz0 hz1 hz2 (by rfl) _ m _ (by rfl) hown hbel hbel.size [.int .u8 37,.int .u8 ((jR (c.toNat / 16)).toNat:Int),.int .u8 ((jR (c.toNat%16)).toNat:Int)] 3 (by rfl) (by decide) (by rfl) (LX _ _ _) (by unfold maxLen;omega) (by omega) ⟨(Below.refl _ _).drew,fun _=>rfl,by simp⟩ ?_;intro v' w2 hown2 dZ))
    all_goals
     clear hown hbel q1 q2 q3 q4 q5 q6 q7
     go_wp2
     go_roundw
     case rel=>exact⟨j+1,by omega,by go_num,by
       have e1:one k c=[37,jR (c.toNat / 16),jR (c.toNat%16)]:=by unfold one;rw[if_pos HI.out]
       rw[HS.out,rM,e1,List.length_append,aS,←HM.out]
       exact hown2,dZ⟩
     case measure=>simp[intOf];omega
  ·obtain rfl:j=n:=by omega
   have HE:Hid (L.take j=L):=by
    rw[←HL.out];exact List.take_length
   rw[HE.out]at hown
   obtain⟨A',c',rfl,_,_,hrd⟩:=aJ hown
   have hst:=aF 45 9 5 Tryz.underlying45 Tryz.underlying5 Tryz.underlying9 _ c' hrd
   go_wp2
   go_ret
   exact⟨rfl,hbel⟩
end Go.Proofs.YtmpeaoacaecgpaaGreatDoor.EscE
namespace Go.Proofs.YtmpeaoacaecgpaaGreatDoor.fU
open Go.RowKit Base dI
def esc:List UInt8→Option UInt8
 |a::b::c::_=>if a=37∧0≤hex b.toNat∧0≤hex c.toNat then some (UInt8.ofNat (16*hex b.toNat+hex c.toNat).toNat)else none
 |_=>none
def xI:Nat→List UInt8→List UInt8
 |0,_=>[]
 |_+1,[]=>[]
 |n+1,x::t=>match esc (x::t)with
  |some c=>c::xI n (t.drop 2)
  |none=>x::xI n t
def dec (L:List UInt8):List UInt8:=xI L.length L
theorem uy:∀(n m:Nat) (L:List UInt8),L.length≤n→L.length≤m→xI n L=xI m L
 |0,0,_,_,_=>rfl
 |0,m+1,[],_,_=>rfl
 |0,_+1,_::_,h,_=>by simp at h
 |n+1,0,[],_,_=>rfl
 |_+1,0,_::_,_,h=>by simp at h
 |_+1,_+1,[],_,_=>rfl
 |n+1,m+1,x::t,h1,h2=>by
  simp only[List.length_cons]at h1 h2
  rw[xI,xI,uy n m _ (by simp;omega) (by simp;omega),uy n m _ (by omega) (by omega)]
theorem lT:dec []=[]:=rfl
theorem oQ (x:UInt8) (t:List UInt8) (c:UInt8) (h:esc (x::t)=some c):dec (x::t)=c::dec (t.drop 2):=by
 unfold dec
 rw[List.length_cons,xI,h]
 rw[uy t.length (t.drop 2).length _ (by simp) (Nat.le_refl _)]
theorem kJ (x:UInt8) (t:List UInt8) (h:esc (x::t)=none):dec (x::t)=x::dec t:=by
 unfold dec
 rw[List.length_cons,xI,h]
theorem ku (L:List UInt8):(dec L).length≤L.length:=by
 have H : ∀ (n : Nat) (L : List UInt8), (xI n L).length ≤ L.length := by
  intro n
  induction n with
  |zero=>intro L;simp[xI]
  | succ n ih=>
   intro L
   cases L with
   |nil=>simp[xI]
   |cons x t=>
    rw[xI]
    split
    ·have:=ih (t.drop 2)
     simp at this⊢
     omega
    have:=ih t
    simp at this⊢
    omega
 exact H _ _
theorem vG (c:UInt8): -1≤hex c.toNat∧hex c.toNat≤15:=by
 unfold hex
 (repeat' split)<;>omega
attribute [local go_sem ↓] Go.wp_at_zero Go.wp_at_succ
def FB (L:List UInt8):Value×Bool:=match esc L with
 |some c=>(.int .u8 (c.toNat:Int),true)
 |none=>(.int .u8 0,false)
theorem Vb (s:ByteArray) (h:s.size<3):esc s.data.toList=none:=by
 have hl:s.data.toList.length<3:=by rw[Array.length_toList];exact h
 match e:s.data.toList,hl with
 |[],_=>rfl
 |[_],_=>rfl
 |[_,_],_=>rfl
theorem alo (s:ByteArray) (h:3≤s.size):∃t,s.data.toList=s[0]::s[1]::s[2]::t:=by
 have hl:3≤s.data.toList.length:=by rw[Array.length_toList];exact h
 match e:s.data.toList,hl with
 |a::b::c::t,_=>
  have e0:s[0]=a:=by
   have:s.data.toList[0]'(by omega)=a:=by simp[e]
   exact this
  have e1:s[1]=b:=by
   have:s.data.toList[1]'(by omega)=b:=by simp[e]
   exact this
  have e2:s[2]=c:=by
   have:s.data.toList[2]'(by omega)=c:=by simp[e]
   exact this
  exact⟨t,by rw[e0,e1,e2]⟩
theorem u8_of (z:Int) (h0:0≤z) (h1:z≤255):((UInt8.ofNat z.toNat).toNat:Int)=z:=by simp;omega
theorem or16 (h l:Int) (h0:0≤h) (h1:h≤15) (l0:0≤l) (l1:l≤15):bits .or .i64 (h*16) l=16*h+l:=by
 have H:∀a b:Fin 16,bits .or .i64 ((a.val:Int)*16) (b.val:Int)=16*(a.val:Int)+(b.val:Int):=by decide+kernel
 have:=H ⟨h.toNat,by omega⟩ ⟨l.toNat,by omega⟩
 simp only[Int.toNat_of_nonneg h0,Int.toNat_of_nonneg l0]at this
 exact this
theorem hexq (c:Int) (w:World) (h0:0≤c) (h1:c≤255):Calls Tryz.prog 259 #[.int .u8 c] w fun e w'=>e=.returned (.int .i64 (hex c))∧w'=w:=
 (dV c w h0 h1).mono fun _ _ ⟨he,hw⟩=>⟨he,hw.symm⟩
theorem wM (s:ByteArray) (w:World) (hs:s.size≤maxLen):Calls Tryz.prog 170 #[.string s] w fun e w'=>e=.returned (.tuple #[(FB s.data.toList).1,.bool (FB s.data.toList).2])∧Below w.heap.size w w':=by
 unfold maxLen at hs
 by_cases h3:s.size<3
 ·have HE:Hid (FB s.data.toList=(.int .u8 0,false)):=by unfold FB;rw[Vb s h3];exact rfl
  have h3':(s.size:Int)<3:=by omega
  go_enter Tryz.func170,Tryz.ntmps170
  go_wp2
  go_ret2
  rw[HE.out]
  exact⟨rfl,Below.refl _ _⟩
 have h3':(3:Int)≤(s.size:Int):=by omega
 obtain⟨t,ht⟩:=alo s (by omega)
 obtain⟨a,ha⟩:∃a,s[0]=a:=⟨_,rfl⟩
 obtain⟨b,hb⟩:∃b,s[1]=b:=⟨_,rfl⟩
 obtain⟨c,hc⟩:∃c,s[2]=c:=⟨_,rfl⟩
 rw[ha,hb,hc]at ht
 have HT:=hid ht
 clear ht
 have hb0:0≤(b.toNat:Int)∧(b.toNat:Int)≤255:=by have:=b.toNat_lt;omega
 have hc0:0≤(c.toNat:Int)∧(c.toNat:Int)≤255:=by have:=c.toNat_lt;omega
 by_cases h37:a=37
 ·subst h37
  have h37':(((37:UInt8).toNat:Int) !=37)=false:=by decide
  obtain⟨hx1,hx2⟩:=vG b
  obtain⟨hy1,hy2⟩:=vG c
  by_cases hx:hex b.toNat<0
  ·have HE:Hid (FB s.data.toList=(.int .u8 0,false)):=by
    unfold FB
    rw[HT.out,esc,if_neg (by intro h;omega)]
    exact rfl
   go_enter Tryz.func170,Tryz.ntmps170
   go_wp2
   go_quiet ((go_at_call 259;exact Calls.quiet_of_same (hexq _ _ (by omega) (by omega))))
   go_wp2
   go_ret2
   rw[HE.out]
   exact⟨rfl,Base.below_drewN (Below.refl _ _) _⟩
  have hx':0≤hex b.toNat:=by omega
  clear hx hx1
  by_cases hy:hex c.toNat<0
  ·have HE:Hid (FB s.data.toList=(.int .u8 0,false)):=by
    unfold FB
    rw[HT.out,esc,if_neg (by intro h;omega)]
    exact rfl
   go_enter Tryz.func170,Tryz.ntmps170
   go_wp2
   go_quiet ((go_at_call 259;exact Calls.quiet_of_same (hexq _ _ (by omega) (by omega))))
   go_wp2
   go_ret2
   rw[HE.out]
   exact⟨rfl,Base.below_drewN (Below.refl _ _) _⟩
  have hy':0≤hex c.toNat:=by omega
  clear hy hy1
  have HE:Hid (FB s.data.toList=(.int .u8 (16*hex b.toNat+hex c.toNat),true)):=by
   unfold FB
   rw[HT.out,esc,if_pos ⟨rfl,hx',hy'⟩]
   show(Value.int .u8 ((UInt8.ofNat (16*hex b.toNat+hex c.toNat).toNat).toNat:Int),true)=_
   rw[u8_of _ (by omega) (by omega)]
  have hor:=or16 _ _ hx' hx2 hy' hy2
  go_enter Tryz.func170,Tryz.ntmps170
  go_wp2
  go_quiet ((go_at_call 259;exact Calls.quiet_of_same (hexq _ _ (by omega) (by omega))))
  go_wp2
  go_ret2
  rw[HE.out]
  exact⟨vS rfl rfl,Base.below_drewN (Below.refl _ _) _⟩
 have HE:Hid (FB s.data.toList=(.int .u8 0,false)):=by
  unfold FB
  rw[HT.out,esc,if_neg (by intro h;exact h37 h.1)]
  exact rfl
 have h37':((a.toNat:Int) !=37)=true:=by
  simp
  intro h
  exact h37 (UInt8.toNat_inj.1 (by simp;omega))
 go_enter Tryz.func170,Tryz.ntmps170
 go_wp2
 go_ret2
 rw[HE.out]
 exact⟨rfl,Below.refl _ _⟩
theorem extract_drop (s:ByteArray) (k:Nat) (_h:k≤s.size):(s.extract k s.size).data.toList=s.data.toList.drop k:=by
 rw[ByteArray.data_extract]
 simp[Array.toList_extract,List.extract_eq_take_drop]
 rw[List.take_of_length_le (by rw[List.length_drop,Array.length_toList];exact Nat.le_refl _)]
theorem decode_any (s:ByteArray) (w:World) (hs:s.size≤1073741824):Calls Tryz.prog 72 #[.string s] w fun e w'=>∃v,e=.returned v∧w'.ownsRow w.heap.size 5 1 v (dec s.data.toList).length (ah (dec s.data.toList))∧Below w.heap.size w w':=by
 obtain⟨i0,hi,hz0,hz1,hz2⟩:=info_parts iR
 have hl:s.data.toList.length=s.size:=Array.length_toList
 have HL:=hid hl
 clear hl
 go_enter Tryz.func72,Tryz.ntmps72
 go_wp2_with (at_make;refine wpList_make_own _ rfl _ _ 45 rfl w.heap.size 5 i0 (.int .u8 0) 1 Tryz.underlying45 hi hz0 hz1 .i64 .i64 _ s.size rfl rfl rfl (by rw[hz2];omega) (by unfold maxLen;omega) (Nat.le_refl _) ?_)
 intro w1 hown1 hg1
 have gW:Below w.heap.size w w1:=(Below.refl _ _).grown hg1 (Nat.le_refl _) (by intro k h;cases h)
 clear hg1
 go_wp2
 go_loopw [3,4] (fun v vk wr=>∃(j:Nat) (X:List UInt8),j≤s.size∧X.length≤j∧vk=.int .i64 j∧wr.ownsRow w.heap.size 5 1 v X.length (ah X)∧Below w.heap.size w wr∧Hid (X++dec (s.data.toList.drop j)=dec s.data.toList)) (fun _ vk _=>s.size - (intOf vk).toNat)
 case atStart=>exact⟨0,[],Nat.zero_le _,Nat.le_refl _,rfl,hown1,gW,rfl⟩
 case round=>
  clear hown1 gW
  obtain⟨j,X,hj,hX,rfl,hown,hbel,HT⟩:=hrel
  by_cases hlt:j<s.size
  ·obtain ⟨x,hx⟩:∃x,s[j]=x:=⟨_,rfl⟩
   have hd:s.data.toList.drop j=x::s.data.toList.drop (j+1):=by
    rw[←hx]
    exact List.drop_eq_getElem_cons (by rw[HL.out];exact hlt)
   have HD:=hid hd
   clear hd
   have HEX:Hid ((s.extract j s.size).data.toList=s.data.toList.drop j):=extract_drop s j hj
   have hsz:(s.extract j s.size).size=s.size - j:=by simp
   have MC:=hid hsz
   clear hsz
   cases GI:esc (s.data.toList.drop j)with
   | none=>
    have HV:Hid (FB (s.extract j s.size).data.toList=(.int .u8 0,false)):=by
     unfold FB
     rw[HEX.out,GI]
     exact rfl
    have HN:Hid (dec (s.data.toList.drop j)=x::dec (s.data.toList.drop (j+1))):=by
     rw[HD.out]at GI⊢
     exact kJ _ _ GI
    clear GI
    go_wp2_with fail
    refine(wM _ _ (by rw[MC.out];unfold maxLen;omega)).mono ?_
    rintro e w2 ⟨rfl,hb2⟩
    rw[HV.out]
    have hown2:=aP hown hb2
    have dZ:=hbel.trans (hb2.mono hbel.size)
    clear hown hbel
    go_wp2_with (at_builtin;refine aQ rfl _ _ 45 rfl w.heap.size 5 i0 (.int .u8 0) 1 Tryz.underlying45 hi hz0 hz1 hz2 rfl _ X.length _ rfl hown2 dZ dZ.size [.int .u8 (x.toNat:Int)] 1 rfl rfl (by intro u hu;simp at hu;subst hu;rfl) (by unfold maxLen;omega) (by omega) ?_)
    intro v' w3 hown3 dG
    clear hown2 dZ
    go_wp2
    go_roundw
    case rel=>exact⟨j+1,X++[x],by omega,by simp;omega,by go_num,by rw[aS,List.length_append];exact hown3,dG,by
      rw[List.append_assoc]
      have:=HT.out
      rw[HN.out]at this
      exact this⟩
    case measure=>simp[intOf];omega
   | some c=>
    have h3:j+3≤s.size:=by
     rcases Nat.lt_or_ge (s.size - j) 3 with h|h
     ·have:=Vb (s.extract j s.size) (by rw[MC.out];exact h)
      rw[HEX.out,GI]at this
      cases this
     omega
    have HV:Hid (FB (s.extract j s.size).data.toList=(.int .u8 (c.toNat:Int),true)):=by
     unfold FB
     rw[HEX.out,GI]
     exact rfl
    have HN:Hid (dec (s.data.toList.drop j)=c::dec (s.data.toList.drop (j+3))):=by
     rw[HD.out]at GI⊢
     rw[oQ _ _ _ GI,List.drop_drop]
     exact rfl
    clear GI
    go_wp2_with fail
    refine(wM _ _ (by rw[MC.out];unfold maxLen;omega)).mono ?_
    rintro e w2 ⟨rfl,hb2⟩
    rw[HV.out]
    have hown2:=aP hown hb2
    have dZ:=hbel.trans (hb2.mono hbel.size)
    clear hown hbel
    go_wp2_with (at_builtin;refine aQ rfl _ _ 45 rfl w.heap.size 5 i0 (.int .u8 0) 1 Tryz.underlying45 hi hz0 hz1 hz2 rfl _ X.length _ rfl hown2 dZ dZ.size [.int .u8 (c.toNat:Int)] 1 rfl rfl (by intro u hu;simp at hu;subst hu;rfl) (by unfold maxLen;omega) (by omega) ?_)
    intro v' w3 hown3 dG
    clear hown2 dZ
    go_wp2
    go_roundw
    case rel=>exact⟨j+3,X++[c],by omega,by simp;omega,by rw[show((j+3:Nat):Int)=(j:Int)+2+1 by omega],by rw[aS,List.length_append];exact hown3,dG,by
      rw[List.append_assoc]
      have:=HT.out
      rw[HN.out]at this
      exact this⟩
    case measure=>simp[intOf];omega
  obtain rfl:j=s.size:=by omega
  have HE:Hid (X=dec s.data.toList):=by
   have e:=HT.out
   rw[←HL.out,List.drop_length,lT,List.append_nil]at e
   exact e
  go_wp2
  go_ret
  exact⟨_,rfl,by rw[←HE.out];exact hown,hbel⟩
end Go.Proofs.YtmpeaoacaecgpaaGreatDoor.fU
namespace Go.Proofs.YtmpeaoacaecgpaaGreatDoor.oO
open Go.RowKit Base dI
theorem vG (c:UInt8): -1≤hex c.toNat∧hex c.toNat≤15:=by
 have H:∀n:Fin 256,-1≤hex (n.val:Int)∧hex (n.val:Int)≤15:=by decide+kernel
 exact H ⟨c.toNat,c.toNat_lt⟩
def lH (b:Nat) (c:UInt8):Bool:=decide (0≤hex c.toNat)&&decide (hex c.toNat<b)
def eu (b:Nat) (L:List UInt8):Bool:=L.all (lH b)
def dv (c:UInt8):Nat:=(hex c.toNat).toNat
def val (b:Nat) (L:List UInt8):Nat:=L.foldl (fun n c=>n*b+dv c) 0
theorem jh (b:Nat) (L:List UInt8) (c:UInt8):val b (L++[c])=val b L*b+dv c:=by simp[val]
def Ht:List UInt8→Nat×List UInt8
 |[]=>(10,[])
 |[a]=>(10,[a])
 |a::x::r=>if a=48 then(if x=120∨x=88 then(16,r)else(8,x::r))else(10,a::x::r)
def num (L:List UInt8):Option Nat:=if L=[]then none else if eu (Ht L).1 (Ht L).2=true then some (val (Ht L).1 (Ht L).2)else none
def sat (n:Nat):Nat:=min n 4294967296
theorem Ea (v b d:Nat) (hb:1≤b):min (sat v*b+d) 4294967296=sat (v*b+d):=by
 unfold sat
 by_cases h:v≤4294967296
 ·rw[Nat.min_eq_left h]
 rw[Nat.min_eq_right (show 4294967296≤v by omega)]
 have h1:4294967296≤4294967296*b:=Nat.le_mul_of_pos_right _ hb
 have h2:4294967296*b≤v*b:=Nat.mul_le_mul_right _ (by omega)
 omega
theorem U8 (c:UInt8):dv c≤15:=by have:=vG c;unfold dv;omega
def bZ:List UInt8→List (List UInt8)
 |[]=>[[]]
 |c::L=>if c=46 then[]::bZ L else match bZ L with
  |[]=>[[c]]
  |x::r=>(c::x)::r
theorem qY:∀L:List UInt8,bZ L≠[]
 |[]=>by simp[bZ]
 |c::L=>by
  unfold bZ
  split
  ·simp
  ·split<;>simp
def oH (L:List UInt8):List UInt8:=Lib.trimSuffix L [46]
theorem rW (L:List UInt8):(bZ L).length≤L.length+1:=by
 induction L with
 |nil=>simp[bZ]
 |cons c L ih=>
  unfold bZ
  split
  ·simp;omega
  split
  ·simp
  rename_i h;rw[h]at ih;simp at ih⊢;omega
theorem qK:∀(L:List UInt8),∀x ∈ bZ L,x.length≤L.length
 |[],x,h=>by simp[bZ]at h;subst h;simp
 | c :: L, x, h => by
  unfold bZ at h
  split at h
  ·rcases List.mem_cons.1 h with rfl|h
   ·simp
   ·have:=qK L x h;simp;omega
  ·split at h
   ·simp at h;subst h;simp
   ·rename_i y r e
    rcases List.mem_cons.1 h with rfl|h
    ·have:=qK L y (by rw[e];simp);simp;omega
    ·have:=qK L x (by rw[e];simp[h]);simp;omega
theorem Fa (L:List UInt8):(oH L).length≤L.length:=by
 unfold oH Lib.trimSuffix
 split
 ·rw[List.length_take];omega
 exact Nat.le_refl _
def mZ:Nat→Nat→List (List UInt8)→Option Nat
 |_,acc,[]=>some acc
 |most,acc,[p]=>match num p with
  |some v=>if v<most then some (acc+v)else none
  |none=>none
 |most,acc,p::q::r=>match num p with
  |some v=>if v≤255 then mZ (most / 256) (acc+v*(most / 256)) (q::r)else none
  |none=>none
def NR (L:List UInt8):Option Nat:=if (bZ (oH L)).length≤4 then mZ 4294967296 0 (bZ (oH L))else none
def lst (L:List UInt8):List UInt8:=((bZ L).getLast?).getD []
def ends (L:List UInt8):Bool:=(num (lst (oH L))).isSome||(decide (lst (oH L)≠[])&&eu 10 (lst (oH L)))
theorem yH (c:UInt8):dI.digit c.toNat=lH 10 c:=by
 have H:∀n:Fin 256,dI.digit (n.val:Int)=(decide (0≤hex (n.val:Int))&&decide (hex (n.val:Int)<(10:Nat))):=by decide+kernel
 exact H ⟨c.toNat,c.toNat_lt⟩
theorem ahn (s : ByteArray) : s.data.toList.drop (Lib.lastIndexByte s 46 + 1).toNat = lst s.data.toList ∧ -1 ≤ Lib.lastIndexByte s 46 ∧ Lib.lastIndexByte s 46 < s.size := by
 have hb:∀j (h:j<s.data.toList.length),s.data[j]! =s.data.toList[j]:=fun j h=>by
  rw[getElem!_pos s.data j (by simpa using h)]
  simp
 have I8:∀M:List UInt8,(∀c ∈ M,c≠46)→bZ M=[M]:=by
  intro M
  induction M with
  |nil=>intro _;rfl
  |cons c M ih=>
   intro h
   rw[bZ,if_neg (h c (by simp)),ih fun d hd=>h d (by simp[hd])]
 have behind:∀(A M:List UInt8),(∀c ∈ M,c≠46)→lst (A++46::M)=M:=by
  intro A M hM
  induction A with
  |nil=>
   unfold lst
   rw[List.nil_append,bZ,if_pos rfl,I8 M hM]
   rfl
  | cons c A ih=>
   have hne:=qY (A++46::M)
   unfold lst at ih⊢
   rw[List.cons_append,bZ]
   split
   ·rw[List.getLast?_cons_of_ne_nil hne];exact ih
   cases h:bZ (A++46::M)with
   |nil=>exact absurd h hne
   | cons x r=>
    rw[h]at ih
    cases r with
    | nil=>
     exfalso
     have:2≤(bZ (A++46::M)).length:=by
      clear ih h hne
      induction A with
      |nil=>rw[List.nil_append,bZ,if_pos rfl,I8 M hM];simp
      |cons c A ih=> 
       rw[List.cons_append,bZ]
       split
       ·simp;omega
       split
       ·rename_i e;rw[e]at ih;simp at ih
       rename_i e;rw[e]at ih;simpa using ih
     rw[h]at this
     simp at this
    |cons y r'=>simpa using ih
 have hsz:s.data.toList.length=s.size:=Array.length_toList
 rcases Lib.lastIndexByte_spec s 46 with⟨h1,h2⟩|⟨i,hi,h1,h2,h3⟩
 ·rw[h1]
  refine⟨?_,by omega,by omega⟩
  show s.data.toList.drop 0=_
  rw[List.drop_zero]
  unfold lst
  rw[I8]
  ·rfl
  intro c hc
  obtain⟨j,hj,rfl⟩:=List.getElem_of_mem hc
  have:=h2 j (by omega)
  rw[hb j hj]at this
  intro e
  rw[e]at this
  exact this rfl
 rw[h1]
 refine⟨?_,by omega,by omega⟩
 have hil:i<s.data.toList.length:=by omega
 have e46:s.data.toList[i]=46:=by
  rw[hb i hil]at h2
  exact UInt8.toNat_inj.1 (by show _=46;omega)
 have e:s.data.toList=s.data.toList.take i++46::s.data.toList.drop (i+1):=by
  conv=>lhs;rw[←List.take_append_drop i s.data.toList,List.drop_eq_getElem_cons hil,e46]
 have hM:∀c ∈ s.data.toList.drop (i+1),c≠46:=by
  intro c hc
  obtain⟨j,hj,rfl⟩:=List.getElem_of_mem hc
  rw[List.length_drop]at hj
  rw[List.getElem_drop]
  have:=h3 (i+1+j) (by omega) (by omega)
  rw[hb _ (by omega)]at this
  intro e
  rw[e]at this
  exact this rfl
 have ht:((i:Int)+1).toNat=i+1:=by omega
 rw[ht]
 conv=>rhs;rw[e]
 rw[behind _ _ hM]
end Go.Proofs.YtmpeaoacaecgpaaGreatDoor.oO
