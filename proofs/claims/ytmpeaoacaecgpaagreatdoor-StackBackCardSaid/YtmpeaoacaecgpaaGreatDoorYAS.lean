/- Texts that belong together: RefM, RefC, RefD, akn, WZ, Gn, NI, aj7, pR, agI, PosC. -/
import Derived.Test.YtmpeaoacaecgpaaGreatDoorYAR
import Derived.Test.YtmpeaoacaecgpaaGreatDoorYAO
import Derived.Test.YtmpeaoacaecgpaaGreatDoorYAA
import Derived.IntWalk
import Derived.Deep.QuietTactic
import Derived.BigQuiet
import Derived.Lib.IndexLaws
import Derived.Lib.SlTrimSet
import Derived.Test.YtmpeaoacaecgpaaGreatDoorYAE
import Derived.Test.YtmpeaoacaecgpaaGreatDoorShelf
import Derived.Test.YtmpeaoacaecgpaaGreatDoorYAH
import Derived.Test.YtmpeaoacaecgpaaGreatDoorYAQ
import Derived.Laws.OwnMore
import Derived.Laws.IdiomStrings
set_option linter.unusedSimpArgs false
set_option linter.unusedVariables false
set_option maxRecDepth 100000
set_option maxHeartbeats 64000000
namespace Go.Proofs.YtmpeaoacaecgpaaGreatDoor.RefM
open Go.RowKit Base Base2 qh RefS RefN
theorem amF (b off cap:Nat) (x:UInt8) (t:List UInt8) (w:World) (hn:t.length=0) (k2:(x.toNat:Int)≤127)
  (hL:∀j (h:j<(x::t).length),w.cell? ⟨b,off+j,none⟩=some (.int .u8 ((x::t)[j].toNat:Int))) (hok:JV t):
  Calls Tryz.prog 158 #[.slice (some ⟨b,off,none⟩) 1 cap] w fun e w'=>e=.returned (.int .i32 (fo (first x.toNat) t))∧w=w':=by
 have hc0:w.cell? ⟨b,off,none⟩=some (.int .u8 (x.toNat:Int)):=by
  have:=hL 0 (by simp)
  rw[Nat.add_zero]at this
  exact this
 have hx0:0≤(x.toNat:Int):=by omega
 have hf:first x.toNat=(x.toNat:Int):=by unfold first;(repeat' split)<;>omega
 obtain⟨f,hf2⟩:∃f,f=first x.toNat:=⟨_,rfl⟩
 rw[←hf2]at hf⊢
 have hb0:0≤(x.toNat:Int)∧(x.toNat:Int)<128:=by omega
 have HL:=hid hL
 have HN:=hid hn
 have HO:=hid hok
 have HF:=hid hf
 clear hL hn hok hf hf2
 go_enter Tryz.func158,Tryz.ntmps158
 go_wp2
 go_loop [3,4] (fun vr vk=>∃(k:Nat) (r:Int),1≤k∧k≤1∧vk=.int .i64 k∧vr=.int .i32 r∧0≤r∧r<4*room k∧Hid (fo r (t.drop (k - 1))=fo f t)) (fun _ vk=>1 - (intOf vk).toNat)
 case atStart=>exact⟨1,(x.toNat:Int),by omega,by omega,rfl,rfl,by omega,by have:room 1=32:=rfl;omega,by rw[HF.out];exact rfl⟩
 case round=>
  obtain⟨k,r,hk1,hk2,rfl,rfl,hr1,hr2,HT⟩:=hrel
  by_cases hlt:k<1
  ·exact absurd hlt (by omega)
  ·obtain rfl:k=1:=by omega
   have HE:Hid (fo f t=r):=by
    have e:=HT.out
    rw[List.drop_of_length_le (by have:=HN.out;omega)]at e
    exact e.symm
   go_wp2
   go_ret
   rw[HE.out]
   exact⟨rfl,rfl⟩
theorem amG (b off cap:Nat) (x:UInt8) (t:List UInt8) (w:World) (hn:t.length=1) (k1:194≤(x.toNat:Int)) (k2:(x.toNat:Int)≤223)
  (hL:∀j (h:j<(x::t).length),w.cell? ⟨b,off+j,none⟩=some (.int .u8 ((x::t)[j].toNat:Int))) (hok:JV t):
  Calls Tryz.prog 158 #[.slice (some ⟨b,off,none⟩) 2 cap] w fun e w'=>e=.returned (.int .i32 (fo (first x.toNat) t))∧w=w':=by
 have hc0:w.cell? ⟨b,off,none⟩=some (.int .u8 (x.toNat:Int)):=by
  have:=hL 0 (by simp)
  rw[Nat.add_zero]at this
  exact this
 have hx0:0≤(x.toNat:Int):=by omega
 have hf:first x.toNat=(x.toNat:Int) - 192:=by unfold first;(repeat' split)<;>omega
 obtain⟨f,hf2⟩:∃f,f=first x.toNat:=⟨_,rfl⟩
 rw[←hf2]at hf⊢
 have hb0:0≤(x.toNat:Int) - 192∧(x.toNat:Int) - 192<128:=by omega
 have HL:=hid hL
 have HN:=hid hn
 have HO:=hid hok
 have HF:=hid hf
 clear hL hn hok hf hf2
 go_enter Tryz.func158,Tryz.ntmps158
 go_wp2
 go_loop [3,4] (fun vr vk=>∃(k:Nat) (r:Int),1≤k∧k≤2∧vk=.int .i64 k∧vr=.int .i32 r∧0≤r∧r<4*room k∧Hid (fo r (t.drop (k - 1))=fo f t)) (fun _ vk=>2 - (intOf vk).toNat)
 case atStart=>exact⟨1,(x.toNat:Int) - 192,by omega,by omega,rfl,rfl,by omega,by have:room 1=32:=rfl;omega,by rw[HF.out];exact rfl⟩
 case round=>
  obtain⟨k,r,hk1,hk2,rfl,rfl,hr1,hr2,HT⟩:=hrel
  by_cases hlt:k<2
  ·obtain⟨hb1,hb2⟩:=uI k hk1 (by omega)
   have HB:=hid hb1
   clear hb1
   have hr3:r<524288:=by omega
   have hlx:k - 1<t.length:=by have:=HN.out;omega
   obtain⟨c,hc⟩:∃c,c=t[k - 1]:=⟨_,rfl⟩
   have hcell:w.cell? ⟨b,off+k,none⟩=some (.int .u8 (c.toNat:Int)):=by
    rw[HL.out k (by simp;omega),hc]
    obtain⟨i,rfl⟩:∃i,k=i+1:=⟨k - 1,by omega⟩
    simp
   obtain⟨hc1,hc2⟩:=HO.out c (by rw[hc];exact List.getElem_mem _)
   have HD:Hid (fo (r*64+((c.toNat:Int) - 128)) (t.drop k)=fo f t):=by
    have e:=HT.out
    rw[List.drop_eq_getElem_cons hlx,←hc,show k - 1+1=k by omega]at e
    rw[show(c.toNat:Int) - 128=(c.toNat:Int)%64 by omega]
    exact e
   clear hc HT
   go_wp2
   go_round
   case rel=>exact⟨k+1,r*64+((c.toNat:Int) - 128),by omega,by omega,by go_num,int_eq (by omega),by omega,by rw[HB.out];omega,HD⟩
   case measure=>simp[intOf];omega
  ·obtain rfl:k=2:=by omega
   have HE:Hid (fo f t=r):=by
    have e:=HT.out
    rw[List.drop_of_length_le (by have:=HN.out;omega)]at e
    exact e.symm
   go_wp2
   go_ret
   rw[HE.out]
   exact⟨rfl,rfl⟩
theorem amH (b off cap:Nat) (x:UInt8) (t:List UInt8) (w:World) (hn:t.length=2) (k1:224≤(x.toNat:Int)) (k2:(x.toNat:Int)≤239)
  (hL:∀j (h:j<(x::t).length),w.cell? ⟨b,off+j,none⟩=some (.int .u8 ((x::t)[j].toNat:Int))) (hok:JV t):
  Calls Tryz.prog 158 #[.slice (some ⟨b,off,none⟩) 3 cap] w fun e w'=>e=.returned (.int .i32 (fo (first x.toNat) t))∧w=w':=by
 have hc0:w.cell? ⟨b,off,none⟩=some (.int .u8 (x.toNat:Int)):=by
  have:=hL 0 (by simp)
  rw[Nat.add_zero]at this
  exact this
 have hx0:0≤(x.toNat:Int):=by omega
 have hf:first x.toNat=(x.toNat:Int) - 224:=by unfold first;(repeat' split)<;>omega
 obtain⟨f,hf2⟩:∃f,f=first x.toNat:=⟨_,rfl⟩
 rw[←hf2]at hf⊢
 have hb0:0≤(x.toNat:Int) - 224∧(x.toNat:Int) - 224<128:=by omega
 have HL:=hid hL
 have HN:=hid hn
 have HO:=hid hok
 have HF:=hid hf
 clear hL hn hok hf hf2
 go_enter Tryz.func158,Tryz.ntmps158
 go_wp2
 go_loop [3,4] (fun vr vk=>∃(k:Nat) (r:Int),1≤k∧k≤3∧vk=.int .i64 k∧vr=.int .i32 r∧0≤r∧r<4*room k∧Hid (fo r (t.drop (k - 1))=fo f t)) (fun _ vk=>3 - (intOf vk).toNat)
 case atStart=>exact⟨1,(x.toNat:Int) - 224,by omega,by omega,rfl,rfl,by omega,by have:room 1=32:=rfl;omega,by rw[HF.out];exact rfl⟩
 case round=>
  obtain⟨k,r,hk1,hk2,rfl,rfl,hr1,hr2,HT⟩:=hrel
  by_cases hlt:k<3
  ·obtain⟨hb1,hb2⟩:=uI k hk1 (by omega)
   have HB:=hid hb1
   clear hb1
   have hr3:r<524288:=by omega
   have hlx:k - 1<t.length:=by have:=HN.out;omega
   obtain⟨c,hc⟩:∃c,c=t[k - 1]:=⟨_,rfl⟩
   have hcell:w.cell? ⟨b,off+k,none⟩=some (.int .u8 (c.toNat:Int)):=by
    rw[HL.out k (by simp;omega),hc]
    obtain⟨i,rfl⟩:∃i,k=i+1:=⟨k - 1,by omega⟩
    simp
   obtain⟨hc1,hc2⟩:=HO.out c (by rw[hc];exact List.getElem_mem _)
   have HD:Hid (fo (r*64+((c.toNat:Int) - 128)) (t.drop k)=fo f t):=by
    have e:=HT.out
    rw[List.drop_eq_getElem_cons hlx,←hc,show k - 1+1=k by omega]at e
    rw[show(c.toNat:Int) - 128=(c.toNat:Int)%64 by omega]
    exact e
   clear hc HT
   go_wp2
   go_round
   case rel=>exact⟨k+1,r*64+((c.toNat:Int) - 128),by omega,by omega,by go_num,int_eq (by omega),by omega,by rw[HB.out];omega,HD⟩
   case measure=>simp[intOf];omega
  ·obtain rfl:k=3:=by omega
   have HE:Hid (fo f t=r):=by
    have e:=HT.out
    rw[List.drop_of_length_le (by have:=HN.out;omega)]at e
    exact e.symm
   go_wp2
   go_ret
   rw[HE.out]
   exact⟨rfl,rfl⟩
theorem amI (b off cap:Nat) (x:UInt8) (t:List UInt8) (w:World) (hn:t.length=3) (k1:240≤(x.toNat:Int)) (k2:(x.toNat:Int)≤244)
  (hL:∀j (h:j<(x::t).length),w.cell? ⟨b,off+j,none⟩=some (.int .u8 ((x::t)[j].toNat:Int))) (hok:JV t):
  Calls Tryz.prog 158 #[.slice (some ⟨b,off,none⟩) 4 cap] w fun e w'=>e=.returned (.int .i32 (fo (first x.toNat) t))∧w=w':=by
 have hc0:w.cell? ⟨b,off,none⟩=some (.int .u8 (x.toNat:Int)):=by
  have:=hL 0 (by simp)
  rw[Nat.add_zero]at this
  exact this
 have hx0:0≤(x.toNat:Int):=by omega
 have hf:first x.toNat=(x.toNat:Int) - 240:=by unfold first;(repeat' split)<;>omega
 obtain⟨f,hf2⟩:∃f,f=first x.toNat:=⟨_,rfl⟩
 rw[←hf2]at hf⊢
 have hb0:0≤(x.toNat:Int) - 240∧(x.toNat:Int) - 240<128:=by omega
 have HL:=hid hL
 have HN:=hid hn
 have HO:=hid hok
 have HF:=hid hf
 clear hL hn hok hf hf2
 go_enter Tryz.func158,Tryz.ntmps158
 go_wp2
 go_loop [3,4] (fun vr vk=>∃(k:Nat) (r:Int),1≤k∧k≤4∧vk=.int .i64 k∧vr=.int .i32 r∧0≤r∧r<4*room k∧Hid (fo r (t.drop (k - 1))=fo f t)) (fun _ vk=>4 - (intOf vk).toNat)
 case atStart=>exact⟨1,(x.toNat:Int) - 240,by omega,by omega,rfl,rfl,by omega,by have:room 1=32:=rfl;omega,by rw[HF.out];exact rfl⟩
 case round=>
  obtain⟨k,r,hk1,hk2,rfl,rfl,hr1,hr2,HT⟩:=hrel
  by_cases hlt:k<4
  ·obtain⟨hb1,hb2⟩:=uI k hk1 (by omega)
   have HB:=hid hb1
   clear hb1
   have hr3:r<524288:=by omega
   have hlx:k - 1<t.length:=by have:=HN.out;omega
   obtain⟨c,hc⟩:∃c,c=t[k - 1]:=⟨_,rfl⟩
   have hcell:w.cell? ⟨b,off+k,none⟩=some (.int .u8 (c.toNat:Int)):=by
    rw[HL.out k (by simp;omega),hc]
    obtain⟨i,rfl⟩:∃i,k=i+1:=⟨k - 1,by omega⟩
    simp
   obtain⟨hc1,hc2⟩:=HO.out c (by rw[hc];exact List.getElem_mem _)
   have HD:Hid (fo (r*64+((c.toNat:Int) - 128)) (t.drop k)=fo f t):=by
    have e:=HT.out
    rw[List.drop_eq_getElem_cons hlx,←hc,show k - 1+1=k by omega]at e
    rw[show(c.toNat:Int) - 128=(c.toNat:Int)%64 by omega]
    exact e
   clear hc HT
   go_wp2
   go_round
   case rel=>exact⟨k+1,r*64+((c.toNat:Int) - 128),by omega,by omega,by go_num,int_eq (by omega),by omega,by rw[HB.out];omega,HD⟩
   case measure=>simp[intOf];omega
  ·obtain rfl:k=4:=by omega
   have HE:Hid (fo f t=r):=by
    have e:=HT.out
    rw[List.drop_of_length_le (by have:=HN.out;omega)]at e
    exact e.symm
   go_wp2
   go_ret
   rw[HE.out]
   exact⟨rfl,rfl⟩
theorem aeC (b off n cap:Nat) (x:UInt8) (t:List UInt8) (w:World) (h:aY w (some ⟨b,off,none⟩) n (ah (x::t))) (hm:n≤16):
  Calls Tryz.prog 157 #[.slice (some ⟨b,off,none⟩) n cap] w fun e w'=>e=.returned (.tuple #[.bool (st (x::t)).1,.bool (st (x::t)).2])∧w=w':=by
 have hn:t.length+1=n:=by have:=h.1;rw[aI]at this;exact this
 have hL:∀j (hj:j<(x::t).length),w.cell? ⟨b,off+j,none⟩=some (.int .u8 ((x::t)[j].toNat:Int)):=fun j hj=>h.byte j hj
 by_cases a:(x.toNat:Int)<128
 ·exact anF b off cap x t n w hn hm (by unfold size;(repeat' split)<;>omega) hL a _ rfl
 by_cases b0:(x.toNat:Int)≤193
 ·exact aiL b off cap x t n w hn hm (by unfold size;(repeat' split)<;>omega) hL (by omega) b0 _ rfl
 by_cases b1:(x.toNat:Int)≤223
 ·exact anG b off cap x t n w hn hm (by unfold size;(repeat' split)<;>omega) hL (by omega) b1 _ rfl
 by_cases b2:(x.toNat:Int)≤239
 ·exact anH b off cap x t n w hn hm (by unfold size;(repeat' split)<;>omega) hL (by omega) b2 _ rfl
 by_cases b3:(x.toNat:Int)≤244
 ·exact anI b off cap x t n w hn hm (by unfold size;(repeat' split)<;>omega) hL (by omega) b3 _ rfl
 ·exact aiM b off cap x t n w hn hm (by unfold size;(repeat' split)<;>omega) hL (by omega) _ rfl
theorem bf (b off n cap:Nat) (x:UInt8) (t:List UInt8) (w:World) (h:aY w (some ⟨b,off,none⟩) n (ah (x::t))) (hs:st (x::t)=(true,true)):
  Calls Tryz.prog 158 #[.slice (some ⟨b,off,none⟩) n cap] w fun e w'=>e=.returned (.int .i32 (fo (first x.toNat) t))∧w=w':=by
 have hn:t.length+1=n:=by have:=h.1;rw[aI]at this;exact this
 have hL:∀j (hj:j<(x::t).length),w.cell? ⟨b,off+j,none⟩=some (.int .u8 ((x::t)[j].toNat:Int)):=fun j hj=>h.byte j hj
 obtain⟨h1,h2,h3,h4⟩:=JC x t true hs
 have h5:(t.length:Int)+1=size x.toNat:=by simpa using h4.symm
 have h6:=size_le x.toNat
 have hx0:0≤(x.toNat:Int):=by omega
 have hcase:n=1∨n=2∨n=3∨n=4:=by omega
 rcases hcase with rfl|rfl|rfl|rfl
 ·exact amF b off cap x t w (by omega) (by
    have e:size x.toNat=1:=by omega
    unfold size at e;(repeat' split at e)<;>omega) hL h2
 ·have e:194≤(x.toNat:Int)∧(x.toNat:Int)≤223:=by
   have e:size x.toNat=2:=by omega
   unfold size at e
   (repeat' split at e)<;>omega
  exact amG b off cap x t w (by omega) e.1 e.2 hL h2
 ·have e:224≤(x.toNat:Int)∧(x.toNat:Int)≤239:=by
   have e:size x.toNat=3:=by omega
   unfold size at e
   (repeat' split at e)<;>omega
  exact amH b off cap x t w (by omega) e.1 e.2 hL h2
 ·have e:240≤(x.toNat:Int)∧(x.toNat:Int)≤244:=by
   have e:size x.toNat=4:=by omega
   unfold size at e
   (repeat' split at e)<;>omega
  exact amI b off cap x t w (by omega) e.1 e.2 hL h2
end Go.Proofs.YtmpeaoacaecgpaaGreatDoor.RefM
namespace Go.Proofs.YtmpeaoacaecgpaaGreatDoor.RefC
open Go.RowKit Base Base2 acU
def ahf (r:Int):Bool:=decide (Cc r)
theorem C9 (r:Int) (w:World):Calls Tryz.prog 253 #[.int .i32 r] w fun e w'=>e=.returned (.bool (ahf r))∧w=w':=by
 go_enter Tryz.func253,Tryz.ntmps253
 go_wp2
 all_goals
  go_ret
  exact⟨ak (by unfold ahf Cc;rw[Bool.eq_iff_iff];simp;omega),rfl⟩
theorem made (w:World) (xs:List Value) (n:Nat) (t:TypeId) (hn:xs.length=n):aY (w.alloc (.cells xs.toArray t)) (some ⟨w.heap.size,0,none⟩) n xs:=
 aY.jF hn (by simp) (fun j hj=>by
  rw[Nat.zero_add,World.cell?_alloc_mark]
  simp)
theorem rds_at {w:World} {g o n:Nat} {xs:List Value} (h:aY w (some ⟨g,o,none⟩) n xs):∀j u,xs[j]?=some u→w.cell? ((⟨g,o,none⟩:Addr).add j)=some u:=by
 intro j u hu
 obtain⟨hj,e⟩:=List.getElem?_eq_some_iff.1 hu
 obtain⟨b,off,e1,_,hc⟩:=h.2 j hj
 injection e1 with e1
 injection e1 with e2 e3
 subst e2 e3
 have ha:(⟨g,o,none⟩:Addr).add j=⟨g,o+j,none⟩:=by
  unfold Addr.add
  split<;>simp_all
 rw[ha,hc,e]
def Zv (w:World) (r:Int) (e:Ending) (w':World):Prop:=
 ∃A c,e=.returned (.slice A (Lib.encodeRune r).length c)∧aY w' A (Lib.encodeRune r).length (ah (Lib.encodeRune r))∧(∃g o,A=some ⟨g,o,none⟩)∧(Lib.encodeRune r).length≤c∧Below w.heap.size w w'
theorem fin (w:World) (news:List Value) (n:Nat) (r:Int) (h:ah (Lib.encodeRune r)=news) (hn:news.length=n):
  Zv w r (.returned (.slice (some ⟨w.heap.size,0,none⟩) n n)) (w.alloc (.cells news.toArray 5)):=by
 have hl:(Lib.encodeRune r).length=n:=by rw[←aI,h,hn]
 unfold Zv
 rw[h,hl]
 exact⟨_,n,rfl,made w news n _ hn,⟨_,_,rfl⟩,Nat.le_refl _,(Below.refl _ _).alloc (Nat.le_refl _) _⟩
theorem one_chr (r:Int) (hc:Cc r) (w:World):Calls Tryz.prog 156 #[.int .i32 r] w (Zv w r):=by
 have hB:Hid (ahf r=true):=by unfold Hid ahf;simpa using hc
 obtain⟨h0,h1,h2⟩:=hc
 by_cases a:r≤127
 ·have a':r<128:=by omega
  have e1:=hid (jw r h0 (by omega))
  have HE:=hid (enc1 r h0 a)
  clear h2
  go_enter Tryz.func156,Tryz.ntmps156
  go_wp2_with fail
  refine(C9 _ _).mono ?_
  rintro e w1 ⟨rfl,rfl⟩
  rw[hB.out]
  go_wp2
  go_ret
  exact fin w [.int .u8 r] 1 r (by
   rw[HE.out]
   simp only[ah,List.map_cons,List.map_nil,e1.out]) rfl
 by_cases b:r≤2047
 ·have a':¬r<128:=by omega
  have b':r<2048:=by omega
  have e1:=hid (jw (192+r / 64) (by omega) (by omega))
  have e2:=hid (jw (128+r%64) (by omega) (by omega))
  have HE:=hid (enc2 r (by omega) b)
  clear h2 a b
  go_enter Tryz.func156,Tryz.ntmps156
  go_wp2_with fail
  refine(C9 _ _).mono ?_
  rintro e w1 ⟨rfl,rfl⟩
  rw[hB.out]
  go_wp2
  go_ret
  exact fin w [.int .u8 (192+r / 64),.int .u8 (128+r%64)] 2 r (by
   rw[HE.out]
   simp only[ah,List.map_cons,List.map_nil,e1.out,e2.out]) rfl
 by_cases c:r≤65535
 ·have b':¬r<2048:=by omega
  have c':r<65536:=by omega
  have e1:=hid (jw (224+r / 4096) (by omega) (by omega))
  have e2:=hid (jw (128+r / 64%64) (by omega) (by omega))
  have e3:=hid (jw (128+r%64) (by omega) (by omega))
  have HE:=hid (enc3 r (by omega))
  clear h2 a b c
  go_enter Tryz.func156,Tryz.ntmps156
  go_wp2_with fail
  refine(C9 _ _).mono ?_
  rintro e w1 ⟨rfl,rfl⟩
  rw[hB.out]
  go_wp2
  go_ret
  exact fin w [.int .u8 (224+r / 4096),.int .u8 (128+r / 64%64),.int .u8 (128+r%64)] 3 r (by
   rw[HE.out]
   simp only[ah,List.map_cons,List.map_nil,e1.out,e2.out,e3.out]) rfl
 have c':¬r<65536:=by omega
 have e1:=hid (jw (240+r / 262144) (by omega) (by omega))
 have e2:=hid (jw (128+r / 4096%64) (by omega) (by omega))
 have e3:=hid (jw (128+r / 64%64) (by omega) (by omega))
 have e4:=hid (jw (128+r%64) (by omega) (by omega))
 have HE:=hid (enc4 r (by omega) h1)
 clear h2 a b c
 go_enter Tryz.func156,Tryz.ntmps156
 go_wp2_with fail
 refine(C9 _ _).mono ?_
 rintro e w1 ⟨rfl,rfl⟩
 rw[hB.out]
 go_wp2
 go_ret
 exact fin w [.int .u8 (240+r / 262144),.int .u8 (128+r / 4096%64),.int .u8 (128+r / 64%64),.int .u8 (128+r%64)] 4 r (by
  rw[HE.out]
  simp only[ah,List.map_cons,List.map_nil,e1.out,e2.out,e3.out,e4.out]) rfl
theorem one_bad (r:Int) (hc:¬Cc r) (w:World):Calls Tryz.prog 156 #[.int .i32 r] w (Zv w r):=by
 have hB:Hid (ahf r=false):=by unfold Hid ahf;simpa using hc
 have HE:Hid (Lib.encodeRune r=[239,191,189]):=by
  show Lib.encodeRune r=[239,191,189]
  rw[encBad r hc]
  decide
 clear hc
 go_enter Tryz.func156,Tryz.ntmps156
 go_wp2_with fail
 refine(C9 _ _).mono ?_
 rintro e w1 ⟨rfl,rfl⟩
 rw[hB.out]
 go_wp2
 go_ret
 exact fin w [.int .u8 239,.int .u8 191,.int .u8 189] 3 r (by rw[HE.out];rfl) rfl
theorem one_any (r:Int) (w:World):Calls Tryz.prog 156 #[.int .i32 r] w (Zv w r):=by
 by_cases h:Cc r
 ·exact one_chr r h w
 exact one_bad r h w
theorem Rn (A:Option Addr) (n cap:Nat) (l:List Int) (w:World) (h:aY w A n (gV .i32 l)) (hm:n≤1073741824):
  Calls Tryz.prog 60 #[.slice A n cap] w fun e w'=>∃v,e=.returned v∧w'.ownsRow w.heap.size 5 1 v (BI.enc l).length (ah (BI.enc l))∧Below w.heap.size w w':=by
 have hl:l.length=n:=by rw[←jA .i32];exact h.1
 have HL:=hid hl
 clear hl
 obtain⟨i0,hi,hz0,hz1,hz2⟩:=info_parts iR
 have HH:=hid h
 clear h
 go_enter Tryz.func60,Tryz.ntmps60
 go_wp2
 go_loopw [3,7] (fun v vk wr=>∃(k:Nat),k≤n∧vk=.int .i64 k∧wr.ownsRow w.heap.size 5 1 v (BI.enc (l.take k)).length (ah (BI.enc (l.take k)))∧Below w.heap.size w wr) (fun _ vk _=>n - (intOf vk).toNat)
 case atStart=>exact⟨0,Nat.zero_le _,rfl,World.ownsRow_nil _ _ _ _,Below.refl _ _⟩
 case round =>
  obtain⟨k,hk,rfl,hown,hbel⟩:=hrel
  by_cases hlt:k<n
  ·obtain ⟨b,off,rfl,hb,_⟩:=(HH.out).spot (by omega)
   obtain⟨r,hx⟩:∃r,r=l[k]'(by rw[HL.out];exact hlt):=⟨_,rfl⟩
   have hcell:wr.cell? ⟨b,off+k,none⟩=some (.int .i32 r):=by
    rw[hx,←HH.out.int k (by rw[HL.out];exact hlt)]
    exact hbel.cell (p:=⟨b,off+k,none⟩) hb
   have HS:Hid (l.take (k+1)=l.take k++[r]):=by
    rw[hx]
    exact List.take_succ_eq_append_getElem (by rw[HL.out];exact hlt)
   clear hx
   have hle:=(BI.iW (l.take k)).1
   have hle2:(l.take k).length≤k:=List.length_take_le _ _
   have hle3:=BI.Jy r
   obtain⟨m,hmm⟩:∃m,m=(BI.enc (l.take k)).length:=⟨_,rfl⟩
   rw[←hmm]at hle hown
   have HM:=hid hmm
   clear hmm
   obtain⟨q,hq⟩:∃q,q=(Lib.encodeRune r).length:=⟨_,rfl⟩
   rw[←hq]at hle3
   have HQ:=hid hq
   clear hq
   go_wp2_with fail
   refine(one_any _ _).mono ?_
   rintro e w1 ⟨A1,c1,rfl,hr1,⟨g,o,rfl⟩,hc1,hb1⟩
   rw[←HQ.out]at hr1 hc1⊢
   have hown1:=aP hown hb1
   have gW:=hbel.trans (hb1.mono hbel.size)
   clear hown hbel
   go_wp2_with (at_builtin;refine wpList_append_own _ rfl _ _ 45 rfl w.heap.size 5 i0 (.int .u8 0) 1 1 Tryz.underlying45 hi hz0 hz1 hz2 rfl (by decide) _ m _ rfl hown1 ⟨g,o,none⟩ q c1 (ah (Lib.encodeRune r)) rfl (by rw[aI,←HQ.out,Nat.mul_one]) (rds_at hr1) (nR _) (by unfold maxLen;omega) (by omega) gW.size ?_)
   intro v' w2 hown2 hg2 _
   have dZ:Below w.heap.size w w2:=gW.grown hg2 gW.size (fun g hg=>(hown1.lt g hg).1)
   clear hown1 gW hg2
   go_wp2
   go_roundw
   case rel=>exact⟨k+1,by omega,by go_num,by
     rw[HS.out,BI.rM,List.length_append,aS,←HM.out,←HQ.out]
     exact hown2,dZ⟩
   case measure=>simp[intOf];omega
  ·obtain rfl:k=n:=by omega
   have HE:Hid (l.take k=l):=by
    rw[←HL.out];exact List.take_length
   go_wp2
   go_ret
   exact⟨_,rfl,by rw[HE.out]at hown;exact hown,hbel⟩
end Go.Proofs.YtmpeaoacaecgpaaGreatDoor.RefC
namespace Go.Proofs.YtmpeaoacaecgpaaGreatDoor.RefD
open Go.RowKit Base Base2 qh RefS RefN RefM
def akr (L:List UInt8) (j:Nat) (wh:Bool):Prop:=j=0∧wh=false∨1≤j∧j≤L.length∧st (L.take j)=(true,wh)
theorem LG (x:UInt8) (T:List UInt8) (j:Nat) (wh:Bool) (h:akr (x::T) j wh) (hend:wh=true∨j=T.length+1∨j≤T.length∧(st ((x::T).take (j+1))).1=false):
  (wh=true→rd (x::T)=(fo (first x.toNat) ((x::T).take j).tail,(j:Int),true)∧st ((x::T).take j)=(true,true)∧1≤j∧j≤T.length+1)∧(wh=false→rd (x::T)=(65533,((max j 1:Nat):Int),false)):=by
 constructor
 ·rintro rfl
  rcases h with⟨_,h⟩|⟨h1,h2,h3⟩
  ·cases h
  ·obtain⟨i,rfl⟩:∃i,j=i+1:=⟨j - 1,by omega⟩
   rw[List.take_succ_cons]at h3⊢
   have e:=an2 x (T.take i) (T.drop i) h3
   rw[List.take_append_drop]at e
   refine⟨?_,h3,by omega,by simpa using h2⟩
   rw[e]
   simp only[List.tail_cons,List.length_take,List.length_cons]at h2⊢
   refine Prod.ext rfl (Prod.ext ?_ rfl)
   simp only
   omega
 ·rintro rfl
  rcases h with⟨rfl,_⟩|⟨h1,h2,h3⟩
  ·rcases hend with h|h|⟨_,h⟩
   ·cases h
   ·omega
   ·rw[List.take_succ_cons,List.take_zero]at h
    exact none_rd x T h
  ·obtain ⟨i,rfl⟩:∃i,j=i+1:=⟨j - 1,by omega⟩
   rw[List.take_succ_cons]at h3
   simp only[List.length_cons]at h2
   have e:=part_rd x (T.take i) (T.drop i) h3 (by
    rcases hend with h|h|⟨h4,h⟩
    ·cases h
    ·exact .inl (List.drop_of_length_le (by omega))
    ·refine .inr ⟨T[i],T.drop (i+1),List.drop_eq_getElem_cons (by omega),?_⟩
     rw[List.take_succ_cons,List.take_succ_eq_append_getElem (by omega)]at h
     exact h)
   rw[List.take_append_drop]at e
   rw[e]
   refine Prod.ext rfl (Prod.ext ?_ rfl)
   simp only[List.length_take]
   omega
theorem abD (L:List UInt8) (j:Nat) (wh:Bool) (h:akr L j wh):j≤4∧j≤L.length:=by
 rcases h with⟨rfl,_⟩|⟨h1,h2,h3⟩
 ·exact⟨by omega,by omega⟩
 obtain⟨x,T,rfl⟩:∃x T,L=x::T:=by
  cases L with
  |nil=>simp at h2;omega
  |cons x T=>exact⟨x,T,rfl⟩
 obtain⟨i,rfl⟩:∃i,j=i+1:=⟨j - 1,by omega⟩
 rw[List.take_succ_cons]at h3
 obtain⟨h4,_⟩:=JC x _ _ h3
 have:=size_le x.toNat
 simp only[List.length_take,List.length_cons]at h4 h2
 exact⟨by omega,by simp;omega⟩
def KT:Value→Nat
 | .slice _ n _=>n
 |_=>0
theorem decode_any (A0:Option Addr) (n0 cap0:Nat) (L:List UInt8) (w:World) (h:aY w A0 n0 (ah L)) (hm:n0≤1073741824) (hcap:n0≤cap0):
  Calls Tryz.prog 61 #[.slice A0 n0 cap0] w fun e w'=>∃v,e=.returned v∧w'.ownsRow w.heap.size 21 1 v (dec L).length (gV .i32 (dec L))∧Below w.heap.size w w':=by
 have hl:L.length=n0:=by rw[←aI];exact h.1
 have HL:=hid hl
 clear hl
 obtain⟨i0,hi,hz0,hz1,hz2⟩:=info_parts info21
 have HH:=hid h
 clear h
 go_enter Tryz.func61,Tryz.ntmps61
 go_wp2
 go_loopw [0,3] (fun vb v wr=>∃(A:Option Addr) (n cap:Nat) (R:List UInt8) (acc:List Int),n≤cap∧acc.length+n≤1073741824∧vb=.slice A n cap∧aY w A n (ah R)∧wr.ownsRow w.heap.size 21 1 v acc.length (gV .i32 acc)∧Below w.heap.size w wr∧Hid (acc++dec R=dec L)) (fun vb _ _=>KT vb)
 case atStart=>exact⟨A0,n0,cap0,L,[],hcap,by simpa using hm,rfl,HH.out,World.ownsRow_nil _ _ _ _,Below.refl _ _,rfl⟩
 case round =>
  clear HH HL hcap hm
  obtain⟨A,n,cap,R,acc,hcap,hlen,rfl,hr,hown,hbel,HT⟩:=hrel
  cases R with
  |nil=>
   have hn0:n=0:=by have:=hr.1;simp[ah]at this;omega
   subst hn0
   clear hr
   have HE:Hid (acc=dec L):=by
    have e:=HT.out
    rw[lT,List.append_nil]at e
    exact e
   go_wp2
   go_ret
   exact⟨_,rfl,by rw[←HE.out];exact hown,hbel⟩
  | cons x T=>
   have hn1:n=T.length+1:=by have:=hr.1;rw[aI]at this;exact this.symm
   obtain⟨b,off,rfl,hb,_⟩:=hr.spot (by omega)
   have hp:0<n:=by omega
   have HLEN:=hid hn1
   clear hn1
   have hrw:aY wr (some ⟨b,off,none⟩) n (ah (x::T)):=hr.below hbel
   have HRW:=hid hrw
   have HR:=hid hr
   clear hrw hr
   go_wp2
   go_loop [4,5,6,7] (fun vn vw _ _=>∃(j:Nat) (wh:Bool),j≤n∧j≤4∧vn=.int .i64 j∧vw=.bool wh∧Hid (akr (x::T) j wh)) (fun vn _ _ _=>n - (intOf vn).toNat)
   case atStart=>exact⟨0,false,Nat.zero_le _,by omega,rfl,rfl,.inl ⟨rfl,rfl⟩⟩
   case round=>
    obtain⟨j,wh,hj,hj4,rfl,rfl,HS⟩:=hrel
    cases wh with
    | true=>
     obtain⟨hrd,hst,hj1,hjT⟩:=(LG x T j true HS.out (.inl rfl)).1 rfl
     have uq:=hid hrd
     have hcut:Hid (aY wr (some ⟨b,off,none⟩) j (ah (x::((x::T).take j).tail))):=by
      have:=HRW.out.upto j hj
      rw[←lC]at this
      obtain⟨i,rfl⟩:∃i,j=i+1:=⟨j - 1,by omega⟩
      exact this
     have hst':Hid (st (x::((x::T).take j).tail)=(true,true)):=by
      obtain⟨i,rfl⟩:∃i,j=i+1:=⟨j - 1,by omega⟩
      exact hst
     clear hrd hst
     have hjc:(j:Int)≤(cap:Int):=by omega
     obtain⟨q,hq⟩:∃q,q=fo (first x.toNat) ((x::T).take j).tail:=⟨_,rfl⟩
     have HQ:=hid hq
     clear hq
     by_cases hlt:j<n
     all_goals
      go_wp2_with fail
      refine(bf b off j cap x ((x::T).take j).tail _ hcut.out hst'.out).mono ?_
      rintro e w1 ⟨rfl,rfl⟩
      rw[←HQ.out]
      go_wp2_with (at_builtin;refine aQ rfl _ _ 73 rfl w.heap.size 21 i0 (.int .i32 0) 4 Tryz.underlying73 hi hz0 hz1 hz2 rfl _ acc.length _ rfl hown hbel hbel.size [.int .i32 (q)] 1 rfl rfl (by intro u hu;simp at hu;subst hu;rfl) (by unfold maxLen;omega) (by omega) ?_)
      intro v' w3 hown3 dG
      clear hown hbel
      have OI:Hid (dec (x::T)=(q)::dec ((x::T).drop (j))):=by
       rw[iK,uq.out,←HQ.out]
       exact rfl
      by_cases hcm:cap=j
      ·have hnm:n=j:=by omega
       have OL:Hid ((x::T).drop (j)=[]):=List.drop_of_length_le (by have:=HLEN.out;rw[List.length_cons];omega)
       go_wp2
       go_roundw
       case rel=>exact⟨some ⟨b,off,none⟩,0,0,[],acc++[q],by omega,by simp;omega,(by first|(simp;done)|(simp;omega)),aY.nil _,by rw[iE,List.length_append];exact hown3,dG,by
         have e:=HT.out
         rw[OI.out,OL.out]at e
         rw[List.append_assoc]
         exact e⟩
       case measure=>simp[KT];omega
      ·go_wp2
       go_roundw
       case rel=>exact⟨some ⟨b,off+(j),none⟩,n - (j),cap - (j),(x::T).drop (j),acc++[q],by omega,by simp;omega,(by first|rfl|(simp;done)|(simp;omega)),by rw[jl];exact HR.out.cut _ (by omega),by rw[iE,List.length_append];exact hown3,dG,by
         have e:=HT.out
         rw[OI.out]at e
         rw[List.append_assoc]
         exact e⟩
       case measure=>simp[KT];omega
    | false =>
     by_cases hlt:j<n
     ·have hcut:Hid (aY wr (some ⟨b,off,none⟩) (j+1) (ah (x::T.take j))):=by
       have:=HRW.out.upto (j+1) (by omega)
       rw[←lC,List.take_succ_cons]at this
       exact this
      have hcm:(j:Int)+1≤(cap:Int):=by omega
      obtain⟨p,hpp⟩:∃p,p=st (x::T.take j):=⟨_,rfl⟩
      have HP:=hid hpp
      clear hpp
      go_wp2_with fail
      refine(aeC b off (j+1) cap x (T.take j) _ hcut.out (by omega)).mono ?_
      rintro e w1 ⟨rfl,rfl⟩
      rw[←HP.out]
      obtain⟨ok,is⟩:=p
      cases ok with
      | true=>
       go_wp2
       go_round
       case rel=>exact⟨j+1,is,by omega,by
         have:=(abD (x::T) (j+1) is (.inr ⟨by omega,by simp;have:=HLEN.out;omega,by rw[List.take_succ_cons];exact HP.out.symm⟩)).1
         omega,by go_num,rfl,.inr ⟨by omega,by simp;have:=HLEN.out;omega,by rw[List.take_succ_cons];exact HP.out.symm⟩⟩
       case measure=>simp[intOf];omega
      | false=>
       have uq:Hid (rd (x::T)=(65533,((max j 1:Nat):Int),false)):=(LG x T j false HS.out (.inr (.inr ⟨by have:=HLEN.out;omega,by rw[List.take_succ_cons,←HP.out]⟩))).2 rfl
       by_cases hj0:j=0
       ·subst hj0
        go_wp2_with (at_builtin;refine aQ rfl _ _ 73 rfl w.heap.size 21 i0 (.int .i32 0) 4 Tryz.underlying73 hi hz0 hz1 hz2 rfl _ acc.length _ rfl hown hbel hbel.size [.int .i32 (65533)] 1 rfl rfl (by intro u hu;simp at hu;subst hu;rfl) (by unfold maxLen;omega) (by omega) ?_)
        intro v' w3 hown3 dG
        clear hown hbel
        have OI:Hid (dec (x::T)=(65533)::dec ((x::T).drop (1))):=by
         rw[iK,uq.out]
         exact rfl
        by_cases hcm:cap=1
        ·have hnm:n=1:=by omega
         have OL:Hid ((x::T).drop (1)=[]):=List.drop_of_length_le (by have:=HLEN.out;rw[List.length_cons];omega)
         go_wp2
         go_roundw
         case rel=>exact⟨some ⟨b,off,none⟩,0,0,[],acc++[65533],by omega,by simp;omega,(by first|(simp;done)|(simp;omega)),aY.nil _,by rw[iE,List.length_append];exact hown3,dG,by
           have e:=HT.out
           rw[OI.out,OL.out]at e
           rw[List.append_assoc]
           exact e⟩
         case measure=>simp[KT];omega
        ·go_wp2
         go_roundw
         case rel=>exact⟨some ⟨b,off+(1),none⟩,n - (1),cap - (1),(x::T).drop (1),acc++[65533],by omega,by simp;omega,(by first|rfl|(simp;done)|(simp;omega)),by rw[jl];exact HR.out.cut _ (by omega),by rw[iE,List.length_append];exact hown3,dG,by
           have e:=HT.out
           rw[OI.out]at e
           rw[List.append_assoc]
           exact e⟩
         case measure=>simp[KT];omega
       ·have hj1:1≤j:=by omega
        have hmx:Hid (max j 1=j):=by show max j 1=j;omega
        rw[hmx.out]at uq
        go_wp2_with (at_builtin;refine aQ rfl _ _ 73 rfl w.heap.size 21 i0 (.int .i32 0) 4 Tryz.underlying73 hi hz0 hz1 hz2 rfl _ acc.length _ rfl hown hbel hbel.size [.int .i32 (65533)] 1 rfl rfl (by intro u hu;simp at hu;subst hu;rfl) (by unfold maxLen;omega) (by omega) ?_)
        intro v' w3 hown3 dG
        clear hown hbel
        have OI:Hid (dec (x::T)=(65533)::dec ((x::T).drop (j))):=by
         rw[iK,uq.out]
         exact rfl
        by_cases hcm:cap=j
        ·have hnm:n=j:=by omega
         have OL:Hid ((x::T).drop (j)=[]):=List.drop_of_length_le (by have:=HLEN.out;rw[List.length_cons];omega)
         go_wp2
         go_roundw
         case rel=>exact⟨some ⟨b,off,none⟩,0,0,[],acc++[65533],by omega,by simp;omega,(by first|(simp;done)|(simp;omega)),aY.nil _,by rw[iE,List.length_append];exact hown3,dG,by
           have e:=HT.out
           rw[OI.out,OL.out]at e
           rw[List.append_assoc]
           exact e⟩
         case measure=>simp[KT];omega
        ·go_wp2
         go_roundw
         case rel=>exact⟨some ⟨b,off+(j),none⟩,n - (j),cap - (j),(x::T).drop (j),acc++[65533],by omega,by simp;omega,(by first|rfl|(simp;done)|(simp;omega)),by rw[jl];exact HR.out.cut _ (by omega),by rw[iE,List.length_append];exact hown3,dG,by
           have e:=HT.out
           rw[OI.out]at e
           rw[List.append_assoc]
           exact e⟩
         case measure=>simp[KT];omega
     ·have hjn : j = n := by omega
      subst hjn
      have uq:Hid (rd (x::T)=(65533,((max j 1:Nat):Int),false)):=(LG x T j false HS.out (.inr (.inl HLEN.out))).2 rfl
      by_cases hj0:j=0
      ·exact absurd hp (by omega)
      ·have hj1:1≤j:=by omega
       have hmx:Hid (max j 1=j):=by show max j 1=j;omega
       rw[hmx.out]at uq
       go_wp2_with (at_builtin;refine aQ rfl _ _ 73 rfl w.heap.size 21 i0 (.int .i32 0) 4 Tryz.underlying73 hi hz0 hz1 hz2 rfl _ acc.length _ rfl hown hbel hbel.size [.int .i32 (65533)] 1 rfl rfl (by intro u hu;simp at hu;subst hu;rfl) (by unfold maxLen;omega) (by omega) ?_)
       intro v' w3 hown3 dG
       clear hown hbel
       have OI:Hid (dec (x::T)=(65533)::dec ((x::T).drop (j))):=by
        rw[iK,uq.out]
        exact rfl
       by_cases hcm:cap=j
       ·have hnm:j=j:=rfl
        have OL:Hid ((x::T).drop (j)=[]):=List.drop_of_length_le (by have:=HLEN.out;rw[List.length_cons];omega)
        go_wp2
        go_roundw
        case rel=>exact⟨some ⟨b,off,none⟩,0,0,[],acc++[65533],by omega,by simp;omega,(by first|(simp;done)|(simp;omega)),aY.nil _,by rw[iE,List.length_append];exact hown3,dG,by
          have e:=HT.out
          rw[OI.out,OL.out]at e
          rw[List.append_assoc]
          exact e⟩
        case measure=>simp[KT];omega
       ·go_wp2
        go_roundw
        case rel=>exact⟨some ⟨b,off+(j),none⟩,j - (j),cap - (j),(x::T).drop (j),acc++[65533],by omega,by simp;omega,(by first|rfl|(simp;done)|(simp;omega)),by rw[jl];exact HR.out.cut _ (by omega),by rw[iE,List.length_append];exact hown3,dG,by
          have e:=HT.out
          rw[OI.out]at e
          rw[List.append_assoc]
          exact e⟩
        case measure=>simp[KT];omega
end Go.Proofs.YtmpeaoacaecgpaaGreatDoor.RefD
namespace Go.Proofs.YtmpeaoacaecgpaaGreatDoor.akn
open Go.RowKit Base Base2 qh acU
theorem ku (L:List UInt8):(dec L).length≤L.length:=by
 have H:∀(n:Nat) (L:List UInt8),L.length≤n→(dec L).length≤L.length:=by
  intro n
  induction n with
  |zero=>intro L hl;obtain rfl:L=[]:=List.eq_nil_of_length_eq_zero (by omega);simp[lT]
  |succ n ih=>
   intro L hl
   cases L with
   |nil=>simp[lT]
   |cons x t=>
    have hs:=nJ x t
    rw[iK,List.length_cons,List.length_cons]
    have:=ih ((x::t).drop (rd (x::t)).2.1.toNat) (by simp only[List.length_drop,List.length_cons]at hl⊢;omega)
    simp only[List.length_drop,List.length_cons]at this
    omega
 exact H _ L (Nat.le_refl _)
theorem fF (A:Option Addr) (n cap:Nat) (L:List UInt8) (w:World) (h:aY w A n (ah L)) (hm:n≤1073741824) (hcap:n≤cap):
  Calls Tryz.prog 99 #[.slice A n cap] w fun e w'=>e=.returned (.bool (val L))∧Below w.heap.size w w':=by
 have hl:L.length=n:=by rw[←aI];exact h.1
 have HDL:Hid ((dec L).length≤1073741824):=by have:=ku L;show _≤_;omega
 have hs0:=aF 45 9 5 Tryz.underlying45 Tryz.underlying5 Tryz.underlying9 _ cap h
 have hs0':=aF 45 9 5 Tryz.underlying45 Tryz.underlying5 Tryz.underlying9 _ cap (uT h)
 have hbel0:Below w.heap.size w w:=Below.refl _ _
 have HV:Hid (((strOf (BI.enc (dec L))).toList==(strOf L).toList)=val L):=by
  show _=_
  rw[strOf,strOf,ByteArray.toList_mk,ByteArray.toList_mk,val_iff,Bool.eq_iff_iff]
  simp
 clear hl
 go_enter Tryz.func99,Tryz.ntmps99
 go_wp2
 go_region_with (first
  |(go_at_call 61;refine(RefD.decode_any _ _ _ L _ (by first|assumption|exact uT (by assumption)) hm hcap).mono ?_;rintro e w2 ⟨v,rfl,hown,hb2⟩;obtain⟨A2,c2,rfl,hc2,_,hr2⟩:=aJ hown;have dZ:Below w.heap.size w w2:=(by first|exact bel (by assumption) hb2|exact CY (by assumption) hb2);have hl2:aY w2 A n (ah L):=(by first|exact aY.below (by assumption) hb2|exact D5 (by assumption) hb2);have hs2:=aF 45 9 5 Tryz.underlying45 Tryz.underlying5 Tryz.underlying9 _ cap hl2;have hs2':=aF 45 9 5 Tryz.underlying45 Tryz.underlying5 Tryz.underlying9 _ cap (uT hl2);clear hown)
  |(go_at_call 60;refine(RefC.Rn _ _ _ (dec L) _ (by first|assumption|exact uT (by assumption)) HDL.out).mono ?_;rintro e w3 ⟨v,rfl,hown,hb3⟩;obtain⟨A3,c3,rfl,hc3,_,hr3⟩:=aJ hown;have dG:Below w.heap.size w w3:=(by first|exact bel (by assumption) hb3|exact CY (by assumption) hb3);have hl3:aY w3 A n (ah L):=(by first|exact aY.below (by assumption) hb3|exact D5 (by assumption) hb3);have hs3:=aF 45 9 5 Tryz.underlying45 Tryz.underlying5 Tryz.underlying9 _ cap hl3;have hs3':=aF 45 9 5 Tryz.underlying45 Tryz.underlying5 Tryz.underlying9 _ cap (uT hl3);have he3:=aF 45 9 5 Tryz.underlying45 Tryz.underlying5 Tryz.underlying9 _ c3 hr3;have he3':=aF 45 9 5 Tryz.underlying45 Tryz.underlying5 Tryz.underlying9 _ c3 (uT hr3);clear hown))
 all_goals
  go_wp2
  go_ret
  refine⟨ak ?_,by first|assumption|exact Below.drew (by assumption)⟩
  rw[←HV.out]
end Go.Proofs.YtmpeaoacaecgpaaGreatDoor.akn
namespace Go.Proofs.YtmpeaoacaecgpaaGreatDoor.WZ
open Go.RowKit Base Base2
theorem drop_at (s:ByteArray) (k:Nat) (h:k<s.size):s.data.toList.drop k=s[k]::s.data.toList.drop (k+1):=by
 have h':k<s.data.toList.length:=by rw[Array.length_toList];exact h
 rw[List.drop_eq_getElem_cons h']
 rfl
theorem Dl (c d:UInt8) (h:(c.toNat:Int)=(d.toNat:Int)):c=d:=UInt8.toNat_inj.1 (by omega)
end Go.Proofs.YtmpeaoacaecgpaaGreatDoor.WZ
namespace Go.Proofs.YtmpeaoacaecgpaaGreatDoor.Gn
open Go.RowKit Base Base2 dI WZ
def has (L:List UInt8) (c:UInt8):Bool:=L.contains c
theorem kC (s:ByteArray) (c:UInt8) (w:World) (hs:s.size≤1073741824):
  Calls Tryz.prog 85 #[.string s,.int .u8 (c.toNat:Int)] w fun e w'=>e=.returned (.bool (has s.data.toList c))∧w=w':=by
 have hl:s.data.toList.length=s.size:=Array.length_toList
 have HL:=hid hl
 clear hl
 go_enter Tryz.func85,Tryz.ntmps85
 go_wp2
 go_loop [8] (fun vk=>∃j:Nat,j≤s.size∧vk=.int .i64 j∧Hid (has s.data.toList c=has (s.data.toList.drop j) c)) (fun vk=>s.size - (intOf vk).toNat)
 case atStart=>exact⟨0,Nat.zero_le _,rfl,rfl⟩
 case round =>
  obtain⟨j,hj,rfl,HT⟩:=hrel
  by_cases hlt:j<s.size
  ·obtain ⟨d,hd⟩:∃d,s[j]=d:=⟨_,rfl⟩
   have HC:Hid (s.data.toList.drop j=d::s.data.toList.drop (j+1)):=by
    have:=drop_at s j hlt
    rw[hd]at this
    exact this
   by_cases h:(d.toNat:Int)=(c.toNat:Int)
   ·have e1:((d.toNat:Int)==(c.toNat:Int))=true:=by simp[h]
    have HV:Hid (has s.data.toList c=true):=by
     show _=_
     rw[HT.out,HC.out,Dl d c h]
     simp[has]
    clear h
    go_wp2
    go_ret
    rw[HV.out]
    exact⟨rfl,rfl⟩
   ·have e1:((d.toNat:Int)==(c.toNat:Int))=false:=by simp;omega
    have HV:Hid (has s.data.toList c=has (s.data.toList.drop (j+1)) c):=by
     show _=_
     rw[HT.out,HC.out,has,List.contains_cons,show(c==d)=false by simp;intro e;exact h (by rw[e]),Bool.false_or]
     rfl
    clear h
    go_wp2
    go_round
    case rel=>exact⟨j+1,by omega,by go_num,HV⟩
    case measure=>simp[intOf];omega
  ·obtain rfl:j=s.size:=by omega
   have HV:Hid (has s.data.toList c=false):=by
    show _=_
    rw[HT.out,←HL.out,List.drop_length]
    rfl
   go_wp2
   go_ret
   rw[HV.out]
   exact⟨rfl,rfl⟩
end Go.Proofs.YtmpeaoacaecgpaaGreatDoor.Gn
namespace Go.Proofs.YtmpeaoacaecgpaaGreatDoor.NI
open Go.RowKit Base Base2 Base3 sW yu Sls
open Go.Proofs.YtmpeaoacaecgpaaGreatDoor.pO (Max)
open Go.Proofs.YtmpeaoacaecgpaaGreatDoor.qh (val)
theorem tl (s:ByteArray):s.toList=s.data.toList:=Lib.toList_data s
theorem zQ {w:World} {A:Option Addr} {n:Nat} {l:List (List UInt8)} (h:aY w A n ((l.map strOf).map Value.string)) (k:Nat) (hk:k<n) (hl:l.length=n):∃g off,A=some ⟨g,off,none⟩∧g<w.heap.size∧w.cell? ⟨g,off+k,none⟩=some (.string (strOf (l[k]'(by omega)))):=by
 obtain⟨g,off,e,hg,hcell⟩:=h.spot (by omega)
 have hc:=hcell k (by rw[List.length_map,List.length_map];omega)
 simp only[List.getElem_map]at hc
 exact⟨g,off,e,hg,hc⟩
theorem abu (A : Option Addr) (n cap : Nat) (l : List (List UInt8)) (w : World) (hR : aY w A n ((l.map strOf).map Value.string)) (hm : n ≤ 1073741824) :
  Calls Tryz.prog 100 #[.slice A n cap] w fun e w'=>e=.returned (.bool (jO l&&decide (0<l.length)))∧w=w':=by
 have hl:l.length=n:=by rw[←hR.1,List.length_map,List.length_map]
 obtain⟨E,hE⟩:∃E,E=jO l:=⟨_,rfl⟩
 have HN:=hid hl
 have HR:=hid hR
 have HZ:Hid ((jO l&&decide (0<l.length))=(E&&decide (0<n))):=by show _=_;rw[hE,hl]
 have Uw:Hid (E=jO (l.drop 0)):=hE
 clear hl hR hE
 go_enter Tryz.func100,Tryz.ntmps100
 go_wp2
 go_loopw [3,6] (fun _ vk wr=>∃k:Nat,k≤n∧vk=.int .i64 (k:Int)∧wr=w∧Hid (E=jO (l.drop k))) (fun _ vk _=>n - (intOf vk).toNat)
 case atStart=>exact⟨0,Nat.zero_le _,rfl,rfl,Uw⟩
 case round=>
  clear Uw
  obtain⟨k,hk,rfl,rfl,HE⟩:=hrel
  by_cases hlt:k<n
  ·obtain ⟨g,off,rfl,hg,hc⟩:=zQ HR.out k hlt HN.out
   obtain⟨x,hx⟩:∃x,x=l[k]'(by rw[HN.out];exact hlt):=⟨_,rfl⟩
   rw[←hx]at hc
   have hok:=QS l k (by rw[HN.out];exact hlt)
   rw[show l[k]'(by rw[HN.out];exact hlt)=x from hx.symm,HN.out]at hok
   by_cases h1:x=[46]
   ·have f1:((strOf x).toList==[46])=true:=by rw[tl,h1];rfl
    have HE2:Hid (E=false):=by show _=_;rw[HE.out,hok];simp[tH,h1]
    clear hok hx h1
    go_wp2
    go_ret
    exact⟨by rw[HZ.out,HE2.out];rfl,rfl⟩
   ·have f1:((strOf x).toList==[46])=false:=by rw[tl,beq_eq_false_iff_ne];exact h1
    by_cases h2:x=[46,46]
    ·have f2:((strOf x).toList==[46,46])=true:=by rw[tl,h2];rfl
     have HE2:Hid (E=false):=by show _=_;rw[HE.out,hok];simp[tH,h2]
     clear hok hx h1 h2
     go_wp2
     go_ret
     exact⟨by rw[HZ.out,HE2.out];rfl,rfl⟩
    ·have f2:((strOf x).toList==[46,46])=false:=by rw[tl,beq_eq_false_iff_ne];exact h2
     by_cases h3:x=[]
     ·have f3:(strOf x).toList=[]:=by rw[tl];exact h3
      by_cases hla:k+1=n
      ·have hli:¬(k:Int)<(n:Int) - 1:=by omega
       have HE2:Hid (E=jO (l.drop (k+1))):=by show _=_;rw[HE.out,hok];simp[tH,h1,h2,h3,hla]
       clear hok hx h1 h2 h3 hla
       go_wp2
       go_roundw
       case rel=>exact⟨k+1,by omega,by go_num,by first|rfl|trivial,HE2⟩
       case measure=>simp[intOf];omega
      ·have hli:(k:Int)<(n:Int) - 1:=by omega
       have HE2:Hid (E=false):=by show _=_;rw[HE.out,hok];simp[tH,h1,h2,h3,hla]
       clear hok hx h1 h2 h3 hla
       go_wp2
       go_ret
       exact⟨by rw[HZ.out,HE2.out];rfl,rfl⟩
     ·have f3:((strOf x).toList==[])=false:=by rw[tl,beq_eq_false_iff_ne];exact h3
      have f3':(strOf x).toList.isEmpty=false:=by rw[tl];simpa[strOf]using h3
      have HE2:Hid (E=jO (l.drop (k+1))):=by show _=_;rw[HE.out,hok];simp[tH,h1,h2,h3]
      clear hok hx h1 h2 h3
      go_wp2
      go_roundw
      case rel=>exact⟨k+1,by omega,by go_num,by first|rfl|trivial,HE2⟩
      case measure=>simp[intOf];omega
  ·obtain rfl:k=n:=by omega
   have HE2:Hid (E=true):=by show _=_;rw[HE.out,List.drop_eq_nil_of_le (by rw[HN.out];exact Nat.le_refl _)];rfl
   by_cases h0:0<k
   ·have h0i:(0:Int)<(k:Int):=by omega
    go_wp2
    go_ret
    exact⟨by rw[HZ.out,HE2.out];simp[h0],rfl⟩
   ·obtain rfl:k=0:=by omega
    go_wp2
    go_ret
    exact⟨by rw[HZ.out,HE2.out];rfl,rfl⟩
end Go.Proofs.YtmpeaoacaecgpaaGreatDoor.NI
namespace Go.Proofs.YtmpeaoacaecgpaaGreatDoor.aj7
open Go.RowKit Base Base2 Base3 sW yu Sls NI
open Go.Proofs.YtmpeaoacaecgpaaGreatDoor.pO (Max)
open Go.Proofs.YtmpeaoacaecgpaaGreatDoor.qh (val)
theorem pre47:∀L:List UInt8,Lib.hasPrefix L [47]=decide (L.head?=some 47)
 |[]=>rfl
 |c::L=>by
  by_cases h:c=47
  ·subst h
   rw[decide_eq_true (show(47::L).head?=some 47 from rfl)]
   simp[Lib.hasPrefix,List.isPrefixOf]
  ·rw[decide_eq_false (by simpa using h)]
   simp only[Lib.hasPrefix,List.isPrefixOf,Bool.and_true,beq_eq_false_iff_ne,ne_eq]
   exact fun e=>h e.symm
theorem ext1 (s:ByteArray):(s.extract 1 s.size).data.toList=s.data.toList.drop 1:=by
 rw[Regs.ext_drop s 1 s.size rfl]
 rfl
theorem ext1_size (s:ByteArray):(s.extract 1 s.size).size≤s.size:=by rw[ByteArray.size_extract];omega
theorem oW (s:ByteArray) (w:World) (hs:s.size≤900000) (hM:Max w):
  Calls Tryz.prog 42 #[.string s] w fun e w'=>e=.returned (.bool (fine s.data.toList))∧Below w.heap.size w w':=by
 have hl:s.data.toList.length=s.size:=Array.length_toList
 obtain⟨b,hb⟩:∃b,b=fine s.data.toList:=⟨_,rfl⟩
 rw[←hb]
 obtain⟨v,hv⟩:∃v,v=val s.data.toList:=⟨_,rfl⟩
 obtain⟨z,hz⟩:∃z,z=s.data.toList.contains 0:=⟨_,rfl⟩
 obtain⟨l,hll⟩:∃l,l=spl 47 (s.data.toList.drop 1):=⟨_,rfl⟩
 obtain⟨E,hE⟩:∃E,E=jO l:=⟨_,rfl⟩
 have hV:b=(v&&decide (s.data.toList.head?=some 47)&& !z&&E):=by rw[hb,hv,hz,hE,hll];rfl
 have HVA:Hid (∀(A:Option Addr) (n cap:Nat) (w:World),aY w A n (ah s.data.toList)→n≤1073741824→n≤cap→Calls Tryz.prog 102 #[.slice A n cap] w fun e w'=>e=.returned (.bool v)∧Below w.heap.size w w'):=fun A n cap w h1 h2 h3=>by rw[hv];exact qh.fF A n cap _ w h1 h2 h3
 obtain⟨p,hp⟩:∃p,p=decide (s.data.toList.head?=some 47):=⟨_,rfl⟩
 have HPX:Hid (∀w:World,Calls Tryz.prog 103 #[.string s,.string ⟨#[47]⟩] w fun e w'=>e=.returned (.bool p)∧w'=w):=fun w=>by rw[hp,←pre47];exact Tryz.strings_HasPrefix s ⟨#[47]⟩ w
 have HCT:Hid (∀w:World,Calls Tryz.prog 104 #[.string s,.string ⟨#[0]⟩] w fun e w'=>e=.returned (.bool z)∧w=w'):=fun w=>by rw[hz];exact FN 0 s w
 have wC:Hid (∀w:World,Max w→Calls Tryz.prog 105 #[.string (s.extract 1 s.size),.string ⟨#[47]⟩] w (pO.Read w l)):=fun w h=>by rw[hll,←ext1];exact abH _ w (by have:=ext1_size s;omega) h
 have HCAP:Hid (∀w:World,s.size≤grownCap w s.size 0 5):=fun w=>grownCap_ge w s.size 0 5
 have hcv:=fun(w:World) s=>run_bytes_of_string (P:=Tryz.prog) w 9 45 5 s Tryz.underlying9 Tryz.underlying45 Tryz.underlying5
 have hpos:p=true→1≤s.size:=by
  intro h
  rw[hp,decide_eq_true_iff]at h
  rw[←hl]
  cases e:s.data.toList with
  |nil=>rw[e]at h;cases h
  |cons a t=>simp
 rw[←hp]at hV
 have HPO:=hid hpos
 have HEE:=hid hE
 have OT:=hid hV
 have Zh:=hid hs
 have HM:=hid hM
 have hlen2:l.length≤900001:=by rw[hll];have:=kD 47 (s.data.toList.drop 1);rw[List.length_drop,hl]at this;omega
 clear hb hz hll hE hv hs hl hV hp hpos hM
 go_enter Tryz.func42,Tryz.ntmps42
 go_wp2_with fail
 refine(HVA.out _ s.size _ _ (fV s _ _ 5) (by have:=Zh.out;omega) (HCAP.out _)).mono ?_
 rintro e w3 ⟨rfl,hb3⟩
 have HB:=hid (((Below.refl w.heap.size w).alloc (Nat.le_refl _) _).drew.trans (hb3.mono (by simp)))
 clear hb3 hcv
 cases v with
 |false=>
  have HF:Hid (b=false):=by show _=_;rw[OT.out];simp
  go_wp2
  go_ret
  exact⟨by rw[HF.out];first|done|rfl,HB.out⟩
 | true =>
  go_wp2_with fail
  refine(HPX.out _).mono ?_
  rintro e w4 ⟨rfl,hw4⟩
  subst hw4
  cases p with
  |false=>
   have HF:Hid (b=false):=by show _=_;rw[OT.out];simp
   go_wp2
   go_ret
   exact⟨by rw[HF.out];first|done|rfl,HB.out⟩
  | true =>
   have h0i:(1:Int)≤(s.size:Int):=by have:=HPO.out rfl;omega
   go_wp2_with fail
   refine(HCT.out _).mono ?_
   rintro e w5 ⟨rfl,hw5⟩
   subst hw5
   cases z with
   |true=>
    have HF:Hid (b=false):=by show _=_;rw[OT.out];simp
    go_wp2
    go_ret
    exact⟨by rw[HF.out];first|done|rfl,HB.out⟩
   | false =>
    have HF:Hid (b=E):=by show _=_;rw[OT.out];simp
    go_wp2_with fail
    refine(wC.out _ (HM.out.below HB.out)).mono ?_
    rintro e w6 ⟨A,n,cp,rfl,hn,hnc,hcm,hR,hb6⟩
    have HN:Hid (l.length=n):=hn.symm
    have HR:=hid hR
    have nN:=hid (bel HB.out hb6)
    have hm:n≤900001:=by omega
    have Uw:Hid (E=jO (l.drop 0)):=HEE.out
    clear hn hR hb6 hcm hlen2
    go_wp2
    go_loopw [4,5,24] (fun _ _ vk wr=>∃k:Nat,k≤n∧vk=.int .i64 (k:Int)∧wr=w6∧Hid (E=jO (l.drop k))) (fun _ _ vk _=>n - (intOf vk).toNat)
    case atStart=>exact⟨0,Nat.zero_le _,rfl,rfl,Uw⟩
    case round=>
     clear Uw
     obtain⟨k,hk,rfl,rfl,HE⟩:=hrel
     by_cases hlt:k<n
     ·obtain ⟨g,off,rfl,hg,hc⟩:=zQ HR.out k hlt HN.out
      obtain⟨x,hx⟩:∃x,x=l[k]'(by rw[HN.out];exact hlt):=⟨_,rfl⟩
      rw[←hx]at hc
      have hok:=QS l k (by rw[HN.out];exact hlt)
      rw[show l[k]'(by rw[HN.out];exact hlt)=x from hx.symm,HN.out]at hok
      by_cases h1:x=[46]
      ·have f1:((strOf x).toList==[46])=true:=by rw[tl,h1];rfl
       have HE2:Hid (E=false):=by show _=_;rw[HE.out,hok];simp[tH,h1]
       clear hok hx h1
       go_wp2
       go_ret
       exact⟨by rw[HF.out,HE2.out];first|done|rfl,nN.out⟩
      ·have f1:((strOf x).toList==[46])=false:=by rw[tl,beq_eq_false_iff_ne];exact h1
       by_cases h2:x=[46,46]
       ·have f2:((strOf x).toList==[46,46])=true:=by rw[tl,h2];rfl
        have HE2:Hid (E=false):=by show _=_;rw[HE.out,hok];simp[tH,h2]
        clear hok hx h1 h2
        go_wp2
        go_ret
        exact⟨by rw[HF.out,HE2.out];first|done|rfl,nN.out⟩
       ·have f2:((strOf x).toList==[46,46])=false:=by rw[tl,beq_eq_false_iff_ne];exact h2
        by_cases h3:x=[]
        ·have f3:(strOf x).toList=[]:=by rw[tl];exact h3
         by_cases hla:k+1=n
         ·have hli:¬(k:Int)<(n:Int) - 1:=by omega
          have HE2:Hid (E=jO (l.drop (k+1))):=by show _=_;rw[HE.out,hok];simp[tH,h1,h2,h3,hla]
          clear hok hx h1 h2 h3 hla
          go_wp2
          go_roundw
          case rel=>exact⟨k+1,by omega,by go_num,by first|rfl|trivial,HE2⟩
          case measure=>simp[intOf];omega
         ·have hli:(k:Int)<(n:Int) - 1:=by omega
          have HE2:Hid (E=false):=by show _=_;rw[HE.out,hok];simp[tH,h1,h2,h3,hla]
          clear hok hx h1 h2 h3 hla
          go_wp2
          go_ret
          exact⟨by rw[HF.out,HE2.out];first|done|rfl,nN.out⟩
        ·have f3:((strOf x).toList==[])=false:=by rw[tl,beq_eq_false_iff_ne];exact h3
         have f3':(strOf x).toList.isEmpty=false:=by rw[tl];simpa[strOf]using h3
         have HE2:Hid (E=jO (l.drop (k+1))):=by show _=_;rw[HE.out,hok];simp[tH,h1,h2,h3]
         clear hok hx h1 h2 h3
         go_wp2
         go_roundw
         case rel=>exact⟨k+1,by omega,by go_num,by first|rfl|trivial,HE2⟩
         case measure=>simp[intOf];omega
     ·obtain rfl:k=n:=by omega
      have HE2:Hid (E=true):=by show _=_;rw[HE.out,List.drop_eq_nil_of_le (by rw[HN.out];exact Nat.le_refl _)];rfl
      go_wp2
      go_ret
      exact⟨by rw[HF.out,HE2.out];first|done|rfl,nN.out⟩
end Go.Proofs.YtmpeaoacaecgpaaGreatDoor.aj7
namespace Go.Proofs.YtmpeaoacaecgpaaGreatDoor.pR
open Go.RowKit Base dI cO zD
theorem dn {p:UInt8→Prop} [∀c,Decidable (p c)] (h:∀n:Fin 256,p (UInt8.ofNat n.val)) (c:UInt8):p c:=by
 have:=h ⟨c.toNat,c.toNat_lt⟩
 simpa using this
theorem Ir (n:Nat) (h:n<16):hex (EscE.jR n).toNat=n:=by
 have H:∀k:Fin 16,hex ((EscE.jR k.val).toNat:Int)=(k.val:Int):=by decide
 exact H ⟨n,h⟩
theorem N9 (c:UInt8) (rest:List UInt8):fU.esc (37::EscE.jR (c.toNat / 16)::EscE.jR (c.toNat%16)::rest)=some c:=by
 have hc:=c.toNat_lt
 have h1:=Ir (c.toNat / 16) (by omega)
 have h2:=Ir (c.toNat%16) (by omega)
 rw[fU.esc,if_pos ⟨rfl,by rw[h1];omega,by rw[h2];omega⟩,h1,h2]
 congr 1
 apply UInt8.toNat_inj.1
 simp
 omega
theorem zZ (x:UInt8) (t:List UInt8) (h:x≠37):fU.esc (x::t)=none:=by
 match t with
 |[]=>rfl
 |[_]=>rfl
 |_::_::_=>rw[fU.esc,if_neg (fun e=>h e.1)]
def odd (c:UInt8):Bool:=ji 4 c.toNat||(decide (c=37)||(decide (c=92)||decide (c=124)))
def one (c:UInt8):List UInt8:=if odd c=true then[37,EscE.jR (c.toNat / 16),EscE.jR (c.toNat%16)]else[c]
def seg (L:List UInt8):List UInt8:=L.flatMap one
theorem Rw (c:UInt8) (L:List UInt8):seg (c::L)=one c++seg L:=by simp[seg]
theorem Yt (a b:List UInt8):seg (a++b)=seg a++seg b:=by simp[seg]
theorem EY (L:List UInt8):(seg L).length≤3*L.length:=by
 induction L with
 |nil=>simp[seg]
 |cons c L ih=>
  have h:(one c).length≤3:=by unfold one;split<;>simp
  rw[Rw,List.length_append,List.length_cons]
  omega
theorem tX (L:List UInt8):fU.dec (seg L)=L:=by
 induction L with
 |nil=>rfl
 |cons c L ih=>
  rw[Rw]
  unfold one
  split
  ·rw[List.cons_append,List.cons_append,List.cons_append,List.nil_append,fU.oQ _ _ _ (N9 c _)]
   simp only[List.drop_succ_cons,List.drop_zero,ih]
  rename_i hn
  have hne:c≠37:=by
   rintro rfl
   exact hn (by decide+kernel)
  rw[List.cons_append,List.nil_append,fU.kJ _ _ (zZ c _ hne),ih]
theorem Aj (c:UInt8) (h:c≠47):∀d ∈ one c,ji 4 d.toNat=false∧d≠47∧d≠92∧d≠124:=
 dn (p:=fun c=>c≠47→∀d ∈ one c,ji 4 d.toNat=false∧d≠47∧d≠92∧d≠124) (by decide+kernel) c h
theorem agk {L:List UInt8} (h:∀c ∈ L,c≠47):∀d ∈ seg L,ji 4 d.toNat=false∧d≠47∧d≠92∧d≠124:=by
 intro d hd
 obtain⟨c,hc,hm⟩:=List.mem_flatMap.1 hd
 exact Aj c (h c hc) d hm
end Go.Proofs.YtmpeaoacaecgpaaGreatDoor.pR
namespace Go.Proofs.YtmpeaoacaecgpaaGreatDoor.agI
open Go.RowKit Base Base2 Wx
theorem qL (B b:Nat) (l:List UInt8) (w:World) (h:lq B b l w) (hBw:B≤w.heap.size):
  Calls Tryz.prog 155 #[.pointer (some ⟨b,0,none⟩)] w fun e w'=>e=.returned (.string (strOf l))∧Below B w w':=Tryz.Builder_String B b l w h hBw
theorem gZ {B b:Nat} {l:List UInt8} {w w':World} (h:lq B b l w) (hb:Below w.heap.size w w'):lq B b l w':=by
 rcases h with⟨h1,v,h2,h3,h4⟩|⟨h1,v,h2,h3,h4⟩
 ·exact Or.inl ⟨h1,v,(hb.block _ (Array.getElem?_eq_some_iff.1 h2).1).trans h2,aP h3 hb,h4⟩
 exact Or.inr ⟨h1,v,(hb.block _ (Array.getElem?_eq_some_iff.1 h2).1).trans h2,aP h3 hb,h4⟩
end Go.Proofs.YtmpeaoacaecgpaaGreatDoor.agI
namespace Go.Proofs.YtmpeaoacaecgpaaGreatDoor.PosC
open Go.RowKit Base Base2 Base3 Wx agI sW Sls NI
open Go.Proofs.YtmpeaoacaecgpaaGreatDoor.pR (dn seg Yt EY)
def alike (c:UInt8):Bool:=[37,92,124].contains c
theorem seg1 (c:UInt8):(alike c=true→EscE.enc 6 [c]=pR.one c)∧(alike c=false→EscE.enc 4 [c]=pR.one c):=
 dn (p:=fun c=>(alike c=true→EscE.enc 6 [c]=pR.one c)∧(alike c=false→EscE.enc 4 [c]=pR.one c)) (by decide+kernel) c
theorem one_row (c:UInt8) (w:World):aY (w.alloc (.cells #[.int .u8 (c.toNat:Int)] 5)) (some ⟨w.heap.size,0,none⟩) 1 (ah [c]):=qF w [c] 5 (0,0)
theorem anx (L:List UInt8) (c:UInt8):seg (L++[c])=seg L++pR.one c:=by rw[Yt];congr 1;simp[seg]
theorem Oj (c:UInt8):(pR.one c).length≤3:=by unfold pR.one;split<;>simp
theorem Ec (s:ByteArray) (w:World) (hs:s.size≤10000000):
  Calls Tryz.prog 199 #[.string s] w fun e w'=>e=.returned (.string (strOf (seg s.data.toList)))∧Below w.heap.size w w':=by
 have hl:s.data.toList.length=s.size:=Array.length_toList
 have HL:=hid hl
 clear hl
 have HB0:Hid (lq w.heap.size w.heap.size [] (w.alloc (.cells #[.pointer none,.slice none 0 0] 147))):=Lib.fresh_isBuilder 147 5 w
 go_enter Tryz.func199,Tryz.ntmps199
 go_wp2
 go_loopw [4,5] (fun vk _ wr=>∃k:Nat,k≤s.size∧vk=.int .i64 (k:Int)∧Hid (lq w.heap.size w.heap.size (seg (s.data.toList.take k)) wr)∧Hid (Below w.heap.size w wr)) (fun vk _ _=>s.size - (intOf vk).toNat)
 case atStart=>exact⟨0,Nat.zero_le _,rfl,HB0.out,(Below.refl _ _).alloc (Nat.le_refl _) _⟩
 case round=>
  clear HB0
  obtain⟨k,hk,rfl,HB,HBL⟩:=hrel
  have hsz:w.heap.size≤wr.heap.size:=HBL.out.size
  by_cases hlt:k<s.size
  ·obtain⟨c,hc⟩:∃c,s[k]=c:=⟨_,rfl⟩
   have hkl:k<s.data.toList.length:=by rw[HL.out];exact hlt
   have hcl:s.data.toList[k]=c:=hc
   have HS:Hid (seg (s.data.toList.take (k+1))=seg (s.data.toList.take k)++pR.one c):=by
    show _=_
    rw[take_snoc _ k hkl,hcl,anx]
   have hlen:(seg (s.data.toList.take k)).length≤3*k:=by
    have:=EY (s.data.toList.take k)
    rw[List.length_take,HL.out]at this
    omega
   obtain⟨X,hX⟩:∃X,X=seg (s.data.toList.take k):=⟨_,rfl⟩
   rw[←hX]at HS HB hlen
   obtain⟨a,ha⟩:∃a,a=alike c:=⟨_,rfl⟩
   have YN:Hid (∀w:World,Calls Tryz.prog 217 #[.string ⟨#[37,92,124]⟩,.int .u8 (c.toNat:Int)] w fun e w'=>∃z:Int,e=.returned (.int .i64 z)∧decide (0≤z)=a∧w'=w):=fun w=>by
    refine(Tryz.strings_IndexByte ⟨#[37,92,124]⟩ _ w).mono ?_
    rintro e w' ⟨rfl,rfl⟩
    refine⟨_,rfl,?_,rfl⟩
    rw[show((c.toNat:Int).toNat.toUInt8)=c by simp,alO,ha]
    rfl
   have hone:=Oj c
   cases a with
   |true=>
    have F6:Hid (∀(A:Option Addr) (n cap:Nat) (w:World),aY w A n (ah [c])→n≤1073741824→Calls Tryz.prog 121 #[.int .i64 6,.slice A n cap] w fun e w'=>e=.returned (.string (strOf (pR.one c)))∧Below w.heap.size w w'):=fun A n cap w h1 h2=>by rw[←(seg1 c).1 ha.symm];exact EscE.eF 6 A n cap [c] w h1 h2
    clear ha hX hkl hcl
    go_wp2_with fail
    refine(YN.out _).mono ?_
    rintro e w2 ⟨z,rfl,hz,hw2⟩
    subst hw2
    have hz1:0≤z:=by simpa using hz
    go_wp2_with fail
    refine(F6.out _ 1 1 _ (one_row c _) (by omega)).mono ?_
    rintro e w3 ⟨rfl,hb3⟩
    have hbw:=((Below.refl w2.heap.size w2).alloc (Nat.le_refl _) (.cells #[.int .u8 (c.toNat:Int)] 5)).trans (hb3.mono (by simp))
    have HB3:=hid (gZ HB.out hbw)
    have mP:Hid (Below w.heap.size w w3):=HBL.out.trans (hbw.mono hsz)
    have hsz3:w.heap.size≤w3.heap.size:=mP.out.size
    clear hbw hb3 hz
    go_wp2_with fail
    refine(write_any _ _ _ _ _ HB3.out (by rw[size_strOf];omega) hsz3).mono ?_
    rintro e w4 ⟨rfl,hb4,hb5⟩
    have HB4:Hid (lq w.heap.size w.heap.size (seg (s.data.toList.take (k+1))) w4):=by show lq _ _ _ _;rw[HS.out];exact hb4
    have F5:=hid (mP.out.trans hb5)
    clear hb4 hb5 hlen hone
    go_wp2
    go_roundw
    case rel=>exact⟨k+1,by omega,by go_num,HB4,F5⟩
    case measure=>simp[intOf];omega
   |false=>
    have F6:Hid (∀(A:Option Addr) (n cap:Nat) (w:World),aY w A n (ah [c])→n≤1073741824→Calls Tryz.prog 121 #[.int .i64 4,.slice A n cap] w fun e w'=>e=.returned (.string (strOf (pR.one c)))∧Below w.heap.size w w'):=fun A n cap w h1 h2=>by rw[←(seg1 c).2 ha.symm];exact EscE.eF 4 A n cap [c] w h1 h2
    clear ha hX hkl hcl
    go_wp2_with fail
    refine(YN.out _).mono ?_
    rintro e w2 ⟨z,rfl,hz,hw2⟩
    subst hw2
    have hz1:¬0≤z:=by simpa using hz
    go_wp2_with fail
    refine(F6.out _ 1 1 _ (one_row c _) (by omega)).mono ?_
    rintro e w3 ⟨rfl,hb3⟩
    have hbw:=((Below.refl w2.heap.size w2).alloc (Nat.le_refl _) (.cells #[.int .u8 (c.toNat:Int)] 5)).trans (hb3.mono (by simp))
    have HB3:=hid (gZ HB.out hbw)
    have mP:Hid (Below w.heap.size w w3):=HBL.out.trans (hbw.mono hsz)
    have hsz3:w.heap.size≤w3.heap.size:=mP.out.size
    clear hbw hb3 hz
    go_wp2_with fail
    refine(write_any _ _ _ _ _ HB3.out (by rw[size_strOf];omega) hsz3).mono ?_
    rintro e w4 ⟨rfl,hb4,hb5⟩
    have HB4:Hid (lq w.heap.size w.heap.size (seg (s.data.toList.take (k+1))) w4):=by show lq _ _ _ _;rw[HS.out];exact hb4
    have F5:=hid (mP.out.trans hb5)
    clear hb4 hb5 hlen hone
    go_wp2
    go_roundw
    case rel=>exact⟨k+1,by omega,by go_num,HB4,F5⟩
    case measure=>simp[intOf];omega
  ·obtain rfl:k=s.size:=by omega
   have HT:Hid (seg (s.data.toList.take s.size)=seg s.data.toList):=by show _=_;rw[List.take_of_length_le (by rw[HL.out];exact Nat.le_refl _)]
   go_wp2_with fail
   refine(qL _ _ _ _ HB.out hsz).mono ?_
   rintro e w3 ⟨rfl,hb3⟩
   have HB3:=hid (HBL.out.trans hb3)
   clear hb3
   go_wp2
   go_ret
   exact⟨by rw[←HT.out];first|done|rfl,HB3.out⟩
end Go.Proofs.YtmpeaoacaecgpaaGreatDoor.PosC
