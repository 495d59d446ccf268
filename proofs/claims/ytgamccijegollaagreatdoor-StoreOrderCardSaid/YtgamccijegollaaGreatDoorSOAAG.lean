/- Texts that belong together: aco, qh, UtfD, BI. -/
import Derived.Test.YtgamccijegollaaGreatDoorSOAAF
import Derived.Test.YtgamccijegollaaGreatDoorSOAAA
import Derived.Deep.QuietTactic
import Derived.BigQuiet
import Derived.Test.YtgamccijegollaaGreatDoorShelf
import Derived.Lib.RuneBytes
set_option linter.unusedSimpArgs false
set_option linter.unusedVariables false
set_option maxRecDepth 100000
set_option maxHeartbeats 64000000
namespace Go.Proofs.YtgamccijegollaaGreatDoor.aco
open Go.RowKit Base Dp aZ
def portOf (L:List UInt8):Int:=if L=[102,116,112]then 21 else if L=[104,116,116,112]∨L=[119,115]then 80 else if L=[104,116,116,112,115]∨L=[119,115,115]then 443 else -1
def special (L:List UInt8):Bool:=decide (L=[102,105,108,101])||decide (portOf L≠-1)
theorem sorts (L:List UInt8):L=[102,116,112]∨L=[104,116,116,112]∨L=[119,115]∨L=[104,116,116,112,115]∨L=[119,115,115]∨L=[102,105,108,101]∨(L≠[102,116,112]∧L≠[104,116,116,112]∧L≠[119,115]∧L≠[104,116,116,112,115]∧L≠[119,115,115]∧L≠[102,105,108,101]):=by
 by_cases h1:L=[102,116,112]
 ·exact .inl h1
 by_cases h2:L=[104,116,116,112]
 ·exact .inr (.inl h2)
 by_cases h3:L=[119,115]
 ·exact .inr (.inr (.inl h3))
 by_cases h4:L=[104,116,116,112,115]
 ·exact .inr (.inr (.inr (.inl h4)))
 by_cases h5:L=[119,115,115]
 ·exact .inr (.inr (.inr (.inr (.inl h5))))
 by_cases h6:L=[102,105,108,101]
 ·exact .inr (.inr (.inr (.inr (.inr (.inl h6)))))
 exact .inr (.inr (.inr (.inr (.inr (.inr ⟨h1,h2,h3,h4,h5,h6⟩)))))
theorem iD {s:ByteArray} {L:List UInt8} (h:s.data.toList=L):s=⟨L.toArray⟩:=by
 obtain⟨d⟩:=s
 subst h
 rfl
theorem jd {s:ByteArray} {L:List UInt8} (h:s.data.toList≠L):(s.toList==L)=false:=by
 rw[tl];simpa using h
theorem ML (s:ByteArray) (w:World):Calls Tryz.prog 221 #[.string s] w fun e w'=>e=.returned (.int .i64 (portOf s.data.toList))∧w'=w:=by
 rcases sorts s.data.toList with h|h|h|h|h|h|⟨h1,h2,h3,h4,h5,h6⟩
 ·obtain rfl:=iD h
  clear h
  go_enter Tryz.func221,Tryz.ntmps221
  go_wp2
  go_ret
  exact⟨rfl,rfl⟩
 ·obtain rfl:=iD h
  clear h
  go_enter Tryz.func221,Tryz.ntmps221
  go_wp2
  go_ret
  exact⟨rfl,rfl⟩
 ·obtain rfl:=iD h
  clear h
  go_enter Tryz.func221,Tryz.ntmps221
  go_wp2
  go_ret
  exact⟨rfl,rfl⟩
 ·obtain rfl:=iD h
  clear h
  go_enter Tryz.func221,Tryz.ntmps221
  go_wp2
  go_ret
  exact⟨rfl,rfl⟩
 ·obtain rfl:=iD h
  clear h
  go_enter Tryz.func221,Tryz.ntmps221
  go_wp2
  go_ret
  exact⟨rfl,rfl⟩
 ·obtain rfl:=iD h
  clear h
  go_enter Tryz.func221,Tryz.ntmps221
  go_wp2
  go_ret
  exact⟨rfl,rfl⟩
 have HP:Hid (portOf s.data.toList= -1):=by
  unfold portOf
  show _=_
  rw[if_neg h1,if_neg (by rintro(h|h);exact h2 h;exact h3 h),if_neg (by rintro(h|h);exact h4 h;exact h5 h)]
 have HS:Hid (special s.data.toList=false):=by
  unfold special
  show _=_
  rw[HP.out]
  simpa using h6
 replace h1:=jd h1
 replace h2:=jd h2
 replace h3:=jd h3
 replace h4:=jd h4
 replace h5:=jd h5
 replace h6:=jd h6
 go_enter Tryz.func221,Tryz.ntmps221
 go_wp2
 go_ret
 exact⟨iw HP.out.symm,rfl⟩
theorem jv (s:ByteArray) (w:World):Calls Tryz.prog 115 #[.string s] w fun e w'=>e=.returned (.bool (special s.data.toList))∧w'=w:=by
 by_cases h:s.data.toList=[102,105,108,101]
 ·obtain rfl:=iD h
  clear h
  go_enter Tryz.func115,Tryz.ntmps115
  go_wp2
  go_ret
  exact⟨rfl,rfl⟩
 obtain⟨p,hp⟩:∃p,p=portOf s.data.toList:=⟨_,rfl⟩
 have HS:Hid (special s.data.toList=decide (p≠-1)):=by
  unfold special
  show _=_
  rw[←hp,decide_eq_false h]
  rfl
 have HP:=hid hp
 replace h:=jd h
 clear hp
 go_enter Tryz.func115,Tryz.ntmps115
 go_wp2_with fail
 refine(ML _ _).mono ?_
 rintro e w1 ⟨rfl,rfl⟩
 rw[←HP.out]
 by_cases e1:p= -1
 ·subst e1
  go_wp2
  go_ret
  exact⟨ak HS.out.symm,rfl⟩
 have q1:(p== -1)=false:=by simpa using e1
 have q2:(p != -1)=true:=by simpa using e1
 have HE:Hid (decide (p≠-1)=true):=decide_eq_true e1
 clear e1
 go_wp2
 go_ret
 exact⟨ak (by rw[HS.out,HE.out]),rfl⟩
end Go.Proofs.YtgamccijegollaaGreatDoor.aco
namespace Go.Proofs.YtgamccijegollaaGreatDoor.qh
open Go.RowKit Base
def size (c:Int):Int:=if c≤127 then 1 else if 194≤c∧c≤223 then 2 else if 224≤c∧c≤239 then 3 else if 240≤c∧c≤244 then 4 else 0
def lo (c:Int):Int:=if c≤193∨245≤c then 0 else if c=224 then 160 else if c=240 then 144 else 128
def hi (c:Int):Int:=if c≤193∨245≤c then 0 else if c=237 then 159 else if c=244 then 143 else 191
theorem lead_any (c:Int) (w:World):Calls Tryz.prog 245 #[.int .u8 c] w fun e w'=>e=.returned (.tuple #[.int .i64 (size c),.int .u8 (lo c),.int .u8 (hi c)])∧w=w':=by
 go_enter Tryz.func245,Tryz.ntmps245
 go_wp2
 all_goals
  try simp only[beq_iff_eq,beq_eq_false_iff_ne,ne_eq]at*
  go_ret3
  exact⟨ret3 (int_eq (by unfold size;(repeat' split)<;>omega)) (int_eq (by unfold lo;(repeat' split)<;>omega)) (int_eq (by unfold hi;(repeat' split)<;>omega)),rfl⟩
theorem anj (b off n cap:Nat) (c:Int) (w:World) (hc:w.cell? ⟨b,off,none⟩=some (.int .u8 c)) (h0:0<n) (h1:0≤c) (h2:c≤127):
  Calls Tryz.prog 147 #[.slice (some ⟨b,off,none⟩) n cap] w fun e w'=>e=.returned (.tuple #[.int .i32 c,.int .i64 1,.bool true])∧w=w':=by
 have hs:size c=1:=by unfold size;(repeat' split)<;>omega
 have HS:=hid hs
 clear hs
 have hp:(0:Int)<(n:Int):=by omega
 go_enter Tryz.func147,Tryz.ntmps147
 go_wp2_with (go_at_call 245;refine(lead_any _ _).mono ?_;rintro e w' ⟨rfl,rfl⟩;rw[HS.out])
 go_ret3
 exact⟨rfl,rfl⟩
theorem ais (b off n cap:Nat) (c:Int) (w:World) (hc:w.cell? ⟨b,off,none⟩=some (.int .u8 c)) (h0:0<n) (h1:(128≤c∧c≤193)∨245≤c):
  Calls Tryz.prog 147 #[.slice (some ⟨b,off,none⟩) n cap] w fun e w'=>e=.returned (.tuple #[.int .i32 65533,.int .i64 1,.bool false])∧w=w':=by
 have hs:size c=0:=by unfold size;(repeat' split)<;>omega
 have HS:=hid hs
 clear hs
 have hp:(0:Int)<(n:Int):=by omega
 go_enter Tryz.func147,Tryz.ntmps147
 go_wp2_with (go_at_call 245;refine(lead_any _ _).mono ?_;rintro e w' ⟨rfl,rfl⟩;rw[HS.out])
 go_ret3
 exact⟨rfl,rfl⟩
def tail:Nat→Nat→Int→Int→Int→List UInt8→Int×Int×Bool
 |0,k,_,_,r,_=>(r,k,true)
 |_+1,k,_,_,_,[]=>(65533,k,false)
 |m+1,k,l,h,r,c::t=>if (c.toNat:Int)<l∨h<(c.toNat:Int)then(65533,k,false)else tail m (k+1) 128 191 (r*64+(c.toNat:Int)%64) t
def room:Nat→Int
 |0=>0
 |1=>32
 |2=>2048
 |3=>131072
 |_=>8388608
theorem uI (k:Nat) (h0:1≤k) (h1:k≤3):room (k+1)=room k*64∧room k≤131072:=by
 match k,h0,h1 with
 |1,_,_=>decide
 |2,_,_=>decide
 |3,_,_=>decide
theorem read_2 (b off cap:Nat) (L:List UInt8) (c:Int) (w:World) (hc:w.cell? ⟨b,off,none⟩=some (.int .u8 c)) (hL:∀j (h:j<L.length),w.cell? ⟨b,off+j,none⟩=some (.int .u8 (L[j].toNat:Int)))
  (hm:L.length≤maxLen) (h0:0<L.length) (h1:194≤c) (h2:c≤223) (R:Int×Int×Bool) (hR:R=tail 1 1 (lo c) (hi c) (c%32) (L.drop 1)):
  Calls Tryz.prog 147 #[.slice (some ⟨b,off,none⟩) L.length cap] w fun e w'=>e=.returned (.tuple #[.int .i32 R.1,.int .i64 R.2.1,.bool R.2.2])∧Below w.heap.size w w':=by
 have hs:size c=2:=by unfold size;(repeat' split)<;>omega
 have HS:=hid hs
 clear hs
 unfold maxLen at hm
 have hp:(0:Int)<(L.length:Int):=by omega
 have HL:=hid hL
 clear hL
 have HR:=hid hR
 clear hR
 have hr0:0≤c%32∧c%32<32:=by omega
 go_enter Tryz.func147,Tryz.ntmps147
 go_wp2_with (go_at_call 245;refine(lead_any _ _).mono ?_;rintro e w' ⟨rfl,rfl⟩;rw[HS.out])
 go_quiet (fail)
 go_wp2
 go_loop [6,7,8,9] (fun vl vh vr vk=>∃(k:Nat) (l h r:Int),1≤k∧k≤2∧k≤L.length∧vk=.int .i64 k∧vl=.int .u8 l∧vh=.int .u8 h∧vr=.int .i32 r∧0≤r∧r<room k∧Hid (R=tail (2 - k) k l h r (L.drop k))) (fun _ _ _ vk=>2 - (intOf vk).toNat)
 case atStart=>exact⟨1,lo c,hi c,c%32,by omega,by omega,by omega,rfl,rfl,rfl,rfl,hr0.1,hr0.2,HR⟩
 case round=>
  obtain⟨k,l,h,r,hk1,hk2,hkn,rfl,rfl,rfl,rfl,hr1,hr2,HT⟩:=hrel
  by_cases hlt:k<2
  ·obtain ⟨hb1,hb2⟩:=uI k hk1 (by omega)
   have HB:=hid hb1
   clear hb1
   have hr3:r<131072:=by omega
   have es:2 - k=(2 - (k+1))+1:=by omega
   have HT2:Hid (R=tail ((2 - (k+1))+1) k l h r (L.drop k)):=by rw[←es];exact HT
   clear es HT
   by_cases hn:k<L.length
   ·obtain ⟨x,hx⟩:∃x,x=L[k]:=⟨_,rfl⟩
    have hcell:w.cell? ⟨b,off+k,none⟩=some (.int .u8 (x.toNat:Int)):=by rw[hx];exact HL.out k hn
    have HT3:Hid (R=tail ((2 - (k+1))+1) k l h r (x::L.drop (k+1))):=by
     have hd:L.drop k=x::L.drop (k+1):=by rw[hx];exact List.drop_eq_getElem_cons hn
     rw[←hd];exact HT2
    clear HT2 hx
    have hx2:(x.toNat:Int)<256:=by have:=x.toNat_lt;omega
    have hne:((k:Int)==(L.length:Int))=false:=by simp;omega
    by_cases ht:(x.toNat:Int)<l∨h<(x.toNat:Int)
    ·have HT4:Hid (R=(65533,(k:Int),false)):=by
      have e:=HT3.out
      rw[tail,if_pos ht]at e
      exact e
     clear HT3
     go_wp2
     all_goals
      go_ret3
      rw[HT4.out]
      exact⟨rfl,Base.below_drewN (Below.refl _ _) _⟩
    ·have HT4:Hid (R=tail (2 - (k+1)) (k+1) 128 191 (r*64+(x.toNat:Int)%64) (L.drop (k+1))):=by
      have e:=HT3.out
      rw[tail,if_neg ht]at e
      exact e
     clear HT3
     have ht1:l≤(x.toNat:Int):=by omega
     have ht2:(x.toNat:Int)≤h:=by omega
     clear ht
     go_wp2
     go_round
     case rel=>exact⟨k+1,128,191,r*64+(x.toNat:Int)%64,by omega,by omega,by omega,by go_num,rfl,rfl,rfl,by omega,by rw[HB.out];omega,HT4⟩
     case measure=>simp[intOf];omega
   ·obtain rfl:k=L.length:=by omega
    have HT4:Hid (R=(65533,(L.length:Int),false)):=by
     have e:=HT2.out
     rw[List.drop_length,tail]at e
     exact e
    clear HT2
    go_wp2
    go_ret3
    rw[HT4.out]
    exact⟨rfl,Base.below_drewN (Below.refl _ _) _⟩
  ·obtain rfl:k=2:=by omega
   have HT4:Hid (R=(r,2,true)):=by
    have e:=HT.out
    rw[Nat.sub_self,tail]at e
    exact e
   clear HT
   go_wp2
   go_ret3
   rw[HT4.out]
   exact⟨rfl,Base.below_drewN (Below.refl _ _) _⟩
theorem read_3 (b off cap:Nat) (L:List UInt8) (c:Int) (w:World) (hc:w.cell? ⟨b,off,none⟩=some (.int .u8 c)) (hL:∀j (h:j<L.length),w.cell? ⟨b,off+j,none⟩=some (.int .u8 (L[j].toNat:Int)))
  (hm:L.length≤maxLen) (h0:0<L.length) (h1:224≤c) (h2:c≤239) (R:Int×Int×Bool) (hR:R=tail 2 1 (lo c) (hi c) (c%16) (L.drop 1)):
  Calls Tryz.prog 147 #[.slice (some ⟨b,off,none⟩) L.length cap] w fun e w'=>e=.returned (.tuple #[.int .i32 R.1,.int .i64 R.2.1,.bool R.2.2])∧Below w.heap.size w w':=by
 have hs:size c=3:=by unfold size;(repeat' split)<;>omega
 have HS:=hid hs
 clear hs
 unfold maxLen at hm
 have hp:(0:Int)<(L.length:Int):=by omega
 have HL:=hid hL
 clear hL
 have HR:=hid hR
 clear hR
 have hr0:0≤c%16∧c%16<32:=by omega
 go_enter Tryz.func147,Tryz.ntmps147
 go_wp2_with (go_at_call 245;refine(lead_any _ _).mono ?_;rintro e w' ⟨rfl,rfl⟩;rw[HS.out])
 go_quiet (fail)
 go_wp2
 go_loop [6,7,8,9] (fun vl vh vr vk=>∃(k:Nat) (l h r:Int),1≤k∧k≤3∧k≤L.length∧vk=.int .i64 k∧vl=.int .u8 l∧vh=.int .u8 h∧vr=.int .i32 r∧0≤r∧r<room k∧Hid (R=tail (3 - k) k l h r (L.drop k))) (fun _ _ _ vk=>3 - (intOf vk).toNat)
 case atStart=>exact⟨1,lo c,hi c,c%16,by omega,by omega,by omega,rfl,rfl,rfl,rfl,hr0.1,hr0.2,HR⟩
 case round=>
  obtain⟨k,l,h,r,hk1,hk2,hkn,rfl,rfl,rfl,rfl,hr1,hr2,HT⟩:=hrel
  by_cases hlt:k<3
  ·obtain ⟨hb1,hb2⟩:=uI k hk1 (by omega)
   have HB:=hid hb1
   clear hb1
   have hr3:r<131072:=by omega
   have es:3 - k=(3 - (k+1))+1:=by omega
   have HT2:Hid (R=tail ((3 - (k+1))+1) k l h r (L.drop k)):=by rw[←es];exact HT
   clear es HT
   by_cases hn:k<L.length
   ·obtain ⟨x,hx⟩:∃x,x=L[k]:=⟨_,rfl⟩
    have hcell:w.cell? ⟨b,off+k,none⟩=some (.int .u8 (x.toNat:Int)):=by rw[hx];exact HL.out k hn
    have HT3:Hid (R=tail ((3 - (k+1))+1) k l h r (x::L.drop (k+1))):=by
     have hd:L.drop k=x::L.drop (k+1):=by rw[hx];exact List.drop_eq_getElem_cons hn
     rw[←hd];exact HT2
    clear HT2 hx
    have hx2:(x.toNat:Int)<256:=by have:=x.toNat_lt;omega
    have hne:((k:Int)==(L.length:Int))=false:=by simp;omega
    by_cases ht:(x.toNat:Int)<l∨h<(x.toNat:Int)
    ·have HT4:Hid (R=(65533,(k:Int),false)):=by
      have e:=HT3.out
      rw[tail,if_pos ht]at e
      exact e
     clear HT3
     go_wp2
     all_goals
      go_ret3
      rw[HT4.out]
      exact⟨rfl,Base.below_drewN (Below.refl _ _) _⟩
    ·have HT4:Hid (R=tail (3 - (k+1)) (k+1) 128 191 (r*64+(x.toNat:Int)%64) (L.drop (k+1))):=by
      have e:=HT3.out
      rw[tail,if_neg ht]at e
      exact e
     clear HT3
     have ht1:l≤(x.toNat:Int):=by omega
     have ht2:(x.toNat:Int)≤h:=by omega
     clear ht
     go_wp2
     go_round
     case rel=>exact⟨k+1,128,191,r*64+(x.toNat:Int)%64,by omega,by omega,by omega,by go_num,rfl,rfl,rfl,by omega,by rw[HB.out];omega,HT4⟩
     case measure=>simp[intOf];omega
   ·obtain rfl:k=L.length:=by omega
    have HT4:Hid (R=(65533,(L.length:Int),false)):=by
     have e:=HT2.out
     rw[List.drop_length,tail]at e
     exact e
    clear HT2
    go_wp2
    go_ret3
    rw[HT4.out]
    exact⟨rfl,Base.below_drewN (Below.refl _ _) _⟩
  ·obtain rfl:k=3:=by omega
   have HT4:Hid (R=(r,3,true)):=by
    have e:=HT.out
    rw[Nat.sub_self,tail]at e
    exact e
   clear HT
   go_wp2
   go_ret3
   rw[HT4.out]
   exact⟨rfl,Base.below_drewN (Below.refl _ _) _⟩
theorem read_4 (b off cap:Nat) (L:List UInt8) (c:Int) (w:World) (hc:w.cell? ⟨b,off,none⟩=some (.int .u8 c)) (hL:∀j (h:j<L.length),w.cell? ⟨b,off+j,none⟩=some (.int .u8 (L[j].toNat:Int)))
  (hm:L.length≤maxLen) (h0:0<L.length) (h1:240≤c) (h2:c≤244) (R:Int×Int×Bool) (hR:R=tail 3 1 (lo c) (hi c) (c%8) (L.drop 1)):
  Calls Tryz.prog 147 #[.slice (some ⟨b,off,none⟩) L.length cap] w fun e w'=>e=.returned (.tuple #[.int .i32 R.1,.int .i64 R.2.1,.bool R.2.2])∧Below w.heap.size w w':=by
 have hs:size c=4:=by unfold size;(repeat' split)<;>omega
 have HS:=hid hs
 clear hs
 unfold maxLen at hm
 have hp:(0:Int)<(L.length:Int):=by omega
 have HL:=hid hL
 clear hL
 have HR:=hid hR
 clear hR
 have hr0:0≤c%8∧c%8<32:=by omega
 go_enter Tryz.func147,Tryz.ntmps147
 go_wp2_with (go_at_call 245;refine(lead_any _ _).mono ?_;rintro e w' ⟨rfl,rfl⟩;rw[HS.out])
 go_quiet (fail)
 go_wp2
 go_loop [6,7,8,9] (fun vl vh vr vk=>∃(k:Nat) (l h r:Int),1≤k∧k≤4∧k≤L.length∧vk=.int .i64 k∧vl=.int .u8 l∧vh=.int .u8 h∧vr=.int .i32 r∧0≤r∧r<room k∧Hid (R=tail (4 - k) k l h r (L.drop k))) (fun _ _ _ vk=>4 - (intOf vk).toNat)
 case atStart=>exact⟨1,lo c,hi c,c%8,by omega,by omega,by omega,rfl,rfl,rfl,rfl,hr0.1,hr0.2,HR⟩
 case round=>
  obtain⟨k,l,h,r,hk1,hk2,hkn,rfl,rfl,rfl,rfl,hr1,hr2,HT⟩:=hrel
  by_cases hlt:k<4
  ·obtain ⟨hb1,hb2⟩:=uI k hk1 (by omega)
   have HB:=hid hb1
   clear hb1
   have hr3:r<131072:=by omega
   have es:4 - k=(4 - (k+1))+1:=by omega
   have HT2:Hid (R=tail ((4 - (k+1))+1) k l h r (L.drop k)):=by rw[←es];exact HT
   clear es HT
   by_cases hn:k<L.length
   ·obtain ⟨x,hx⟩:∃x,x=L[k]:=⟨_,rfl⟩
    have hcell:w.cell? ⟨b,off+k,none⟩=some (.int .u8 (x.toNat:Int)):=by rw[hx];exact HL.out k hn
    have HT3:Hid (R=tail ((4 - (k+1))+1) k l h r (x::L.drop (k+1))):=by
     have hd:L.drop k=x::L.drop (k+1):=by rw[hx];exact List.drop_eq_getElem_cons hn
     rw[←hd];exact HT2
    clear HT2 hx
    have hx2:(x.toNat:Int)<256:=by have:=x.toNat_lt;omega
    have hne:((k:Int)==(L.length:Int))=false:=by simp;omega
    by_cases ht:(x.toNat:Int)<l∨h<(x.toNat:Int)
    ·have HT4:Hid (R=(65533,(k:Int),false)):=by
      have e:=HT3.out
      rw[tail,if_pos ht]at e
      exact e
     clear HT3
     go_wp2
     all_goals
      go_ret3
      rw[HT4.out]
      exact⟨rfl,Base.below_drewN (Below.refl _ _) _⟩
    ·have HT4:Hid (R=tail (4 - (k+1)) (k+1) 128 191 (r*64+(x.toNat:Int)%64) (L.drop (k+1))):=by
      have e:=HT3.out
      rw[tail,if_neg ht]at e
      exact e
     clear HT3
     have ht1:l≤(x.toNat:Int):=by omega
     have ht2:(x.toNat:Int)≤h:=by omega
     clear ht
     go_wp2
     go_round
     case rel=>exact⟨k+1,128,191,r*64+(x.toNat:Int)%64,by omega,by omega,by omega,by go_num,rfl,rfl,rfl,by omega,by rw[HB.out];omega,HT4⟩
     case measure=>simp[intOf];omega
   ·obtain rfl:k=L.length:=by omega
    have HT4:Hid (R=(65533,(L.length:Int),false)):=by
     have e:=HT2.out
     rw[List.drop_length,tail]at e
     exact e
    clear HT2
    go_wp2
    go_ret3
    rw[HT4.out]
    exact⟨rfl,Base.below_drewN (Below.refl _ _) _⟩
  ·obtain rfl:k=4:=by omega
   have HT4:Hid (R=(r,4,true)):=by
    have e:=HT.out
    rw[Nat.sub_self,tail]at e
    exact e
   clear HT
   go_wp2
   go_ret3
   rw[HT4.out]
   exact⟨rfl,Base.below_drewN (Below.refl _ _) _⟩
end Go.Proofs.YtgamccijegollaaGreatDoor.qh
namespace Go.Proofs.YtgamccijegollaaGreatDoor.qh
open Go.RowKit Base
def rd:List UInt8→Int×Int×Bool
 |[]=>(65533,1,false)
 |x::t=>
  let c:Int:=x.toNat
  if c≤127 then(c,1,true)else if c≤193∨245≤c then(65533,1,false)else if c≤223 then tail 1 1 (lo c) (hi c) (c%32) t else if c≤239 then tail 2 1 (lo c) (hi c) (c%16) t else tail 3 1 (lo c) (hi c) (c%8) t
theorem abl (b off n cap:Nat) (L:List UInt8) (w:World) (h:aY w (some ⟨b,off,none⟩) n (ah L)) (hm:n≤maxLen) (h0:0<n) (R:Int×Int×Bool) (hR:R=rd L):
  Calls Tryz.prog 147 #[.slice (some ⟨b,off,none⟩) n cap] w fun e w'=>e=.returned (.tuple #[.int .i32 R.1,.int .i64 R.2.1,.bool R.2.2])∧Below w.heap.size w w':=by
 have hl:L.length=n:=by rw[←aI];exact h.1
 subst hl
 obtain⟨x,t,rfl⟩:∃x t,L=x::t:=by
  cases L with
  |nil=>simp at h0
  |cons x t=>exact⟨x,t,rfl⟩
 have hc:w.cell? ⟨b,off,none⟩=some (.int .u8 (x.toNat:Int)):=by
  have:=h.byte 0 (by simp)
  rw[Nat.add_zero]at this
  exact this
 have hL:∀j (hj:j<(x::t).length),w.cell? ⟨b,off+j,none⟩=some (.int .u8 ((x::t)[j].toNat:Int)):=fun j hj=>h.byte j hj
 have hx:(x.toNat:Int)<256:=by have:=x.toNat_lt;omega
 by_cases h1:(x.toNat:Int)≤127
 ·rw[rd,if_pos h1]at hR
  subst hR
  exact(anj b off _ cap _ w hc h0 (by omega) h1).mono fun e w' ⟨he,hw⟩=>⟨he,hw▸Below.refl _ _⟩
 by_cases h2:(x.toNat:Int)≤193∨245≤(x.toNat:Int)
 ·rw[rd,if_neg h1,if_pos h2]at hR
  subst hR
  exact(ais b off _ cap _ w hc h0 (by omega)).mono fun e w' ⟨he,hw⟩=>⟨he,hw▸Below.refl _ _⟩
 by_cases h3:(x.toNat:Int)≤223
 ·rw[rd,if_neg h1,if_neg h2,if_pos h3]at hR
  exact read_2 b off cap _ _ w hc hL hm h0 (by omega) (by omega) R hR
 by_cases h4:(x.toNat:Int)≤239
 ·rw[rd,if_neg h1,if_neg h2,if_neg h3,if_pos h4]at hR
  exact read_3 b off cap _ _ w hc hL hm h0 (by omega) (by omega) R hR
 ·rw[rd,if_neg h1,if_neg h2,if_neg h3,if_neg h4]at hR
  exact read_4 b off cap _ _ w hc hL hm h0 (by omega) (by omega) R hR
theorem tail_size:∀(m k:Nat) (l h r:Int) (t:List UInt8),(k:Int)≤(tail m k l h r t).2.1∧(tail m k l h r t).2.1≤k+t.length
 |0,k,_,_,_,t=>by simp[tail];omega
 |m+1,k,l,h,r,[]=>by simp[tail]
 |m+1,k,l,h,r,c::t=>by
  rw[tail]
  split
  ·simp;omega
  ·have:=tail_size m (k+1) 128 191 (r*64+(c.toNat:Int)%64) t
   simp only[List.length_cons]
   omega
theorem nJ (x:UInt8) (t:List UInt8):1≤(rd (x::t)).2.1∧(rd (x::t)).2.1≤(t.length:Int)+1:=by
 simp only[rd]
 (repeat' split)
 ·simp;omega
 ·simp;omega
 ·have:=tail_size 1 1 (lo x.toNat) (hi x.toNat) (x.toNat%32) t;omega
 ·have:=tail_size 2 1 (lo x.toNat) (hi x.toNat) (x.toNat%16) t;omega
 have:=tail_size 3 1 (lo x.toNat) (hi x.toNat) (x.toNat%8) t;omega
def xI:Nat→List UInt8→List Int
 |0,_=>[]
 |_+1,[]=>[]
 |n+1,x::t=>(rd (x::t)).1::xI n ((x::t).drop (rd (x::t)).2.1.toNat)
def dec (L:List UInt8):List Int:=xI L.length L
theorem uy:∀(n m:Nat) (L:List UInt8),L.length≤n→L.length≤m→xI n L=xI m L
 |0,0,_,_,_=>rfl
 |0,m+1,[],_,_=>rfl
 |0,_+1,_::_,h,_=>by simp at h
 |n+1,0,[],_,_=>rfl
 |_+1,0,_::_,_,h=>by simp at h
 |_+1,_+1,[],_,_=>rfl
 |n+1,m+1,x::t,h1,h2=>by
  have hs:=nJ x t
  simp only[List.length_cons]at h1 h2
  rw[xI,xI,uy n m _ (by simp;omega) (by simp;omega)]
theorem lT:dec []=[]:=rfl
theorem iK (x:UInt8) (t:List UInt8):dec (x::t)=(rd (x::t)).1::dec ((x::t).drop (rd (x::t)).2.1.toNat):=by
 have hs:=nJ x t
 unfold dec
 rw[List.length_cons,xI,uy _ _ _ (by simp;omega) (Nat.le_refl _)]
theorem Qc (L:List UInt8) (k:Nat) (h:k<L.length):
  dec (L.drop k)=(rd (L.drop k)).1::dec (L.drop (k+(rd (L.drop k)).2.1.toNat))∧1≤(rd (L.drop k)).2.1∧(rd (L.drop k)).2.1≤(L.length:Int) - k:=by
 obtain⟨x,t,ht⟩:∃x t,L.drop k=x::t:=by
  cases e:L.drop k with
  |nil=>simp at e;omega
  |cons x t=>exact⟨x,t,rfl⟩
 have hs:=nJ x t
 have hl:(L.drop k).length=L.length - k:=List.length_drop
 rw[ht,List.length_cons]at hl
 refine⟨?_,?_,?_⟩
 ·rw[ht,iK,←ht,List.drop_drop]
 ·rw[ht];exact hs.1
 ·rw[ht];omega
theorem info21:(Tryz.prog.info? 21).map (fun i=>(i.zero,i.size,i.bytes))=some (some (.int .i32 0),1,4):=by kernel_rfl
theorem decode_any (A:Option Addr) (n cap:Nat) (L:List UInt8) (w:World) (h:aY w A n (ah L)) (hm:n≤1073741824) (hcap:n≤cap):
  Calls Tryz.prog 59 #[.slice A n cap] w fun e w'=>∃v,e=.returned v∧w'.ownsRow w.heap.size 21 1 v (dec L).length (gV .i32 (dec L))∧Below w.heap.size w w':=by
 have hl:L.length=n:=by rw[←aI];exact h.1
 have HL:=hid hl
 clear hl
 obtain⟨i0,hi,hz0,hz1,hz2⟩:=info_parts info21
 have HH:=hid h
 clear h
 go_enter Tryz.func59,Tryz.ntmps59
 go_wp2
 go_loopw [3,4] (fun v vk wr=>∃(k:Nat) (acc:List Int),k≤n∧acc.length≤k∧vk=.int .i64 k∧wr.ownsRow w.heap.size 21 1 v acc.length (gV .i32 acc)∧Below w.heap.size w wr∧Hid (acc++dec (L.drop k)=dec L)) (fun _ vk _=>n - (intOf vk).toNat)
 case atStart=>exact⟨0,[],Nat.zero_le _,Nat.le_refl _,rfl,World.ownsRow_nil _ _ _ _,Below.refl _ _,rfl⟩
 case round =>
  obtain⟨k,acc,hk,hacc,rfl,hown,hbel,HT⟩:=hrel
  by_cases hlt:k<n
  ·obtain ⟨b,off,rfl,hb,_⟩:=(HH.out).spot (by omega)
   have hcut:Hid (aY wr (some ⟨b,off+k,none⟩) (n - k) (ah (L.drop k))):=by
    rw[jl]
    exact(HH.out.cut k hk).below hbel
   have hne:¬cap=k:=by omega
   obtain⟨hd1,hd2,hd3⟩:=Qc L k (by rw[HL.out];exact hlt)
   obtain⟨R,hR⟩:∃R,R=rd (L.drop k):=⟨_,rfl⟩
   rw[←hR]at hd1 hd2 hd3
   rw[HL.out]at hd3
   have HD:=hid hd1
   have HR:=hid hR
   clear hd1 hR
   go_wp2_with fail
   refine(abl b (off+k) (n - k) (cap - k) (L.drop k) _ hcut.out (by unfold maxLen;omega) (by omega) R HR.out).mono ?_
   rintro e w1 ⟨rfl,hb1⟩
   have hown1:=aP hown hb1
   have gW:=hbel.trans (hb1.mono hbel.size)
   clear hown hbel
   go_wp2_with (at_builtin;refine wpList_append_own _ rfl _ _ 107 rfl w.heap.size 21 i0 (.int .i32 0) 1 4 Tryz.underlying107 hi hz0 hz1 hz2 rfl (by decide) _ _ _ rfl (hown1.alloc _) ⟨w1.heap.size,0,none⟩ 1 1 [.int .i32 R.1] rfl rfl ?c1 ?c2 ?c3 ?c4 ?c5 ?_)
   case c1=>exact cell_one_new _ _ _
   case c2=>intro u hu;simp at hu;subst hu;rfl
   case c3=>unfold maxLen;omega
   case c4=>omega
   case c5=>have:=gW.size;simp;omega
   intro v' w2 hown2 hg2 _
   have dZ:Below w.heap.size w w2:=(gW.alloc gW.size _).grown hg2 (by have:=gW.size;simp;omega) (fun g hg=>(hown1.lt g hg).1)
   clear hown1 gW hg2
   go_wp2
   go_roundw
   case rel=>exact⟨k+R.2.1.toNat,acc++[R.1],by omega,by simp;omega,by rw[show((k+R.2.1.toNat:Nat):Int)=(k:Int)+R.2.1 by omega],by rw[iE,List.length_append];exact hown2,dZ,by
     have:=HT.out
     rw[HD.out]at this
     rw[List.append_assoc]
     exact this⟩
   case measure=>simp[intOf];omega
  ·obtain rfl:k=n:=by omega
   have HE:Hid (acc=dec L):=by
    have e:=HT.out
    rw[←HL.out,List.drop_length,lT,List.append_nil]at e
    exact e
   go_wp2
   go_ret
   exact⟨_,rfl,by rw[←HE.out];exact hown,hbel⟩
end Go.Proofs.YtgamccijegollaaGreatDoor.qh
namespace Go.Proofs.YtgamccijegollaaGreatDoor.BI
open Go.RowKit Base
def enc (l:List Int):List UInt8:=l.flatMap Lib.encodeRune
theorem ac9 (r:Int):Lib.runeCells r=ah (Lib.encodeRune r):=(Lib.byteCells_encodeRune r).symm
theorem rM (l:List Int) (r:Int):enc (l++[r])=enc l++Lib.encodeRune r:=by simp[enc]
theorem Jy (r:Int):1≤(Lib.encodeRune r).length∧(Lib.encodeRune r).length≤4:=by
 have:=Lib.runeCells_le r
 rw[Lib.runeCells_length]at this
 exact this
theorem iW (l:List Int):(enc l).length≤4*l.length∧l.length≤(enc l).length:=by
 induction l with
 |nil=>simp[enc]
 |cons r l ih=>
  have h:=Jy r
  have e:enc (r::l)=Lib.encodeRune r++enc l:=by simp[enc]
  rw[e,List.length_append,List.length_cons]
  omega
def agX (r:Int):Prop:= -2147483648≤r∧r≤2147483647
theorem eF (A:Option Addr) (n cap:Nat) (l:List Int) (w:World) (h:aY w A n (gV .i32 l)) (hr:∀r ∈ l,agX r) (hm:n≤1073741824):
  Calls Tryz.prog 58 #[.slice A n cap] w fun e w'=>∃v,e=.returned v∧w'.ownsRow w.heap.size 5 1 v (enc l).length (ah (enc l))∧Below w.heap.size w w':=by
 have hl:l.length=n:=by rw[←jA .i32];exact h.1
 have HL:=hid hl
 clear hl
 have HH:=hid h
 clear h
 have HR:=hid hr
 clear hr
 go_enter Tryz.func58,Tryz.ntmps58
 go_wp2
 go_loopw [3,8] (fun v vk wr=>∃(k:Nat),k≤n∧vk=.int .i64 k∧wr.ownsRow w.heap.size 5 1 v (enc (l.take k)).length (ah (enc (l.take k)))∧Below w.heap.size w wr) (fun _ vk _=>n - (intOf vk).toNat)
 case atStart=>exact⟨0,Nat.zero_le _,rfl,World.ownsRow_nil _ _ _ _,Below.refl _ _⟩
 case round =>
  obtain⟨k,hk,rfl,hown,hbel⟩:=hrel
  by_cases hlt:k<n
  ·obtain ⟨b,off,rfl,hb,_⟩:=(HH.out).spot (by omega)
   obtain⟨r,hx⟩:∃r,r=l[k]'(by rw[HL.out];exact hlt):=⟨_,rfl⟩
   have hcell:wr.cell? ⟨b,off+k,none⟩=some (.int .i32 r):=by
    rw[hx,←HH.out.int k (by rw[HL.out];exact hlt)]
    exact hbel.cell (p:=⟨b,off+k,none⟩) hb
   have hRr:agX r:=by rw[hx];exact HR.out _ (List.getElem_mem _)
   obtain⟨hr1,hr2⟩:=hRr
   have HS:Hid (l.take (k+1)=l.take k++[r]):=by
    rw[hx]
    exact List.take_succ_eq_append_getElem (by rw[HL.out];exact hlt)
   clear hx
   have hle:=(iW (l.take k)).1
   have hle2:(l.take k).length≤k:=List.length_take_le _ _
   obtain⟨m,hmm⟩:∃m,m=(enc (l.take k)).length:=⟨_,rfl⟩
   rw[←hmm]at hle hown
   have HM:=hid hmm
   clear hmm
   go_wp2_with fail
   refine(Tryz.utf8_AppendRune_plain w.heap.size _ _ _ r hr1 hr2 _ hown (by omega) hbel.size).mono ?_
   rintro e w1 ⟨v',rfl,hown1,o,hg⟩
   have gW:Below w.heap.size w w1:=(hbel.alloc hbel.size o).grown hg (by have:=hbel.size;simp;omega) (fun g hg=>(hown.lt g hg).1)
   clear hown hbel
   go_wp2
   go_roundw
   case rel=>exact⟨k+1,by omega,by go_num,by
     rw[HS.out,rM,List.length_append,aS,←ac9,←Lib.runeCells_length,←HM.out]
     exact hown1,gW⟩
   case measure=>simp[intOf];omega
  ·obtain rfl:k=n:=by omega
   have HE:Hid (l.take k=l):=by
    rw[←HL.out];exact List.take_length
   go_wp2
   go_ret
   exact⟨_,rfl,by rw[HE.out]at hown;exact hown,hbel⟩
end Go.Proofs.YtgamccijegollaaGreatDoor.BI
