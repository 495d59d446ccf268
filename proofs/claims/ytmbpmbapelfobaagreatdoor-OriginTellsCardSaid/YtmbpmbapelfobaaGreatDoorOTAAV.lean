/- Lemmas. -/
import Derived.Test.YtmbpmbapelfobaaGreatDoorOTAAU
set_option linter.unusedSimpArgs false
set_option linter.unusedVariables false
set_option maxRecDepth 100000
set_option maxHeartbeats 64000000
namespace Go.Proofs.YtmbpmbapelfobaaGreatDoor
open Tryz
namespace YN
open Go.RowKit Base sO
def AQ (t:List UInt8):Prop:=∀c ∈ t,128≤(c.toNat:Int)∧(c.toNat:Int)≤191
instance (t:List UInt8):Decidable (AQ t):=by unfold AQ;exact inferInstance
def xW (x y:Int):Prop:=x=224∧y<160∨x=237∧159<y∨x=240∧y<144∨x=244∧143<y
instance (x y:Int):Decidable (xW x y):=by unfold xW;exact inferInstance
def bad (x:Int):List UInt8→Prop
 |[]=>False
 |y::_=>xW x y.toNat
instance (x:Int) (t:List UInt8):Decidable (bad x t):=by cases t<;>unfold bad<;>exact inferInstance
def st:List UInt8→Bool×Bool
 |[]=>(false,false)
 |x::t=>if size x.toNat<(t.length:Int)+1∨¬AQ t∨bad x.toNat t then(false,false)else(true,decide ((t.length:Int)+1=size x.toNat))
def Jd (L:List UInt8) (k:Nat):Prop:=∀j (h:j<L.length),1≤j→j<k→128≤(L[j].toNat:Int)∧(L[j].toNat:Int)≤191
theorem zW (x:UInt8) (t:List UInt8) (h:Jd (x::t) (t.length+1)):AQ t:=by
 intro c a;obtain⟨i,hi,rfl⟩:=List.mem_iff_getElem.1 a;have:=h (i+1) (by simp;omega) (by omega) (by omega);simpa using this
theorem zX (x:UInt8) (t:List UInt8) (k:Nat) (c:k<t.length+1) (d:1≤k) (a:((x::t)[k].toNat:Int)<128∨191<((x::t)[k].toNat:Int)):¬AQ t:=by
 intro h;obtain⟨i,rfl⟩:∃i,k=i+1:=⟨k - 1,by omega⟩;have:=h t[i] (List.getElem_mem _);simp at a;omega
theorem Fp {a b c:Prop} (f:¬a) (e:b) (d:¬c):¬(a∨¬b∨c):=by
 rintro(h|h|h)
 ·exact f h
 ·exact h e
 exact d h
theorem rU (x:UInt8) (t:List UInt8) (h:size x.toNat<(t.length:Int)+1∨¬AQ t∨bad x.toNat t):st (x::t)=(false,false):=by rw[st,if_pos h]
theorem qN (x:UInt8) (t:List UInt8) (h:¬(size x.toNat<(t.length:Int)+1∨¬AQ t∨bad x.toNat t)):st (x::t)=(true,decide ((t.length:Int)+1=size x.toNat)):=by rw[st,if_neg h]
theorem XK (b off z : Nat) (x : UInt8) (t : List UInt8) (n : Nat) (w : World) (C : t.length + 1 = n) (W : n ≤ 16) (B : size x.toNat = 1)
  (v:∀j (h:j<(x::t).length),w.cell? ⟨b,off+j,none⟩=some (.int .u8 ((x::t)[j].toNat:Int)))
  (T:(x.toNat:Int)<128)
  (R:Bool×Bool) (D:R=st (x::t)):
  Calls prog 107 #[.slice (some ⟨b,off,none⟩) n z] w fun e w'=>e=.returned (.tuple #[.bool R.1,.bool R.2])∧w=w':=by
 have N:w.cell? ⟨b,off,none⟩=some (.int .u8 (x.toNat:Int)):=by
  have:=v 0 (by simp);rw[Nat.add_zero]at this;exact this
 have F:=hid v;have f:=hid C;have g:=hid B;have i:=hid D;have V:(0:Int)<(n:Int):=by omega
 clear v C B D;by_cases hmany:(1:Int)<(n:Int)
 ·have d:Hid (R=(false,false)):=by
   have e:=i.out;rw[rU x t (.inl (by rw[g.out];have:=f.out;omega))]at e;exact e
  go_enter func107,ntmps107;go_wp2;go_ret2;rw[d.out];exact⟨rfl,rfl⟩
 ·go_enter func107,ntmps107;go_wp2
  go_loop [5] (fun vk=>∃k:Nat,1≤k∧k≤n∧vk=.int .i64 k∧Hid (Jd (x::t) k)) (fun vk=>n - (intOf vk).toNat)
  case atStart=>exact⟨1,by omega,by omega,rfl,fun j _ h1 h2=>absurd h2 (by omega)⟩
  case round=>
   obtain⟨k,q,J,rfl,E⟩:=hrel;by_cases hlt:k<n
   ·have m:k<(x::t).length:=by have:=f.out;simp;omega
    obtain⟨c,s⟩:∃c,c=(x::t)[k]:=⟨_,rfl⟩;have r:w.cell? ⟨b,off+k,none⟩=some (.int .u8 (c.toNat:Int)):=by rw[s];exact F k m
    have HC:=hid s;clear s;by_cases hb:(c.toNat:Int)<128∨191<(c.toNat:Int)
    ·have d:Hid (R=(false,false)):=by
      have e:=i.out;rw[rU x t (.inr (.inl (zX x t k (by have:=f.out;omega) q (by rw[←HC.out];exact hb))))]at e;exact e
     rcases hb with hb|hb
     ·go_wp2;go_ret2;rw[d.out];exact⟨rfl,rfl⟩
     ·have Q:¬(c.toNat:Int)<128:=by omega
      go_wp2;go_ret2;rw[d.out];exact⟨rfl,rfl⟩
    ·have P:¬(c.toNat:Int)<128:=by omega
     have O:¬191<(c.toNat:Int):=by omega
     have A:Hid (Jd (x::t) (k+1)):=fun j hj h1 h2=>by
      by_cases e:j=k
      ·subst e;rw[←HC.out];omega
      ·exact E j hj h1 (by omega)
     clear hb;go_wp2
     go_round
     case rel=>exact⟨k+1,by omega,by omega,by go_num,A⟩
     case measure=>simp[intOf];omega
   ·skip
    obtain rfl:k=n:=by omega
    have H:Hid (AQ t):=zW x t (by have e:=f.out;rw[e];exact E);clear hlt;cases t with
    |nil=>
     have a:=f.out;simp at a;have d:Hid (R=(true,decide ((k:Int)=1))):=by
      have e:=i.out;rw[qN x [] (Fp (by rw[g.out];simp) H.out (fun h=>h)),g.out]at e;rw[e,←a];exact rfl
     have l:¬(1:Int)<(k:Int):=by omega
     clear a;go_wp2;go_ret2;rw[d.out];exact⟨Aj rfl (kT (by rw[Bool.eq_iff_iff];simp)),rfl⟩
    | cons y t'=>
     have L:w.cell? ⟨b,off+1,none⟩=some (.int .u8 (y.toNat:Int)):=F 1 (by simp);have a:=f.out;simp only[List.length_cons]at a;have l:(1:Int)<(k:Int):=by omega
     have I:0≤(y.toNat:Int)∧(y.toNat:Int)<256:=by have:=y.toNat_lt;omega
     have G:Hid ((((y::t').length:Nat):Int)+1=k):=by show _=_;simp only[List.length_cons];omega
     clear a;by_cases hbd:xW x.toNat y.toNat
     ·have d:Hid (R=(false,false)):=by
       have e:=i.out;rw[rU x (y::t') (.inr (.inr hbd))]at e;exact e
      unfold xW at hbd;exact absurd hbd (by omega)
     ·have d:Hid (R=(true,decide ((k:Int)=1))):=by
       have e:=i.out;rw[qN x (y::t') (Fp (by rw[g.out];have:=G.out;omega) H.out hbd),g.out,G.out]at e;exact e
      unfold xW at hbd;clear hbd;go_wp2;all_goals
       go_ret2;rw[d.out];exact⟨Aj rfl (kT (by rw[Bool.eq_iff_iff];simp)),rfl⟩
theorem XL (b off z : Nat) (x : UInt8) (t : List UInt8) (n : Nat) (w : World) (C : t.length + 1 = n) (X : n ≤ 16) (B : size x.toNat = 2)
  (v:∀j (h:j<(x::t).length),w.cell? ⟨b,off+j,none⟩=some (.int .u8 ((x::t)[j].toNat:Int)))
  (V:194≤(x.toNat:Int)) (T:(x.toNat:Int)≤223)
  (R:Bool×Bool) (D:R=st (x::t)):
  Calls prog 107 #[.slice (some ⟨b,off,none⟩) n z] w fun e w'=>e=.returned (.tuple #[.bool R.1,.bool R.2])∧w=w':=by
 have N:w.cell? ⟨b,off,none⟩=some (.int .u8 (x.toNat:Int)):=by
  have:=v 0 (by simp);rw[Nat.add_zero]at this;exact this
 have F:=hid v;have f:=hid C;have g:=hid B;have i:=hid D;have W:(0:Int)<(n:Int):=by omega
 clear v C B D;by_cases hmany:(2:Int)<(n:Int)
 ·have d:Hid (R=(false,false)):=by
   have e:=i.out;rw[rU x t (.inl (by rw[g.out];have:=f.out;omega))]at e;exact e
  go_enter func107,ntmps107;go_wp2;go_ret2;rw[d.out];exact⟨rfl,rfl⟩
 ·go_enter func107,ntmps107;go_wp2
  go_loop [5] (fun vk=>∃k:Nat,1≤k∧k≤n∧vk=.int .i64 k∧Hid (Jd (x::t) k)) (fun vk=>n - (intOf vk).toNat)
  case atStart=>exact⟨1,by omega,by omega,rfl,fun j _ h1 h2=>absurd h2 (by omega)⟩
  case round=>
   obtain⟨k,q,J,rfl,E⟩:=hrel;by_cases hlt:k<n
   ·have m:k<(x::t).length:=by have:=f.out;simp;omega
    obtain⟨c,s⟩:∃c,c=(x::t)[k]:=⟨_,rfl⟩;have r:w.cell? ⟨b,off+k,none⟩=some (.int .u8 (c.toNat:Int)):=by rw[s];exact F k m
    have HC:=hid s;clear s;by_cases hb:(c.toNat:Int)<128∨191<(c.toNat:Int)
    ·have d:Hid (R=(false,false)):=by
      have e:=i.out;rw[rU x t (.inr (.inl (zX x t k (by have:=f.out;omega) q (by rw[←HC.out];exact hb))))]at e;exact e
     rcases hb with hb|hb
     ·go_wp2;go_ret2;rw[d.out];exact⟨rfl,rfl⟩
     ·have Q:¬(c.toNat:Int)<128:=by omega
      go_wp2;go_ret2;rw[d.out];exact⟨rfl,rfl⟩
    ·have P:¬(c.toNat:Int)<128:=by omega
     have O:¬191<(c.toNat:Int):=by omega
     have A:Hid (Jd (x::t) (k+1)):=fun j hj h1 h2=>by
      by_cases e:j=k
      ·subst e;rw[←HC.out];omega
      ·exact E j hj h1 (by omega)
     clear hb;go_wp2
     go_round
     case rel=>exact⟨k+1,by omega,by omega,by go_num,A⟩
     case measure=>simp[intOf];omega
   ·skip
    obtain rfl:k=n:=by omega
    have H:Hid (AQ t):=zW x t (by have e:=f.out;rw[e];exact E);clear hlt;cases t with
    |nil=>
     have a:=f.out;simp at a;have d:Hid (R=(true,decide ((k:Int)=2))):=by
      have e:=i.out;rw[qN x [] (Fp (by rw[g.out];simp) H.out (fun h=>h)),g.out]at e;rw[e,←a];exact rfl
     have l:¬(1:Int)<(k:Int):=by omega
     clear a;go_wp2;go_ret2;rw[d.out];exact⟨Aj rfl (kT (by rw[Bool.eq_iff_iff];simp)),rfl⟩
    | cons y t'=>
     have L:w.cell? ⟨b,off+1,none⟩=some (.int .u8 (y.toNat:Int)):=F 1 (by simp);have a:=f.out;simp only[List.length_cons]at a;have l:(1:Int)<(k:Int):=by omega
     have I:0≤(y.toNat:Int)∧(y.toNat:Int)<256:=by have:=y.toNat_lt;omega
     have G:Hid ((((y::t').length:Nat):Int)+1=k):=by show _=_;simp only[List.length_cons];omega
     clear a;by_cases hbd:xW x.toNat y.toNat
     ·have d:Hid (R=(false,false)):=by
       have e:=i.out;rw[rU x (y::t') (.inr (.inr hbd))]at e;exact e
      unfold xW at hbd;exact absurd hbd (by omega)
     ·have d:Hid (R=(true,decide ((k:Int)=2))):=by
       have e:=i.out;rw[qN x (y::t') (Fp (by rw[g.out];have:=G.out;omega) H.out hbd),g.out,G.out]at e;exact e
      unfold xW at hbd;clear hbd;go_wp2;all_goals
       go_ret2;rw[d.out];exact⟨Aj rfl (kT (by rw[Bool.eq_iff_iff];simp)),rfl⟩
theorem XM (b off F:Nat) (x:UInt8) (t:List UInt8) (n:Nat) (w:World) (I:t.length+1=n) (hm:n≤16) (H:size x.toNat=3)
  (E:∀j (h:j<(x::t).length),w.cell? ⟨b,off+j,none⟩=some (.int .u8 ((x::t)[j].toNat:Int)))
  (k1:224≤(x.toNat:Int)) (k2:(x.toNat:Int)≤239)
  (R:Bool×Bool) (J:R=st (x::t)):
  Calls prog 107 #[.slice (some ⟨b,off,none⟩) n F] w fun e w'=>e=.returned (.tuple #[.bool R.1,.bool R.2])∧w=w':=by
 have W:w.cell? ⟨b,off,none⟩=some (.int .u8 (x.toNat:Int)):=by
  have:=E 0 (by simp);rw[Nat.add_zero]at this;exact this
 have N:=hid E;have q:=hid I;have r:=hid H;have s:=hid J;have hp:(0:Int)<(n:Int):=by omega
 clear E I H J;by_cases hmany:(3:Int)<(n:Int)
 ·have g:Hid (R=(false,false)):=by
   have e:=s.out;rw[rU x t (.inl (by rw[r.out];have:=q.out;omega))]at e;exact e
  go_enter func107,ntmps107;go_wp2;go_ret2;rw[g.out];exact⟨rfl,rfl⟩
 ·go_enter func107,ntmps107;go_wp2
  go_loop [5] (fun vk=>∃k:Nat,1≤k∧k≤n∧vk=.int .i64 k∧Hid (Jd (x::t) k)) (fun vk=>n - (intOf vk).toNat)
  case atStart=>exact⟨1,by omega,by omega,rfl,fun j _ h1 h2=>absurd h2 (by omega)⟩
  case round=>
   obtain⟨k,B,T,rfl,L⟩:=hrel;by_cases hlt:k<n
   ·have A:k<(x::t).length:=by have:=q.out;simp;omega
    obtain⟨c,D⟩:∃c,c=(x::t)[k]:=⟨_,rfl⟩;have C:w.cell? ⟨b,off+k,none⟩=some (.int .u8 (c.toNat:Int)):=by rw[D];exact N k A
    have HC:=hid D;clear D;by_cases hb:(c.toNat:Int)<128∨191<(c.toNat:Int)
    ·have g:Hid (R=(false,false)):=by
      have e:=s.out;rw[rU x t (.inr (.inl (zX x t k (by have:=q.out;omega) B (by rw[←HC.out];exact hb))))]at e;exact e
     rcases hb with hb|hb
     ·go_wp2;go_ret2;rw[g.out];exact⟨rfl,rfl⟩
     ·have Z:¬(c.toNat:Int)<128:=by omega
      go_wp2;go_ret2;rw[g.out];exact⟨rfl,rfl⟩
    ·have Y:¬(c.toNat:Int)<128:=by omega
     have X:¬191<(c.toNat:Int):=by omega
     have G:Hid (Jd (x::t) (k+1)):=fun j hj h1 h2=>by
      by_cases e:j=k
      ·subst e;rw[←HC.out];omega
      ·exact L j hj h1 (by omega)
     clear hb;go_wp2
     go_round
     case rel=>exact⟨k+1,by omega,by omega,by go_num,G⟩
     case measure=>simp[intOf];omega
   ·skip
    obtain rfl:k=n:=by omega
    have P:Hid (AQ t):=zW x t (by have e:=q.out;rw[e];exact L);clear hlt;cases t with
    |nil=>
     have f:=q.out;simp at f;have g:Hid (R=(true,decide ((k:Int)=3))):=by
      have e:=s.out;rw[qN x [] (Fp (by rw[r.out];simp) P.out (fun h=>h)),r.out]at e;rw[e,←f];exact rfl
     have z:¬(1:Int)<(k:Int):=by omega
     clear f;go_wp2;go_ret2;rw[g.out];exact⟨Aj rfl (kT (by rw[Bool.eq_iff_iff];simp)),rfl⟩
    | cons y t'=>
     have V:w.cell? ⟨b,off+1,none⟩=some (.int .u8 (y.toNat:Int)):=N 1 (by simp);have f:=q.out;simp only[List.length_cons]at f;have z:(1:Int)<(k:Int):=by omega
     have Q:0≤(y.toNat:Int)∧(y.toNat:Int)<256:=by have:=y.toNat_lt;omega
     have O:Hid ((((y::t').length:Nat):Int)+1=k):=by show _=_;simp only[List.length_cons];omega
     clear f;by_cases hbd:xW x.toNat y.toNat
     ·have g:Hid (R=(false,false)):=by
       have e:=s.out;rw[rU x (y::t') (.inr (.inr hbd))]at e;exact e
      unfold xW at hbd;rcases hbd with hbd|hbd|hbd|hbd
      ·obtain⟨m,v⟩:=hbd;have q3:((x.toNat:Int)==224)=true:=by rw[beq_iff_eq];exact m
       have i:((x.toNat:Int)==237)=false:=by rw[beq_eq_false_iff_ne];omega
       have d:((x.toNat:Int)==240)=false:=by rw[beq_eq_false_iff_ne];omega
       have a:((x.toNat:Int)==244)=false:=by rw[beq_eq_false_iff_ne];omega
       clear m;go_wp2;go_ret2;rw[g.out];exact⟨rfl,rfl⟩
      ·obtain⟨m,v⟩:=hbd;have q3:((x.toNat:Int)==237)=true:=by rw[beq_iff_eq];exact m
       have l:((x.toNat:Int)==224)=false:=by rw[beq_eq_false_iff_ne];omega
       have d:((x.toNat:Int)==240)=false:=by rw[beq_eq_false_iff_ne];omega
       have a:((x.toNat:Int)==244)=false:=by rw[beq_eq_false_iff_ne];omega
       clear m;go_wp2;go_ret2;rw[g.out];exact⟨rfl,rfl⟩
      ·exact absurd hbd.1 (by omega)
      ·exact absurd hbd.1 (by omega)
     ·have g:Hid (R=(true,decide ((k:Int)=3))):=by
       have e:=s.out;rw[qN x (y::t') (Fp (by rw[r.out];have:=O.out;omega) P.out hbd),r.out,O.out]at e;exact e
      unfold xW at hbd;by_cases e1:(x.toNat:Int)=224
      ·have m:((x.toNat:Int)==224)=true:=by rw[beq_iff_eq];exact e1
       have v:¬(y.toNat:Int)<160:=by omega
       have i:((x.toNat:Int)==237)=false:=by rw[beq_eq_false_iff_ne];omega
       have d:((x.toNat:Int)==240)=false:=by rw[beq_eq_false_iff_ne];omega
       have a:((x.toNat:Int)==244)=false:=by rw[beq_eq_false_iff_ne];omega
       clear e1 hbd;go_wp2;all_goals
        go_ret2;rw[g.out];exact⟨Aj rfl (kT (by rw[Bool.eq_iff_iff];simp)),rfl⟩
      ·by_cases e2:(x.toNat:Int)=237
       ·have m:((x.toNat:Int)==237)=true:=by rw[beq_iff_eq];exact e2
        have v:¬159<(y.toNat:Int):=by omega
        have l:((x.toNat:Int)==224)=false:=by rw[beq_eq_false_iff_ne];omega
        have d:((x.toNat:Int)==240)=false:=by rw[beq_eq_false_iff_ne];omega
        have a:((x.toNat:Int)==244)=false:=by rw[beq_eq_false_iff_ne];omega
        clear e1 e2 hbd;go_wp2;all_goals
         go_ret2;rw[g.out];exact⟨Aj rfl (kT (by rw[Bool.eq_iff_iff];simp)),rfl⟩
       ·skip
        have l:((x.toNat:Int)==224)=false:=by rw[beq_eq_false_iff_ne];omega
        have i:((x.toNat:Int)==237)=false:=by rw[beq_eq_false_iff_ne];omega
        have d:((x.toNat:Int)==240)=false:=by rw[beq_eq_false_iff_ne];omega
        have a:((x.toNat:Int)==244)=false:=by rw[beq_eq_false_iff_ne];omega
        clear e1 e2 hbd;go_wp2;all_goals
         go_ret2;rw[g.out];exact⟨Aj rfl (kT (by rw[Bool.eq_iff_iff];simp)),rfl⟩
theorem XP (b off F:Nat) (x:UInt8) (t:List UInt8) (n:Nat) (w:World) (I:t.length+1=n) (hm:n≤16) (H:size x.toNat=4)
  (E:∀j (h:j<(x::t).length),w.cell? ⟨b,off+j,none⟩=some (.int .u8 ((x::t)[j].toNat:Int)))
  (k1:240≤(x.toNat:Int)) (k2:(x.toNat:Int)≤244)
  (R:Bool×Bool) (J:R=st (x::t)):
  Calls prog 107 #[.slice (some ⟨b,off,none⟩) n F] w fun e w'=>e=.returned (.tuple #[.bool R.1,.bool R.2])∧w=w':=by
 have W:w.cell? ⟨b,off,none⟩=some (.int .u8 (x.toNat:Int)):=by
  have:=E 0 (by simp);rw[Nat.add_zero]at this;exact this
 have N:=hid E;have q:=hid I;have r:=hid H;have s:=hid J;have hp:(0:Int)<(n:Int):=by omega
 clear E I H J;by_cases hmany:(4:Int)<(n:Int)
 ·have g:Hid (R=(false,false)):=by
   have e:=s.out;rw[rU x t (.inl (by rw[r.out];have:=q.out;omega))]at e;exact e
  go_enter func107,ntmps107;go_wp2;go_ret2;rw[g.out];exact⟨rfl,rfl⟩
 ·go_enter func107,ntmps107;go_wp2
  go_loop [5] (fun vk=>∃k:Nat,1≤k∧k≤n∧vk=.int .i64 k∧Hid (Jd (x::t) k)) (fun vk=>n - (intOf vk).toNat)
  case atStart=>exact⟨1,by omega,by omega,rfl,fun j _ h1 h2=>absurd h2 (by omega)⟩
  case round=>
   obtain⟨k,B,T,rfl,L⟩:=hrel;by_cases hlt:k<n
   ·have A:k<(x::t).length:=by have:=q.out;simp;omega
    obtain⟨c,D⟩:∃c,c=(x::t)[k]:=⟨_,rfl⟩;have C:w.cell? ⟨b,off+k,none⟩=some (.int .u8 (c.toNat:Int)):=by rw[D];exact N k A
    have HC:=hid D;clear D;by_cases hb:(c.toNat:Int)<128∨191<(c.toNat:Int)
    ·have g:Hid (R=(false,false)):=by
      have e:=s.out;rw[rU x t (.inr (.inl (zX x t k (by have:=q.out;omega) B (by rw[←HC.out];exact hb))))]at e;exact e
     rcases hb with hb|hb
     ·go_wp2;go_ret2;rw[g.out];exact⟨rfl,rfl⟩
     ·have Z:¬(c.toNat:Int)<128:=by omega
      go_wp2;go_ret2;rw[g.out];exact⟨rfl,rfl⟩
    ·have Y:¬(c.toNat:Int)<128:=by omega
     have X:¬191<(c.toNat:Int):=by omega
     have G:Hid (Jd (x::t) (k+1)):=fun j hj h1 h2=>by
      by_cases e:j=k
      ·subst e;rw[←HC.out];omega
      ·exact L j hj h1 (by omega)
     clear hb;go_wp2
     go_round
     case rel=>exact⟨k+1,by omega,by omega,by go_num,G⟩
     case measure=>simp[intOf];omega
   ·skip
    obtain rfl:k=n:=by omega
    have P:Hid (AQ t):=zW x t (by have e:=q.out;rw[e];exact L);clear hlt;cases t with
    |nil=>
     have f:=q.out;simp at f;have g:Hid (R=(true,decide ((k:Int)=4))):=by
      have e:=s.out;rw[qN x [] (Fp (by rw[r.out];simp) P.out (fun h=>h)),r.out]at e;rw[e,←f];exact rfl
     have z:¬(1:Int)<(k:Int):=by omega
     clear f;go_wp2;go_ret2;rw[g.out];exact⟨Aj rfl (kT (by rw[Bool.eq_iff_iff];simp)),rfl⟩
    | cons y t'=>
     have V:w.cell? ⟨b,off+1,none⟩=some (.int .u8 (y.toNat:Int)):=N 1 (by simp);have f:=q.out;simp only[List.length_cons]at f;have z:(1:Int)<(k:Int):=by omega
     have Q:0≤(y.toNat:Int)∧(y.toNat:Int)<256:=by have:=y.toNat_lt;omega
     have O:Hid ((((y::t').length:Nat):Int)+1=k):=by show _=_;simp only[List.length_cons];omega
     clear f;by_cases hbd:xW x.toNat y.toNat
     ·have g:Hid (R=(false,false)):=by
       have e:=s.out;rw[rU x (y::t') (.inr (.inr hbd))]at e;exact e
      unfold xW at hbd;rcases hbd with hbd|hbd|hbd|hbd
      ·exact absurd hbd.1 (by omega)
      ·exact absurd hbd.1 (by omega)
      ·obtain⟨m,v⟩:=hbd;have q3:((x.toNat:Int)==240)=true:=by rw[beq_iff_eq];exact m
       have d:((x.toNat:Int)==224)=false:=by rw[beq_eq_false_iff_ne];omega
       have a:((x.toNat:Int)==237)=false:=by rw[beq_eq_false_iff_ne];omega
       have i:((x.toNat:Int)==244)=false:=by rw[beq_eq_false_iff_ne];omega
       clear m;go_wp2;go_ret2;rw[g.out];exact⟨rfl,rfl⟩
      ·obtain⟨m,v⟩:=hbd;have q3:((x.toNat:Int)==244)=true:=by rw[beq_iff_eq];exact m
       have d:((x.toNat:Int)==224)=false:=by rw[beq_eq_false_iff_ne];omega
       have a:((x.toNat:Int)==237)=false:=by rw[beq_eq_false_iff_ne];omega
       have l:((x.toNat:Int)==240)=false:=by rw[beq_eq_false_iff_ne];omega
       clear m;go_wp2;go_ret2;rw[g.out];exact⟨rfl,rfl⟩
     ·have g:Hid (R=(true,decide ((k:Int)=4))):=by
       have e:=s.out;rw[qN x (y::t') (Fp (by rw[r.out];have:=O.out;omega) P.out hbd),r.out,O.out]at e;exact e
      unfold xW at hbd;by_cases e1:(x.toNat:Int)=240
      ·have m:((x.toNat:Int)==240)=true:=by rw[beq_iff_eq];exact e1
       have v:¬(y.toNat:Int)<144:=by omega
       have d:((x.toNat:Int)==224)=false:=by rw[beq_eq_false_iff_ne];omega
       have a:((x.toNat:Int)==237)=false:=by rw[beq_eq_false_iff_ne];omega
       have i:((x.toNat:Int)==244)=false:=by rw[beq_eq_false_iff_ne];omega
       clear e1 hbd;go_wp2;all_goals
        go_ret2;rw[g.out];exact⟨Aj rfl (kT (by rw[Bool.eq_iff_iff];simp)),rfl⟩
      ·by_cases e2:(x.toNat:Int)=244
       ·have m:((x.toNat:Int)==244)=true:=by rw[beq_iff_eq];exact e2
        have v:¬143<(y.toNat:Int):=by omega
        have d:((x.toNat:Int)==224)=false:=by rw[beq_eq_false_iff_ne];omega
        have a:((x.toNat:Int)==237)=false:=by rw[beq_eq_false_iff_ne];omega
        have l:((x.toNat:Int)==240)=false:=by rw[beq_eq_false_iff_ne];omega
        clear e1 e2 hbd;go_wp2;all_goals
         go_ret2;rw[g.out];exact⟨Aj rfl (kT (by rw[Bool.eq_iff_iff];simp)),rfl⟩
       ·skip
        have d:((x.toNat:Int)==224)=false:=by rw[beq_eq_false_iff_ne];omega
        have a:((x.toNat:Int)==237)=false:=by rw[beq_eq_false_iff_ne];omega
        have l:((x.toNat:Int)==240)=false:=by rw[beq_eq_false_iff_ne];omega
        have i:((x.toNat:Int)==244)=false:=by rw[beq_eq_false_iff_ne];omega
        clear e1 e2 hbd;go_wp2;all_goals
         go_ret2;rw[g.out];exact⟨Aj rfl (kT (by rw[Bool.eq_iff_iff];simp)),rfl⟩
theorem Uo (b off a:Nat) (x:UInt8) (t:List UInt8) (n:Nat) (w:World) (d:t.length+1=n) (y:n≤16) (c:size x.toNat=0)
  (g:∀j (h:j<(x::t).length),w.cell? ⟨b,off+j,none⟩=some (.int .u8 ((x::t)[j].toNat:Int)))
  (s:128≤(x.toNat:Int)) (r:(x.toNat:Int)≤193)
  (R:Bool×Bool) (f:R=st (x::t)):
  Calls prog 107 #[.slice (some ⟨b,off,none⟩) n a] w fun e w'=>e=.returned (.tuple #[.bool R.1,.bool R.2])∧w=w':=by
 have i:w.cell? ⟨b,off,none⟩=some (.int .u8 (x.toNat:Int)):=by
  have:=g 0 (by simp);rw[Nat.add_zero]at this;exact this
 have m:=hid d;have k:=hid c;have l:=hid f;have v:(0:Int)<(n:Int):=by omega
 clear g d c f;have q:Hid (R=(false,false)):=by
  have e:=l.out;rw[rU x t (.inl (by rw[k.out];have:=m.out;omega))]at e;exact e
 go_enter func107,ntmps107;go_wp2;go_ret2;rw[q.out];exact⟨rfl,rfl⟩
theorem Ur (b off a:Nat) (x:UInt8) (t:List UInt8) (n:Nat) (w:World) (d:t.length+1=n) (v:n≤16) (c:size x.toNat=0)
  (g:∀j (h:j<(x::t).length),w.cell? ⟨b,off+j,none⟩=some (.int .u8 ((x::t)[j].toNat:Int)))
  (r:245≤(x.toNat:Int))
  (R:Bool×Bool) (f:R=st (x::t)):
  Calls prog 107 #[.slice (some ⟨b,off,none⟩) n a] w fun e w'=>e=.returned (.tuple #[.bool R.1,.bool R.2])∧w=w':=by
 have i:w.cell? ⟨b,off,none⟩=some (.int .u8 (x.toNat:Int)):=by
  have:=g 0 (by simp);rw[Nat.add_zero]at this;exact this
 have m:=hid d;have k:=hid c;have l:=hid f;have s:(0:Int)<(n:Int):=by omega
 clear g d c f;have q:Hid (R=(false,false)):=by
  have e:=l.out;rw[rU x t (.inl (by rw[k.out];have:=m.out;omega))]at e;exact e
 go_enter func107,ntmps107;go_wp2;go_ret2;rw[q.out];exact⟨rfl,rfl⟩
end YN
namespace abY
open Go.RowKit sO YN
def UK:Int→Int→List UInt8→Prop
 |_,_,[]=>True
 |l,h,c::t=>l≤(c.toNat:Int)∧(c.toNat:Int)≤h∧UK 128 191 t
def fo (r:Int) (t:List UInt8):Int:=t.foldl (fun r c=>r*64+(c.toNat:Int)%64) r
theorem Gg:∀(p:List UInt8) (m k:Nat) (l h r:Int) (rest:List UInt8),UK l h p→p.length=m→tail m k l h r (p++rest)=(fo r p,((k+m:Nat):Int),true)
 |[],m,k,l,h,r,rest,_,hm=>by
  simp at hm
  subst hm
  simp[tail,fo]
 |c::p,0,k,l,h,r,rest,_,hm=>by simp at hm
 |c::p,m+1,k,l,h,r,rest,hi,hm=>by
  obtain⟨e,d,a⟩:=hi
  rw[List.cons_append,tail,if_neg (by omega),Gg p m (k+1) 128 191 _ rest a (by simpa using hm)]
  refine Prod.ext rfl (Prod.ext ?_ rfl)
  simp only
  omega
theorem I7:∀(p:List UInt8) (m k:Nat) (l h r:Int) (rest:List UInt8),UK l h p→p.length<m→(rest=[]∨∃c t,rest=c::t∧(p=[]→((c.toNat:Int)<l∨h<(c.toNat:Int)))∧(p≠[]→((c.toNat:Int)<128∨191<(c.toNat:Int))))→
  tail m k l h r (p++rest)=(65533,((k+p.length:Nat):Int),false)
 |_,0,_,_,_,_,_,_,hm,_=>by simp at hm
 |[],m+1,k,l,h,r,rest,_,hm,hr=>by
  rcases hr with rfl|⟨c,t,rfl,hc,_⟩
  ·simp[tail]
  ·rw[List.nil_append,tail,if_pos (hc rfl)]
   simp
 |c::p,m+1,k,l,h,r,rest,hi,hm,hr=>by
  obtain⟨f,d,a⟩:=hi
  rw[List.cons_append,tail,if_neg (by omega),I7 p m (k+1) 128 191 _ rest a (by simpa using hm) (by
   rcases hr with hr|⟨c',t',e,_,h5⟩
   ·exact .inl hr
   ·exact .inr ⟨c',t',e,fun _=>h5 (by simp),fun _=>h5 (by simp)⟩)]
  refine Prod.ext rfl (Prod.ext ?_ rfl)
  simp only[List.length_cons]
  omega
theorem V3:∀t:List UInt8,UK 128 191 t↔AQ t
 |[]=>by simp[UK,AQ]
 |c::t=>by
  have:=V3 t
  unfold AQ at this⊢
  simp only[UK,List.forall_mem_cons,this,and_assoc]
theorem MC (c:UInt8) (t:List UInt8):AQ (c::t)↔(128≤(c.toNat:Int)∧(c.toNat:Int)≤191)∧AQ t:=by
 unfold AQ;simp only[List.forall_mem_cons]
theorem Ii (x:Int) (f:2≤size x) (p:List UInt8):UK (lo x) (hi x) p↔AQ p∧¬bad x p:=by
 have hx:194≤x∧x≤244:=by
  unfold size at f
  (repeat' split at f)<;>omega
 cases p with
 |nil=>simp[UK,AQ,bad]
 |cons c t=>
  rw[MC,UK,V3];unfold bad xW lo hi;constructor
  ·rintro⟨e,d,a⟩;refine⟨⟨?_,a⟩,?_⟩
   ·(repeat' split at e)<;>(repeat' split at d)<;>omega
   (repeat' split at e)<;>(repeat' split at d)<;>omega
  rintro⟨⟨e,a⟩,d⟩;refine⟨?_,?_,a⟩
  ·(repeat' split)<;>omega
  (repeat' split)<;>omega
def first(x:Int):Int:=if x≤127 then x else if x≤223 then x%32 else if x≤239 then x%16 else x%8
theorem size_le (x:Int):0≤size x∧size x≤4:=by unfold size;(repeat' split)<;>omega
theorem Rl (x:UInt8) (T:List UInt8) (f:1≤size x.toNat):rd (x::T)=tail (size x.toNat - 1).toNat 1 (lo x.toNat) (hi x.toNat) (first x.toNat) T:=by
 have g:0≤(x.toNat:Int):=by omega
 by_cases a:(x.toNat:Int)≤127
 ·have e:size x.toNat=1:=by unfold size;rw[if_pos a]
  rw[rd,if_pos a,e];simp[tail,first,a]
 by_cases b:(x.toNat:Int)≤193∨245≤(x.toNat:Int)
 ·exfalso
  unfold size at f
  (repeat' split at f)<;>omega
 rw[rd,if_neg a,if_neg b];unfold first;rw[if_neg a];by_cases c:(x.toNat:Int)≤223
 ·have e:size x.toNat=2:=by unfold size;rw[if_neg a,if_pos (by omega)]
  rw[if_pos c,if_pos c,e];rfl
 rw[if_neg c,if_neg c];by_cases d:(x.toNat:Int)≤239
 ·have e:size x.toNat=3:=by unfold size;rw[if_neg a,if_neg (by omega),if_pos (by omega)]
  rw[if_pos d,if_pos d,e];rfl
 have e:size x.toNat=4:=by unfold size;rw[if_neg a,if_neg (by omega),if_neg (by omega),if_pos (by omega)]
 rw[if_neg d,if_neg d,e];rfl
theorem aai (x:UInt8) (T:List UInt8) (a:size x.toNat<1):rd (x::T)=(65533,1,false):=by
 have b:((x.toNat:Int)≤193∨245≤(x.toNat:Int))∧¬(x.toNat:Int)≤127:=by
  unfold size at a
  (repeat' split at a)<;>omega
 rw[rd,if_neg b.2,if_pos b.1]
theorem Am (x:UInt8) (p:List UInt8) (W:Bool) (h:st (x::p)=(true,W)):¬size x.toNat<(p.length:Int)+1∧AQ p∧¬bad x.toNat p∧W=decide ((p.length:Int)+1=size x.toNat):=by
 rw[st]at h;split at h
 ·cases h
 rename_i hn;injection h with h1 h2
 refine⟨fun a=>hn (.inl a),?_,fun a=>hn (.inr (.inr a)),h2.symm⟩;exact Decidable.byContradiction fun a=>hn (.inr (.inl a))
theorem QH (x:Int) (p:List UInt8) (g:1≤size x) (d:(p.length:Int)+1≤size x) (f:AQ p) (e:¬bad x p):UK (lo x) (hi x) p:=by
 by_cases a:2≤size x
 ·exact(Ii x a p).2 ⟨f,e⟩
 cases p with
 |nil=>trivial
 |cons c t=>simp at d;omega
theorem Yo (x:UInt8) (p rest:List UInt8) (h:st (x::p)=(true,true)):rd (x::(p++rest))=(fo (first x.toNat) p,(p.length:Int)+1,true):=by
 obtain⟨f,d,c,a⟩:=Am x p true h;have e:(p.length:Int)+1=size x.toNat:=by simpa using a.symm
 rw[Rl x _ (by omega),Gg p _ 1 _ _ _ rest (QH _ p (by omega) (by omega) d c) (by omega)];refine Prod.ext rfl (Prod.ext ?_ rfl);simp only;omega
theorem ZT (x:UInt8) (p rest:List UInt8) (h:st (x::p)=(true,false)) (f:rest=[]∨∃c t,rest=c::t∧(st (x::(p++[c]))).1=false):rd (x::(p++rest))=(65533,(p.length:Int)+1,false):=by
 obtain⟨s,l,k,q⟩:=Am x p false h;have r:¬(p.length:Int)+1=size x.toNat:=by simpa using q.symm
 have n:2≤size x.toNat:=by omega
 rw [Rl x _ (by omega),I7 p _ 1 _ _ _ rest (QH _ p (by omega) (by omega) l k) (by omega) (by
  rcases f with f|⟨c,t,rfl,hc⟩
  ·exact .inl f
  refine .inr ⟨c,t,rfl,?_,?_⟩
  ·rintro rfl;have e:¬UK (lo x.toNat) (hi x.toNat) [c]:=by
    intro hi;obtain⟨j,i⟩:=(Ii _ n [c]).1 hi;have:st (x::([]++[c]))=(true,decide ((([c]:List UInt8).length:Int)+1=size x.toNat)):=qN x [c] (Fp (by simp;omega) j i);rw[this]at hc;cases hc
   simp only[UK,and_true]at e;omega
  intro m;have e:¬AQ [c]:=by
   intro g;have j:AQ (p++[c]):=by
    intro d a;rcases List.mem_append.1 a with a|a
    ·exact l d a
    exact g d a
   have i:¬bad x.toNat (p++[c]):=by
    cases p with
    |nil=>exact absurd rfl m
    |cons d p=>exact k
   have:st (x::(p++[c]))=(true,decide (((p++[c]).length:Int)+1=size x.toNat)):=qN x _ (Fp (by simp;omega) j i);rw[this]at hc;cases hc
  rw[MC]at e;have:AQ []:=by intro d a;cases a
  simp only[this,and_true]at e;omega)]
 refine Prod.ext rfl (Prod.ext ?_ rfl);simp only;omega
theorem ZJ (x:UInt8) (T:List UInt8) (h:(st [x]).1=false):rd (x::T)=(65533,1,false):=by
 refine aai x T ?_;rcases Int.lt_or_le (size x.toNat) 1 with h1|h1
 ·exact h1
 have:st [x]=(true,decide ((([]:List UInt8).length:Int)+1=size x.toNat)):=qN x [] (Fp (by simp;omega) (by intro d a;cases a) (fun h=>h));rw[this]at h;cases h
end abY
namespace aeL
open Go.RowKit Base sO YN abY
theorem WH (b off d:Nat) (x:UInt8) (t:List UInt8) (w:World) (g:t.length=0) (D:(x.toNat:Int)≤127)
  (i:∀j (h:j<(x::t).length),w.cell? ⟨b,off+j,none⟩=some (.int .u8 ((x::t)[j].toNat:Int))) (c:AQ t):
  Calls prog 108 #[.slice (some ⟨b,off,none⟩) 1 d] w fun e w'=>e=.returned (.int .i32 (fo (first x.toNat) t))∧w=w':=by
 have v:w.cell? ⟨b,off,none⟩=some (.int .u8 (x.toNat:Int)):=by
  have:=i 0 (by simp);rw[Nat.add_zero]at this;exact this
 have l:0≤(x.toNat:Int):=by omega
 have hf:first x.toNat=(x.toNat:Int):=by unfold first;(repeat' split)<;>omega
 obtain⟨f,a⟩:∃f,f=first x.toNat:=⟨_,rfl⟩;rw[←a]at hf⊢;have y:0≤(x.toNat:Int)∧(x.toNat:Int)<128:=by omega
 have A:=hid g;have B:=hid hf;clear i g c hf a;go_enter func108,ntmps108;go_wp2
 go_loop [3,4] (fun vr vk=>∃(k:Nat) (r:Int),1≤k∧k≤1∧vk=.int .i64 k∧vr=.int .i32 r∧0≤r∧r<4*room k∧Hid (fo r (t.drop (k - 1))=fo f t)) (fun _ vk=>1 - (intOf vk).toNat)
 case atStart=>exact⟨1,(x.toNat:Int),by omega,by omega,rfl,rfl,by omega,by have:room 1=32:=rfl;omega,by rw[B.out];exact rfl⟩
 case round=>
  obtain⟨k,r,s,q,rfl,rfl,n,m,z⟩:=hrel;by_cases hlt:k<1
  ·exact absurd hlt (by omega)
  ·obtain rfl:k=1:=by omega
   have C:Hid (fo f t=r):=by
    have e:=z.out;rw[List.drop_of_length_le (by have:=A.out;omega)]at e;exact e.symm
   go_wp2;go_ret;rw[C.out];exact⟨rfl,rfl⟩
theorem WI (b off v:Nat) (x:UInt8) (t:List UInt8) (w:World) (y:t.length=1) (X:194≤(x.toNat:Int)) (W:(x.toNat:Int)≤223)
  (s:∀j (h:j<(x::t).length),w.cell? ⟨b,off+j,none⟩=some (.int .u8 ((x::t)[j].toNat:Int))) (a:AQ t):
  Calls prog 108 #[.slice (some ⟨b,off,none⟩) 2 v] w fun e w'=>e=.returned (.int .i32 (fo (first x.toNat) t))∧w=w':=by
 have I:w.cell? ⟨b,off,none⟩=some (.int .u8 (x.toNat:Int)):=by
  have:=s 0 (by simp);rw[Nat.add_zero]at this;exact this
 have B:0≤(x.toNat:Int):=by omega
 have hf:first x.toNat=(x.toNat:Int) - 192:=by unfold first;(repeat' split)<;>omega
 obtain⟨f,d⟩:∃f,f=first x.toNat:=⟨_,rfl⟩;rw[←d]at hf⊢;have L:0≤(x.toNat:Int) - 192∧(x.toNat:Int) - 192<128:=by omega
 have O:=hid s;have A:=hid y;have N:=hid a;have P:=hid hf;clear s y a hf d;go_enter func108,ntmps108;go_wp2
 go_loop [3,4] (fun vr vk=>∃(k:Nat) (r:Int),1≤k∧k≤2∧vk=.int .i64 k∧vr=.int .i32 r∧0≤r∧r<4*room k∧Hid (fo r (t.drop (k - 1))=fo f t)) (fun _ vk=>2 - (intOf vk).toNat)
 case atStart=>exact⟨1,(x.toNat:Int) - 192,by omega,by omega,rfl,rfl,by omega,by have:room 1=32:=rfl;omega,by rw[P.out];exact rfl⟩
 case round=>
  obtain⟨k,r,n,F,rfl,rfl,E,D,z⟩:=hrel;by_cases hlt:k<2
  ·obtain⟨g,J⟩:=qw k n (by omega);have V:=hid g;clear g;have C:r<524288:=by omega
   have m:k - 1<t.length:=by have:=A.out;omega
   obtain⟨c,l⟩:∃c,c=t[k - 1]:=⟨_,rfl⟩;have q:w.cell? ⟨b,off+k,none⟩=some (.int .u8 (c.toNat:Int)):=by
    rw[O.out k (by simp;omega),l];obtain⟨i,rfl⟩:∃i,k=i+1:=⟨k - 1,by omega⟩;simp
   obtain⟨H,G⟩:=N c (by rw[l];exact List.getElem_mem _);have T:Hid (fo (r*64+((c.toNat:Int) - 128)) (t.drop k)=fo f t):=by
    have e:=z.out;rw[List.drop_eq_getElem_cons m,←l,show k - 1+1=k by omega]at e;rw[show(c.toNat:Int) - 128=(c.toNat:Int)%64 by omega];exact e
   clear l;go_wp2
   go_round
   case rel=>exact⟨k+1,r*64+((c.toNat:Int) - 128),by omega,by omega,by go_num,int_eq (by omega),by omega,by rw[V.out];omega,T⟩
   case measure=>simp[intOf];omega
  ·obtain rfl:k=2:=by omega
   have Q:Hid (fo f t=r):=by
    have e:=z.out;rw[List.drop_of_length_le (by have:=A.out;omega)]at e;exact e.symm
   go_wp2;go_ret;rw[Q.out];exact⟨rfl,rfl⟩
theorem WJ (b off v:Nat) (x:UInt8) (t:List UInt8) (w:World) (y:t.length=2) (X:224≤(x.toNat:Int)) (W:(x.toNat:Int)≤239)
  (s:∀j (h:j<(x::t).length),w.cell? ⟨b,off+j,none⟩=some (.int .u8 ((x::t)[j].toNat:Int))) (a:AQ t):
  Calls prog 108 #[.slice (some ⟨b,off,none⟩) 3 v] w fun e w'=>e=.returned (.int .i32 (fo (first x.toNat) t))∧w=w':=by
 have I:w.cell? ⟨b,off,none⟩=some (.int .u8 (x.toNat:Int)):=by
  have:=s 0 (by simp);rw[Nat.add_zero]at this;exact this
 have B:0≤(x.toNat:Int):=by omega
 have hf:first x.toNat=(x.toNat:Int) - 224:=by unfold first;(repeat' split)<;>omega
 obtain⟨f,d⟩:∃f,f=first x.toNat:=⟨_,rfl⟩;rw[←d]at hf⊢;have L:0≤(x.toNat:Int) - 224∧(x.toNat:Int) - 224<128:=by omega
 have O:=hid s;have A:=hid y;have N:=hid a;have P:=hid hf;clear s y a hf d;go_enter func108,ntmps108;go_wp2
 go_loop [3,4] (fun vr vk=>∃(k:Nat) (r:Int),1≤k∧k≤3∧vk=.int .i64 k∧vr=.int .i32 r∧0≤r∧r<4*room k∧Hid (fo r (t.drop (k - 1))=fo f t)) (fun _ vk=>3 - (intOf vk).toNat)
 case atStart=>exact⟨1,(x.toNat:Int) - 224,by omega,by omega,rfl,rfl,by omega,by have:room 1=32:=rfl;omega,by rw[P.out];exact rfl⟩
 case round=>
  obtain⟨k,r,n,F,rfl,rfl,E,D,z⟩:=hrel;by_cases hlt:k<3
  ·obtain⟨g,J⟩:=qw k n (by omega);have V:=hid g;clear g;have C:r<524288:=by omega
   have m:k - 1<t.length:=by have:=A.out;omega
   obtain⟨c,l⟩:∃c,c=t[k - 1]:=⟨_,rfl⟩;have q:w.cell? ⟨b,off+k,none⟩=some (.int .u8 (c.toNat:Int)):=by
    rw[O.out k (by simp;omega),l];obtain⟨i,rfl⟩:∃i,k=i+1:=⟨k - 1,by omega⟩;simp
   obtain⟨H,G⟩:=N c (by rw[l];exact List.getElem_mem _);have T:Hid (fo (r*64+((c.toNat:Int) - 128)) (t.drop k)=fo f t):=by
    have e:=z.out;rw[List.drop_eq_getElem_cons m,←l,show k - 1+1=k by omega]at e;rw[show(c.toNat:Int) - 128=(c.toNat:Int)%64 by omega];exact e
   clear l;go_wp2
   go_round
   case rel=>exact⟨k+1,r*64+((c.toNat:Int) - 128),by omega,by omega,by go_num,int_eq (by omega),by omega,by rw[V.out];omega,T⟩
   case measure=>simp[intOf];omega
  ·obtain rfl:k=3:=by omega
   have Q:Hid (fo f t=r):=by
    have e:=z.out;rw[List.drop_of_length_le (by have:=A.out;omega)]at e;exact e.symm
   go_wp2;go_ret;rw[Q.out];exact⟨rfl,rfl⟩
theorem WL (b off v:Nat) (x:UInt8) (t:List UInt8) (w:World) (y:t.length=3) (X:240≤(x.toNat:Int)) (W:(x.toNat:Int)≤244)
  (s:∀j (h:j<(x::t).length),w.cell? ⟨b,off+j,none⟩=some (.int .u8 ((x::t)[j].toNat:Int))) (a:AQ t):
  Calls prog 108 #[.slice (some ⟨b,off,none⟩) 4 v] w fun e w'=>e=.returned (.int .i32 (fo (first x.toNat) t))∧w=w':=by
 have I:w.cell? ⟨b,off,none⟩=some (.int .u8 (x.toNat:Int)):=by
  have:=s 0 (by simp);rw[Nat.add_zero]at this;exact this
 have B:0≤(x.toNat:Int):=by omega
 have hf:first x.toNat=(x.toNat:Int) - 240:=by unfold first;(repeat' split)<;>omega
 obtain⟨f,d⟩:∃f,f=first x.toNat:=⟨_,rfl⟩;rw[←d]at hf⊢;have L:0≤(x.toNat:Int) - 240∧(x.toNat:Int) - 240<128:=by omega
 have O:=hid s;have A:=hid y;have N:=hid a;have P:=hid hf;clear s y a hf d;go_enter func108,ntmps108;go_wp2
 go_loop [3,4] (fun vr vk=>∃(k:Nat) (r:Int),1≤k∧k≤4∧vk=.int .i64 k∧vr=.int .i32 r∧0≤r∧r<4*room k∧Hid (fo r (t.drop (k - 1))=fo f t)) (fun _ vk=>4 - (intOf vk).toNat)
 case atStart=>exact⟨1,(x.toNat:Int) - 240,by omega,by omega,rfl,rfl,by omega,by have:room 1=32:=rfl;omega,by rw[P.out];exact rfl⟩
 case round=>
  obtain⟨k,r,n,F,rfl,rfl,E,D,z⟩:=hrel;by_cases hlt:k<4
  ·obtain⟨g,J⟩:=qw k n (by omega);have V:=hid g;clear g;have C:r<524288:=by omega
   have m:k - 1<t.length:=by have:=A.out;omega
   obtain⟨c,l⟩:∃c,c=t[k - 1]:=⟨_,rfl⟩;have q:w.cell? ⟨b,off+k,none⟩=some (.int .u8 (c.toNat:Int)):=by
    rw[O.out k (by simp;omega),l];obtain⟨i,rfl⟩:∃i,k=i+1:=⟨k - 1,by omega⟩;simp
   obtain⟨H,G⟩:=N c (by rw[l];exact List.getElem_mem _);have T:Hid (fo (r*64+((c.toNat:Int) - 128)) (t.drop k)=fo f t):=by
    have e:=z.out;rw[List.drop_eq_getElem_cons m,←l,show k - 1+1=k by omega]at e;rw[show(c.toNat:Int) - 128=(c.toNat:Int)%64 by omega];exact e
   clear l;go_wp2
   go_round
   case rel=>exact⟨k+1,r*64+((c.toNat:Int) - 128),by omega,by omega,by go_num,int_eq (by omega),by omega,by rw[V.out];omega,T⟩
   case measure=>simp[intOf];omega
  ·obtain rfl:k=4:=by omega
   have Q:Hid (fo f t=r):=by
    have e:=z.out;rw[List.drop_of_length_le (by have:=A.out;omega)]at e;exact e.symm
   go_wp2;go_ret;rw[Q.out];exact⟨rfl,rfl⟩
theorem PW (b off n c:Nat) (x:UInt8) (t:List UInt8) (w:World) (h:dW w (some ⟨b,off,none⟩) n (aU (x::t))) (f:n≤16):
  Calls prog 107 #[.slice (some ⟨b,off,none⟩) n c] w fun e w'=>e=.returned (.tuple #[.bool (st (x::t)).1,.bool (st (x::t)).2])∧w=w':=by
 have d:t.length+1=n:=by have:=h.1;rw[bM]at this;exact this
 have g:∀j (hj:j<(x::t).length),w.cell? ⟨b,off+j,none⟩=some (.int .u8 ((x::t)[j].toNat:Int)):=fun j hj=>h.byte j hj;by_cases a:(x.toNat:Int)<128
 ·exact XK b off c x t n w d f (by unfold size;(repeat' split)<;>omega) g a _ rfl
 by_cases b0:(x.toNat:Int)≤193
 ·exact Uo b off c x t n w d f (by unfold size;(repeat' split)<;>omega) g (by omega) b0 _ rfl
 by_cases b1:(x.toNat:Int)≤223
 ·exact XL b off c x t n w d f (by unfold size;(repeat' split)<;>omega) g (by omega) b1 _ rfl
 by_cases b2:(x.toNat:Int)≤239
 ·exact XM b off c x t n w d f (by unfold size;(repeat' split)<;>omega) g (by omega) b2 _ rfl
 by_cases b3:(x.toNat:Int)≤244
 ·exact XP b off c x t n w d f (by unfold size;(repeat' split)<;>omega) g (by omega) b3 _ rfl
 ·exact Ur b off c x t n w d f (by unfold size;(repeat' split)<;>omega) g (by omega) _ rfl
theorem jf (b off n a:Nat) (x:UInt8) (t:List UInt8) (w:World) (h:dW w (some ⟨b,off,none⟩) n (aU (x::t))) (i:st (x::t)=(true,true)):
  Calls prog 108 #[.slice (some ⟨b,off,none⟩) n a] w fun e w'=>e=.returned (.int .i32 (fo (first x.toNat) t))∧w=w':=by
 have l:t.length+1=n:=by have:=h.1;rw[bM]at this;exact this
 have d:∀j (hj:j<(x::t).length),w.cell? ⟨b,off+j,none⟩=some (.int .u8 ((x::t)[j].toNat:Int)):=fun j hj=>h.byte j hj;obtain⟨s,f,r,k⟩:=Am x t true i;have q:(t.length:Int)+1=size x.toNat:=by simpa using k.symm
 have m:=size_le x.toNat;have g:0≤(x.toNat:Int):=by omega
 have c:n=1∨n=2∨n=3∨n=4:=by omega
 rcases c with rfl|rfl|rfl|rfl
 ·exact WH b off a x t w (by omega) (by
    have e:size x.toNat=1:=by omega
    unfold size at e;(repeat' split at e)<;>omega) d f
 ·have e:194≤(x.toNat:Int)∧(x.toNat:Int)≤223:=by
   have e:size x.toNat=2:=by omega
   unfold size at e
   (repeat' split at e)<;>omega
  exact WI b off a x t w (by omega) e.1 e.2 d f
 ·have e:224≤(x.toNat:Int)∧(x.toNat:Int)≤239:=by
   have e:size x.toNat=3:=by omega
   unfold size at e
   (repeat' split at e)<;>omega
  exact WJ b off a x t w (by omega) e.1 e.2 d f
 ·have e:240≤(x.toNat:Int)∧(x.toNat:Int)≤244:=by
   have e:size x.toNat=4:=by omega
   unfold size at e
   (repeat' split at e)<;>omega
  exact WL b off a x t w (by omega) e.1 e.2 d f
end aeL
namespace aeK
open Go.RowKit Base sO YN abY aeL
def U8 (L:List UInt8) (j:Nat) (wh:Bool):Prop:=j=0∧wh=false∨1≤j∧j≤L.length∧st (L.take j)=(true,wh)
theorem BZ (x:UInt8) (T:List UInt8) (j:Nat) (d:Bool) (h:U8 (x::T) j d) (a:d=true∨j=T.length+1∨j≤T.length∧(st ((x::T).take (j+1))).1=false):
  (d=true→rd (x::T)=(fo (first x.toNat) ((x::T).take j).tail,(j:Int),true)∧st ((x::T).take j)=(true,true)∧1≤j∧j≤T.length+1)∧(d=false→rd (x::T)=(65533,((max j 1:Nat):Int),false)):=by
 constructor
 ·rintro rfl;rcases h with⟨_,h⟩|⟨g,f,c⟩
  ·cases h
  ·obtain⟨i,rfl⟩:∃i,j=i+1:=⟨j - 1,by omega⟩;rw[List.take_succ_cons]at c⊢;have e:=Yo x (T.take i) (T.drop i) c;rw[List.take_append_drop]at e;refine⟨?_,c,by omega,by simpa using f⟩;rw[e];simp only[List.tail_cons,List.length_take,List.length_cons]at f⊢;refine Prod.ext rfl (Prod.ext ?_ rfl);simp only;omega
 ·rintro rfl;rcases h with⟨rfl,_⟩|⟨g,f,c⟩
  ·rcases a with h|h|⟨_,h⟩
   ·cases h
   ·omega
   ·rw[List.take_succ_cons,List.take_zero]at h;exact ZJ x T h
  ·obtain ⟨i,rfl⟩:∃i,j=i+1:=⟨j - 1,by omega⟩;rw[List.take_succ_cons]at c;simp only[List.length_cons]at f;have e:=ZT x (T.take i) (T.drop i) c (by
    rcases a with h|h|⟨h4,h⟩
    ·cases h
    ·exact .inl (List.drop_of_length_le (by omega))
    ·refine .inr ⟨T[i],T.drop (i+1),List.drop_eq_getElem_cons (by omega),?_⟩;rw[List.take_succ_cons,List.take_succ_eq_append_getElem (by omega)]at h;exact h)
   rw[List.take_append_drop]at e;rw[e];refine Prod.ext rfl (Prod.ext ?_ rfl);simp only[List.length_take];omega
theorem Nv (L:List UInt8) (j:Nat) (d:Bool) (h:U8 L j d):j≤4∧j≤L.length:=by
 rcases h with⟨rfl,_⟩|⟨f,c,a⟩
 ·exact⟨by omega,by omega⟩
 obtain⟨x,T,rfl⟩:∃x T,L=x::T:=by
  cases L with
  |nil=>simp at c;omega
  |cons x T=>exact⟨x,T,rfl⟩
 obtain⟨i,rfl⟩:∃i,j=i+1:=⟨j - 1,by omega⟩;rw[List.take_succ_cons]at a;obtain⟨e,_⟩:=Am x _ _ a;have:=size_le x.toNat;simp only[List.length_take,List.length_cons]at e c;exact⟨by omega,by simp;omega⟩
def JA:Value→Nat
 | .slice _ n _=>n
 |_=>0
theorem qE (A0:Option Addr) (N B:Nat) (L:List UInt8) (w:World) (h:dW w A0 N (aU L)) (hm:N≤1073741824) (z:N≤B):
  Calls prog 42 #[.slice A0 N B] w fun e w'=>∃v,e=.returned v∧w'.ownsRow w.heap.size 21 1 v (dec L).length (jv .i32 (dec L))∧Below w.heap.size w w':=by
 have hl:L.length=N:=by rw[←bM];exact h.1
 clear hl;obtain⟨i0,hi,E,D,C⟩:=info_parts info21;have HH:=hid h;clear h;go_enter func42,ntmps42;go_wp2;go_loopw [0,3] (fun vb v wr=>∃(A:Option Addr) (n k:Nat) (R:List UInt8) (f:List Int),n≤k∧f.length+n≤1073741824∧vb=.slice A n k∧dW w A n (aU R)∧wr.ownsRow w.heap.size 21 1 v f.length (jv .i32 f)∧Below w.heap.size w wr∧Hid (f++dec R=dec L)) (fun vb _ _=>JA vb)
 case atStart=>exact⟨A0,N,B,L,[],z,by simpa using hm,rfl,HH,World.ownsRow_nil _ _ _ _,Below.refl _ _,rfl⟩
 case round =>
  clear z hm;obtain⟨A,n,k,R,f,z,a2,rfl,H,l,d,G⟩:=hrel;cases R with
  |nil=>
   have a0:n=0:=by have:=H.1;simp[aU]at this;omega
   subst a0;clear H;have HE:Hid (f=dec L):=by
    have e:=G.out;rw[mZ,List.append_nil]at e;exact e
   go_wp2;go_ret;exact⟨_,rfl,by rw[←HE.out];exact l,d⟩
  | cons x T=>
   have W:n=T.length+1:=by have:=H.1;rw[bM]at this;exact this.symm
   obtain⟨b,off,rfl,hb,_⟩:=H.spot (by omega);have hp:0<n:=by omega
   have m:=hid W;clear W;have P:dW wr (some ⟨b,off,none⟩) n (aU (x::T)):=H.below d;have Y:=hid P;have HR:=hid H;clear P H;go_wp2
   go_loop [4,5,6,7] (fun vn vw _ _=>∃(j:Nat) (Z:Bool),j≤n∧j≤4∧vn=.int .i64 j∧vw=.bool Z∧Hid (U8 (x::T) j Z)) (fun vn _ _ _=>n - (intOf vn).toNat)
   case atStart=>exact⟨0,false,Nat.zero_le _,by omega,rfl,rfl,.inl ⟨rfl,rfl⟩⟩
   case round=>
    obtain⟨j,Z,hj,a5,rfl,rfl,HS⟩:=hrel;cases Z with
    | true=>
     obtain⟨Q,aS,X,a4⟩:=(BZ x T j true HS (.inl rfl)).1 rfl;have s:=hid Q;have y:Hid (dW wr (some ⟨b,off,none⟩) j (aU (x::((x::T).take j).tail))):=by
      have:=Y.upto j hj;rw[←vP]at this;obtain⟨i,rfl⟩:∃i,j=i+1:=⟨j - 1,by omega⟩;exact this
     have O:Hid (st (x::((x::T).take j).tail)=(true,true)):=by
      obtain⟨i,rfl⟩:∃i,j=i+1:=⟨j - 1,by omega⟩;exact aS
     clear Q aS;have a3:(j:Int)≤(k:Int):=by omega
     obtain⟨q,hq⟩:∃q,q=fo (first x.toNat) ((x::T).take j).tail:=⟨_,rfl⟩;have HQ:=hid hq;clear hq;by_cases hlt:j<n;all_goals
      go_wp2_with fail
      refine(jf b off j k x ((x::T).take j).tail _ y O).mono ?_;rintro e w1 ⟨rfl,rfl⟩;rw[←HQ.out];go_wp2_with (at_builtin;refine bJ rfl _ _ 57 rfl w.heap.size 21 i0 (.int .i32 0) 4 underlying57 hi E D C rfl _ f.length _ rfl l d d.size [.int .i32 (q)] 1 rfl rfl (by intro u t;simp at t;subst t;rfl) (by unfold maxLen;omega) (by omega) ?_)
      intro v' w3 a c;clear l d;have g:Hid (dec (x::T)=(q)::dec ((x::T).drop (j))):=by
       rw[gU,s.out,←HQ.out];exact rfl
      by_cases F:k=j
      ·have I:n=j:=by omega
       have r:Hid ((x::T).drop (j)=[]):=List.drop_of_length_le (by have:=m.out;rw[List.length_cons];omega);go_wp2;go_roundw
       case rel=>exact⟨some ⟨b,off,none⟩,0,0,[],f++[q],by omega,by simp;omega,(by first|(simp;done)|(simp;omega)),dW.nil _,by rw[gJ,List.length_append];exact a,c,by
         have e:=G.out;rw[g.out,r.out]at e;rw[List.append_assoc];exact e⟩
       case measure=>simp[JA];omega
      ·go_wp2;go_roundw
       case rel=>exact⟨some ⟨b,off+(j),none⟩,n - (j),k - (j),(x::T).drop (j),f++[q],by omega,by simp;omega,(by first|rfl|(simp;done)|(simp;omega)),by rw[oH];exact HR.cut _ (by omega),by rw[gJ,List.length_append];exact a,c,by
         have e:=G.out;rw[g.out]at e;rw[List.append_assoc];exact e⟩
       case measure=>simp[JA];omega
    | false =>
     by_cases hlt:j<n
     ·have y:Hid (dW wr (some ⟨b,off,none⟩) (j+1) (aU (x::T.take j))):=by
       have:=Y.upto (j+1) (by omega);rw[←vP,List.take_succ_cons]at this;exact this
      have F:(j:Int)+1≤(k:Int):=by omega
      obtain⟨p,V⟩:∃p,p=st (x::T.take j):=⟨_,rfl⟩;have HP:=hid V;clear V;go_wp2_with fail
      refine(PW b off (j+1) k x (T.take j) _ y (by omega)).mono ?_;rintro e w1 ⟨rfl,rfl⟩;rw[←HP.out];obtain⟨ok,is⟩:=p;cases ok with
      | true=>
       go_wp2
       go_round
       case rel=>exact⟨j+1,is,by omega,by
         have:=(Nv (x::T) (j+1) is (.inr ⟨by omega,by simp;have:=m.out;omega,by rw[List.take_succ_cons];exact HP.symm⟩)).1;omega,by go_num,rfl,.inr ⟨by omega,by simp;have:=m.out;omega,by rw[List.take_succ_cons];exact HP.symm⟩⟩
       case measure=>simp[intOf];omega
      | false=>
       have s:Hid (rd (x::T)=(65533,((max j 1:Nat):Int),false)):=(BZ x T j false HS (.inr (.inr ⟨by have:=m.out;omega,by rw[List.take_succ_cons,←HP.out]⟩))).2 rfl;by_cases hj0:j=0
       ·subst hj0;go_wp2_with (at_builtin;refine bJ rfl _ _ 57 rfl w.heap.size 21 i0 (.int .i32 0) 4 underlying57 hi E D C rfl _ f.length _ rfl l d d.size [.int .i32 (65533)] 1 rfl rfl (by intro u t;simp at t;subst t;rfl) (by unfold maxLen;omega) (by omega) ?_)
        intro v' w3 a c;clear l d;have g:Hid (dec (x::T)=(65533)::dec ((x::T).drop (1))):=by
         rw[gU,s.out];exact rfl
        by_cases F:k=1
        ·have I:n=1:=by omega
         have r:Hid ((x::T).drop (1)=[]):=List.drop_of_length_le (by have:=m.out;rw[List.length_cons];omega);go_wp2;go_roundw
         case rel=>exact⟨some ⟨b,off,none⟩,0,0,[],f++[65533],by omega,by simp;omega,(by first|(simp;done)|(simp;omega)),dW.nil _,by rw[gJ,List.length_append];exact a,c,by
           have e:=G.out;rw[g.out,r.out]at e;rw[List.append_assoc];exact e⟩
         case measure=>simp[JA];omega
        ·go_wp2;go_roundw
         case rel=>exact⟨some ⟨b,off+(1),none⟩,n - (1),k - (1),(x::T).drop (1),f++[65533],by omega,by simp;omega,(by first|rfl|(simp;done)|(simp;omega)),by rw[oH];exact HR.cut _ (by omega),by rw[gJ,List.length_append];exact a,c,by
           have e:=G.out;rw[g.out]at e;rw[List.append_assoc];exact e⟩
         case measure=>simp[JA];omega
       ·have X:1≤j:=by omega
        have J:Hid (max j 1=j):=by show max j 1=j;omega
        rw[J.out]at s;go_wp2_with (at_builtin;refine bJ rfl _ _ 57 rfl w.heap.size 21 i0 (.int .i32 0) 4 underlying57 hi E D C rfl _ f.length _ rfl l d d.size [.int .i32 (65533)] 1 rfl rfl (by intro u t;simp at t;subst t;rfl) (by unfold maxLen;omega) (by omega) ?_)
        intro v' w3 a c;clear l d;have g:Hid (dec (x::T)=(65533)::dec ((x::T).drop (j))):=by
         rw[gU,s.out];exact rfl
        by_cases F:k=j
        ·have I:n=j:=by omega
         have r:Hid ((x::T).drop (j)=[]):=List.drop_of_length_le (by have:=m.out;rw[List.length_cons];omega);go_wp2;go_roundw
         case rel=>exact⟨some ⟨b,off,none⟩,0,0,[],f++[65533],by omega,by simp;omega,(by first|(simp;done)|(simp;omega)),dW.nil _,by rw[gJ,List.length_append];exact a,c,by
           have e:=G.out;rw[g.out,r.out]at e;rw[List.append_assoc];exact e⟩
         case measure=>simp[JA];omega
        ·go_wp2;go_roundw
         case rel=>exact⟨some ⟨b,off+(j),none⟩,n - (j),k - (j),(x::T).drop (j),f++[65533],by omega,by simp;omega,(by first|rfl|(simp;done)|(simp;omega)),by rw[oH];exact HR.cut _ (by omega),by rw[gJ,List.length_append];exact a,c,by
           have e:=G.out;rw[g.out]at e;rw[List.append_assoc];exact e⟩
         case measure=>simp[JA];omega
     ·have a1 : j = n := by omega
      subst a1;have s:Hid (rd (x::T)=(65533,((max j 1:Nat):Int),false)):=(BZ x T j false HS (.inr (.inl m))).2 rfl;by_cases hj0:j=0
      ·exact absurd hp (by omega)
      ·have X:1≤j:=by omega
       have J:Hid (max j 1=j):=by show max j 1=j;omega
       rw[J.out]at s;go_wp2_with (at_builtin;refine bJ rfl _ _ 57 rfl w.heap.size 21 i0 (.int .i32 0) 4 underlying57 hi E D C rfl _ f.length _ rfl l d d.size [.int .i32 (65533)] 1 rfl rfl (by intro u t;simp at t;subst t;rfl) (by unfold maxLen;omega) (by omega) ?_)
       intro v' w3 a c;clear l d;have g:Hid (dec (x::T)=(65533)::dec ((x::T).drop (j))):=by
        rw[gU,s.out];exact rfl
       by_cases F:k=j
       ·have I:j=j:=rfl;have r:Hid ((x::T).drop (j)=[]):=List.drop_of_length_le (by have:=m.out;rw[List.length_cons];omega);go_wp2;go_roundw
        case rel=>exact⟨some ⟨b,off,none⟩,0,0,[],f++[65533],by omega,by simp;omega,(by first|(simp;done)|(simp;omega)),dW.nil _,by rw[gJ,List.length_append];exact a,c,by
          have e:=G.out;rw[g.out,r.out]at e;rw[List.append_assoc];exact e⟩
        case measure=>simp[JA];omega
       ·go_wp2;go_roundw
        case rel=>exact⟨some ⟨b,off+(j),none⟩,j - (j),k - (j),(x::T).drop (j),f++[65533],by omega,by simp;omega,(by first|rfl|(simp;done)|(simp;omega)),by rw[oH];exact HR.cut _ (by omega),by rw[gJ,List.length_append];exact a,c,by
          have e:=G.out;rw[g.out]at e;rw[List.append_assoc];exact e⟩
        case measure=>simp[JA];omega
end aeK
namespace aeM
open Go.RowKit sO
theorem pU (L:List UInt8):(dec L).length≤L.length:=by
 have H:∀(n:Nat) (L:List UInt8),L.length≤n→(dec L).length≤L.length:=by
  intro n;induction n with
  |zero=>intro L a;obtain rfl:L=[]:=List.eq_nil_of_length_eq_zero (by omega);simp[mZ]
  |succ n ih=>
   intro L a;cases L with
   |nil=>simp[mZ]
   |cons x t=>
    have c:=nD x t;rw[gU,List.length_cons,List.length_cons];have:=ih ((x::t).drop (rd (x::t)).2.1.toNat) (by simp only[List.length_drop,List.length_cons]at a⊢;omega);simp only[List.length_drop,List.length_cons]at this;omega
 exact H _ L (Nat.le_refl _)
end aeM
