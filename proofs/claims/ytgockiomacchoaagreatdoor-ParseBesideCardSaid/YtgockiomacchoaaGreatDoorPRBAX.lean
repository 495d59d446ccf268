/- Lemmas. -/
import Derived.Test.YtgockiomacchoaaGreatDoorPRBAW
set_option linter.unusedSimpArgs false
set_option linter.unusedVariables false
set_option maxRecDepth 100000
set_option maxHeartbeats 64000000
namespace Go.Proofs.YtgockiomacchoaaGreatDoor
open Tryz
namespace Xp
open Go.RowKit Base rY
def AV (t:List UInt8):Prop:=∀c ∈ t,128≤(c.toNat:Int)∧(c.toNat:Int)≤191
instance (t:List UInt8):Decidable (AV t):=by unfold AV;exact inferInstance
def yh (x y:Int):Prop:=x=224∧y<160∨x=237∧159<y∨x=240∧y<144∨x=244∧143<y
instance (x y:Int):Decidable (yh x y):=by unfold yh;exact inferInstance
def bad (x:Int):List UInt8→Prop
 |[]=>False
 |y::_=>yh x y.toNat
instance (x:Int) (t:List UInt8):Decidable (bad x t):=by cases t<;>unfold bad<;>exact inferInstance
def st:List UInt8→Bool×Bool
 |[]=>(false,false)
 |x::t=>if size x.toNat<(t.length:Int)+1∨¬AV t∨bad x.toNat t then(false,false)else(true,decide ((t.length:Int)+1=size x.toNat))
def Ip (L:List UInt8) (k:Nat):Prop:=∀j (h:j<L.length),1≤j→j<k→128≤(L[j].toNat:Int)∧(L[j].toNat:Int)≤191
theorem Aa (x:UInt8) (t:List UInt8) (h:Ip (x::t) (t.length+1)):AV t:=by
 intro c a;obtain⟨i,hi,rfl⟩:=List.mem_iff_getElem.1 a;have:=h (i+1) (by simp;omega) (by omega) (by omega);simpa using this
theorem Ac (x:UInt8) (t:List UInt8) (k:Nat) (c:k<t.length+1) (d:1≤k) (a:((x::t)[k].toNat:Int)<128∨191<((x::t)[k].toNat:Int)):¬AV t:=by
 intro h;obtain⟨i,rfl⟩:∃i,k=i+1:=⟨k - 1,by omega⟩;have:=h t[i] (List.getElem_mem _);simp at a;omega
theorem EO {a b c:Prop} (f:¬a) (e:b) (d:¬c):¬(a∨¬b∨c):=by
 rintro(h|h|h)
 ·exact f h
 ·exact h e
 exact d h
theorem rF (x:UInt8) (t:List UInt8) (h:size x.toNat<(t.length:Int)+1∨¬AV t∨bad x.toNat t):st (x::t)=(false,false):=by rw[st,if_pos h]
theorem qJ (x:UInt8) (t:List UInt8) (h:¬(size x.toNat<(t.length:Int)+1∨¬AV t∨bad x.toNat t)):st (x::t)=(true,decide ((t.length:Int)+1=size x.toNat)):=by rw[st,if_neg h]
theorem Wh (b d A : Nat) (x : UInt8) (t : List UInt8) (n : Nat) (w : World) (D : t.length + 1 = n) (X : n ≤ 16) (C : size x.toNat = 1)
  (z:∀j (h:j<(x::t).length),w.cell? ⟨b,d+j,none⟩=some (.int .u8 ((x::t)[j].toNat:Int)))
  (V:(x.toNat:Int)<128)
  (R:Bool×Bool) (E:R=st (x::t)):
  Calls prog 106 #[.slice (some ⟨b,d,none⟩) n A] w fun e w'=>e=.returned (.tuple #[.bool R.1,.bool R.2])∧w=w':=by
 have O:w.cell? ⟨b,d,none⟩=some (.int .u8 (x.toNat:Int)):=by
  have:=z 0 (by simp);rw[Nat.add_zero]at this;exact this
 have G:=hid z;have g:=hid D;have i:=hid C;have l:=hid E;have W:(0:Int)<(n:Int):=by omega
 clear z D C E;by_cases hmany:(1:Int)<(n:Int)
 ·have f:Hid (R=(false,false)):=by
   have e:=l.out;rw[rF x t (.inl (by rw[i.out];have:=g.out;omega))]at e;exact e
  go_enter func106,ntmps106;go_wp2;go_ret2;rw[f.out];exact⟨rfl,rfl⟩
 ·go_enter func106,ntmps106;go_wp2
  go_loop [5] (fun vk=>∃k:Nat,1≤k∧k≤n∧vk=.int .i64 k∧Hid (Ip (x::t) k)) (fun vk=>n - (intOf vk).toNat)
  case atStart=>exact⟨1,by omega,by omega,rfl,fun j _ h1 h2=>absurd h2 (by omega)⟩
  case round=>
   obtain⟨k,r,L,rfl,F⟩:=hrel;by_cases hlt:k<n
   ·have q:k<(x::t).length:=by have:=g.out;simp;omega
    obtain⟨c,v⟩:∃c,c=(x::t)[k]:=⟨_,rfl⟩;have s:w.cell? ⟨b,d+k,none⟩=some (.int .u8 (c.toNat:Int)):=by rw[v];exact G k q
    have HC:=hid v;clear v;by_cases hb:(c.toNat:Int)<128∨191<(c.toNat:Int)
    ·have f:Hid (R=(false,false)):=by
      have e:=l.out;rw[rF x t (.inr (.inl (Ac x t k (by have:=g.out;omega) r (by rw[←HC.out];exact hb))))]at e;exact e
     rcases hb with hb|hb
     ·go_wp2;go_ret2;rw[f.out];exact⟨rfl,rfl⟩
     ·have T:¬(c.toNat:Int)<128:=by omega
      go_wp2;go_ret2;rw[f.out];exact⟨rfl,rfl⟩
    ·have Q:¬(c.toNat:Int)<128:=by omega
     have P:¬191<(c.toNat:Int):=by omega
     have B:Hid (Ip (x::t) (k+1)):=fun j hj h1 h2=>by
      by_cases e:j=k
      ·subst e;rw[←HC.out];omega
      ·exact F j hj h1 (by omega)
     clear hb;go_wp2
     go_round
     case rel=>exact⟨k+1,by omega,by omega,by go_num,B⟩
     case measure=>simp[intOf];omega
   ·skip
    obtain rfl:k=n:=by omega
    have I:Hid (AV t):=Aa x t (by have e:=g.out;rw[e];exact F);clear hlt;cases t with
    |nil=>
     have a:=g.out;simp at a;have f:Hid (R=(true,decide ((k:Int)=1))):=by
      have e:=l.out;rw[qJ x [] (EO (by rw[i.out];simp) I.out (fun h=>h)),i.out]at e;rw[e,←a];exact rfl
     have m:¬(1:Int)<(k:Int):=by omega
     clear a;go_wp2;go_ret2;rw[f.out];exact⟨Ap rfl (kM (by rw[Bool.eq_iff_iff];simp)),rfl⟩
    | cons y t'=>
     have N:w.cell? ⟨b,d+1,none⟩=some (.int .u8 (y.toNat:Int)):=G 1 (by simp);have a:=g.out;simp only[List.length_cons]at a;have m:(1:Int)<(k:Int):=by omega
     have J:0≤(y.toNat:Int)∧(y.toNat:Int)<256:=by have:=y.toNat_lt;omega
     have H:Hid ((((y::t').length:Nat):Int)+1=k):=by show _=_;simp only[List.length_cons];omega
     clear a;by_cases hbd:yh x.toNat y.toNat
     ·have f:Hid (R=(false,false)):=by
       have e:=l.out;rw[rF x (y::t') (.inr (.inr hbd))]at e;exact e
      unfold yh at hbd;exact absurd hbd (by omega)
     ·have f:Hid (R=(true,decide ((k:Int)=1))):=by
       have e:=l.out;rw[qJ x (y::t') (EO (by rw[i.out];have:=H.out;omega) I.out hbd),i.out,H.out]at e;exact e
      unfold yh at hbd;clear hbd;go_wp2;all_goals
       go_ret2;rw[f.out];exact⟨Ap rfl (kM (by rw[Bool.eq_iff_iff];simp)),rfl⟩
theorem Wi (b d A : Nat) (x : UInt8) (t : List UInt8) (n : Nat) (w : World) (D : t.length + 1 = n) (Y : n ≤ 16) (C : size x.toNat = 2)
  (z:∀j (h:j<(x::t).length),w.cell? ⟨b,d+j,none⟩=some (.int .u8 ((x::t)[j].toNat:Int)))
  (W:194≤(x.toNat:Int)) (V:(x.toNat:Int)≤223)
  (R:Bool×Bool) (E:R=st (x::t)):
  Calls prog 106 #[.slice (some ⟨b,d,none⟩) n A] w fun e w'=>e=.returned (.tuple #[.bool R.1,.bool R.2])∧w=w':=by
 have O:w.cell? ⟨b,d,none⟩=some (.int .u8 (x.toNat:Int)):=by
  have:=z 0 (by simp);rw[Nat.add_zero]at this;exact this
 have G:=hid z;have g:=hid D;have i:=hid C;have l:=hid E;have X:(0:Int)<(n:Int):=by omega
 clear z D C E;by_cases hmany:(2:Int)<(n:Int)
 ·have f:Hid (R=(false,false)):=by
   have e:=l.out;rw[rF x t (.inl (by rw[i.out];have:=g.out;omega))]at e;exact e
  go_enter func106,ntmps106;go_wp2;go_ret2;rw[f.out];exact⟨rfl,rfl⟩
 ·go_enter func106,ntmps106;go_wp2
  go_loop [5] (fun vk=>∃k:Nat,1≤k∧k≤n∧vk=.int .i64 k∧Hid (Ip (x::t) k)) (fun vk=>n - (intOf vk).toNat)
  case atStart=>exact⟨1,by omega,by omega,rfl,fun j _ h1 h2=>absurd h2 (by omega)⟩
  case round=>
   obtain⟨k,r,L,rfl,F⟩:=hrel;by_cases hlt:k<n
   ·have q:k<(x::t).length:=by have:=g.out;simp;omega
    obtain⟨c,v⟩:∃c,c=(x::t)[k]:=⟨_,rfl⟩;have s:w.cell? ⟨b,d+k,none⟩=some (.int .u8 (c.toNat:Int)):=by rw[v];exact G k q
    have HC:=hid v;clear v;by_cases hb:(c.toNat:Int)<128∨191<(c.toNat:Int)
    ·have f:Hid (R=(false,false)):=by
      have e:=l.out;rw[rF x t (.inr (.inl (Ac x t k (by have:=g.out;omega) r (by rw[←HC.out];exact hb))))]at e;exact e
     rcases hb with hb|hb
     ·go_wp2;go_ret2;rw[f.out];exact⟨rfl,rfl⟩
     ·have T:¬(c.toNat:Int)<128:=by omega
      go_wp2;go_ret2;rw[f.out];exact⟨rfl,rfl⟩
    ·have Q:¬(c.toNat:Int)<128:=by omega
     have P:¬191<(c.toNat:Int):=by omega
     have B:Hid (Ip (x::t) (k+1)):=fun j hj h1 h2=>by
      by_cases e:j=k
      ·subst e;rw[←HC.out];omega
      ·exact F j hj h1 (by omega)
     clear hb;go_wp2
     go_round
     case rel=>exact⟨k+1,by omega,by omega,by go_num,B⟩
     case measure=>simp[intOf];omega
   ·skip
    obtain rfl:k=n:=by omega
    have I:Hid (AV t):=Aa x t (by have e:=g.out;rw[e];exact F);clear hlt;cases t with
    |nil=>
     have a:=g.out;simp at a;have f:Hid (R=(true,decide ((k:Int)=2))):=by
      have e:=l.out;rw[qJ x [] (EO (by rw[i.out];simp) I.out (fun h=>h)),i.out]at e;rw[e,←a];exact rfl
     have m:¬(1:Int)<(k:Int):=by omega
     clear a;go_wp2;go_ret2;rw[f.out];exact⟨Ap rfl (kM (by rw[Bool.eq_iff_iff];simp)),rfl⟩
    | cons y t'=>
     have N:w.cell? ⟨b,d+1,none⟩=some (.int .u8 (y.toNat:Int)):=G 1 (by simp);have a:=g.out;simp only[List.length_cons]at a;have m:(1:Int)<(k:Int):=by omega
     have J:0≤(y.toNat:Int)∧(y.toNat:Int)<256:=by have:=y.toNat_lt;omega
     have H:Hid ((((y::t').length:Nat):Int)+1=k):=by show _=_;simp only[List.length_cons];omega
     clear a;by_cases hbd:yh x.toNat y.toNat
     ·have f:Hid (R=(false,false)):=by
       have e:=l.out;rw[rF x (y::t') (.inr (.inr hbd))]at e;exact e
      unfold yh at hbd;exact absurd hbd (by omega)
     ·have f:Hid (R=(true,decide ((k:Int)=2))):=by
       have e:=l.out;rw[qJ x (y::t') (EO (by rw[i.out];have:=H.out;omega) I.out hbd),i.out,H.out]at e;exact e
      unfold yh at hbd;clear hbd;go_wp2;all_goals
       go_ret2;rw[f.out];exact⟨Ap rfl (kM (by rw[Bool.eq_iff_iff];simp)),rfl⟩
theorem Wj (b i G:Nat) (x:UInt8) (t:List UInt8) (n:Nat) (w:World) (J:t.length+1=n) (hm:n≤16) (I:size x.toNat=3)
  (F:∀j (h:j<(x::t).length),w.cell? ⟨b,i+j,none⟩=some (.int .u8 ((x::t)[j].toNat:Int)))
  (k1:224≤(x.toNat:Int)) (k2:(x.toNat:Int)≤239)
  (R:Bool×Bool) (L:R=st (x::t)):
  Calls prog 106 #[.slice (some ⟨b,i,none⟩) n G] w fun e w'=>e=.returned (.tuple #[.bool R.1,.bool R.2])∧w=w':=by
 have X:w.cell? ⟨b,i,none⟩=some (.int .u8 (x.toNat:Int)):=by
  have:=F 0 (by simp);rw[Nat.add_zero]at this;exact this
 have O:=hid F;have r:=hid J;have s:=hid I;have v:=hid L;have hp:(0:Int)<(n:Int):=by omega
 clear F J I L;by_cases hmany:(3:Int)<(n:Int)
 ·have g:Hid (R=(false,false)):=by
   have e:=v.out;rw[rF x t (.inl (by rw[s.out];have:=r.out;omega))]at e;exact e
  go_enter func106,ntmps106;go_wp2;go_ret2;rw[g.out];exact⟨rfl,rfl⟩
 ·go_enter func106,ntmps106;go_wp2
  go_loop [5] (fun vk=>∃k:Nat,1≤k∧k≤n∧vk=.int .i64 k∧Hid (Ip (x::t) k)) (fun vk=>n - (intOf vk).toNat)
  case atStart=>exact⟨1,by omega,by omega,rfl,fun j _ h1 h2=>absurd h2 (by omega)⟩
  case round=>
   obtain⟨k,C,V,rfl,N⟩:=hrel;by_cases hlt:k<n
   ·have B:k<(x::t).length:=by have:=r.out;simp;omega
    obtain⟨c,E⟩:∃c,c=(x::t)[k]:=⟨_,rfl⟩;have D:w.cell? ⟨b,i+k,none⟩=some (.int .u8 (c.toNat:Int)):=by rw[E];exact O k B
    have HC:=hid E;clear E;by_cases hb:(c.toNat:Int)<128∨191<(c.toNat:Int)
    ·have g:Hid (R=(false,false)):=by
      have e:=v.out;rw[rF x t (.inr (.inl (Ac x t k (by have:=r.out;omega) C (by rw[←HC.out];exact hb))))]at e;exact e
     rcases hb with hb|hb
     ·go_wp2;go_ret2;rw[g.out];exact⟨rfl,rfl⟩
     ·have a0:¬(c.toNat:Int)<128:=by omega
      go_wp2;go_ret2;rw[g.out];exact⟨rfl,rfl⟩
    ·have Z:¬(c.toNat:Int)<128:=by omega
     have Y:¬191<(c.toNat:Int):=by omega
     have H:Hid (Ip (x::t) (k+1)):=fun j hj h1 h2=>by
      by_cases e:j=k
      ·subst e;rw[←HC.out];omega
      ·exact N j hj h1 (by omega)
     clear hb;go_wp2
     go_round
     case rel=>exact⟨k+1,by omega,by omega,by go_num,H⟩
     case measure=>simp[intOf];omega
   ·skip
    obtain rfl:k=n:=by omega
    have Q:Hid (AV t):=Aa x t (by have e:=r.out;rw[e];exact N);clear hlt;cases t with
    |nil=>
     have f:=r.out;simp at f;have g:Hid (R=(true,decide ((k:Int)=3))):=by
      have e:=v.out;rw[qJ x [] (EO (by rw[s.out];simp) Q.out (fun h=>h)),s.out]at e;rw[e,←f];exact rfl
     have A:¬(1:Int)<(k:Int):=by omega
     clear f;go_wp2;go_ret2;rw[g.out];exact⟨Ap rfl (kM (by rw[Bool.eq_iff_iff];simp)),rfl⟩
    | cons y t'=>
     have W:w.cell? ⟨b,i+1,none⟩=some (.int .u8 (y.toNat:Int)):=O 1 (by simp);have f:=r.out;simp only[List.length_cons]at f;have A:(1:Int)<(k:Int):=by omega
     have T:0≤(y.toNat:Int)∧(y.toNat:Int)<256:=by have:=y.toNat_lt;omega
     have P:Hid ((((y::t').length:Nat):Int)+1=k):=by show _=_;simp only[List.length_cons];omega
     clear f;by_cases hbd:yh x.toNat y.toNat
     ·have g:Hid (R=(false,false)):=by
       have e:=v.out;rw[rF x (y::t') (.inr (.inr hbd))]at e;exact e
      unfold yh at hbd;rcases hbd with hbd|hbd|hbd|hbd
      ·obtain⟨q,z⟩:=hbd;have q3:((x.toNat:Int)==224)=true:=by rw[beq_iff_eq];exact q
       have l:((x.toNat:Int)==237)=false:=by rw[beq_eq_false_iff_ne];omega
       have d:((x.toNat:Int)==240)=false:=by rw[beq_eq_false_iff_ne];omega
       have a:((x.toNat:Int)==244)=false:=by rw[beq_eq_false_iff_ne];omega
       clear q;go_wp2;go_ret2;rw[g.out];exact⟨rfl,rfl⟩
      ·obtain⟨q,z⟩:=hbd;have q3:((x.toNat:Int)==237)=true:=by rw[beq_iff_eq];exact q
       have m:((x.toNat:Int)==224)=false:=by rw[beq_eq_false_iff_ne];omega
       have d:((x.toNat:Int)==240)=false:=by rw[beq_eq_false_iff_ne];omega
       have a:((x.toNat:Int)==244)=false:=by rw[beq_eq_false_iff_ne];omega
       clear q;go_wp2;go_ret2;rw[g.out];exact⟨rfl,rfl⟩
      ·exact absurd hbd.1 (by omega)
      ·exact absurd hbd.1 (by omega)
     ·have g:Hid (R=(true,decide ((k:Int)=3))):=by
       have e:=v.out;rw[qJ x (y::t') (EO (by rw[s.out];have:=P.out;omega) Q.out hbd),s.out,P.out]at e;exact e
      unfold yh at hbd;by_cases e1:(x.toNat:Int)=224
      ·have q:((x.toNat:Int)==224)=true:=by rw[beq_iff_eq];exact e1
       have z:¬(y.toNat:Int)<160:=by omega
       have l:((x.toNat:Int)==237)=false:=by rw[beq_eq_false_iff_ne];omega
       have d:((x.toNat:Int)==240)=false:=by rw[beq_eq_false_iff_ne];omega
       have a:((x.toNat:Int)==244)=false:=by rw[beq_eq_false_iff_ne];omega
       clear e1 hbd;go_wp2;all_goals
        go_ret2;rw[g.out];exact⟨Ap rfl (kM (by rw[Bool.eq_iff_iff];simp)),rfl⟩
      ·by_cases e2:(x.toNat:Int)=237
       ·have q:((x.toNat:Int)==237)=true:=by rw[beq_iff_eq];exact e2
        have z:¬159<(y.toNat:Int):=by omega
        have m:((x.toNat:Int)==224)=false:=by rw[beq_eq_false_iff_ne];omega
        have d:((x.toNat:Int)==240)=false:=by rw[beq_eq_false_iff_ne];omega
        have a:((x.toNat:Int)==244)=false:=by rw[beq_eq_false_iff_ne];omega
        clear e1 e2 hbd;go_wp2;all_goals
         go_ret2;rw[g.out];exact⟨Ap rfl (kM (by rw[Bool.eq_iff_iff];simp)),rfl⟩
       ·skip
        have m:((x.toNat:Int)==224)=false:=by rw[beq_eq_false_iff_ne];omega
        have l:((x.toNat:Int)==237)=false:=by rw[beq_eq_false_iff_ne];omega
        have d:((x.toNat:Int)==240)=false:=by rw[beq_eq_false_iff_ne];omega
        have a:((x.toNat:Int)==244)=false:=by rw[beq_eq_false_iff_ne];omega
        clear e1 e2 hbd;go_wp2;all_goals
         go_ret2;rw[g.out];exact⟨Ap rfl (kM (by rw[Bool.eq_iff_iff];simp)),rfl⟩
theorem Wn (b i G:Nat) (x:UInt8) (t:List UInt8) (n:Nat) (w:World) (J:t.length+1=n) (hm:n≤16) (I:size x.toNat=4)
  (F:∀j (h:j<(x::t).length),w.cell? ⟨b,i+j,none⟩=some (.int .u8 ((x::t)[j].toNat:Int)))
  (k1:240≤(x.toNat:Int)) (k2:(x.toNat:Int)≤244)
  (R:Bool×Bool) (L:R=st (x::t)):
  Calls prog 106 #[.slice (some ⟨b,i,none⟩) n G] w fun e w'=>e=.returned (.tuple #[.bool R.1,.bool R.2])∧w=w':=by
 have X:w.cell? ⟨b,i,none⟩=some (.int .u8 (x.toNat:Int)):=by
  have:=F 0 (by simp);rw[Nat.add_zero]at this;exact this
 have O:=hid F;have r:=hid J;have s:=hid I;have v:=hid L;have hp:(0:Int)<(n:Int):=by omega
 clear F J I L;by_cases hmany:(4:Int)<(n:Int)
 ·have g:Hid (R=(false,false)):=by
   have e:=v.out;rw[rF x t (.inl (by rw[s.out];have:=r.out;omega))]at e;exact e
  go_enter func106,ntmps106;go_wp2;go_ret2;rw[g.out];exact⟨rfl,rfl⟩
 ·go_enter func106,ntmps106;go_wp2
  go_loop [5] (fun vk=>∃k:Nat,1≤k∧k≤n∧vk=.int .i64 k∧Hid (Ip (x::t) k)) (fun vk=>n - (intOf vk).toNat)
  case atStart=>exact⟨1,by omega,by omega,rfl,fun j _ h1 h2=>absurd h2 (by omega)⟩
  case round=>
   obtain⟨k,C,V,rfl,N⟩:=hrel;by_cases hlt:k<n
   ·have B:k<(x::t).length:=by have:=r.out;simp;omega
    obtain⟨c,E⟩:∃c,c=(x::t)[k]:=⟨_,rfl⟩;have D:w.cell? ⟨b,i+k,none⟩=some (.int .u8 (c.toNat:Int)):=by rw[E];exact O k B
    have HC:=hid E;clear E;by_cases hb:(c.toNat:Int)<128∨191<(c.toNat:Int)
    ·have g:Hid (R=(false,false)):=by
      have e:=v.out;rw[rF x t (.inr (.inl (Ac x t k (by have:=r.out;omega) C (by rw[←HC.out];exact hb))))]at e;exact e
     rcases hb with hb|hb
     ·go_wp2;go_ret2;rw[g.out];exact⟨rfl,rfl⟩
     ·have a0:¬(c.toNat:Int)<128:=by omega
      go_wp2;go_ret2;rw[g.out];exact⟨rfl,rfl⟩
    ·have Z:¬(c.toNat:Int)<128:=by omega
     have Y:¬191<(c.toNat:Int):=by omega
     have H:Hid (Ip (x::t) (k+1)):=fun j hj h1 h2=>by
      by_cases e:j=k
      ·subst e;rw[←HC.out];omega
      ·exact N j hj h1 (by omega)
     clear hb;go_wp2
     go_round
     case rel=>exact⟨k+1,by omega,by omega,by go_num,H⟩
     case measure=>simp[intOf];omega
   ·skip
    obtain rfl:k=n:=by omega
    have Q:Hid (AV t):=Aa x t (by have e:=r.out;rw[e];exact N);clear hlt;cases t with
    |nil=>
     have f:=r.out;simp at f;have g:Hid (R=(true,decide ((k:Int)=4))):=by
      have e:=v.out;rw[qJ x [] (EO (by rw[s.out];simp) Q.out (fun h=>h)),s.out]at e;rw[e,←f];exact rfl
     have A:¬(1:Int)<(k:Int):=by omega
     clear f;go_wp2;go_ret2;rw[g.out];exact⟨Ap rfl (kM (by rw[Bool.eq_iff_iff];simp)),rfl⟩
    | cons y t'=>
     have W:w.cell? ⟨b,i+1,none⟩=some (.int .u8 (y.toNat:Int)):=O 1 (by simp);have f:=r.out;simp only[List.length_cons]at f;have A:(1:Int)<(k:Int):=by omega
     have T:0≤(y.toNat:Int)∧(y.toNat:Int)<256:=by have:=y.toNat_lt;omega
     have P:Hid ((((y::t').length:Nat):Int)+1=k):=by show _=_;simp only[List.length_cons];omega
     clear f;by_cases hbd:yh x.toNat y.toNat
     ·have g:Hid (R=(false,false)):=by
       have e:=v.out;rw[rF x (y::t') (.inr (.inr hbd))]at e;exact e
      unfold yh at hbd;rcases hbd with hbd|hbd|hbd|hbd
      ·exact absurd hbd.1 (by omega)
      ·exact absurd hbd.1 (by omega)
      ·obtain⟨q,z⟩:=hbd;have q3:((x.toNat:Int)==240)=true:=by rw[beq_iff_eq];exact q
       have d:((x.toNat:Int)==224)=false:=by rw[beq_eq_false_iff_ne];omega
       have a:((x.toNat:Int)==237)=false:=by rw[beq_eq_false_iff_ne];omega
       have l:((x.toNat:Int)==244)=false:=by rw[beq_eq_false_iff_ne];omega
       clear q;go_wp2;go_ret2;rw[g.out];exact⟨rfl,rfl⟩
      ·obtain⟨q,z⟩:=hbd;have q3:((x.toNat:Int)==244)=true:=by rw[beq_iff_eq];exact q
       have d:((x.toNat:Int)==224)=false:=by rw[beq_eq_false_iff_ne];omega
       have a:((x.toNat:Int)==237)=false:=by rw[beq_eq_false_iff_ne];omega
       have m:((x.toNat:Int)==240)=false:=by rw[beq_eq_false_iff_ne];omega
       clear q;go_wp2;go_ret2;rw[g.out];exact⟨rfl,rfl⟩
     ·have g:Hid (R=(true,decide ((k:Int)=4))):=by
       have e:=v.out;rw[qJ x (y::t') (EO (by rw[s.out];have:=P.out;omega) Q.out hbd),s.out,P.out]at e;exact e
      unfold yh at hbd;by_cases e1:(x.toNat:Int)=240
      ·have q:((x.toNat:Int)==240)=true:=by rw[beq_iff_eq];exact e1
       have z:¬(y.toNat:Int)<144:=by omega
       have d:((x.toNat:Int)==224)=false:=by rw[beq_eq_false_iff_ne];omega
       have a:((x.toNat:Int)==237)=false:=by rw[beq_eq_false_iff_ne];omega
       have l:((x.toNat:Int)==244)=false:=by rw[beq_eq_false_iff_ne];omega
       clear e1 hbd;go_wp2;all_goals
        go_ret2;rw[g.out];exact⟨Ap rfl (kM (by rw[Bool.eq_iff_iff];simp)),rfl⟩
      ·by_cases e2:(x.toNat:Int)=244
       ·have q:((x.toNat:Int)==244)=true:=by rw[beq_iff_eq];exact e2
        have z:¬143<(y.toNat:Int):=by omega
        have d:((x.toNat:Int)==224)=false:=by rw[beq_eq_false_iff_ne];omega
        have a:((x.toNat:Int)==237)=false:=by rw[beq_eq_false_iff_ne];omega
        have m:((x.toNat:Int)==240)=false:=by rw[beq_eq_false_iff_ne];omega
        clear e1 e2 hbd;go_wp2;all_goals
         go_ret2;rw[g.out];exact⟨Ap rfl (kM (by rw[Bool.eq_iff_iff];simp)),rfl⟩
       ·skip
        have d:((x.toNat:Int)==224)=false:=by rw[beq_eq_false_iff_ne];omega
        have a:((x.toNat:Int)==237)=false:=by rw[beq_eq_false_iff_ne];omega
        have m:((x.toNat:Int)==240)=false:=by rw[beq_eq_false_iff_ne];omega
        have l:((x.toNat:Int)==244)=false:=by rw[beq_eq_false_iff_ne];omega
        clear e1 e2 hbd;go_wp2;all_goals
         go_ret2;rw[g.out];exact⟨Ap rfl (kM (by rw[Bool.eq_iff_iff];simp)),rfl⟩
theorem SE (b a c:Nat) (x:UInt8) (t:List UInt8) (n:Nat) (w:World) (f:t.length+1=n) (z:n≤16) (d:size x.toNat=0)
  (i:∀j (h:j<(x::t).length),w.cell? ⟨b,a+j,none⟩=some (.int .u8 ((x::t)[j].toNat:Int)))
  (v:128≤(x.toNat:Int)) (s:(x.toNat:Int)≤193)
  (R:Bool×Bool) (g:R=st (x::t)):
  Calls prog 106 #[.slice (some ⟨b,a,none⟩) n c] w fun e w'=>e=.returned (.tuple #[.bool R.1,.bool R.2])∧w=w':=by
 have k:w.cell? ⟨b,a,none⟩=some (.int .u8 (x.toNat:Int)):=by
  have:=i 0 (by simp);rw[Nat.add_zero]at this;exact this
 have q:=hid f;have l:=hid d;have m:=hid g;have y:(0:Int)<(n:Int):=by omega
 clear i f d g;have r:Hid (R=(false,false)):=by
  have e:=m.out;rw[rF x t (.inl (by rw[l.out];have:=q.out;omega))]at e;exact e
 go_enter func106,ntmps106;go_wp2;go_ret2;rw[r.out];exact⟨rfl,rfl⟩
theorem SG (b a c:Nat) (x:UInt8) (t:List UInt8) (n:Nat) (w:World) (f:t.length+1=n) (y:n≤16) (d:size x.toNat=0)
  (i:∀j (h:j<(x::t).length),w.cell? ⟨b,a+j,none⟩=some (.int .u8 ((x::t)[j].toNat:Int)))
  (s:245≤(x.toNat:Int))
  (R:Bool×Bool) (g:R=st (x::t)):
  Calls prog 106 #[.slice (some ⟨b,a,none⟩) n c] w fun e w'=>e=.returned (.tuple #[.bool R.1,.bool R.2])∧w=w':=by
 have k:w.cell? ⟨b,a,none⟩=some (.int .u8 (x.toNat:Int)):=by
  have:=i 0 (by simp);rw[Nat.add_zero]at this;exact this
 have q:=hid f;have l:=hid d;have m:=hid g;have v:(0:Int)<(n:Int):=by omega
 clear i f d g;have r:Hid (R=(false,false)):=by
  have e:=m.out;rw[rF x t (.inl (by rw[l.out];have:=q.out;omega))]at e;exact e
 go_enter func106,ntmps106;go_wp2;go_ret2;rw[r.out];exact⟨rfl,rfl⟩
end Xp
namespace aaj
open Go.RowKit rY Xp
def Tf:Int→Int→List UInt8→Prop
 |_,_,[]=>True
 |l,h,c::t=>l≤(c.toNat:Int)∧(c.toNat:Int)≤h∧Tf 128 191 t
def fo (r:Int) (t:List UInt8):Int:=t.foldl (fun r c=>r*64+(c.toNat:Int)%64) r
theorem Fz:∀(p:List UInt8) (m k:Nat) (l h r:Int) (rest:List UInt8),Tf l h p→p.length=m→tail m k l h r (p++rest)=(fo r p,((k+m:Nat):Int),true)
 |[],m,k,l,h,r,rest,_,hm=>by
  simp at hm
  subst hm
  simp[tail,fo]
 |c::p,0,k,l,h,r,rest,_,hm=>by simp at hm
 |c::p,m+1,k,l,h,r,rest,hi,hm=>by
  obtain⟨e,d,a⟩:=hi
  rw[List.cons_append,tail,if_neg (by omega),Fz p m (k+1) 128 191 _ rest a (by simpa using hm)]
  refine Prod.ext rfl (Prod.ext ?_ rfl)
  simp only
  omega
theorem Ih:∀(p:List UInt8) (m k:Nat) (l h r:Int) (rest:List UInt8),Tf l h p→p.length<m→(rest=[]∨∃c t,rest=c::t∧(p=[]→((c.toNat:Int)<l∨h<(c.toNat:Int)))∧(p≠[]→((c.toNat:Int)<128∨191<(c.toNat:Int))))→
  tail m k l h r (p++rest)=(65533,((k+p.length:Nat):Int),false)
 |_,0,_,_,_,_,_,_,hm,_=>by simp at hm
 |[],m+1,k,l,h,r,rest,_,hm,hr=>by
  rcases hr with rfl|⟨c,t,rfl,hc,_⟩
  ·simp[tail]
  ·rw[List.nil_append,tail,if_pos (hc rfl)]
   simp
 |c::p,m+1,k,l,h,r,rest,hi,hm,hr=>by
  obtain⟨f,d,a⟩:=hi
  rw[List.cons_append,tail,if_neg (by omega),Ih p m (k+1) 128 191 _ rest a (by simpa using hm) (by
   rcases hr with hr|⟨c',t',e,_,h5⟩
   ·exact .inl hr
   ·exact .inr ⟨c',t',e,fun _=>h5 (by simp),fun _=>h5 (by simp)⟩)]
  refine Prod.ext rfl (Prod.ext ?_ rfl)
  simp only[List.length_cons]
  omega
theorem UO:∀t:List UInt8,Tf 128 191 t↔AV t
 |[]=>by simp[Tf,AV]
 |c::t=>by
  have:=UO t
  unfold AV at this⊢
  simp only[Tf,List.forall_mem_cons,this,and_assoc]
theorem KW (c:UInt8) (t:List UInt8):AV (c::t)↔(128≤(c.toNat:Int)∧(c.toNat:Int)≤191)∧AV t:=by
 unfold AV;simp only[List.forall_mem_cons]
theorem G8 (x:Int) (f:2≤size x) (p:List UInt8):Tf (lo x) (hi x) p↔AV p∧¬bad x p:=by
 have hx:194≤x∧x≤244:=by
  unfold size at f
  (repeat' split at f)<;>omega
 cases p with
 |nil=>simp[Tf,AV,bad]
 |cons c t=>
  rw[KW,Tf,UO];unfold bad yh lo hi;constructor
  ·rintro⟨e,d,a⟩;refine⟨⟨?_,a⟩,?_⟩
   ·(repeat' split at e)<;>(repeat' split at d)<;>omega
   (repeat' split at e)<;>(repeat' split at d)<;>omega
  rintro⟨⟨e,a⟩,d⟩;refine⟨?_,?_,a⟩
  ·(repeat' split)<;>omega
  (repeat' split)<;>omega
def first(x:Int):Int:=if x≤127 then x else if x≤223 then x%32 else if x≤239 then x%16 else x%8
theorem size_le (x:Int):0≤size x∧size x≤4:=by unfold size;(repeat' split)<;>omega
theorem Qk (x:UInt8) (T:List UInt8) (f:1≤size x.toNat):rd (x::T)=tail (size x.toNat - 1).toNat 1 (lo x.toNat) (hi x.toNat) (first x.toNat) T:=by
 have g:0≤(x.toNat:Int):=by omega
 by_cases a:(x.toNat:Int)≤127
 ·have e:size x.toNat=1:=by unfold size;rw[if_pos a]
  rw[rd,if_pos a,e];simp[tail,first,a]
 by_cases b:(x.toNat:Int)≤193∨245≤(x.toNat:Int)
 ·exfalso
  unfold size at f
  (repeat' split at f)<;>omega
 rw[rd,if_neg a,if_neg b];unfold first;rw[if_neg a];by_cases c:(x.toNat:Int)≤223
 ·have e:size x.toNat=2:=by unfold size;rw[if_neg a,if_pos (by omega)]
  rw[if_pos c,if_pos c,e];rfl
 rw[if_neg c,if_neg c];by_cases d:(x.toNat:Int)≤239
 ·have e:size x.toNat=3:=by unfold size;rw[if_neg a,if_neg (by omega),if_pos (by omega)]
  rw[if_pos d,if_pos d,e];rfl
 have e:size x.toNat=4:=by unfold size;rw[if_neg a,if_neg (by omega),if_neg (by omega),if_pos (by omega)]
 rw[if_neg d,if_neg d,e];rfl
theorem YE (x:UInt8) (T:List UInt8) (a:size x.toNat<1):rd (x::T)=(65533,1,false):=by
 have b:((x.toNat:Int)≤193∨245≤(x.toNat:Int))∧¬(x.toNat:Int)≤127:=by
  unfold size at a
  (repeat' split at a)<;>omega
 rw[rd,if_neg b.2,if_pos b.1]
theorem Aw (x:UInt8) (p:List UInt8) (W:Bool) (h:st (x::p)=(true,W)):¬size x.toNat<(p.length:Int)+1∧AV p∧¬bad x.toNat p∧W=decide ((p.length:Int)+1=size x.toNat):=by
 rw[st]at h;split at h
 ·cases h
 rename_i hn;injection h with h1 h2
 refine⟨fun a=>hn (.inl a),?_,fun a=>hn (.inr (.inr a)),h2.symm⟩;exact Decidable.byContradiction fun a=>hn (.inr (.inl a))
theorem PL (x:Int) (p:List UInt8) (g:1≤size x) (d:(p.length:Int)+1≤size x) (f:AV p) (e:¬bad x p):Tf (lo x) (hi x) p:=by
 by_cases a:2≤size x
 ·exact(G8 x a p).2 ⟨f,e⟩
 cases p with
 |nil=>trivial
 |cons c t=>simp at d;omega
theorem WV (x:UInt8) (p rest:List UInt8) (h:st (x::p)=(true,true)):rd (x::(p++rest))=(fo (first x.toNat) p,(p.length:Int)+1,true):=by
 obtain⟨f,d,c,a⟩:=Aw x p true h;have e:(p.length:Int)+1=size x.toNat:=by simpa using a.symm
 rw[Qk x _ (by omega),Fz p _ 1 _ _ _ rest (PL _ p (by omega) (by omega) d c) (by omega)];refine Prod.ext rfl (Prod.ext ?_ rfl);simp only;omega
theorem Yq (x:UInt8) (p rest:List UInt8) (h:st (x::p)=(true,false)) (f:rest=[]∨∃c t,rest=c::t∧(st (x::(p++[c]))).1=false):rd (x::(p++rest))=(65533,(p.length:Int)+1,false):=by
 obtain⟨s,l,k,q⟩:=Aw x p false h;have r:¬(p.length:Int)+1=size x.toNat:=by simpa using q.symm
 have n:2≤size x.toNat:=by omega
 rw [Qk x _ (by omega),Ih p _ 1 _ _ _ rest (PL _ p (by omega) (by omega) l k) (by omega) (by
  rcases f with f|⟨c,t,rfl,hc⟩
  ·exact .inl f
  refine .inr ⟨c,t,rfl,?_,?_⟩
  ·rintro rfl;have e:¬Tf (lo x.toNat) (hi x.toNat) [c]:=by
    intro hi;obtain⟨j,i⟩:=(G8 _ n [c]).1 hi;have:st (x::([]++[c]))=(true,decide ((([c]:List UInt8).length:Int)+1=size x.toNat)):=qJ x [c] (EO (by simp;omega) j i);rw[this]at hc;cases hc
   simp only[Tf,and_true]at e;omega
  intro m;have e:¬AV [c]:=by
   intro g;have j:AV (p++[c]):=by
    intro d a;rcases List.mem_append.1 a with a|a
    ·exact l d a
    exact g d a
   have i:¬bad x.toNat (p++[c]):=by
    cases p with
    |nil=>exact absurd rfl m
    |cons d p=>exact k
   have:st (x::(p++[c]))=(true,decide (((p++[c]).length:Int)+1=size x.toNat)):=qJ x _ (EO (by simp;omega) j i);rw[this]at hc;cases hc
  rw[KW]at e;have:AV []:=by intro d a;cases a
  simp only[this,and_true]at e;omega)]
 refine Prod.ext rfl (Prod.ext ?_ rfl);simp only;omega
theorem Yh (x:UInt8) (T:List UInt8) (h:(st [x]).1=false):rd (x::T)=(65533,1,false):=by
 refine YE x T ?_;rcases Int.lt_or_le (size x.toNat) 1 with h1|h1
 ·exact h1
 have:st [x]=(true,decide ((([]:List UInt8).length:Int)+1=size x.toNat)):=qJ x [] (EO (by simp;omega) (by intro d a;cases a) (fun h=>h));rw[this]at h;cases h
end aaj
namespace acK
open Go.RowKit Base rY Xp aaj
theorem Vg (b a g:Nat) (x:UInt8) (t:List UInt8) (w:World) (i:t.length=0) (E:(x.toNat:Int)≤127)
  (l:∀j (h:j<(x::t).length),w.cell? ⟨b,a+j,none⟩=some (.int .u8 ((x::t)[j].toNat:Int))) (d:AV t):
  Calls prog 107 #[.slice (some ⟨b,a,none⟩) 1 g] w fun e w'=>e=.returned (.int .i32 (fo (first x.toNat) t))∧w=w':=by
 have y:w.cell? ⟨b,a,none⟩=some (.int .u8 (x.toNat:Int)):=by
  have:=l 0 (by simp);rw[Nat.add_zero]at this;exact this
 have m:0≤(x.toNat:Int):=by omega
 have hf:first x.toNat=(x.toNat:Int):=by unfold first;(repeat' split)<;>omega
 obtain⟨f,c⟩:∃f,f=first x.toNat:=⟨_,rfl⟩;rw[←c]at hf⊢;have z:0≤(x.toNat:Int)∧(x.toNat:Int)<128:=by omega
 have B:=hid i;have C:=hid hf;clear l i d hf c;go_enter func107,ntmps107;go_wp2
 go_loop [3,4] (fun vr vk=>∃(k:Nat) (r:Int),1≤k∧k≤1∧vk=.int .i64 k∧vr=.int .i32 r∧0≤r∧r<4*room k∧Hid (fo r (t.drop (k - 1))=fo f t)) (fun _ vk=>1 - (intOf vk).toNat)
 case atStart=>exact⟨1,(x.toNat:Int),by omega,by omega,rfl,rfl,by omega,by have:room 1=32:=rfl;omega,by rw[C.out];exact rfl⟩
 case round=>
  obtain⟨k,r,v,s,rfl,rfl,q,n,A⟩:=hrel;by_cases hlt:k<1
  ·exact absurd hlt (by omega)
  ·obtain rfl:k=1:=by omega
   have D:Hid (fo f t=r):=by
    have e:=A.out;rw[List.drop_of_length_le (by have:=B.out;omega)]at e;exact e.symm
   go_wp2;go_ret;rw[D.out];exact⟨rfl,rfl⟩
theorem Vh (b a y:Nat) (x:UInt8) (t:List UInt8) (w:World) (z:t.length=1) (Y:194≤(x.toNat:Int)) (X:(x.toNat:Int)≤223)
  (v:∀j (h:j<(x::t).length),w.cell? ⟨b,a+j,none⟩=some (.int .u8 ((x::t)[j].toNat:Int))) (d:AV t):
  Calls prog 107 #[.slice (some ⟨b,a,none⟩) 2 y] w fun e w'=>e=.returned (.int .i32 (fo (first x.toNat) t))∧w=w':=by
 have J:w.cell? ⟨b,a,none⟩=some (.int .u8 (x.toNat:Int)):=by
  have:=v 0 (by simp);rw[Nat.add_zero]at this;exact this
 have C:0≤(x.toNat:Int):=by omega
 have hf:first x.toNat=(x.toNat:Int) - 192:=by unfold first;(repeat' split)<;>omega
 obtain⟨f,g⟩:∃f,f=first x.toNat:=⟨_,rfl⟩;rw[←g]at hf⊢;have N:0≤(x.toNat:Int) - 192∧(x.toNat:Int) - 192<128:=by omega
 have P:=hid v;have B:=hid z;have O:=hid d;have Q:=hid hf;clear v z d hf g;go_enter func107,ntmps107;go_wp2
 go_loop [3,4] (fun vr vk=>∃(k:Nat) (r:Int),1≤k∧k≤2∧vk=.int .i64 k∧vr=.int .i32 r∧0≤r∧r<4*room k∧Hid (fo r (t.drop (k - 1))=fo f t)) (fun _ vk=>2 - (intOf vk).toNat)
 case atStart=>exact⟨1,(x.toNat:Int) - 192,by omega,by omega,rfl,rfl,by omega,by have:room 1=32:=rfl;omega,by rw[Q.out];exact rfl⟩
 case round=>
  obtain⟨k,r,q,G,rfl,rfl,F,E,A⟩:=hrel;by_cases hlt:k<2
  ·obtain⟨l,L⟩:=pW k q (by omega);have W:=hid l;clear l;have D:r<524288:=by omega
   have n:k - 1<t.length:=by have:=B.out;omega
   obtain⟨c,m⟩:∃c,c=t[k - 1]:=⟨_,rfl⟩;have s:w.cell? ⟨b,a+k,none⟩=some (.int .u8 (c.toNat:Int)):=by
    rw[P.out k (by simp;omega),m];obtain⟨i,rfl⟩:∃i,k=i+1:=⟨k - 1,by omega⟩;simp
   obtain⟨I,H⟩:=O c (by rw[m];exact List.getElem_mem _);have V:Hid (fo (r*64+((c.toNat:Int) - 128)) (t.drop k)=fo f t):=by
    have e:=A.out;rw[List.drop_eq_getElem_cons n,←m,show k - 1+1=k by omega]at e;rw[show(c.toNat:Int) - 128=(c.toNat:Int)%64 by omega];exact e
   clear m;go_wp2
   go_round
   case rel=>exact⟨k+1,r*64+((c.toNat:Int) - 128),by omega,by omega,by go_num,int_eq (by omega),by omega,by rw[W.out];omega,V⟩
   case measure=>simp[intOf];omega
  ·obtain rfl:k=2:=by omega
   have T:Hid (fo f t=r):=by
    have e:=A.out;rw[List.drop_of_length_le (by have:=B.out;omega)]at e;exact e.symm
   go_wp2;go_ret;rw[T.out];exact⟨rfl,rfl⟩
theorem Vj (b a y:Nat) (x:UInt8) (t:List UInt8) (w:World) (z:t.length=2) (Y:224≤(x.toNat:Int)) (X:(x.toNat:Int)≤239)
  (v:∀j (h:j<(x::t).length),w.cell? ⟨b,a+j,none⟩=some (.int .u8 ((x::t)[j].toNat:Int))) (d:AV t):
  Calls prog 107 #[.slice (some ⟨b,a,none⟩) 3 y] w fun e w'=>e=.returned (.int .i32 (fo (first x.toNat) t))∧w=w':=by
 have J:w.cell? ⟨b,a,none⟩=some (.int .u8 (x.toNat:Int)):=by
  have:=v 0 (by simp);rw[Nat.add_zero]at this;exact this
 have C:0≤(x.toNat:Int):=by omega
 have hf:first x.toNat=(x.toNat:Int) - 224:=by unfold first;(repeat' split)<;>omega
 obtain⟨f,g⟩:∃f,f=first x.toNat:=⟨_,rfl⟩;rw[←g]at hf⊢;have N:0≤(x.toNat:Int) - 224∧(x.toNat:Int) - 224<128:=by omega
 have P:=hid v;have B:=hid z;have O:=hid d;have Q:=hid hf;clear v z d hf g;go_enter func107,ntmps107;go_wp2
 go_loop [3,4] (fun vr vk=>∃(k:Nat) (r:Int),1≤k∧k≤3∧vk=.int .i64 k∧vr=.int .i32 r∧0≤r∧r<4*room k∧Hid (fo r (t.drop (k - 1))=fo f t)) (fun _ vk=>3 - (intOf vk).toNat)
 case atStart=>exact⟨1,(x.toNat:Int) - 224,by omega,by omega,rfl,rfl,by omega,by have:room 1=32:=rfl;omega,by rw[Q.out];exact rfl⟩
 case round=>
  obtain⟨k,r,q,G,rfl,rfl,F,E,A⟩:=hrel;by_cases hlt:k<3
  ·obtain⟨l,L⟩:=pW k q (by omega);have W:=hid l;clear l;have D:r<524288:=by omega
   have n:k - 1<t.length:=by have:=B.out;omega
   obtain⟨c,m⟩:∃c,c=t[k - 1]:=⟨_,rfl⟩;have s:w.cell? ⟨b,a+k,none⟩=some (.int .u8 (c.toNat:Int)):=by
    rw[P.out k (by simp;omega),m];obtain⟨i,rfl⟩:∃i,k=i+1:=⟨k - 1,by omega⟩;simp
   obtain⟨I,H⟩:=O c (by rw[m];exact List.getElem_mem _);have V:Hid (fo (r*64+((c.toNat:Int) - 128)) (t.drop k)=fo f t):=by
    have e:=A.out;rw[List.drop_eq_getElem_cons n,←m,show k - 1+1=k by omega]at e;rw[show(c.toNat:Int) - 128=(c.toNat:Int)%64 by omega];exact e
   clear m;go_wp2
   go_round
   case rel=>exact⟨k+1,r*64+((c.toNat:Int) - 128),by omega,by omega,by go_num,int_eq (by omega),by omega,by rw[W.out];omega,V⟩
   case measure=>simp[intOf];omega
  ·obtain rfl:k=3:=by omega
   have T:Hid (fo f t=r):=by
    have e:=A.out;rw[List.drop_of_length_le (by have:=B.out;omega)]at e;exact e.symm
   go_wp2;go_ret;rw[T.out];exact⟨rfl,rfl⟩
theorem Vk (b a y:Nat) (x:UInt8) (t:List UInt8) (w:World) (z:t.length=3) (Y:240≤(x.toNat:Int)) (X:(x.toNat:Int)≤244)
  (v:∀j (h:j<(x::t).length),w.cell? ⟨b,a+j,none⟩=some (.int .u8 ((x::t)[j].toNat:Int))) (d:AV t):
  Calls prog 107 #[.slice (some ⟨b,a,none⟩) 4 y] w fun e w'=>e=.returned (.int .i32 (fo (first x.toNat) t))∧w=w':=by
 have J:w.cell? ⟨b,a,none⟩=some (.int .u8 (x.toNat:Int)):=by
  have:=v 0 (by simp);rw[Nat.add_zero]at this;exact this
 have C:0≤(x.toNat:Int):=by omega
 have hf:first x.toNat=(x.toNat:Int) - 240:=by unfold first;(repeat' split)<;>omega
 obtain⟨f,g⟩:∃f,f=first x.toNat:=⟨_,rfl⟩;rw[←g]at hf⊢;have N:0≤(x.toNat:Int) - 240∧(x.toNat:Int) - 240<128:=by omega
 have P:=hid v;have B:=hid z;have O:=hid d;have Q:=hid hf;clear v z d hf g;go_enter func107,ntmps107;go_wp2
 go_loop [3,4] (fun vr vk=>∃(k:Nat) (r:Int),1≤k∧k≤4∧vk=.int .i64 k∧vr=.int .i32 r∧0≤r∧r<4*room k∧Hid (fo r (t.drop (k - 1))=fo f t)) (fun _ vk=>4 - (intOf vk).toNat)
 case atStart=>exact⟨1,(x.toNat:Int) - 240,by omega,by omega,rfl,rfl,by omega,by have:room 1=32:=rfl;omega,by rw[Q.out];exact rfl⟩
 case round=>
  obtain⟨k,r,q,G,rfl,rfl,F,E,A⟩:=hrel;by_cases hlt:k<4
  ·obtain⟨l,L⟩:=pW k q (by omega);have W:=hid l;clear l;have D:r<524288:=by omega
   have n:k - 1<t.length:=by have:=B.out;omega
   obtain⟨c,m⟩:∃c,c=t[k - 1]:=⟨_,rfl⟩;have s:w.cell? ⟨b,a+k,none⟩=some (.int .u8 (c.toNat:Int)):=by
    rw[P.out k (by simp;omega),m];obtain⟨i,rfl⟩:∃i,k=i+1:=⟨k - 1,by omega⟩;simp
   obtain⟨I,H⟩:=O c (by rw[m];exact List.getElem_mem _);have V:Hid (fo (r*64+((c.toNat:Int) - 128)) (t.drop k)=fo f t):=by
    have e:=A.out;rw[List.drop_eq_getElem_cons n,←m,show k - 1+1=k by omega]at e;rw[show(c.toNat:Int) - 128=(c.toNat:Int)%64 by omega];exact e
   clear m;go_wp2
   go_round
   case rel=>exact⟨k+1,r*64+((c.toNat:Int) - 128),by omega,by omega,by go_num,int_eq (by omega),by omega,by rw[W.out];omega,V⟩
   case measure=>simp[intOf];omega
  ·obtain rfl:k=4:=by omega
   have T:Hid (fo f t=r):=by
    have e:=A.out;rw[List.drop_of_length_le (by have:=B.out;omega)]at e;exact e.symm
   go_wp2;go_ret;rw[T.out];exact⟨rfl,rfl⟩
theorem OG (b c n d:Nat) (x:UInt8) (t:List UInt8) (w:World) (h:dV w (some ⟨b,c,none⟩) n (aQ (x::t))) (g:n≤16):
  Calls prog 106 #[.slice (some ⟨b,c,none⟩) n d] w fun e w'=>e=.returned (.tuple #[.bool (st (x::t)).1,.bool (st (x::t)).2])∧w=w':=by
 have f:t.length+1=n:=by have:=h.1;rw[bM]at this;exact this
 have i:∀j (hj:j<(x::t).length),w.cell? ⟨b,c+j,none⟩=some (.int .u8 ((x::t)[j].toNat:Int)):=fun j hj=>h.byte j hj;by_cases a:(x.toNat:Int)<128
 ·exact Wh b c d x t n w f g (by unfold size;(repeat' split)<;>omega) i a _ rfl
 by_cases b0:(x.toNat:Int)≤193
 ·exact SE b c d x t n w f g (by unfold size;(repeat' split)<;>omega) i (by omega) b0 _ rfl
 by_cases b1:(x.toNat:Int)≤223
 ·exact Wi b c d x t n w f g (by unfold size;(repeat' split)<;>omega) i (by omega) b1 _ rfl
 by_cases b2:(x.toNat:Int)≤239
 ·exact Wj b c d x t n w f g (by unfold size;(repeat' split)<;>omega) i (by omega) b2 _ rfl
 by_cases b3:(x.toNat:Int)≤244
 ·exact Wn b c d x t n w f g (by unfold size;(repeat' split)<;>omega) i (by omega) b3 _ rfl
 ·exact SG b c d x t n w f g (by unfold size;(repeat' split)<;>omega) i (by omega) _ rfl
theorem dw (b a n c:Nat) (x:UInt8) (t:List UInt8) (w:World) (h:dV w (some ⟨b,a,none⟩) n (aQ (x::t))) (k:st (x::t)=(true,true)):
  Calls prog 107 #[.slice (some ⟨b,a,none⟩) n c] w fun e w'=>e=.returned (.int .i32 (fo (first x.toNat) t))∧w=w':=by
 have m:t.length+1=n:=by have:=h.1;rw[bM]at this;exact this
 have f:∀j (hj:j<(x::t).length),w.cell? ⟨b,a+j,none⟩=some (.int .u8 ((x::t)[j].toNat:Int)):=fun j hj=>h.byte j hj;obtain⟨v,g,s,l⟩:=Aw x t true k;have r:(t.length:Int)+1=size x.toNat:=by simpa using l.symm
 have q:=size_le x.toNat;have i:0≤(x.toNat:Int):=by omega
 have d:n=1∨n=2∨n=3∨n=4:=by omega
 rcases d with rfl|rfl|rfl|rfl
 ·exact Vg b a c x t w (by omega) (by
    have e:size x.toNat=1:=by omega
    unfold size at e;(repeat' split at e)<;>omega) f g
 ·have e:194≤(x.toNat:Int)∧(x.toNat:Int)≤223:=by
   have e:size x.toNat=2:=by omega
   unfold size at e
   (repeat' split at e)<;>omega
  exact Vh b a c x t w (by omega) e.1 e.2 f g
 ·have e:224≤(x.toNat:Int)∧(x.toNat:Int)≤239:=by
   have e:size x.toNat=3:=by omega
   unfold size at e
   (repeat' split at e)<;>omega
  exact Vj b a c x t w (by omega) e.1 e.2 f g
 ·have e:240≤(x.toNat:Int)∧(x.toNat:Int)≤244:=by
   have e:size x.toNat=4:=by omega
   unfold size at e
   (repeat' split at e)<;>omega
  exact Vk b a c x t w (by omega) e.1 e.2 f g
end acK
namespace acJ
open Go.RowKit Base rY Xp aaj acK
def TK (L:List UInt8) (j:Nat) (wh:Bool):Prop:=j=0∧wh=false∨1≤j∧j≤L.length∧st (L.take j)=(true,wh)
theorem BJ (x:UInt8) (T:List UInt8) (j:Nat) (d:Bool) (h:TK (x::T) j d) (a:d=true∨j=T.length+1∨j≤T.length∧(st ((x::T).take (j+1))).1=false):
  (d=true→rd (x::T)=(fo (first x.toNat) ((x::T).take j).tail,(j:Int),true)∧st ((x::T).take j)=(true,true)∧1≤j∧j≤T.length+1)∧(d=false→rd (x::T)=(65533,((max j 1:Nat):Int),false)):=by
 constructor
 ·rintro rfl;rcases h with⟨_,h⟩|⟨g,f,c⟩
  ·cases h
  ·obtain⟨i,rfl⟩:∃i,j=i+1:=⟨j - 1,by omega⟩;rw[List.take_succ_cons]at c⊢;have e:=WV x (T.take i) (T.drop i) c;rw[List.take_append_drop]at e;refine⟨?_,c,by omega,by simpa using f⟩;rw[e];simp only[List.tail_cons,List.length_take,List.length_cons]at f⊢;refine Prod.ext rfl (Prod.ext ?_ rfl);simp only;omega
 ·rintro rfl;rcases h with⟨rfl,_⟩|⟨g,f,c⟩
  ·rcases a with h|h|⟨_,h⟩
   ·cases h
   ·omega
   ·rw[List.take_succ_cons,List.take_zero]at h;exact Yh x T h
  ·obtain ⟨i,rfl⟩:∃i,j=i+1:=⟨j - 1,by omega⟩;rw[List.take_succ_cons]at c;simp only[List.length_cons]at f;have e:=Yq x (T.take i) (T.drop i) c (by
    rcases a with h|h|⟨h4,h⟩
    ·cases h
    ·exact .inl (List.drop_of_length_le (by omega))
    ·refine .inr ⟨T[i],T.drop (i+1),List.drop_eq_getElem_cons (by omega),?_⟩;rw[List.take_succ_cons,List.take_succ_eq_append_getElem (by omega)]at h;exact h)
   rw[List.take_append_drop]at e;rw[e];refine Prod.ext rfl (Prod.ext ?_ rfl);simp only[List.length_take];omega
theorem L6 (L:List UInt8) (j:Nat) (d:Bool) (h:TK L j d):j≤4∧j≤L.length:=by
 rcases h with⟨rfl,_⟩|⟨f,c,a⟩
 ·exact⟨by omega,by omega⟩
 obtain⟨x,T,rfl⟩:∃x T,L=x::T:=by
  cases L with
  |nil=>simp at c;omega
  |cons x T=>exact⟨x,T,rfl⟩
 obtain⟨i,rfl⟩:∃i,j=i+1:=⟨j - 1,by omega⟩;rw[List.take_succ_cons]at a;obtain⟨e,_⟩:=Aw x _ _ a;have:=size_le x.toNat;simp only[List.length_take,List.length_cons]at e c;exact⟨by omega,by simp;omega⟩
def IX:Value→Nat
 | .slice _ n _=>n
 |_=>0
theorem qj (A0:Option Addr) (O C:Nat) (L:List UInt8) (w:World) (h:dV w A0 O (aQ L)) (hm:O≤1073741824) (B:O≤C):
  Calls prog 39 #[.slice A0 O C] w fun e w'=>∃v,e=.returned v∧w'.ownsRow w.heap.size 21 1 v (dec L).length (jh .i32 (dec L))∧Below w.heap.size w w':=by
 have hl:L.length=O:=by rw[←bM];exact h.1
 clear hl;obtain⟨i0,hi,F,E,D⟩:=info_parts info21;have HH:=hid h;clear h;go_enter func39,ntmps39;go_wp2;go_loopw [0,3] (fun vb v wr=>∃(A:Option Addr) (n k:Nat) (R:List UInt8) (f:List Int),n≤k∧f.length+n≤1073741824∧vb=.slice A n k∧dV w A n (aQ R)∧wr.ownsRow w.heap.size 21 1 v f.length (jh .i32 f)∧Below w.heap.size w wr∧Hid (f++dec R=dec L)) (fun vb _ _=>IX vb)
 case atStart=>exact⟨A0,O,C,L,[],B,by simpa using hm,rfl,HH,World.ownsRow_nil _ _ _ _,Below.refl _ _,rfl⟩
 case round =>
  clear B hm;obtain⟨A,n,k,R,f,B,a2,rfl,I,l,d,H⟩:=hrel;cases R with
  |nil=>
   have a0:n=0:=by have:=I.1;simp[aQ]at this;omega
   subst a0;clear I;have HE:Hid (f=dec L):=by
    have e:=H.out;rw[mG,List.append_nil]at e;exact e
   go_wp2;go_ret;exact⟨_,rfl,by rw[←HE.out];exact l,d⟩
  | cons x T=>
   have X:n=T.length+1:=by have:=I.1;rw[bM]at this;exact this.symm
   obtain⟨b,m,rfl,hb,_⟩:=I.spot (by omega);have hp:0<n:=by omega
   have r:=hid X;clear X;have Q:dV wr (some ⟨b,m,none⟩) n (aQ (x::T)):=I.below d;have Z:=hid Q;have HR:=hid I;clear Q I;go_wp2
   go_loop [4,5,6,7] (fun vn vw _ _=>∃(j:Nat) (wh:Bool),j≤n∧j≤4∧vn=.int .i64 j∧vw=.bool wh∧Hid (TK (x::T) j wh)) (fun vn _ _ _=>n - (intOf vn).toNat)
   case atStart=>exact⟨0,false,Nat.zero_le _,by omega,rfl,rfl,.inl ⟨rfl,rfl⟩⟩
   case round=>
    obtain⟨j,wh,hj,a5,rfl,rfl,HS⟩:=hrel;cases wh with
    | true=>
     obtain⟨V,aU,Y,a4⟩:=(BJ x T j true HS (.inl rfl)).1 rfl;have t:=hid V;have z:Hid (dV wr (some ⟨b,m,none⟩) j (aQ (x::((x::T).take j).tail))):=by
      have:=Z.upto j hj;rw[←vX]at this;obtain⟨i,rfl⟩:∃i,j=i+1:=⟨j - 1,by omega⟩;exact this
     have P:Hid (st (x::((x::T).take j).tail)=(true,true)):=by
      obtain⟨i,rfl⟩:∃i,j=i+1:=⟨j - 1,by omega⟩;exact aU
     clear V aU;have a3:(j:Int)≤(k:Int):=by omega
     obtain⟨q,hq⟩:∃q,q=fo (first x.toNat) ((x::T).take j).tail:=⟨_,rfl⟩;have HQ:=hid hq;clear hq;by_cases hlt:j<n;all_goals
      go_wp2_with fail
      refine(dw b m j k x ((x::T).take j).tail _ z P).mono ?_;rintro e w1 ⟨rfl,rfl⟩;rw[←HQ.out];go_wp2_with (at_builtin;refine bJ rfl _ _ 52 rfl w.heap.size 21 i0 (.int .i32 0) 4 underlying52 hi F E D rfl _ f.length _ rfl l d d.size [.int .i32 (q)] 1 rfl rfl (by intro u y;simp at y;subst y;rfl) (by unfold maxLen;omega) (by omega) ?_)
      intro v' w3 a c;clear l d;have g:Hid (dec (x::T)=(q)::dec ((x::T).drop (j))):=by
       rw[gU,t.out,←HQ.out];exact rfl
      by_cases G:k=j
      ·have J:n=j:=by omega
       have s:Hid ((x::T).drop (j)=[]):=List.drop_of_length_le (by have:=r.out;rw[List.length_cons];omega);go_wp2;go_roundw
       case rel=>exact⟨some ⟨b,m,none⟩,0,0,[],f++[q],by omega,by simp;omega,(by first|(simp;done)|(simp;omega)),dV.nil _,by rw[gG,List.length_append];exact a,c,by
         have e:=H.out;rw[g.out,s.out]at e;rw[List.append_assoc];exact e⟩
       case measure=>simp[IX];omega
      ·go_wp2;go_roundw
       case rel=>exact⟨some ⟨b,m+(j),none⟩,n - (j),k - (j),(x::T).drop (j),f++[q],by omega,by simp;omega,(by first|rfl|(simp;done)|(simp;omega)),by rw[oq];exact HR.cut _ (by omega),by rw[gG,List.length_append];exact a,c,by
         have e:=H.out;rw[g.out]at e;rw[List.append_assoc];exact e⟩
       case measure=>simp[IX];omega
    | false =>
     by_cases hlt:j<n
     ·have z:Hid (dV wr (some ⟨b,m,none⟩) (j+1) (aQ (x::T.take j))):=by
       have:=Z.upto (j+1) (by omega);rw[←vX,List.take_succ_cons]at this;exact this
      have G:(j:Int)+1≤(k:Int):=by omega
      obtain⟨p,W⟩:∃p,p=st (x::T.take j):=⟨_,rfl⟩;have HP:=hid W;clear W;go_wp2_with fail
      refine(OG b m (j+1) k x (T.take j) _ z (by omega)).mono ?_;rintro e w1 ⟨rfl,rfl⟩;rw[←HP.out];obtain⟨ok,is⟩:=p;cases ok with
      | true=>
       go_wp2
       go_round
       case rel=>exact⟨j+1,is,by omega,by
         have:=(L6 (x::T) (j+1) is (.inr ⟨by omega,by simp;have:=r.out;omega,by rw[List.take_succ_cons];exact HP.symm⟩)).1;omega,by go_num,rfl,.inr ⟨by omega,by simp;have:=r.out;omega,by rw[List.take_succ_cons];exact HP.symm⟩⟩
       case measure=>simp[intOf];omega
      | false=>
       have t:Hid (rd (x::T)=(65533,((max j 1:Nat):Int),false)):=(BJ x T j false HS (.inr (.inr ⟨by have:=r.out;omega,by rw[List.take_succ_cons,←HP.out]⟩))).2 rfl;by_cases hj0:j=0
       ·subst hj0;go_wp2_with (at_builtin;refine bJ rfl _ _ 52 rfl w.heap.size 21 i0 (.int .i32 0) 4 underlying52 hi F E D rfl _ f.length _ rfl l d d.size [.int .i32 (65533)] 1 rfl rfl (by intro u y;simp at y;subst y;rfl) (by unfold maxLen;omega) (by omega) ?_)
        intro v' w3 a c;clear l d;have g:Hid (dec (x::T)=(65533)::dec ((x::T).drop (1))):=by
         rw[gU,t.out];exact rfl
        by_cases G:k=1
        ·have J:n=1:=by omega
         have s:Hid ((x::T).drop (1)=[]):=List.drop_of_length_le (by have:=r.out;rw[List.length_cons];omega);go_wp2;go_roundw
         case rel=>exact⟨some ⟨b,m,none⟩,0,0,[],f++[65533],by omega,by simp;omega,(by first|(simp;done)|(simp;omega)),dV.nil _,by rw[gG,List.length_append];exact a,c,by
           have e:=H.out;rw[g.out,s.out]at e;rw[List.append_assoc];exact e⟩
         case measure=>simp[IX];omega
        ·go_wp2;go_roundw
         case rel=>exact⟨some ⟨b,m+(1),none⟩,n - (1),k - (1),(x::T).drop (1),f++[65533],by omega,by simp;omega,(by first|rfl|(simp;done)|(simp;omega)),by rw[oq];exact HR.cut _ (by omega),by rw[gG,List.length_append];exact a,c,by
           have e:=H.out;rw[g.out]at e;rw[List.append_assoc];exact e⟩
         case measure=>simp[IX];omega
       ·have Y:1≤j:=by omega
        have N:Hid (max j 1=j):=by show max j 1=j;omega
        rw[N.out]at t;go_wp2_with (at_builtin;refine bJ rfl _ _ 52 rfl w.heap.size 21 i0 (.int .i32 0) 4 underlying52 hi F E D rfl _ f.length _ rfl l d d.size [.int .i32 (65533)] 1 rfl rfl (by intro u y;simp at y;subst y;rfl) (by unfold maxLen;omega) (by omega) ?_)
        intro v' w3 a c;clear l d;have g:Hid (dec (x::T)=(65533)::dec ((x::T).drop (j))):=by
         rw[gU,t.out];exact rfl
        by_cases G:k=j
        ·have J:n=j:=by omega
         have s:Hid ((x::T).drop (j)=[]):=List.drop_of_length_le (by have:=r.out;rw[List.length_cons];omega);go_wp2;go_roundw
         case rel=>exact⟨some ⟨b,m,none⟩,0,0,[],f++[65533],by omega,by simp;omega,(by first|(simp;done)|(simp;omega)),dV.nil _,by rw[gG,List.length_append];exact a,c,by
           have e:=H.out;rw[g.out,s.out]at e;rw[List.append_assoc];exact e⟩
         case measure=>simp[IX];omega
        ·go_wp2;go_roundw
         case rel=>exact⟨some ⟨b,m+(j),none⟩,n - (j),k - (j),(x::T).drop (j),f++[65533],by omega,by simp;omega,(by first|rfl|(simp;done)|(simp;omega)),by rw[oq];exact HR.cut _ (by omega),by rw[gG,List.length_append];exact a,c,by
           have e:=H.out;rw[g.out]at e;rw[List.append_assoc];exact e⟩
         case measure=>simp[IX];omega
     ·have a1 : j = n := by omega
      subst a1;have t:Hid (rd (x::T)=(65533,((max j 1:Nat):Int),false)):=(BJ x T j false HS (.inr (.inl r))).2 rfl;by_cases hj0:j=0
      ·exact absurd hp (by omega)
      ·have Y:1≤j:=by omega
       have N:Hid (max j 1=j):=by show max j 1=j;omega
       rw[N.out]at t;go_wp2_with (at_builtin;refine bJ rfl _ _ 52 rfl w.heap.size 21 i0 (.int .i32 0) 4 underlying52 hi F E D rfl _ f.length _ rfl l d d.size [.int .i32 (65533)] 1 rfl rfl (by intro u y;simp at y;subst y;rfl) (by unfold maxLen;omega) (by omega) ?_)
       intro v' w3 a c;clear l d;have g:Hid (dec (x::T)=(65533)::dec ((x::T).drop (j))):=by
        rw[gU,t.out];exact rfl
       by_cases G:k=j
       ·have J:j=j:=rfl;have s:Hid ((x::T).drop (j)=[]):=List.drop_of_length_le (by have:=r.out;rw[List.length_cons];omega);go_wp2;go_roundw
        case rel=>exact⟨some ⟨b,m,none⟩,0,0,[],f++[65533],by omega,by simp;omega,(by first|(simp;done)|(simp;omega)),dV.nil _,by rw[gG,List.length_append];exact a,c,by
          have e:=H.out;rw[g.out,s.out]at e;rw[List.append_assoc];exact e⟩
        case measure=>simp[IX];omega
       ·go_wp2;go_roundw
        case rel=>exact⟨some ⟨b,m+(j),none⟩,j - (j),k - (j),(x::T).drop (j),f++[65533],by omega,by simp;omega,(by first|rfl|(simp;done)|(simp;omega)),by rw[oq];exact HR.cut _ (by omega),by rw[gG,List.length_append];exact a,c,by
          have e:=H.out;rw[g.out]at e;rw[List.append_assoc];exact e⟩
        case measure=>simp[IX];omega
end acJ
namespace acL
open Go.RowKit rY
theorem pF (L:List UInt8):(dec L).length≤L.length:=by
 have H:∀(n:Nat) (L:List UInt8),L.length≤n→(dec L).length≤L.length:=by
  intro n;induction n with
  |zero=>intro L a;obtain rfl:L=[]:=List.eq_nil_of_length_eq_zero (by omega);simp[mG]
  |succ n ih=>
   intro L a;cases L with
   |nil=>simp[mG]
   |cons x t=>
    have c:=mQ x t;rw[gU,List.length_cons,List.length_cons];have:=ih ((x::t).drop (rd (x::t)).2.1.toNat) (by simp only[List.length_drop,List.length_cons]at a⊢;omega);simp only[List.length_drop,List.length_cons]at this;omega
 exact H _ L (Nat.le_refl _)
end acL
