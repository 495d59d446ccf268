/- Texts that belong together: agS, IdnP, atW, atQ, Regp, uw, xH, ES. -/
import Derived.Test.YtgamccijegollaaGreatDoorSOAAC
import Derived.Test.YtgamccijegollaaGreatDoorSOAAD
import Derived.Test.YtgamccijegollaaGreatDoorSOAAA
import Derived.Test.YtgamccijegollaaGreatDoorSOAAI
import Derived.Test.YtgamccijegollaaGreatDoorSOAAO
import Derived.Test.YtgamccijegollaaGreatDoorSOAAM
import Derived.Laws.OwnMore
import Derived.Laws.CopyRow
set_option linter.unusedSimpArgs false
set_option linter.unusedVariables false
set_option maxRecDepth 100000
set_option maxHeartbeats 64000000
namespace Go.Proofs.YtgamccijegollaaGreatDoor.agS
open Go.RowKit Base Dp acj L6
def Fz (n:Nat):UInt8:=if n<10 then UInt8.ofNat (48+n)else UInt8.ofNat (87+n)
theorem adL (k:Nat) (h:k<(⟨#[48,49,50,51,52,53,54,55,56,57,97,98,99,100,101,102]⟩:ByteArray).size):(⟨#[48,49,50,51,52,53,54,55,56,57,97,98,99,100,101,102]⟩:ByteArray)[k]'h=Fz k:=by
 have h':k<16:=h
 have hcase:k=0∨k=1∨k=2∨k=3∨k=4∨k=5∨k=6∨k=7∨k=8∨k=9∨k=10∨k=11∨k=12∨k=13∨k=14∨k=15:=by omega
 rcases hcase with rfl|rfl|rfl|rfl|rfl|rfl|rfl|rfl|rfl|rfl|rfl|rfl|rfl|rfl|rfl|rfl<;>rfl
def Kz (k c:Nat):Nat:=if k=6 then c%16+64 else if k=8 then c%64+128 else c
def piece (k c:Nat):List UInt8:=(if k=4∨k=6∨k=8∨k=10 then[45]else[])++[Fz (Kz k c / 16),Fz (Kz k c%16)]
def nm (f:Nat→UInt8):Nat→List UInt8
 |0=>[]
 |k+1=>nm f k++piece k (f k).toNat
theorem PE (c:UInt8):bits .and .u8 (c.toNat:Int) 15=(c.toNat:Int)%16:=by
 have H:∀n:Fin 256,bits .and .u8 (n.val:Int) 15=(n.val:Int)%16:=by decide+kernel
 exact H ⟨c.toNat,c.toNat_lt⟩
theorem ap8 (c:UInt8):bits .and .u8 (c.toNat:Int) 63=(c.toNat:Int)%64:=by
 have H:∀n:Fin 256,bits .and .u8 (n.val:Int) 63=(n.val:Int)%64:=by decide+kernel
 exact H ⟨c.toNat,c.toNat_lt⟩
theorem or64 (c:UInt8):bits .or .u8 ((c.toNat:Int)%16) 64=(c.toNat:Int)%16+64:=by
 have H:∀n:Fin 16,bits .or .u8 (n.val:Int) 64=(n.val:Int)+64:=by decide+kernel
 have:=H ⟨c.toNat%16,Nat.mod_lt _ (by decide)⟩
 simpa using this
theorem or128 (c:UInt8):bits .or .u8 ((c.toNat:Int)%64) 128=(c.toNat:Int)%64+128:=by
 have H:∀n:Fin 64,bits .or .u8 (n.val:Int) 128=(n.val:Int)+128:=by decide+kernel
 have:=H ⟨c.toNat%64,Nat.mod_lt _ (by decide)⟩
 simpa using this
theorem agA (a b:Int):∀u ∈ [Value.int .u8 a,Value.int .u8 b],u.oneCell'=true:=by
 intro u hu
 simp at hu
 rcases hu with rfl|rfl<;>rfl
theorem aia (k c:Nat):(piece k c).length≤3:=by unfold piece;split<;>simp
theorem aqm (f:Nat→UInt8) (k:Nat):(nm f k).length≤3*k:=by
 induction k with
 |zero=>simp[nm]
 |succ k ih=>have:=aia k (f k).toNat;rw[nm,List.length_append];omega
theorem piece_at (k c:Nat) (d:UInt8) (hd:d.toNat=Kz k c):piece k c=(if k=4∨k=6∨k=8∨k=10 then[45]else[])++[Fz (d.toNat / 16),Fz (d.toNat%16)]:=by rw[hd];rfl
theorem KY (f : Nat → UInt8) (w : World) : Calls Tryz.prog 93 #[.agg #[.int .u8 ((f 0).toNat : Int), .int .u8 ((f 1).toNat : Int), .int .u8 ((f 2).toNat : Int), .int .u8 ((f 3).toNat : Int), .int .u8 ((f 4).toNat : Int), .int .u8 ((f 5).toNat : Int), .int .u8 ((f 6).toNat : Int), .int .u8 ((f 7).toNat : Int), .int .u8 ((f 8).toNat : Int), .int .u8 ((f 9).toNat : Int), .int .u8 ((f 10).toNat : Int), .int .u8 ((f 11).toNat : Int), .int .u8 ((f 12).toNat : Int), .int .u8 ((f 13).toNat : Int), .int .u8 ((f 14).toNat : Int), .int .u8 ((f 15).toNat : Int)]] w fun e w' => e = .returned (.string (strOf (nm f 16))) ∧ Below w.heap.size w w' := by
 obtain⟨i0,hi,hz0,hz1,hz2⟩:=info_parts iR
 have l6:=(f 6).toNat_lt
 have l8:=(f 8).toNat_lt
 obtain⟨b6,h6⟩:∃b:UInt8,b.toNat=(f 6).toNat%16+64:=⟨UInt8.ofNat ((f 6).toNat%16+64),by simp;omega⟩
 obtain⟨b8,h8⟩:∃b:UInt8,b.toNat=(f 8).toNat%64+128:=⟨UInt8.ofNat ((f 8).toNat%64+128),by simp;omega⟩
 have o1:=PE (f 6)
 have o2:bits .or .u8 (((f 6).toNat:Int)%16) 64=(b6.toNat:Int):=by rw[or64,h6];simp
 have o3:=ap8 (f 8)
 have o4:bits .or .u8 (((f 8).toNat:Int)%64) 128=(b8.toNat:Int):=by rw[or128,h8];simp
 have H6:=hid h6
 have H8:=hid h8
 clear h6 h8 l6 l8
 go_enter Tryz.func93,Tryz.ntmps93
 go_wp2
 clear o1 o2 o3 o4
 generalize hw1:w.alloc _=w1
 have gW:Below w.heap.size w w1:=by rw[←hw1];exact(Below.refl _ _).alloc (Nat.le_refl _) _
 clear hw1
 go_loopw [3,17] (fun v vk wr=>∃k:Nat,k≤16∧vk=.int .i64 (k:Int)∧wr.ownsRow w.heap.size 5 1 v (nm f k).length (ah (nm f k))∧Below w.heap.size w wr) (fun _ vk _=>16 - (intOf vk).toNat)
 case atStart=>exact⟨0,by omega,rfl,World.ownsRow_nil _ _ _ _,gW⟩
 case round=>
  clear gW
  obtain⟨k,hk,rfl,hown,hbel⟩:=hrel
  have hle:=aqm f k
  obtain⟨m,hmm⟩:∃m,m=(nm f k).length:=⟨_,rfl⟩
  rw[←hmm]at hle hown
  have HM:=hid hmm
  clear hmm
  by_cases hlt:k<16
  ·have hcase : k = 0 ∨ k = 1 ∨ k = 2 ∨ k = 3 ∨ k = 4 ∨ k = 5 ∨ k = 6 ∨ k = 7 ∨ k = 8 ∨ k = 9 ∨ k = 10 ∨ k = 11 ∨ k = 12 ∨ k = 13 ∨ k = 14 ∨ k = 15 := by omega
   clear hlt hk
   rcases hcase with rfl|rfl|rfl|rfl|rfl|rfl|rfl|rfl|rfl|rfl|rfl|rfl|rfl|rfl|rfl|rfl
   ·have ix:∀w:World,(Instr.index 61 (.agg #[.int .u8 ((f 0).toNat:Int),.int .u8 ((f 1).toNat:Int),.int .u8 ((f 2).toNat:Int),.int .u8 ((f 3).toNat:Int),.int .u8 ((f 4).toNat:Int),.int .u8 ((f 5).toNat:Int),.int .u8 (b6.toNat:Int),.int .u8 ((f 7).toNat:Int),.int .u8 (b8.toNat:Int),.int .u8 ((f 9).toNat:Int),.int .u8 ((f 10).toNat:Int),.int .u8 ((f 11).toNat:Int),.int .u8 ((f 12).toNat:Int),.int .u8 ((f 13).toNat:Int),.int .u8 ((f 14).toNat:Int),.int .u8 ((f 15).toNat:Int)]) (.int .i64 0)).run Tryz.prog w=.ok (.int .u8 ((f 0).toNat:Int)) w:=fun _=>by kernel_rfl
    have hc0:((f 0).toNat:Int)<256:=by have:=(f 0).toNat_lt;omega
    have HP:Hid (piece 0 (f 0).toNat=[]++[Fz ((f 0).toNat / 16),Fz ((f 0).toNat%16)]):=piece_at 0 (f 0).toNat (f 0) rfl
    go_wp2
    have q1:(0:Int)≤((f 0).toNat:Int) / 16:=by omega
    have q2:((f 0).toNat:Int) / 16<16:=by omega
    have q3:(0:Int)≤((f 0).toNat:Int)%16:=by omega
    have q4:((f 0).toNat:Int)%16<16:=by omega
    have q5:=PE (f 0)
    have q6:∀h,(⟨#[48,49,50,51,52,53,54,55,56,57,97,98,99,100,101,102]⟩:ByteArray)[(((f 0).toNat:Int) / 16).toNat]'h=Fz ((f 0).toNat / 16):=fun h=>adL _ h
    have q7:∀h,(⟨#[48,49,50,51,52,53,54,55,56,57,97,98,99,100,101,102]⟩:ByteArray)[(((f 0).toNat:Int)%16).toNat]'h=Fz ((f 0).toNat%16):=fun h=>adL _ h
    go_region_held3 (fun _=>True) (trivial) ((refine RS (by rfl) _ _ 45 (by rfl) w.heap.size 5 i0 (.int .u8 0) 1 Tryz.underlying45 hi hz0 hz1 hz2 (by rfl) _ m _ (by rfl) hown hbel hbel.size [.int .u8 ((Fz ((f 0).toNat / 16)).toNat:Int),.int .u8 ((Fz ((f 0).toNat%16)).toNat:Int)] 2 (by rfl) (by decide) (by rfl) (agA _ _) (by unfold maxLen;omega) (by omega) ⟨(Below.refl _ _).drew,fun _=>rfl,by simp⟩ ?_;intro v3 w3 hown3 dG))
    all_goals
     clear hown hbel q1 q2 q3 q4 q5 q6 q7
     go_wp2
     go_roundw
     case rel=>exact⟨1,by omega,rfl,by
       rw[show nm f 1=nm f 0++piece 0 (f 0).toNat from rfl,HP.out,List.length_append,aS,←HM.out]
       first|exact hown3|simpa[ah,List.append_assoc,Nat.add_assoc]using hown3,dG⟩
     case measure=>simp[intOf]
   ·have ix:∀w:World,(Instr.index 61 (.agg #[.int .u8 ((f 0).toNat:Int),.int .u8 ((f 1).toNat:Int),.int .u8 ((f 2).toNat:Int),.int .u8 ((f 3).toNat:Int),.int .u8 ((f 4).toNat:Int),.int .u8 ((f 5).toNat:Int),.int .u8 (b6.toNat:Int),.int .u8 ((f 7).toNat:Int),.int .u8 (b8.toNat:Int),.int .u8 ((f 9).toNat:Int),.int .u8 ((f 10).toNat:Int),.int .u8 ((f 11).toNat:Int),.int .u8 ((f 12).toNat:Int),.int .u8 ((f 13).toNat:Int),.int .u8 ((f 14).toNat:Int),.int .u8 ((f 15).toNat:Int)]) (.int .i64 1)).run Tryz.prog w=.ok (.int .u8 ((f 1).toNat:Int)) w:=fun _=>by kernel_rfl
    have hc0:((f 1).toNat:Int)<256:=by have:=(f 1).toNat_lt;omega
    have HP:Hid (piece 1 (f 1).toNat=[]++[Fz ((f 1).toNat / 16),Fz ((f 1).toNat%16)]):=piece_at 1 (f 1).toNat (f 1) rfl
    go_wp2
    have q1:(0:Int)≤((f 1).toNat:Int) / 16:=by omega
    have q2:((f 1).toNat:Int) / 16<16:=by omega
    have q3:(0:Int)≤((f 1).toNat:Int)%16:=by omega
    have q4:((f 1).toNat:Int)%16<16:=by omega
    have q5:=PE (f 1)
    have q6:∀h,(⟨#[48,49,50,51,52,53,54,55,56,57,97,98,99,100,101,102]⟩:ByteArray)[(((f 1).toNat:Int) / 16).toNat]'h=Fz ((f 1).toNat / 16):=fun h=>adL _ h
    have q7:∀h,(⟨#[48,49,50,51,52,53,54,55,56,57,97,98,99,100,101,102]⟩:ByteArray)[(((f 1).toNat:Int)%16).toNat]'h=Fz ((f 1).toNat%16):=fun h=>adL _ h
    go_region_held3 (fun _=>True) (trivial) ((refine RS (by rfl) _ _ 45 (by rfl) w.heap.size 5 i0 (.int .u8 0) 1 Tryz.underlying45 hi hz0 hz1 hz2 (by rfl) _ m _ (by rfl) hown hbel hbel.size [.int .u8 ((Fz ((f 1).toNat / 16)).toNat:Int),.int .u8 ((Fz ((f 1).toNat%16)).toNat:Int)] 2 (by rfl) (by decide) (by rfl) (agA _ _) (by unfold maxLen;omega) (by omega) ⟨(Below.refl _ _).drew,fun _=>rfl,by simp⟩ ?_;intro v3 w3 hown3 dG))
    all_goals
     clear hown hbel q1 q2 q3 q4 q5 q6 q7
     go_wp2
     go_roundw
     case rel=>exact⟨2,by omega,rfl,by
       rw[show nm f 2=nm f 1++piece 1 (f 1).toNat from rfl,HP.out,List.length_append,aS,←HM.out]
       first|exact hown3|simpa[ah,List.append_assoc,Nat.add_assoc]using hown3,dG⟩
     case measure=>simp[intOf]
   ·have ix:∀w:World,(Instr.index 61 (.agg #[.int .u8 ((f 0).toNat:Int),.int .u8 ((f 1).toNat:Int),.int .u8 ((f 2).toNat:Int),.int .u8 ((f 3).toNat:Int),.int .u8 ((f 4).toNat:Int),.int .u8 ((f 5).toNat:Int),.int .u8 (b6.toNat:Int),.int .u8 ((f 7).toNat:Int),.int .u8 (b8.toNat:Int),.int .u8 ((f 9).toNat:Int),.int .u8 ((f 10).toNat:Int),.int .u8 ((f 11).toNat:Int),.int .u8 ((f 12).toNat:Int),.int .u8 ((f 13).toNat:Int),.int .u8 ((f 14).toNat:Int),.int .u8 ((f 15).toNat:Int)]) (.int .i64 2)).run Tryz.prog w=.ok (.int .u8 ((f 2).toNat:Int)) w:=fun _=>by kernel_rfl
    have hc0:((f 2).toNat:Int)<256:=by have:=(f 2).toNat_lt;omega
    have HP:Hid (piece 2 (f 2).toNat=[]++[Fz ((f 2).toNat / 16),Fz ((f 2).toNat%16)]):=piece_at 2 (f 2).toNat (f 2) rfl
    go_wp2
    have q1:(0:Int)≤((f 2).toNat:Int) / 16:=by omega
    have q2:((f 2).toNat:Int) / 16<16:=by omega
    have q3:(0:Int)≤((f 2).toNat:Int)%16:=by omega
    have q4:((f 2).toNat:Int)%16<16:=by omega
    have q5:=PE (f 2)
    have q6:∀h,(⟨#[48,49,50,51,52,53,54,55,56,57,97,98,99,100,101,102]⟩:ByteArray)[(((f 2).toNat:Int) / 16).toNat]'h=Fz ((f 2).toNat / 16):=fun h=>adL _ h
    have q7:∀h,(⟨#[48,49,50,51,52,53,54,55,56,57,97,98,99,100,101,102]⟩:ByteArray)[(((f 2).toNat:Int)%16).toNat]'h=Fz ((f 2).toNat%16):=fun h=>adL _ h
    go_region_held3 (fun _=>True) (trivial) ((refine RS (by rfl) _ _ 45 (by rfl) w.heap.size 5 i0 (.int .u8 0) 1 Tryz.underlying45 hi hz0 hz1 hz2 (by rfl) _ m _ (by rfl) hown hbel hbel.size [.int .u8 ((Fz ((f 2).toNat / 16)).toNat:Int),.int .u8 ((Fz ((f 2).toNat%16)).toNat:Int)] 2 (by rfl) (by decide) (by rfl) (agA _ _) (by unfold maxLen;omega) (by omega) ⟨(Below.refl _ _).drew,fun _=>rfl,by simp⟩ ?_;intro v3 w3 hown3 dG))
    all_goals
     clear hown hbel q1 q2 q3 q4 q5 q6 q7
     go_wp2
     go_roundw
     case rel=>exact⟨3,by omega,rfl,by
       rw[show nm f 3=nm f 2++piece 2 (f 2).toNat from rfl,HP.out,List.length_append,aS,←HM.out]
       first|exact hown3|simpa[ah,List.append_assoc,Nat.add_assoc]using hown3,dG⟩
     case measure=>simp[intOf]
   ·have ix:∀w:World,(Instr.index 61 (.agg #[.int .u8 ((f 0).toNat:Int),.int .u8 ((f 1).toNat:Int),.int .u8 ((f 2).toNat:Int),.int .u8 ((f 3).toNat:Int),.int .u8 ((f 4).toNat:Int),.int .u8 ((f 5).toNat:Int),.int .u8 (b6.toNat:Int),.int .u8 ((f 7).toNat:Int),.int .u8 (b8.toNat:Int),.int .u8 ((f 9).toNat:Int),.int .u8 ((f 10).toNat:Int),.int .u8 ((f 11).toNat:Int),.int .u8 ((f 12).toNat:Int),.int .u8 ((f 13).toNat:Int),.int .u8 ((f 14).toNat:Int),.int .u8 ((f 15).toNat:Int)]) (.int .i64 3)).run Tryz.prog w=.ok (.int .u8 ((f 3).toNat:Int)) w:=fun _=>by kernel_rfl
    have hc0:((f 3).toNat:Int)<256:=by have:=(f 3).toNat_lt;omega
    have HP:Hid (piece 3 (f 3).toNat=[]++[Fz ((f 3).toNat / 16),Fz ((f 3).toNat%16)]):=piece_at 3 (f 3).toNat (f 3) rfl
    go_wp2
    have q1:(0:Int)≤((f 3).toNat:Int) / 16:=by omega
    have q2:((f 3).toNat:Int) / 16<16:=by omega
    have q3:(0:Int)≤((f 3).toNat:Int)%16:=by omega
    have q4:((f 3).toNat:Int)%16<16:=by omega
    have q5:=PE (f 3)
    have q6:∀h,(⟨#[48,49,50,51,52,53,54,55,56,57,97,98,99,100,101,102]⟩:ByteArray)[(((f 3).toNat:Int) / 16).toNat]'h=Fz ((f 3).toNat / 16):=fun h=>adL _ h
    have q7:∀h,(⟨#[48,49,50,51,52,53,54,55,56,57,97,98,99,100,101,102]⟩:ByteArray)[(((f 3).toNat:Int)%16).toNat]'h=Fz ((f 3).toNat%16):=fun h=>adL _ h
    go_region_held3 (fun _=>True) (trivial) ((refine RS (by rfl) _ _ 45 (by rfl) w.heap.size 5 i0 (.int .u8 0) 1 Tryz.underlying45 hi hz0 hz1 hz2 (by rfl) _ m _ (by rfl) hown hbel hbel.size [.int .u8 ((Fz ((f 3).toNat / 16)).toNat:Int),.int .u8 ((Fz ((f 3).toNat%16)).toNat:Int)] 2 (by rfl) (by decide) (by rfl) (agA _ _) (by unfold maxLen;omega) (by omega) ⟨(Below.refl _ _).drew,fun _=>rfl,by simp⟩ ?_;intro v3 w3 hown3 dG))
    all_goals
     clear hown hbel q1 q2 q3 q4 q5 q6 q7
     go_wp2
     go_roundw
     case rel=>exact⟨4,by omega,rfl,by
       rw[show nm f 4=nm f 3++piece 3 (f 3).toNat from rfl,HP.out,List.length_append,aS,←HM.out]
       first|exact hown3|simpa[ah,List.append_assoc,Nat.add_assoc]using hown3,dG⟩
     case measure=>simp[intOf]
   ·have ix:∀w:World,(Instr.index 61 (.agg #[.int .u8 ((f 0).toNat:Int),.int .u8 ((f 1).toNat:Int),.int .u8 ((f 2).toNat:Int),.int .u8 ((f 3).toNat:Int),.int .u8 ((f 4).toNat:Int),.int .u8 ((f 5).toNat:Int),.int .u8 (b6.toNat:Int),.int .u8 ((f 7).toNat:Int),.int .u8 (b8.toNat:Int),.int .u8 ((f 9).toNat:Int),.int .u8 ((f 10).toNat:Int),.int .u8 ((f 11).toNat:Int),.int .u8 ((f 12).toNat:Int),.int .u8 ((f 13).toNat:Int),.int .u8 ((f 14).toNat:Int),.int .u8 ((f 15).toNat:Int)]) (.int .i64 4)).run Tryz.prog w=.ok (.int .u8 ((f 4).toNat:Int)) w:=fun _=>by kernel_rfl
    have hc0:((f 4).toNat:Int)<256:=by have:=(f 4).toNat_lt;omega
    have HP:Hid (piece 4 (f 4).toNat=[45]++[Fz ((f 4).toNat / 16),Fz ((f 4).toNat%16)]):=piece_at 4 (f 4).toNat (f 4) rfl
    go_wp2_with (at_builtin;refine aQ rfl _ _ 45 rfl w.heap.size 5 i0 (.int .u8 0) 1 Tryz.underlying45 hi hz0 hz1 hz2 rfl _ m _ rfl hown hbel hbel.size [.int .u8 45] 1 rfl rfl (by intro u hu;simp at hu;subst hu;rfl) (by unfold maxLen;omega) (by omega) ?_)
    intro v' w2 hown2 dZ
    clear hown hbel
    go_wp2
    have q1:(0:Int)≤((f 4).toNat:Int) / 16:=by omega
    have q2:((f 4).toNat:Int) / 16<16:=by omega
    have q3:(0:Int)≤((f 4).toNat:Int)%16:=by omega
    have q4:((f 4).toNat:Int)%16<16:=by omega
    have q5:=PE (f 4)
    have q6:∀h,(⟨#[48,49,50,51,52,53,54,55,56,57,97,98,99,100,101,102]⟩:ByteArray)[(((f 4).toNat:Int) / 16).toNat]'h=Fz ((f 4).toNat / 16):=fun h=>adL _ h
    have q7:∀h,(⟨#[48,49,50,51,52,53,54,55,56,57,97,98,99,100,101,102]⟩:ByteArray)[(((f 4).toNat:Int)%16).toNat]'h=Fz ((f 4).toNat%16):=fun h=>adL _ h
    go_region_held3 (fun _=>True) (trivial) ((refine RS (by rfl) _ _ 45 (by rfl) w.heap.size 5 i0 (.int .u8 0) 1 Tryz.underlying45 hi hz0 hz1 hz2 (by rfl) _ (m+1) _ (by rfl) hown2 dZ dZ.size [.int .u8 ((Fz ((f 4).toNat / 16)).toNat:Int),.int .u8 ((Fz ((f 4).toNat%16)).toNat:Int)] 2 (by rfl) (by decide) (by rfl) (agA _ _) (by unfold maxLen;omega) (by omega) ⟨(Below.refl _ _).drew,fun _=>rfl,by simp⟩ ?_;intro v3 w3 hown3 dG))
    all_goals
     clear hown2 dZ q1 q2 q3 q4 q5 q6 q7
     go_wp2
     go_roundw
     case rel=>exact⟨5,by omega,rfl,by
       rw[show nm f 5=nm f 4++piece 4 (f 4).toNat from rfl,HP.out,List.length_append,aS,←HM.out]
       first|exact hown3|simpa[ah,List.append_assoc,Nat.add_assoc]using hown3,dG⟩
     case measure=>simp[intOf]
   ·have ix:∀w:World,(Instr.index 61 (.agg #[.int .u8 ((f 0).toNat:Int),.int .u8 ((f 1).toNat:Int),.int .u8 ((f 2).toNat:Int),.int .u8 ((f 3).toNat:Int),.int .u8 ((f 4).toNat:Int),.int .u8 ((f 5).toNat:Int),.int .u8 (b6.toNat:Int),.int .u8 ((f 7).toNat:Int),.int .u8 (b8.toNat:Int),.int .u8 ((f 9).toNat:Int),.int .u8 ((f 10).toNat:Int),.int .u8 ((f 11).toNat:Int),.int .u8 ((f 12).toNat:Int),.int .u8 ((f 13).toNat:Int),.int .u8 ((f 14).toNat:Int),.int .u8 ((f 15).toNat:Int)]) (.int .i64 5)).run Tryz.prog w=.ok (.int .u8 ((f 5).toNat:Int)) w:=fun _=>by kernel_rfl
    have hc0:((f 5).toNat:Int)<256:=by have:=(f 5).toNat_lt;omega
    have HP:Hid (piece 5 (f 5).toNat=[]++[Fz ((f 5).toNat / 16),Fz ((f 5).toNat%16)]):=piece_at 5 (f 5).toNat (f 5) rfl
    go_wp2
    have q1:(0:Int)≤((f 5).toNat:Int) / 16:=by omega
    have q2:((f 5).toNat:Int) / 16<16:=by omega
    have q3:(0:Int)≤((f 5).toNat:Int)%16:=by omega
    have q4:((f 5).toNat:Int)%16<16:=by omega
    have q5:=PE (f 5)
    have q6:∀h,(⟨#[48,49,50,51,52,53,54,55,56,57,97,98,99,100,101,102]⟩:ByteArray)[(((f 5).toNat:Int) / 16).toNat]'h=Fz ((f 5).toNat / 16):=fun h=>adL _ h
    have q7:∀h,(⟨#[48,49,50,51,52,53,54,55,56,57,97,98,99,100,101,102]⟩:ByteArray)[(((f 5).toNat:Int)%16).toNat]'h=Fz ((f 5).toNat%16):=fun h=>adL _ h
    go_region_held3 (fun _=>True) (trivial) ((refine RS (by rfl) _ _ 45 (by rfl) w.heap.size 5 i0 (.int .u8 0) 1 Tryz.underlying45 hi hz0 hz1 hz2 (by rfl) _ m _ (by rfl) hown hbel hbel.size [.int .u8 ((Fz ((f 5).toNat / 16)).toNat:Int),.int .u8 ((Fz ((f 5).toNat%16)).toNat:Int)] 2 (by rfl) (by decide) (by rfl) (agA _ _) (by unfold maxLen;omega) (by omega) ⟨(Below.refl _ _).drew,fun _=>rfl,by simp⟩ ?_;intro v3 w3 hown3 dG))
    all_goals
     clear hown hbel q1 q2 q3 q4 q5 q6 q7
     go_wp2
     go_roundw
     case rel=>exact⟨6,by omega,rfl,by
       rw[show nm f 6=nm f 5++piece 5 (f 5).toNat from rfl,HP.out,List.length_append,aS,←HM.out]
       first|exact hown3|simpa[ah,List.append_assoc,Nat.add_assoc]using hown3,dG⟩
     case measure=>simp[intOf]
   ·have ix:∀w:World,(Instr.index 61 (.agg #[.int .u8 ((f 0).toNat:Int),.int .u8 ((f 1).toNat:Int),.int .u8 ((f 2).toNat:Int),.int .u8 ((f 3).toNat:Int),.int .u8 ((f 4).toNat:Int),.int .u8 ((f 5).toNat:Int),.int .u8 (b6.toNat:Int),.int .u8 ((f 7).toNat:Int),.int .u8 (b8.toNat:Int),.int .u8 ((f 9).toNat:Int),.int .u8 ((f 10).toNat:Int),.int .u8 ((f 11).toNat:Int),.int .u8 ((f 12).toNat:Int),.int .u8 ((f 13).toNat:Int),.int .u8 ((f 14).toNat:Int),.int .u8 ((f 15).toNat:Int)]) (.int .i64 6)).run Tryz.prog w=.ok (.int .u8 (b6.toNat:Int)) w:=fun _=>by kernel_rfl
    have hc0:(b6.toNat:Int)<256:=by have:=b6.toNat_lt;omega
    have HP:Hid (piece 6 (f 6).toNat=[45]++[Fz (b6.toNat / 16),Fz (b6.toNat%16)]):=piece_at 6 (f 6).toNat b6 H6.out
    go_wp2_with (at_builtin;refine aQ rfl _ _ 45 rfl w.heap.size 5 i0 (.int .u8 0) 1 Tryz.underlying45 hi hz0 hz1 hz2 rfl _ m _ rfl hown hbel hbel.size [.int .u8 45] 1 rfl rfl (by intro u hu;simp at hu;subst hu;rfl) (by unfold maxLen;omega) (by omega) ?_)
    intro v' w2 hown2 dZ
    clear hown hbel
    go_wp2
    have q1:(0:Int)≤(b6.toNat:Int) / 16:=by omega
    have q2:(b6.toNat:Int) / 16<16:=by omega
    have q3:(0:Int)≤(b6.toNat:Int)%16:=by omega
    have q4:(b6.toNat:Int)%16<16:=by omega
    have q5:=PE b6
    have q6:∀h,(⟨#[48,49,50,51,52,53,54,55,56,57,97,98,99,100,101,102]⟩:ByteArray)[((b6.toNat:Int) / 16).toNat]'h=Fz (b6.toNat / 16):=fun h=>adL _ h
    have q7:∀h,(⟨#[48,49,50,51,52,53,54,55,56,57,97,98,99,100,101,102]⟩:ByteArray)[((b6.toNat:Int)%16).toNat]'h=Fz (b6.toNat%16):=fun h=>adL _ h
    go_region_held3 (fun _=>True) (trivial) ((refine RS (by rfl) _ _ 45 (by rfl) w.heap.size 5 i0 (.int .u8 0) 1 Tryz.underlying45 hi hz0 hz1 hz2 (by rfl) _ (m+1) _ (by rfl) hown2 dZ dZ.size [.int .u8 ((Fz (b6.toNat / 16)).toNat:Int),.int .u8 ((Fz (b6.toNat%16)).toNat:Int)] 2 (by rfl) (by decide) (by rfl) (agA _ _) (by unfold maxLen;omega) (by omega) ⟨(Below.refl _ _).drew,fun _=>rfl,by simp⟩ ?_;intro v3 w3 hown3 dG))
    all_goals
     clear hown2 dZ q1 q2 q3 q4 q5 q6 q7
     go_wp2
     go_roundw
     case rel=>exact⟨7,by omega,rfl,by
       rw[show nm f 7=nm f 6++piece 6 (f 6).toNat from rfl,HP.out,List.length_append,aS,←HM.out]
       first|exact hown3|simpa[ah,List.append_assoc,Nat.add_assoc]using hown3,dG⟩
     case measure=>simp[intOf]
   ·have ix:∀w:World,(Instr.index 61 (.agg #[.int .u8 ((f 0).toNat:Int),.int .u8 ((f 1).toNat:Int),.int .u8 ((f 2).toNat:Int),.int .u8 ((f 3).toNat:Int),.int .u8 ((f 4).toNat:Int),.int .u8 ((f 5).toNat:Int),.int .u8 (b6.toNat:Int),.int .u8 ((f 7).toNat:Int),.int .u8 (b8.toNat:Int),.int .u8 ((f 9).toNat:Int),.int .u8 ((f 10).toNat:Int),.int .u8 ((f 11).toNat:Int),.int .u8 ((f 12).toNat:Int),.int .u8 ((f 13).toNat:Int),.int .u8 ((f 14).toNat:Int),.int .u8 ((f 15).toNat:Int)]) (.int .i64 7)).run Tryz.prog w=.ok (.int .u8 ((f 7).toNat:Int)) w:=fun _=>by kernel_rfl
    have hc0:((f 7).toNat:Int)<256:=by have:=(f 7).toNat_lt;omega
    have HP:Hid (piece 7 (f 7).toNat=[]++[Fz ((f 7).toNat / 16),Fz ((f 7).toNat%16)]):=piece_at 7 (f 7).toNat (f 7) rfl
    go_wp2
    have q1:(0:Int)≤((f 7).toNat:Int) / 16:=by omega
    have q2:((f 7).toNat:Int) / 16<16:=by omega
    have q3:(0:Int)≤((f 7).toNat:Int)%16:=by omega
    have q4:((f 7).toNat:Int)%16<16:=by omega
    have q5:=PE (f 7)
    have q6:∀h,(⟨#[48,49,50,51,52,53,54,55,56,57,97,98,99,100,101,102]⟩:ByteArray)[(((f 7).toNat:Int) / 16).toNat]'h=Fz ((f 7).toNat / 16):=fun h=>adL _ h
    have q7:∀h,(⟨#[48,49,50,51,52,53,54,55,56,57,97,98,99,100,101,102]⟩:ByteArray)[(((f 7).toNat:Int)%16).toNat]'h=Fz ((f 7).toNat%16):=fun h=>adL _ h
    go_region_held3 (fun _=>True) (trivial) ((refine RS (by rfl) _ _ 45 (by rfl) w.heap.size 5 i0 (.int .u8 0) 1 Tryz.underlying45 hi hz0 hz1 hz2 (by rfl) _ m _ (by rfl) hown hbel hbel.size [.int .u8 ((Fz ((f 7).toNat / 16)).toNat:Int),.int .u8 ((Fz ((f 7).toNat%16)).toNat:Int)] 2 (by rfl) (by decide) (by rfl) (agA _ _) (by unfold maxLen;omega) (by omega) ⟨(Below.refl _ _).drew,fun _=>rfl,by simp⟩ ?_;intro v3 w3 hown3 dG))
    all_goals
     clear hown hbel q1 q2 q3 q4 q5 q6 q7
     go_wp2
     go_roundw
     case rel=>exact⟨8,by omega,rfl,by
       rw[show nm f 8=nm f 7++piece 7 (f 7).toNat from rfl,HP.out,List.length_append,aS,←HM.out]
       first|exact hown3|simpa[ah,List.append_assoc,Nat.add_assoc]using hown3,dG⟩
     case measure=>simp[intOf]
   ·have ix:∀w:World,(Instr.index 61 (.agg #[.int .u8 ((f 0).toNat:Int),.int .u8 ((f 1).toNat:Int),.int .u8 ((f 2).toNat:Int),.int .u8 ((f 3).toNat:Int),.int .u8 ((f 4).toNat:Int),.int .u8 ((f 5).toNat:Int),.int .u8 (b6.toNat:Int),.int .u8 ((f 7).toNat:Int),.int .u8 (b8.toNat:Int),.int .u8 ((f 9).toNat:Int),.int .u8 ((f 10).toNat:Int),.int .u8 ((f 11).toNat:Int),.int .u8 ((f 12).toNat:Int),.int .u8 ((f 13).toNat:Int),.int .u8 ((f 14).toNat:Int),.int .u8 ((f 15).toNat:Int)]) (.int .i64 8)).run Tryz.prog w=.ok (.int .u8 (b8.toNat:Int)) w:=fun _=>by kernel_rfl
    have hc0:(b8.toNat:Int)<256:=by have:=b8.toNat_lt;omega
    have HP:Hid (piece 8 (f 8).toNat=[45]++[Fz (b8.toNat / 16),Fz (b8.toNat%16)]):=piece_at 8 (f 8).toNat b8 H8.out
    go_wp2_with (at_builtin;refine aQ rfl _ _ 45 rfl w.heap.size 5 i0 (.int .u8 0) 1 Tryz.underlying45 hi hz0 hz1 hz2 rfl _ m _ rfl hown hbel hbel.size [.int .u8 45] 1 rfl rfl (by intro u hu;simp at hu;subst hu;rfl) (by unfold maxLen;omega) (by omega) ?_)
    intro v' w2 hown2 dZ
    clear hown hbel
    go_wp2
    have q1:(0:Int)≤(b8.toNat:Int) / 16:=by omega
    have q2:(b8.toNat:Int) / 16<16:=by omega
    have q3:(0:Int)≤(b8.toNat:Int)%16:=by omega
    have q4:(b8.toNat:Int)%16<16:=by omega
    have q5:=PE b8
    have q6:∀h,(⟨#[48,49,50,51,52,53,54,55,56,57,97,98,99,100,101,102]⟩:ByteArray)[((b8.toNat:Int) / 16).toNat]'h=Fz (b8.toNat / 16):=fun h=>adL _ h
    have q7:∀h,(⟨#[48,49,50,51,52,53,54,55,56,57,97,98,99,100,101,102]⟩:ByteArray)[((b8.toNat:Int)%16).toNat]'h=Fz (b8.toNat%16):=fun h=>adL _ h
    go_region_held3 (fun _=>True) (trivial) ((refine RS (by rfl) _ _ 45 (by rfl) w.heap.size 5 i0 (.int .u8 0) 1 Tryz.underlying45 hi hz0 hz1 hz2 (by rfl) _ (m+1) _ (by rfl) hown2 dZ dZ.size [.int .u8 ((Fz (b8.toNat / 16)).toNat:Int),.int .u8 ((Fz (b8.toNat%16)).toNat:Int)] 2 (by rfl) (by decide) (by rfl) (agA _ _) (by unfold maxLen;omega) (by omega) ⟨(Below.refl _ _).drew,fun _=>rfl,by simp⟩ ?_;intro v3 w3 hown3 dG))
    all_goals
     clear hown2 dZ q1 q2 q3 q4 q5 q6 q7
     go_wp2
     go_roundw
     case rel=>exact⟨9,by omega,rfl,by
       rw[show nm f 9=nm f 8++piece 8 (f 8).toNat from rfl,HP.out,List.length_append,aS,←HM.out]
       first|exact hown3|simpa[ah,List.append_assoc,Nat.add_assoc]using hown3,dG⟩
     case measure=>simp[intOf]
   ·have ix:∀w:World,(Instr.index 61 (.agg #[.int .u8 ((f 0).toNat:Int),.int .u8 ((f 1).toNat:Int),.int .u8 ((f 2).toNat:Int),.int .u8 ((f 3).toNat:Int),.int .u8 ((f 4).toNat:Int),.int .u8 ((f 5).toNat:Int),.int .u8 (b6.toNat:Int),.int .u8 ((f 7).toNat:Int),.int .u8 (b8.toNat:Int),.int .u8 ((f 9).toNat:Int),.int .u8 ((f 10).toNat:Int),.int .u8 ((f 11).toNat:Int),.int .u8 ((f 12).toNat:Int),.int .u8 ((f 13).toNat:Int),.int .u8 ((f 14).toNat:Int),.int .u8 ((f 15).toNat:Int)]) (.int .i64 9)).run Tryz.prog w=.ok (.int .u8 ((f 9).toNat:Int)) w:=fun _=>by kernel_rfl
    have hc0:((f 9).toNat:Int)<256:=by have:=(f 9).toNat_lt;omega
    have HP:Hid (piece 9 (f 9).toNat=[]++[Fz ((f 9).toNat / 16),Fz ((f 9).toNat%16)]):=piece_at 9 (f 9).toNat (f 9) rfl
    go_wp2
    have q1:(0:Int)≤((f 9).toNat:Int) / 16:=by omega
    have q2:((f 9).toNat:Int) / 16<16:=by omega
    have q3:(0:Int)≤((f 9).toNat:Int)%16:=by omega
    have q4:((f 9).toNat:Int)%16<16:=by omega
    have q5:=PE (f 9)
    have q6:∀h,(⟨#[48,49,50,51,52,53,54,55,56,57,97,98,99,100,101,102]⟩:ByteArray)[(((f 9).toNat:Int) / 16).toNat]'h=Fz ((f 9).toNat / 16):=fun h=>adL _ h
    have q7:∀h,(⟨#[48,49,50,51,52,53,54,55,56,57,97,98,99,100,101,102]⟩:ByteArray)[(((f 9).toNat:Int)%16).toNat]'h=Fz ((f 9).toNat%16):=fun h=>adL _ h
    go_region_held3 (fun _=>True) (trivial) ((refine RS (by rfl) _ _ 45 (by rfl) w.heap.size 5 i0 (.int .u8 0) 1 Tryz.underlying45 hi hz0 hz1 hz2 (by rfl) _ m _ (by rfl) hown hbel hbel.size [.int .u8 ((Fz ((f 9).toNat / 16)).toNat:Int),.int .u8 ((Fz ((f 9).toNat%16)).toNat:Int)] 2 (by rfl) (by decide) (by rfl) (agA _ _) (by unfold maxLen;omega) (by omega) ⟨(Below.refl _ _).drew,fun _=>rfl,by simp⟩ ?_;intro v3 w3 hown3 dG))
    all_goals
     clear hown hbel q1 q2 q3 q4 q5 q6 q7
     go_wp2
     go_roundw
     case rel=>exact⟨10,by omega,rfl,by
       rw[show nm f 10=nm f 9++piece 9 (f 9).toNat from rfl,HP.out,List.length_append,aS,←HM.out]
       first|exact hown3|simpa[ah,List.append_assoc,Nat.add_assoc]using hown3,dG⟩
     case measure=>simp[intOf]
   ·have ix:∀w:World,(Instr.index 61 (.agg #[.int .u8 ((f 0).toNat:Int),.int .u8 ((f 1).toNat:Int),.int .u8 ((f 2).toNat:Int),.int .u8 ((f 3).toNat:Int),.int .u8 ((f 4).toNat:Int),.int .u8 ((f 5).toNat:Int),.int .u8 (b6.toNat:Int),.int .u8 ((f 7).toNat:Int),.int .u8 (b8.toNat:Int),.int .u8 ((f 9).toNat:Int),.int .u8 ((f 10).toNat:Int),.int .u8 ((f 11).toNat:Int),.int .u8 ((f 12).toNat:Int),.int .u8 ((f 13).toNat:Int),.int .u8 ((f 14).toNat:Int),.int .u8 ((f 15).toNat:Int)]) (.int .i64 10)).run Tryz.prog w=.ok (.int .u8 ((f 10).toNat:Int)) w:=fun _=>by kernel_rfl
    have hc0:((f 10).toNat:Int)<256:=by have:=(f 10).toNat_lt;omega
    have HP:Hid (piece 10 (f 10).toNat=[45]++[Fz ((f 10).toNat / 16),Fz ((f 10).toNat%16)]):=piece_at 10 (f 10).toNat (f 10) rfl
    go_wp2_with (at_builtin;refine aQ rfl _ _ 45 rfl w.heap.size 5 i0 (.int .u8 0) 1 Tryz.underlying45 hi hz0 hz1 hz2 rfl _ m _ rfl hown hbel hbel.size [.int .u8 45] 1 rfl rfl (by intro u hu;simp at hu;subst hu;rfl) (by unfold maxLen;omega) (by omega) ?_)
    intro v' w2 hown2 dZ
    clear hown hbel
    go_wp2
    have q1:(0:Int)≤((f 10).toNat:Int) / 16:=by omega
    have q2:((f 10).toNat:Int) / 16<16:=by omega
    have q3:(0:Int)≤((f 10).toNat:Int)%16:=by omega
    have q4:((f 10).toNat:Int)%16<16:=by omega
    have q5:=PE (f 10)
    have q6:∀h,(⟨#[48,49,50,51,52,53,54,55,56,57,97,98,99,100,101,102]⟩:ByteArray)[(((f 10).toNat:Int) / 16).toNat]'h=Fz ((f 10).toNat / 16):=fun h=>adL _ h
    have q7:∀h,(⟨#[48,49,50,51,52,53,54,55,56,57,97,98,99,100,101,102]⟩:ByteArray)[(((f 10).toNat:Int)%16).toNat]'h=Fz ((f 10).toNat%16):=fun h=>adL _ h
    go_region_held3 (fun _=>True) (trivial) ((refine RS (by rfl) _ _ 45 (by rfl) w.heap.size 5 i0 (.int .u8 0) 1 Tryz.underlying45 hi hz0 hz1 hz2 (by rfl) _ (m+1) _ (by rfl) hown2 dZ dZ.size [.int .u8 ((Fz ((f 10).toNat / 16)).toNat:Int),.int .u8 ((Fz ((f 10).toNat%16)).toNat:Int)] 2 (by rfl) (by decide) (by rfl) (agA _ _) (by unfold maxLen;omega) (by omega) ⟨(Below.refl _ _).drew,fun _=>rfl,by simp⟩ ?_;intro v3 w3 hown3 dG))
    all_goals
     clear hown2 dZ q1 q2 q3 q4 q5 q6 q7
     go_wp2
     go_roundw
     case rel=>exact⟨11,by omega,rfl,by
       rw[show nm f 11=nm f 10++piece 10 (f 10).toNat from rfl,HP.out,List.length_append,aS,←HM.out]
       first|exact hown3|simpa[ah,List.append_assoc,Nat.add_assoc]using hown3,dG⟩
     case measure=>simp[intOf]
   ·have ix:∀w:World,(Instr.index 61 (.agg #[.int .u8 ((f 0).toNat:Int),.int .u8 ((f 1).toNat:Int),.int .u8 ((f 2).toNat:Int),.int .u8 ((f 3).toNat:Int),.int .u8 ((f 4).toNat:Int),.int .u8 ((f 5).toNat:Int),.int .u8 (b6.toNat:Int),.int .u8 ((f 7).toNat:Int),.int .u8 (b8.toNat:Int),.int .u8 ((f 9).toNat:Int),.int .u8 ((f 10).toNat:Int),.int .u8 ((f 11).toNat:Int),.int .u8 ((f 12).toNat:Int),.int .u8 ((f 13).toNat:Int),.int .u8 ((f 14).toNat:Int),.int .u8 ((f 15).toNat:Int)]) (.int .i64 11)).run Tryz.prog w=.ok (.int .u8 ((f 11).toNat:Int)) w:=fun _=>by kernel_rfl
    have hc0:((f 11).toNat:Int)<256:=by have:=(f 11).toNat_lt;omega
    have HP:Hid (piece 11 (f 11).toNat=[]++[Fz ((f 11).toNat / 16),Fz ((f 11).toNat%16)]):=piece_at 11 (f 11).toNat (f 11) rfl
    go_wp2
    have q1:(0:Int)≤((f 11).toNat:Int) / 16:=by omega
    have q2:((f 11).toNat:Int) / 16<16:=by omega
    have q3:(0:Int)≤((f 11).toNat:Int)%16:=by omega
    have q4:((f 11).toNat:Int)%16<16:=by omega
    have q5:=PE (f 11)
    have q6:∀h,(⟨#[48,49,50,51,52,53,54,55,56,57,97,98,99,100,101,102]⟩:ByteArray)[(((f 11).toNat:Int) / 16).toNat]'h=Fz ((f 11).toNat / 16):=fun h=>adL _ h
    have q7:∀h,(⟨#[48,49,50,51,52,53,54,55,56,57,97,98,99,100,101,102]⟩:ByteArray)[(((f 11).toNat:Int)%16).toNat]'h=Fz ((f 11).toNat%16):=fun h=>adL _ h
    go_region_held3 (fun _=>True) (trivial) ((refine RS (by rfl) _ _ 45 (by rfl) w.heap.size 5 i0 (.int .u8 0) 1 Tryz.underlying45 hi hz0 hz1 hz2 (by rfl) _ m _ (by rfl) hown hbel hbel.size [.int .u8 ((Fz ((f 11).toNat / 16)).toNat:Int),.int .u8 ((Fz ((f 11).toNat%16)).toNat:Int)] 2 (by rfl) (by decide) (by rfl) (agA _ _) (by unfold maxLen;omega) (by omega) ⟨(Below.refl _ _).drew,fun _=>rfl,by simp⟩ ?_;intro v3 w3 hown3 dG))
    all_goals
     clear hown hbel q1 q2 q3 q4 q5 q6 q7
     go_wp2
     go_roundw
     case rel=>exact⟨12,by omega,rfl,by
       rw[show nm f 12=nm f 11++piece 11 (f 11).toNat from rfl,HP.out,List.length_append,aS,←HM.out]
       first|exact hown3|simpa[ah,List.append_assoc,Nat.add_assoc]using hown3,dG⟩
     case measure=>simp[intOf]
   ·have ix:∀w:World,(Instr.index 61 (.agg #[.int .u8 ((f 0).toNat:Int),.int .u8 ((f 1).toNat:Int),.int .u8 ((f 2).toNat:Int),.int .u8 ((f 3).toNat:Int),.int .u8 ((f 4).toNat:Int),.int .u8 ((f 5).toNat:Int),.int .u8 (b6.toNat:Int),.int .u8 ((f 7).toNat:Int),.int .u8 (b8.toNat:Int),.int .u8 ((f 9).toNat:Int),.int .u8 ((f 10).toNat:Int),.int .u8 ((f 11).toNat:Int),.int .u8 ((f 12).toNat:Int),.int .u8 ((f 13).toNat:Int),.int .u8 ((f 14).toNat:Int),.int .u8 ((f 15).toNat:Int)]) (.int .i64 12)).run Tryz.prog w=.ok (.int .u8 ((f 12).toNat:Int)) w:=fun _=>by kernel_rfl
    have hc0:((f 12).toNat:Int)<256:=by have:=(f 12).toNat_lt;omega
    have HP:Hid (piece 12 (f 12).toNat=[]++[Fz ((f 12).toNat / 16),Fz ((f 12).toNat%16)]):=piece_at 12 (f 12).toNat (f 12) rfl
    go_wp2
    have q1:(0:Int)≤((f 12).toNat:Int) / 16:=by omega
    have q2:((f 12).toNat:Int) / 16<16:=by omega
    have q3:(0:Int)≤((f 12).toNat:Int)%16:=by omega
    have q4:((f 12).toNat:Int)%16<16:=by omega
    have q5:=PE (f 12)
    have q6:∀h,(⟨#[48,49,50,51,52,53,54,55,56,57,97,98,99,100,101,102]⟩:ByteArray)[(((f 12).toNat:Int) / 16).toNat]'h=Fz ((f 12).toNat / 16):=fun h=>adL _ h
    have q7:∀h,(⟨#[48,49,50,51,52,53,54,55,56,57,97,98,99,100,101,102]⟩:ByteArray)[(((f 12).toNat:Int)%16).toNat]'h=Fz ((f 12).toNat%16):=fun h=>adL _ h
    go_region_held3 (fun _=>True) (trivial) ((refine RS (by rfl) _ _ 45 (by rfl) w.heap.size 5 i0 (.int .u8 0) 1 Tryz.underlying45 hi hz0 hz1 hz2 (by rfl) _ m _ (by rfl) hown hbel hbel.size [.int .u8 ((Fz ((f 12).toNat / 16)).toNat:Int),.int .u8 ((Fz ((f 12).toNat%16)).toNat:Int)] 2 (by rfl) (by decide) (by rfl) (agA _ _) (by unfold maxLen;omega) (by omega) ⟨(Below.refl _ _).drew,fun _=>rfl,by simp⟩ ?_;intro v3 w3 hown3 dG))
    all_goals
     clear hown hbel q1 q2 q3 q4 q5 q6 q7
     go_wp2
     go_roundw
     case rel=>exact⟨13,by omega,rfl,by
       rw[show nm f 13=nm f 12++piece 12 (f 12).toNat from rfl,HP.out,List.length_append,aS,←HM.out]
       first|exact hown3|simpa[ah,List.append_assoc,Nat.add_assoc]using hown3,dG⟩
     case measure=>simp[intOf]
   ·have ix:∀w:World,(Instr.index 61 (.agg #[.int .u8 ((f 0).toNat:Int),.int .u8 ((f 1).toNat:Int),.int .u8 ((f 2).toNat:Int),.int .u8 ((f 3).toNat:Int),.int .u8 ((f 4).toNat:Int),.int .u8 ((f 5).toNat:Int),.int .u8 (b6.toNat:Int),.int .u8 ((f 7).toNat:Int),.int .u8 (b8.toNat:Int),.int .u8 ((f 9).toNat:Int),.int .u8 ((f 10).toNat:Int),.int .u8 ((f 11).toNat:Int),.int .u8 ((f 12).toNat:Int),.int .u8 ((f 13).toNat:Int),.int .u8 ((f 14).toNat:Int),.int .u8 ((f 15).toNat:Int)]) (.int .i64 13)).run Tryz.prog w=.ok (.int .u8 ((f 13).toNat:Int)) w:=fun _=>by kernel_rfl
    have hc0:((f 13).toNat:Int)<256:=by have:=(f 13).toNat_lt;omega
    have HP:Hid (piece 13 (f 13).toNat=[]++[Fz ((f 13).toNat / 16),Fz ((f 13).toNat%16)]):=piece_at 13 (f 13).toNat (f 13) rfl
    go_wp2
    have q1:(0:Int)≤((f 13).toNat:Int) / 16:=by omega
    have q2:((f 13).toNat:Int) / 16<16:=by omega
    have q3:(0:Int)≤((f 13).toNat:Int)%16:=by omega
    have q4:((f 13).toNat:Int)%16<16:=by omega
    have q5:=PE (f 13)
    have q6:∀h,(⟨#[48,49,50,51,52,53,54,55,56,57,97,98,99,100,101,102]⟩:ByteArray)[(((f 13).toNat:Int) / 16).toNat]'h=Fz ((f 13).toNat / 16):=fun h=>adL _ h
    have q7:∀h,(⟨#[48,49,50,51,52,53,54,55,56,57,97,98,99,100,101,102]⟩:ByteArray)[(((f 13).toNat:Int)%16).toNat]'h=Fz ((f 13).toNat%16):=fun h=>adL _ h
    go_region_held3 (fun _=>True) (trivial) ((refine RS (by rfl) _ _ 45 (by rfl) w.heap.size 5 i0 (.int .u8 0) 1 Tryz.underlying45 hi hz0 hz1 hz2 (by rfl) _ m _ (by rfl) hown hbel hbel.size [.int .u8 ((Fz ((f 13).toNat / 16)).toNat:Int),.int .u8 ((Fz ((f 13).toNat%16)).toNat:Int)] 2 (by rfl) (by decide) (by rfl) (agA _ _) (by unfold maxLen;omega) (by omega) ⟨(Below.refl _ _).drew,fun _=>rfl,by simp⟩ ?_;intro v3 w3 hown3 dG))
    all_goals
     clear hown hbel q1 q2 q3 q4 q5 q6 q7
     go_wp2
     go_roundw
     case rel=>exact⟨14,by omega,rfl,by
       rw[show nm f 14=nm f 13++piece 13 (f 13).toNat from rfl,HP.out,List.length_append,aS,←HM.out]
       first|exact hown3|simpa[ah,List.append_assoc,Nat.add_assoc]using hown3,dG⟩
     case measure=>simp[intOf]
   ·have ix:∀w:World,(Instr.index 61 (.agg #[.int .u8 ((f 0).toNat:Int),.int .u8 ((f 1).toNat:Int),.int .u8 ((f 2).toNat:Int),.int .u8 ((f 3).toNat:Int),.int .u8 ((f 4).toNat:Int),.int .u8 ((f 5).toNat:Int),.int .u8 (b6.toNat:Int),.int .u8 ((f 7).toNat:Int),.int .u8 (b8.toNat:Int),.int .u8 ((f 9).toNat:Int),.int .u8 ((f 10).toNat:Int),.int .u8 ((f 11).toNat:Int),.int .u8 ((f 12).toNat:Int),.int .u8 ((f 13).toNat:Int),.int .u8 ((f 14).toNat:Int),.int .u8 ((f 15).toNat:Int)]) (.int .i64 14)).run Tryz.prog w=.ok (.int .u8 ((f 14).toNat:Int)) w:=fun _=>by kernel_rfl
    have hc0:((f 14).toNat:Int)<256:=by have:=(f 14).toNat_lt;omega
    have HP:Hid (piece 14 (f 14).toNat=[]++[Fz ((f 14).toNat / 16),Fz ((f 14).toNat%16)]):=piece_at 14 (f 14).toNat (f 14) rfl
    go_wp2
    have q1:(0:Int)≤((f 14).toNat:Int) / 16:=by omega
    have q2:((f 14).toNat:Int) / 16<16:=by omega
    have q3:(0:Int)≤((f 14).toNat:Int)%16:=by omega
    have q4:((f 14).toNat:Int)%16<16:=by omega
    have q5:=PE (f 14)
    have q6:∀h,(⟨#[48,49,50,51,52,53,54,55,56,57,97,98,99,100,101,102]⟩:ByteArray)[(((f 14).toNat:Int) / 16).toNat]'h=Fz ((f 14).toNat / 16):=fun h=>adL _ h
    have q7:∀h,(⟨#[48,49,50,51,52,53,54,55,56,57,97,98,99,100,101,102]⟩:ByteArray)[(((f 14).toNat:Int)%16).toNat]'h=Fz ((f 14).toNat%16):=fun h=>adL _ h
    go_region_held3 (fun _=>True) (trivial) ((refine RS (by rfl) _ _ 45 (by rfl) w.heap.size 5 i0 (.int .u8 0) 1 Tryz.underlying45 hi hz0 hz1 hz2 (by rfl) _ m _ (by rfl) hown hbel hbel.size [.int .u8 ((Fz ((f 14).toNat / 16)).toNat:Int),.int .u8 ((Fz ((f 14).toNat%16)).toNat:Int)] 2 (by rfl) (by decide) (by rfl) (agA _ _) (by unfold maxLen;omega) (by omega) ⟨(Below.refl _ _).drew,fun _=>rfl,by simp⟩ ?_;intro v3 w3 hown3 dG))
    all_goals
     clear hown hbel q1 q2 q3 q4 q5 q6 q7
     go_wp2
     go_roundw
     case rel=>exact⟨15,by omega,rfl,by
       rw[show nm f 15=nm f 14++piece 14 (f 14).toNat from rfl,HP.out,List.length_append,aS,←HM.out]
       first|exact hown3|simpa[ah,List.append_assoc,Nat.add_assoc]using hown3,dG⟩
     case measure=>simp[intOf]
   have ix:∀w:World,(Instr.index 61 (.agg #[.int .u8 ((f 0).toNat:Int),.int .u8 ((f 1).toNat:Int),.int .u8 ((f 2).toNat:Int),.int .u8 ((f 3).toNat:Int),.int .u8 ((f 4).toNat:Int),.int .u8 ((f 5).toNat:Int),.int .u8 (b6.toNat:Int),.int .u8 ((f 7).toNat:Int),.int .u8 (b8.toNat:Int),.int .u8 ((f 9).toNat:Int),.int .u8 ((f 10).toNat:Int),.int .u8 ((f 11).toNat:Int),.int .u8 ((f 12).toNat:Int),.int .u8 ((f 13).toNat:Int),.int .u8 ((f 14).toNat:Int),.int .u8 ((f 15).toNat:Int)]) (.int .i64 15)).run Tryz.prog w=.ok (.int .u8 ((f 15).toNat:Int)) w:=fun _=>by kernel_rfl
   have hc0:((f 15).toNat:Int)<256:=by have:=(f 15).toNat_lt;omega
   have HP:Hid (piece 15 (f 15).toNat=[]++[Fz ((f 15).toNat / 16),Fz ((f 15).toNat%16)]):=piece_at 15 (f 15).toNat (f 15) rfl
   go_wp2
   have q1:(0:Int)≤((f 15).toNat:Int) / 16:=by omega
   have q2:((f 15).toNat:Int) / 16<16:=by omega
   have q3:(0:Int)≤((f 15).toNat:Int)%16:=by omega
   have q4:((f 15).toNat:Int)%16<16:=by omega
   have q5:=PE (f 15)
   have q6:∀h,(⟨#[48,49,50,51,52,53,54,55,56,57,97,98,99,100,101,102]⟩:ByteArray)[(((f 15).toNat:Int) / 16).toNat]'h=Fz ((f 15).toNat / 16):=fun h=>adL _ h
   have q7:∀h,(⟨#[48,49,50,51,52,53,54,55,56,57,97,98,99,100,101,102]⟩:ByteArray)[(((f 15).toNat:Int)%16).toNat]'h=Fz ((f 15).toNat%16):=fun h=>adL _ h
   go_region_held3 (fun _=>True) (trivial) ((refine RS (by rfl) _ _ 45 (by rfl) w.heap.size 5 i0 (.int .u8 0) 1 Tryz.underlying45 hi hz0 hz1 hz2 (by rfl) _ m _ (by rfl) hown hbel hbel.size [.int .u8 ((Fz ((f 15).toNat / 16)).toNat:Int),.int .u8 ((Fz ((f 15).toNat%16)).toNat:Int)] 2 (by rfl) (by decide) (by rfl) (agA _ _) (by unfold maxLen;omega) (by omega) ⟨(Below.refl _ _).drew,fun _=>rfl,by simp⟩ ?_;intro v3 w3 hown3 dG))
   all_goals
    clear hown hbel q1 q2 q3 q4 q5 q6 q7
    go_wp2
    go_roundw
    case rel=>exact⟨16,by omega,rfl,by
      rw[show nm f 16=nm f 15++piece 15 (f 15).toNat from rfl,HP.out,List.length_append,aS,←HM.out]
      first|exact hown3|simpa[ah,List.append_assoc,Nat.add_assoc]using hown3,dG⟩
    case measure=>simp[intOf]
  obtain rfl:k=16:=by omega
  obtain⟨A',c',rfl,_,_,hrd⟩:=aJ hown
  have hst:=aF 45 9 5 Tryz.underlying45 Tryz.underlying5 Tryz.underlying9 _ c' hrd
  go_wp2
  go_ret
  exact⟨rfl,hbel⟩
end Go.Proofs.YtgamccijegollaaGreatDoor.agS
namespace Go.Proofs.YtgamccijegollaaGreatDoor.IdnP
open agS
theorem PU (k c:Nat) (h:c<256):Kz k c<256:=by unfold Kz;split<;>(try split)<;>omega
end Go.Proofs.YtgamccijegollaaGreatDoor.IdnP
namespace Go.Proofs.YtgamccijegollaaGreatDoor.atW
open Go.RowKit Base Dp Kq agS aj3 wS aj6
theorem amB (h:ByteArray) (p n:Int) (w:World):Calls Tryz.prog 25 #[.agg #[.string ⟨#[]⟩,.string h,.int .i64 p,.int .i64 n]] w fun e w'=>e=.returned (.bool false)∧Below w.heap.size w w':=uK ⟨#[]⟩ h p n w
theorem ap2 (h:ByteArray) (p n:Int) (w:World):Calls Tryz.prog 92 #[.agg #[.string ⟨#[]⟩,.string h,.int .i64 p,.int .i64 n]] w fun e w'=>e=.returned (.bool true)∧Below w.heap.size w w':=by
 go_enter Tryz.func92,Tryz.ntmps92
 go_wp2_with fail
 refine(amB h p n _).mono ?_
 rintro e w2 ⟨rfl,hb⟩
 have HB:=hid (bel ((Below.refl _ _).alloc (Nat.le_refl _) _) hb)
 clear hb
 go_wp2
 go_ret
 exact⟨rfl,HB.out⟩
theorem apT (h:ByteArray) (p n:Int) (w:World):Calls Tryz.prog 66 #[.agg #[.string ⟨#[]⟩,.string h,.int .i64 p,.int .i64 n]] w fun e w'=>e=.returned (.string (strOf [110,117,108,108]))∧Below w.heap.size w w':=by
 go_enter Tryz.func66,Tryz.ntmps66
 go_wp2_with fail
 refine(amB h p n _).mono ?_
 rintro e w2 ⟨rfl,hb⟩
 have HB:=hid (bel ((Below.refl _ _).alloc (Nat.le_refl _) _) hb)
 clear hb
 go_wp2
 go_ret
 exact⟨rfl,HB.out⟩
def rv (f:Nat→UInt8):Array Value:=#[.int .u8 ((f 0).toNat:Int),.int .u8 ((f 1).toNat:Int),.int .u8 ((f 2).toNat:Int),.int .u8 ((f 3).toNat:Int),.int .u8 ((f 4).toNat:Int),.int .u8 ((f 5).toNat:Int),.int .u8 ((f 6).toNat:Int),.int .u8 ((f 7).toNat:Int),.int .u8 ((f 8).toNat:Int),.int .u8 ((f 9).toNat:Int),.int .u8 ((f 10).toNat:Int),.int .u8 ((f 11).toNat:Int),.int .u8 ((f 12).toNat:Int),.int .u8 ((f 13).toNat:Int),.int .u8 ((f 14).toNat:Int),.int .u8 ((f 15).toNat:Int)]
def MW (f:Nat→UInt8):List UInt8:=[110,117,108,108,47]++nm f 16
def nH (f:Nat→UInt8):List UInt8:=zC++58::MW f
theorem aq3 (f:Nat→UInt8):nH f=[98,108,111,98,58]++[110,117,108,108]++[47]++nm f 16:=rfl
theorem Z7 (n:Nat) (h:n<16):uZ (Fz n)=true:=by
 have H:∀k:Fin 16,uZ (Fz k.val)=true:=by decide+kernel
 exact H ⟨n,h⟩
theorem afT (f:Nat→UInt8):∀n,(nm f n).all uZ=true
 |0=>rfl
 |n+1=>by
  have hb:Kz n (f n).toNat<256:=IdnP.PU n _ (f n).toNat_lt
  rw[nm,List.all_append,afT f n]
  unfold piece
  rw[List.all_append,List.all_cons,List.all_cons,Z7 _ (by omega),Z7 _ (by omega)]
  split<;>rfl
theorem KX (f:Nat→UInt8):(nH f).length≤100:=by
 have:=aqm f 16
 unfold nH MW zC
 simp only[List.length_append,List.length_cons,List.length_nil]
 omega
theorem Vf (f:Nat→UInt8):Fine zC (MW f) where
 au:=by decide+kernel
 let0:=by decide+kernel
 low:=by decide+kernel
 fs:=by decide+kernel
 amA:=by decide
 file:=by decide
 spc:=by decide+kernel
 r:=by unfold MW;rw[List.all_append,afT];rfl
 r0:=by unfold MW;simp
 r47:=rfl
open mW L6
end Go.Proofs.YtgamccijegollaaGreatDoor.atW
namespace Go.Proofs.YtgamccijegollaaGreatDoor.atQ
open Go.RowKit Base cO wS acK agU NJ wo Kq aj6 atr agS atW dI acA acG WR acv acD acM aco acJ J5 atP zD
def HTTP:List UInt8:=[104,116,116,112]
def ar0:List UInt8:=[104,116,116,112,115]
instance (s:List UInt8):Decidable (five s):=by unfold five;exact inferInstance
def pr0 (s h:List UInt8) (p:Int):List UInt8:=if p= -1 then s++[58,47,47]++h else s++[58,47,47]++h++[58]++Lib.itoa p
def ofU (u:U):Option (List UInt8×List UInt8×Int):=
 if five u.au then some (u.au,u.hst,u.port)
 else if u.au=zC then(match wS.url (strOf (aZ.pF u.opq (strOf u.txt) u.aO)).data.toList none with
  |none=>none
  |some v=>if v.au=HTTP∨v.au=ar0 then some (v.au,v.hst,v.port)else none)
 else none
def arQ (s h:List UInt8) (p:Int):Bool:=match wS.url (pr0 s h p) none with
 |none=>false
 |some u=>match ofU u with
  |none=>false
  |some o=>pG o.1 o.2.1 o.2.2 0 s h p 0
def arL (c:UInt8):Bool:=decide (c=45)||(decide (48≤c.toNat)&&decide (c.toNat≤57)||decide (97≤c.toNat)&&decide (c.toNat≤102))
theorem asN (n:Nat) (h:n<16):arL (Fz n)=true:=by
 have H:∀k:Fin 16,arL (Fz k.val)=true:=by decide+kernel
 exact H ⟨n,h⟩
theorem asL (f:Nat→UInt8):∀n,(nm f n).all arL=true
 |0=>rfl
 |n+1=>by
  have hb:Kz n (f n).toNat<256:=IdnP.PU n _ (f n).toNat_lt
  rw[nm,List.all_append,asL f n]
  unfold piece
  rw[List.all_append,List.all_cons,List.all_cons,asN _ (by omega),asN _ (by omega)]
  split<;>rfl
theorem nm_ge (f:Nat→UInt8):∀k,2*k≤(nm f k).length
 |0=>Nat.zero_le _
 |k+1=>by
  have:=nm_ge f k
  rw[nm,List.length_append]
  unfold piece
  rw[List.length_append,List.length_cons,List.length_cons]
  omega
theorem aqD (c:UInt8) (h:arL c=true):(gB true c=false∧gB false c=false)∧ji 4 c.toNat=false:=
 dn (p:=fun c=>arL c=true→(gB true c=false∧gB false c=false)∧ji 4 c.toNat=false) (by decide+kernel) c h
theorem five_sp {s:List UInt8} (h:five s):special s=true∧s≠FILE:=by
 rcases h with rfl|rfl|rfl|rfl|rfl<;>decide
def vU (s h:List UInt8) (p:Int) (N:List UInt8):U:={U0 with au:=s,hst:=h,hh:=true,port:=p,aO:=[strOf N]}
theorem auR (s h:List UInt8) (p:Int) (N:List UInt8):fQ (wI (vU s h p N))=pr0 s h p++47::N:=by
 show aZ.Ar (strOf s) (strOf []) (strOf []) (strOf h) true p false (strOf []) [strOf N] false false (strOf []) (strOf [])=_
 unfold aZ.Ar aZ.wH aZ.ug aZ.lD aZ.kK aZ.pF aZ.aO pr0
 by_cases e:p= -1
 ·rw[if_pos e,if_pos e]
  simp[strOf]
 rw[if_neg e,if_neg e]
 simp[strOf]
theorem aeY (L:List UInt8):(lower L).length=L.length:=by simp[lower]
theorem vU_ok {u:U} (hu:Ok u) (h5:five u.au) {N:List UInt8} (hN:N.all arL=true) (hl:7≤N.length):Ok (vU u.au u.hst u.port N):=by
 obtain⟨hsp,hf⟩:=five_sp h5
 have hh:=hu.spec hsp
 have hm:∀c ∈ N,arL c=true:=List.all_eq_true.1 hN
 have hseg:∀i,Seg u.au i N:=fun i=>⟨⟨fun c hc=>(by cases h:special u.au;exact(aqD c (hm c hc)).1.2;exact(aqD c (hm c hc)).1.1),(by
   unfold acA.Bo
   have k:∀L:List UInt8,L.length<7→decide (lower N=L)=false:=fun L hL=>decide_eq_false fun e=>by
    have:=congrArg List.length e
    rw[aeY]at this
    omega
   rw[k _ (by decide),k _ (by decide),k _ (by decide),k _ (by decide)]
   rfl),(by
   unfold acA.xW
   rw[decide_eq_false (fun e=>by rw[e]at hl;exact absurd hl (by decide):¬N=[46]),decide_eq_false (fun e=>by
    have:=congrArg List.length e
    rw[aeY]at this
    simp only[List.length_cons,List.length_nil]at this
    omega:¬lower N=[37,50,101])]
   rfl),(by
   rw[decide_eq_false hf]
   unfold wr
   rw[if_neg (by simp)]
   exact Hz.lV 4 _ fun c hc=>(aqD c (hm c hc)).2)⟩,fun c hc=>(aqD c (hm c hc)).2⟩
 have hpo:=hu.port
 refine⟨hu.au,hu.low,(fun h=>by cases h),(fun _=>⟨?_,rfl,fun _=>by show[strOf N]≠[];simp⟩),(fun _=>rfl),(fun h=>by cases h),(fun c h=>by cases h),(fun c h=>by cases h),(fun _=>?_),(fun h=>absurd h hf),hpo,(fun c h=>by cases h),(fun c h=>by cases h),(fun _=>rfl),(fun _=>rfl)⟩
 ·intro i hi
  have:i=0:=by
   have:i<1:=hi
   omega
  subst this
  exact hseg 0
 rcases hu.host hh with⟨_,_,_,_,h|h⟩|h
 ·rw[hsp]at h;cases h
 ·exact absurd h hf
 exact .inr h
theorem aqa (b:UInt8):∀(S M:List UInt8),(∀c ∈ S,c≠b)→(fG b (S++M)).1=S++(fG b M).1
 |[],M,_=>rfl
 |c::S,M,h=>by
  rw[List.cons_append,fG,if_neg (h c (by simp))]
  show c::(fG b (S++M)).1=_
  rw[aqa b S M fun d hd=>h d (by simp[hd])]
  rfl
theorem ajx (p:UInt8→Bool) (A:List UInt8) (c:UInt8) (B:List UInt8) (hc:p c=false):∃N,(A++c::B).dropWhile p=N++c::B:=by
 induction A with
 |nil=>exact⟨[],by simp[hc]⟩
 |cons a A ih=>
  by_cases ha:p a=true
  ·obtain⟨N,hN⟩:=ih
   exact⟨N,by simp[ha,hN]⟩
  exact⟨a::A,by simp[ha]⟩
theorem web_sch {S R:List UInt8} {u:U} (hS:S=HTTP∨S=ar0) (h:wS.url (S++58::R) none=some u):u.au=S:=by
 have hcl:∃N,clean (S++58::R)=S++58::N:=by
  rw[rG,xX S 58 R (by decide),oL S (by rcases hS with rfl|rfl<;>decide)]
  obtain⟨N,hN⟩:=ajx fO (ED R).reverse 58 S.reverse rfl
  refine⟨N.reverse.filter fun c=> !brk c,?_⟩
  have h1:(S++58::ED R).dropWhile fO=S++58::ED R:=by rcases hS with rfl|rfl<;>rfl
  unfold ru
  rw[h1,show(S++58::ED R).reverse=(ED R).reverse++58::S.reverse by simp,hN]
  rw[show(N++58::S.reverse).reverse=S++58::N.reverse by simp]
  rcases hS with rfl|rfl<;>rfl
 obtain⟨N,hN⟩:=hcl
 have hap:(apart (S++58::N)).au=S:=by
  have e1:=aqa 35 S (58::N) (by rcases hS with rfl|rfl<;>decide)
  have e1b:(fG 35 (58::N)).1=58::(fG 35 N).1:=by simp[fG]
  have e2:=aqa 63 S (58::(fG 35 N).1) (by rcases hS with rfl|rfl<;>decide)
  have e2b:(fG 63 (58::(fG 35 N).1)).1=58::(fG 63 (fG 35 N).1).1:=by simp[fG]
  have e3:=kW 58 S (fG 63 (fG 35 N).1).1 (by rcases hS with rfl|rfl<;>decide)
  unfold apart
  simp only[e1,e1b,e2,e2b,e3]
  rw[if_pos (by rcases hS with rfl|rfl<;>decide)]
  show lower S=S
  rcases hS with rfl|rfl<;>decide
 unfold wS.url at h
 rw[hN]at h
 obtain⟨v,hv,rfl⟩:=Option.map_eq_some_iff.1 h
 rw[adz]
 unfold wS.resolve at hv
 rw[if_neg (by rw[hap];rcases hS with rfl|rfl<;>decide),if_pos (by rw[hap];rcases hS with rfl|rfl<;>decide)]at hv
 rw[akR hv,hap]
theorem atA {s h:List UInt8} {p:Int} (hs:s≠[]) (hr:arQ s h p=true):∃u,wS.url (pr0 s h p) none=some u∧five u.au∧u.au=s∧u.hst=h∧u.port=p:=by
 unfold arQ at hr
 cases ho:wS.url (pr0 s h p) none with
 |none=>rw[ho]at hr;cases hr
 | some u=>
  rw[ho]at hr
  dsimp only at hr
  cases hf:ofU u with
  |none=>rw[hf]at hr;cases hr
  | some o=>
   rw[hf]at hr
   obtain⟨a,b,c⟩:=o
   have hr2:pG a b c 0 s h p 0=true:=hr
   unfold pG at hr2
   rw[if_neg (fun e=>hs e.2)]at hr2
   simp only[Bool.and_eq_true,decide_eq_true_iff]at hr2
   obtain⟨rfl,rfl,rfl⟩:=hr2
   unfold ofU at hf
   by_cases h5:five u.au
   ·rw[if_pos h5]at hf
    injection hf with hf
    injection hf with e1 e2
    injection e2 with e2 e3
    exact⟨u,rfl,h5,e1,e2,e3⟩
   rw[if_neg h5]at hf
   by_cases hb:u.au=zC
   ·rw [if_pos hb] at hf
    split at hf
    ·cases hf
    rename_i v _
    split at hf
    ·rename_i hv
     injection hf with hf
     injection hf with e1 e2
     have hw:a=HTTP∨a=ar0:=by rw[←e1];exact hv
     have hx:wS.url (a++58::((if c= -1 then[47,47]++b else[47,47]++b++[58]++Lib.itoa c))) none=some u:=by
      rw[←ho]
      congr 1
      unfold pr0
      split<;>simp
     have:=web_sch hw hx
     rw[hb]at this
     rcases hw with rfl|rfl<;>cases this
    cases hf
   rw[if_neg hb]at hf;cases hf
theorem auC {s h:List UInt8} {p:Int} (hs:s≠[]) (hr:arQ s h p=true) {N:List UInt8} (hN:N.all arL=true) (hl:7≤N.length):
  Ok (vU s h p N)∧five s∧wS.url ([98,108,111,98,58]++pr0 s h p++[47]++N) none=some (o7 (fQ (wI (vU s h p N)))):=by
 obtain⟨u,ho,h5,rfl,rfl,rfl⟩:=atA hs hr
 have hu:=aeK ho (fun b e=>by cases e)
 have hv:=vU_ok hu h5 hN hl
 refine⟨hv,h5,?_⟩
 have k:=auP hv
 have e:zC++58::fQ (wI (vU u.au u.hst u.port N))=[98,108,111,98,58]++pr0 u.au u.hst u.port++[47]++N:=by
  rw[auR]
  show[98,108,111,98]++58::_=_
  simp
 rw[e]at k
 exact k
end Go.Proofs.YtgamccijegollaaGreatDoor.atQ
namespace Go.Proofs.YtgamccijegollaaGreatDoor.L6
open Go.RowKit Base
section
variable {P:Program} {md:Region.Mode} {ops:Array Oper} {Q:Exit→Act→World→Prop}
def YA (md:Region.Mode) (ops:Array Oper) (ns:List (List Nat)) (n:Nat) (pre:List Nat):Bool:=
 decide (n<ops.size)&&DF md ops ns&&((List.range n).all fun k=>pre.contains k||(ns.getD n []).contains k)&&
 ((List.range ops.size).all fun i=>decide (i≤n)||match ops[i]? with
  |none=>false
  |some o=>o.after.any fun e=>Region.binds md e&&decide (n≤e.on))&&
 Region.seqB md ops (ops.size - n) n (List.replicate n true++List.replicate (ops.size - n) false).toArray
theorem SY {A:(Nat→Value)→Act} {w0:World} {R:List Keep} {ns:List (List Nat)} {n:Nat} {pre:List Nat} (hB:YA md ops ns n pre=true) (steps:Steps P ops Q A w0 R 0 (ops.toList.take n) ns)
  (fin:∀t w,Below w0.heap.size w0 w→Have R t w (List.range n)→wpList P ops Q (ops.toList.drop n) (A t) w):
  ∀(fuel:Nat) (listed:Array Bool) (t:Nat→Value) (w:World),InvT ops w0 R ns n listed t w→(∀k ∈ pre,listed.getD k false=true)→YV ops listed=fuel→wpAny P md ops Q fuel listed (A t) w:=by
 unfold YA at hB
 simp only[Bool.and_eq_true,decide_eq_true_eq]at hB
 obtain⟨⟨⟨⟨hn,hN⟩,hall⟩,hch⟩,hseq⟩:=hB
 -- all of the head is listed:the tail,in its order
 have done : ∀ (fuel : Nat) (listed : Array Bool) (t : Nat → Value) (w : World), InvT ops w0 R ns n listed t w → YV ops listed = fuel → (∀ i, i < n → listed.getD i false = true) → wpAny P md ops Q fuel listed (A t) w := by
  intro fuel listed t w h hu hl
  have he:listed=(List.replicate n true++List.replicate (ops.size - n) false).toArray:=by
   apply Array.ext
   ·simp[h.size];omega
   ·intro i h1 h2
    have hsz:=h.size
    simp only[List.getElem_toArray]
    by_cases hi:i<n
    ·have:=hl i hi
     simp[Array.getD,h1]at this
     rw[List.getElem_append_left (by simpa using hi)]
     simpa using this
    ·have:=h.tail i (by omega)
     simp[Array.getD,h1]at this
     rw[List.getElem_append_right (by simpa using hi)]
     simpa using this
  have hf:fuel=(ops.toList.drop n).length:=by
   rw[←hu]
   unfold YV
   have e:ops.size=n+(ops.size - n):=by omega
   rw[e,List.range_add,List.countP_append]
   have z1:(List.range n).countP (fun i=> !listed.getD i true)=0:=by
    rw[List.countP_eq_zero]
    intro i hi
    have hin:=List.mem_range.1 hi
    rw[wP (by rw[h.size];omega) true false,hl i hin]
    decide
   have z2:((List.range (ops.size - n)).map (n+·)).countP (fun i=> !listed.getD i true)=((List.range (ops.size - n)).map (n+·)).length:=by
    rw[List.countP_eq_length]
    intro i hi
    obtain⟨j,hj,rfl⟩:=List.mem_map.1 hi
    have hjn:=List.mem_range.1 hj
    rw[wP (by rw[h.size];omega) true false,h.tail (n+j) (by omega)]
    rfl
   rw[z1,z2]
   simp
  have hw:=fin t w h.below (o8 _ fun k hk=>(h.held k (hl k (by simpa using hk))).1)
  rw[hf]
  refine wpAny_of_seq (md:=md) (ops.toList.drop n) n listed (A t) w (fun j=>by simp[List.getElem?_drop]) ?_ hw
  rw[he]
  simpa using hseq
 intro fuel
 induction fuel with
 |zero=>
  intro listed t w h _ hu
  refine done 0 listed t w h hu fun i hi=>?_
  cases e:listed.getD i false with
  |true=>rfl
  |false=>
   have:=qR h.size (show i<ops.size by omega) (by rw[wP (by rw[h.size];omega) true false];exact e)
   omega
 | succ fuel ih=>
  intro listed t w h hpre hu
  by_cases hl:∀i,i<n→listed.getD i false=true
  ·exact done (fuel+1) listed t w h hu hl
  have hr0:Region.ready md ops listed≠[]:=fun hr=>hl fun i hi=>uU hN h.size hr (i+1) i (by omega) (by omega)
  refine⟨fun h0=>absurd h0 hr0,fun i hi=>?_⟩
  obtain⟨h0,o,ho,hafter⟩:=mem_ready.1 hi
  have hlt:=(Array.getElem?_eq_some_iff.1 ho).1
  have wQ:∀k ∈ ns.getD i [],listed.getD k false=true:=fun k hk=>by
   obtain⟨e,he,hb,hk⟩:=(vK hN ho).2 k hk
   rcases hk with rfl|hk
   ·exact hafter e he hb
   ·exact(h.held e.on (hafter e he hb)).2 k hk
  have hin:i<n:=by
   rcases Nat.lt_trichotomy i n with hlt'|rfl|hgt
   ·exact hlt'
   ·exact absurd (fun k hk=>by
     have h1:=List.all_eq_true.1 hall k (List.mem_range.2 hk)
     simp only[Bool.or_eq_true,List.contains_iff_mem]at h1
     exact h1.elim (fun h1=>hpre k h1) (fun h1=>wQ k h1)) hl
   ·have h1:=List.all_eq_true.1 hch i (List.mem_range.2 hlt)
    simp only[ho,Bool.or_eq_true,decide_eq_true_eq]at h1
    rcases h1 with h1|h1
    ·omega
    ·obtain⟨e,he,hb⟩:=Array.any_eq_true'.1 h1
     simp only[Bool.and_eq_true,decide_eq_true_eq]at hb
     have h2:=hafter e he hb.1
     rw[h.tail e.on hb.2]at h2
     cases h2
  have hst:=Steps.at (ops.toList.take n) 0 ns steps i o (by rw[List.getElem?_take,if_pos hin];simpa using ho)
  rw[Nat.zero_add]at hst
  refine wpOp_step ho fun K hK=>hst t w h.below (o8 _ fun k hk=>(h.held k (wQ k hk)).1) K fun v w' hb hv=>hK _ _ (ih _ _ _ ⟨⟨h.below.trans (hb.mono h.below.size),by simpa using h.size,fun j hj=>?_⟩,fun j hj=>?_⟩ (fun k hk=>getD_set_true (hpre k hk)) ?_)
  ·by_cases hji:j=i
   ·subst hji
    refine⟨by simpa[upd]using hv,fun k hk=>getD_set_true (wQ k hk)⟩
   ·rw[getD_set_ne false (Ne.symm hji)]at hj
    have:=h.held j hj
    refine⟨by simp only[upd,if_neg hji];exact(pick R j).stays _ _ _ hb this.1,fun k hk=>getD_set_true (this.2 k hk)⟩
  ·rw[getD_set_ne false (by omega)]
   exact h.tail j hj
  ·have:=qR h.size hlt h0
   omega
def anE (k:Nat) (listed:Array Bool) (ns:List (List Nat)) (n:Nat) (pre:List Nat):Bool:=
 decide (listed.size=k)&&((List.range k).all fun i=>listed.getD i false==pre.contains i)&&(pre.all fun i=>decide (i<n)&&(ns.getD i []).all fun j=>pre.contains j)
theorem ab7 {l:List Oper} {a:Act} {w:World} (n:Nat) (R:List Keep) (ns:List (List Nat)) (pre:List Nat) {listed:Array Bool} {fuel:Nat} (hB:YA .any l.toArray ns n pre=true) (hS:anE l.length listed ns n pre=true) (hF:YV l.toArray listed=fuel)
  (h0:∀k ∈ pre,(pick R k).says (now (l.take n) a k) w)
  (steps:Steps P l.toArray Q (fun t=>aj t n l 0 a) w R 0 (l.take n) ns)
  (fin:∀t w',Below w.heap.size w w'→Have R t w' (List.range n)→wpList P l.toArray Q (l.drop n) (aj t n l 0 a) w'):wpAny P .any l.toArray Q fuel listed a w:=by
 unfold anE at hS
 simp only[Bool.and_eq_true,decide_eq_true_eq]at hS
 obtain⟨⟨hsz,hl⟩,hp⟩:=hS
 have hin:∀i,listed.getD i false=pre.contains i:=fun i=>by
  by_cases hi:i<l.length
  ·have:=List.all_eq_true.1 hl i (List.mem_range.2 hi)
   simpa using this
  ·have h1:listed.getD i false=false:=by simp[Array.getD,hsz,hi]
   have h2:pre.contains i=false:=by
    cases e:pre.contains i with
    |false=>rfl
    |true=>
     have:=List.all_eq_true.1 hp i (by simpa using e)
     simp only[Bool.and_eq_true,decide_eq_true_eq]at this
     have hn:n<l.toArray.size:=by
      unfold YA at hB
      simp only[Bool.and_eq_true,decide_eq_true_eq]at hB
      exact hB.1.1.1.1
     simp at hn
     omega
   rw[h1,h2]
 have h := SY (P := P) (Q := Q) (md := .any) (ops := l.toArray) (A := fun t => aj t n l 0 a) (w0 := w) (R := R) (ns := ns) (n := n) (pre := pre) hB (by simpa using steps) (by simpa using fin) fuel listed (now (l.take n) a) w
  ⟨⟨Below.refl _ _,by simpa using hsz,fun i hi=>by
   rw[hin]at hi
   have hm:i ∈ pre:=by simpa using hi
   have:=List.all_eq_true.1 hp i hm
   simp only[Bool.and_eq_true,decide_eq_true_eq]at this
   exact⟨h0 i hm,fun k hk=>by rw[hin];exact List.all_eq_true.1 this.2 k hk⟩⟩,fun i hi=>by
    rw[hin]
    cases e:pre.contains i with
    |false=>rfl
    |true=>
     have:=List.all_eq_true.1 hp i (by simpa using e)
     simp only[Bool.and_eq_true,decide_eq_true_eq]at this
     omega⟩ (fun k hk=>by rw[hin];simpa using hk) hF
 have e:aj (now (l.take n) a) n l 0 a=a:=by rw[Aa];exact uY a (l.take n) (l.take n) 0 (fun j=>by simp)
 have h':wpAny P .any l.toArray Q fuel listed (aj (now (l.take n) a) n l 0 a) w:=h
 rwa[e]at h'
end
end Go.Proofs.YtgamccijegollaaGreatDoor.L6
namespace Go.Proofs.YtgamccijegollaaGreatDoor.uw
open Go.RowKit Base Dp acj L6
section
variable {α:Type} (enc:α→Value)
end
def Kp (T E:TypeId) (w w':World):Prop:=∀(k:Nat) (o:Obj),w.heap[k]?=some o→(∀cs m,o≠.cells cs T m∧o≠.cells cs E m)→w'.heap[k]?=some o
theorem Kp.trans {T E:TypeId} {a b c:World} (h:Kp T E a b) (k:Kp T E b c):Kp T E a c:=fun i o e h1=>k i o (h i o e h1) h1
theorem Kp.below {T E:TypeId} {w w':World} (hb:Below w.heap.size w w'):Kp T E w w':=fun k o h _=>(hb.block k (Array.getElem?_eq_some_iff.1 h).1).trans h
theorem Kp.cells {T E:TypeId} {w w':World} (h:Kp T E w w') {k:Nat} {cs:Array Value} {t:TypeId} {m:Nat×Nat} (e:w.heap[k]?=some (.cells cs t m)) (h1:t≠T) (h2:t≠E):w'.heap[k]?=some (.cells cs t m):=h k _ e fun cs' m'=>⟨fun x=>by injection x with _ x;exact h1 x,fun x=>by injection x with _ x;exact h2 x⟩
theorem Kp.set {T E:TypeId} {w:World} {g i:Nat} {x:Value} {C:Array Value} {mk:Nat×Nat} {t:TypeId} (h:w.heap[g]?=some (.cells C t mk)) (ht:t=T∨t=E):Kp T E w (w.setCell ⟨g,i,none⟩ x):=fun k o e h1=>by
 have hne:k≠g:=by
  rintro rfl
  rw[h]at e
  injection e with e
  subst e
  rcases ht with rfl|rfl
  ·exact(h1 C mk).1 rfl
  exact(h1 C mk).2 rfl
 exact(heap_setCell_other w ⟨g,i,none⟩ k x hne).trans e
theorem Kp.grown {T E:TypeId} {w w':World} {B n m:Nat} {v:Value} {xs:List Value} (ho:w.ownsRow B E n v m xs) (hg:w.grownBy w' v.ownBlock):Kp T E w w':=fun k o e h1=>by
 have hlt:=(Array.getElem?_eq_some_iff.1 e).1
 refine(hg.block k hlt fun hk=>?_).trans e
 rcases ho.2 with⟨rfl,_⟩|⟨b,cap,cur,rfl,_,hb,_⟩
 ·cases hk
 have e2:k=b:=by injection hk
 subst e2
 rw[hb]at e
 injection e with e
 exact(h1 cur (0,0)).2 e.symm
theorem Kp.owns {T E:TypeId} {w w':World} (h:Kp T E w w') {B n m:Nat} {E':TypeId} {v:Value} {xs:List Value} (ho:w.ownsRow B E' n v m xs) (h1:E'≠T) (h2:E'≠E):w'.ownsRow B E' n v m xs:=by
 refine⟨ho.1,?_⟩
 rcases ho.2 with h'|⟨b,cap,cur,rfl,hB,hb,r⟩
 ·exact .inl h'
 exact .inr ⟨b,cap,cur,rfl,hB,h.cells hb h1 h2,r⟩
section
variable {T E:TypeId} {α:Type} {enc:α→Value} {B g room last:Nat} {l:List (Nat×α)} {w w':World}
theorem own_ne (hTE:T≠E) {v:Value} {n m:Nat} {xs:List Value} {C:Array Value} {mk:Nat×Nat} (h:w.heap[g]?=some (.cells C T mk)) (ho:w.ownsRow B E n v m xs):v.ownBlock≠some g:=by
 rcases ho.2 with⟨rfl,_⟩|⟨b,cap,cur,rfl,_,hb,_⟩
 ·intro h;cases h
 intro e
 injection e with e
 have e:b=g:=e
 subst e
 rw[h]at hb
 injection hb with hb
 injection hb with _ hb
 exact hTE hb
theorem uh {v x:Value} {n m i:Nat} {xs:List Value} (ho:w.ownsRow B E n v m xs) (hne:v.ownBlock≠some g):(w.setCell ⟨g,i,none⟩ x).ownsRow B E n v m xs:=by
 refine⟨ho.1,?_⟩
 rcases ho.2 with h|⟨b,cap,cur,rfl,hB,hb,r⟩
 ·exact .inl h
 exact .inr ⟨b,cap,cur,rfl,hB,(heap_setCell_other w _ _ _ (fun e=>hne (congrArg some e))).trans hb,r⟩
end
theorem aaW {E:TypeId} {B n m:Nat} {w:World} {v:Value} {xs:List Value} (h:w.ownsRow B E n v m xs):∃A c,v=.slice A m c∧m≤c:=by
 rcases h.2 with⟨rfl,h0⟩|⟨b,cap,cur,rfl,hB,hb,h1,_⟩
 ·exact⟨none,0,by rw[h0],by omega⟩
 exact⟨_,cap,rfl,h1⟩
end Go.Proofs.YtgamccijegollaaGreatDoor.uw
namespace Go.Proofs.YtgamccijegollaaGreatDoor.xH
open Go.RowKit Base Dp acj L6 uw
structure Bc (α:Type) where
 url:ByteArray
 s:ByteArray
 h:ByteArray
 p:Int
 n:Int
 x:α
section
variable {α:Type} (enc:α→Value)
def rw6 (e:Bc α):List Value:=[.string e.url,.string e.s,.string e.h,.int .i64 e.p,.int .i64 e.n,enc e.x]
def flat (l:List (Bc α)):List Value:=l.flatMap (rw6 enc)
theorem flat_nil:flat enc []=[]:=rfl
theorem kM (p:Bc α) (l:List (Bc α)):flat enc (p::l)=.string p.url::.string p.s::.string p.h::.int .i64 p.p::.int .i64 p.n::enc p.x::flat enc l:=rfl
theorem MP (a b:List (Bc α)):flat enc (a++b)=flat enc a++flat enc b:=by simp[flat]
theorem KG (l:List (Bc α)) (k:Nat):(flat enc l).drop (k*6)=flat enc (l.drop k):=by
 induction l generalizing k with
 |nil=>simp[flat_nil]
 |cons p l ih=>
  cases k with
  |zero=>simp
  |succ k=>rw[Nat.succ_mul,kM,List.drop_succ_cons,List.drop_succ_cons,List.drop_succ_cons,List.drop_succ_cons,List.drop_succ_cons,List.drop_succ_cons,ih,List.drop_succ_cons]
theorem EH (l:List (Bc α)) (k:Nat) (h:k<l.length) (j:Nat) (v:Value) (hj:j<6) (hv:(rw6 enc l[k])[j]?=some v):(flat enc l)[k*6+j]?=some v:=by
 have e:flat enc (l.drop k)=rw6 enc l[k]++flat enc (l.drop (k+1)):=by rw[List.drop_eq_getElem_cons h];rfl
 rw[←KG]at e
 have:=congrArg (fun x=>x[j]?) e
 simp only[List.getElem?_drop]at this
 rw[this,List.getElem?_append_left (by simpa[rw6]using hj)]
 exact hv
end
def idx {α:Type} (l:List (Bc α)) (t:ByteArray):Option Nat:=l.findIdx? fun e=>decide (e.url=t)
theorem vH {α:Type} {l:List (Bc α)} {t:ByteArray} {k:Nat} (e:idx l t=some k):∃hk:k<l.length,l[k].url=t∧∀j (hj:j<k),¬(l[j]'(Nat.lt_trans hj hk)).url=t:=by
 unfold idx at e
 rw[List.findIdx?_eq_some_iff_getElem]at e
 obtain⟨hk,h1,h2⟩:=e
 exact⟨hk,by simpa using h1,fun j hj=>by simpa using h2 j hj⟩
theorem Qz {α:Type} {l:List (Bc α)} {t:ByteArray} (e:idx l t=none):∀k (hk:k<l.length),¬l[k].url=t:=by
 unfold idx at e
 rw[List.findIdx?_eq_none_iff]at e
 intro k hk
 have:=e l[k] (List.getElem_mem _)
 simpa using this
def IsS (T E:TypeId) {α:Type} (enc:α→Value) (B g room:Nat) (l:List (Bc α)) (w:World):Prop:=∃v,w.heap[g]?=some (.cells #[.int .i64 (room:Int),v] T (0,0))∧w.ownsRow B E 6 v l.length (flat enc l)∧B≤g
section
variable {T E:TypeId} {α:Type} {enc:α→Value} {B g room:Nat} {l:List (Bc α)} {w w':World}
theorem IsS.lt (h:IsS T E enc B g room l w):g<w.heap.size:=by obtain⟨v,h,_⟩:=h;exact(Array.getElem?_eq_some_iff.1 h).1
theorem IsS.below (h:IsS T E enc B g room l w) (hb:Below w.heap.size w w'):IsS T E enc B g room l w':=by
 have hl:=h.lt
 obtain⟨v,h1,h2,h3⟩:=h
 exact⟨v,(hb.block g hl).trans h1,aP h2 hb,h3⟩
theorem IsS.kp {T' E':TypeId} (h:IsS T E enc B g room l w) (hk:Kp T' E' w w') (h1:T≠T') (h2:T≠E') (h3:E≠T') (h4:E≠E'):IsS T E enc B g room l w':=by
 obtain⟨v,a,b,c⟩:=h
 exact⟨v,hk.cells a h1 h2,hk.owns b h3 h4,c⟩
end
theorem cells2 {w:World} {g:Nat} {a b:Value} {T:TypeId} {mk:Nat×Nat} (h:w.heap[g]?=some (.cells #[a,b] T mk)):w.cell? ⟨g,0,none⟩=some a∧w.cell? ⟨g,1,none⟩=some b:=
 ⟨(cell_of_row w g 0 _ _ _ h).trans rfl,(cell_of_row w g 1 _ _ _ h).trans rfl⟩
theorem thaw2 {w:World} {g:Nat} {a b:Value} {T:TypeId} (h:w.heap[g]?=some (.cells #[a,b] T (0,0))):w.frozen? ⟨g,0,none⟩=false∧w.frozen? ⟨g,1,none⟩=false:=
 ⟨frozen_of_row w g 0 _ _ h,frozen_of_row w g 1 _ _ h⟩
def one6 (vs:List Value):Keep:=⟨fun u w=>∃b,u=.slice (some ⟨b,0,none⟩) 1 1∧b<w.heap.size∧∀j v,vs[j]?=some v→w.cell? ⟨b,j,none⟩=some v,fun _ _ _ hb ⟨b,h1,h2,h3⟩=>⟨b,h1,Nat.lt_of_lt_of_le h2 hb.size,fun j v hv=>(hb.cell (p:=⟨b,j,none⟩) h2).trans (h3 j v hv)⟩⟩
theorem lY {E:TypeId} {α:Type} {enc:α→Value} {B:Nat} {w:World} {v:Value} {l:List (Bc α)} (h:w.ownsRow B E 6 v l.length (flat enc l)):∃A c,v=.slice A l.length c∧l.length≤c∧c≤maxLen∧∀k (hk:k<l.length),∃b,A=some ⟨b,0,none⟩∧b<w.heap.size∧∀j v,j<6→(rw6 enc l[k])[j]?=some v→w.cell? ⟨b,k*6+j,none⟩=some v:=by
 rcases h.2 with⟨rfl,h0⟩|⟨b,cap,cur,rfl,hB,hb,h1,h2,h3,h4⟩
 ·exact⟨none,0,by rw[h0],by omega,Nat.zero_le _,fun k hk=>absurd hk (by omega)⟩
 refine⟨_,cap,rfl,h1,h2,fun k hk=>⟨b,rfl,(Array.getElem?_eq_some_iff.1 hb).1,fun j v hj hv=>?_⟩⟩
 rw[cell_of_row w b _ cur E (0,0) hb,←EH enc l k hk j v hj hv,←h4,List.getElem?_take,if_pos (by omega),Array.getElem?_toList]
theorem Lu {α:Type} {enc:α→Value} {w:World} {b k:Nat} {e:Bc α} (h:∀j v,j<6→(rw6 enc e)[j]?=some v→w.cell? ⟨b,k*6+j,none⟩=some v):w.cell? ⟨b,k*6,none⟩=some (.string e.url)∧w.cell? ⟨b,k*6+1,none⟩=some (.string e.s)∧w.cell? ⟨b,k*6+2,none⟩=some (.string e.h)∧w.cell? ⟨b,k*6+3,none⟩=some (.int .i64 e.p)∧w.cell? ⟨b,k*6+4,none⟩=some (.int .i64 e.n)∧w.cell? ⟨b,k*6+5,none⟩=some (enc e.x):=
 ⟨h 0 _ (by omega) rfl,h 1 _ (by omega) rfl,h 2 _ (by omega) rfl,h 3 _ (by omega) rfl,h 4 _ (by omega) rfl,h 5 _ (by omega) rfl⟩
end Go.Proofs.YtgamccijegollaaGreatDoor.xH
namespace Go.Proofs.YtgamccijegollaaGreatDoor.ES
open Go.RowKit Base
variable {w:World}
theorem fJ {ops:Array Oper} {rest:List Oper} {p:Oper} {a:Act} {Q:Exit→Act→World→Prop} {ty:TypeId} {ad:Addr} {v:Value} (hl:(loadVar ty ad).run Tryz.prog w=.ok v w) (x:Operand) (ho:p.op=.load ty x) (hgd:p.guard=none) (hx:a.eval x=.pointer (some ad))
  (h:wpList Tryz.prog ops Q rest (a.put p.dst v) w):wpList Tryz.prog ops Q (p::rest) a w:=
 wpList_plain hgd fun _ hK=>by
  unfold Oper.wp execOp
  simp only[ho,hx,Instr.loadAt,Instr.sureAddr,Sem.run_bind,Sem.run_pure,Result.andThen_ok,hl]
  exact hK _ _ h
theorem LP {ops:Array Oper} {p:Oper} {a:Act} {w:World} {Q:Exit→Act→World→Prop} {K:Act→World→Prop} {E:Prop} {ys:Array Value} {ty:TypeId} {ad:Addr} {v:Value} (hl:(loadVar ty ad).run Tryz.prog w=.ok v w) (x:Operand) (ho:p.op=.load ty x) (hgd:p.guard=none) (hx:a.eval x=.pointer (some ad))
  (h:K (a.put p.dst v) w):if Region.wanted p (yielded ops ys)=true then Oper.wp Tryz.prog p a w K Q else E:=by
 rw[if_pos (by simp[Region.wanted,hgd])]
 unfold Oper.wp execOp
 simp only[ho,hx,Instr.loadAt,Instr.sureAddr,Sem.run_bind,Sem.run_pure,Result.andThen_ok,hl]
 exact h
theorem afN {P:Program} {b o:Nat} {ty:TypeId} {l:List Value} {d:TypeDesc} (hc:∀j v,l[j]?=some v→w.cell? ⟨b,o+j,none⟩=some v)
  (hu:P.underlying ty=some d) (hd:(match d with| .struct _| .array _ _=>true|_=>false)=true) (hi:(P.info? ty).map (·.size)=some l.length):
  (loadVar ty ⟨b,o,none⟩).run P w=.ok (.agg l.toArray) w:=by
 have hl:(loadCells ⟨b,o,none⟩ l.length).run P w=.ok l.toArray w:=
  run_loadCells_list (P:=P) w ⟨b,o,none⟩ l (fun j v hv=>by
   have hadd:(⟨b,o,none⟩:Addr).add j=⟨b,o+j,none⟩:=by unfold Addr.add;split<;>simp_all
   rw[hadd]
   exact hc j v hv)
 cases hq:P.info? ty with
 |none=>simp[hq]at hi
 |some i=>
  have hs:i.size=l.length:=by simpa[hq]using hi
  have hagg:(isAgg ty).run P w=.ok true w:=by
   unfold isAgg
   rw[Sem.run_bind,run_underlying hu w]
   cases d<;>simp_all
  simp[loadVar,Sem.run_bind,hagg,sizeOf,typeInfo,hq,hs,hl]
end Go.Proofs.YtgamccijegollaaGreatDoor.ES
