/- Texts that belong together: akA. -/
import Derived.Test.YtgamccijegollaaGreatDoorFNAAV
set_option linter.unusedSimpArgs false
set_option linter.unusedVariables false
set_option maxRecDepth 100000
set_option maxHeartbeats 64000000
namespace Go.Proofs.YtgamccijegollaaGreatDoor.akA
open Go.RowKit Base Dp xC akp ScrB ScrW ScrE aj3 TL TK StkH
def o3:O:=⟨3,0,0,0,0,[],[],[],[],0,0,List.replicate 16 0⟩
theorem anC:Small o3:=⟨⟨by decide,by decide,by decide,by decide,by decide,by decide,by decide,by decide,by decide,by decide,by decide,by decide⟩,by decide,by decide,by decide,by decide⟩
theorem I5:(encs [o3]).length=74:=by
 have:=Dy o3 anC.fits
 show(rO o3++[]).length=74
 rw[List.append_nil,this]
 rfl
theorem one3 (W:World):Ops (W.alloc (.cells (cells o3).toArray 157)) (some ⟨W.heap.size,0,none⟩) 1 [o3]:=
 ⟨rfl,aY.jF rfl (by simp) (fun j hj=>by rw[Nat.zero_add,World.cell?_alloc_mark,List.getElem?_toArray];exact List.getElem?_eq_getElem hj),by simp;rfl⟩
theorem Xj (w:World) (E:Hy w):Calls Tryz.prog 46 #[] w fun e w'=>e=.returned (.bool true)∧Below w.heap.size w w':=by
 have HE:=hid E
 clear E
 have HOP:=hid (one3 w)
 have JO:Hid (∀o ∈ [o3],Small o):=by intro x hx;simp at hx;subst hx;exact anC
 have HB0:Hid (Below w.heap.size w (w.alloc (.cells (cells o3).toArray 157))):=(Below.refl _ _).alloc (Nat.le_refl _) _
 go_enter Tryz.func46,Tryz.ntmps46
 go_wp2_with fail
 refine(ScrE.eF _ 1 1 [o3] _ HOP.out JO.out (by omega)).mono ?_
 rintro e w1 ⟨v,rfl,hown,hb⟩
 rw[I5]at hown
 obtain⟨A,c,rfl,hnc,hcm,hr⟩:=aJ hown
 have HB1:=hid (bel HB0.out hb)
 clear hown hr hb HOP JO HB0
 go_wp2_with fail
 refine(amy 1 1 0 (by decide) (by decide) (by decide) (by decide) (by decide) _).mono ?_
 rintro e w2 ⟨gs,gt,gu,gm,rfl,_,hb⟩
 have HB2:=hid (bel HB1.out hb)
 clear hb HB1
 go_wp2_with fail
 refine(anA (some ⟨gs,0,none⟩) (.pointer none) ⟨#[]⟩ ⟨#[]⟩ 0 0 _ (HE.out.below HB2.out)).mono ?_
 rintro e w3 ⟨rfl,hb⟩
 have HB3:=hid (bel HB2.out hb)
 clear hb HB2
 have hfd:(Instr.field 81 (.agg #[.int .i64 3,.int .i64 200,.int .i64 0,.int .i64 0,.string ⟨#[116,101,120,116,47,104,116,109,108,59,99,104,97,114,115,101,116,61,117,116,102,45,56]⟩,.slice none 0 0]) 1).run Tryz.prog w3=.ok (.int .i64 200) w3:=by first|rfl|kernel_rfl
 go_wp2
 go_ret
 exact⟨rfl,HB3.out⟩
end Go.Proofs.YtgamccijegollaaGreatDoor.akA
