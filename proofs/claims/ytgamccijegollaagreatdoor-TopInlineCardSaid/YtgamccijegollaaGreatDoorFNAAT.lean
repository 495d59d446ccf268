/- Texts that belong together: Sls. -/
import Derived.Test.YtgamccijegollaaGreatDoorFNAAA
import Derived.Test.YtgamccijegollaaGreatDoorShelf
import Derived.Test.YtgamccijegollaaGreatDoorFNAAC
set_option linter.unusedSimpArgs false
set_option linter.unusedVariables false
set_option maxRecDepth 100000
set_option maxHeartbeats 64000000
namespace Go.Proofs.YtgamccijegollaaGreatDoor.Sls
open Go.RowKit Base Dp acj
open Go.Proofs.YtgamccijegollaaGreatDoor.pO (Max lZ)
theorem alO (b:UInt8) (L:List UInt8):decide (0≤Lib.indexByte L b)=L.contains b:=by
 have hge:=Lib.indexByte_ge L b
 by_cases h:Lib.indexByte L b= -1
 ·have hn:=Lib.indexByte_none h
  rw[decide_eq_false (by omega)]
  cases e:L.contains b with
  |false=>rfl
  |true=>
   have hm:b ∈ L:=by simpa using e
   obtain⟨j,hj,he⟩:=List.getElem_of_mem hm
   exact absurd (List.getElem?_eq_some_iff.2 ⟨hj,he⟩) (hn j)
 obtain⟨o,ho⟩:∃o:Nat,Lib.indexByte L b=o:=⟨(Lib.indexByte L b).toNat,by omega⟩
 have hs:=(Lib.indexByte_some ho).1
 rw[decide_eq_true (by omega)]
 obtain⟨hj,he⟩:=List.getElem?_eq_some_iff.1 hs
 symm
 simpa using(show b ∈ L by rw[←he];exact List.getElem_mem _)
theorem FN (b:UInt8) (s:ByteArray) (w:World):Calls Tryz.prog 89 #[.string s,.string ⟨#[b]⟩] w fun e w'=>e=.returned (.bool (s.data.toList.contains b))∧w=w':=by
 refine(Tryz.strings_Contains_one s b w).mono ?_
 rintro e w' ⟨rfl,rfl⟩
 exact⟨ak (alO b _),rfl⟩
end Go.Proofs.YtgamccijegollaaGreatDoor.Sls
