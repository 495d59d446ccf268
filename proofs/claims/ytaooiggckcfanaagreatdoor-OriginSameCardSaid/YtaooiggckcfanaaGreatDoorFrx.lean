/- What the frames need of two tables: what the row lists is what the world holds. -/
import Derived.Test.YtaooiggckcfanaaGreatDoorMB
import Derived.Test.YtaooiggckcfanaaGreatDoorME
import Derived.Laws.Bits64b
import Derived.Lib.LaidTab
import Derived.Lib.LaidU8
import Derived.Lib.SmallJoins
import Derived.Sort.Grow
namespace Go.Proofs.YtaooiggckcfanaaGreatDoor.SixG
open Go.RowKit Go.Proofs.YtaooiggckcfanaaGreatDoor.Base Go.Proofs.YtaooiggckcfanaaGreatDoor.Base2
def debr : List Int := [0, 1, 56, 2, 57, 49, 28, 3, 61, 58, 42, 50, 38, 29, 17, 4, 62, 47, 59, 36, 45, 43, 51, 22, 53, 39, 33, 30, 24, 18, 12, 5, 63, 55, 48, 27, 60, 41, 37, 16, 46, 35, 44, 21, 52, 32, 23, 11, 54, 26, 40, 15, 34, 20, 31, 10, 25, 14, 19, 9, 13, 8, 7, 6]
theorem deb_global : Tryz.prog.globalNamed "math/bits.deBruijn64tab" = some 5 := by kernel_rfl
theorem lad_of {W : World} {l : List (String × DataW Unit)} (h : laidMet Tryz.prog l W) (hm : ("math/bits.deBruijn64tab", Lib.tabData .u8 debr) ∈ l) : Lad W := by
  obtain ⟨g', t', cs, fuel, p, hg', ht', hvar, hd⟩ := Lib.laidMet.reads h hm
  obtain rfl := Option.some.inj (deb_global.symm.trans hg')
  obtain rfl := Option.some.inj ((show (Tryz.prog.globals[5]?).map (·.type) = some 212 by kernel_rfl).symm.trans ht')
  have hc := Lib.cells_of_tab (k := .u8) (zs := debr) Tryz.underlying212 Tryz.underlying5 (by kernel_rfl) (by kernel_rfl) hd
  unfold World.var? at hvar
  rw [deb_global] at hvar
  simp only [Option.bind_some] at hvar
  unfold Lad World.cell?
  split at hvar
  · rename_i x y z hh
    injection hvar with hvar
    rw [hh]
    simp only []
    have e : x.toList = debr.map fun z => Value.int .u8 z := by rw [hvar]; exact hc
    rw [← Array.getElem?_toList, e]
    rfl
  · cases hvar
end Go.Proofs.YtaooiggckcfanaaGreatDoor.SixG
namespace Go.Proofs.YtaooiggckcfanaaGreatDoor.Tab
open Go.RowKit Go.Proofs.YtaooiggckcfanaaGreatDoor.Base
theorem pow_of {W : World} {l : List (String × DataW Unit)} (h : laidMet Tryz.prog l W) (hm : ("internal/strconv.uint64pow10", Lib.tabData .u64 Lib.pow10Tab) ∈ l) : Pow W := by
  obtain ⟨g', t', cs, fuel, p, hg', ht', hvar, hd⟩ := Lib.laidMet.reads h hm
  obtain rfl := Option.some.inj (pow_global.symm.trans hg')
  obtain rfl := Option.some.inj ((show (Tryz.prog.globals[3]?).map (·.type) = some 179 by kernel_rfl).symm.trans ht')
  show World.var? _ _ _ = _
  rw [hvar, ← Lib.cells_of_tab (k := .u64) (zs := Lib.pow10Tab) Tryz.underlying179 Tryz.underlying161 (by kernel_rfl) (by kernel_rfl) hd]
end Go.Proofs.YtaooiggckcfanaaGreatDoor.Tab
