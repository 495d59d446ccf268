/- Texts that belong together: aj6. -/
import Derived.Test.YtgamccijegollaaGreatDoorFNAAP
set_option linter.unusedSimpArgs false
set_option linter.unusedVariables false
set_option maxRecDepth 100000
set_option maxHeartbeats 64000000
namespace Go.Proofs.YtgamccijegollaaGreatDoor.aj6
open Go.RowKit Base dI cO aco J5 wS acK NJ wo zD
theorem in0 (c:UInt8) (h1:32≤c.toNat) (h2:c.toNat≤126):ji 0 c.toNat=false:=dn (p:=fun c=>32≤c.toNat→c.toNat≤126→ji 0 c.toNat=false) (by decide+kernel) c h1 h2
def zC:List UInt8:=[98,108,111,98]
end Go.Proofs.YtgamccijegollaaGreatDoor.aj6
