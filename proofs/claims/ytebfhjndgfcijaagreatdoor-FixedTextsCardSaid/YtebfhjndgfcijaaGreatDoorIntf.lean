/- The contracts of package fixed's Int and Of. No conditions. -/
import Derived.Test.YtebfhjndgfcijaaGreatDoorNeeds
namespace Go.Proofs.YtebfhjndgfcijaaGreatDoor
open Go Go.RowKit

/-- What Int gives: the value and the error. -/
def intS (a how : Int) : Int × Int :=
  if Vld a ∧ 0 ≤ how ∧ how ≤ 3 then (if Vld (rnd how a 65536) then (rnd how a 65536, 0) else (0, 4)) else (0, 2)

end Go.Proofs.YtebfhjndgfcijaaGreatDoor
