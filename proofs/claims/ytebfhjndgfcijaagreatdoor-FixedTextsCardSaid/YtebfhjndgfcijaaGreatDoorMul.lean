/- The contract of package fixed's Mul: the rounded product, or the error, as mulS says. No conditions. -/
import Derived.Test.YtebfhjndgfcijaaGreatDoorNeeds
namespace Go.Proofs.YtebfhjndgfcijaaGreatDoor
open Go Go.RowKit

/-- What Mul gives: the value and the error. -/
def mulS (a b how : Int) : Int × Int :=
  if (Vld a ∧ Vld b) ∧ 0 ≤ how ∧ how ≤ 3 then (if Vld (rnd how (a * b) 65536) then (rnd how (a * b) 65536, 0) else (0, 4)) else (0, 2)

end Go.Proofs.YtebfhjndgfcijaaGreatDoor
