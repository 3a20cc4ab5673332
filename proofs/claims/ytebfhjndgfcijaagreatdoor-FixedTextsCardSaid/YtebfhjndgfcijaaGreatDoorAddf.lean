/- The contracts of package fixed's Of, Add and Sub. No conditions. -/
import Derived.Test.YtebfhjndgfcijaaGreatDoorNeeds
namespace Go.Proofs.YtebfhjndgfcijaaGreatDoor
open Go Go.RowKit

/-- What Of gives. -/
def ofS (n : Int) : Int × Int := if -1073741824 ≤ n ∧ n ≤ 1073741824 then (n * 65536, 0) else (0, 4)

/-- What Add gives. -/
def addS (a b : Int) : Int × Int :=
  if Vld a ∧ Vld b then (if Vld (a + b) then (a + b, 0) else (0, 4)) else (0, 2)

/-- What Sub gives. -/
def subS (a b : Int) : Int × Int :=
  if Vld a ∧ Vld b then (if Vld (a - b) then (a - b, 0) else (0, 4)) else (0, 2)

end Go.Proofs.YtebfhjndgfcijaaGreatDoor
