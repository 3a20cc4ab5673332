/- What the laws ask with: same, alike. -/
import Derived.Test.YtebfhjndgfcijaaGreatDoorRefSpot
import Derived.Test.YtebfhjndgfcijaaGreatDoorAlive
namespace Go.Proofs.YtebfhjndgfcijaaGreatDoor
open Go Go.RowKit

set_option maxHeartbeats 1000000 in
theorem same_law (a e : Int) (w : World) : Calls Tryz.prog 11 #[.int .i64 a, .int .i64 e, .int .i64 a, .int .i64 e] w fun e' w' => e' = .returned (.bool true) ∧ w = w' := by
  go_enter Tryz.func11, Tryz.ntmps11
  go_wp2
  go_ret
  exact ⟨rfl, rfl⟩

set_option maxRecDepth 100000 in
set_option maxHeartbeats 1000000 in
theorem alike_law (x y e : Int) (w : World) : Calls Tryz.prog 20 #[.agg #[.int .i64 x, .int .i64 y], .int .i64 e, .agg #[.int .i64 x, .int .i64 y], .int .i64 e] w fun e' w' => e' = .returned (.bool true) ∧ Below w.heap.size w w' := by
  go_enter Tryz.func20, Tryz.ntmps20
  go_wp2
  go_ret
  exact ⟨rfl, by repeat' (first | assumption | exact Below.refl _ _ | (with_reducible refine Below.drew ?_) | (with_reducible refine ka ?_ _) | (refine kc ?_ (by assumption)))⟩

end Go.Proofs.YtebfhjndgfcijaaGreatDoor
