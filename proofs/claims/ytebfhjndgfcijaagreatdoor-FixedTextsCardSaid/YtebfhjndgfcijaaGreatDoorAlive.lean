/- The contract of the statements' own opening examples ('alive'): true, whatever memory. -/
import Derived.Test.YtebfhjndgfcijaaGreatDoorRead
import Derived.Test.YtebfhjndgfcijaaGreatDoorDivf
import Derived.Test.YtebfhjndgfcijaaGreatDoorUnit
namespace Go.Proofs.YtebfhjndgfcijaaGreatDoor
open Go Go.RowKit

theorem alive_div : divS 65536 196608 2 = (21846, 0) := by kernel_rfl
theorem alive_unit : unitS 196608 262144 = ((39321, 52428), 0) := by kernel_rfl
theorem alive_read : readS [48, 46, 49] 3 = (6554, 0) := by kernel_rfl

set_option maxRecDepth 100000 in
set_option maxHeartbeats 1000000 in
theorem alive_any (w : World) : Calls Tryz.prog 6 #[] w fun e w' => e = .returned (.bool true) ∧ Below w.heap.size w w' := by
  have CD := Lib.hid (fun w => div_any 65536 196608 2 w)
  have CU := Lib.hid (fun w => unit_any 196608 262144 w)
  have CR := Lib.hid (fun w => read_any [48, 46, 49] 3 w)
  rw [alive_div] at CD
  rw [alive_unit] at CU
  rw [alive_read] at CR
  go_enter Tryz.func6, Tryz.ntmps6
  go_wp2_with (first | (go_at_call 33; refine (CD.out _).mono ?_; rintro e w1 ⟨rfl, hb1⟩) | (go_at_call 25; refine (CU.out _).mono ?_; rintro e w2 ⟨rfl, hb2⟩) | (go_at_call 7; refine (CR.out _).mono ?_; rintro e w3 ⟨rfl, hb3⟩; have k0 : w3.cell? ⟨w2.heap.size, 0, none⟩ = some (.int .i64 39321) := cell_later hb3 (by simp [go_sem]); have k1 : w3.cell? ⟨w2.heap.size, 1, none⟩ = some (.int .i64 52428) := cell_later hb3 (by simp [go_sem])))
  go_ret
  exact ⟨rfl, by repeat' (first | assumption | (with_reducible refine Below.drew ?_) | (with_reducible refine ka ?_ _) | (with_reducible refine ks ?_ _ (by (try simp only); omega)) | (refine kc ?_ (by assumption)))⟩

end Go.Proofs.YtebfhjndgfcijaaGreatDoor
