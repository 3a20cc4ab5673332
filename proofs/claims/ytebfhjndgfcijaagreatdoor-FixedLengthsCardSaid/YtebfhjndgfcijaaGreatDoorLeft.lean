/- The contract of package fixed's Left. No conditions. -/
import Derived.Test.YtebfhjndgfcijaaGreatDoorRead
import Derived.Test.YtebfhjndgfcijaaGreatDoorNeeds
namespace Go.Proofs.YtebfhjndgfcijaaGreatDoor
open Go Go.RowKit

/-- What Left gives. -/
def leftS (x y : Int) : Int × Int := if Vld x ∧ Vld y then (-y, x) else (0, 0)

set_option maxHeartbeats 1000000 in
theorem left_ok (x y : Int) (w : World) (hx : Vld x) (hy : Vld y) :
    Calls Tryz.prog 21 #[.agg #[.int .i64 x, .int .i64 y]] w fun e w' => e = .returned (.agg #[.int .i64 (-y), .int .i64 x]) ∧ Below w.heap.size w w' := by
  have CX := Lib.hid (fun w => check_ok x w hx)
  have CY := Lib.hid (fun w => check_ok y w hy)
  have W1 : wrap64 (-y) = -y := by unfold Vld at hy; unfold wrap64; omega
  clear hx hy
  go_enter Tryz.func21, Tryz.ntmps21
  go_wp2_with (first | (go_at_call_of 54 (Value.int .i64 x); refine (CX.out _).mono ?_; rintro e w' ⟨rfl, rfl⟩) | (go_at_call_of 54 (Value.int .i64 y); refine (CY.out _).mono ?_; rintro e w' ⟨rfl, rfl⟩))
  exact bodyPost_ret (v := .agg #[.int .i64 (-y), .int .i64 x]) (by simp [results, Tryz.results21, go_sem]) rfl
    ⟨rfl, by repeat' (first | exact Below.refl _ _ | (refine ka ?_ _))⟩

set_option maxHeartbeats 1000000 in
theorem left_bad (x y : Int) (w : World) (h : ¬ (Vld x ∧ Vld y)) :
    Calls Tryz.prog 21 #[.agg #[.int .i64 x, .int .i64 y]] w fun e w' => e = .returned (.agg #[.int .i64 0, .int .i64 0]) ∧ Below w.heap.size w w' := by
  by_cases hx : Vld x
  · have CX := Lib.hid (fun w => check_ok x w hx)
    have CY := Lib.hid (fun w => check_bad y w (fun hy => h ⟨hx, hy⟩))
    clear hx h
    go_enter Tryz.func21, Tryz.ntmps21
    go_wp2_with (first | (go_at_call_of 54 (Value.int .i64 x); refine (CX.out _).mono ?_; rintro e w' ⟨rfl, rfl⟩) | (go_at_call_of 54 (Value.int .i64 y); refine (CY.out _).mono ?_; rintro e w' ⟨rfl, rfl⟩))
    exact bodyPost_ret (v := .agg #[.int .i64 0, .int .i64 0]) (by simp [results, Tryz.results21, go_sem]) rfl
      ⟨rfl, by repeat' (first | exact Below.refl _ _ | (refine ka ?_ _))⟩
  · have CX := Lib.hid (fun w => check_bad x w hx)
    clear hx h
    go_enter Tryz.func21, Tryz.ntmps21
    go_wp2_with (go_at_call_of 54 (Value.int .i64 x); refine (CX.out _).mono ?_; rintro e w' ⟨rfl, rfl⟩)
    exact bodyPost_ret (v := .agg #[.int .i64 0, .int .i64 0]) (by simp [results, Tryz.results21, go_sem]) rfl
      ⟨rfl, by repeat' (first | exact Below.refl _ _ | (refine ka ?_ _))⟩

theorem left_any (x y : Int) (w : World) :
    Calls Tryz.prog 21 #[.agg #[.int .i64 x, .int .i64 y]] w fun e w' => e = .returned (.agg #[.int .i64 (leftS x y).1, .int .i64 (leftS x y).2]) ∧ Below w.heap.size w w' := by
  unfold leftS
  by_cases h : Vld x ∧ Vld y
  · rw [if_pos h]; exact left_ok x y w h.1 h.2
  · rw [if_neg h]; exact left_bad x y w h

end Go.Proofs.YtebfhjndgfcijaaGreatDoor
