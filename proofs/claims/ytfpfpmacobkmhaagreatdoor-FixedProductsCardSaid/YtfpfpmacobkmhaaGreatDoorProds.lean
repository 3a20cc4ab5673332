/- besomlaw01.FixedProducts: true, whatever the input. -/
import Derived.Test.YtfpfpmacobkmhaaGreatDoorRefScale
import Derived.Test.YtfpfpmacobkmhaaGreatDoorRefRooted
import Derived.Test.YtfpfpmacobkmhaaGreatDoorAlive
namespace Go.Proofs.YtfpfpmacobkmhaaGreatDoor
open Go Go.RowKit

set_option maxHeartbeats 1000000 in
theorem same_two (a e : Int) (w : World) : Calls Tryz.prog 15 #[.int .i64 a, .int .i64 e, .int .i64 a, .int .i64 e] w fun e' w' => e' = .returned (.bool true) ∧ w = w' := by
  go_enter Tryz.func15, Tryz.ntmps15
  go_wp2
  go_ret
  exact ⟨rfl, rfl⟩

set_option maxRecDepth 100000 in
set_option maxHeartbeats 1000000 in
theorem prods_walk (a b num den how c e g h k l o p : Int) (w : World)
    (C1f : Hid (∀ w, Calls Tryz.prog 17 #[.int .i64 a, .int .i64 b, .int .i64 how] w fun e' w' => e' = .returned (.tuple #[.int .i64 c, .int .i64 e]) ∧ Below w.heap.size w w'))
    (C1b : Hid (∀ w, Calls Tryz.prog 18 #[.int .i64 a, .int .i64 b, .int .i64 how] w fun e' w' => e' = .returned (.tuple #[.int .i64 c, .int .i64 e]) ∧ Below w.heap.size w w'))
    (C2f : Hid (∀ w, Calls Tryz.prog 19 #[.int .i64 a, .int .i64 b, .int .i64 how] w fun e' w' => e' = .returned (.tuple #[.int .i64 g, .int .i64 h]) ∧ Below w.heap.size w w'))
    (C2b : Hid (∀ w, Calls Tryz.prog 20 #[.int .i64 a, .int .i64 b, .int .i64 how] w fun e' w' => e' = .returned (.tuple #[.int .i64 g, .int .i64 h]) ∧ Below w.heap.size w w'))
    (C3f : Hid (∀ w, Calls Tryz.prog 21 #[.int .i64 a, .int .i64 num, .int .i64 den, .int .i64 how] w fun e' w' => e' = .returned (.tuple #[.int .i64 k, .int .i64 l]) ∧ Below w.heap.size w w'))
    (C3b : Hid (∀ w, Calls Tryz.prog 22 #[.int .i64 a, .int .i64 num, .int .i64 den, .int .i64 how] w fun e' w' => e' = .returned (.tuple #[.int .i64 k, .int .i64 l]) ∧ Below w.heap.size w w'))
    (C4f : Hid (∀ w, Calls Tryz.prog 23 #[.int .i64 a, .int .i64 how] w fun e' w' => e' = .returned (.tuple #[.int .i64 o, .int .i64 p]) ∧ Below w.heap.size w w'))
    (C4b : Hid (∀ w, Calls Tryz.prog 24 #[.int .i64 a, .int .i64 how] w fun e' w' => e' = .returned (.tuple #[.int .i64 o, .int .i64 p]) ∧ Below w.heap.size w w'))
    (CS : Hid (∀ x y w, Calls Tryz.prog 15 #[.int .i64 x, .int .i64 y, .int .i64 x, .int .i64 y] w fun e' w' => e' = .returned (.bool true) ∧ w = w'))
    (CA : Hid (∀ w, Calls Tryz.prog 16 #[] w fun e' w' => e' = .returned (.bool true) ∧ Below w.heap.size w w')) :
    Calls Tryz.prog 4 #[.int .i64 a, .int .i64 b, .int .i64 num, .int .i64 den, .int .i64 how] w fun e' w' => e' = .returned (.bool true) ∧ Below w.heap.size w w' := by
  go_enter Tryz.func4, Tryz.ntmps4
  go_wp2_with (first | (go_at_call 17; refine (C1f.out _).mono ?_; rintro e' w1 ⟨rfl, hb1⟩; have HB1 := Lib.hid hb1; clear hb1) | (go_at_call 18; refine (C1b.out _).mono ?_; rintro e' w2 ⟨rfl, hb2⟩; have HB2 := Lib.hid hb2; clear hb2) | (go_at_call 19; refine (C2f.out _).mono ?_; rintro e' w3 ⟨rfl, hb3⟩; have HB3 := Lib.hid hb3; clear hb3) | (go_at_call 20; refine (C2b.out _).mono ?_; rintro e' w4 ⟨rfl, hb4⟩; have HB4 := Lib.hid hb4; clear hb4) | (go_at_call 21; refine (C3f.out _).mono ?_; rintro e' w5 ⟨rfl, hb5⟩; have HB5 := Lib.hid hb5; clear hb5) | (go_at_call 22; refine (C3b.out _).mono ?_; rintro e' w6 ⟨rfl, hb6⟩; have HB6 := Lib.hid hb6; clear hb6) | (go_at_call 23; refine (C4f.out _).mono ?_; rintro e' w7 ⟨rfl, hb7⟩; have HB7 := Lib.hid hb7; clear hb7) | (go_at_call 24; refine (C4b.out _).mono ?_; rintro e' w8 ⟨rfl, hb8⟩; have HB8 := Lib.hid hb8; clear hb8) | (go_at_call 15; refine (CS.out _ _ _).mono ?_; rintro e' w' ⟨rfl, rfl⟩) | (go_at_call 16; refine (CA.out _).mono ?_; rintro e' w9 ⟨rfl, hb9⟩; have HB9 := Lib.hid hb9; clear hb9))
  go_ret
  exact ⟨rfl, kcb (kcb (kcb (kcb (kcb (kcb (kcb (kcb HB1.out HB2.out) HB3.out) HB4.out) HB5.out) HB6.out) HB7.out) HB8.out) HB9.out⟩

theorem prods_any (a b num den how : Int) (w : World) :
    Calls Tryz.prog 4 #[.int .i64 a, .int .i64 b, .int .i64 num, .int .i64 den, .int .i64 how] w fun e' w' => e' = .returned (.bool true) ∧ Below w.heap.size w w' :=
  prods_walk a b num den how _ _ _ _ _ _ _ _ w (fun w => mul_any a b how w) (fun w => refMulF a b how w) (fun w => div_any a b how w) (fun w => refDivF a b how w) (fun w => scale_any a num den how w) (fun w => refScaleF a num den how w) (fun w => rootf_any a how w) (fun w => refRootF a how w) (fun x y w => same_two x y w) (fun w => alive_any w)

end Go.Proofs.YtfpfpmacobkmhaaGreatDoor
