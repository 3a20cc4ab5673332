/- besomlaw01.FixedSums: true, whatever the input. -/
import Derived.Test.YtfpfpmacobkmhaaGreatDoorRefSum
import Derived.Test.YtfpfpmacobkmhaaGreatDoorAlive
namespace Go.Proofs.YtfpfpmacobkmhaaGreatDoor
open Go Go.RowKit

set_option maxHeartbeats 1000000 in
theorem same_any (a e : Int) (w : World) : Calls Tryz.prog 15 #[.int .i64 a, .int .i64 e, .int .i64 a, .int .i64 e] w fun e' w' => e' = .returned (.bool true) ∧ w = w' := by
  go_enter Tryz.func15, Tryz.ntmps15
  go_wp2
  go_ret
  exact ⟨rfl, rfl⟩

set_option maxRecDepth 100000 in
set_option maxHeartbeats 1000000 in
theorem sums_walk (a b n how c e i g s j u m k : Int) (w : World)
    (C1f : Hid (∀ w, Calls Tryz.prog 5 #[.int .i64 n] w fun e' w' => e' = .returned (.tuple #[.int .i64 c, .int .i64 e]) ∧ Below w.heap.size w w'))
    (C1b : Hid (∀ w, Calls Tryz.prog 6 #[.int .i64 n] w fun e' w' => e' = .returned (.tuple #[.int .i64 c, .int .i64 e]) ∧ Below w.heap.size w w'))
    (C2f : Hid (∀ w, Calls Tryz.prog 7 #[.int .i64 a, .int .i64 how] w fun e' w' => e' = .returned (.tuple #[.int .i64 i, .int .i64 g]) ∧ Below w.heap.size w w'))
    (C2b : Hid (∀ w, Calls Tryz.prog 8 #[.int .i64 a, .int .i64 how] w fun e' w' => e' = .returned (.tuple #[.int .i64 i, .int .i64 g]) ∧ Below w.heap.size w w'))
    (C3f : Hid (∀ w, Calls Tryz.prog 9 #[.int .i64 a, .int .i64 b] w fun e' w' => e' = .returned (.tuple #[.int .i64 s, .int .i64 j]) ∧ Below w.heap.size w w'))
    (C3b : Hid (∀ w, Calls Tryz.prog 10 #[.int .i64 a, .int .i64 b] w fun e' w' => e' = .returned (.tuple #[.int .i64 s, .int .i64 j]) ∧ Below w.heap.size w w'))
    (C4f : Hid (∀ w, Calls Tryz.prog 11 #[.int .i64 a, .int .i64 b] w fun e' w' => e' = .returned (.tuple #[.int .i64 u, .int .i64 m]) ∧ Below w.heap.size w w'))
    (C4b : Hid (∀ w, Calls Tryz.prog 12 #[.int .i64 a, .int .i64 b] w fun e' w' => e' = .returned (.tuple #[.int .i64 u, .int .i64 m]) ∧ Below w.heap.size w w'))
    (K1 : Hid (∀ w, Calls Tryz.prog 13 #[.int .i64 a] w fun e' w' => e' = .returned (.int .i64 k) ∧ w = w'))
    (K2 : Hid (∀ w, Calls Tryz.prog 14 #[.int .i64 a] w fun e' w' => e' = .returned (.int .i64 k) ∧ w = w'))
    (CS : Hid (∀ x y w, Calls Tryz.prog 15 #[.int .i64 x, .int .i64 y, .int .i64 x, .int .i64 y] w fun e' w' => e' = .returned (.bool true) ∧ w = w'))
    (CA : Hid (∀ w, Calls Tryz.prog 16 #[] w fun e' w' => e' = .returned (.bool true) ∧ Below w.heap.size w w')) :
    Calls Tryz.prog 3 #[.int .i64 a, .int .i64 b, .int .i64 n, .int .i64 how] w fun e' w' => e' = .returned (.bool true) ∧ Below w.heap.size w w' := by
  go_enter Tryz.func3, Tryz.ntmps3
  go_wp2_with (first | (go_at_call 5; refine (C1f.out _).mono ?_; rintro e' w1 ⟨rfl, hb1⟩; have HB1 := Lib.hid hb1; clear hb1) | (go_at_call 6; refine (C1b.out _).mono ?_; rintro e' w2 ⟨rfl, hb2⟩; have HB2 := Lib.hid hb2; clear hb2) | (go_at_call 7; refine (C2f.out _).mono ?_; rintro e' w3 ⟨rfl, hb3⟩; have HB3 := Lib.hid hb3; clear hb3) | (go_at_call 8; refine (C2b.out _).mono ?_; rintro e' w4 ⟨rfl, hb4⟩; have HB4 := Lib.hid hb4; clear hb4) | (go_at_call 9; refine (C3f.out _).mono ?_; rintro e' w5 ⟨rfl, hb5⟩; have HB5 := Lib.hid hb5; clear hb5) | (go_at_call 10; refine (C3b.out _).mono ?_; rintro e' w6 ⟨rfl, hb6⟩; have HB6 := Lib.hid hb6; clear hb6) | (go_at_call 11; refine (C4f.out _).mono ?_; rintro e' w7 ⟨rfl, hb7⟩; have HB7 := Lib.hid hb7; clear hb7) | (go_at_call 12; refine (C4b.out _).mono ?_; rintro e' w8 ⟨rfl, hb8⟩; have HB8 := Lib.hid hb8; clear hb8) | (go_at_call 13; refine (K1.out _).mono ?_; rintro e' w' ⟨rfl, rfl⟩) | (go_at_call 14; refine (K2.out _).mono ?_; rintro e' w' ⟨rfl, rfl⟩) | (go_at_call 15; refine (CS.out _ _ _).mono ?_; rintro e' w' ⟨rfl, rfl⟩) | (go_at_call 16; refine (CA.out _).mono ?_; rintro e' w9 ⟨rfl, hb9⟩; have HB9 := Lib.hid hb9; clear hb9))
  go_ret
  exact ⟨rfl, kcb (kcb (kcb (kcb (kcb (kcb (kcb (kcb HB1.out HB2.out) HB3.out) HB4.out) HB5.out) HB6.out) HB7.out) HB8.out) HB9.out⟩

theorem sums_any (a b n how : Int) (w : World) :
    Calls Tryz.prog 3 #[.int .i64 a, .int .i64 b, .int .i64 n, .int .i64 how] w fun e' w' => e' = .returned (.bool true) ∧ Below w.heap.size w w' := by
  refine sums_walk a b n how _ _ _ _ _ _ _ _ (if Vld a then 0 else 2) w (fun w => of_fix n w) (fun w => refOfF n w) (fun w => int_any a how w) (fun w => refIntF a how w) (fun w => add_fix a b w) (fun w => refAddF a b w) (fun w => sub_fix a b w) (fun w => refSubF a b w) (fun w => ?_) (fun w => refCheck a w) (fun x y w => same_any x y w) (fun w => alive_any w)
  by_cases h : Vld a
  · rw [if_pos h]
    exact check_ok a w h
  · rw [if_neg h]
    exact check_bad a w h

end Go.Proofs.YtfpfpmacobkmhaaGreatDoor
