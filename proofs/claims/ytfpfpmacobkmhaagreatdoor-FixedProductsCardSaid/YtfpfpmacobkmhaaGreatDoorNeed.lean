/- The contract of package fixed's need: it returns if all numbers are valid, and otherwise stops with the fault ErrArg. Condition: the slice's cells are known. -/
import Derived.Test.YtfpfpmacobkmhaaGreatDoorAtt
namespace Go.Proofs.YtfpfpmacobkmhaaGreatDoor
open Go Go.RowKit

set_option maxHeartbeats 400000 in
theorem need_ok (n b : Nat) (x : Nat → Int) (w : World) (hn : n ≤ 9223372036854775807) (hc : ∀ k, k < n → w.cell? ⟨b, k, none⟩ = some (.int .i64 (x k))) (hv : ∀ k, k < n → Vld (x k)) :
    Calls Tryz.prog 28 #[.slice (some ⟨b, 0, none⟩) n n] w fun e w' => e = .returned (.tuple #[]) ∧ w = w' := by
  have HC := Lib.hid hc
  have HV := Lib.hid hv
  clear hc hv
  go_enter Tryz.func28, Tryz.ntmps28
  go_wp2_with fail
  go_loop [6] (fun i => ∃ k : Nat, k ≤ n ∧ i = .int .i64 k) (fun i => n - (intOf i).toNat)
  case atStart => exact ⟨0, Nat.zero_le _, rfl⟩
  case round =>
    obtain ⟨k, hk, rfl⟩ := hrel
    by_cases hlt : k < n
    · have hcell := HC.out k hlt
      have hvk := Lib.hid (HV.out k hlt)
      go_wp2_with (go_at_call 13; refine (check_ok _ _ hvk.out).mono ?_; rintro e w' ⟨rfl, rfl⟩)
      go_round
      case rel => exact ⟨k + 1, by omega, by go_num⟩
      case measure => simp [intOf]; omega
    · go_wp2_with fail
      go_end0
      exact ⟨rfl, rfl⟩

set_option maxHeartbeats 400000 in
theorem need_bad (n b j : Nat) (x : Nat → Int) (w : World) (hn : n ≤ 9223372036854775807) (hj : j < n) (hc : ∀ k, k < n → w.cell? ⟨b, k, none⟩ = some (.int .i64 (x k))) (hv : ∀ k, k < j → Vld (x k)) (hb : ¬ Vld (x j)) :
    Calls Tryz.prog 28 #[.slice (some ⟨b, 0, none⟩) n n] w fun e w' => e = flt 2 ∧ w = w' := by
  have HC := Lib.hid hc
  have HV := Lib.hid hv
  have HB := Lib.hid hb
  clear hc hv hb
  go_enter Tryz.func28, Tryz.ntmps28
  go_wp2_with fail
  go_loop [6] (fun i => ∃ k : Nat, k ≤ j ∧ i = .int .i64 k) (fun i => j - (intOf i).toNat)
  case atStart => exact ⟨0, Nat.zero_le _, rfl⟩
  case round =>
    obtain ⟨k, hk, rfl⟩ := hrel
    have hlt : k < n := by omega
    have hcell := HC.out k hlt
    by_cases hkj : k < j
    · have hvk := Lib.hid (HV.out k hkj)
      go_wp2_with (go_at_call 13; refine (check_ok _ _ hvk.out).mono ?_; rintro e w' ⟨rfl, rfl⟩)
      go_round
      case rel => exact ⟨k + 1, by omega, by go_num⟩
      case measure => simp [intOf]; omega
    · obtain rfl : j = k := by omega
      go_wp2_with (go_at_call 13; refine (check_bad _ _ HB.out).mono ?_; rintro e w' ⟨rfl, rfl⟩)
      exact ⟨rfl, rfl, rfl⟩

/-- attempt, both ways in one: a value with the error 0, or the value 0 with an error. -/
theorem attempt_fix (K : Nat) (cap : Array Value) (r : Int × Int) (w : World) (hcf : ∀ args w, (callFunc K args).run Tryz.prog w = .ok (.enter K args) w)
    (cc : (r.2 = 0 ∧ ∀ W, Below w.heap.size w W → Calls Tryz.prog K cap W fun e w' => e = .returned (.int .i64 r.1) ∧ Below W.heap.size W w') ∨
      (r.1 = 0 ∧ ∀ W, Below w.heap.size w W → Calls Tryz.prog K cap W fun e w' => e = flt r.2 ∧ Below W.heap.size W w')) :
    Calls Tryz.prog 37 #[.func (.func K) #[] cap] w fun e w' => e = .returned (.tuple #[.int .i64 r.1, .int .i64 r.2]) ∧ Below w.heap.size w w' := by
  rcases cc with ⟨h, cc⟩ | ⟨h, cc⟩
  · rw [h]; exact attempt_fix_ok K cap _ w hcf cc
  · rw [h]; exact attempt_fix_bad K cap _ w hcf cc

/-- attempt, both ways in one: a value with the error 0, or the value 0 with an error. -/
theorem attempt_int (K : Nat) (cap : Array Value) (r : Int × Int) (w : World) (hcf : ∀ args w, (callFunc K args).run Tryz.prog w = .ok (.enter K args) w)
    (cc : (r.2 = 0 ∧ ∀ W, Below w.heap.size w W → Calls Tryz.prog K cap W fun e w' => e = .returned (.int .i64 r.1) ∧ Below W.heap.size W w') ∨
      (r.1 = 0 ∧ ∀ W, Below w.heap.size w W → Calls Tryz.prog K cap W fun e w' => e = flt r.2 ∧ Below W.heap.size W w')) :
    Calls Tryz.prog 26 #[.func (.func K) #[] cap] w fun e w' => e = .returned (.tuple #[.int .i64 r.1, .int .i64 r.2]) ∧ Below w.heap.size w w' := by
  rcases cc with ⟨h, cc⟩ | ⟨h, cc⟩
  · rw [h]; exact attempt_int_ok K cap _ w hcf cc
  · rw [h]; exact attempt_int_bad K cap _ w hcf cc

/-- attempt at a spot, both ways in one. -/
theorem attempt_spot (K : Nat) (cap : Array Value) (x y n : Int) (w : World) (hcf : ∀ args w, (callFunc K args).run Tryz.prog w = .ok (.enter K args) w)
    (cc : (n = 0 ∧ ∀ W, Below w.heap.size w W → Calls Tryz.prog K cap W fun e w' => e = .returned (.agg #[.int .i64 x, .int .i64 y]) ∧ Below W.heap.size W w') ∨
      ((x = 0 ∧ y = 0) ∧ ∀ W, Below w.heap.size w W → Calls Tryz.prog K cap W fun e w' => e = flt n ∧ Below W.heap.size W w')) :
    Calls Tryz.prog 69 #[.func (.func K) #[] cap] w fun e w' => e = .returned (.tuple #[.agg #[.int .i64 x, .int .i64 y], .int .i64 n]) ∧ Below w.heap.size w w' := by
  rcases cc with ⟨h, cc⟩ | ⟨⟨h, h'⟩, cc⟩
  · rw [h]; exact attempt_spot_ok K cap _ _ w hcf cc
  · rw [h, h']; exact attempt_spot_bad K cap _ w hcf cc


end Go.Proofs.YtfpfpmacobkmhaaGreatDoor
