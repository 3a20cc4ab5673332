/- Lists with no stone in them, wherever they point: what the functions over a list answer. -/
import Derived.Test.YtfdhgimpdmhdeaaGreatDoorFind
import Derived.Test.YtfdhgimpdmhdeaaGreatDoorRefCheck
namespace Go.Proofs.YtfdhgimpdmhdeaaGreatDoor
open Go Go.RowKit Go.Sort

theorem pair_nil (F : St → St → Bool) : PairAt F [] (-1, -1) := .inr ⟨fun a b _ h => (by cases h), rfl⟩
theorem first_nil (F : St → Bool) : FirstS F [] (-1) := .inr ⟨rfl, fun j h => (by cases h)⟩
theorem valid_nil : Valid [] := ⟨by decide, fun i h => (by cases h), fun a b _ h => (by cases h)⟩

set_option maxRecDepth 100000 in
set_option maxHeartbeats 1000000 in
theorem firstPair_nil (K : Nat) (pt : Option Addr) (c : Nat) (w : World) :
    Calls Tryz.prog 58 #[.slice pt 0 c, .func (.func K) #[] #[]] w fun e w' => e = .returned (.tuple #[.int .i64 (-1), .int .i64 (-1)]) ∧ Below w.heap.size w w' := by
  go_enter Tryz.func58, Tryz.ntmps58
  go_wp2_with fail
  go_loopw [12] (fun iv wr => iv = .int .i64 0 ∧ Hid (Below w.heap.size w wr)) (fun _ _ => 0)
  case atStart => exact ⟨rfl, Below.refl _ _⟩
  case round =>
    obtain ⟨rfl, hB⟩ := hrel
    go_wp2_with fail
    go_ret2
    exact ⟨rfl, hB.out⟩

set_option maxRecDepth 100000 in
set_option maxHeartbeats 1000000 in
theorem overlap_nil (pt : Option Addr) (c : Nat) (w : World) :
    Calls Tryz.prog 42 #[.slice pt 0 c] w fun e w' => e = .returned (.tuple #[.int .i64 (-1), .int .i64 (-1)]) ∧ Below w.heap.size w w' := by
  have CF := Lib.hid (firstPair_nil 59 pt c w)
  go_enter Tryz.func42, Tryz.ntmps42
  go_wp2_with ((with_reducible refine CF.out.mono ?_); rintro e w1 ⟨rfl, hb1⟩; have HB1 := Lib.hid hb1; clear hb1)
  go_ret2
  exact ⟨rfl, HB1.out⟩

set_option maxRecDepth 100000 in
set_option maxHeartbeats 1000000 in
theorem refOverlap_nil (pt : Option Addr) (c : Nat) (w : World) :
    Calls Tryz.prog 48 #[.slice pt 0 c] w fun e w' => e = .returned (.tuple #[.int .i64 (-1), .int .i64 (-1)]) ∧ Below w.heap.size w w' := by
  go_enter Tryz.func48, Tryz.ntmps48
  go_wp2_with fail
  go_loopw [4] (fun iv wr => iv = .int .i64 0 ∧ Hid (Below w.heap.size w wr)) (fun _ _ => 0)
  case atStart => exact ⟨rfl, Below.refl _ _⟩
  case round =>
    obtain ⟨rfl, hB⟩ := hrel
    go_wp2_with fail
    go_ret2
    exact ⟨rfl, hB.out⟩

set_option maxRecDepth 100000 in
set_option maxHeartbeats 1000000 in
theorem check_nil (pt : Option Addr) (c : Nat) (w : World) :
    Calls Tryz.prog 19 #[.slice pt 0 c] w fun e w' => e = .returned (.bool true) ∧ Below w.heap.size w w' := by
  have hmm := @run_makeMap Tryz.prog
  have CO := Lib.hid (fun w => overlap_nil pt c w)
  have HK := Lib.hid (ka (Below.refl w.heap.size w) (.map #[] 0))
  go_enter Tryz.func19, Tryz.ntmps19
  go_wp2_with fail
  go_loopw [14] (fun iv wr => iv = .int .i64 0 ∧ Hid (Below w.heap.size w wr)) (fun _ _ => 0)
  case atStart => exact ⟨rfl, HK.out⟩
  case round =>
    obtain ⟨rfl, hB⟩ := hrel
    go_wp2_with (first | (go_at_call 42; refine (CO.out _).mono ?_; rintro e w7 ⟨rfl, hb7⟩; have HB7 := Lib.hid hb7; clear hb7))
    go_ret
    exact ⟨rfl, kc hB.out HB7.out⟩

set_option maxRecDepth 100000 in
set_option maxHeartbeats 1000000 in
theorem refCheck_nil (pt : Option Addr) (c : Nat) (w : World) :
    Calls Tryz.prog 25 #[.slice pt 0 c] w fun e w' => e = .returned (.bool true) ∧ Below w.heap.size w w' := by
  have CO := Lib.hid (fun w => refOverlap_nil pt c w)
  go_enter Tryz.func25, Tryz.ntmps25
  go_wp2_with fail
  go_loopw [3] (fun iv wr => iv = .int .i64 0 ∧ Hid (Below w.heap.size w wr)) (fun _ _ => 0)
  case atStart => exact ⟨rfl, Below.refl _ _⟩
  case round =>
    obtain ⟨rfl, hB⟩ := hrel
    go_wp2_with (first | (go_at_call 48; refine (CO.out _).mono ?_; rintro e w7 ⟨rfl, hb7⟩; have HB7 := Lib.hid hb7; clear hb7))
    go_ret
    exact ⟨rfl, kc hB.out HB7.out⟩

end Go.Proofs.YtfdhgimpdmhdeaaGreatDoor
