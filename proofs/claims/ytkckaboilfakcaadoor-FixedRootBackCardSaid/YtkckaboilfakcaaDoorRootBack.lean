/- besomlaw01.FixedRootBack: true, whatever the number. -/
import Derived.Test.YtkckaboilfakcaaDoorAlive
import Derived.Test.YtkckaboilfakcaaDoorRootf
namespace Go.Proofs.YtkckaboilfakcaaDoor
open Go Go.RowKit

set_option maxRecDepth 100000 in
set_option maxHeartbeats 1000000 in
theorem rootBack_err (a f : Int) (w : World) (hf : f = 2 ∨ f = 11)
    (cr : ∀ w, Calls Tryd.prog 21 #[.int .i64 a, .int .i64 1] w fun e w' => e = .returned (.tuple #[.int .i64 0, .int .i64 f]) ∧ Below w.heap.size w w') :
    Calls Tryd.prog 5 #[.int .i64 a] w fun e w' => e = .returned (.bool true) ∧ Below w.heap.size w w' := by
  have CR := Lib.hid cr
  have CA := Lib.hid (fun w => alive_any w)
  clear cr
  rcases hf with rfl | rfl
  all_goals
    go_enter Tryd.func5, Tryd.ntmps5
    go_wp2_with (first | (go_at_call 9; refine (CA.out _).mono ?_; rintro e w1 ⟨rfl, hb1⟩) | (go_at_call 21; refine (CR.out _).mono ?_; rintro e w2 ⟨rfl, hb2⟩))
    go_ret
    exact ⟨rfl, kc hb1 hb2⟩

set_option maxRecDepth 100000 in
set_option maxHeartbeats 1000000 in
theorem rootBack_ok (a s q v p : Nat) (w : World) (hs : s ≤ 2147483648) (ha : a ≤ 70368744177664)
    (k1 : IntKind.u64.wrap ((s : Int) * s) = q) (k2 : IntKind.u64.wrap ((a : Int) * 65536) = v) (k3 : IntKind.u64.wrap ((s : Int) + 1) = (s : Int) + 1) (k4 : IntKind.u64.wrap (((s : Int) + 1) * ((s : Int) + 1)) = p)
    (h1 : (q : Int) ≤ v) (h2 : (v : Int) < p)
    (cr : ∀ w, Calls Tryd.prog 21 #[.int .i64 a, .int .i64 1] w fun e w' => e = .returned (.tuple #[.int .i64 s, .int .i64 0]) ∧ Below w.heap.size w w') :
    Calls Tryd.prog 5 #[.int .i64 a] w fun e w' => e = .returned (.bool true) ∧ Below w.heap.size w w' := by
  have CR := Lib.hid cr
  have CA := Lib.hid (fun w => alive_any w)
  clear cr
  go_enter Tryd.func5, Tryd.ntmps5
  go_wp2_with (first | (go_at_call 9; refine (CA.out _).mono ?_; rintro e w1 ⟨rfl, hb1⟩) | (go_at_call 21; refine (CR.out _).mono ?_; rintro e w2 ⟨rfl, hb2⟩))
  go_ret
  exact ⟨rfl, kc hb1 hb2⟩

theorem rootBack_any (a : Int) (w : World) :
    Calls Tryd.prog 5 #[.int .i64 a] w fun e w' => e = .returned (.bool true) ∧ Below w.heap.size w w' := by
  have cr := fun w => rootf_any a 1 w
  by_cases hv : Vld a
  · by_cases ha : a < 0
    · have e : rootfS a 1 = (0, 11) := by unfold rootfS; rw [if_pos ⟨hv, by omega, by omega⟩, if_pos ha]
      rw [e] at cr
      exact rootBack_err a 11 w (.inr rfl) cr
    · obtain ⟨n, rfl⟩ : ∃ n : Nat, a = n := ⟨a.toNat, by omega⟩
      have hn : n ≤ 70368744177664 := by unfold Vld at hv; omega
      have e : rootfS n 1 = ((isq (n * 65536) : Int), 0) := by
        unfold rootfS
        rw [if_pos ⟨hv, by omega, by omega⟩, if_neg ha, Int.natAbs_natCast]
        unfold rootS
        simp [upB]
      rw [e] at cr
      have g0 := isq_le (n * 65536)
      have g1 := isq_lt (n * 65536)
      obtain ⟨s, hs⟩ : ∃ s, isq (n * 65536) = s := ⟨_, rfl⟩
      rw [hs] at g0 g1 cr
      have hs1 : s < 2147483649 := sq_lt (by omega)
      have hp := sq_mono (show s + 1 ≤ 2147483649 by omega)
      exact rootBack_ok n s (s * s) (n * 65536) ((s + 1) * (s + 1)) w (by omega) hn (by rw [← Int.natCast_mul]; exact wrap_nat (by omega)) (by rw [IntKind.wrap_u64]; omega) (by rw [IntKind.wrap_u64]; omega)
        (by rw [show ((s : Int) + 1) = ((s + 1 : Nat) : Int) by omega, ← Int.natCast_mul]; exact wrap_nat (by omega)) (by omega) (by omega) cr
  · have e : rootfS a 1 = (0, 2) := by unfold rootfS; rw [if_neg (fun h => hv h.1)]
    rw [e] at cr
    exact rootBack_err a 2 w (.inl rfl) cr

end Go.Proofs.YtkckaboilfakcaaDoor
