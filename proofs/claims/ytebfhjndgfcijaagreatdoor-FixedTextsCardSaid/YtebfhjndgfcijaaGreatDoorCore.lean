/- The contracts of the small functions of package fixed: size, Check, fitting, needRate and the four ways of rounding. Conditions: numbers of 64 bits. -/
import Derived.Test.YtebfhjndgfcijaaGreatDoorShelf
import Derived.WalkKit
import Derived.WalkSpells
import Derived.WalkLawsBesides
import Derived.Lib.Hide
namespace Go.Proofs.YtebfhjndgfcijaaGreatDoor
open Go.RowKit

theorem ret_int {k : IntKind} {a b : Int} (h : a = b) : Ending.returned (.int k a) = .returned (.int k b) := by rw [h]

set_option maxHeartbeats 400000 in
theorem size_neg (a : Int) (w : World) (h0 : -9223372036854775807 ≤ a) (h1 : a < 0) :
    Calls Tryz.prog 41 #[.int .i64 a] w fun e w' => e = .returned (.int .u64 (a.natAbs : Int)) ∧ w = w' := by
  go_enter Tryz.func41, Tryz.ntmps41
  go_wp2
  go_ret
  exact ⟨ret_int (by omega), rfl⟩

set_option maxHeartbeats 400000 in
theorem size_pos (a : Int) (w : World) (h0 : 0 ≤ a) (h1 : a ≤ 9223372036854775807) :
    Calls Tryz.prog 41 #[.int .i64 a] w fun e w' => e = .returned (.int .u64 (a.natAbs : Int)) ∧ w = w' := by
  go_enter Tryz.func41, Tryz.ntmps41
  go_wp2
  go_ret
  exact ⟨ret_int (by omega), rfl⟩

theorem size_any (a : Int) (w : World) (h0 : -9223372036854775807 ≤ a) (h1 : a ≤ 9223372036854775807) :
    Calls Tryz.prog 41 #[.int .i64 a] w fun e w' => e = .returned (.int .u64 (a.natAbs : Int)) ∧ w = w' := by
  by_cases h : a < 0
  · exact size_neg a w h0 h
  · exact size_pos a w (by omega) h1

/-- A valid number. -/
def Vld (a : Int) : Prop := -70368744177664 ≤ a ∧ a ≤ 70368744177664
instance (a : Int) : Decidable (Vld a) := by unfold Vld; infer_instance

set_option maxHeartbeats 400000 in
theorem check_ok (a : Int) (w : World) (h : Vld a) :
    Calls Tryz.prog 54 #[.int .i64 a] w fun e w' => e = .returned (.int .i64 0) ∧ w = w' := by
  obtain ⟨h0, h1⟩ := h
  go_enter Tryz.func54, Tryz.ntmps54
  go_wp2
  go_ret
  exact ⟨rfl, rfl⟩

set_option maxHeartbeats 400000 in
theorem check_bad (a : Int) (w : World) (h : ¬ Vld a) :
    Calls Tryz.prog 54 #[.int .i64 a] w fun e w' => e = .returned (.int .i64 2) ∧ w = w' := by
  have h' : a < -70368744177664 ∨ 70368744177664 < a := by unfold Vld at h; omega
  clear h
  rcases h' with h | h
  · go_enter Tryz.func54, Tryz.ntmps54
    go_wp2
    go_ret
    exact ⟨rfl, rfl⟩
  · have h2 : -70368744177664 ≤ a := by omega
    go_enter Tryz.func54, Tryz.ntmps54
    go_wp2
    go_ret
    exact ⟨rfl, rfl⟩

/-- The end of a call that stops with a fault. -/
abbrev flt (n : Int) : Ending := .panicked [{ v := .iface 62 (.int .i64 n), recovered := false }]

set_option maxHeartbeats 400000 in
theorem fitting_ok (a : Int) (w : World) (h : Vld a) :
    Calls Tryz.prog 65 #[.int .i64 a] w fun e w' => e = .returned (.int .i64 a) ∧ w = w' := by
  go_enter Tryz.func65, Tryz.ntmps65
  go_wp2_with (go_at_call 54; refine (check_ok _ _ h).mono ?_; rintro e w' ⟨rfl, rfl⟩)
  go_ret
  exact ⟨rfl, rfl⟩

set_option maxHeartbeats 400000 in
theorem fitting_bad (a : Int) (w : World) (h : ¬ Vld a) :
    Calls Tryz.prog 65 #[.int .i64 a] w fun e w' => e = flt 4 ∧ w = w' := by
  go_enter Tryz.func65, Tryz.ntmps65
  go_wp2_with (go_at_call 54; refine (check_bad _ _ h).mono ?_; rintro e w' ⟨rfl, rfl⟩)
  exact ⟨rfl, rfl, rfl⟩

/-- The function that a way of rounding is. -/
def wayFn (how : Int) : Nat := if how = 0 then 99 else if how = 1 then 100 else if how = 2 then 101 else 102

theorem how_cases {how : Int} (h0 : 0 ≤ how) (h1 : how ≤ 3) : how = 0 ∨ how = 1 ∨ how = 2 ∨ how = 3 := by omega

set_option maxHeartbeats 400000 in
theorem way_ok (how : Int) (w : World) (h0 : 0 ≤ how) (h1 : how ≤ 3) :
    Calls Tryz.prog 36 #[.int .i64 how] w fun e w' => e = .returned (.func (.func (wayFn how)) #[] #[]) ∧ w = w' := by
  rcases how_cases h0 h1 with rfl | rfl | rfl | rfl <;> clear h0 h1
  all_goals
    go_enter Tryz.func36, Tryz.ntmps36
    go_wp2
    go_ret
    exact ⟨rfl, rfl⟩

set_option maxHeartbeats 400000 in
theorem way_bad (how : Int) (w : World) (h : how < 0 ∨ 3 < how) :
    Calls Tryz.prog 36 #[.int .i64 how] w fun e w' => e = flt 2 ∧ w = w' := by
  have e0 : (how == 0) = false := beq_eq_false_iff_ne.2 (by omega)
  have e1 : (how == 1) = false := beq_eq_false_iff_ne.2 (by omega)
  have e2 : (how == 2) = false := beq_eq_false_iff_ne.2 (by omega)
  have e3 : (how == 3) = false := beq_eq_false_iff_ne.2 (by omega)
  clear h
  go_enter Tryz.func36, Tryz.ntmps36
  go_wp2
  exact ⟨rfl, rfl, rfl⟩

/-- Is the size of a number that is rest / gap above an integer rounded up? -/
def upB (how : Int) (minus : Bool) (rest gap : Int) : Bool :=
  if how = 0 then false else if how = 1 then minus && decide (0 < rest) else if how = 2 then !minus && decide (0 < rest) else decide (gap - rest ≤ rest)

set_option maxHeartbeats 400000 in
theorem up_any (how : Int) (h0 : 0 ≤ how) (h1 : how ≤ 3) (minus : Bool) (rest gap : Int) (hr : 0 ≤ rest) (hg : rest < gap) (hm : gap ≤ 9223372036854775807) (w : World) :
    Calls Tryz.prog (wayFn how) #[.bool minus, .int .u64 rest, .int .u64 gap] w fun e w' => e = .returned (.bool (upB how minus rest gap)) ∧ w = w' := by
  rcases how_cases h0 h1 with rfl | rfl | rfl | rfl <;> clear h0 h1
  · show Calls Tryz.prog 99 _ _ _
    go_enter Tryz.func99, Tryz.ntmps99
    go_wp2
    go_ret
    exact ⟨rfl, rfl⟩
  · show Calls Tryz.prog 100 _ _ _
    cases minus <;> by_cases h : 0 < rest
    all_goals
      go_enter Tryz.func100, Tryz.ntmps100
      go_wp2
      go_ret
      exact ⟨by simp [upB, h], rfl⟩
  · show Calls Tryz.prog 101 _ _ _
    cases minus <;> by_cases h : 0 < rest
    all_goals
      go_enter Tryz.func101, Tryz.ntmps101
      go_wp2
      go_ret
      exact ⟨by simp [upB, h], rfl⟩
  · show Calls Tryz.prog 102 _ _ _
    by_cases h : gap - rest ≤ rest
    all_goals
      go_enter Tryz.func102, Tryz.ntmps102
      go_wp2
      go_ret
      exact ⟨by simp [upB, h], rfl⟩

end Go.Proofs.YtebfhjndgfcijaaGreatDoor
