/- The contract of package fixed's Unit: both coordinates divided by the length, rounded by Cut, or the error, as unitS says. No conditions. -/
import Derived.Test.YtfpfpmacobkmhaaGreatDoorUnit
namespace Go.Proofs.YtfpfpmacobkmhaaGreatDoor
open Go Go.RowKit

/-- What Unit gives: the coordinates and the error. -/
def unitS (x y : Int) : (Int × Int) × Int :=
  if Vld x ∧ Vld y then (if x = 0 ∧ y = 0 then ((0, 0), 10) else ((shareS x (x.natAbs * x.natAbs + y.natAbs * y.natAbs), shareS y (x.natAbs * x.natAbs + y.natAbs * y.natAbs)), 0)) else ((0, 0), 2)

theorem enters_unit (args : Array Value) (w : World) : (callFunc 70 args).run Tryz.prog w = .ok (.enter 70 args) w := by
  simp [go_sem]

set_option maxHeartbeats 1000000 in
theorem unit_out (x y u v n : Int) (w : World)
    (hin : (n = 0 ∧ ∀ A W, W.cell? ⟨A, 0, none⟩ = some (.int .i64 x) → W.cell? ⟨A, 1, none⟩ = some (.int .i64 y) →
        Calls Tryz.prog 70 #[.pointer (some ⟨A, 0, none⟩)] W fun e w' => e = .returned (.agg #[.int .i64 u, .int .i64 v]) ∧ Below W.heap.size W w') ∨
      ((u = 0 ∧ v = 0) ∧ ∀ A W, W.cell? ⟨A, 0, none⟩ = some (.int .i64 x) → W.cell? ⟨A, 1, none⟩ = some (.int .i64 y) →
        Calls Tryz.prog 70 #[.pointer (some ⟨A, 0, none⟩)] W fun e w' => e = flt n ∧ Below W.heap.size W w')) :
    Calls Tryz.prog 42 #[.agg #[.int .i64 x, .int .i64 y]] w fun e w' => e = .returned (.tuple #[.agg #[.int .i64 u, .int .i64 v], .int .i64 n]) ∧ Below w.heap.size w w' := by
  have hmf : ∀ (fn : Fn) (first cap : Array Value) (w : World), (Instr.makeFunc fn first cap).run Tryz.prog w = .ok (.func fn first cap) w := fun _ _ _ _ => rfl
  have ha := attempt_spot 70 #[.pointer (some ⟨w.heap.size, 0, none⟩)] u v n
    ((w.alloc (.cells #[.int .i64 x, .int .i64 y] 69)).alloc (.cells #[.int .i64 0, .int .i64 0] 69)) enters_unit
    (by
      rcases hin with ⟨h, hin⟩ | ⟨h, hin⟩
      · exact .inl ⟨h, fun W hb => hin _ W (cell_later hb (by simp [go_sem])) (cell_later hb (by simp [go_sem]))⟩
      · exact .inr ⟨h, fun W hb => hin _ W (cell_later hb (by simp [go_sem])) (cell_later hb (by simp [go_sem]))⟩)
  have HA := Lib.hid ha
  clear ha hin
  go_enter Tryz.func42, Tryz.ntmps42
  go_wp2_with fail
  refine HA.out.mono ?_
  rintro e w1 ⟨rfl, hb⟩
  obtain ⟨hc, hf⟩ := bcell hb
  have t0 : w1.cell? ⟨w.heap.size + 1, 0, none⟩ = some (.int .i64 0) := cell_later hb (by simp [go_sem])
  have t1 : w1.cell? ⟨w.heap.size + 1, 1, none⟩ = some (.int .i64 0) := cell_later hb (by simp [go_sem])
  go_wp2
  obtain ⟨k1, k2⟩ := set_pair (.int .i64 u) (.int .i64 v) t0 t1
  exact bodyPost_ret (v := .tuple #[.agg #[.int .i64 u, .int .i64 v], .int .i64 n]) (by simp [results, Tryz.results42, go_sem, k1, k2]) rfl
    ⟨rfl, (((((Below.refl w.heap.size w).alloc (Nat.le_refl _) _).alloc (by simp) _).trans (hb.mono (by simp; omega))).setCell (by simp) _).setCell (by simp) _⟩

theorem unit_any (x y : Int) (w : World) :
    Calls Tryz.prog 42 #[.agg #[.int .i64 x, .int .i64 y]] w fun e w' => e = .returned (.tuple #[.agg #[.int .i64 (unitS x y).1.1, .int .i64 (unitS x y).1.2], .int .i64 (unitS x y).2]) ∧ Below w.heap.size w w' := by
  apply unit_out
  unfold unitS
  by_cases hv : Vld x ∧ Vld y
  · rw [if_pos hv]
    by_cases hz : x = 0 ∧ y = 0
    · rw [if_pos hz]
      obtain ⟨rfl, rfl⟩ := hz
      exact .inr ⟨⟨rfl, rfl⟩, fun A W c0 c1 => unit_in_zero A W c0 c1⟩
    · rw [if_neg hz]
      exact .inl ⟨rfl, fun A W c0 c1 => unit_in_ok x y A _ W hv hz rfl c0 c1⟩
  · rw [if_neg hv]
    exact .inr ⟨⟨rfl, rfl⟩, fun A W c0 c1 => unit_in_arg x y A W hv c0 c1⟩

end Go.Proofs.YtfpfpmacobkmhaaGreatDoor
