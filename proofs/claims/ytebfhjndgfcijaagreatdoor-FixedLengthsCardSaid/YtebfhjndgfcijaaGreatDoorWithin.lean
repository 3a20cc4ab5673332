/- The contract of package fixed's Within. No conditions. -/
import Derived.Test.YtebfhjndgfcijaaGreatDoorNeeds
import Derived.Test.YtebfhjndgfcijaaGreatDoorUnit
import Derived.BigQuiet
import Derived.Deep.QuietTactic
namespace Go.Proofs.YtebfhjndgfcijaaGreatDoor
open Go Go.RowKit

set_option maxHeartbeats 1000000 in
theorem within_below (x y r : Int) (Ap Rp : Nat) (w : World) (hv : Vld x ∧ Vld y ∧ Vld r) (hr : r < 0) (c0 : w.cell? ⟨Ap, 0, none⟩ = some (.int .i64 x)) (c1 : w.cell? ⟨Ap, 1, none⟩ = some (.int .i64 y)) (c2 : w.cell? ⟨Rp, 0, none⟩ = some (.int .i64 r)) :
    Calls Tryz.prog 94 #[.pointer (some ⟨Ap, 0, none⟩), .pointer (some ⟨Rp, 0, none⟩)] w fun e w' => e = .returned (.bool false) ∧ Below w.heap.size w w' := by
  have HV := Lib.hid hv
  have hd : decide ((0 : Int) ≤ r) = false := decide_eq_false (by omega)
  clear hv
  go_enter Tryz.func94, Tryz.ntmps94
  go_wp2_with (go_at_call 62; refine (need3_ok x y r _ _ HV.out (by simp [go_sem]) (by simp [go_sem]) (by simp [go_sem])).mono ?_; rintro e w' ⟨rfl, rfl⟩)
  have c10 := alloc_cell (o := .cells #[.int .i64 x, .int .i64 y, .int .i64 r] 22) c0
  have c11 := alloc_cell (o := .cells #[.int .i64 x, .int .i64 y, .int .i64 r] 22) c1
  have c12 := alloc_cell (o := .cells #[.int .i64 x, .int .i64 y, .int .i64 r] 22) c2
  have hB0 : Below w.heap.size w (w.alloc (.cells #[.int .i64 x, .int .i64 y, .int .i64 r] 22)).drew := ((Below.refl _ _).alloc (Nat.le_refl _) _).drew
  clear c0 c1 c2
  go_quiet (fail)
  go_wp2
  go_ret
  exact ⟨rfl, ((Below.refl w.heap.size w).alloc (Nat.le_refl _) _).trans ⟨rfl, rfl, rfl, by simp, fun _ _ => rfl⟩⟩

set_option maxHeartbeats 1000000 in
theorem within_in (x y r p q : Int) (Ap Rp : Nat) (w : World) (hv : Vld x ∧ Vld y ∧ Vld r) (hr : 0 ≤ r)
    (f1 : ∀ w, Calls Tryz.prog 76 #[.agg #[.int .i64 x, .int .i64 y], .agg #[.int .i64 x, .int .i64 y]] w fun e w' => e = .returned (.agg #[.int .i64 (hiOf p), .int .u64 (loOf p)]) ∧ Below w.heap.size w w')
    (f2 : ∀ w, Calls Tryz.prog 39 #[.int .i64 r, .int .i64 r] w fun e w' => e = .returned (.agg #[.int .i64 (hiOf q), .int .u64 (loOf q)]) ∧ Below w.heap.size w w')
    (c0 : w.cell? ⟨Ap, 0, none⟩ = some (.int .i64 x)) (c1 : w.cell? ⟨Ap, 1, none⟩ = some (.int .i64 y)) (c2 : w.cell? ⟨Rp, 0, none⟩ = some (.int .i64 r)) :
    Calls Tryz.prog 94 #[.pointer (some ⟨Ap, 0, none⟩), .pointer (some ⟨Rp, 0, none⟩)] w fun e w' => e = .returned (.bool (decide (cmp3 p q ≤ 0))) ∧ Below w.heap.size w w' := by
  have HV := Lib.hid hv
  have hd : decide ((0 : Int) ≤ r) = true := decide_eq_true hr
  have C1 := Lib.hid f1
  have C2 := Lib.hid f2
  obtain ⟨c, hc⟩ : ∃ c, cmp3 p q = c := ⟨_, rfl⟩
  have cc := fun w => compare_any p q w
  rw [hc] at cc
  rw [hc]
  have CC := Lib.hid cc
  clear hv f1 f2 cc hc
  go_enter Tryz.func94, Tryz.ntmps94
  go_wp2_with (go_at_call 62; refine (need3_ok x y r _ _ HV.out (by simp [go_sem]) (by simp [go_sem]) (by simp [go_sem])).mono ?_; rintro e w' ⟨rfl, rfl⟩)
  have c10 := alloc_cell (o := .cells #[.int .i64 x, .int .i64 y, .int .i64 r] 22) c0
  have c11 := alloc_cell (o := .cells #[.int .i64 x, .int .i64 y, .int .i64 r] 22) c1
  have c12 := alloc_cell (o := .cells #[.int .i64 x, .int .i64 y, .int .i64 r] 22) c2
  have hB0 : Below w.heap.size w (w.alloc (.cells #[.int .i64 x, .int .i64 y, .int .i64 r] 22)).drew := ((Below.refl _ _).alloc (Nat.le_refl _) _).drew
  clear c0 c1 c2
  go_region_held3 (fun w' => w'.cell? ⟨Ap, 0, none⟩ = some (.int .i64 x) ∧ w'.cell? ⟨Ap, 1, none⟩ = some (.int .i64 y) ∧ w'.cell? ⟨Rp, 0, none⟩ = some (.int .i64 r) ∧ Below w.heap.size w w')
    (go_keep)
    ((first | (go_at_call 76; refine (C1.out _).mono ?_; rintro e w1 ⟨rfl, hb1⟩; have c20 := cell_later hb1 c10; have c21 := cell_later hb1 c11; have c22 := cell_later hb1 c12; have hB1 := hB0.trans (hb1.mono (by simp))) | (go_at_call 39; refine (C2.out _).mono ?_; rintro e w2 ⟨rfl, hb2⟩; have c30 := cell_later hb2 c20; have c31 := cell_later hb2 c21; have c32 := cell_later hb2 c22; have hB2 := hB1.trans (hb2.mono hB1.size)) | (go_at_call 90; refine (CC.out _).mono ?_; rintro e w3 ⟨rfl, hb3⟩; have c40 := cell_later hb3 c30; have c41 := cell_later hb3 c31; have c42 := cell_later hb3 c32; have hB3 := hB2.trans (hb3.mono hB2.size))))
  go_wp2
  go_ret
  exact ⟨rfl, hB3⟩

set_option maxHeartbeats 1000000 in
theorem within_arg (x y r : Int) (Ap Rp : Nat) (w : World) (hv : ¬ (Vld x ∧ Vld y ∧ Vld r)) (c0 : w.cell? ⟨Ap, 0, none⟩ = some (.int .i64 x)) (c1 : w.cell? ⟨Ap, 1, none⟩ = some (.int .i64 y)) (c2 : w.cell? ⟨Rp, 0, none⟩ = some (.int .i64 r)) :
    Calls Tryz.prog 94 #[.pointer (some ⟨Ap, 0, none⟩), .pointer (some ⟨Rp, 0, none⟩)] w fun e w' => e = flt 2 ∧ Below w.heap.size w w' := by
  have HV := Lib.hid hv
  clear hv
  go_enter Tryz.func94, Tryz.ntmps94
  go_wp2_with (go_at_call 62; refine (need3_bad x y r _ _ HV.out (by simp [go_sem]) (by simp [go_sem]) (by simp [go_sem])).mono ?_; rintro e w' ⟨rfl, rfl⟩)
  exact ⟨rfl, rfl, (Below.refl w.heap.size w).alloc (Nat.le_refl _) _⟩

theorem enters_within (args : Array Value) (w : World) : (callFunc 94 args).run Tryz.prog w = .ok (.enter 94 args) w := by
  simp [go_sem]

set_option maxHeartbeats 1000000 in
theorem within_out (x y r : Int) (b : Bool) (n : Int) (w : World)
    (hin : (n = 0 ∧ ∀ Ap Rp W, W.cell? ⟨Ap, 0, none⟩ = some (.int .i64 x) → W.cell? ⟨Ap, 1, none⟩ = some (.int .i64 y) → W.cell? ⟨Rp, 0, none⟩ = some (.int .i64 r) →
        Calls Tryz.prog 94 #[.pointer (some ⟨Ap, 0, none⟩), .pointer (some ⟨Rp, 0, none⟩)] W fun e w' => e = .returned (.bool b) ∧ Below W.heap.size W w') ∨
      (b = false ∧ ∀ Ap Rp W, W.cell? ⟨Ap, 0, none⟩ = some (.int .i64 x) → W.cell? ⟨Ap, 1, none⟩ = some (.int .i64 y) → W.cell? ⟨Rp, 0, none⟩ = some (.int .i64 r) →
        Calls Tryz.prog 94 #[.pointer (some ⟨Ap, 0, none⟩), .pointer (some ⟨Rp, 0, none⟩)] W fun e w' => e = flt n ∧ Below W.heap.size W w')) :
    Calls Tryz.prog 31 #[.agg #[.int .i64 x, .int .i64 y], .int .i64 r] w fun e w' => e = .returned (.tuple #[.bool b, .int .i64 n]) ∧ Below w.heap.size w w' := by
  have hmf : ∀ (fn : Fn) (first cap : Array Value) (w : World), (Instr.makeFunc fn first cap).run Tryz.prog w = .ok (.func fn first cap) w := fun _ _ _ _ => rfl
  have ha := attempt_bool 94 #[.pointer (some ⟨w.heap.size, 0, none⟩), .pointer (some ⟨w.heap.size + 1, 0, none⟩)] b n
    ((w.alloc (.cells #[.int .i64 x, .int .i64 y] 33)).alloc (.cells #[.int .i64 r] 22)) enters_within
    (by
      rcases hin with ⟨h, hin⟩ | ⟨h, hin⟩
      · exact .inl ⟨h, fun W hb => hin _ _ W (cell_later hb (by simp [go_sem])) (cell_later hb (by simp [go_sem])) (cell_later hb (by simp [go_sem]))⟩
      · exact .inr ⟨h, fun W hb => hin _ _ W (cell_later hb (by simp [go_sem])) (cell_later hb (by simp [go_sem])) (cell_later hb (by simp [go_sem]))⟩)
  have HA := Lib.hid ha
  clear ha hin
  go_enter Tryz.func31, Tryz.ntmps31
  go_wp2_with (go_at_call 93; refine HA.out.mono ?_; rintro e w1 ⟨rfl, hb⟩)
  go_ret2
  exact ⟨rfl, (((Below.refl w.heap.size w).alloc (Nat.le_refl _) _).alloc (by simp) _).trans (hb.mono (by simp; omega))⟩

/-- What Within gives: the answer and the error. -/
def withinS (x y r : Int) : Bool × Int :=
  if Vld x ∧ Vld y ∧ Vld r then (decide (0 ≤ r) && decide (cmp3 ((x.natAbs * x.natAbs + y.natAbs * y.natAbs : Nat) : Int) (r * r) ≤ 0), 0) else (false, 2)

theorem within_any (x y r : Int) (w : World) :
    Calls Tryz.prog 31 #[.agg #[.int .i64 x, .int .i64 y], .int .i64 r] w fun e w' => e = .returned (.tuple #[.bool (withinS x y r).1, .int .i64 (withinS x y r).2]) ∧ Below w.heap.size w w' := by
  apply within_out
  unfold withinS
  by_cases hv : Vld x ∧ Vld y ∧ Vld r
  · rw [if_pos hv]
    have h := hv.2.2
    unfold Vld at h
    by_cases hr : 0 ≤ r
    · refine .inl ⟨rfl, fun A R W c0 c1 c2 => ?_⟩
      have := within_in x y r _ _ A R W hv hr (fun w => dot_self x y w ⟨hv.1, hv.2.1⟩) (fun w => product_any r r w (by omega) (by omega) (by omega) (by omega)) c0 c1 c2
      rw [decide_eq_true hr, Bool.true_and]
      exact this
    · refine .inl ⟨rfl, fun A R W c0 c1 c2 => ?_⟩
      rw [decide_eq_false hr, Bool.false_and]
      exact within_below x y r A R W hv (by omega) c0 c1 c2
  · rw [if_neg hv]
    exact .inr ⟨rfl, fun A R W c0 c1 c2 => within_arg x y r A R W hv c0 c1 c2⟩

end Go.Proofs.YtebfhjndgfcijaaGreatDoor
