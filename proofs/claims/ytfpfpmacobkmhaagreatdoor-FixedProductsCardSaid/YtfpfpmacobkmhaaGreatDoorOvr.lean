/- The contract of package fixed's over: the rounded quotient of a number of 128 bits, or the fault ErrRange. Conditions: size below 2 to the power of 127, a divisor of 64 bits that is not 0, a way of rounding from 0 to 3. -/
import Derived.Test.YtfpfpmacobkmhaaGreatDoorOver
namespace Go.Proofs.YtfpfpmacobkmhaaGreatDoor
open Go Go.RowKit

theorem way_enters (how : Int) (h0 : 0 ≤ how) (h1 : how ≤ 3) (args : Array Value) (w : World) : (callFunc (wayFn how) args).run Tryz.prog w = .ok (.enter (wayFn how) args) w := by
  rcases how_cases h0 h1 with rfl | rfl | rfl | rfl
  all_goals
    simp [wayFn, go_sem]
    done

set_option maxHeartbeats 1000000 in
theorem over_pos_ok (v d m : Int) (K : Nat) (g q r : Nat) (t B : Bool) (w : World) (hcf : ∀ args w, (callFunc K args).run Tryz.prog w = .ok (.enter K args) w)
    (hv : 0 ≤ hiOf v) (hv1 : hiOf v ≤ 9223372036854775807) (d2 : decide (d < 0) = t)
    (cs : ∀ w, Calls Tryz.prog 57 #[.int .i64 d] w fun e w' => e = .returned (.int .u64 (g : Int)) ∧ w = w')
    (hg : ¬ (g : Int) ≤ hiOf v)
    (cd : ∀ w, Calls Tryz.prog 59 #[.int .u64 (hiOf v), .int .u64 (loOf v), .int .u64 g] w fun e w' => e = .returned (.tuple #[.int .u64 (q : Int), .int .u64 (r : Int)]) ∧ Below w.heap.size w w')
    (hm : min (q : Int) 70368744177665 = m) (m0 : 0 ≤ m) (m1 : m ≤ 70368744177665)
    (cu : ∀ w, Calls Tryz.prog K #[.bool (t), .int .u64 r, .int .u64 g] w fun e w' => e = .returned (.bool B) ∧ w = w')
    (hz : m + (if B then 1 else 0) ≤ 70368744177664) :
    Calls Tryz.prog 30 #[.agg #[.int .i64 (hiOf v), .int .u64 (loOf v)], .int .i64 d, .func (.func K) #[] #[]] w fun e w' => e = .returned (.int .i64 (if t then -(m + if B then 1 else 0) else m + if B then 1 else 0)) ∧ Below w.heap.size w w' := by
  have CS := Lib.hid cs
  have CD := Lib.hid cd
  have CU := Lib.hid cu
  have d1 : decide (hiOf v < 0) = false := decide_eq_false (by omega)
  clear cs cd cu
  cases t <;> cases B <;> simp only [if_true, if_false, Bool.false_eq_true] at hz
  all_goals
    go_enter Tryz.func30, Tryz.ntmps30
    go_wp2_with (first | (go_at_call 57; refine (CS.out _).mono ?_; rintro e w' ⟨rfl, rfl⟩) | (go_at_call 59; refine (CD.out _).mono ?_; rintro e w1 ⟨rfl, hb⟩) | (go_at_call 39; refine (fitting_ok _ _ (by unfold Vld; omega)).mono ?_; rintro e w' ⟨rfl, rfl⟩) | (with_reducible refine (CU.out _).mono ?_; rintro e w' ⟨rfl, rfl⟩))
    go_ret
    exact ⟨by simp, (((Below.refl w.heap.size w).alloc (Nat.le_refl _) _).trans (hb.mono (by simp)))⟩

set_option maxHeartbeats 1000000 in
theorem over_pos_bad (v d m : Int) (K : Nat) (g q r : Nat) (t B : Bool) (w : World) (hcf : ∀ args w, (callFunc K args).run Tryz.prog w = .ok (.enter K args) w)
    (hv : 0 ≤ hiOf v) (hv1 : hiOf v ≤ 9223372036854775807) (d2 : decide (d < 0) = t)
    (cs : ∀ w, Calls Tryz.prog 57 #[.int .i64 d] w fun e w' => e = .returned (.int .u64 (g : Int)) ∧ w = w')
    (hg : ¬ (g : Int) ≤ hiOf v)
    (cd : ∀ w, Calls Tryz.prog 59 #[.int .u64 (hiOf v), .int .u64 (loOf v), .int .u64 g] w fun e w' => e = .returned (.tuple #[.int .u64 (q : Int), .int .u64 (r : Int)]) ∧ Below w.heap.size w w')
    (hm : min (q : Int) 70368744177665 = m) (m0 : 0 ≤ m) (m1 : m ≤ 70368744177665)
    (cu : ∀ w, Calls Tryz.prog K #[.bool (t), .int .u64 r, .int .u64 g] w fun e w' => e = .returned (.bool B) ∧ w = w')
    (hz : 70368744177664 < m + (if B then 1 else 0)) :
    Calls Tryz.prog 30 #[.agg #[.int .i64 (hiOf v), .int .u64 (loOf v)], .int .i64 d, .func (.func K) #[] #[]] w fun e w' => e = flt 4 ∧ Below w.heap.size w w' := by
  have CS := Lib.hid cs
  have CD := Lib.hid cd
  have CU := Lib.hid cu
  have d1 : decide (hiOf v < 0) = false := decide_eq_false (by omega)
  clear cs cd cu
  cases t <;> cases B <;> simp only [if_true, if_false, Bool.false_eq_true] at hz
  all_goals
    go_enter Tryz.func30, Tryz.ntmps30
    go_wp2_with (first | (go_at_call 57; refine (CS.out _).mono ?_; rintro e w' ⟨rfl, rfl⟩) | (go_at_call 59; refine (CD.out _).mono ?_; rintro e w1 ⟨rfl, hb⟩) | (go_at_call 39; refine (fitting_bad _ _ (by unfold Vld; omega)).mono ?_; rintro e w' ⟨rfl, rfl⟩) | (with_reducible refine (CU.out _).mono ?_; rintro e w' ⟨rfl, rfl⟩))
    exact ⟨rfl, rfl, (((Below.refl w.heap.size w).alloc (Nat.le_refl _) _).trans (hb.mono (by simp)))⟩

set_option maxHeartbeats 1000000 in
theorem over_neg_ok (v d m : Int) (K : Nat) (g q r : Nat) (t B : Bool) (w : World) (hcf : ∀ args w, (callFunc K args).run Tryz.prog w = .ok (.enter K args) w)
    (hv : hiOf v < 0) (hv0 : 0 ≤ hiOf (-v)) (hv1 : hiOf (-v) ≤ 9223372036854775807) (d2 : decide (d < 0) = t)
    (cn : ∀ w, Calls Tryz.prog 58 #[.agg #[.int .i64 (hiOf v), .int .u64 (loOf v)]] w fun e w' => e = .returned (.agg #[.int .i64 (hiOf (-v)), .int .u64 (loOf (-v))]) ∧ Below w.heap.size w w')
    (cs : ∀ w, Calls Tryz.prog 57 #[.int .i64 d] w fun e w' => e = .returned (.int .u64 (g : Int)) ∧ w = w')
    (hg : ¬ (g : Int) ≤ hiOf (-v))
    (cd : ∀ w, Calls Tryz.prog 59 #[.int .u64 (hiOf (-v)), .int .u64 (loOf (-v)), .int .u64 g] w fun e w' => e = .returned (.tuple #[.int .u64 (q : Int), .int .u64 (r : Int)]) ∧ Below w.heap.size w w')
    (hm : min (q : Int) 70368744177665 = m) (m0 : 0 ≤ m) (m1 : m ≤ 70368744177665)
    (cu : ∀ w, Calls Tryz.prog K #[.bool (!t), .int .u64 r, .int .u64 g] w fun e w' => e = .returned (.bool B) ∧ w = w')
    (hz : m + (if B then 1 else 0) ≤ 70368744177664) :
    Calls Tryz.prog 30 #[.agg #[.int .i64 (hiOf v), .int .u64 (loOf v)], .int .i64 d, .func (.func K) #[] #[]] w fun e w' => e = .returned (.int .i64 (if !t then -(m + if B then 1 else 0) else m + if B then 1 else 0)) ∧ Below w.heap.size w w' := by
  have CS := Lib.hid cs
  have CD := Lib.hid cd
  have CU := Lib.hid cu
  have CN := Lib.hid cn
  clear cn
  have d1 : decide (hiOf v < 0) = true := decide_eq_true hv
  clear cs cd cu
  cases t <;> cases B <;> simp only [if_true, if_false, Bool.false_eq_true, Bool.not_true, Bool.not_false] at hz CU
  all_goals
    go_enter Tryz.func30, Tryz.ntmps30
    go_wp2_with (first | (go_at_call 57; refine (CS.out _).mono ?_; rintro e w' ⟨rfl, rfl⟩) | (go_at_call 59; refine (CD.out _).mono ?_; rintro e w1 ⟨rfl, hb⟩) | (go_at_call 39; refine (fitting_ok _ _ (by unfold Vld; omega)).mono ?_; rintro e w' ⟨rfl, rfl⟩) | (go_at_call 58; refine (CN.out _).mono ?_; rintro e w2 ⟨rfl, hb2⟩; obtain ⟨hc2, hf2⟩ := bcell hb2; obtain ⟨k1, k2⟩ := set_pair (w := w2) (b := w.heap.size) (.int .i64 (hiOf (-v))) (.int .u64 (loOf (-v))) (x := .int .i64 (hiOf v)) (y := .int .u64 (loOf v)) (by rw [hc2 _ _ (by simp)]; simp [go_sem]) (by rw [hc2 _ _ (by simp)]; simp [go_sem])) | (with_reducible refine (CU.out _).mono ?_; rintro e w' ⟨rfl, rfl⟩))
    go_ret
    exact ⟨by simp, ((((((Below.refl w.heap.size w).alloc (Nat.le_refl _) _).trans (hb2.mono (by simp))).setCell (by simp) _).setCell (by simp) _).trans (hb.mono (by have := hb2.size; simp at this ⊢; omega)))⟩

set_option maxHeartbeats 1000000 in
theorem over_neg_bad (v d m : Int) (K : Nat) (g q r : Nat) (t B : Bool) (w : World) (hcf : ∀ args w, (callFunc K args).run Tryz.prog w = .ok (.enter K args) w)
    (hv : hiOf v < 0) (hv0 : 0 ≤ hiOf (-v)) (hv1 : hiOf (-v) ≤ 9223372036854775807) (d2 : decide (d < 0) = t)
    (cn : ∀ w, Calls Tryz.prog 58 #[.agg #[.int .i64 (hiOf v), .int .u64 (loOf v)]] w fun e w' => e = .returned (.agg #[.int .i64 (hiOf (-v)), .int .u64 (loOf (-v))]) ∧ Below w.heap.size w w')
    (cs : ∀ w, Calls Tryz.prog 57 #[.int .i64 d] w fun e w' => e = .returned (.int .u64 (g : Int)) ∧ w = w')
    (hg : ¬ (g : Int) ≤ hiOf (-v))
    (cd : ∀ w, Calls Tryz.prog 59 #[.int .u64 (hiOf (-v)), .int .u64 (loOf (-v)), .int .u64 g] w fun e w' => e = .returned (.tuple #[.int .u64 (q : Int), .int .u64 (r : Int)]) ∧ Below w.heap.size w w')
    (hm : min (q : Int) 70368744177665 = m) (m0 : 0 ≤ m) (m1 : m ≤ 70368744177665)
    (cu : ∀ w, Calls Tryz.prog K #[.bool (!t), .int .u64 r, .int .u64 g] w fun e w' => e = .returned (.bool B) ∧ w = w')
    (hz : 70368744177664 < m + (if B then 1 else 0)) :
    Calls Tryz.prog 30 #[.agg #[.int .i64 (hiOf v), .int .u64 (loOf v)], .int .i64 d, .func (.func K) #[] #[]] w fun e w' => e = flt 4 ∧ Below w.heap.size w w' := by
  have CS := Lib.hid cs
  have CD := Lib.hid cd
  have CU := Lib.hid cu
  have CN := Lib.hid cn
  clear cn
  have d1 : decide (hiOf v < 0) = true := decide_eq_true hv
  clear cs cd cu
  cases t <;> cases B <;> simp only [if_true, if_false, Bool.false_eq_true, Bool.not_true, Bool.not_false] at hz CU
  all_goals
    go_enter Tryz.func30, Tryz.ntmps30
    go_wp2_with (first | (go_at_call 57; refine (CS.out _).mono ?_; rintro e w' ⟨rfl, rfl⟩) | (go_at_call 59; refine (CD.out _).mono ?_; rintro e w1 ⟨rfl, hb⟩) | (go_at_call 39; refine (fitting_bad _ _ (by unfold Vld; omega)).mono ?_; rintro e w' ⟨rfl, rfl⟩) | (go_at_call 58; refine (CN.out _).mono ?_; rintro e w2 ⟨rfl, hb2⟩; obtain ⟨hc2, hf2⟩ := bcell hb2; obtain ⟨k1, k2⟩ := set_pair (w := w2) (b := w.heap.size) (.int .i64 (hiOf (-v))) (.int .u64 (loOf (-v))) (x := .int .i64 (hiOf v)) (y := .int .u64 (loOf v)) (by rw [hc2 _ _ (by simp)]; simp [go_sem]) (by rw [hc2 _ _ (by simp)]; simp [go_sem])) | (with_reducible refine (CU.out _).mono ?_; rintro e w' ⟨rfl, rfl⟩))
    exact ⟨rfl, rfl, ((((((Below.refl w.heap.size w).alloc (Nat.le_refl _) _).trans (hb2.mono (by simp))).setCell (by simp) _).setCell (by simp) _).trans (hb.mono (by have := hb2.size; simp at this ⊢; omega)))⟩

end Go.Proofs.YtfpfpmacobkmhaaGreatDoor
