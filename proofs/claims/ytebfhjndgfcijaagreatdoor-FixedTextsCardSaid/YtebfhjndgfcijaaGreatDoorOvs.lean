/- The contracts of package fixed's product, over and quotient: the exact product as a number of 128 bits; the rounded quotient of such a number, or the fault ErrRange or ErrZero. Conditions: sizes below 2 to the power of 127, divisors of 64 bits. -/
import Derived.Test.YtebfhjndgfcijaaGreatDoorWide
namespace Go.Proofs.YtebfhjndgfcijaaGreatDoor
open Go Go.RowKit

theorem hiOf_nonneg {v : Int} (h : 0 ≤ v) : 0 ≤ hiOf v := by unfold hiOf; omega
theorem hiOf_neg {v : Int} (h : v < 0) : hiOf v < 0 := by unfold hiOf; omega
theorem hiOf_le {v : Int} (h : v < 170141183460469231731687303715884105728) : hiOf v ≤ 9223372036854775807 := by unfold hiOf; omega
theorem hiOf_ge {v : Int} (h : -170141183460469231731687303715884105728 ≤ v) : -9223372036854775808 ≤ hiOf v := by unfold hiOf; omega
theorem loOf_nonneg (v : Int) : 0 ≤ loOf v := by unfold loOf; omega
theorem loOf_le (v : Int) : loOf v ≤ 18446744073709551615 := by unfold loOf; omega

theorem natAbs_mul_lt {a b : Int} (ha0 : -9223372036854775807 ≤ a) (ha1 : a ≤ 9223372036854775807) (hb0 : -9223372036854775807 ≤ b) (hb1 : b ≤ 9223372036854775807) :
    a.natAbs * b.natAbs < 85070591730234615865843651857942052864 := by
  have := Nat.mul_le_mul (show a.natAbs ≤ 9223372036854775807 by omega) (show b.natAbs ≤ 9223372036854775807 by omega)
  omega

/-- The contract of Mul64 in the words of hiOf, loOf. -/
theorem mul64_any (a b : Nat) (w : World) (ha : a < 18446744073709551616) (hb : b < 18446744073709551616) :
    Calls Tryz.prog 107 #[.int .u64 a, .int .u64 b] w fun e w' => e = .returned (.tuple #[.int .u64 (hiOf ((a * b : Nat) : Int)), .int .u64 (loOf ((a * b : Nat) : Int))]) ∧ w = w' := by
  refine (Tryz.bits_Mul64 a b ha hb w).mono ?_
  rintro e w' ⟨rfl, rfl⟩
  refine ⟨?_, rfl⟩
  unfold hiOf loOf
  rfl

set_option maxHeartbeats 400000 in
theorem product_pos (a b P : Int) (w : World) (ha0 : -9223372036854775807 ≤ a) (ha1 : a ≤ 9223372036854775807) (hb0 : -9223372036854775807 ≤ b) (hb1 : b ≤ 9223372036854775807)
    (hs : (a < 0 ∧ b < 0) ∨ (0 ≤ a ∧ 0 ≤ b)) (hP : ((a.natAbs * b.natAbs : Nat) : Int) = P) (p0 : 0 ≤ hiOf P) (p1 : hiOf P ≤ 9223372036854775807) :
    Calls Tryz.prog 39 #[.int .i64 a, .int .i64 b] w fun e w' => e = .returned (.agg #[.int .i64 (hiOf P), .int .u64 (loOf P)]) ∧ Below w.heap.size w w' := by
  have c := fun w => mul64_any a.natAbs b.natAbs w (by omega) (by omega)
  rw [hP] at c
  have C := Lib.hid c
  clear c hP
  have hd : ∃ t, decide (a < 0) = t ∧ decide (b < 0) = t := by
    rcases hs with ⟨s1, s2⟩ | ⟨s1, s2⟩
    · exact ⟨true, decide_eq_true s1, decide_eq_true s2⟩
    · exact ⟨false, decide_eq_false (by omega), decide_eq_false (by omega)⟩
  obtain ⟨t, d1, d2⟩ := hd
  clear hs
  cases t
  all_goals
    go_enter Tryz.func39, Tryz.ntmps39
    go_wp2_with (first | (go_at_call 41; refine (size_any _ _ (by omega) (by omega)).mono ?_; rintro e w' ⟨rfl, rfl⟩) | (go_at_call 107; refine (C.out _).mono ?_; rintro e w' ⟨rfl, rfl⟩))
    exact bodyPost_ret (v := .agg #[.int .i64 (hiOf P), .int .u64 (loOf P)]) (by simp [results, Tryz.results39, go_sem]) rfl ⟨rfl, ((Below.refl _ _).alloc (Nat.le_refl _) _).alloc (by simp) _⟩

set_option maxHeartbeats 400000 in
theorem product_neg (a b P : Int) (w : World) (ha0 : -9223372036854775807 ≤ a) (ha1 : a ≤ 9223372036854775807) (hb0 : -9223372036854775807 ≤ b) (hb1 : b ≤ 9223372036854775807)
    (hs : (a < 0 ∧ 0 ≤ b) ∨ (0 ≤ a ∧ b < 0)) (hP : ((a.natAbs * b.natAbs : Nat) : Int) = P) (p0 : 0 ≤ hiOf P) (p1 : hiOf P ≤ 9223372036854775807)
    (cn : ∀ w, Calls Tryz.prog 44 #[.agg #[.int .i64 (hiOf P), .int .u64 (loOf P)]] w fun e w' => e = .returned (.agg #[.int .i64 (hiOf (-P)), .int .u64 (loOf (-P))]) ∧ Below w.heap.size w w') :
    Calls Tryz.prog 39 #[.int .i64 a, .int .i64 b] w fun e w' => e = .returned (.agg #[.int .i64 (hiOf (-P)), .int .u64 (loOf (-P))]) ∧ Below w.heap.size w w' := by
  have c := fun w => mul64_any a.natAbs b.natAbs w (by omega) (by omega)
  rw [hP] at c
  have C := Lib.hid c
  have CN := Lib.hid cn
  clear c cn hP
  have hd : ∃ t, decide (a < 0) = t ∧ decide (b < 0) = !t := by
    rcases hs with ⟨s1, s2⟩ | ⟨s1, s2⟩
    · exact ⟨true, decide_eq_true s1, decide_eq_false (by omega)⟩
    · exact ⟨false, decide_eq_false (by omega), decide_eq_true s2⟩
  obtain ⟨t, d1, d2⟩ := hd
  clear hs
  cases t
  all_goals
    go_enter Tryz.func39, Tryz.ntmps39
    go_wp2_with (first | (go_at_call 41; refine (size_any _ _ (by omega) (by omega)).mono ?_; rintro e w' ⟨rfl, rfl⟩) | (go_at_call 107; refine (C.out _).mono ?_; rintro e w' ⟨rfl, rfl⟩) | (go_at_call 44; refine (CN.out _).mono ?_; rintro e w1 ⟨rfl, hb⟩; obtain ⟨hc, hf⟩ := bcell hb))
    obtain ⟨k1, k2⟩ := set_pair (w := w1) (b := w.heap.size) (.int .i64 (hiOf (-P))) (.int .u64 (loOf (-P))) (x := .int .i64 0) (y := .int .u64 0) (by rw [hc _ _ (by simp; omega)]; simp [go_sem]) (by rw [hc _ _ (by simp; omega)]; simp [go_sem])
    exact bodyPost_ret (v := .agg #[.int .i64 (hiOf (-P)), .int .u64 (loOf (-P))]) (by simp [results, Tryz.results39, go_sem, k1, k2]) rfl
      ⟨rfl, ((((((Below.refl w.heap.size w).alloc (Nat.le_refl _) _).alloc (by simp) _).trans (hb.mono (by simp; omega))).setCell (by simp) _).setCell (by simp) _)⟩

/-- The exact product of two numbers of 64 bits (but the least one). -/
theorem product_any (a b : Int) (w : World) (ha0 : -9223372036854775807 ≤ a) (ha1 : a ≤ 9223372036854775807) (hb0 : -9223372036854775807 ≤ b) (hb1 : b ≤ 9223372036854775807) :
    Calls Tryz.prog 39 #[.int .i64 a, .int .i64 b] w fun e w' => e = .returned (.agg #[.int .i64 (hiOf (a * b)), .int .u64 (loOf (a * b))]) ∧ Below w.heap.size w w' := by
  have hm := natAbs_mul_lt ha0 ha1 hb0 hb1
  have hn : ((a.natAbs * b.natAbs : Nat) : Int) = ((a * b).natAbs : Int) := by rw [Int.natAbs_mul]
  by_cases hs : (a < 0 ∧ b < 0) ∨ (0 ≤ a ∧ 0 ≤ b)
  · have hp : 0 ≤ a * b := by
      rcases hs with ⟨h1, h2⟩ | ⟨h1, h2⟩
      · exact Int.le_of_lt (Int.mul_pos_of_neg_of_neg h1 h2)
      · exact Int.mul_nonneg h1 h2
    exact product_pos a b (a * b) w ha0 ha1 hb0 hb1 hs (by rw [hn]; omega) (hiOf_nonneg hp) (hiOf_le (by omega))
  · have hs' : (a < 0 ∧ 0 ≤ b) ∨ (0 ≤ a ∧ b < 0) := by omega
    have hp : a * b ≤ 0 := by
      rcases hs' with ⟨h1, h2⟩ | ⟨h1, h2⟩
      · exact Int.mul_nonpos_of_nonpos_of_nonneg (by omega) h2
      · exact Int.mul_nonpos_of_nonneg_of_nonpos h1 (by omega)
    have := product_neg a b (-(a * b)) w ha0 ha1 hb0 hb1 hs' (by rw [hn]; omega) (hiOf_nonneg (by omega)) (hiOf_le (by omega)) (fun w => negative_any _ w (by omega) (by omega))
    rw [Int.neg_neg] at this
    exact this

end Go.Proofs.YtebfhjndgfcijaaGreatDoor

namespace Go.Proofs.YtebfhjndgfcijaaGreatDoor
open Go Go.RowKit

theorem way_enters (how : Int) (h0 : 0 ≤ how) (h1 : how ≤ 3) (args : Array Value) (w : World) : (callFunc (wayFn how) args).run Tryz.prog w = .ok (.enter (wayFn how) args) w := by
  rcases how_cases h0 h1 with rfl | rfl | rfl | rfl
  all_goals
    simp [wayFn, go_sem]
    done

set_option maxHeartbeats 1000000 in
theorem over_pos_ok (v d m : Int) (K : Nat) (g q r : Nat) (t B : Bool) (w : World) (hcf : ∀ args w, (callFunc K args).run Tryz.prog w = .ok (.enter K args) w)
    (hv : 0 ≤ hiOf v) (hv1 : hiOf v ≤ 9223372036854775807) (d2 : decide (d < 0) = t)
    (cs : ∀ w, Calls Tryz.prog 41 #[.int .i64 d] w fun e w' => e = .returned (.int .u64 (g : Int)) ∧ w = w')
    (hg : ¬ (g : Int) ≤ hiOf v)
    (cd : ∀ w, Calls Tryz.prog 117 #[.int .u64 (hiOf v), .int .u64 (loOf v), .int .u64 g] w fun e w' => e = .returned (.tuple #[.int .u64 (q : Int), .int .u64 (r : Int)]) ∧ Below w.heap.size w w')
    (hm : min (q : Int) 70368744177665 = m) (m0 : 0 ≤ m) (m1 : m ≤ 70368744177665)
    (cu : ∀ w, Calls Tryz.prog K #[.bool (t), .int .u64 r, .int .u64 g] w fun e w' => e = .returned (.bool B) ∧ w = w')
    (hz : m + (if B then 1 else 0) ≤ 70368744177664) :
    Calls Tryz.prog 45 #[.agg #[.int .i64 (hiOf v), .int .u64 (loOf v)], .int .i64 d, .func (.func K) #[] #[]] w fun e w' => e = .returned (.int .i64 (if t then -(m + if B then 1 else 0) else m + if B then 1 else 0)) ∧ Below w.heap.size w w' := by
  have CS := Lib.hid cs
  have CD := Lib.hid cd
  have CU := Lib.hid cu
  have d1 : decide (hiOf v < 0) = false := decide_eq_false (by omega)
  clear cs cd cu
  cases t <;> cases B <;> simp only [if_true, if_false, Bool.false_eq_true] at hz
  all_goals
    go_enter Tryz.func45, Tryz.ntmps45
    go_wp2_with (first | (go_at_call 41; refine (CS.out _).mono ?_; rintro e w' ⟨rfl, rfl⟩) | (go_at_call 117; refine (CD.out _).mono ?_; rintro e w1 ⟨rfl, hb⟩) | (go_at_call 65; refine (fitting_ok _ _ (by unfold Vld; omega)).mono ?_; rintro e w' ⟨rfl, rfl⟩) | (with_reducible refine (CU.out _).mono ?_; rintro e w' ⟨rfl, rfl⟩))
    go_ret
    exact ⟨by simp, (((Below.refl w.heap.size w).alloc (Nat.le_refl _) _).trans (hb.mono (by simp)))⟩

set_option maxHeartbeats 1000000 in
theorem over_pos_bad (v d m : Int) (K : Nat) (g q r : Nat) (t B : Bool) (w : World) (hcf : ∀ args w, (callFunc K args).run Tryz.prog w = .ok (.enter K args) w)
    (hv : 0 ≤ hiOf v) (hv1 : hiOf v ≤ 9223372036854775807) (d2 : decide (d < 0) = t)
    (cs : ∀ w, Calls Tryz.prog 41 #[.int .i64 d] w fun e w' => e = .returned (.int .u64 (g : Int)) ∧ w = w')
    (hg : ¬ (g : Int) ≤ hiOf v)
    (cd : ∀ w, Calls Tryz.prog 117 #[.int .u64 (hiOf v), .int .u64 (loOf v), .int .u64 g] w fun e w' => e = .returned (.tuple #[.int .u64 (q : Int), .int .u64 (r : Int)]) ∧ Below w.heap.size w w')
    (hm : min (q : Int) 70368744177665 = m) (m0 : 0 ≤ m) (m1 : m ≤ 70368744177665)
    (cu : ∀ w, Calls Tryz.prog K #[.bool (t), .int .u64 r, .int .u64 g] w fun e w' => e = .returned (.bool B) ∧ w = w')
    (hz : 70368744177664 < m + (if B then 1 else 0)) :
    Calls Tryz.prog 45 #[.agg #[.int .i64 (hiOf v), .int .u64 (loOf v)], .int .i64 d, .func (.func K) #[] #[]] w fun e w' => e = flt 4 ∧ Below w.heap.size w w' := by
  have CS := Lib.hid cs
  have CD := Lib.hid cd
  have CU := Lib.hid cu
  have d1 : decide (hiOf v < 0) = false := decide_eq_false (by omega)
  clear cs cd cu
  cases t <;> cases B <;> simp only [if_true, if_false, Bool.false_eq_true] at hz
  all_goals
    go_enter Tryz.func45, Tryz.ntmps45
    go_wp2_with (first | (go_at_call 41; refine (CS.out _).mono ?_; rintro e w' ⟨rfl, rfl⟩) | (go_at_call 117; refine (CD.out _).mono ?_; rintro e w1 ⟨rfl, hb⟩) | (go_at_call 65; refine (fitting_bad _ _ (by unfold Vld; omega)).mono ?_; rintro e w' ⟨rfl, rfl⟩) | (with_reducible refine (CU.out _).mono ?_; rintro e w' ⟨rfl, rfl⟩))
    exact ⟨rfl, rfl, (((Below.refl w.heap.size w).alloc (Nat.le_refl _) _).trans (hb.mono (by simp)))⟩

set_option maxHeartbeats 1000000 in
theorem over_neg_ok (v d m : Int) (K : Nat) (g q r : Nat) (t B : Bool) (w : World) (hcf : ∀ args w, (callFunc K args).run Tryz.prog w = .ok (.enter K args) w)
    (hv : hiOf v < 0) (hv0 : 0 ≤ hiOf (-v)) (hv1 : hiOf (-v) ≤ 9223372036854775807) (d2 : decide (d < 0) = t)
    (cn : ∀ w, Calls Tryz.prog 44 #[.agg #[.int .i64 (hiOf v), .int .u64 (loOf v)]] w fun e w' => e = .returned (.agg #[.int .i64 (hiOf (-v)), .int .u64 (loOf (-v))]) ∧ Below w.heap.size w w')
    (cs : ∀ w, Calls Tryz.prog 41 #[.int .i64 d] w fun e w' => e = .returned (.int .u64 (g : Int)) ∧ w = w')
    (hg : ¬ (g : Int) ≤ hiOf (-v))
    (cd : ∀ w, Calls Tryz.prog 117 #[.int .u64 (hiOf (-v)), .int .u64 (loOf (-v)), .int .u64 g] w fun e w' => e = .returned (.tuple #[.int .u64 (q : Int), .int .u64 (r : Int)]) ∧ Below w.heap.size w w')
    (hm : min (q : Int) 70368744177665 = m) (m0 : 0 ≤ m) (m1 : m ≤ 70368744177665)
    (cu : ∀ w, Calls Tryz.prog K #[.bool (!t), .int .u64 r, .int .u64 g] w fun e w' => e = .returned (.bool B) ∧ w = w')
    (hz : m + (if B then 1 else 0) ≤ 70368744177664) :
    Calls Tryz.prog 45 #[.agg #[.int .i64 (hiOf v), .int .u64 (loOf v)], .int .i64 d, .func (.func K) #[] #[]] w fun e w' => e = .returned (.int .i64 (if !t then -(m + if B then 1 else 0) else m + if B then 1 else 0)) ∧ Below w.heap.size w w' := by
  have CS := Lib.hid cs
  have CD := Lib.hid cd
  have CU := Lib.hid cu
  have CN := Lib.hid cn
  clear cn
  have d1 : decide (hiOf v < 0) = true := decide_eq_true hv
  clear cs cd cu
  cases t <;> cases B <;> simp only [if_true, if_false, Bool.false_eq_true, Bool.not_true, Bool.not_false] at hz CU
  all_goals
    go_enter Tryz.func45, Tryz.ntmps45
    go_wp2_with (first | (go_at_call 41; refine (CS.out _).mono ?_; rintro e w' ⟨rfl, rfl⟩) | (go_at_call 117; refine (CD.out _).mono ?_; rintro e w1 ⟨rfl, hb⟩) | (go_at_call 65; refine (fitting_ok _ _ (by unfold Vld; omega)).mono ?_; rintro e w' ⟨rfl, rfl⟩) | (go_at_call 44; refine (CN.out _).mono ?_; rintro e w2 ⟨rfl, hb2⟩; obtain ⟨hc2, hf2⟩ := bcell hb2; obtain ⟨k1, k2⟩ := set_pair (w := w2) (b := w.heap.size) (.int .i64 (hiOf (-v))) (.int .u64 (loOf (-v))) (x := .int .i64 (hiOf v)) (y := .int .u64 (loOf v)) (by rw [hc2 _ _ (by simp)]; simp [go_sem]) (by rw [hc2 _ _ (by simp)]; simp [go_sem])) | (with_reducible refine (CU.out _).mono ?_; rintro e w' ⟨rfl, rfl⟩))
    go_ret
    exact ⟨by simp, ((((((Below.refl w.heap.size w).alloc (Nat.le_refl _) _).trans (hb2.mono (by simp))).setCell (by simp) _).setCell (by simp) _).trans (hb.mono (by have := hb2.size; simp at this ⊢; omega)))⟩

set_option maxHeartbeats 1000000 in
theorem over_neg_bad (v d m : Int) (K : Nat) (g q r : Nat) (t B : Bool) (w : World) (hcf : ∀ args w, (callFunc K args).run Tryz.prog w = .ok (.enter K args) w)
    (hv : hiOf v < 0) (hv0 : 0 ≤ hiOf (-v)) (hv1 : hiOf (-v) ≤ 9223372036854775807) (d2 : decide (d < 0) = t)
    (cn : ∀ w, Calls Tryz.prog 44 #[.agg #[.int .i64 (hiOf v), .int .u64 (loOf v)]] w fun e w' => e = .returned (.agg #[.int .i64 (hiOf (-v)), .int .u64 (loOf (-v))]) ∧ Below w.heap.size w w')
    (cs : ∀ w, Calls Tryz.prog 41 #[.int .i64 d] w fun e w' => e = .returned (.int .u64 (g : Int)) ∧ w = w')
    (hg : ¬ (g : Int) ≤ hiOf (-v))
    (cd : ∀ w, Calls Tryz.prog 117 #[.int .u64 (hiOf (-v)), .int .u64 (loOf (-v)), .int .u64 g] w fun e w' => e = .returned (.tuple #[.int .u64 (q : Int), .int .u64 (r : Int)]) ∧ Below w.heap.size w w')
    (hm : min (q : Int) 70368744177665 = m) (m0 : 0 ≤ m) (m1 : m ≤ 70368744177665)
    (cu : ∀ w, Calls Tryz.prog K #[.bool (!t), .int .u64 r, .int .u64 g] w fun e w' => e = .returned (.bool B) ∧ w = w')
    (hz : 70368744177664 < m + (if B then 1 else 0)) :
    Calls Tryz.prog 45 #[.agg #[.int .i64 (hiOf v), .int .u64 (loOf v)], .int .i64 d, .func (.func K) #[] #[]] w fun e w' => e = flt 4 ∧ Below w.heap.size w w' := by
  have CS := Lib.hid cs
  have CD := Lib.hid cd
  have CU := Lib.hid cu
  have CN := Lib.hid cn
  clear cn
  have d1 : decide (hiOf v < 0) = true := decide_eq_true hv
  clear cs cd cu
  cases t <;> cases B <;> simp only [if_true, if_false, Bool.false_eq_true, Bool.not_true, Bool.not_false] at hz CU
  all_goals
    go_enter Tryz.func45, Tryz.ntmps45
    go_wp2_with (first | (go_at_call 41; refine (CS.out _).mono ?_; rintro e w' ⟨rfl, rfl⟩) | (go_at_call 117; refine (CD.out _).mono ?_; rintro e w1 ⟨rfl, hb⟩) | (go_at_call 65; refine (fitting_bad _ _ (by unfold Vld; omega)).mono ?_; rintro e w' ⟨rfl, rfl⟩) | (go_at_call 44; refine (CN.out _).mono ?_; rintro e w2 ⟨rfl, hb2⟩; obtain ⟨hc2, hf2⟩ := bcell hb2; obtain ⟨k1, k2⟩ := set_pair (w := w2) (b := w.heap.size) (.int .i64 (hiOf (-v))) (.int .u64 (loOf (-v))) (x := .int .i64 (hiOf v)) (y := .int .u64 (loOf v)) (by rw [hc2 _ _ (by simp)]; simp [go_sem]) (by rw [hc2 _ _ (by simp)]; simp [go_sem])) | (with_reducible refine (CU.out _).mono ?_; rintro e w' ⟨rfl, rfl⟩))
    exact ⟨rfl, rfl, ((((((Below.refl w.heap.size w).alloc (Nat.le_refl _) _).trans (hb2.mono (by simp))).setCell (by simp) _).setCell (by simp) _).trans (hb.mono (by have := hb2.size; simp at this ⊢; omega)))⟩

end Go.Proofs.YtebfhjndgfcijaaGreatDoor

namespace Go.Proofs.YtebfhjndgfcijaaGreatDoor
open Go Go.RowKit

set_option maxHeartbeats 1000000 in
theorem over_pos_big (v d : Int) (K : Nat) (g : Nat) (t : Bool) (w : World) (hv : 0 ≤ hiOf v) (hv1 : hiOf v ≤ 9223372036854775807) (d2 : decide (d < 0) = t)
    (cs : ∀ w, Calls Tryz.prog 41 #[.int .i64 d] w fun e w' => e = .returned (.int .u64 (g : Int)) ∧ w = w')
    (hg : (g : Int) ≤ hiOf v) :
    Calls Tryz.prog 45 #[.agg #[.int .i64 (hiOf v), .int .u64 (loOf v)], .int .i64 d, .func (.func K) #[] #[]] w fun e w' => e = flt 4 ∧ Below w.heap.size w w' := by
  have CS := Lib.hid cs
  have d1 : decide (hiOf v < 0) = false := decide_eq_false (by omega)
  clear cs
  cases t
  all_goals
    go_enter Tryz.func45, Tryz.ntmps45
    go_wp2_with (first | (go_at_call 41; refine (CS.out _).mono ?_; rintro e w' ⟨rfl, rfl⟩))
    exact ⟨rfl, rfl, ((Below.refl w.heap.size w).alloc (Nat.le_refl _) _)⟩

set_option maxHeartbeats 1000000 in
theorem over_neg_big (v d : Int) (K : Nat) (g : Nat) (t : Bool) (w : World) (hv : hiOf v < 0) (hv0 : 0 ≤ hiOf (-v)) (hv1 : hiOf (-v) ≤ 9223372036854775807) (d2 : decide (d < 0) = t)
    (cn : ∀ w, Calls Tryz.prog 44 #[.agg #[.int .i64 (hiOf v), .int .u64 (loOf v)]] w fun e w' => e = .returned (.agg #[.int .i64 (hiOf (-v)), .int .u64 (loOf (-v))]) ∧ Below w.heap.size w w')
    (cs : ∀ w, Calls Tryz.prog 41 #[.int .i64 d] w fun e w' => e = .returned (.int .u64 (g : Int)) ∧ w = w')
    (hg : (g : Int) ≤ hiOf (-v)) :
    Calls Tryz.prog 45 #[.agg #[.int .i64 (hiOf v), .int .u64 (loOf v)], .int .i64 d, .func (.func K) #[] #[]] w fun e w' => e = flt 4 ∧ Below w.heap.size w w' := by
  have CS := Lib.hid cs
  have CN := Lib.hid cn
  have d1 : decide (hiOf v < 0) = true := decide_eq_true hv
  clear cs cn
  cases t
  all_goals
    go_enter Tryz.func45, Tryz.ntmps45
    go_wp2_with (first | (go_at_call 41; refine (CS.out _).mono ?_; rintro e w' ⟨rfl, rfl⟩) | (go_at_call 44; refine (CN.out _).mono ?_; rintro e w2 ⟨rfl, hb2⟩; obtain ⟨hc2, hf2⟩ := bcell hb2; obtain ⟨k1, k2⟩ := set_pair (w := w2) (b := w.heap.size) (.int .i64 (hiOf (-v))) (.int .u64 (loOf (-v))) (x := .int .i64 (hiOf v)) (y := .int .u64 (loOf v)) (by rw [hc2 _ _ (by simp)]; simp [go_sem]) (by rw [hc2 _ _ (by simp)]; simp [go_sem])))
    exact ⟨rfl, rfl, (((((Below.refl w.heap.size w).alloc (Nat.le_refl _) _).trans (hb2.mono (by simp))).setCell (by simp) _).setCell (by simp) _)⟩

/-- A quotient of integers, rounded. -/
def rnd (how n d : Int) : Int :=
  if decide (n < 0) != decide (d < 0) then -(((n.natAbs / d.natAbs : Nat) : Int) + if upB how true ((n.natAbs % d.natAbs : Nat) : Int) (d.natAbs : Int) then 1 else 0)
  else (((n.natAbs / d.natAbs : Nat) : Int) + if upB how false ((n.natAbs % d.natAbs : Nat) : Int) (d.natAbs : Int) then 1 else 0)

theorem rnd_sign (how n d : Int) (t : Bool) (h : (decide (n < 0) != decide (d < 0)) = t) :
    rnd how n d = if t then -(((n.natAbs / d.natAbs : Nat) : Int) + if upB how t ((n.natAbs % d.natAbs : Nat) : Int) (d.natAbs : Int) then 1 else 0)
      else (((n.natAbs / d.natAbs : Nat) : Int) + if upB how t ((n.natAbs % d.natAbs : Nat) : Int) (d.natAbs : Int) then 1 else 0) := by
  unfold rnd
  rw [h]
  cases t <;> rfl

/-- The long division in the words of hiOf, loOf. -/
theorem div_call (V : Int) (g : Nat) (hV : 0 ≤ V) (hg : hiOf V < g) (hg2 : g < 18446744073709551616) (w : World) :
    Calls Tryz.prog 117 #[.int .u64 (hiOf V), .int .u64 (loOf V), .int .u64 g] w fun e w' =>
      e = .returned (.tuple #[.int .u64 ((V.natAbs / g : Nat) : Int), .int .u64 ((V.natAbs % g : Nat) : Int)]) ∧ Below w.heap.size w w' := by
  have h0 := hiOf_nonneg hV
  have hl := loOf_nonneg V
  have hl2 := loOf_le V
  obtain ⟨a, ha⟩ : ∃ a : Nat, hiOf V = a := ⟨(hiOf V).toNat, by omega⟩
  obtain ⟨b, hb⟩ : ∃ b : Nat, loOf V = b := ⟨(loOf V).toNat, by omega⟩
  have e : V.natAbs = a * 18446744073709551616 + b := by unfold hiOf at ha; unfold loOf at hb; omega
  rw [ha, hb, e]
  rw [ha] at hg
  refine (div64_any a b g w (by omega) hg2 (by omega)).mono ?_
  rintro e w' ⟨rfl, n, rfl⟩
  refine ⟨rfl, ?_⟩
  induction n with
  | zero => exact Below.refl _ _
  | succ n ih => exact ih.drew

theorem quo_hi {V : Int} {g : Nat} (hV : 0 ≤ V) (hg : 0 < g) (hq : V.natAbs / g < 18446744073709551616) : hiOf V < g := by
  rw [Nat.div_lt_iff_lt_mul hg] at hq
  unfold hiOf
  omega

theorem up_call (how : Int) (h0 : 0 ≤ how) (h1 : how ≤ 3) (minus : Bool) (V g : Nat) (hg : 0 < g) (hg2 : g ≤ 9223372036854775807) (w : World) :
    Calls Tryz.prog (wayFn how) #[.bool minus, .int .u64 ((V % g : Nat) : Int), .int .u64 g] w fun e w' => e = .returned (.bool (upB how minus ((V % g : Nat) : Int) g)) ∧ w = w' :=
  up_any how h0 h1 minus _ _ (by omega) (by have := Nat.mod_lt V hg; omega) (by omega) w

theorem over_ok (how v d : Int) (w : World) (h0 : 0 ≤ how) (h1 : how ≤ 3) (v0 : -170141183460469231731687303715884105728 < v) (v1 : v < 170141183460469231731687303715884105728)
    (d0 : d ≠ 0) (d1 : -9223372036854775807 ≤ d) (d2 : d ≤ 9223372036854775807) (hf : Vld (rnd how v d)) :
    Calls Tryz.prog 45 #[.agg #[.int .i64 (hiOf v), .int .u64 (loOf v)], .int .i64 d, .func (.func (wayFn how)) #[] #[]] w fun e w' => e = .returned (.int .i64 (rnd how v d)) ∧ Below w.heap.size w w' := by
  have hg : 0 < d.natAbs := by omega
  by_cases hv : v < 0
  · have e := rnd_sign how v d (!(decide (d < 0))) (by rw [decide_eq_true hv]; cases decide (d < 0) <;> rfl)
    rw [e] at hf ⊢
    have hq : v.natAbs / d.natAbs ≤ 70368744177664 ∧ ((v.natAbs / d.natAbs : Nat) : Int) + (if upB how (!(decide (d < 0))) ((v.natAbs % d.natAbs : Nat) : Int) (d.natAbs : Int) then 1 else 0) ≤ 70368744177664 := by
      generalize v.natAbs / d.natAbs = q at *
      generalize upB how (!(decide (d < 0))) ((v.natAbs % d.natAbs : Nat) : Int) (d.natAbs : Int) = B at *
      generalize (!(decide (d < 0))) = t at *
      unfold Vld at hf
      cases t <;> cases B <;> simp only [if_true, if_false, Bool.false_eq_true] at hf ⊢ <;> omega
    have hh := quo_hi (V := -v) (g := d.natAbs) (by omega) hg (by rw [Int.natAbs_neg]; omega)
    have ha := over_neg_ok v d ((v.natAbs / d.natAbs : Nat) : Int) (wayFn how) d.natAbs (v.natAbs / d.natAbs) (v.natAbs % d.natAbs) (decide (d < 0)) _ w (way_enters how h0 h1) (hiOf_neg hv) (hiOf_nonneg (by omega)) (hiOf_le (by omega)) rfl
      (fun w => negative_any v w v0 v1) (fun w => size_any d w d1 d2) (by omega) (fun w => by have := div_call (-v) d.natAbs (by omega) hh (by omega) w; rw [Int.natAbs_neg] at this; exact this) (by omega) (Int.natCast_nonneg _) (by omega)
      (fun w => up_call how h0 h1 _ v.natAbs d.natAbs hg (by omega) w) hq.2
    exact ha
  · have e := rnd_sign how v d (decide (d < 0)) (by rw [decide_eq_false hv]; cases decide (d < 0) <;> rfl)
    rw [e] at hf ⊢
    have hq : v.natAbs / d.natAbs ≤ 70368744177664 ∧ ((v.natAbs / d.natAbs : Nat) : Int) + (if upB how (decide (d < 0)) ((v.natAbs % d.natAbs : Nat) : Int) (d.natAbs : Int) then 1 else 0) ≤ 70368744177664 := by
      generalize v.natAbs / d.natAbs = q at *
      generalize upB how (decide (d < 0)) ((v.natAbs % d.natAbs : Nat) : Int) (d.natAbs : Int) = B at *
      generalize decide (d < 0) = t at *
      unfold Vld at hf
      cases t <;> cases B <;> simp only [if_true, if_false, Bool.false_eq_true] at hf ⊢ <;> omega
    have hh := quo_hi (V := v) (g := d.natAbs) (by omega) hg (by omega)
    exact over_pos_ok v d ((v.natAbs / d.natAbs : Nat) : Int) (wayFn how) d.natAbs (v.natAbs / d.natAbs) (v.natAbs % d.natAbs) (decide (d < 0)) _ w (way_enters how h0 h1) (hiOf_nonneg (by omega)) (hiOf_le (by omega)) rfl
      (fun w => size_any d w d1 d2) (by omega) (fun w => div_call v d.natAbs (by omega) hh (by omega) w) (by omega) (Int.natCast_nonneg _) (by omega)
      (fun w => up_call how h0 h1 _ v.natAbs d.natAbs hg (by omega) w) hq.2

theorem over_bad (how v d : Int) (w : World) (h0 : 0 ≤ how) (h1 : how ≤ 3) (v0 : -170141183460469231731687303715884105728 < v) (v1 : v < 170141183460469231731687303715884105728)
    (d0 : d ≠ 0) (d1 : -9223372036854775807 ≤ d) (d2 : d ≤ 9223372036854775807) (hf : ¬ Vld (rnd how v d)) :
    Calls Tryz.prog 45 #[.agg #[.int .i64 (hiOf v), .int .u64 (loOf v)], .int .i64 d, .func (.func (wayFn how)) #[] #[]] w fun e w' => e = flt 4 ∧ Below w.heap.size w w' := by
  have hg : 0 < d.natAbs := by omega
  by_cases hv : v < 0
  · have e := rnd_sign how v d (!(decide (d < 0))) (by rw [decide_eq_true hv]; cases decide (d < 0) <;> rfl)
    rw [e] at hf
    have hq : 70368744177664 < (min ((v.natAbs / d.natAbs : Nat) : Int) 70368744177665) + (if upB how (!(decide (d < 0))) ((v.natAbs % d.natAbs : Nat) : Int) (d.natAbs : Int) then 1 else 0) := by
      generalize v.natAbs / d.natAbs = q at *
      generalize upB how (!(decide (d < 0))) ((v.natAbs % d.natAbs : Nat) : Int) (d.natAbs : Int) = B at *
      generalize (!(decide (d < 0))) = t at *
      unfold Vld at hf
      cases t <;> cases B <;> simp only [if_true, if_false, Bool.false_eq_true] at hf ⊢ <;> omega
    by_cases hb : (d.natAbs : Int) ≤ hiOf (-v)
    · exact over_neg_big v d (wayFn how) d.natAbs (decide (d < 0)) w (hiOf_neg hv) (hiOf_nonneg (by omega)) (hiOf_le (by omega)) rfl (fun w => negative_any v w v0 v1) (fun w => size_any d w d1 d2) hb
    · exact over_neg_bad v d (min ((v.natAbs / d.natAbs : Nat) : Int) 70368744177665) (wayFn how) d.natAbs (v.natAbs / d.natAbs) (v.natAbs % d.natAbs) (decide (d < 0)) _ w (way_enters how h0 h1) (hiOf_neg hv) (hiOf_nonneg (by omega)) (hiOf_le (by omega)) rfl
        (fun w => negative_any v w v0 v1) (fun w => size_any d w d1 d2) (by omega) (fun w => by have := div_call (-v) d.natAbs (by omega) (by omega) (by omega) w; rw [Int.natAbs_neg] at this; exact this) rfl (by omega) (by omega)
        (fun w => up_call how h0 h1 _ v.natAbs d.natAbs hg (by omega) w) hq
  · have e := rnd_sign how v d (decide (d < 0)) (by rw [decide_eq_false hv]; cases decide (d < 0) <;> rfl)
    rw [e] at hf
    have hq : 70368744177664 < (min ((v.natAbs / d.natAbs : Nat) : Int) 70368744177665) + (if upB how (decide (d < 0)) ((v.natAbs % d.natAbs : Nat) : Int) (d.natAbs : Int) then 1 else 0) := by
      generalize v.natAbs / d.natAbs = q at *
      generalize upB how (decide (d < 0)) ((v.natAbs % d.natAbs : Nat) : Int) (d.natAbs : Int) = B at *
      generalize decide (d < 0) = t at *
      unfold Vld at hf
      cases t <;> cases B <;> simp only [if_true, if_false, Bool.false_eq_true] at hf ⊢ <;> omega
    by_cases hb : (d.natAbs : Int) ≤ hiOf v
    · exact over_pos_big v d (wayFn how) d.natAbs (decide (d < 0)) w (hiOf_nonneg (by omega)) (hiOf_le (by omega)) rfl (fun w => size_any d w d1 d2) hb
    · exact over_pos_bad v d (min ((v.natAbs / d.natAbs : Nat) : Int) 70368744177665) (wayFn how) d.natAbs (v.natAbs / d.natAbs) (v.natAbs % d.natAbs) (decide (d < 0)) _ w (way_enters how h0 h1) (hiOf_nonneg (by omega)) (hiOf_le (by omega)) rfl
        (fun w => size_any d w d1 d2) (by omega) (fun w => div_call v d.natAbs (by omega) (by omega) (by omega) w) rfl (by omega) (by omega)
        (fun w => up_call how h0 h1 _ v.natAbs d.natAbs hg (by omega) w) hq

set_option maxHeartbeats 400000 in
theorem quotient_zero (h l : Int) (K : Nat) (w : World) :
    Calls Tryz.prog 96 #[.agg #[.int .i64 h, .int .u64 l], .int .i64 0, .func (.func K) #[] #[]] w fun e w' => e = flt 10 ∧ Below w.heap.size w w' := by
  go_enter Tryz.func96, Tryz.ntmps96
  go_wp2
  exact ⟨rfl, rfl, ((Below.refl w.heap.size w).alloc (Nat.le_refl _) _)⟩

set_option maxHeartbeats 400000 in
theorem quotient_ok (h l d z : Int) (K : Nat) (w : World) (d0 : d ≠ 0)
    (co : ∀ w, Calls Tryz.prog 45 #[.agg #[.int .i64 h, .int .u64 l], .int .i64 d, .func (.func K) #[] #[]] w fun e w' => e = .returned (.int .i64 z) ∧ Below w.heap.size w w') :
    Calls Tryz.prog 96 #[.agg #[.int .i64 h, .int .u64 l], .int .i64 d, .func (.func K) #[] #[]] w fun e w' => e = .returned (.int .i64 z) ∧ Below w.heap.size w w' := by
  have e0 : (d == 0) = false := beq_eq_false_iff_ne.2 d0
  have CO := Lib.hid co
  clear co d0
  go_enter Tryz.func96, Tryz.ntmps96
  go_wp2_with (go_at_call 45; refine (CO.out _).mono ?_; rintro e w1 ⟨rfl, hb⟩)
  go_ret
  exact ⟨rfl, (((Below.refl w.heap.size w).alloc (Nat.le_refl _) _).trans (hb.mono (by simp)))⟩

set_option maxHeartbeats 400000 in
theorem quotient_bad (h l d : Int) (K : Nat) (w : World) (d0 : d ≠ 0)
    (co : ∀ w, Calls Tryz.prog 45 #[.agg #[.int .i64 h, .int .u64 l], .int .i64 d, .func (.func K) #[] #[]] w fun e w' => e = flt 4 ∧ Below w.heap.size w w') :
    Calls Tryz.prog 96 #[.agg #[.int .i64 h, .int .u64 l], .int .i64 d, .func (.func K) #[] #[]] w fun e w' => e = flt 4 ∧ Below w.heap.size w w' := by
  have e0 : (d == 0) = false := beq_eq_false_iff_ne.2 d0
  have CO := Lib.hid co
  clear co d0
  go_enter Tryz.func96, Tryz.ntmps96
  go_wp2_with (go_at_call 45; refine (CO.out _).mono ?_; rintro e w1 ⟨rfl, hb⟩)
  exact ⟨rfl, rfl, (((Below.refl w.heap.size w).alloc (Nat.le_refl _) _).trans (hb.mono (by simp)))⟩

end Go.Proofs.YtebfhjndgfcijaaGreatDoor
