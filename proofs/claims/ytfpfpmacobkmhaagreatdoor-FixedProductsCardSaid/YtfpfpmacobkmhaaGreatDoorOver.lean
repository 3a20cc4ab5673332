/- The contracts of package fixed's product, over and quotient: the exact product as a number of 128 bits; the rounded quotient of such a number, or the fault ErrRange or ErrZero. Conditions: sizes below 2 to the power of 127, divisors of 64 bits. -/
import Derived.Test.YtfpfpmacobkmhaaGreatDoorWide
namespace Go.Proofs.YtfpfpmacobkmhaaGreatDoor
open Go Go.RowKit

theorem hiOf_nonneg {v : Int} (h : 0 ≤ v) : 0 ≤ hiOf v := by unfold hiOf; omega
theorem hiOf_neg {v : Int} (h : v < 0) : hiOf v < 0 := by unfold hiOf; omega
theorem hiOf_le {v : Int} (h : v < 170141183460469231731687303715884105728) : hiOf v ≤ 9223372036854775807 := by unfold hiOf; omega
theorem hiOf_ge {v : Int} (h : -170141183460469231731687303715884105728 ≤ v) : -9223372036854775808 ≤ hiOf v := by unfold hiOf; omega
theorem loOf_nonneg (v : Int) : 0 ≤ loOf v := by unfold loOf; omega
theorem loOf_le (v : Int) : loOf v ≤ 18446744073709551615 := by unfold loOf; omega

theorem natAbs_mul_lt {a b : Int} (ha0 : -9223372036854775807 ≤ a) (ha1 : a ≤ 9223372036854775807) (hb0 : -9223372036854775807 ≤ b) (hb1 : b ≤ 9223372036854775807) :
    a.natAbs * b.natAbs < 85070591730234615865843651857942052864 := by
  have := Nat.mul_le_mul (show a.natAbs ≤ 9223372036854775807 by omega) (show b.natAbs ≤ 9223372036854775807 by omega)
  omega

/-- The contract of Mul64 in the words of hiOf, loOf. -/
theorem mul64_any (a b : Nat) (w : World) (ha : a < 18446744073709551616) (hb : b < 18446744073709551616) :
    Calls Tryz.prog 56 #[.int .u64 a, .int .u64 b] w fun e w' => e = .returned (.tuple #[.int .u64 (hiOf ((a * b : Nat) : Int)), .int .u64 (loOf ((a * b : Nat) : Int))]) ∧ w = w' := by
  refine (Tryz.bits_Mul64 a b ha hb w).mono ?_
  rintro e w' ⟨rfl, rfl⟩
  refine ⟨?_, rfl⟩
  unfold hiOf loOf
  rfl

set_option maxHeartbeats 400000 in
theorem product_pos (a b P : Int) (w : World) (ha0 : -9223372036854775807 ≤ a) (ha1 : a ≤ 9223372036854775807) (hb0 : -9223372036854775807 ≤ b) (hb1 : b ≤ 9223372036854775807)
    (hs : (a < 0 ∧ b < 0) ∨ (0 ≤ a ∧ 0 ≤ b)) (hP : ((a.natAbs * b.natAbs : Nat) : Int) = P) (p0 : 0 ≤ hiOf P) (p1 : hiOf P ≤ 9223372036854775807) :
    Calls Tryz.prog 29 #[.int .i64 a, .int .i64 b] w fun e w' => e = .returned (.agg #[.int .i64 (hiOf P), .int .u64 (loOf P)]) ∧ Below w.heap.size w w' := by
  have c := fun w => mul64_any a.natAbs b.natAbs w (by omega) (by omega)
  rw [hP] at c
  have C := Lib.hid c
  clear c hP
  have hd : ∃ t, decide (a < 0) = t ∧ decide (b < 0) = t := by
    rcases hs with ⟨s1, s2⟩ | ⟨s1, s2⟩
    · exact ⟨true, decide_eq_true s1, decide_eq_true s2⟩
    · exact ⟨false, decide_eq_false (by omega), decide_eq_false (by omega)⟩
  obtain ⟨t, d1, d2⟩ := hd
  clear hs
  cases t
  all_goals
    go_enter Tryz.func29, Tryz.ntmps29
    go_wp2_with (first | (go_at_call 57; refine (size_any _ _ (by omega) (by omega)).mono ?_; rintro e w' ⟨rfl, rfl⟩) | (go_at_call 56; refine (C.out _).mono ?_; rintro e w' ⟨rfl, rfl⟩))
    exact bodyPost_ret (v := .agg #[.int .i64 (hiOf P), .int .u64 (loOf P)]) (by simp [results, Tryz.results29, go_sem]) rfl ⟨rfl, ((Below.refl _ _).alloc (Nat.le_refl _) _).alloc (by simp) _⟩

set_option maxHeartbeats 400000 in
theorem product_neg (a b P : Int) (w : World) (ha0 : -9223372036854775807 ≤ a) (ha1 : a ≤ 9223372036854775807) (hb0 : -9223372036854775807 ≤ b) (hb1 : b ≤ 9223372036854775807)
    (hs : (a < 0 ∧ 0 ≤ b) ∨ (0 ≤ a ∧ b < 0)) (hP : ((a.natAbs * b.natAbs : Nat) : Int) = P) (p0 : 0 ≤ hiOf P) (p1 : hiOf P ≤ 9223372036854775807)
    (cn : ∀ w, Calls Tryz.prog 58 #[.agg #[.int .i64 (hiOf P), .int .u64 (loOf P)]] w fun e w' => e = .returned (.agg #[.int .i64 (hiOf (-P)), .int .u64 (loOf (-P))]) ∧ Below w.heap.size w w') :
    Calls Tryz.prog 29 #[.int .i64 a, .int .i64 b] w fun e w' => e = .returned (.agg #[.int .i64 (hiOf (-P)), .int .u64 (loOf (-P))]) ∧ Below w.heap.size w w' := by
  have c := fun w => mul64_any a.natAbs b.natAbs w (by omega) (by omega)
  rw [hP] at c
  have C := Lib.hid c
  have CN := Lib.hid cn
  clear c cn hP
  have hd : ∃ t, decide (a < 0) = t ∧ decide (b < 0) = !t := by
    rcases hs with ⟨s1, s2⟩ | ⟨s1, s2⟩
    · exact ⟨true, decide_eq_true s1, decide_eq_false (by omega)⟩
    · exact ⟨false, decide_eq_false (by omega), decide_eq_true s2⟩
  obtain ⟨t, d1, d2⟩ := hd
  clear hs
  cases t
  all_goals
    go_enter Tryz.func29, Tryz.ntmps29
    go_wp2_with (first | (go_at_call 57; refine (size_any _ _ (by omega) (by omega)).mono ?_; rintro e w' ⟨rfl, rfl⟩) | (go_at_call 56; refine (C.out _).mono ?_; rintro e w' ⟨rfl, rfl⟩) | (go_at_call 58; refine (CN.out _).mono ?_; rintro e w1 ⟨rfl, hb⟩; obtain ⟨hc, hf⟩ := bcell hb))
    obtain ⟨k1, k2⟩ := set_pair (w := w1) (b := w.heap.size) (.int .i64 (hiOf (-P))) (.int .u64 (loOf (-P))) (x := .int .i64 0) (y := .int .u64 0) (by rw [hc _ _ (by simp; omega)]; simp [go_sem]) (by rw [hc _ _ (by simp; omega)]; simp [go_sem])
    exact bodyPost_ret (v := .agg #[.int .i64 (hiOf (-P)), .int .u64 (loOf (-P))]) (by simp [results, Tryz.results29, go_sem, k1, k2]) rfl
      ⟨rfl, ((((((Below.refl w.heap.size w).alloc (Nat.le_refl _) _).alloc (by simp) _).trans (hb.mono (by simp; omega))).setCell (by simp) _).setCell (by simp) _)⟩

/-- The exact product of two numbers of 64 bits (but the least one). -/
theorem product_any (a b : Int) (w : World) (ha0 : -9223372036854775807 ≤ a) (ha1 : a ≤ 9223372036854775807) (hb0 : -9223372036854775807 ≤ b) (hb1 : b ≤ 9223372036854775807) :
    Calls Tryz.prog 29 #[.int .i64 a, .int .i64 b] w fun e w' => e = .returned (.agg #[.int .i64 (hiOf (a * b)), .int .u64 (loOf (a * b))]) ∧ Below w.heap.size w w' := by
  have hm := natAbs_mul_lt ha0 ha1 hb0 hb1
  have hn : ((a.natAbs * b.natAbs : Nat) : Int) = ((a * b).natAbs : Int) := by rw [Int.natAbs_mul]
  by_cases hs : (a < 0 ∧ b < 0) ∨ (0 ≤ a ∧ 0 ≤ b)
  · have hp : 0 ≤ a * b := by
      rcases hs with ⟨h1, h2⟩ | ⟨h1, h2⟩
      · exact Int.le_of_lt (Int.mul_pos_of_neg_of_neg h1 h2)
      · exact Int.mul_nonneg h1 h2
    exact product_pos a b (a * b) w ha0 ha1 hb0 hb1 hs (by rw [hn]; omega) (hiOf_nonneg hp) (hiOf_le (by omega))
  · have hs' : (a < 0 ∧ 0 ≤ b) ∨ (0 ≤ a ∧ b < 0) := by omega
    have hp : a * b ≤ 0 := by
      rcases hs' with ⟨h1, h2⟩ | ⟨h1, h2⟩
      · exact Int.mul_nonpos_of_nonpos_of_nonneg (by omega) h2
      · exact Int.mul_nonpos_of_nonneg_of_nonpos h1 (by omega)
    have := product_neg a b (-(a * b)) w ha0 ha1 hb0 hb1 hs' (by rw [hn]; omega) (hiOf_nonneg (by omega)) (hiOf_le (by omega)) (fun w => negative_any _ w (by omega) (by omega))
    rw [Int.neg_neg] at this
    exact this

end Go.Proofs.YtfpfpmacobkmhaaGreatDoor
