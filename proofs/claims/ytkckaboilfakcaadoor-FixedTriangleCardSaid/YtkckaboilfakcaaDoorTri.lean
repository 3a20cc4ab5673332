/- Lengths that are rounded up: the triangle's law. Pure facts. -/
import Derived.Test.YtkckaboilfakcaaDoorUnitsLaw
namespace Go.Proofs.YtkckaboilfakcaaDoor
open Go Go.RowKit

/-- A root that is rounded up is the least number whose square is not below. -/
theorem root_up (u : Nat) : 0 ≤ rootS 2 u ∧ (u : Int) ≤ rootS 2 u * rootS 2 u ∧ (rootS 2 u = 0 ∨ (rootS 2 u - 1) * (rootS 2 u - 1) < u) ∧ (isq u : Int) ≤ rootS 2 u ∧ rootS 2 u ≤ (isq u : Int) + 1 := by
  have g0 := isq_le u
  have g1 := isq_lt u
  rw [rootS_up]
  obtain ⟨t, ht⟩ : ∃ t, isq u = t := ⟨_, rfl⟩
  rw [ht] at g0 g1 ⊢
  have e1 : (t + 1) * (t + 1) = t * t + t + t + 1 := by grind
  rw [e1] at g1
  have e2 : ((t : Int) * t) = ((t * t : Nat) : Int) := by rw [Int.natCast_mul]
  by_cases h : 0 < (u : Int) - (t : Int) * (t : Int)
  · rw [if_pos h]
    have e3 : ((t : Int) + 1) * ((t : Int) + 1) = (t : Int) * t + t + t + 1 := by grind
    have e4 : ((t : Int) + 1 - 1) * ((t : Int) + 1 - 1) = (t : Int) * t := by grind
    rw [e3, e4, e2]
    rw [e2] at h
    refine ⟨by omega, by omega, .inr (by omega), by omega, by omega⟩
  · rw [if_neg h]
    rw [e2] at h ⊢
    refine ⟨by omega, by omega, ?_, by omega, by omega⟩
    by_cases h0 : t = 0
    · exact .inl (by omega)
    · right
      have e5 : ((t : Int) - 1) * ((t : Int) - 1) = (t : Int) * t - t - t + 1 := by grind
      rw [e5, e2]
      omega

theorem int_sq_le {a b : Int} (ha : 0 ≤ a) (hb : 0 ≤ b) (h : a * a ≤ b * b) : a ≤ b := by
  rcases Int.lt_or_le b a with h' | h'
  · have h1 : b * b ≤ a * b := Int.mul_le_mul_of_nonneg_right (Int.le_of_lt h') hb
    have h2 : a * b < a * a := Int.mul_lt_mul_of_pos_left h' (by omega)
    omega
  · exact h'

theorem sq_nonneg (x : Int) : 0 ≤ x * x := by
  rcases Int.le_total 0 x with h | h
  · exact Int.mul_nonneg h h
  · have := Int.mul_nonneg (show 0 ≤ -x by omega) (show 0 ≤ -x by omega)
    rw [Int.neg_mul_neg] at this
    exact this

/-- The product of two spots is at most that of numbers whose squares are not below theirs. -/
theorem cauchy {a b c d x y : Int} (hx : 0 ≤ x) (hy : 0 ≤ y) (h1 : a * a + b * b ≤ x * x) (h2 : c * c + d * d ≤ y * y) : a * c + b * d ≤ x * y := by
  rcases Int.lt_or_le (a * c + b * d) 0 with h | h
  · have := Int.mul_nonneg hx hy
    omega
  · refine int_sq_le h (Int.mul_nonneg hx hy) ?_
    have k1 : (a * a + b * b) * (c * c + d * d) ≤ x * x * (y * y) :=
      Int.mul_le_mul h1 h2 (by have := sq_nonneg c; have := sq_nonneg d; omega) (sq_nonneg x)
    have k2 := sq_nonneg (a * d - b * c)
    have k3 : (a * c + b * d) * (a * c + b * d) = (a * a + b * b) * (c * c + d * d) - (a * d - b * c) * (a * d - b * c) := by grind
    have k4 : x * y * (x * y) = x * x * (y * y) := by grind
    omega

theorem sqS_int (x y : Int) : ((sqS x y : Nat) : Int) = x * x + y * y := by
  unfold sqS
  rw [Int.natCast_add, Int.natCast_mul, Int.natCast_mul, Int.natAbs_mul_self', Int.natAbs_mul_self']

theorem triangle (ax ay bx bz : Int) : rootS 2 (sqS (ax + bx) (ay + bz)) ≤ rootS 2 (sqS ax ay) + rootS 2 (sqS bx bz) := by
  obtain ⟨x0, x1, _, _, _⟩ := root_up (sqS ax ay)
  obtain ⟨y0, y1, _, _, _⟩ := root_up (sqS bx bz)
  obtain ⟨z0, _, z2, _, _⟩ := root_up (sqS (ax + bx) (ay + bz))
  rw [sqS_int] at x1 y1 z2
  obtain ⟨x, hx⟩ : ∃ x, rootS 2 (sqS ax ay) = x := ⟨_, rfl⟩
  obtain ⟨y, hy⟩ : ∃ y, rootS 2 (sqS bx bz) = y := ⟨_, rfl⟩
  obtain ⟨z, hz⟩ : ∃ z, rootS 2 (sqS (ax + bx) (ay + bz)) = z := ⟨_, rfl⟩
  rw [hx] at x0 x1
  rw [hy] at y0 y1
  rw [hz] at z0 z2
  rw [hx, hy, hz]
  have hc := cauchy x0 y0 x1 y1
  rcases z2 with h | h
  · omega
  · have e1 : (ax + bx) * (ax + bx) + (ay + bz) * (ay + bz) = (ax * ax + ay * ay) + (bx * bx + bz * bz) + 2 * (ax * bx + ay * bz) := by grind
    have e2 : (x + y) * (x + y) = x * x + y * y + 2 * (x * y) := by grind
    rcases Int.lt_or_le (x + y) z with h' | h'
    · have h3 : (x + y) * (x + y) ≤ (z - 1) * (z - 1) := Int.mul_le_mul (by omega) (by omega) (by omega) (by omega)
      omega
    · exact h'

end Go.Proofs.YtkckaboilfakcaaDoor
