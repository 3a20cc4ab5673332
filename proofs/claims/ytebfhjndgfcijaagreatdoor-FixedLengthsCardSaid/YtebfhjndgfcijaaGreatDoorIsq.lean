/- The whole root of a number, and Newton's step to it: pure facts. -/
import Derived.Test.YtebfhjndgfcijaaGreatDoorNum
namespace Go.Proofs.YtebfhjndgfcijaaGreatDoor
open Go

theorem isq_ex (V : Nat) : ∃ s : Nat, s * s ≤ V ∧ V < (s + 1) * (s + 1) := by
  induction V with
  | zero => exact ⟨0, by omega, by omega⟩
  | succ V ih =>
    obtain ⟨s, h0, h1⟩ := ih
    by_cases h : V + 1 < (s + 1) * (s + 1)
    · exact ⟨s, by omega, h⟩
    · refine ⟨s + 1, by omega, ?_⟩
      have : (s + 1 + 1) * (s + 1 + 1) = (s + 1) * (s + 1) + (s + 1) + (s + 1) + 1 := by grind
      omega

/-- The greatest integer whose square is at most V. -/
noncomputable def isq (V : Nat) : Nat := Classical.choose (isq_ex V)
theorem isq_le (V : Nat) : isq V * isq V ≤ V := (Classical.choose_spec (isq_ex V)).1
theorem isq_lt (V : Nat) : V < (isq V + 1) * (isq V + 1) := (Classical.choose_spec (isq_ex V)).2

theorem sq_mono {a b : Nat} (h : a ≤ b) : a * a ≤ b * b := Nat.mul_le_mul h h
theorem sq_lt {a b : Nat} (h : a * a < b * b) : a < b := by
  rcases Nat.lt_or_ge a b with h' | h'
  · exact h'
  · have := sq_mono h'; omega

theorem isq_is {V s : Nat} (h0 : s * s ≤ V) (h1 : V < (s + 1) * (s + 1)) : isq V = s := by
  have a := sq_lt (Nat.lt_of_le_of_lt h0 (isq_lt V))
  have b := sq_lt (Nat.lt_of_le_of_lt (isq_le V) h1)
  omega

theorem four_le (r p : Nat) : 4 * (r * p) ≤ (r + p) * (r + p) := by
  rcases Nat.le_total r p with h | h
  · obtain ⟨d, rfl⟩ := Nat.exists_eq_add_of_le h
    have : (r + (r + d)) * (r + (r + d)) = 4 * (r * (r + d)) + d * d := by grind
    omega
  · obtain ⟨d, rfl⟩ := Nat.exists_eq_add_of_le h
    have : (p + d + p) * (p + d + p) = 4 * ((p + d) * p) + d * d := by grind
    omega

/-- One step of Newton's from above stays above. -/
theorem newton_above {V r : Nat} (h : 0 < r) : V < ((r + V / r) / 2 + 1) * ((r + V / r) / 2 + 1) := by
  have h1 : V < r * (V / r + 1) := by
    have := Nat.div_add_mod V r
    have := Nat.mod_lt V h
    rw [Nat.mul_add, Nat.mul_one]
    omega
  have h2 := four_le r (V / r + 1)
  have h3 := sq_mono (show r + (V / r + 1) ≤ 2 * ((r + V / r) / 2 + 1) by omega)
  obtain ⟨t, ht⟩ : ∃ t, (r + V / r) / 2 + 1 = t := ⟨_, rfl⟩
  rw [ht] at h3 ⊢
  have : 2 * t * (2 * t) = 4 * (t * t) := by grind
  omega

theorem newton_stop {V r : Nat} (h : 0 < r) (hs : r ≤ (r + V / r) / 2) : r * r ≤ V :=
  (Nat.le_div_iff_mul_le h).1 (show r ≤ V / r by omega)

end Go.Proofs.YtebfhjndgfcijaaGreatDoor
