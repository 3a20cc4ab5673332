/- The four roundings of a quotient go together, and turn with its sign: pure facts. -/
import Derived.Test.YtggomcbikadaoaaGreatDoorOvs
namespace Go.Proofs.YtggomcbikadaoaaGreatDoor
open Go Go.RowKit

/-- The four roundings of a quotient, by the sizes' quotient Q, rest R and divisor G. -/
theorem rnd_four (n d : Int) (hd : d ≠ 0) : ∃ Q R G : Int, 0 ≤ Q ∧ 0 ≤ R ∧ R < G ∧ (n = 0 → Q = 0 ∧ R = 0) ∧ Q = ((n.natAbs / d.natAbs : Nat) : Int) ∧ R = ((n.natAbs % d.natAbs : Nat) : Int) ∧ G = d.natAbs ∧
    (∀ t, (decide (n < 0) != decide (d < 0)) = t → rnd 0 n d = (if t then -Q else Q) ∧ rnd 1 n d = (if t then -(Q + if 0 < R then 1 else 0) else Q) ∧
      rnd 2 n d = (if t then -Q else Q + if 0 < R then 1 else 0) ∧ rnd 3 n d = (if t then -(Q + if G - R ≤ R then 1 else 0) else Q + if G - R ≤ R then 1 else 0)) := by
  have hg : 0 < d.natAbs := by omega
  refine ⟨_, _, _, Int.natCast_nonneg _, Int.natCast_nonneg _, Int.ofNat_lt.2 (Nat.mod_lt n.natAbs hg), ?_, rfl, rfl, rfl, ?_⟩
  · rintro rfl
    simp
  · intro t ht
    rw [rnd_sign 0 n d t ht, rnd_sign 1 n d t ht, rnd_sign 2 n d t ht, rnd_sign 3 n d t ht]
    obtain ⟨Q, hQ⟩ : ∃ Q : Int, ((n.natAbs / d.natAbs : Nat) : Int) = Q := ⟨_, rfl⟩
    obtain ⟨R, hR⟩ : ∃ R : Int, ((n.natAbs % d.natAbs : Nat) : Int) = R := ⟨_, rfl⟩
    obtain ⟨G, hG⟩ : ∃ G : Int, (d.natAbs : Int) = G := ⟨_, rfl⟩
    rw [hQ, hR, hG]
    cases t <;> simp [upB]

/-- The four roundings go together. -/
def Together (c d u m : Int) : Prop := d ≤ m ∧ m ≤ u ∧ u - d ≤ 1 ∧ (c = d ∧ 0 ≤ d ∨ c = u ∧ u ≤ 0)

theorem rnd_together (n d : Int) (hd : d ≠ 0) : Together (rnd 0 n d) (rnd 1 n d) (rnd 2 n d) (rnd 3 n d) := by
  obtain ⟨Q, R, G, h0, h1, h2, _, _, _, _, h⟩ := rnd_four n d hd
  obtain ⟨e0, e1, e2, e3⟩ := h _ rfl
  unfold Together
  rw [e0, e1, e2, e3]
  cases (decide (n < 0) != decide (d < 0))
  · by_cases a : 0 < R <;> by_cases b : G - R ≤ R <;> simp [a, b] <;> omega
  · by_cases a : 0 < R <;> by_cases b : G - R ≤ R <;> simp [a, b] <;> omega

theorem rnd_turn (n d : Int) (hd : d ≠ 0) : rnd 0 (-n) d = -rnd 0 n d ∧ rnd 3 (-n) d = -rnd 3 n d ∧ rnd 2 (-n) d = -rnd 1 n d ∧ rnd 1 (-n) d = -rnd 2 n d := by
  by_cases hn : n = 0
  · subst hn
    obtain ⟨Q, R, G, h0, h1, h2, hz, _, _, _, h⟩ := rnd_four 0 d hd
    obtain ⟨rfl, rfl⟩ := hz rfl
    obtain ⟨e0, e1, e2, e3⟩ := h _ rfl
    have b : ¬ G ≤ 0 := by omega
    rw [Int.neg_zero, e0, e1, e2, e3]
    simp [b]
  · obtain ⟨Q, R, G, h0, h1, h2, _, q, r, g, h⟩ := rnd_four n d hd
    obtain ⟨Q', R', G', h0', h1', h2', _, q', r', g', h'⟩ := rnd_four (-n) d hd
    obtain rfl : Q' = Q := by rw [q, q', Int.natAbs_neg]
    obtain rfl : R' = R := by rw [r, r', Int.natAbs_neg]
    obtain rfl : G' = G := by rw [g, g']
    obtain ⟨e0, e1, e2, e3⟩ := h _ rfl
    obtain ⟨f0, f1, f2, f3⟩ := h' _ rfl
    have hs : (decide (-n < 0) != decide (d < 0)) = !(decide (n < 0) != decide (d < 0)) := by
      by_cases a : n < 0 <;> by_cases b : d < 0 <;> simp [a, b] <;> omega
    rw [f0, f1, f2, f3, e0, e1, e2, e3, hs]
    cases (decide (n < 0) != decide (d < 0)) <;> simp

end Go.Proofs.YtggomcbikadaoaaGreatDoor
