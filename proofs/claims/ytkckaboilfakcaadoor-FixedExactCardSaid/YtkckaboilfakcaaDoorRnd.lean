/- What the four roundings are: pure facts. -/
import Derived.Test.YtkckaboilfakcaaDoorOvs
namespace Go.Proofs.YtkckaboilfakcaaDoor
open Go Go.RowKit

/-- A rounded quotient, by the sizes' quotient Q and rest R; u: 1 where the size is rounded up. -/
theorem rnd_form (how n d : Int) (hd : d ≠ 0) : ∃ Q R G u : Int, 0 ≤ Q ∧ 0 ≤ R ∧ R < G ∧ G = d.natAbs ∧ u = (if upB how (decide (n < 0) != decide (d < 0)) R G then 1 else 0) ∧ (n.natAbs : Int) = Q * G + R ∧
    rnd how n d = (if decide (n < 0) != decide (d < 0) then -(Q + u) else Q + u) ∧ n - rnd how n d * d = (if n < 0 then -(R - u * G) else R - u * G) := by
  have hg : 0 < d.natAbs := by omega
  refine ⟨((n.natAbs / d.natAbs : Nat) : Int), ((n.natAbs % d.natAbs : Nat) : Int), (d.natAbs : Int), _, Int.natCast_nonneg _, Int.natCast_nonneg _, ?_, rfl, rfl, ?_, ?_, ?_⟩
  · exact Int.ofNat_lt.2 (Nat.mod_lt _ hg)
  · have := Nat.div_add_mod n.natAbs d.natAbs
    rw [← Int.natCast_mul, ← Int.natCast_add, Nat.mul_comm, this]
  · rw [rnd_sign how n d _ rfl]
  · rw [rnd_sign how n d _ rfl]
    have hm := Nat.div_add_mod n.natAbs d.natAbs
    have hm' : ((n.natAbs / d.natAbs : Nat) : Int) * (d.natAbs : Int) + ((n.natAbs % d.natAbs : Nat) : Int) = (n.natAbs : Int) := by
      rw [← Int.natCast_mul, ← Int.natCast_add, Nat.mul_comm, hm]
    obtain ⟨Q, hQ⟩ : ∃ Q : Int, ((n.natAbs / d.natAbs : Nat) : Int) = Q := ⟨_, rfl⟩
    obtain ⟨R, hR⟩ : ∃ R : Int, ((n.natAbs % d.natAbs : Nat) : Int) = R := ⟨_, rfl⟩
    rw [hQ, hR] at hm'
    rw [hQ, hR]
    by_cases hn : n < 0 <;> by_cases hd0 : d < 0
    · have e1 : (decide (n < 0) != decide (d < 0)) = false := by simp [hn, hd0]
      have e2 : (d.natAbs : Int) = -d := by omega
      rw [e1, if_pos hn, e2]
      rw [e2] at hm'
      obtain ⟨u, hu⟩ : ∃ u : Int, (if upB how false R (-d) = true then (1 : Int) else 0) = u := ⟨_, rfl⟩
      rw [hu]
      have : n = Q * d - R := by have : (n.natAbs : Int) = -n := by omega
                                 grind
      grind
    · have e1 : (decide (n < 0) != decide (d < 0)) = true := by simp [hn, hd0]
      have e2 : (d.natAbs : Int) = d := by omega
      rw [e1, if_pos hn, e2]
      rw [e2] at hm'
      obtain ⟨u, hu⟩ : ∃ u : Int, (if upB how true R d = true then (1 : Int) else 0) = u := ⟨_, rfl⟩
      rw [hu]
      have : n = -(Q * d) - R := by have : (n.natAbs : Int) = -n := by omega
                                    grind
      grind
    · have e1 : (decide (n < 0) != decide (d < 0)) = true := by simp [hn, hd0]
      have e2 : (d.natAbs : Int) = -d := by omega
      rw [e1, if_neg hn, e2]
      rw [e2] at hm'
      obtain ⟨u, hu⟩ : ∃ u : Int, (if upB how true R (-d) = true then (1 : Int) else 0) = u := ⟨_, rfl⟩
      rw [hu]
      have : n = -(Q * d) + R := by have : (n.natAbs : Int) = n := by omega
                                    grind
      grind
    · have e1 : (decide (n < 0) != decide (d < 0)) = false := by simp [hn, hd0]
      have e2 : (d.natAbs : Int) = d := by omega
      rw [e1, if_neg hn, e2]
      rw [e2] at hm'
      obtain ⟨u, hu⟩ : ∃ u : Int, (if upB how false R d = true then (1 : Int) else 0) = u := ⟨_, rfl⟩
      rw [hu]
      have : n = Q * d + R := by have : (n.natAbs : Int) = n := by omega
                                 grind
      grind

theorem rnd_down (n d : Int) (hd : 0 < d) : 0 ≤ n - rnd 1 n d * d ∧ n - rnd 1 n d * d < d := by
  obtain ⟨Q, R, G, u, h0, h1, h2, h3, h4, _, _, h6⟩ := rnd_form 1 n d (by omega)
  rw [h6]
  have hG : G = d := by omega
  have hd0 : ¬ d < 0 := by omega
  subst hG
  by_cases hn : n < 0
  · have e : (decide (n < 0) != decide (G < 0)) = true := by simp [hn, hd0]
    rw [e] at h4
    rw [if_pos hn]
    by_cases hr : 0 < R
    · have : u = 1 := by rw [h4]; simp [upB, hr]
      subst this; omega
    · have : u = 0 := by rw [h4]; simp [upB, hr]
      subst this; omega
  · have e : (decide (n < 0) != decide (G < 0)) = false := by simp [hn, hd0]
    rw [e] at h4
    rw [if_neg hn]
    have : u = 0 := by rw [h4]; simp [upB]
    subst this; omega

theorem rnd_near (n d : Int) (hd : d ≠ 0) : -(d.natAbs : Int) ≤ 2 * (n - rnd 3 n d * d) ∧ 2 * (n - rnd 3 n d * d) ≤ d.natAbs := by
  obtain ⟨Q, R, G, u, h0, h1, h2, h3, h4, _, _, h6⟩ := rnd_form 3 n d hd
  rw [h6, ← h3]
  by_cases hr : G - R ≤ R
  · have : u = 1 := by rw [h4]; simp [upB, hr]
    subst this
    split <;> omega
  · have : u = 0 := by rw [h4]; simp [upB, hr]
    subst this
    split <;> omega

end Go.Proofs.YtkckaboilfakcaaDoor
