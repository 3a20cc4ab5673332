/- besomlaw01.FixedUnits: true, whatever the spot. -/
import Derived.Test.YtebfhjndgfcijaaGreatDoorAlive
import Derived.Test.YtebfhjndgfcijaaGreatDoorLength
import Derived.Test.YtebfhjndgfcijaaGreatDoorLeft
namespace Go.Proofs.YtebfhjndgfcijaaGreatDoor
open Go Go.RowKit

/-- A spot in a box that is there. -/
def SpotAt (W : World) (b : Nat) (x y : Int) : Prop := W.cell? ⟨b, 0, none⟩ = some (.int .i64 x) ∧ W.cell? ⟨b, 1, none⟩ = some (.int .i64 y)
theorem spot_later {W W' : World} {b : Nat} {x y : Int} (hb : Below W.heap.size W W') (h : SpotAt W b x y) : SpotAt W' b x y := ⟨cell_later hb h.1, cell_later hb h.2⟩
theorem spot_alloc {W : World} {b : Nat} {x y : Int} (h : SpotAt W b x y) (o : Obj) : SpotAt (W.alloc o) b x y := ⟨alloc_cell h.1, alloc_cell h.2⟩
theorem spot_new (W : World) (x y : Int) : SpotAt (W.alloc (.cells #[.int .i64 x, .int .i64 y] 33)) W.heap.size x y := ⟨by simp [go_sem], by simp [go_sem]⟩

theorem shr_spec {a sq : Nat} (h : a * a ≤ sq) (h0 : 0 < sq) : sq * (shr a sq * shr a sq) ≤ a * a * 4294967296 ∧ a * a * 4294967296 < sq * ((shr a sq + 1) * (shr a sq + 1)) := by
  have h1 : a * a * 4294967296 < sq * ((0 + 2 ^ 17) * (0 + 2 ^ 17)) := by omega
  have := shAux_spec sq (a * a * 4294967296) 17 0 (by omega) h1
  exact ⟨this.1, this.2.1⟩

theorem shr_zero {sq : Nat} (h0 : 0 < sq) : shr 0 sq = 0 := by
  have h := (shr_spec (a := 0) (Nat.zero_le _) h0).1
  rw [Nat.zero_mul] at h
  rcases Nat.mul_eq_zero.1 (Nat.le_zero.1 h) with h1 | h1
  · omega
  · rcases Nat.mul_eq_zero.1 h1 with h2 | h2 <;> exact h2

theorem shareS_neg (n : Int) {sq : Nat} (h0 : 0 < sq) : shareS (-n) sq = -shareS n sq := by
  unfold shareS
  rw [Int.natAbs_neg]
  rcases Int.lt_trichotomy n 0 with h | h | h
  · rw [if_neg (by omega), if_pos h]; omega
  · subst h
    rw [if_neg (by omega), if_neg (by omega)]
    show ((shr 0 sq : Nat) : Int) = -((shr 0 sq : Nat) : Int)
    rw [shr_zero h0]
    rfl
  · rw [if_pos (by omega), if_neg (by omega)]

theorem shareS_abs (n : Int) (sq : Nat) : (shareS n sq).natAbs = shr n.natAbs sq := by
  unfold shareS
  split <;> omega

/-- What the two shares of a length are together. -/
theorem shares {p q sq : Nat} (h : sq = p * p + q * q) (h0 : 0 < sq) :
    shr p sq * shr p sq + shr q sq * shr q sq ≤ 4294967296 ∧ 4294967296 < (shr p sq + 1) * (shr p sq + 1) + (shr q sq + 1) * (shr q sq + 1) := by
  obtain ⟨a1, a2⟩ := shr_spec (a := p) (sq := sq) (by omega) h0
  obtain ⟨b1, b2⟩ := shr_spec (a := q) (sq := sq) (by omega) h0
  constructor
  · refine Nat.le_of_mul_le_mul_left (c := sq) ?_ h0
    rw [Nat.mul_add]
    omega
  · obtain ⟨m, hm⟩ : ∃ m, (shr p sq + 1) * (shr p sq + 1) + (shr q sq + 1) * (shr q sq + 1) = m := ⟨_, rfl⟩
    have e : sq * m = sq * ((shr p sq + 1) * (shr p sq + 1)) + sq * ((shr q sq + 1) * (shr q sq + 1)) := by rw [← hm, Nat.mul_add]
    rw [hm]
    rcases Nat.lt_or_ge 4294967296 m with h' | h'
    · exact h'
    · have := Nat.mul_le_mul_left sq h'
      omega

theorem rootS_up (u : Nat) : rootS 2 u = if 0 < (u : Int) - (isq u : Int) * (isq u : Int) then (isq u : Int) + 1 else (isq u : Int) := by
  unfold rootS
  by_cases h : 0 < (u : Int) - (isq u : Int) * (isq u : Int)
  · rw [if_pos h, if_pos (by simp only [upB]; simpa using h)]
  · rw [if_neg h, if_neg (by simp only [upB]; simpa using h), Int.add_zero]

theorem rootS_down (u : Nat) : rootS 1 u = (isq u : Int) := by
  unfold rootS
  simp [upB]

theorem unit_length {A B : Nat} (h1 : A * A + B * B ≤ 4294967296) (h2 : 4294967296 < (A + 1) * (A + 1) + (B + 1) * (B + 1)) :
    A ≤ 65536 ∧ B ≤ 65536 ∧ rootS 2 (A * A + B * B) ≤ 65536 ∧ 65532 < rootS 1 (A * A + B * B) := by
  have hA : A < 65537 := sq_lt (by omega)
  have hB : B < 65537 := sq_lt (by omega)
  have e1 : (A + 1) * (A + 1) = A * A + A + A + 1 := by grind
  have e2 : (B + 1) * (B + 1) = B * B + B + B + 1 := by grind
  have hu : 4294574089 ≤ A * A + B * B := by omega
  obtain ⟨u, hU⟩ : ∃ u, A * A + B * B = u := ⟨_, rfl⟩
  rw [hU] at h1 hu ⊢
  have g0 := isq_le u
  have g1 := isq_lt u
  have i1 : isq u < 65537 := sq_lt (by omega)
  have i2 : 65533 < isq u + 1 := sq_lt (by omega)
  refine ⟨by omega, by omega, ?_, ?_⟩
  · rw [rootS_up]
    obtain ⟨t, ht⟩ : ∃ t, isq u = t := ⟨_, rfl⟩
    rw [ht] at g0 g1 i1 ⊢
    split
    · have : t ≠ 65536 := by
        intro h
        subst h
        omega
      omega
    · omega
  · rw [rootS_down]
    omega

theorem rootS_small (how : Int) (u : Nat) (hu : u ≤ 4294967296) : Vld (rootS how u) := by
  have := sq_lt (a := isq u) (b := 65537) (Nat.lt_of_le_of_lt (isq_le u) (by omega))
  unfold rootS Vld
  split <;> omega

theorem neg_vld {n : Int} (h : Vld n) : wrap64 (-n) = -n := by
  unfold Vld at h
  unfold wrap64
  omega

end Go.Proofs.YtebfhjndgfcijaaGreatDoor
