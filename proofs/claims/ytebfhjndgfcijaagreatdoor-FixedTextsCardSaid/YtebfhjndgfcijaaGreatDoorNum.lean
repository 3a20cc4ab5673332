/- Plain facts on numbers: the long division of math/bits.Div64, shifts, roundings. No conditions. -/
import Derived.Lib.BitFns
import Derived.Laws.BitsAllLaws
namespace Go.Proofs.YtebfhjndgfcijaaGreatDoor
open Go

theorem half_exit {U Y1 Y0 u1 q r : Nat} (hy : 0 < Y1) (h1 : q * Y1 + r = U) (hq : (U * 4294967296 + u1) / (Y1 * 4294967296 + Y0) ≤ q)
    (hc : q * Y0 ≤ 4294967296 * r + u1) : (U * 4294967296 + u1) / (Y1 * 4294967296 + Y0) = q := by
  apply Nat.le_antisymm hq
  rw [Nat.le_div_iff_mul_le (by omega)]
  subst h1
  have : q * (Y1 * 4294967296 + Y0) = q * Y1 * 4294967296 + q * Y0 := by grind
  omega

theorem half_step {U Y1 Y0 u1 q r : Nat} (_hy : 0 < Y1) (h1 : q * Y1 + r = U) (hq : (U * 4294967296 + u1) / (Y1 * 4294967296 + Y0) ≤ q)
    (hU : U < Y1 * 4294967296 + Y0) (hu : u1 < 4294967296)
    (hc : 4294967296 ≤ q ∨ 4294967296 * r + u1 < q * Y0) : 1 ≤ q ∧ (U * 4294967296 + u1) / (Y1 * 4294967296 + Y0) ≤ q - 1 ∧ (q - 1) * Y1 + (r + Y1) = U := by
  have hlt : (U * 4294967296 + u1) / (Y1 * 4294967296 + Y0) < q := by
    rcases hc with hc | hc
    · have : (U * 4294967296 + u1) / (Y1 * 4294967296 + Y0) < 4294967296 := by
        rw [Nat.div_lt_iff_lt_mul (by omega)]
        omega
      omega
    · rw [Nat.div_lt_iff_lt_mul (by omega)]
      subst h1
      have : q * (Y1 * 4294967296 + Y0) = q * Y1 * 4294967296 + q * Y0 := by grind
      omega
  have h0 : 1 ≤ q := Nat.lt_of_le_of_lt (Nat.zero_le _) hlt
  refine ⟨h0, Nat.le_sub_one_of_lt hlt, ?_⟩
  obtain ⟨k, rfl⟩ : ∃ k, q = k + 1 := ⟨q - 1, by omega⟩
  have : (k + 1) * Y1 = k * Y1 + Y1 := by grind
  simp only [Nat.add_sub_cancel]
  omega

theorem half_break {U Y1 Y0 u1 q r : Nat} (hy : 0 < Y1) (hY0 : Y0 < 4294967296) (h1 : q * Y1 + r = U) (hq : (U * 4294967296 + u1) / (Y1 * 4294967296 + Y0) ≤ q)
    (hq1 : q ≤ 4294967296) (hr : 4294967296 ≤ r) : (U * 4294967296 + u1) / (Y1 * 4294967296 + Y0) = q := by
  refine half_exit hy h1 hq ?_
  have := Nat.mul_le_mul hq1 (Nat.le_of_lt hY0)
  omega

theorem half_init {U Y1 Y0 u1 : Nat} (hy : 2147483648 ≤ Y1) (hY0 : Y0 < 4294967296) (hU : U < Y1 * 4294967296 + Y0) (hu : u1 < 4294967296) :
    U / Y1 * Y1 + U % Y1 = U ∧ (U * 4294967296 + u1) / (Y1 * 4294967296 + Y0) ≤ U / Y1 ∧ U / Y1 ≤ 4294967297 := by
  refine ⟨?_, ?_, ?_⟩
  · have := Nat.div_add_mod U Y1
    rw [Nat.mul_comm]; exact this
  · have hd := Nat.div_add_mod U Y1
    have hm := Nat.mod_lt U (show 0 < Y1 by omega)
    have : (U * 4294967296 + u1) / (Y1 * 4294967296 + Y0) < U / Y1 + 1 := by
      rw [Nat.div_lt_iff_lt_mul (by omega)]
      generalize U / Y1 = q at *
      have e : (q + 1) * (Y1 * 4294967296 + Y0) = Y1 * q * 4294967296 + Y1 * 4294967296 + (q + 1) * Y0 := by grind
      omega
    omega
  · have : U / Y1 < 4294967298 := by
      rw [Nat.div_lt_iff_lt_mul (by omega)]
      omega
    omega

theorem bitLen_bd : ∀ (k x : Nat), x < 2 ^ k → k ≤ 64 → x ≠ 0 → ∃ n, Lib.bitLen x = n + 1 ∧ n < k ∧ 2 ^ n ≤ x ∧ x < 2 ^ (n + 1)
  | 0, x, h, _, h0 => by simp at h; omega
  | k + 1, x, h, hk, h0 => by
    have hx : x < 2 ^ 64 := Nat.lt_of_lt_of_le h (Nat.pow_le_pow_right (by omega) hk)
    rw [Lib.bitLen_half x h0 hx]
    by_cases h1 : x / 2 = 0
    · exact ⟨0, by rw [h1]; rfl, by omega, by simp; omega, by simp; omega⟩
    · obtain ⟨n, a, b, c, d⟩ := bitLen_bd k (x / 2) (by rw [Nat.pow_succ] at h; omega) (by omega) h1
      refine ⟨n + 1, by omega, by omega, ?_, ?_⟩
      · rw [Nat.pow_succ]; omega
      · rw [Nat.pow_succ]; omega

theorem lz_bd (x : Nat) (h0 : x ≠ 0) (hx : x < 18446744073709551616) : ∃ s, s ≤ 63 ∧ Lib.bitLen x = 64 - s ∧ 9223372036854775808 ≤ x * 2 ^ s ∧ x * 2 ^ s < 18446744073709551616 := by
  obtain ⟨n, a, b, c, d⟩ := bitLen_bd 64 x hx (by omega) h0
  refine ⟨63 - n, by omega, by omega, ?_, ?_⟩
  · have := Nat.mul_le_mul_right (2 ^ (63 - n)) c
    rw [← Nat.pow_add, show n + (63 - n) = 63 by omega] at this
    exact this
  · have := Nat.mul_lt_mul_of_pos_right d (show 0 < 2 ^ (63 - n) from Nat.pow_pos (by omega))
    rw [← Nat.pow_add, show n + 1 + (63 - n) = 64 by omega] at this
    exact this

/-- What holds in the loops of the long division: q is not below the digit Q that is looked for, and r is what q leaves. -/
def Guess (Y1 Y0 U u Q q r : Nat) : Prop := q * Y1 + r = U ∧ Q = (U * 4294967296 + u) / (Y1 * 4294967296 + Y0) ∧ Q ≤ q ∧ q ≤ 4294967297 ∧ 2147483648 ≤ Y1 ∧ Y1 < 4294967296 ∧ Y0 < 4294967296 ∧ U < Y1 * 4294967296 + Y0 ∧ u < 4294967296

theorem Guess.init {Y1 Y0 U u : Nat} (hy : 2147483648 ≤ Y1) (hy' : Y1 < 4294967296) (hY0 : Y0 < 4294967296) (hU : U < Y1 * 4294967296 + Y0) (hu : u < 4294967296) :
    Guess Y1 Y0 U u ((U * 4294967296 + u) / (Y1 * 4294967296 + Y0)) (U / Y1) (U % Y1) ∧ U % Y1 < 4294967296 ∧ U / Y1 ≤ 4294967297 := by
  obtain ⟨a, b, c⟩ := half_init (u1 := u) hy hY0 hU hu
  exact ⟨⟨a, rfl, b, c, hy, hy', hY0, hU, hu⟩, Nat.lt_of_lt_of_le (Nat.mod_lt _ (by omega)) (by omega), c⟩

theorem Guess.done {Y1 Y0 U u Q q r : Nat} (h : Guess Y1 Y0 U u Q q r) (hc : q * Y0 ≤ 4294967296 * r + u) : q = Q := by
  obtain ⟨a, rfl, b, c, d, e, f, g, i⟩ := h
  exact (half_exit (by omega) a b hc).symm

theorem Guess.step {Y1 Y0 U u Q q r : Nat} (h : Guess Y1 Y0 U u Q q r) (_hr : r < 4294967296) (hc : 4294967296 ≤ q ∨ 4294967296 * r + u < q * Y0) :
    1 ≤ q ∧ q ≤ 4294967297 ∧ Y1 < 4294967296 ∧ Guess Y1 Y0 U u Q (q - 1) (r + Y1) ∧ (4294967296 ≤ r + Y1 → q - 1 = Q) := by
  obtain ⟨a, rfl, b, c, d, e, f, g, i⟩ := h
  obtain ⟨h1, h2, h3⟩ := half_step (by omega) a b g i hc
  exact ⟨h1, c, e, ⟨h3, rfl, h2, by omega, d, e, f, g, i⟩, fun hb => (half_break (by omega) f h3 h2 (by omega) hb).symm⟩

theorem Guess.small {Y1 Y0 U u Q q r : Nat} (h : Guess Y1 Y0 U u Q q r) (hq : q < 4294967296) : q * Y0 < 18446744073709551616 := by
  obtain ⟨a, rfl, b, c, d, e, f, g, i⟩ := h
  have := Nat.mul_le_mul (Nat.le_sub_one_of_lt hq) (Nat.le_sub_one_of_lt f)
  omega

theorem wrap_nat {m : Nat} (h : m < 18446744073709551616) : IntKind.u64.wrap (m : Int) = m := by
  rw [IntKind.wrap_u64]; omega

/-- The shifted dividend and divisor. -/
theorem shifted (hi lo y s : Nat) (hs : s ≤ 63) (hh : hi < y) (hl : lo < 18446744073709551616) (hy : y * 2 ^ s < 18446744073709551616) :
    ∃ U L, U * 18446744073709551616 + L = (hi * 18446744073709551616 + lo) * 2 ^ s ∧ L < 18446744073709551616 ∧ U < y * 2 ^ s ∧
      bits .or .u64 (IntKind.u64.wrap ((hi : Int) * 2 ^ s)) ((lo : Int) / 2 ^ (64 - s)) = (U : Int) ∧ IntKind.u64.wrap ((lo : Int) * 2 ^ s) = (L : Int) := by
  have hp : 0 < 2 ^ s := Nat.pow_pos (by omega)
  have hps : 2 ^ s * 2 ^ (64 - s) = 18446744073709551616 := by rw [← Nat.pow_add, show s + (64 - s) = 64 by omega]
  have h1 : hi * 2 ^ s < 18446744073709551616 := Nat.lt_of_le_of_lt (Nat.mul_le_mul_right _ (Nat.le_of_lt hh)) hy
  have h2 : lo / 2 ^ (64 - s) < 2 ^ s := by rw [Nat.div_lt_iff_lt_mul (Nat.pow_pos (by omega)), hps]; exact hl
  have h3 : lo * 2 ^ s / 18446744073709551616 = lo / 2 ^ (64 - s) := by
    rw [← hps, Nat.mul_comm lo, Nat.mul_div_mul_left _ _ hp]
  refine ⟨hi * 2 ^ s + lo / 2 ^ (64 - s), lo * 2 ^ s % 18446744073709551616, ?_, Nat.mod_lt _ (by omega), ?_, ?_, ?_⟩
  · have := Nat.div_add_mod (lo * 2 ^ s) 18446744073709551616
    rw [h3] at this
    have e : (hi * 18446744073709551616 + lo) * 2 ^ s = hi * 2 ^ s * 18446744073709551616 + lo * 2 ^ s := by grind
    rw [e]
    omega
  · obtain ⟨k, rfl⟩ : ∃ k, y = hi + 1 + k := ⟨y - (hi + 1), by omega⟩
    have e : (hi + 1 + k) * 2 ^ s = hi * 2 ^ s + 2 ^ s + k * 2 ^ s := by grind
    rw [e]
    omega
  · have e0 : (hi : Int) * 2 ^ s = ((hi * 2 ^ s : Nat) : Int) := by rw [Int.natCast_mul, Int.natCast_pow]; rfl
    have e2 : (lo : Int) / 2 ^ (64 - s) = ((lo / 2 ^ (64 - s) : Nat) : Int) := by rw [Int.natCast_ediv, Int.natCast_pow]; rfl
    rw [IntKind.wrap_u64, e0, e2]
    have h4 : 2 ^ s ≤ 9223372036854775808 := Nat.pow_le_pow_right (n := 2) (by omega) hs
    have h5 : lo / 2 ^ (64 - s) < 18446744073709551616 := Nat.lt_of_lt_of_le h2 (by omega)
    rw [show ((hi * 2 ^ s : Nat) : Int) % 18446744073709551616 = ((hi * 2 ^ s : Nat) : Int) by omega, u64_or_nat _ _ h1 h5, nat_join s _ _ (Nat.mul_mod_left _ _) h2]
  · have e0 : (lo : Int) * 2 ^ s = ((lo * 2 ^ s : Nat) : Int) := by rw [Int.natCast_mul, Int.natCast_pow]; rfl
    rw [IntKind.wrap_u64, e0]
    omega

theorem wrap_sub_mod {U Y : Nat} (hU : U < 18446744073709551616) : IntKind.u64.wrap ((U : Int) - IntKind.u64.wrap (((U / Y : Nat) : Int) * Y)) = ((U % Y : Nat) : Int) := by
  have h1 := Nat.div_add_mod U Y
  rw [Nat.mul_comm] at h1
  rw [← Int.natCast_mul, IntKind.wrap_u64, IntKind.wrap_u64]
  generalize U / Y * Y = a at *
  omega

theorem wrap_digit {U u Y : Nat} (hY : 0 < Y) (hy : Y < 18446744073709551616) :
    IntKind.u64.wrap (IntKind.u64.wrap (IntKind.u64.wrap ((U : Int) * 4294967296) + u) - IntKind.u64.wrap ((((U * 4294967296 + u) / Y : Nat) : Int) * Y)) = (((U * 4294967296 + u) % Y : Nat) : Int) := by
  have h1 := Nat.div_add_mod (U * 4294967296 + u) Y
  have h2 := Nat.mod_lt (U * 4294967296 + u) hY
  rw [Nat.mul_comm] at h1
  rw [← Int.natCast_mul, IntKind.wrap_u64, IntKind.wrap_u64, IntKind.wrap_u64, IntKind.wrap_u64]
  generalize (U * 4294967296 + u) / Y * Y = a at *
  generalize (U * 4294967296 + u) % Y = b at *
  omega

theorem digit_lt {U u Y : Nat} (hU : U < Y) (hu : u < 4294967296) : (U * 4294967296 + u) / Y < 4294967296 := by
  rw [Nat.div_lt_iff_lt_mul (by omega)]
  omega

/-- Two digits make the quotient; the rest is shifted back. -/
theorem long_end {V y s U L u1 u0 Y : Nat} (hy : 0 < y) (hY : Y = y * 2 ^ s) (hV : U * 18446744073709551616 + L = V * 2 ^ s) (hL : L = u1 * 4294967296 + u0) :
    (U * 4294967296 + u1) / Y * 4294967296 + ((U * 4294967296 + u1) % Y * 4294967296 + u0) / Y = V / y ∧ ((U * 4294967296 + u1) % Y * 4294967296 + u0) % Y / 2 ^ s = V % y := by
  have hp : 0 < 2 ^ s := Nat.pow_pos (by omega)
  have hYp : 0 < Y := by rw [hY]; exact Nat.mul_pos hy hp
  have h1 := Nat.div_add_mod (U * 4294967296 + u1) Y
  obtain ⟨Q, hQ⟩ : ∃ Q, (U * 4294967296 + u1) / Y = Q := ⟨_, rfl⟩
  obtain ⟨R, hR⟩ : ∃ R, (U * 4294967296 + u1) % Y = R := ⟨_, rfl⟩
  rw [hQ, hR] at h1
  rw [hQ, hR]
  have h2 := Nat.div_add_mod (R * 4294967296 + u0) Y
  have h3 := Nat.mod_lt (R * 4294967296 + u0) hYp
  obtain ⟨P, hP⟩ : ∃ P, (R * 4294967296 + u0) / Y = P := ⟨_, rfl⟩
  obtain ⟨M, hM⟩ : ∃ M, (R * 4294967296 + u0) % Y = M := ⟨_, rfl⟩
  rw [hP, hM] at h2
  rw [hM] at h3
  rw [hP, hM]
  have h4 : V * 2 ^ s = (Q * 4294967296 + P) * Y + M := by
    have e : (Q * 4294967296 + P) * Y = Y * Q * 4294967296 + Y * P := by grind
    rw [e]; omega
  have h5 : (Q * 4294967296 + P) * Y = (Q * 4294967296 + P) * y * 2 ^ s := by rw [hY, Nat.mul_assoc]
  obtain ⟨K, hK⟩ : ∃ K, Q * 4294967296 + P = K := ⟨_, rfl⟩
  rw [hK] at h4 h5
  rw [hK]
  have h6 : K * y ≤ V := by
    apply Nat.le_of_mul_le_mul_right _ hp
    omega
  obtain ⟨m, rfl⟩ : ∃ m, V = K * y + m := ⟨V - K * y, by omega⟩
  have h7 : M = m * 2 ^ s := by
    have e : (K * y + m) * 2 ^ s = K * y * 2 ^ s + m * 2 ^ s := by grind
    omega
  have h8 : m < y := by
    rw [h7, hY] at h3
    exact Nat.lt_of_mul_lt_mul_right h3
  refine ⟨?_, ?_⟩
  · rw [Nat.mul_comm, Nat.mul_add_div hy, Nat.div_eq_of_lt h8]; rfl
  · rw [h7, Nat.mul_div_cancel _ hp, Nat.mul_comm, Nat.mul_add_mod, Nat.mod_eq_of_lt h8]

end Go.Proofs.YtebfhjndgfcijaaGreatDoor
