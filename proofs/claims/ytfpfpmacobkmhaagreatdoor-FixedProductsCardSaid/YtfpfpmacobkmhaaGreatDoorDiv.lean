/- The contract of math/bits.Div64, walked in its own text: for every divisor above the high part it returns quotient and rest of the number of 128 bits. Condition: the divisor is above the high part. -/
import Derived.Test.YtfpfpmacobkmhaaGreatDoorDivq
namespace Go.Proofs.YtfpfpmacobkmhaaGreatDoor
open Go Go.RowKit

theorem div64_big (hi lo y : Nat) (w : World) (hh : 0 < hi) (hy : hi < y) (hy2 : y < 18446744073709551616) (hl : lo < 18446744073709551616) :
    Calls Tryz.prog 59 #[.int .u64 hi, .int .u64 lo, .int .u64 y] w fun e w' =>
      e = .returned (.tuple #[.int .u64 (((hi * 18446744073709551616 + lo) / y : Nat) : Int), .int .u64 (((hi * 18446744073709551616 + lo) % y : Nat) : Int)]) ∧ w = w' := by
  obtain ⟨s, hs, hb, hY1, hY2⟩ := lz_bd y (by omega) hy2
  obtain ⟨U, L, hV, hL, hU, e4, e5⟩ := shifted hi lo y s hs hy hl hY2
  obtain ⟨Y, hY⟩ : ∃ Y, Y = y * 2 ^ s := ⟨_, rfl⟩
  rw [← hY] at hY1 hY2 hU
  have hYs : Y / 4294967296 * 4294967296 + Y % 4294967296 = Y := Nat.div_add_mod' Y 4294967296
  obtain ⟨k1, k2⟩ := long_end (V := hi * 18446744073709551616 + lo) (y := y) (s := s) (U := U) (L := L) (u1 := L / 4294967296) (u0 := L % 4294967296) (Y := Y) (by omega) hY hV (by omega)
  have hu1 : L / 4294967296 < 4294967296 := by omega
  have hu0 : L % 4294967296 < 4294967296 := by omega
  have hR := Nat.mod_lt (U * 4294967296 + L / 4294967296) (show 0 < Y by omega)
  obtain ⟨g1, g1r, g1q⟩ := Guess.init (Y1 := Y / 4294967296) (Y0 := Y % 4294967296) (U := U) (u := L / 4294967296) (by omega) (by omega) (by omega) (by omega) hu1
  obtain ⟨g2, g2r, g2q⟩ := Guess.init (Y1 := Y / 4294967296) (Y0 := Y % 4294967296) (U := (U * 4294967296 + L / 4294967296) % Y) (u := L % 4294967296) (by omega) (by omega) (by omega) (by omega) hu0
  rw [hYs] at g1 g2
  have hQ := digit_lt hU hu1
  have hP := digit_lt hR hu0
  have hw0 : (y : Int) * 2 ^ s = ((y * 2 ^ s : Nat) : Int) := by rw [Int.natCast_mul, Int.natCast_pow]; rfl
  have hw1 : IntKind.u64.wrap ((y : Int) * 2 ^ s) = (Y : Int) := by
    rw [hw0, ← hY]; exact wrap_nat hY2
  have hand : ∀ Z : Nat, Z < 18446744073709551616 → bits .and .u64 (Z : Int) 4294967295 = ((Z % 4294967296 : Nat) : Int) := fun Z hZ => by
    rw [show (4294967295 : Int) = ((4294967295 : Nat) : Int) from rfl, u64_and_nat _ _ hZ (by omega), nat_mask32]
  have ha := div64_walk hi lo y s Y (Y / 4294967296) (Y % 4294967296) U L (L / 4294967296) (L % 4294967296) (U / (Y / 4294967296)) (U % (Y / 4294967296))
    ((U * 4294967296 + L / 4294967296) / Y) ((U * 4294967296 + L / 4294967296) % Y) ((U * 4294967296 + L / 4294967296) % Y / (Y / 4294967296)) ((U * 4294967296 + L / 4294967296) % Y % (Y / 4294967296))
    (((U * 4294967296 + L / 4294967296) % Y * 4294967296 + L % 4294967296) / Y) (((U * 4294967296 + L / 4294967296) % Y * 4294967296 + L % 4294967296) % Y)
    (((U * 4294967296 + L / 4294967296) % Y * 4294967296 + L % 4294967296) % Y / 2 ^ s) w hh hy hs hy2
    (fun w => (Tryz.bits_LeadingZeros64 y w (by omega) (by omega)).mono (by rintro e w' ⟨rfl, rfl⟩; exact ⟨ret_int (by rw [Int.toNat_natCast, hb]; omega), rfl⟩))
    hw1 (by omega) (hand Y hY2) e4 e5 (by omega) (hand L hL) (by omega) (by omega) (by omega) (by omega)
    (Int.natCast_ediv _ _).symm (by omega) (wrap_sub_mod (by omega)) (by omega) g1 (by omega)
    (wrap_digit (by omega) hY2) (Int.natCast_ediv _ _).symm (by omega) (wrap_sub_mod (by omega)) (by omega) g2 (by omega) (wrap_digit (by omega) hY2) (by rw [Int.natCast_ediv (_ % _), Int.natCast_pow]; rfl)
  refine ha.mono ?_
  rintro e w' ⟨rfl, rfl⟩
  exact ⟨ret_int2 (by rw [← k1]; omega) (by rw [k2]), rfl⟩

/-- What the long division of math/bits gives: for every divisor above the high part. -/
theorem div64_any (hi lo y : Nat) (w : World) (hy : hi < y) (hy2 : y < 18446744073709551616) (hl : lo < 18446744073709551616) :
    Calls Tryz.prog 59 #[.int .u64 hi, .int .u64 lo, .int .u64 y] w fun e w' =>
      e = .returned (.tuple #[.int .u64 (((hi * 18446744073709551616 + lo) / y : Nat) : Int), .int .u64 (((hi * 18446744073709551616 + lo) % y : Nat) : Int)]) ∧ ∃ n, w' = w.drewN n := by
  by_cases h : hi = 0
  · subst h
    rw [Nat.zero_mul, Nat.zero_add]
    exact div64_small lo y w hy hy2 hl
  · refine (div64_big hi lo y w (by omega) hy hy2 hl).mono ?_
    rintro e w' ⟨rfl, rfl⟩
    exact ⟨rfl, 0, rfl⟩

end Go.Proofs.YtfpfpmacobkmhaaGreatDoor
