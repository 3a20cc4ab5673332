/- The contract of math/bits.Div64, walked in its own text: for every divisor above the high part it returns quotient and rest of the number of 128 bits. Condition: the divisor is above the high part. -/
import Derived.Test.YtebfhjndgfcijaaGreatDoorCore
import Derived.Test.YtebfhjndgfcijaaGreatDoorNum
import Derived.BigQuiet
import Derived.Deep.QuietTactic
namespace Go.Proofs.YtebfhjndgfcijaaGreatDoor
open Go.RowKit

theorem ret_int2 {k l : IntKind} {a b c d : Int} (h : a = b) (h2 : c = d) : Ending.returned (.tuple #[.int k a, .int l c]) = .returned (.tuple #[.int k b, .int l d]) := by rw [h, h2]
theorem wrap_div {lo y : Nat} (_hy : 0 < y) (hl : lo < 18446744073709551616) : IntKind.u64.wrap ((lo : Int) / (y : Int)) = ((lo / y : Nat) : Int) := by
  have := Nat.div_le_self lo y
  rw [← Int.natCast_ediv, wrap_nat (by omega)]

set_option maxRecDepth 100000 in
set_option maxHeartbeats 400000 in
theorem div64_small (lo y : Nat) (w : World) (hy : 0 < y) (hy2 : y < 18446744073709551616) (hl : lo < 18446744073709551616) :
    Calls Tryz.prog 117 #[.int .u64 0, .int .u64 lo, .int .u64 y] w fun e w' => e = .returned (.tuple #[.int .u64 ((lo / y : Nat) : Int), .int .u64 ((lo % y : Nat) : Int)]) ∧ ∃ n, w' = w.drewN n := by
  have hy0 : ((y : Int) == 0) = false := beq_eq_false_iff_ne.2 (by omega)
  go_enter Tryz.func117, Tryz.ntmps117
  go_wp2_with fail
  go_quiet (fail)
  go_wp2
  go_ret2
  exact ⟨ret_int2 (wrap_div hy hl) rfl, _, rfl⟩

set_option maxRecDepth 100000 in
set_option maxHeartbeats 1000000 in
theorem div64_walk (hi lo y s Y Y1 Y0 U L u1 u0 q0 r0 Q R q1 t1 P M rem : Nat) (w : World) (hh : 0 < hi) (hy : hi < y) (hs : s ≤ 63) (_hy2 : y < 18446744073709551616)
    (cl : ∀ w, Calls Tryz.prog 137 #[.int .u64 y] w fun e w' => e = .returned (.int .i64 (s : Int)) ∧ w = w')
    (r1 : IntKind.u64.wrap ((y : Int) * 2 ^ s) = Y) (r2 : (Y : Int) / 4294967296 = Y1) (r3 : bits .and .u64 (Y : Int) 4294967295 = Y0)
    (r4 : bits .or .u64 (IntKind.u64.wrap ((hi : Int) * 2 ^ s)) ((lo : Int) / 2 ^ (64 - s)) = U) (r5 : IntKind.u64.wrap ((lo : Int) * 2 ^ s) = L)
    (r6 : (L : Int) / 4294967296 = u1) (r7 : bits .and .u64 (L : Int) 4294967295 = u0) (b1 : 1 ≤ Y1) (b2 : (Y1 : Int) < 4294967296) (b3 : (u1 : Int) < 4294967296) (b3' : (u0 : Int) < 4294967296)
    (r8 : (U : Int) / Y1 = q0) (b4 : (q0 : Int) ≤ 4294967297) (r9 : IntKind.u64.wrap ((U : Int) - IntKind.u64.wrap ((q0 : Int) * Y1)) = r0) (b5 : (r0 : Int) < 4294967296)
    (g1 : Guess Y1 Y0 U u1 Q q0 r0) (bQ : (Q : Int) < 4294967296)
    (s1 : IntKind.u64.wrap (IntKind.u64.wrap (IntKind.u64.wrap ((U : Int) * 4294967296) + u1) - IntKind.u64.wrap ((Q : Int) * Y)) = R)
    (s2 : (R : Int) / Y1 = q1) (b6 : (q1 : Int) ≤ 4294967297) (s3 : IntKind.u64.wrap ((R : Int) - IntKind.u64.wrap ((q1 : Int) * Y1)) = t1) (b7 : (t1 : Int) < 4294967296)
    (g2 : Guess Y1 Y0 R u0 P q1 t1) (bP : (P : Int) < 4294967296)
    (s4 : IntKind.u64.wrap (IntKind.u64.wrap (IntKind.u64.wrap ((R : Int) * 4294967296) + u0) - IntKind.u64.wrap ((P : Int) * Y)) = M) (s5 : (M : Int) / 2 ^ s = rem) :
    Calls Tryz.prog 117 #[.int .u64 hi, .int .u64 lo, .int .u64 y] w fun e w' => e = .returned (.tuple #[.int .u64 ((Q : Int) * 4294967296 + P), .int .u64 rem]) ∧ w = w' := by
  have hy0 : ((y : Int) == 0) = false := beq_eq_false_iff_ne.2 (by omega)
  have hh0 : ((hi : Int) == 0) = false := beq_eq_false_iff_ne.2 (by omega)
  have hyh : ¬ ((y : Int) ≤ hi) := by omega
  have CL := Lib.hid cl
  clear cl
  go_enter Tryz.func117, Tryz.ntmps117
  go_wp2_with (go_at_call 137; refine (CL.out _).mono ?_; rintro e w' ⟨rfl, rfl⟩)
  clear hy0 hh0 hyh _hy2 hh hy r1 r2 r3 r4 r5 r6 r7 r8 r9
  go_loop [15, 16] (fun q r => ∃ q' r' : Nat, q = .int .u64 q' ∧ r = .int .u64 r' ∧ Guess Y1 Y0 U u1 Q q' r' ∧ (r' : Int) < 4294967296) (fun q _ => (intOf q).toNat)
  case atStart => exact ⟨q0, r0, rfl, rfl, g1, b5⟩
  case round =>
    obtain ⟨q, r, rfl, rfl, hg, hr⟩ := hrel
    clear g1 b4 b5
    have hcase : (((4294967296 : Int) ≤ q ∨ ((q : Int) < 4294967296 ∧ 4294967296 * r + u1 < q * Y0)) ∨ ((q : Int) < 4294967296 ∧ q * Y0 ≤ 4294967296 * r + u1)) := by omega
    rcases hcase with (hc | ⟨hq, hc⟩) | ⟨hq, hc⟩
    · obtain ⟨c1, c2, c3, hg', hb⟩ := hg.step (by omega) (.inl (by omega))
      have c4 : (q : Int) ≤ 4294967297 := by omega
      clear c2 c3
      by_cases hbr : (4294967296 : Int) ≤ r + Y1
      · have e : (q : Int) - 1 = Q := by have := hb (by omega); omega
        clear hb
        go_wp2
        go_loop [18, 16] (fun q r => ∃ q' r' : Nat, q = .int .u64 q' ∧ r = .int .u64 r' ∧ Guess Y1 Y0 R u0 P q' r' ∧ (r' : Int) < 4294967296) (fun q _ => (intOf q).toNat)
        case atStart => exact ⟨q1, t1, rfl, rfl, g2, b7⟩
        case round =>
          obtain ⟨q2, r2, rfl, rfl, hg2, hr2⟩ := hrel
          clear g2 b6 b7
          have hcase : (((4294967296 : Int) ≤ q2 ∨ ((q2 : Int) < 4294967296 ∧ 4294967296 * r2 + u0 < q2 * Y0)) ∨ ((q2 : Int) < 4294967296 ∧ q2 * Y0 ≤ 4294967296 * r2 + u0)) := by omega
          rcases hcase with (hc | ⟨hq, hc⟩) | ⟨hq, hc⟩
          · obtain ⟨c1, c2, c3, hg', hb⟩ := hg2.step (by omega) (.inl (by omega))
            have c4 : (q2 : Int) ≤ 4294967297 := by omega
            clear c2 c3
            by_cases hbr : (4294967296 : Int) ≤ r2 + Y1
            · have e : (q2 : Int) - 1 = P := by have := hb (by omega); omega
              clear hb
              go_wp2
              go_ret2
              exact ⟨rfl, rfl⟩
            · clear hb
              go_wp2
              go_round
              case rel => exact ⟨q2 - 1, r2 + Y1, by go_num, by go_num, hg', by omega⟩
              case measure => simp [intOf]; omega
          · obtain ⟨c1, c2, c3, hg', hb⟩ := hg2.step (by omega) (.inr hc)
            have hqB : decide ((4294967296 : Int) ≤ q2) = false := decide_eq_false (by omega)
            have wm : IntKind.u64.wrap ((q2 : Int) * Y0) = ((q2 * Y0 : Nat) : Int) := by rw [← Int.natCast_mul]; exact wrap_nat (hg2.small (by omega))
            obtain ⟨m, hm⟩ : ∃ m, q2 * Y0 = m := ⟨_, rfl⟩
            rw [hm] at wm hc
            have hc' : (4294967296 : Int) * r2 + u0 < m := by omega
            clear hc hm c2 c3
            by_cases hbr : (4294967296 : Int) ≤ r2 + Y1
            · have e : (q2 : Int) - 1 = P := by have := hb (by omega); omega
              clear hb
              go_wp2
              go_ret2
              exact ⟨rfl, rfl⟩
            · clear hb
              go_wp2
              go_round
              case rel => exact ⟨q2 - 1, r2 + Y1, by go_num, by go_num, hg', by omega⟩
              case measure => simp [intOf]; omega
          · obtain rfl : P = q2 := (hg2.done hc).symm
            have hqB : decide ((4294967296 : Int) ≤ P) = false := decide_eq_false (by omega)
            have wm : IntKind.u64.wrap ((P : Int) * Y0) = ((P * Y0 : Nat) : Int) := by rw [← Int.natCast_mul]; exact wrap_nat (hg2.small (by omega))
            obtain ⟨m, hm⟩ : ∃ m, P * Y0 = m := ⟨_, rfl⟩
            rw [hm] at wm hc
            have hc' : decide ((4294967296 : Int) * r2 + u0 < m) = false := decide_eq_false (by omega)
            clear hc hm
            go_wp2
            go_ret2
            exact ⟨rfl, rfl⟩
      · clear hb
        go_wp2
        go_round
        case rel => exact ⟨q - 1, r + Y1, by go_num, by go_num, hg', by omega⟩
        case measure => simp [intOf]; omega
    · obtain ⟨c1, c2, c3, hg', hb⟩ := hg.step (by omega) (.inr hc)
      have hqB : decide ((4294967296 : Int) ≤ q) = false := decide_eq_false (by omega)
      have wm : IntKind.u64.wrap ((q : Int) * Y0) = ((q * Y0 : Nat) : Int) := by rw [← Int.natCast_mul]; exact wrap_nat (hg.small (by omega))
      obtain ⟨m, hm⟩ : ∃ m, q * Y0 = m := ⟨_, rfl⟩
      rw [hm] at wm hc
      have hc' : (4294967296 : Int) * r + u1 < m := by omega
      clear hc hm c2 c3
      by_cases hbr : (4294967296 : Int) ≤ r + Y1
      · have e : (q : Int) - 1 = Q := by have := hb (by omega); omega
        clear hb
        go_wp2
        go_loop [18, 16] (fun q r => ∃ q' r' : Nat, q = .int .u64 q' ∧ r = .int .u64 r' ∧ Guess Y1 Y0 R u0 P q' r' ∧ (r' : Int) < 4294967296) (fun q _ => (intOf q).toNat)
        case atStart => exact ⟨q1, t1, rfl, rfl, g2, b7⟩
        case round =>
          obtain ⟨q2, r2, rfl, rfl, hg2, hr2⟩ := hrel
          clear g2 b6 b7
          have hcase : (((4294967296 : Int) ≤ q2 ∨ ((q2 : Int) < 4294967296 ∧ 4294967296 * r2 + u0 < q2 * Y0)) ∨ ((q2 : Int) < 4294967296 ∧ q2 * Y0 ≤ 4294967296 * r2 + u0)) := by omega
          rcases hcase with (hc | ⟨hq, hc⟩) | ⟨hq, hc⟩
          · obtain ⟨c1, c2, c3, hg', hb⟩ := hg2.step (by omega) (.inl (by omega))
            have c4 : (q2 : Int) ≤ 4294967297 := by omega
            clear c2 c3
            by_cases hbr : (4294967296 : Int) ≤ r2 + Y1
            · have e : (q2 : Int) - 1 = P := by have := hb (by omega); omega
              clear hb
              go_wp2
              go_ret2
              exact ⟨rfl, rfl⟩
            · clear hb
              go_wp2
              go_round
              case rel => exact ⟨q2 - 1, r2 + Y1, by go_num, by go_num, hg', by omega⟩
              case measure => simp [intOf]; omega
          · obtain ⟨c1, c2, c3, hg', hb⟩ := hg2.step (by omega) (.inr hc)
            have hqB : decide ((4294967296 : Int) ≤ q2) = false := decide_eq_false (by omega)
            have wm : IntKind.u64.wrap ((q2 : Int) * Y0) = ((q2 * Y0 : Nat) : Int) := by rw [← Int.natCast_mul]; exact wrap_nat (hg2.small (by omega))
            obtain ⟨m, hm⟩ : ∃ m, q2 * Y0 = m := ⟨_, rfl⟩
            rw [hm] at wm hc
            have hc' : (4294967296 : Int) * r2 + u0 < m := by omega
            clear hc hm c2 c3
            by_cases hbr : (4294967296 : Int) ≤ r2 + Y1
            · have e : (q2 : Int) - 1 = P := by have := hb (by omega); omega
              clear hb
              go_wp2
              go_ret2
              exact ⟨rfl, rfl⟩
            · clear hb
              go_wp2
              go_round
              case rel => exact ⟨q2 - 1, r2 + Y1, by go_num, by go_num, hg', by omega⟩
              case measure => simp [intOf]; omega
          · obtain rfl : P = q2 := (hg2.done hc).symm
            have hqB : decide ((4294967296 : Int) ≤ P) = false := decide_eq_false (by omega)
            have wm : IntKind.u64.wrap ((P : Int) * Y0) = ((P * Y0 : Nat) : Int) := by rw [← Int.natCast_mul]; exact wrap_nat (hg2.small (by omega))
            obtain ⟨m, hm⟩ : ∃ m, P * Y0 = m := ⟨_, rfl⟩
            rw [hm] at wm hc
            have hc' : decide ((4294967296 : Int) * r2 + u0 < m) = false := decide_eq_false (by omega)
            clear hc hm
            go_wp2
            go_ret2
            exact ⟨rfl, rfl⟩
      · clear hb
        go_wp2
        go_round
        case rel => exact ⟨q - 1, r + Y1, by go_num, by go_num, hg', by omega⟩
        case measure => simp [intOf]; omega
    · obtain rfl : Q = q := (hg.done hc).symm
      have hqB : decide ((4294967296 : Int) ≤ Q) = false := decide_eq_false (by omega)
      have wm : IntKind.u64.wrap ((Q : Int) * Y0) = ((Q * Y0 : Nat) : Int) := by rw [← Int.natCast_mul]; exact wrap_nat (hg.small (by omega))
      obtain ⟨m, hm⟩ : ∃ m, Q * Y0 = m := ⟨_, rfl⟩
      rw [hm] at wm hc
      have hc' : decide ((4294967296 : Int) * r + u1 < m) = false := decide_eq_false (by omega)
      clear hc hm
      go_wp2
      go_loop [18, 16] (fun q r => ∃ q' r' : Nat, q = .int .u64 q' ∧ r = .int .u64 r' ∧ Guess Y1 Y0 R u0 P q' r' ∧ (r' : Int) < 4294967296) (fun q _ => (intOf q).toNat)
      case atStart => exact ⟨q1, t1, rfl, rfl, g2, b7⟩
      case round =>
        obtain ⟨q2, r2, rfl, rfl, hg2, hr2⟩ := hrel
        clear g2 b6 b7
        have hcase : (((4294967296 : Int) ≤ q2 ∨ ((q2 : Int) < 4294967296 ∧ 4294967296 * r2 + u0 < q2 * Y0)) ∨ ((q2 : Int) < 4294967296 ∧ q2 * Y0 ≤ 4294967296 * r2 + u0)) := by omega
        rcases hcase with (hc | ⟨hq, hc⟩) | ⟨hq, hc⟩
        · obtain ⟨c1, c2, c3, hg', hb⟩ := hg2.step (by omega) (.inl (by omega))
          have c4 : (q2 : Int) ≤ 4294967297 := by omega
          clear c2 c3
          by_cases hbr : (4294967296 : Int) ≤ r2 + Y1
          · have e : (q2 : Int) - 1 = P := by have := hb (by omega); omega
            clear hb
            go_wp2
            go_ret2
            exact ⟨rfl, rfl⟩
          · clear hb
            go_wp2
            go_round
            case rel => exact ⟨q2 - 1, r2 + Y1, by go_num, by go_num, hg', by omega⟩
            case measure => simp [intOf]; omega
        · obtain ⟨c1, c2, c3, hg', hb⟩ := hg2.step (by omega) (.inr hc)
          have hqB : decide ((4294967296 : Int) ≤ q2) = false := decide_eq_false (by omega)
          have wm : IntKind.u64.wrap ((q2 : Int) * Y0) = ((q2 * Y0 : Nat) : Int) := by rw [← Int.natCast_mul]; exact wrap_nat (hg2.small (by omega))
          obtain ⟨m, hm⟩ : ∃ m, q2 * Y0 = m := ⟨_, rfl⟩
          rw [hm] at wm hc
          have hc' : (4294967296 : Int) * r2 + u0 < m := by omega
          clear hc hm c2 c3
          by_cases hbr : (4294967296 : Int) ≤ r2 + Y1
          · have e : (q2 : Int) - 1 = P := by have := hb (by omega); omega
            clear hb
            go_wp2
            go_ret2
            exact ⟨rfl, rfl⟩
          · clear hb
            go_wp2
            go_round
            case rel => exact ⟨q2 - 1, r2 + Y1, by go_num, by go_num, hg', by omega⟩
            case measure => simp [intOf]; omega
        · obtain rfl : P = q2 := (hg2.done hc).symm
          have hqB : decide ((4294967296 : Int) ≤ P) = false := decide_eq_false (by omega)
          have wm : IntKind.u64.wrap ((P : Int) * Y0) = ((P * Y0 : Nat) : Int) := by rw [← Int.natCast_mul]; exact wrap_nat (hg2.small (by omega))
          obtain ⟨m, hm⟩ : ∃ m, P * Y0 = m := ⟨_, rfl⟩
          rw [hm] at wm hc
          have hc' : decide ((4294967296 : Int) * r2 + u0 < m) = false := decide_eq_false (by omega)
          clear hc hm
          go_wp2
          go_ret2
          exact ⟨rfl, rfl⟩

end Go.Proofs.YtebfhjndgfcijaaGreatDoor

namespace Go.Proofs.YtebfhjndgfcijaaGreatDoor
open Go Go.RowKit

theorem div64_big (hi lo y : Nat) (w : World) (hh : 0 < hi) (hy : hi < y) (hy2 : y < 18446744073709551616) (hl : lo < 18446744073709551616) :
    Calls Tryz.prog 117 #[.int .u64 hi, .int .u64 lo, .int .u64 y] w fun e w' =>
      e = .returned (.tuple #[.int .u64 (((hi * 18446744073709551616 + lo) / y : Nat) : Int), .int .u64 (((hi * 18446744073709551616 + lo) % y : Nat) : Int)]) ∧ w = w' := by
  obtain ⟨s, hs, hb, hY1, hY2⟩ := lz_bd y (by omega) hy2
  obtain ⟨U, L, hV, hL, hU, e4, e5⟩ := shifted hi lo y s hs hy hl hY2
  obtain ⟨Y, hY⟩ : ∃ Y, Y = y * 2 ^ s := ⟨_, rfl⟩
  rw [← hY] at hY1 hY2 hU
  have hYs : Y / 4294967296 * 4294967296 + Y % 4294967296 = Y := Nat.div_add_mod' Y 4294967296
  obtain ⟨k1, k2⟩ := long_end (V := hi * 18446744073709551616 + lo) (y := y) (s := s) (U := U) (L := L) (u1 := L / 4294967296) (u0 := L % 4294967296) (Y := Y) (by omega) hY hV (by omega)
  have hu1 : L / 4294967296 < 4294967296 := by omega
  have hu0 : L % 4294967296 < 4294967296 := by omega
  have hR := Nat.mod_lt (U * 4294967296 + L / 4294967296) (show 0 < Y by omega)
  obtain ⟨g1, g1r, g1q⟩ := Guess.init (Y1 := Y / 4294967296) (Y0 := Y % 4294967296) (U := U) (u := L / 4294967296) (by omega) (by omega) (by omega) (by omega) hu1
  obtain ⟨g2, g2r, g2q⟩ := Guess.init (Y1 := Y / 4294967296) (Y0 := Y % 4294967296) (U := (U * 4294967296 + L / 4294967296) % Y) (u := L % 4294967296) (by omega) (by omega) (by omega) (by omega) hu0
  rw [hYs] at g1 g2
  have hQ := digit_lt hU hu1
  have hP := digit_lt hR hu0
  have hw0 : (y : Int) * 2 ^ s = ((y * 2 ^ s : Nat) : Int) := by rw [Int.natCast_mul, Int.natCast_pow]; rfl
  have hw1 : IntKind.u64.wrap ((y : Int) * 2 ^ s) = (Y : Int) := by
    rw [hw0, ← hY]; exact wrap_nat hY2
  have hand : ∀ Z : Nat, Z < 18446744073709551616 → bits .and .u64 (Z : Int) 4294967295 = ((Z % 4294967296 : Nat) : Int) := fun Z hZ => by
    rw [show (4294967295 : Int) = ((4294967295 : Nat) : Int) from rfl, u64_and_nat _ _ hZ (by omega), nat_mask32]
  have ha := div64_walk hi lo y s Y (Y / 4294967296) (Y % 4294967296) U L (L / 4294967296) (L % 4294967296) (U / (Y / 4294967296)) (U % (Y / 4294967296))
    ((U * 4294967296 + L / 4294967296) / Y) ((U * 4294967296 + L / 4294967296) % Y) ((U * 4294967296 + L / 4294967296) % Y / (Y / 4294967296)) ((U * 4294967296 + L / 4294967296) % Y % (Y / 4294967296))
    (((U * 4294967296 + L / 4294967296) % Y * 4294967296 + L % 4294967296) / Y) (((U * 4294967296 + L / 4294967296) % Y * 4294967296 + L % 4294967296) % Y)
    (((U * 4294967296 + L / 4294967296) % Y * 4294967296 + L % 4294967296) % Y / 2 ^ s) w hh hy hs hy2
    (fun w => (Tryz.bits_LeadingZeros64 y w (by omega) (by omega)).mono (by rintro e w' ⟨rfl, rfl⟩; exact ⟨ret_int (by rw [Int.toNat_natCast, hb]; omega), rfl⟩))
    hw1 (by omega) (hand Y hY2) e4 e5 (by omega) (hand L hL) (by omega) (by omega) (by omega) (by omega)
    (Int.natCast_ediv _ _).symm (by omega) (wrap_sub_mod (by omega)) (by omega) g1 (by omega)
    (wrap_digit (by omega) hY2) (Int.natCast_ediv _ _).symm (by omega) (wrap_sub_mod (by omega)) (by omega) g2 (by omega) (wrap_digit (by omega) hY2) (by rw [Int.natCast_ediv (_ % _), Int.natCast_pow]; rfl)
  refine ha.mono ?_
  rintro e w' ⟨rfl, rfl⟩
  exact ⟨ret_int2 (by rw [← k1]; omega) (by rw [k2]), rfl⟩

/-- What the long division of math/bits gives: for every divisor above the high part. -/
theorem div64_any (hi lo y : Nat) (w : World) (hy : hi < y) (hy2 : y < 18446744073709551616) (hl : lo < 18446744073709551616) :
    Calls Tryz.prog 117 #[.int .u64 hi, .int .u64 lo, .int .u64 y] w fun e w' =>
      e = .returned (.tuple #[.int .u64 (((hi * 18446744073709551616 + lo) / y : Nat) : Int), .int .u64 (((hi * 18446744073709551616 + lo) % y : Nat) : Int)]) ∧ ∃ n, w' = w.drewN n := by
  by_cases h : hi = 0
  · subst h
    rw [Nat.zero_mul, Nat.zero_add]
    exact div64_small lo y w hy hy2 hl
  · refine (div64_big hi lo y w (by omega) hy hy2 hl).mono ?_
    rintro e w' ⟨rfl, rfl⟩
    exact ⟨rfl, 0, rfl⟩

end Go.Proofs.YtebfhjndgfcijaaGreatDoor
