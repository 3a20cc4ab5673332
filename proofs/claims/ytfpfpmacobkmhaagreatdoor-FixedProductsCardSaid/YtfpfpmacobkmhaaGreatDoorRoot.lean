/- The contract of package fixed's wholeRoot: the whole root of a number below 2 to the power of 94. -/
import Derived.Test.YtfpfpmacobkmhaaGreatDoorIsq
import Derived.Test.YtfpfpmacobkmhaaGreatDoorWide
import Derived.Test.YtfpfpmacobkmhaaGreatDoorDiv
import Derived.Test.YtfpfpmacobkmhaaGreatDoorNeeds
namespace Go.Proofs.YtfpfpmacobkmhaaGreatDoor
open Go Go.RowKit

/-- What the loop keeps: the number in its box; all that is older. -/
def RootW (h l : Nat) (w W : World) : Prop :=
  (W.cell? ⟨w.heap.size, 0, none⟩ = some (.int .i64 h) ∧ W.cell? ⟨w.heap.size, 1, none⟩ = some (.int .u64 l)) ∧ Below w.heap.size w W

theorem bits_step {n : Nat} (hn : n ≤ 64) : wrap64 ((n : Int) + 1) = (n : Int) + 1 ∧ wrap64 (64 + (n : Int)) = (n : Int) + 64 ∧ wrap64 ((n : Int) + 64 + 1) = (n : Int) + 65 := by
  unfold wrap64
  omega
theorem bits_small {k : Nat} (hk : k ≤ 47) : wrap64 (k : Int) = k := by
  unfold wrap64
  omega
theorem half_one {n k : Nat} (hk : k = (n + 1) / 2) : ((n : Int) + 1).tdiv 2 = k := by
  rw [Int.tdiv_eq_ediv_of_nonneg (by omega)]
  omega
theorem half_two {n k : Nat} (hk : k = (n + 65) / 2) : ((n : Int) + 65).tdiv 2 = k := by
  rw [Int.tdiv_eq_ediv_of_nonneg (by omega)]
  omega

theorem root_above {V h l R : Nat} (hV : V = h * 18446744073709551616 + l) (h0 : 0 < h) (h1 : h < 1073741824) (hR : V < (R + 1) * (R + 1)) : h < R := by
  rcases Nat.lt_or_ge h R with h' | h'
  · exact h'
  · have := sq_mono (show R + 1 ≤ 1073741824 by omega)
    omega

theorem root_pos {V R q : Nat} (h0 : 0 < R) (hV : 0 < V) (hq : V / R = q) : 0 < (R + q) / 2 := by
  rcases Nat.lt_or_ge 1 R with h | h
  · omega
  · have : R = 1 := by omega
    subst this
    rw [Nat.div_one] at hq
    omega

theorem drawn_below {B : Nat} (w : World) (n : Nat) (_h : B ≤ w.heap.size) : Below B w (w.drewN n) := ⟨rfl, rfl, rfl, Nat.le_refl _, fun _ _ => rfl⟩

theorem RootW.later {h l : Nat} {w W W' : World} (hW : RootW h l w W) (hb : Below W.heap.size W W') : RootW h l w W' :=
  ⟨⟨cell_later hb hW.1.1, cell_later hb hW.1.2⟩, hW.2.trans (hb.mono hW.2.size)⟩

theorem root_quo {V R : Nat} (hR : V < (R + 1) * (R + 1)) : V / R ≤ R + 2 := by
  have h : (R + 1) * (R + 1) = (R + 2) * R + 1 := by grind
  have := Nat.div_le_of_le_mul (show V ≤ R * (R + 2) by rw [Nat.mul_comm]; omega)
  exact this

set_option maxRecDepth 100000 in
set_option maxHeartbeats 1000000 in
theorem whole_one (V h l n k R0 : Nat) (w : World) (hV : V = h * 18446744073709551616 + l) (h0 : 0 < V) (h1 : h < 1073741824) (h2 : l < 18446744073709551616) (hn : n ≤ 64) (hk : k = (n + 1) / 2) (hk1 : k ≤ 47)
    (cl : ∀ w, Calls Tryz.prog 101 #[.int .u64 l] w fun e w' => e = .returned (.int .i64 n) ∧ w' = w)
    
    (hR : 2 ^ k = R0) (hR1 : 0 < R0) (hR2 : R0 < 281474976710656) (hR3 : V < (R0 + 1) * (R0 + 1)) (hz : h = 0) :
    Calls Tryz.prog 82 #[.agg #[.int .i64 h, .int .u64 l]] w fun e w' => e = .returned (.int .i64 (isq V)) ∧ Below w.heap.size w w' := by
  subst hz
  have hl0 : ¬ l = 0 := by omega
  have CL := Lib.hid cl
  have HV := Lib.hid hV
  have H0 := Lib.hid h0
  have K1 : wrap64 ((n : Int) + 1) = (n : Int) + 1 := (bits_step hn).1
  have K2 : ((n : Int) + 1).tdiv 2 = k := half_one hk
  have K3 : wrap64 (k : Int) = k := bits_small hk1
  have K4 : IntKind.u64.wrap ((2 : Int) ^ k) = R0 := by
    rw [← hR, show ((2 : Int) ^ k) = ((2 ^ k : Nat) : Int) by rw [Int.natCast_pow]; rfl]
    exact wrap_nat (by omega)
  have HR3 := Lib.hid hR3
  clear hR hR3 hV h0 cl hn hk
  go_enter Tryz.func82, Tryz.ntmps82
  go_wp2_with (first | (go_at_call_of 101 (Value.int .u64 l); refine (CL.out _).mono ?_; rintro e w1 ⟨rfl, rfl⟩))
  have HW : Hid (RootW 0 l w (w.alloc (.cells #[.int .i64 0, .int .u64 l] 51))) :=
    ⟨⟨by simp [go_sem], by simp [go_sem]⟩, (Below.refl _ _).alloc (Nat.le_refl _) _⟩
  clear CL K1 K2 K3 K4
  go_loopw [4] (fun r wr => ∃ R : Nat, r = .int .u64 R ∧ Hid (0 < R ∧ R < 281474976710656 ∧ V < (R + 1) * (R + 1) ∧ RootW 0 l w wr)) (fun r _ => (intOf r).toNat)
  case atStart => exact ⟨R0, rfl, hR1, hR2, HR3.out, HW.out⟩
  case round =>
    obtain ⟨R, rfl, hI⟩ := hrel
    clear HW HR3 hR1 hR2
    obtain ⟨r1, r2, r3, r4⟩ := hI
    have hRh : 0 < R := r1
    have cd := fun w => div64_any 0 l R w hRh (by omega) h2
    rw [← HV.out] at cd
    obtain ⟨q, hq⟩ : ∃ q, V / R = q := ⟨_, rfl⟩
    obtain ⟨t, ht⟩ : ∃ t, V % R = t := ⟨_, rfl⟩
    rw [hq, ht] at cd
    have hq1 : q ≤ R + 2 := by rw [← hq]; exact root_quo r3
    have CD := Lib.hid cd
    have HQ := Lib.hid hq
    have R3 := Lib.hid r3
    obtain ⟨⟨c0, c1⟩, hB⟩ := r4
    have hB' := Lib.hid hB
    have W1 : IntKind.u64.wrap ((R : Int) + q) = ((R + q : Nat) : Int) := by rw [← Int.natCast_add]; exact wrap_nat (by omega)
    clear hq ht cd r3 hB hRh
    by_cases hs : R ≤ (R + q) / 2
    · have hs1 : (R : Int) ≤ ((R + q : Nat) : Int) / 2 := by omega
      have hs2 : ((R : Nat) : Int) ≤ ((R : Int) + q) / 2 := by omega
      go_wp2_with (go_at_call 59; refine (CD.out _).mono ?_; rintro e w2 ⟨rfl, m, rfl⟩)
      have hI : isq V = R := isq_is (newton_stop r1 (by rw [HQ.out]; exact hs)) R3.out
      clear hs1 hs2
      go_ret
      exact ⟨ret_int (by rw [hI]), hB'.out.trans (drawn_below wr m hB'.out.size)⟩
    · have hs1 : ((R + q : Nat) : Int) / 2 < (R : Int) := by omega
      have hs2 : ((R : Int) + q) / 2 < ((R : Nat) : Int) := by omega
      go_wp2_with (go_at_call 59; refine (CD.out _).mono ?_; rintro e w2 ⟨rfl, m, rfl⟩)
      go_roundw
      case rel => exact ⟨(R + q) / 2, by go_num, root_pos r1 H0.out HQ.out, by omega, by rw [← HQ.out]; exact newton_above r1, RootW.later ⟨⟨c0, c1⟩, hB'.out⟩ (drawn_below wr m (Nat.le_refl _))⟩
      case measure => simp [intOf]; omega

set_option maxRecDepth 100000 in
set_option maxHeartbeats 1000000 in
theorem whole_two (V h l n k R0 n0 : Nat) (w : World) (hV : V = h * 18446744073709551616 + l) (h0 : 0 < V) (h1 : h < 1073741824) (h2 : l < 18446744073709551616) (hn : n ≤ 64) (hk : k = (n + 65) / 2) (hk1 : k ≤ 47)
    (cl : ∀ w, Calls Tryz.prog 101 #[.int .u64 l] w fun e w' => e = .returned (.int .i64 n0) ∧ w' = w)
    (ch : ∀ w, Calls Tryz.prog 101 #[.int .u64 h] w fun e w' => e = .returned (.int .i64 n) ∧ w' = w)
    (hR : 2 ^ k = R0) (hR1 : 0 < R0) (hR2 : R0 < 281474976710656) (hR3 : V < (R0 + 1) * (R0 + 1)) (hz : 0 < h) :
    Calls Tryz.prog 82 #[.agg #[.int .i64 h, .int .u64 l]] w fun e w' => e = .returned (.int .i64 (isq V)) ∧ Below w.heap.size w w' := by
  have hz1 : ¬ (h : Int) = 0 := by omega
  have hz2 : (0 : Int) < h := by omega
  have hz3 : ¬ h = 0 := by omega
  have CH := Lib.hid ch
  have CL := Lib.hid cl
  have HV := Lib.hid hV
  have H0 := Lib.hid h0
  have K0 : wrap64 (64 + (n : Int)) = (n : Int) + 64 := (bits_step hn).2.1
  have K1 : wrap64 ((n : Int) + 64 + 1) = (n : Int) + 65 := (bits_step hn).2.2
  have K2 : ((n : Int) + 65).tdiv 2 = k := half_two hk
  have K3 : wrap64 (k : Int) = k := bits_small hk1
  have K4 : IntKind.u64.wrap ((2 : Int) ^ k) = R0 := by
    rw [← hR, show ((2 : Int) ^ k) = ((2 ^ k : Nat) : Int) by rw [Int.natCast_pow]; rfl]
    exact wrap_nat (by omega)
  have HR3 := Lib.hid hR3
  clear hR hR3 hV h0 cl ch hn hk
  go_enter Tryz.func82, Tryz.ntmps82
  go_wp2_with (first | (go_at_call_of 101 (Value.int .u64 l); refine (CL.out _).mono ?_; rintro e w1 ⟨rfl, rfl⟩) | (go_at_call_of 101 (Value.int .u64 h); refine (CH.out _).mono ?_; rintro e w1 ⟨rfl, rfl⟩))
  have HW : Hid (RootW h l w (w.alloc (.cells #[.int .i64 h, .int .u64 l] 51))) :=
    ⟨⟨by simp [go_sem], by simp [go_sem]⟩, (Below.refl _ _).alloc (Nat.le_refl _) _⟩
  clear CL CH K0 K1 K2 K3 K4
  go_loopw [4] (fun r wr => ∃ R : Nat, r = .int .u64 R ∧ Hid (0 < R ∧ R < 281474976710656 ∧ V < (R + 1) * (R + 1) ∧ RootW h l w wr)) (fun r _ => (intOf r).toNat)
  case atStart => exact ⟨R0, rfl, hR1, hR2, HR3.out, HW.out⟩
  case round =>
    obtain ⟨R, rfl, hI⟩ := hrel
    clear HW HR3 hR1 hR2
    obtain ⟨r1, r2, r3, r4⟩ := hI
    have hRh : h < R := root_above HV.out (by omega) h1 r3
    have cd := fun w => div64_any h l R w hRh (by omega) h2
    rw [← HV.out] at cd
    obtain ⟨q, hq⟩ : ∃ q, V / R = q := ⟨_, rfl⟩
    obtain ⟨t, ht⟩ : ∃ t, V % R = t := ⟨_, rfl⟩
    rw [hq, ht] at cd
    have hq1 : q ≤ R + 2 := by rw [← hq]; exact root_quo r3
    have CD := Lib.hid cd
    have HQ := Lib.hid hq
    have R3 := Lib.hid r3
    obtain ⟨⟨c0, c1⟩, hB⟩ := r4
    have hB' := Lib.hid hB
    have W1 : IntKind.u64.wrap ((R : Int) + q) = ((R + q : Nat) : Int) := by rw [← Int.natCast_add]; exact wrap_nat (by omega)
    clear hq ht cd r3 hB hRh
    by_cases hs : R ≤ (R + q) / 2
    · have hs1 : (R : Int) ≤ ((R + q : Nat) : Int) / 2 := by omega
      have hs2 : ((R : Nat) : Int) ≤ ((R : Int) + q) / 2 := by omega
      go_wp2_with (go_at_call 59; refine (CD.out _).mono ?_; rintro e w2 ⟨rfl, m, rfl⟩)
      have hI : isq V = R := isq_is (newton_stop r1 (by rw [HQ.out]; exact hs)) R3.out
      clear hs1 hs2
      go_ret
      exact ⟨ret_int (by rw [hI]), hB'.out.trans (drawn_below wr m hB'.out.size)⟩
    · have hs1 : ((R + q : Nat) : Int) / 2 < (R : Int) := by omega
      have hs2 : ((R : Int) + q) / 2 < ((R : Nat) : Int) := by omega
      go_wp2_with (go_at_call 59; refine (CD.out _).mono ?_; rintro e w2 ⟨rfl, m, rfl⟩)
      go_roundw
      case rel => exact ⟨(R + q) / 2, by go_num, root_pos r1 H0.out HQ.out, by omega, by rw [← HQ.out]; exact newton_above r1, RootW.later ⟨⟨c0, c1⟩, hB'.out⟩ (drawn_below wr m (Nat.le_refl _))⟩
      case measure => simp [intOf]; omega

end Go.Proofs.YtfpfpmacobkmhaaGreatDoor
