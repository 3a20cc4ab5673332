/- The contract of package fixed's over, whole: the rounded quotient of a number of 128 bits, or the fault ErrRange; and of quotient: the fault ErrZero, too. Conditions: size below 2 to the power of 127, a divisor of 64 bits, a way of rounding from 0 to 3. -/
import Derived.Test.YtfpfpmacobkmhaaGreatDoorOvr
namespace Go.Proofs.YtfpfpmacobkmhaaGreatDoor
open Go Go.RowKit

set_option maxHeartbeats 1000000 in
theorem over_pos_big (v d : Int) (K : Nat) (g : Nat) (t : Bool) (w : World) (hv : 0 ≤ hiOf v) (hv1 : hiOf v ≤ 9223372036854775807) (d2 : decide (d < 0) = t)
    (cs : ∀ w, Calls Tryz.prog 57 #[.int .i64 d] w fun e w' => e = .returned (.int .u64 (g : Int)) ∧ w = w')
    (hg : (g : Int) ≤ hiOf v) :
    Calls Tryz.prog 30 #[.agg #[.int .i64 (hiOf v), .int .u64 (loOf v)], .int .i64 d, .func (.func K) #[] #[]] w fun e w' => e = flt 4 ∧ Below w.heap.size w w' := by
  have CS := Lib.hid cs
  have d1 : decide (hiOf v < 0) = false := decide_eq_false (by omega)
  clear cs
  cases t
  all_goals
    go_enter Tryz.func30, Tryz.ntmps30
    go_wp2_with (first | (go_at_call 57; refine (CS.out _).mono ?_; rintro e w' ⟨rfl, rfl⟩))
    exact ⟨rfl, rfl, ((Below.refl w.heap.size w).alloc (Nat.le_refl _) _)⟩

set_option maxHeartbeats 1000000 in
theorem over_neg_big (v d : Int) (K : Nat) (g : Nat) (t : Bool) (w : World) (hv : hiOf v < 0) (hv0 : 0 ≤ hiOf (-v)) (hv1 : hiOf (-v) ≤ 9223372036854775807) (d2 : decide (d < 0) = t)
    (cn : ∀ w, Calls Tryz.prog 58 #[.agg #[.int .i64 (hiOf v), .int .u64 (loOf v)]] w fun e w' => e = .returned (.agg #[.int .i64 (hiOf (-v)), .int .u64 (loOf (-v))]) ∧ Below w.heap.size w w')
    (cs : ∀ w, Calls Tryz.prog 57 #[.int .i64 d] w fun e w' => e = .returned (.int .u64 (g : Int)) ∧ w = w')
    (hg : (g : Int) ≤ hiOf (-v)) :
    Calls Tryz.prog 30 #[.agg #[.int .i64 (hiOf v), .int .u64 (loOf v)], .int .i64 d, .func (.func K) #[] #[]] w fun e w' => e = flt 4 ∧ Below w.heap.size w w' := by
  have CS := Lib.hid cs
  have CN := Lib.hid cn
  have d1 : decide (hiOf v < 0) = true := decide_eq_true hv
  clear cs cn
  cases t
  all_goals
    go_enter Tryz.func30, Tryz.ntmps30
    go_wp2_with (first | (go_at_call 57; refine (CS.out _).mono ?_; rintro e w' ⟨rfl, rfl⟩) | (go_at_call 58; refine (CN.out _).mono ?_; rintro e w2 ⟨rfl, hb2⟩; obtain ⟨hc2, hf2⟩ := bcell hb2; obtain ⟨k1, k2⟩ := set_pair (w := w2) (b := w.heap.size) (.int .i64 (hiOf (-v))) (.int .u64 (loOf (-v))) (x := .int .i64 (hiOf v)) (y := .int .u64 (loOf v)) (by rw [hc2 _ _ (by simp)]; simp [go_sem]) (by rw [hc2 _ _ (by simp)]; simp [go_sem])))
    exact ⟨rfl, rfl, (((((Below.refl w.heap.size w).alloc (Nat.le_refl _) _).trans (hb2.mono (by simp))).setCell (by simp) _).setCell (by simp) _)⟩

/-- A quotient of integers, rounded. -/
def rnd (how n d : Int) : Int :=
  if decide (n < 0) != decide (d < 0) then -(((n.natAbs / d.natAbs : Nat) : Int) + if upB how true ((n.natAbs % d.natAbs : Nat) : Int) (d.natAbs : Int) then 1 else 0)
  else (((n.natAbs / d.natAbs : Nat) : Int) + if upB how false ((n.natAbs % d.natAbs : Nat) : Int) (d.natAbs : Int) then 1 else 0)

theorem rnd_sign (how n d : Int) (t : Bool) (h : (decide (n < 0) != decide (d < 0)) = t) :
    rnd how n d = if t then -(((n.natAbs / d.natAbs : Nat) : Int) + if upB how t ((n.natAbs % d.natAbs : Nat) : Int) (d.natAbs : Int) then 1 else 0)
      else (((n.natAbs / d.natAbs : Nat) : Int) + if upB how t ((n.natAbs % d.natAbs : Nat) : Int) (d.natAbs : Int) then 1 else 0) := by
  unfold rnd
  rw [h]
  cases t <;> rfl

/-- The long division in the words of hiOf, loOf. -/
theorem div_call (V : Int) (g : Nat) (hV : 0 ≤ V) (hg : hiOf V < g) (hg2 : g < 18446744073709551616) (w : World) :
    Calls Tryz.prog 59 #[.int .u64 (hiOf V), .int .u64 (loOf V), .int .u64 g] w fun e w' =>
      e = .returned (.tuple #[.int .u64 ((V.natAbs / g : Nat) : Int), .int .u64 ((V.natAbs % g : Nat) : Int)]) ∧ Below w.heap.size w w' := by
  have h0 := hiOf_nonneg hV
  have hl := loOf_nonneg V
  have hl2 := loOf_le V
  obtain ⟨a, ha⟩ : ∃ a : Nat, hiOf V = a := ⟨(hiOf V).toNat, by omega⟩
  obtain ⟨b, hb⟩ : ∃ b : Nat, loOf V = b := ⟨(loOf V).toNat, by omega⟩
  have e : V.natAbs = a * 18446744073709551616 + b := by unfold hiOf at ha; unfold loOf at hb; omega
  rw [ha, hb, e]
  rw [ha] at hg
  refine (div64_any a b g w (by omega) hg2 (by omega)).mono ?_
  rintro e w' ⟨rfl, n, rfl⟩
  refine ⟨rfl, ?_⟩
  induction n with
  | zero => exact Below.refl _ _
  | succ n ih => exact ih.drew

theorem quo_hi {V : Int} {g : Nat} (hV : 0 ≤ V) (hg : 0 < g) (hq : V.natAbs / g < 18446744073709551616) : hiOf V < g := by
  rw [Nat.div_lt_iff_lt_mul hg] at hq
  unfold hiOf
  omega

theorem up_call (how : Int) (h0 : 0 ≤ how) (h1 : how ≤ 3) (minus : Bool) (V g : Nat) (hg : 0 < g) (hg2 : g ≤ 9223372036854775807) (w : World) :
    Calls Tryz.prog (wayFn how) #[.bool minus, .int .u64 ((V % g : Nat) : Int), .int .u64 g] w fun e w' => e = .returned (.bool (upB how minus ((V % g : Nat) : Int) g)) ∧ w = w' :=
  up_any how h0 h1 minus _ _ (by omega) (by have := Nat.mod_lt V hg; omega) (by omega) w

theorem over_ok (how v d : Int) (w : World) (h0 : 0 ≤ how) (h1 : how ≤ 3) (v0 : -170141183460469231731687303715884105728 < v) (v1 : v < 170141183460469231731687303715884105728)
    (d0 : d ≠ 0) (d1 : -9223372036854775807 ≤ d) (d2 : d ≤ 9223372036854775807) (hf : Vld (rnd how v d)) :
    Calls Tryz.prog 30 #[.agg #[.int .i64 (hiOf v), .int .u64 (loOf v)], .int .i64 d, .func (.func (wayFn how)) #[] #[]] w fun e w' => e = .returned (.int .i64 (rnd how v d)) ∧ Below w.heap.size w w' := by
  have hg : 0 < d.natAbs := by omega
  by_cases hv : v < 0
  · have e := rnd_sign how v d (!(decide (d < 0))) (by rw [decide_eq_true hv]; cases decide (d < 0) <;> rfl)
    rw [e] at hf ⊢
    have hq : v.natAbs / d.natAbs ≤ 70368744177664 ∧ ((v.natAbs / d.natAbs : Nat) : Int) + (if upB how (!(decide (d < 0))) ((v.natAbs % d.natAbs : Nat) : Int) (d.natAbs : Int) then 1 else 0) ≤ 70368744177664 := by
      generalize v.natAbs / d.natAbs = q at *
      generalize upB how (!(decide (d < 0))) ((v.natAbs % d.natAbs : Nat) : Int) (d.natAbs : Int) = B at *
      generalize (!(decide (d < 0))) = t at *
      unfold Vld at hf
      cases t <;> cases B <;> simp only [if_true, if_false, Bool.false_eq_true] at hf ⊢ <;> omega
    have hh := quo_hi (V := -v) (g := d.natAbs) (by omega) hg (by rw [Int.natAbs_neg]; omega)
    have ha := over_neg_ok v d ((v.natAbs / d.natAbs : Nat) : Int) (wayFn how) d.natAbs (v.natAbs / d.natAbs) (v.natAbs % d.natAbs) (decide (d < 0)) _ w (way_enters how h0 h1) (hiOf_neg hv) (hiOf_nonneg (by omega)) (hiOf_le (by omega)) rfl
      (fun w => negative_any v w v0 v1) (fun w => size_any d w d1 d2) (by omega) (fun w => by have := div_call (-v) d.natAbs (by omega) hh (by omega) w; rw [Int.natAbs_neg] at this; exact this) (by omega) (Int.natCast_nonneg _) (by omega)
      (fun w => up_call how h0 h1 _ v.natAbs d.natAbs hg (by omega) w) hq.2
    exact ha
  · have e := rnd_sign how v d (decide (d < 0)) (by rw [decide_eq_false hv]; cases decide (d < 0) <;> rfl)
    rw [e] at hf ⊢
    have hq : v.natAbs / d.natAbs ≤ 70368744177664 ∧ ((v.natAbs / d.natAbs : Nat) : Int) + (if upB how (decide (d < 0)) ((v.natAbs % d.natAbs : Nat) : Int) (d.natAbs : Int) then 1 else 0) ≤ 70368744177664 := by
      generalize v.natAbs / d.natAbs = q at *
      generalize upB how (decide (d < 0)) ((v.natAbs % d.natAbs : Nat) : Int) (d.natAbs : Int) = B at *
      generalize decide (d < 0) = t at *
      unfold Vld at hf
      cases t <;> cases B <;> simp only [if_true, if_false, Bool.false_eq_true] at hf ⊢ <;> omega
    have hh := quo_hi (V := v) (g := d.natAbs) (by omega) hg (by omega)
    exact over_pos_ok v d ((v.natAbs / d.natAbs : Nat) : Int) (wayFn how) d.natAbs (v.natAbs / d.natAbs) (v.natAbs % d.natAbs) (decide (d < 0)) _ w (way_enters how h0 h1) (hiOf_nonneg (by omega)) (hiOf_le (by omega)) rfl
      (fun w => size_any d w d1 d2) (by omega) (fun w => div_call v d.natAbs (by omega) hh (by omega) w) (by omega) (Int.natCast_nonneg _) (by omega)
      (fun w => up_call how h0 h1 _ v.natAbs d.natAbs hg (by omega) w) hq.2

theorem over_bad (how v d : Int) (w : World) (h0 : 0 ≤ how) (h1 : how ≤ 3) (v0 : -170141183460469231731687303715884105728 < v) (v1 : v < 170141183460469231731687303715884105728)
    (d0 : d ≠ 0) (d1 : -9223372036854775807 ≤ d) (d2 : d ≤ 9223372036854775807) (hf : ¬ Vld (rnd how v d)) :
    Calls Tryz.prog 30 #[.agg #[.int .i64 (hiOf v), .int .u64 (loOf v)], .int .i64 d, .func (.func (wayFn how)) #[] #[]] w fun e w' => e = flt 4 ∧ Below w.heap.size w w' := by
  have hg : 0 < d.natAbs := by omega
  by_cases hv : v < 0
  · have e := rnd_sign how v d (!(decide (d < 0))) (by rw [decide_eq_true hv]; cases decide (d < 0) <;> rfl)
    rw [e] at hf
    have hq : 70368744177664 < (min ((v.natAbs / d.natAbs : Nat) : Int) 70368744177665) + (if upB how (!(decide (d < 0))) ((v.natAbs % d.natAbs : Nat) : Int) (d.natAbs : Int) then 1 else 0) := by
      generalize v.natAbs / d.natAbs = q at *
      generalize upB how (!(decide (d < 0))) ((v.natAbs % d.natAbs : Nat) : Int) (d.natAbs : Int) = B at *
      generalize (!(decide (d < 0))) = t at *
      unfold Vld at hf
      cases t <;> cases B <;> simp only [if_true, if_false, Bool.false_eq_true] at hf ⊢ <;> omega
    by_cases hb : (d.natAbs : Int) ≤ hiOf (-v)
    · exact over_neg_big v d (wayFn how) d.natAbs (decide (d < 0)) w (hiOf_neg hv) (hiOf_nonneg (by omega)) (hiOf_le (by omega)) rfl (fun w => negative_any v w v0 v1) (fun w => size_any d w d1 d2) hb
    · exact over_neg_bad v d (min ((v.natAbs / d.natAbs : Nat) : Int) 70368744177665) (wayFn how) d.natAbs (v.natAbs / d.natAbs) (v.natAbs % d.natAbs) (decide (d < 0)) _ w (way_enters how h0 h1) (hiOf_neg hv) (hiOf_nonneg (by omega)) (hiOf_le (by omega)) rfl
        (fun w => negative_any v w v0 v1) (fun w => size_any d w d1 d2) (by omega) (fun w => by have := div_call (-v) d.natAbs (by omega) (by omega) (by omega) w; rw [Int.natAbs_neg] at this; exact this) rfl (by omega) (by omega)
        (fun w => up_call how h0 h1 _ v.natAbs d.natAbs hg (by omega) w) hq
  · have e := rnd_sign how v d (decide (d < 0)) (by rw [decide_eq_false hv]; cases decide (d < 0) <;> rfl)
    rw [e] at hf
    have hq : 70368744177664 < (min ((v.natAbs / d.natAbs : Nat) : Int) 70368744177665) + (if upB how (decide (d < 0)) ((v.natAbs % d.natAbs : Nat) : Int) (d.natAbs : Int) then 1 else 0) := by
      generalize v.natAbs / d.natAbs = q at *
      generalize upB how (decide (d < 0)) ((v.natAbs % d.natAbs : Nat) : Int) (d.natAbs : Int) = B at *
      generalize decide (d < 0) = t at *
      unfold Vld at hf
      cases t <;> cases B <;> simp only [if_true, if_false, Bool.false_eq_true] at hf ⊢ <;> omega
    by_cases hb : (d.natAbs : Int) ≤ hiOf v
    · exact over_pos_big v d (wayFn how) d.natAbs (decide (d < 0)) w (hiOf_nonneg (by omega)) (hiOf_le (by omega)) rfl (fun w => size_any d w d1 d2) hb
    · exact over_pos_bad v d (min ((v.natAbs / d.natAbs : Nat) : Int) 70368744177665) (wayFn how) d.natAbs (v.natAbs / d.natAbs) (v.natAbs % d.natAbs) (decide (d < 0)) _ w (way_enters how h0 h1) (hiOf_nonneg (by omega)) (hiOf_le (by omega)) rfl
        (fun w => size_any d w d1 d2) (by omega) (fun w => div_call v d.natAbs (by omega) (by omega) (by omega) w) rfl (by omega) (by omega)
        (fun w => up_call how h0 h1 _ v.natAbs d.natAbs hg (by omega) w) hq

set_option maxHeartbeats 400000 in
theorem quotient_zero (h l : Int) (K : Nat) (w : World) :
    Calls Tryz.prog 47 #[.agg #[.int .i64 h, .int .u64 l], .int .i64 0, .func (.func K) #[] #[]] w fun e w' => e = flt 10 ∧ Below w.heap.size w w' := by
  go_enter Tryz.func47, Tryz.ntmps47
  go_wp2
  exact ⟨rfl, rfl, ((Below.refl w.heap.size w).alloc (Nat.le_refl _) _)⟩

set_option maxHeartbeats 400000 in
theorem quotient_ok (h l d z : Int) (K : Nat) (w : World) (d0 : d ≠ 0)
    (co : ∀ w, Calls Tryz.prog 30 #[.agg #[.int .i64 h, .int .u64 l], .int .i64 d, .func (.func K) #[] #[]] w fun e w' => e = .returned (.int .i64 z) ∧ Below w.heap.size w w') :
    Calls Tryz.prog 47 #[.agg #[.int .i64 h, .int .u64 l], .int .i64 d, .func (.func K) #[] #[]] w fun e w' => e = .returned (.int .i64 z) ∧ Below w.heap.size w w' := by
  have e0 : (d == 0) = false := beq_eq_false_iff_ne.2 d0
  have CO := Lib.hid co
  clear co d0
  go_enter Tryz.func47, Tryz.ntmps47
  go_wp2_with (go_at_call 30; refine (CO.out _).mono ?_; rintro e w1 ⟨rfl, hb⟩)
  go_ret
  exact ⟨rfl, (((Below.refl w.heap.size w).alloc (Nat.le_refl _) _).trans (hb.mono (by simp)))⟩

set_option maxHeartbeats 400000 in
theorem quotient_bad (h l d : Int) (K : Nat) (w : World) (d0 : d ≠ 0)
    (co : ∀ w, Calls Tryz.prog 30 #[.agg #[.int .i64 h, .int .u64 l], .int .i64 d, .func (.func K) #[] #[]] w fun e w' => e = flt 4 ∧ Below w.heap.size w w') :
    Calls Tryz.prog 47 #[.agg #[.int .i64 h, .int .u64 l], .int .i64 d, .func (.func K) #[] #[]] w fun e w' => e = flt 4 ∧ Below w.heap.size w w' := by
  have e0 : (d == 0) = false := beq_eq_false_iff_ne.2 d0
  have CO := Lib.hid co
  clear co d0
  go_enter Tryz.func47, Tryz.ntmps47
  go_wp2_with (go_at_call 30; refine (CO.out _).mono ?_; rintro e w1 ⟨rfl, hb⟩)
  exact ⟨rfl, rfl, (((Below.refl w.heap.size w).alloc (Nat.le_refl _) _).trans (hb.mono (by simp)))⟩

end Go.Proofs.YtfpfpmacobkmhaaGreatDoor
