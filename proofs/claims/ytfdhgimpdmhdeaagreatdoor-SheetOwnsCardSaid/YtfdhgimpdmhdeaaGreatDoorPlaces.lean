/- Package sheet's places, and the document's own: whether one is valid, its zone, whether it is on the centre line. -/
import Derived.Test.YtfdhgimpdmhdeaaGreatDoorNear
namespace Go.Proofs.YtfdhgimpdmhdeaaGreatDoor
open Go Go.RowKit

/-- Is a place valid? -/
def Plc (x y : Int) : Prop := (-6553600000 ≤ x ∧ x ≤ 6553600000) ∧ -6553600000 ≤ y ∧ y ≤ 6553600000
instance (x y : Int) : Decidable (Plc x y) := by unfold Plc; infer_instance
/-- Is a stone there out? -/
def OutP (x y : Int) : Prop := 155648000 ≤ max x (-x) + 9502720 ∨ 119865344 < y - 9502720 ∨ y - 9502720 ≤ -419495936
instance (x y : Int) : Decidable (OutP x y) := by unfold OutP; infer_instance
def HouP (x y : Int) : Prop := x * x + y * y ≤ 16736095983108096
instance (x y : Int) : Decidable (HouP x y) := by unfold HouP; infer_instance
def zoneS (x y : Int) : Int × Int := if Plc x y then (if OutP x y then (0, 0) else if HouP x y then (2, 0) else if y + 9502720 < 0 then (1, 0) else (3, 0)) else (0, 2)
def centS (x y : Int) : Bool × Int := if Plc x y then (decide (¬ OutP x y ∧ max x (-x) ≤ 9502720), 0) else (false, 2)

/-- Within a reach. -/
def inB (m x y : Int) : Bool := decide (-m ≤ x) && decide (x ≤ m) && decide (-m ≤ y) && decide (y ≤ m)
theorem inB_plc (x y : Int) : inB 6553600000 x y = decide (Plc x y) := by
  unfold inB Plc
  by_cases h1 : -6553600000 ≤ x <;> by_cases h2 : x ≤ 6553600000 <;> by_cases h3 : -6553600000 ≤ y <;> by_cases h4 : y ≤ 6553600000 <;> simp [h1, h2, h3, h4]

set_option maxRecDepth 100000 in
set_option maxHeartbeats 1000000 in
theorem isWithin_any (x y m k : Int) (w : World) (hk : IntKind.i64.wrap (-m) = k) (hm : k = -m) :
    Calls Tryz.prog 49 #[.agg #[.int .i64 x, .int .i64 y], .int .i64 m] w fun e w' => e = .returned (.bool (inB m x y)) ∧ Below w.heap.size w w' := by
  have HI : Hid (inB m x y = (decide (k ≤ x) && decide (x ≤ m) && decide (k ≤ y) && decide (y ≤ m))) := by show _ = _; rw [hm]; rfl
  clear hm
  by_cases h1 : k ≤ x
  · by_cases h2 : x ≤ m
    · by_cases h3 : k ≤ y
      · by_cases h4 : y ≤ m
        all_goals
          go_enter Tryz.func49, Tryz.ntmps49
          go_wp2_with fail
          go_ret
          exact ⟨by rw [HI.out]; first | (simp [h1, h2, h3, h4]; done) | (simp [h1, h2, h3, h4]; intros; omega), by repeat' (first | assumption | exact Below.refl _ _ | (with_reducible refine Below.drew ?_) | (with_reducible refine ka ?_ _) | (refine kc ?_ (by assumption)))⟩
      · go_enter Tryz.func49, Tryz.ntmps49
        go_wp2_with fail
        go_ret
        exact ⟨by rw [HI.out]; first | (simp [h1, h2, h3]; done) | (simp [h1, h2, h3]; intros; omega), by repeat' (first | assumption | exact Below.refl _ _ | (with_reducible refine Below.drew ?_) | (with_reducible refine ka ?_ _) | (refine kc ?_ (by assumption)))⟩
    · go_enter Tryz.func49, Tryz.ntmps49
      go_wp2_with fail
      go_ret
      exact ⟨by rw [HI.out]; first | (simp [h1, h2]; done) | (simp [h1, h2]; intros; omega), by repeat' (first | assumption | exact Below.refl _ _ | (with_reducible refine Below.drew ?_) | (with_reducible refine ka ?_ _) | (refine kc ?_ (by assumption)))⟩
  · go_enter Tryz.func49, Tryz.ntmps49
    go_wp2_with fail
    go_ret
    exact ⟨by rw [HI.out]; first | (simp [h1]; done) | (simp [h1]; intros; omega), by repeat' (first | assumption | exact Below.refl _ _ | (with_reducible refine Below.drew ?_) | (with_reducible refine ka ?_ _) | (refine kc ?_ (by assumption)))⟩

set_option maxRecDepth 100000 in
set_option maxHeartbeats 1000000 in
theorem checkSpot_any (x y : Int) (w : World) :
    Calls Tryz.prog 33 #[.agg #[.int .i64 x, .int .i64 y]] w fun e w' => e = .returned (.bool (decide (Plc x y))) ∧ Below w.heap.size w w' := by
  have CW := Lib.hid (fun w => isWithin_any x y 6553600000 (-6553600000) w (by decide) rfl)
  rw [inB_plc] at CW
  go_enter Tryz.func33, Tryz.ntmps33
  go_wp2_with (first | (go_at_call 49; refine (CW.out _).mono ?_; rintro e w1 ⟨rfl, hb1⟩; have HB1 := Lib.hid hb1; clear hb1))
  go_ret
  have q1 := HB1.out
  exact ⟨rfl, by repeat' (first | assumption | exact Below.refl _ _ | (with_reducible refine Below.drew ?_) | (with_reducible refine ka ?_ _) | (refine kc ?_ (by assumption)))⟩

set_option maxRecDepth 100000 in
set_option maxHeartbeats 1000000 in
theorem size_sh (n : Int) (w : World) (h0 : -9223372036854775807 ≤ n) (h1 : n ≤ 9223372036854775807) :
    Calls Tryz.prog 50 #[.int .i64 n] w fun e w' => e = .returned (.int .i64 (max n (-n))) ∧ w = w' := by
  have W1 : IntKind.i64.wrap (-n) = -n := by rw [IntKind.wrap_i64]; omega
  go_enter Tryz.func50, Tryz.ntmps50
  go_wp2_with fail
  go_ret
  exact ⟨rfl, rfl⟩
set_option maxRecDepth 100000 in
set_option maxHeartbeats 1000000 in
theorem refSize_sh (n : Int) (w : World) (h0 : -9223372036854775807 ≤ n) (h1 : n ≤ 9223372036854775807) :
    Calls Tryz.prog 62 #[.int .i64 n] w fun e w' => e = .returned (.int .i64 (max n (-n))) ∧ w = w' := by
  have W1 : IntKind.i64.wrap (-n) = -n := by rw [IntKind.wrap_i64]; omega
  go_enter Tryz.func62, Tryz.ntmps62
  go_wp2_with fail
  go_ret
  exact ⟨rfl, rfl⟩

theorem sq_small {x : Int} (h0 : -1000000000 ≤ x) (h1 : x ≤ 1000000000) : 0 ≤ x * x ∧ x * x ≤ 1000000000000000000 := by
  have e := Int.natAbs_mul_self' x
  have h := Nat.mul_le_mul (show x.natAbs ≤ 1000000000 by omega) (show x.natAbs ≤ 1000000000 by omega)
  have e2 : ((x.natAbs * x.natAbs : Nat) : Int) = (x.natAbs : Int) * (x.natAbs : Int) := Int.natCast_mul ..
  omega

set_option maxRecDepth 100000 in
set_option maxHeartbeats 1000000 in
theorem square_sh (x y p q : Int) (w : World) (hp : x * x = p) (hq : y * y = q) (p0 : 0 ≤ p) (p1 : p ≤ 1000000000000000000) (q0 : 0 ≤ q) (q1 : q ≤ 1000000000000000000) :
    Calls Tryz.prog 24 #[.agg #[.int .i64 x, .int .i64 y]] w fun e w' => e = .returned (.int .i64 (p + q)) ∧ Below w.heap.size w w' := by
  go_enter Tryz.func24, Tryz.ntmps24
  go_wp2_with fail
  go_ret
  exact ⟨rfl, by repeat' (first | assumption | exact Below.refl _ _ | (with_reducible refine Below.drew ?_) | (with_reducible refine ka ?_ _) | (refine kc ?_ (by assumption)))⟩
set_option maxRecDepth 100000 in
set_option maxHeartbeats 1000000 in
theorem refSquare_sh (x y p q : Int) (w : World) (hp : x * x = p) (hq : y * y = q) (p0 : 0 ≤ p) (p1 : p ≤ 1000000000000000000) (q0 : 0 ≤ q) (q1 : q ≤ 1000000000000000000) :
    Calls Tryz.prog 28 #[.agg #[.int .i64 x, .int .i64 y]] w fun e w' => e = .returned (.int .i64 (p + q)) ∧ Below w.heap.size w w' := by
  go_enter Tryz.func28, Tryz.ntmps28
  go_wp2_with fail
  go_ret
  exact ⟨rfl, by repeat' (first | assumption | exact Below.refl _ _ | (with_reducible refine Below.drew ?_) | (with_reducible refine ka ?_ _) | (refine kc ?_ (by assumption)))⟩

set_option maxRecDepth 100000 in
set_option maxHeartbeats 1000000 in
theorem isOut_any (x y : Int) (w : World) (h : Plc x y) :
    Calls Tryz.prog 34 #[.agg #[.int .i64 x, .int .i64 y]] w fun e w' => e = .returned (.bool (decide (OutP x y))) ∧ Below w.heap.size w w' := by
  obtain ⟨⟨x0, x1⟩, y0, y1⟩ := h
  have CZ := Lib.hid (fun n w h0 h1 => size_sh n w h0 h1)
  obtain ⟨s, hs⟩ : ∃ s, max x (-x) = s := ⟨_, rfl⟩
  have hs0 : 0 ≤ s ∧ s ≤ 6553600000 := by omega
  have HO : Hid (OutP x y ↔ (155648000 ≤ s + 9502720 ∨ 119865344 < y - 9502720 ∨ y - 9502720 ≤ -419495936)) := by show _ ↔ _; unfold OutP; rw [hs]
  by_cases h1 : 155648000 ≤ s + 9502720
  · have HR : Hid (decide (OutP x y) = true) := decide_eq_true (HO.out.2 (.inl h1))
    go_enter Tryz.func34, Tryz.ntmps34
    go_wp2_with (first | (go_at_call 50; refine (CZ.out _ _ (by omega) (by omega)).mono ?_; rintro e w' ⟨rfl, rfl⟩))
    go_ret
    exact ⟨by rw [HR.out]; rfl, by repeat' (first | assumption | exact Below.refl _ _ | (with_reducible refine Below.drew ?_) | (with_reducible refine ka ?_ _) | (refine kc ?_ (by assumption)))⟩
  · by_cases h2 : 119865344 < y - 9502720
    · have HR : Hid (decide (OutP x y) = true) := decide_eq_true (HO.out.2 (.inr (.inl h2)))
      go_enter Tryz.func34, Tryz.ntmps34
      go_wp2_with (first | (go_at_call 50; refine (CZ.out _ _ (by omega) (by omega)).mono ?_; rintro e w' ⟨rfl, rfl⟩))
      go_ret
      exact ⟨by rw [HR.out]; rfl, by repeat' (first | assumption | exact Below.refl _ _ | (with_reducible refine Below.drew ?_) | (with_reducible refine ka ?_ _) | (refine kc ?_ (by assumption)))⟩
    · by_cases h3 : y - 9502720 ≤ -419495936
      · have HR : Hid (decide (OutP x y) = true) := decide_eq_true (HO.out.2 (.inr (.inr h3)))
        go_enter Tryz.func34, Tryz.ntmps34
        go_wp2_with (first | (go_at_call 50; refine (CZ.out _ _ (by omega) (by omega)).mono ?_; rintro e w' ⟨rfl, rfl⟩))
        go_ret
        exact ⟨by rw [HR.out]; first | rfl | (simp [h3]; done) | (simp [h3]; intros; omega) | (simp [h3]; omega), by repeat' (first | assumption | exact Below.refl _ _ | (with_reducible refine Below.drew ?_) | (with_reducible refine ka ?_ _) | (refine kc ?_ (by assumption)))⟩
      · have HR : Hid (decide (OutP x y) = false) := decide_eq_false (fun h => by have := HO.out.1 h; omega)
        go_enter Tryz.func34, Tryz.ntmps34
        go_wp2_with (first | (go_at_call 50; refine (CZ.out _ _ (by omega) (by omega)).mono ?_; rintro e w' ⟨rfl, rfl⟩))
        go_ret
        exact ⟨by rw [HR.out]; first | rfl | (simp [h3]; done) | (simp [h3]; intros; omega) | (simp [h3]; omega), by repeat' (first | assumption | exact Below.refl _ _ | (with_reducible refine Below.drew ?_) | (with_reducible refine ka ?_ _) | (refine kc ?_ (by assumption)))⟩

set_option maxRecDepth 100000 in
set_option maxHeartbeats 1000000 in
theorem playing_any (x y : Int) (w : World) (h : Plc x y) :
    Calls Tryz.prog 47 #[.agg #[.int .i64 x, .int .i64 y]] w fun e w' => e = .returned (.bool (!decide (OutP x y))) ∧ Below w.heap.size w w' := by
  obtain ⟨⟨x0, x1⟩, y0, y1⟩ := h
  have CZ := Lib.hid (fun n w h0 h1 => refSize_sh n w h0 h1)
  obtain ⟨s, hs⟩ : ∃ s, max x (-x) = s := ⟨_, rfl⟩
  have hs0 : 0 ≤ s ∧ s ≤ 6553600000 := by omega
  have HO : Hid (OutP x y ↔ (155648000 ≤ s + 9502720 ∨ 119865344 < y - 9502720 ∨ y - 9502720 ≤ -419495936)) := by show _ ↔ _; unfold OutP; rw [hs]
  by_cases h1 : s + 9502720 < 155648000
  · by_cases h3 : -419495936 < y - 9502720
    · by_cases h2 : y - 9502720 ≤ 119865344
      · have HR : Hid (decide (OutP x y) = false) := decide_eq_false (fun h => by have := HO.out.1 h; omega)
        go_enter Tryz.func47, Tryz.ntmps47
        go_wp2_with (first | (go_at_call 62; refine (CZ.out _ _ (by omega) (by omega)).mono ?_; rintro e w' ⟨rfl, rfl⟩))
        go_ret
        exact ⟨by rw [HR.out]; first | rfl | (simp [h1, h2, h3]; done) | (simp [h1, h2, h3]; intros; omega) | (simp [h1, h2, h3]; omega), by repeat' (first | assumption | exact Below.refl _ _ | (with_reducible refine Below.drew ?_) | (with_reducible refine ka ?_ _) | (refine kc ?_ (by assumption)))⟩
      · have HR : Hid (decide (OutP x y) = true) := decide_eq_true (HO.out.2 (by omega))
        go_enter Tryz.func47, Tryz.ntmps47
        go_wp2_with (first | (go_at_call 62; refine (CZ.out _ _ (by omega) (by omega)).mono ?_; rintro e w' ⟨rfl, rfl⟩))
        go_ret
        exact ⟨by rw [HR.out]; first | rfl | (simp [h1, h2, h3]; done) | (simp [h1, h2, h3]; intros; omega) | (simp [h1, h2, h3]; omega), by repeat' (first | assumption | exact Below.refl _ _ | (with_reducible refine Below.drew ?_) | (with_reducible refine ka ?_ _) | (refine kc ?_ (by assumption)))⟩
    · have HR : Hid (decide (OutP x y) = true) := decide_eq_true (HO.out.2 (by omega))
      go_enter Tryz.func47, Tryz.ntmps47
      go_wp2_with (first | (go_at_call 62; refine (CZ.out _ _ (by omega) (by omega)).mono ?_; rintro e w' ⟨rfl, rfl⟩))
      go_ret
      exact ⟨by rw [HR.out]; first | rfl | (simp [h1, h3]; done) | (simp [h1, h3]; intros; omega) | (simp [h1, h3]; omega), by repeat' (first | assumption | exact Below.refl _ _ | (with_reducible refine Below.drew ?_) | (with_reducible refine ka ?_ _) | (refine kc ?_ (by assumption)))⟩
  · have HR : Hid (decide (OutP x y) = true) := decide_eq_true (HO.out.2 (by omega))
    go_enter Tryz.func47, Tryz.ntmps47
    go_wp2_with (first | (go_at_call 62; refine (CZ.out _ _ (by omega) (by omega)).mono ?_; rintro e w' ⟨rfl, rfl⟩))
    go_ret
    exact ⟨by rw [HR.out]; first | rfl | (simp [h1]; done) | (simp [h1]; intros; omega) | (simp [h1]; omega), by repeat' (first | assumption | exact Below.refl _ _ | (with_reducible refine Below.drew ?_) | (with_reducible refine ka ?_ _) | (refine kc ?_ (by assumption)))⟩

theorem play_small {x y : Int} (h : ¬ OutP x y) : (-1000000000 ≤ x ∧ x ≤ 1000000000) ∧ -1000000000 ≤ y ∧ y ≤ 1000000000 := by
  unfold OutP at h
  omega

set_option maxRecDepth 100000 in
set_option maxHeartbeats 1000000 in
theorem isInHouse_any (x y : Int) (w : World) (h : ¬ OutP x y) :
    Calls Tryz.prog 20 #[.agg #[.int .i64 x, .int .i64 y]] w fun e w' => e = .returned (.bool (decide (HouP x y))) ∧ Below w.heap.size w w' := by
  obtain ⟨⟨x0, x1⟩, y0, y1⟩ := play_small h
  obtain ⟨p0, p1⟩ := sq_small x0 x1
  obtain ⟨q0, q1⟩ := sq_small y0 y1
  obtain ⟨Q, hQ⟩ : ∃ Q, x * x + y * y = Q := ⟨_, rfl⟩
  have CQ := fun w => square_sh x y _ _ w rfl rfl p0 p1 q0 q1
  have HH : Hid (decide (HouP x y) = decide (Q ≤ 16736095983108096)) := decide_eq_decide.2 (by unfold HouP; rw [hQ])
  rw [hQ] at CQ
  have CQ := Lib.hid CQ
  clear h hQ p0 p1 q0 q1
  go_enter Tryz.func20, Tryz.ntmps20
  go_wp2_with (first | (go_at_call 24; refine (CQ.out _).mono ?_; rintro e w1 ⟨rfl, hb1⟩; have HB1 := Lib.hid hb1; clear hb1))
  go_ret
  have q1 := HB1.out
  exact ⟨by rw [HH.out]; rfl, by repeat' (first | assumption | exact Below.refl _ _ | (with_reducible refine Below.drew ?_) | (with_reducible refine ka ?_ _) | (refine kc ?_ (by assumption)))⟩

set_option maxRecDepth 100000 in
set_option maxHeartbeats 1000000 in
theorem refInHouse_any (x y : Int) (w : World) (hp : Plc x y) :
    Calls Tryz.prog 26 #[.agg #[.int .i64 x, .int .i64 y]] w fun e w' => e = .returned (.bool (!decide (OutP x y) && decide (HouP x y))) ∧ Below w.heap.size w w' := by
  have CP := Lib.hid (fun w => playing_any x y w hp)
  by_cases h : OutP x y
  · have HR : Hid (decide (OutP x y) = true) := decide_eq_true h
    rw [HR.out] at CP ⊢
    clear h
    go_enter Tryz.func26, Tryz.ntmps26
    go_wp2_with (first | (go_at_call 47; refine (CP.out _).mono ?_; rintro e w1 ⟨rfl, hb1⟩; obtain ⟨ax1, ay1⟩ := spot_later hb1 (spot_new w x y); have ag1 := World.block_lt_of_cell? _ _ ax1; have HB1 := Lib.hid hb1; clear hb1))
    go_ret
    have q1 := HB1.out
    exact ⟨rfl, by repeat' (first | assumption | exact Below.refl _ _ | (with_reducible refine Below.drew ?_) | (with_reducible refine ka ?_ _) | (refine kc ?_ (by assumption)))⟩
  · obtain ⟨⟨x0, x1⟩, y0, y1⟩ := play_small h
    obtain ⟨p0, p1⟩ := sq_small x0 x1
    obtain ⟨q0, q1⟩ := sq_small y0 y1
    obtain ⟨Q, hQ⟩ : ∃ Q, x * x + y * y = Q := ⟨_, rfl⟩
    have CQ := fun w => refSquare_sh x y _ _ w rfl rfl p0 p1 q0 q1
    have HH : Hid (decide (HouP x y) = decide (Q ≤ 16736095983108096)) := decide_eq_decide.2 (by unfold HouP; rw [hQ])
    rw [hQ] at CQ
    have CQ := Lib.hid CQ
    have HR : Hid (decide (OutP x y) = false) := decide_eq_false h
    rw [HR.out] at CP ⊢
    clear h hQ p0 p1 q0 q1
    go_enter Tryz.func26, Tryz.ntmps26
    go_wp2_with (first | (go_at_call 47; refine (CP.out _).mono ?_; rintro e w1 ⟨rfl, hb1⟩; obtain ⟨ax1, ay1⟩ := spot_later hb1 (spot_new w x y); have ag1 := World.block_lt_of_cell? _ _ ax1; have HB1 := Lib.hid hb1; clear hb1) | (go_at_call 28; refine (CQ.out _).mono ?_; rintro e w2 ⟨rfl, hb2⟩; have HB2 := Lib.hid hb2; clear hb2))
    go_ret
    have q1 := HB1.out
    have q2 := HB2.out
    exact ⟨by rw [HH.out]; simp, by repeat' (first | assumption | exact Below.refl _ _ | (with_reducible refine Below.drew ?_) | (with_reducible refine ka ?_ _) | (refine kc ?_ (by assumption)))⟩


set_option maxRecDepth 100000 in
set_option maxHeartbeats 1000000 in
theorem zone_bad (x y : Int) (k : Bool) (w : World) (hk : k = false)
    (CK : Hid (∀ w, Calls Tryz.prog 33 #[.agg #[.int .i64 x, .int .i64 y]] w fun e w' => e = .returned (.bool k) ∧ Below w.heap.size w w')) :
    Calls Tryz.prog 14 #[.agg #[.int .i64 x, .int .i64 y]] w fun e w' => e = .returned (.tuple #[.int .i64 0, .int .i64 2]) ∧ Below w.heap.size w w' := by
  subst hk
  go_enter Tryz.func14, Tryz.ntmps14
  go_wp2_with (first | (go_at_call 33; refine (CK.out _).mono ?_; rintro e w1 ⟨rfl, hb1⟩; obtain ⟨ax1, ay1⟩ := spot_later hb1 (spot_new w x y); have ag1 := World.block_lt_of_cell? _ _ ax1; have HB1 := Lib.hid hb1; clear hb1))
  go_ret2
  have q1 := HB1.out
  exact ⟨rfl, by repeat' (first | assumption | exact Below.refl _ _ | (with_reducible refine Below.drew ?_) | (with_reducible refine ka ?_ _) | (refine kc ?_ (by assumption)))⟩

set_option maxRecDepth 100000 in
set_option maxHeartbeats 1000000 in
theorem zone_out (x y : Int) (k t : Bool) (w : World) (hk : k = true) (ht : t = true)
    (CK : Hid (∀ w, Calls Tryz.prog 33 #[.agg #[.int .i64 x, .int .i64 y]] w fun e w' => e = .returned (.bool k) ∧ Below w.heap.size w w'))
    (CO : Hid (∀ w, Calls Tryz.prog 34 #[.agg #[.int .i64 x, .int .i64 y]] w fun e w' => e = .returned (.bool t) ∧ Below w.heap.size w w')) :
    Calls Tryz.prog 14 #[.agg #[.int .i64 x, .int .i64 y]] w fun e w' => e = .returned (.tuple #[.int .i64 0, .int .i64 0]) ∧ Below w.heap.size w w' := by
  subst hk ht
  go_enter Tryz.func14, Tryz.ntmps14
  go_wp2_with (first | (go_at_call 33; refine (CK.out _).mono ?_; rintro e w1 ⟨rfl, hb1⟩; obtain ⟨ax1, ay1⟩ := spot_later hb1 (spot_new w x y); have ag1 := World.block_lt_of_cell? _ _ ax1; have HB1 := Lib.hid hb1; clear hb1) | (go_at_call 34; refine (CO.out _).mono ?_; rintro e w2 ⟨rfl, hb2⟩; obtain ⟨ax2, ay2⟩ := spot_later hb2 ⟨ax1, ay1⟩; have ag2 := World.block_lt_of_cell? _ _ ax2; have HB2 := Lib.hid hb2; clear hb2))
  go_ret2
  have q1 := HB1.out; have q2 := HB2.out
  exact ⟨rfl, by repeat' (first | assumption | exact Below.refl _ _ | (with_reducible refine Below.drew ?_) | (with_reducible refine ka ?_ _) | (refine kc ?_ (by assumption)))⟩

set_option maxRecDepth 100000 in
set_option maxHeartbeats 1000000 in
theorem zone_house (x y : Int) (k t u : Bool) (w : World) (hk : k = true) (ht : t = false) (hu : u = true)
    (CK : Hid (∀ w, Calls Tryz.prog 33 #[.agg #[.int .i64 x, .int .i64 y]] w fun e w' => e = .returned (.bool k) ∧ Below w.heap.size w w'))
    (CO : Hid (∀ w, Calls Tryz.prog 34 #[.agg #[.int .i64 x, .int .i64 y]] w fun e w' => e = .returned (.bool t) ∧ Below w.heap.size w w'))
    (CH : Hid (∀ w, Calls Tryz.prog 20 #[.agg #[.int .i64 x, .int .i64 y]] w fun e w' => e = .returned (.bool u) ∧ Below w.heap.size w w')) :
    Calls Tryz.prog 14 #[.agg #[.int .i64 x, .int .i64 y]] w fun e w' => e = .returned (.tuple #[.int .i64 2, .int .i64 0]) ∧ Below w.heap.size w w' := by
  subst hk ht hu
  go_enter Tryz.func14, Tryz.ntmps14
  go_wp2_with (first | (go_at_call 33; refine (CK.out _).mono ?_; rintro e w1 ⟨rfl, hb1⟩; obtain ⟨ax1, ay1⟩ := spot_later hb1 (spot_new w x y); have ag1 := World.block_lt_of_cell? _ _ ax1; have HB1 := Lib.hid hb1; clear hb1) | (go_at_call 34; refine (CO.out _).mono ?_; rintro e w2 ⟨rfl, hb2⟩; obtain ⟨ax2, ay2⟩ := spot_later hb2 ⟨ax1, ay1⟩; have ag2 := World.block_lt_of_cell? _ _ ax2; have HB2 := Lib.hid hb2; clear hb2) | (go_at_call 20; refine (CH.out _).mono ?_; rintro e w3 ⟨rfl, hb3⟩; obtain ⟨ax3, ay3⟩ := spot_later hb3 ⟨ax2, ay2⟩; have ag3 := World.block_lt_of_cell? _ _ ax3; have HB3 := Lib.hid hb3; clear hb3))
  go_ret2
  have q1 := HB1.out; have q2 := HB2.out; have q3 := HB3.out
  exact ⟨rfl, by repeat' (first | assumption | exact Below.refl _ _ | (with_reducible refine Below.drew ?_) | (with_reducible refine ka ?_ _) | (refine kc ?_ (by assumption)))⟩

set_option maxRecDepth 100000 in
set_option maxHeartbeats 1000000 in
theorem zone_guard (x y : Int) (k t u : Bool) (w : World) (hk : k = true) (ht : t = false) (hu : u = false) (y0 : -6553600000 ≤ y) (y1 : y ≤ 6553600000) (h : y + 9502720 < 0)
    (CK : Hid (∀ w, Calls Tryz.prog 33 #[.agg #[.int .i64 x, .int .i64 y]] w fun e w' => e = .returned (.bool k) ∧ Below w.heap.size w w'))
    (CO : Hid (∀ w, Calls Tryz.prog 34 #[.agg #[.int .i64 x, .int .i64 y]] w fun e w' => e = .returned (.bool t) ∧ Below w.heap.size w w'))
    (CH : Hid (∀ w, Calls Tryz.prog 20 #[.agg #[.int .i64 x, .int .i64 y]] w fun e w' => e = .returned (.bool u) ∧ Below w.heap.size w w')) :
    Calls Tryz.prog 14 #[.agg #[.int .i64 x, .int .i64 y]] w fun e w' => e = .returned (.tuple #[.int .i64 1, .int .i64 0]) ∧ Below w.heap.size w w' := by
  subst hk ht hu
  go_enter Tryz.func14, Tryz.ntmps14
  go_wp2_with (first | (go_at_call 33; refine (CK.out _).mono ?_; rintro e w1 ⟨rfl, hb1⟩; obtain ⟨ax1, ay1⟩ := spot_later hb1 (spot_new w x y); have ag1 := World.block_lt_of_cell? _ _ ax1; have HB1 := Lib.hid hb1; clear hb1) | (go_at_call 34; refine (CO.out _).mono ?_; rintro e w2 ⟨rfl, hb2⟩; obtain ⟨ax2, ay2⟩ := spot_later hb2 ⟨ax1, ay1⟩; have ag2 := World.block_lt_of_cell? _ _ ax2; have HB2 := Lib.hid hb2; clear hb2) | (go_at_call 20; refine (CH.out _).mono ?_; rintro e w3 ⟨rfl, hb3⟩; obtain ⟨ax3, ay3⟩ := spot_later hb3 ⟨ax2, ay2⟩; have ag3 := World.block_lt_of_cell? _ _ ax3; have HB3 := Lib.hid hb3; clear hb3))
  go_ret2
  have q1 := HB1.out; have q2 := HB2.out; have q3 := HB3.out
  exact ⟨rfl, by repeat' (first | assumption | exact Below.refl _ _ | (with_reducible refine Below.drew ?_) | (with_reducible refine ka ?_ _) | (refine kc ?_ (by assumption)))⟩

set_option maxRecDepth 100000 in
set_option maxHeartbeats 1000000 in
theorem zone_behind (x y : Int) (k t u : Bool) (w : World) (hk : k = true) (ht : t = false) (hu : u = false) (y0 : -6553600000 ≤ y) (y1 : y ≤ 6553600000) (h : ¬ y + 9502720 < 0)
    (CK : Hid (∀ w, Calls Tryz.prog 33 #[.agg #[.int .i64 x, .int .i64 y]] w fun e w' => e = .returned (.bool k) ∧ Below w.heap.size w w'))
    (CO : Hid (∀ w, Calls Tryz.prog 34 #[.agg #[.int .i64 x, .int .i64 y]] w fun e w' => e = .returned (.bool t) ∧ Below w.heap.size w w'))
    (CH : Hid (∀ w, Calls Tryz.prog 20 #[.agg #[.int .i64 x, .int .i64 y]] w fun e w' => e = .returned (.bool u) ∧ Below w.heap.size w w')) :
    Calls Tryz.prog 14 #[.agg #[.int .i64 x, .int .i64 y]] w fun e w' => e = .returned (.tuple #[.int .i64 3, .int .i64 0]) ∧ Below w.heap.size w w' := by
  subst hk ht hu
  go_enter Tryz.func14, Tryz.ntmps14
  go_wp2_with (first | (go_at_call 33; refine (CK.out _).mono ?_; rintro e w1 ⟨rfl, hb1⟩; obtain ⟨ax1, ay1⟩ := spot_later hb1 (spot_new w x y); have ag1 := World.block_lt_of_cell? _ _ ax1; have HB1 := Lib.hid hb1; clear hb1) | (go_at_call 34; refine (CO.out _).mono ?_; rintro e w2 ⟨rfl, hb2⟩; obtain ⟨ax2, ay2⟩ := spot_later hb2 ⟨ax1, ay1⟩; have ag2 := World.block_lt_of_cell? _ _ ax2; have HB2 := Lib.hid hb2; clear hb2) | (go_at_call 20; refine (CH.out _).mono ?_; rintro e w3 ⟨rfl, hb3⟩; obtain ⟨ax3, ay3⟩ := spot_later hb3 ⟨ax2, ay2⟩; have ag3 := World.block_lt_of_cell? _ _ ax3; have HB3 := Lib.hid hb3; clear hb3))
  go_ret2
  have q1 := HB1.out; have q2 := HB2.out; have q3 := HB3.out
  exact ⟨rfl, by repeat' (first | assumption | exact Below.refl _ _ | (with_reducible refine Below.drew ?_) | (with_reducible refine ka ?_ _) | (refine kc ?_ (by assumption)))⟩

set_option maxRecDepth 100000 in
set_option maxHeartbeats 1000000 in
theorem refCheckSpot_any (x y : Int) (w : World) :
    Calls Tryz.prog 46 #[.agg #[.int .i64 x, .int .i64 y]] w fun e w' => e = .returned (.bool (decide (Plc x y))) ∧ Below w.heap.size w w' := by
  rw [← inB_plc]
  unfold inB
  by_cases h1 : -6553600000 ≤ x
  · by_cases h2 : x ≤ 6553600000
    · by_cases h3 : -6553600000 ≤ y
      · by_cases h4 : y ≤ 6553600000
        all_goals
          go_enter Tryz.func46, Tryz.ntmps46
          go_wp2_with fail
          go_ret
          exact ⟨by first | (simp [h1, h2, h3, h4]; done) | (simp [h1, h2, h3, h4]; intros; omega), by repeat' (first | assumption | exact Below.refl _ _ | (with_reducible refine Below.drew ?_) | (with_reducible refine ka ?_ _) | (refine kc ?_ (by assumption)))⟩
      · go_enter Tryz.func46, Tryz.ntmps46
        go_wp2_with fail
        go_ret
        exact ⟨by first | (simp [h1, h2, h3]; done) | (simp [h1, h2, h3]; intros; omega), by repeat' (first | assumption | exact Below.refl _ _ | (with_reducible refine Below.drew ?_) | (with_reducible refine ka ?_ _) | (refine kc ?_ (by assumption)))⟩
    · go_enter Tryz.func46, Tryz.ntmps46
      go_wp2_with fail
      go_ret
      exact ⟨by first | (simp [h1, h2]; done) | (simp [h1, h2]; intros; omega), by repeat' (first | assumption | exact Below.refl _ _ | (with_reducible refine Below.drew ?_) | (with_reducible refine ka ?_ _) | (refine kc ?_ (by assumption)))⟩
  · go_enter Tryz.func46, Tryz.ntmps46
    go_wp2_with fail
    go_ret
    exact ⟨by first | (simp [h1]; done) | (simp [h1]; intros; omega), by repeat' (first | assumption | exact Below.refl _ _ | (with_reducible refine Below.drew ?_) | (with_reducible refine ka ?_ _) | (refine kc ?_ (by assumption)))⟩

theorem zone_any (x y : Int) (w : World) :
    Calls Tryz.prog 14 #[.agg #[.int .i64 x, .int .i64 y]] w fun e w' => e = .returned (.tuple #[.int .i64 (zoneS x y).1, .int .i64 (zoneS x y).2]) ∧ Below w.heap.size w w' := by
  have CK := fun w => checkSpot_any x y w
  unfold zoneS
  by_cases hp : Plc x y
  · have CO := fun w => isOut_any x y w hp
    have hp' := hp
    unfold Plc at hp'
    rw [if_pos hp]
    by_cases ho : OutP x y
    · rw [if_pos ho]
      exact zone_out x y _ _ w (decide_eq_true hp) (decide_eq_true ho) CK CO
    · rw [if_neg ho]
      have CH := fun w => isInHouse_any x y w ho
      by_cases hh : HouP x y
      · rw [if_pos hh]
        exact zone_house x y _ _ _ w (decide_eq_true hp) (decide_eq_false ho) (decide_eq_true hh) CK CO CH
      · rw [if_neg hh]
        by_cases hg : y + 9502720 < 0
        · rw [if_pos hg]
          exact zone_guard x y _ _ _ w (decide_eq_true hp) (decide_eq_false ho) (decide_eq_false hh) (by omega) (by omega) hg CK CO CH
        · rw [if_neg hg]
          exact zone_behind x y _ _ _ w (decide_eq_true hp) (decide_eq_false ho) (decide_eq_false hh) (by omega) (by omega) hg CK CO CH
  · rw [if_neg hp]
    exact zone_bad x y _ w (decide_eq_false hp) CK

end Go.Proofs.YtfdhgimpdmhdeaaGreatDoor
