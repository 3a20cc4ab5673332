/- The document's own answers: Farther, Within, product, sum. -/
import Derived.Test.YtebfhjndgfcijaaGreatDoorRefSpot
namespace Go.Proofs.YtebfhjndgfcijaaGreatDoor
open Go Go.RowKit

theorem ordS_cmp (a b : Nat) : ordS a b = cmp3 (a : Int) (b : Int) := by
  unfold ordS cmp3
  by_cases h : a < b
  · rw [if_pos h, if_neg (by omega), if_neg (by omega)]
  · rw [if_neg h]
    by_cases h2 : b < a
    · rw [if_pos h2, if_neg (by omega), if_pos (by omega)]
    · rw [if_neg h2, if_pos (by omega)]

set_option maxRecDepth 100000 in
set_option maxHeartbeats 1000000 in
theorem refFarther_in (ax ay bx bz o : Int) (V : Int → Bool) (N : Int → Int → Nat) (w : World) (h1 : V ax = true) (h2 : V ay = true) (h3 : V bx = true) (h4 : V bz = true)
    (CP : Hid (∀ x y w, Calls Tryz.prog 77 #[.agg #[.int .i64 x, .int .i64 y]] w fun e w' => e = .returned (.bool (V x && V y)) ∧ Below w.heap.size w w'))
    (CQ : Hid (∀ x y w, V x = true → V y = true → Calls Tryz.prog 83 #[.agg #[.int .i64 x, .int .i64 y]] w fun e w' => ∃ v, e = .returned v ∧ Holds w' v (N x y) ∧ Below w.heap.size w w'))
    (CO : Hid (∀ w va vb, Holds w va (N ax ay) → Holds w vb (N bx bz) → Calls Tryz.prog 91 #[va, vb] w fun e w' => e = .returned (.int .i64 o) ∧ Below w.heap.size w w')) :
    Calls Tryz.prog 28 #[.agg #[.int .i64 ax, .int .i64 ay], .agg #[.int .i64 bx, .int .i64 bz]] w fun e w' => e = .returned (.tuple #[.int .i64 o, .int .i64 0]) ∧ Below w.heap.size w w' := by
  go_enter Tryz.func28, Tryz.ntmps28
  go_wp2_with (first | (go_at_call 77; have HM := HB1; refine (CP.out _ _ _).mono ?_; clear HM; rintro e w2 ⟨rfl, hb2⟩; obtain ⟨ax2, ay2⟩ := spot_later hb2 ⟨ax1, ay1⟩; have ag2 := World.block_lt_of_cell? _ _ ax2; obtain ⟨bx2, by2⟩ := spot_later hb2 ⟨bx1, by1⟩; have bg2 := World.block_lt_of_cell? _ _ bx2; have HB2 := Lib.hid hb2; clear hb2) | (go_at_call 77; refine (CP.out _ _ _).mono ?_; rintro e w1 ⟨rfl, hb1⟩; obtain ⟨ax1, ay1⟩ := spot_later hb1 (spot_new2 w ax ay bx bz).1; have ag1 := World.block_lt_of_cell? _ _ ax1; obtain ⟨bx1, by1⟩ := spot_later hb1 (spot_new2 w ax ay bx bz).2; have bg1 := World.block_lt_of_cell? _ _ bx1; have HB1 := Lib.hid hb1; clear hb1))
  go_region_held3 (fun w' => w'.cell? ⟨w.heap.size, 0, none⟩ = some (.int .i64 ax) ∧ w'.cell? ⟨w.heap.size, 1, none⟩ = some (.int .i64 ay) ∧ w'.cell? ⟨w.heap.size + 1, 0, none⟩ = some (.int .i64 bx) ∧ w'.cell? ⟨w.heap.size + 1, 1, none⟩ = some (.int .i64 bz))
    (go_keep)
    ((first | (go_at_call 83; have HM := HH3; refine (CQ.out _ _ _ (by assumption) (by assumption)).mono ?_; clear HM; rintro e w4 ⟨v4, rfl, h4, hb4⟩; obtain ⟨ax4, ay4⟩ := spot_later hb4 ⟨ax3, ay3⟩; have ag4 := World.block_lt_of_cell? _ _ ax4; obtain ⟨bx4, by4⟩ := spot_later hb4 ⟨bx3, by3⟩; have bg4 := World.block_lt_of_cell? _ _ bx4; have HH4 := Lib.hid h4; have HB4 := Lib.hid hb4; clear h4 hb4) | (go_at_call 83; refine (CQ.out _ _ _ (by assumption) (by assumption)).mono ?_; rintro e w3 ⟨v3, rfl, h3, hb3⟩; obtain ⟨ax3, ay3⟩ := spot_later hb3 ⟨ax2, ay2⟩; have ag3 := World.block_lt_of_cell? _ _ ax3; obtain ⟨bx3, by3⟩ := spot_later hb3 ⟨bx2, by2⟩; have bg3 := World.block_lt_of_cell? _ _ bx3; have HH3 := Lib.hid h3; have HB3 := Lib.hid hb3; clear h3 hb3) | (go_at_call 91; refine (CO.out _ _ _ (HH3.out.later HB4.out) HH4.out).mono ?_; rintro e w5 ⟨rfl, hb5⟩; obtain ⟨ax5, ay5⟩ := spot_later hb5 ⟨ax4, ay4⟩; have ag5 := World.block_lt_of_cell? _ _ ax5; obtain ⟨bx5, by5⟩ := spot_later hb5 ⟨bx4, by4⟩; have bg5 := World.block_lt_of_cell? _ _ bx5; have HB5 := Lib.hid hb5; clear hb5)))
  go_wp2
  go_ret2
  have q1 := HB1.out; have q2 := HB2.out; have q3 := HB3.out; have q4 := HB4.out; have q5 := HB5.out
  exact ⟨rfl, by repeat' (first | assumption | exact Below.refl _ _ | (with_reducible refine Below.drew ?_) | (with_reducible refine ka ?_ _) | (refine kc ?_ (by assumption)))⟩

set_option maxRecDepth 100000 in
set_option maxHeartbeats 1000000 in
theorem refFarther_out (ax ay bx bz : Int) (V : Int → Bool) (t u p q : Bool) (w : World) (h : t = false ∨ u = false ∨ p = false ∨ q = false) (h1 : V ax = t) (h2 : V ay = u) (h3 : V bx = p) (h4 : V bz = q)
    (CP : Hid (∀ x y w, Calls Tryz.prog 77 #[.agg #[.int .i64 x, .int .i64 y]] w fun e w' => e = .returned (.bool (V x && V y)) ∧ Below w.heap.size w w')) :
    Calls Tryz.prog 28 #[.agg #[.int .i64 ax, .int .i64 ay], .agg #[.int .i64 bx, .int .i64 bz]] w fun e w' => e = .returned (.tuple #[.int .i64 0, .int .i64 2]) ∧ Below w.heap.size w w' := by
  cases t <;> cases u <;> cases p <;> cases q
  case true.true.true.true => rcases h with h | h | h | h <;> cases h
  all_goals
    clear h
    go_enter Tryz.func28, Tryz.ntmps28
    go_wp2_with (first | (go_at_call 77; have HM := HB1; refine (CP.out _ _ _).mono ?_; clear HM; rintro e w2 ⟨rfl, hb2⟩; obtain ⟨ax2, ay2⟩ := spot_later hb2 ⟨ax1, ay1⟩; have ag2 := World.block_lt_of_cell? _ _ ax2; obtain ⟨bx2, by2⟩ := spot_later hb2 ⟨bx1, by1⟩; have bg2 := World.block_lt_of_cell? _ _ bx2; have HB2 := Lib.hid hb2; clear hb2) | (go_at_call 77; refine (CP.out _ _ _).mono ?_; rintro e w1 ⟨rfl, hb1⟩; obtain ⟨ax1, ay1⟩ := spot_later hb1 (spot_new2 w ax ay bx bz).1; have ag1 := World.block_lt_of_cell? _ _ ax1; obtain ⟨bx1, by1⟩ := spot_later hb1 (spot_new2 w ax ay bx bz).2; have bg1 := World.block_lt_of_cell? _ _ bx1; have HB1 := Lib.hid hb1; clear hb1))
    go_ret2
    have q1 := HB1.out; have q2 := HB2.out
    exact ⟨rfl, by repeat' (first | assumption | exact Below.refl _ _ | (with_reducible refine Below.drew ?_) | (with_reducible refine ka ?_ _) | (refine kc ?_ (by assumption)))⟩

theorem sq_len (x y : Int) (hx : Vld x) (hy : Vld y) : (parts (x.natAbs * x.natAbs + y.natAbs * y.natAbs)).length ≤ 9 := by
  have na := refSizeOf x hx
  have nb := refSizeOf y hy
  have h1 : x.natAbs * x.natAbs ≤ 70368744177664 * 70368744177664 := Nat.mul_le_mul na na
  have h2 : y.natAbs * y.natAbs ≤ 70368744177664 * 70368744177664 := Nat.mul_le_mul nb nb
  exact parts_length 9 _ (by
    have : (32768 : Nat) ^ 9 = 43556142965880123323311949751266331066368 := by decide
    omega)

theorem refFartherF (ax ay bx bz : Int) (w : World) :
    Calls Tryz.prog 28 #[.agg #[.int .i64 ax, .int .i64 ay], .agg #[.int .i64 bx, .int .i64 bz]] w fun e w' => e = .returned (.tuple #[.int .i64 (fartherS ax ay bx bz).1, .int .i64 (fartherS ax ay bx bz).2]) ∧ Below w.heap.size w w' := by
  have CP := fun x y w => refSpot x y w
  unfold fartherS
  by_cases hv : Vld ax ∧ Vld ay ∧ Vld bx ∧ Vld bz
  · rw [if_pos hv]
    obtain ⟨h1, h2, h3, h4⟩ := hv
    rw [← ordS_cmp]
    exact refFarther_in ax ay bx bz _ (fun x => decide (Vld x)) (fun x y => x.natAbs * x.natAbs + y.natAbs * y.natAbs) w (decide_eq_true h1) (decide_eq_true h2) (decide_eq_true h3) (decide_eq_true h4) CP (fun x y w hx hy => refSquare x y w (of_decide_eq_true hx) (of_decide_eq_true hy))
      (fun w va vb ha hb => order_any _ _ va vb w ha hb (by have := sq_len ax ay h1 h2; omega) (by have := sq_len bx bz h3 h4; omega))
  · rw [if_neg hv]
    refine refFarther_out ax ay bx bz _ _ _ _ _ w ?_ rfl rfl rfl rfl CP
    by_cases h1 : Vld ax
    · by_cases h2 : Vld ay
      · by_cases h3 : Vld bx
        · exact .inr (.inr (.inr (decide_eq_false (fun h4 => hv ⟨h1, h2, h3, h4⟩))))
        · exact .inr (.inr (.inl (decide_eq_false h3)))
      · exact .inr (.inl (decide_eq_false h2))
    · exact .inl (decide_eq_false h1)

set_option maxRecDepth 100000 in
set_option maxHeartbeats 1000000 in
theorem refWithin_in (x y r o : Int) (V : Int → Bool) (S : Int → Int) (G : Int → Nat) (N : Nat) (P : Nat) (w : World) (h1 : V x = true) (h2 : V y = true) (h3 : V r = true) (r0 : 0 ≤ r) (sa0 : 0 ≤ S r) (sa1 : S r ≤ 70368744177664)
    (CP : Hid (∀ x y w, Calls Tryz.prog 77 #[.agg #[.int .i64 x, .int .i64 y]] w fun e w' => e = .returned (.bool (V x && V y)) ∧ Below w.heap.size w w'))
    (CV : Hid (∀ x w, Calls Tryz.prog 57 #[.int .i64 x] w fun e w' => e = .returned (.bool (V x)) ∧ w = w'))
    (CS : Hid (∀ x w, V x = true → Calls Tryz.prog 58 #[.int .i64 x] w fun e w' => e = .returned (.int .i64 (S x)) ∧ w = w'))
    (CO : Hid (∀ x w, 0 ≤ x → x ≤ 70368744177664 → Calls Tryz.prog 50 #[.int .i64 x] w fun e w' => ∃ v, e = .returned v ∧ Holds w' v (G x) ∧ Below w.heap.size w w'))
    (CQ : Hid (∀ w, Calls Tryz.prog 83 #[.agg #[.int .i64 x, .int .i64 y]] w fun e w' => ∃ v, e = .returned v ∧ Holds w' v N ∧ Below w.heap.size w w'))
    (CX : Hid (∀ w va, Holds w va (G (S r)) → Calls Tryz.prog 49 #[va, va] w fun e w' => ∃ v, e = .returned v ∧ Holds w' v P ∧ Below w.heap.size w w'))
    (CR : Hid (∀ w va vb, Holds w va N → Holds w vb P → Calls Tryz.prog 91 #[va, vb] w fun e w' => e = .returned (.int .i64 o) ∧ Below w.heap.size w w')) :
    Calls Tryz.prog 32 #[.agg #[.int .i64 x, .int .i64 y], .int .i64 r] w fun e w' => e = .returned (.tuple #[.bool (decide (o ≤ 0)), .int .i64 0]) ∧ Below w.heap.size w w' := by
  go_enter Tryz.func32, Tryz.ntmps32
  go_wp2_with (first | (go_at_call 77; refine (CP.out _ _ _).mono ?_; rintro e w1 ⟨rfl, hb1⟩; obtain ⟨sx1, sy1⟩ := spot_later hb1 (spot_new w x y); have sg1 := World.block_lt_of_cell? _ _ sx1; have HB1 := Lib.hid hb1; clear hb1) | (go_at_call 57; refine (CV.out _ _).mono ?_; rintro e w' ⟨rfl, rfl⟩) | (go_at_call 58; refine (CS.out _ _ (by assumption)).mono ?_; rintro e w' ⟨rfl, rfl⟩) | (go_at_call 50; refine (CO.out _ _ (by omega) (by omega)).mono ?_; rintro e w2 ⟨v2, rfl, h2, hb2⟩; obtain ⟨sx2, sy2⟩ := spot_later hb2 ⟨sx1, sy1⟩; have sg2 := World.block_lt_of_cell? _ _ sx2; have HH2 := Lib.hid h2; have HB2 := Lib.hid hb2; clear h2 hb2) | (go_at_call 83; refine (CQ.out _).mono ?_; rintro e w3 ⟨v3, rfl, h3, hb3⟩; have HH3 := Lib.hid h3; have HB3 := Lib.hid hb3; clear h3 hb3) | (go_at_call 49; refine (CX.out _ _ (HH2.out.later HB3.out)).mono ?_; rintro e w4 ⟨v4, rfl, h4, hb4⟩; have HH4 := Lib.hid h4; have HB4 := Lib.hid hb4; clear h4 hb4) | (go_at_call 91; refine (CR.out _ _ _ (HH3.out.later HB4.out) HH4.out).mono ?_; rintro e w5 ⟨rfl, hb5⟩; have HB5 := Lib.hid hb5; clear hb5))
  go_ret2
  have q1 := HB1.out; have q2 := HB2.out; have q3 := HB3.out; have q4 := HB4.out; have q5 := HB5.out
  exact ⟨rfl, by repeat' (first | assumption | exact Below.refl _ _ | (with_reducible refine Below.drew ?_) | (with_reducible refine ka ?_ _) | (refine kc ?_ (by assumption)))⟩

set_option maxRecDepth 100000 in
set_option maxHeartbeats 1000000 in
theorem refWithin_below (x y r : Int) (V : Int → Bool) (S : Int → Int) (G : Int → Nat) (w : World) (h1 : V x = true) (h2 : V y = true) (h3 : V r = true) (r0 : r < 0) (sa0 : 0 ≤ S r) (sa1 : S r ≤ 70368744177664)
    (CP : Hid (∀ x y w, Calls Tryz.prog 77 #[.agg #[.int .i64 x, .int .i64 y]] w fun e w' => e = .returned (.bool (V x && V y)) ∧ Below w.heap.size w w'))
    (CV : Hid (∀ x w, Calls Tryz.prog 57 #[.int .i64 x] w fun e w' => e = .returned (.bool (V x)) ∧ w = w'))
    (CS : Hid (∀ x w, V x = true → Calls Tryz.prog 58 #[.int .i64 x] w fun e w' => e = .returned (.int .i64 (S x)) ∧ w = w'))
    (CO : Hid (∀ x w, 0 ≤ x → x ≤ 70368744177664 → Calls Tryz.prog 50 #[.int .i64 x] w fun e w' => ∃ v, e = .returned v ∧ Holds w' v (G x) ∧ Below w.heap.size w w')) :
    Calls Tryz.prog 32 #[.agg #[.int .i64 x, .int .i64 y], .int .i64 r] w fun e w' => e = .returned (.tuple #[.bool false, .int .i64 0]) ∧ Below w.heap.size w w' := by
  go_enter Tryz.func32, Tryz.ntmps32
  go_wp2_with (first | (go_at_call 77; refine (CP.out _ _ _).mono ?_; rintro e w1 ⟨rfl, hb1⟩; obtain ⟨sx1, sy1⟩ := spot_later hb1 (spot_new w x y); have sg1 := World.block_lt_of_cell? _ _ sx1; have HB1 := Lib.hid hb1; clear hb1) | (go_at_call 57; refine (CV.out _ _).mono ?_; rintro e w' ⟨rfl, rfl⟩) | (go_at_call 58; refine (CS.out _ _ (by assumption)).mono ?_; rintro e w' ⟨rfl, rfl⟩) | (go_at_call 50; refine (CO.out _ _ (by omega) (by omega)).mono ?_; rintro e w2 ⟨v2, rfl, h2, hb2⟩; obtain ⟨sx2, sy2⟩ := spot_later hb2 ⟨sx1, sy1⟩; have sg2 := World.block_lt_of_cell? _ _ sx2; have HH2 := Lib.hid h2; have HB2 := Lib.hid hb2; clear h2 hb2))
  go_ret2
  have q1 := HB1.out; have q2 := HB2.out
  exact ⟨rfl, by repeat' (first | assumption | exact Below.refl _ _ | (with_reducible refine Below.drew ?_) | (with_reducible refine ka ?_ _) | (refine kc ?_ (by assumption)))⟩

set_option maxRecDepth 100000 in
set_option maxHeartbeats 1000000 in
theorem refWithin_out (x y r : Int) (V : Int → Bool) (t u p : Bool) (w : World) (h : t = false ∨ u = false ∨ p = false) (h1 : V x = t) (h2 : V y = u) (h3 : V r = p)
    (CP : Hid (∀ x y w, Calls Tryz.prog 77 #[.agg #[.int .i64 x, .int .i64 y]] w fun e w' => e = .returned (.bool (V x && V y)) ∧ Below w.heap.size w w'))
    (CV : Hid (∀ x w, Calls Tryz.prog 57 #[.int .i64 x] w fun e w' => e = .returned (.bool (V x)) ∧ w = w')) :
    Calls Tryz.prog 32 #[.agg #[.int .i64 x, .int .i64 y], .int .i64 r] w fun e w' => e = .returned (.tuple #[.bool false, .int .i64 2]) ∧ Below w.heap.size w w' := by
  cases t <;> cases u <;> cases p
  case true.true.true => rcases h with h | h | h <;> cases h
  all_goals
    clear h
    go_enter Tryz.func32, Tryz.ntmps32
    go_wp2_with (first | (go_at_call 77; refine (CP.out _ _ _).mono ?_; rintro e w1 ⟨rfl, hb1⟩; obtain ⟨sx1, sy1⟩ := spot_later hb1 (spot_new w x y); have sg1 := World.block_lt_of_cell? _ _ sx1; have HB1 := Lib.hid hb1; clear hb1) | (go_at_call 57; refine (CV.out _ _).mono ?_; rintro e w' ⟨rfl, rfl⟩))
    go_ret2
    have q1 := HB1.out
    exact ⟨rfl, by repeat' (first | assumption | exact Below.refl _ _ | (with_reducible refine Below.drew ?_) | (with_reducible refine ka ?_ _) | (refine kc ?_ (by assumption)))⟩

theorem refWithinF (x y r : Int) (w : World) :
    Calls Tryz.prog 32 #[.agg #[.int .i64 x, .int .i64 y], .int .i64 r] w fun e w' => e = .returned (.tuple #[.bool (withinS x y r).1, .int .i64 (withinS x y r).2]) ∧ Below w.heap.size w w' := by
  have CP := fun x y w => refSpot x y w
  have CV := fun x w => refValid x w
  unfold withinS
  by_cases hv : Vld x ∧ Vld y ∧ Vld r
  · rw [if_pos hv]
    obtain ⟨h1, h2, h3⟩ := hv
    have nr := refSizeOf r h3
    have lr := parts_small _ nr
    have lp := parts_mul_len r.natAbs r.natAbs
    by_cases hr : 0 ≤ r
    · rw [decide_eq_true hr, Bool.true_and, show r * r = ((r.natAbs * r.natAbs : Nat) : Int) by rw [Int.natCast_mul, Int.natAbs_mul_self'], ← ordS_cmp]
      exact refWithin_in x y r _ (fun x => decide (Vld x)) (fun x => (x.natAbs : Int)) Int.toNat _ (r.natAbs * r.natAbs) w (decide_eq_true h1) (decide_eq_true h2) (decide_eq_true h3) hr (by omega) (by omega) CP CV sizeC ofC (fun w => refSquare x y w h1 h2)
        (fun w va h => refTimes _ _ va va w h h (by omega) (by omega)) (fun w va vb ha hb => order_any _ _ va vb w ha hb (by have := sq_len x y h1 h2; omega) (by omega))
    · rw [decide_eq_false hr, Bool.false_and]
      exact refWithin_below x y r (fun x => decide (Vld x)) (fun x => (x.natAbs : Int)) Int.toNat w (decide_eq_true h1) (decide_eq_true h2) (decide_eq_true h3) (by omega) (by omega) (by omega) CP CV sizeC ofC
  · rw [if_neg hv]
    refine refWithin_out x y r _ _ _ _ w ?_ rfl rfl rfl CP CV
    by_cases h1 : Vld x
    · by_cases h2 : Vld y
      · exact .inr (.inr (decide_eq_false (fun h3 => hv ⟨h1, h2, h3⟩)))
      · exact .inr (.inl (decide_eq_false h2))
    · exact .inl (decide_eq_false h1)

end Go.Proofs.YtebfhjndgfcijaaGreatDoor

namespace Go.Proofs.YtebfhjndgfcijaaGreatDoor
open Go Go.RowKit

theorem Holds.slice {W : World} {v : Value} {n : Nat} (h : Holds W v n) : ∃ p l c, v = .slice p l c :=
  let ⟨p, c, e, _⟩ := h
  ⟨p, _, c, e⟩
theorem Holds.len {W : World} {p : Option Addr} {l c n : Nat} (h : Holds W (.slice p l c) n) : l = (parts n).length := by
  obtain ⟨p', c', e, _⟩ := h
  cases e
  rfl

/-- A box that is not a row of integers may be written: what a slice holds stays. -/
theorem Holds.set {W : World} {v x : Value} {n B k : Nat} {b : Bool} (h : Holds W v n) (hb : W.cell? ⟨B, 0, none⟩ = some (.bool b)) : Holds (W.setCell ⟨B, k, none⟩ x) v n := by
  obtain ⟨p, cap, rfl, hc, h⟩ := h
  refine ⟨p, cap, rfl, hc, fun j hj => ?_⟩
  obtain ⟨g, hg, hx⟩ := h j hj
  have hne : g ≠ B := by
    intro hgB
    obtain ⟨g', hg', hx'⟩ := h 0 (by omega)
    rw [hg] at hg'
    cases hg'
    rw [hgB, hb] at hx'
    cases hx'
  exact ⟨g, hg, (World.cell?_setCell_other _ _ _ _ (fun e => hne (congrArg Addr.block e).symm)).trans hx⟩

/-- A box of two cells that may be written. -/
def Zed (W : World) (B : Nat) (a b : Value) : Prop := (W.cell? ⟨B, 0, none⟩ = some a ∧ W.cell? ⟨B, 1, none⟩ = some b) ∧ W.frozen? ⟨B, 0, none⟩ = false ∧ W.frozen? ⟨B, 1, none⟩ = false
theorem Zed.later {W W' : World} {B : Nat} {a b : Value} (h : Zed W B a b) (hb : Below W.heap.size W W') : Zed W' B a b :=
  have hl := World.block_lt_of_cell? _ _ h.1.1
  ⟨⟨cell_later hb h.1.1, cell_later hb h.1.2⟩, (hb.frozen (p := ⟨B, 0, none⟩) hl).trans h.2.1, (hb.frozen (p := ⟨B, 1, none⟩) hl).trans h.2.2⟩
theorem zed_new (W : World) (a b : Value) (T : Nat) : Zed (W.alloc (.cells #[a, b] T)) W.heap.size a b := ⟨⟨by simp [go_sem], by simp [go_sem]⟩, by simp [go_sem], by simp [go_sem]⟩
/-- The three boxes with which a function of two numbers with signs begins. -/
def Trio (w W : World) (a b c d : Value) : Prop :=
  Zed W w.heap.size a b ∧ Zed W (w.heap.size + 1) c d ∧ Zed W (w.heap.size + 1 + 1) (.bool false) (.slice none 0 0) ∧ Below w.heap.size w W
theorem Trio.later {w W W' : World} {a b c d : Value} (h : Trio w W a b c d) (hb : Below W.heap.size W W') : Trio w W' a b c d :=
  ⟨h.1.later hb, h.2.1.later hb, h.2.2.1.later hb, kc h.2.2.2 hb⟩
theorem Trio.cells {w W : World} {a b c d : Value} (h : Trio w W a b c d) : W.cell? ⟨w.heap.size, 0, none⟩ = some a ∧ W.cell? ⟨w.heap.size, 1, none⟩ = some b ∧ W.cell? ⟨w.heap.size + 1, 0, none⟩ = some c ∧ W.cell? ⟨w.heap.size + 1, 1, none⟩ = some d :=
  ⟨h.1.1.1, h.1.1.2, h.2.1.1.1, h.2.1.1.2⟩
theorem cell_set {W : World} {b o : Nat} {v : Value} (h : W.cell? ⟨b, o, none⟩ = some v) {a : Addr} (x : Value) (ha : b ≠ a.block) : (W.setCell a x).cell? ⟨b, o, none⟩ = some v :=
  (World.cell?_setCell_other _ _ _ _ (fun e => ha (congrArg Addr.block e).symm)).trans h
theorem Trio.set {w W : World} {a b c d : Value} (h : Trio w W a b c d) (u v : Value) :
    ((W.setCell ⟨w.heap.size + 1 + 1, 0, none⟩ u).setCell ⟨w.heap.size + 1 + 1, 1, none⟩ v).cell? ⟨w.heap.size, 0, none⟩ = some a ∧ ((W.setCell ⟨w.heap.size + 1 + 1, 0, none⟩ u).setCell ⟨w.heap.size + 1 + 1, 1, none⟩ v).cell? ⟨w.heap.size, 1, none⟩ = some b ∧
    ((W.setCell ⟨w.heap.size + 1 + 1, 0, none⟩ u).setCell ⟨w.heap.size + 1 + 1, 1, none⟩ v).cell? ⟨w.heap.size + 1, 0, none⟩ = some c ∧ ((W.setCell ⟨w.heap.size + 1 + 1, 0, none⟩ u).setCell ⟨w.heap.size + 1 + 1, 1, none⟩ v).cell? ⟨w.heap.size + 1, 1, none⟩ = some d :=
  have hc := h.cells
  ⟨cell_set (cell_set hc.1 u (by simp only; omega)) v (by simp only; omega), cell_set (cell_set hc.2.1 u (by simp only; omega)) v (by simp only; omega), cell_set (cell_set hc.2.2.1 u (by simp only; omega)) v (by simp only; omega), cell_set (cell_set hc.2.2.2 u (by simp only; omega)) v (by simp only; omega)⟩
theorem trio_new (w : World) (a b c d : Value) :
    Trio w (((w.alloc (.cells #[a, b] 110)).alloc (.cells #[c, d] 110)).alloc (.cells #[.bool false, .slice none 0 0] 110)) a b c d :=
  ⟨⟨⟨by simp [go_sem], by simp [go_sem]⟩, by simp [go_sem], by simp [go_sem]⟩, ⟨⟨by simp [go_sem], by simp [go_sem]⟩, by simp [go_sem], by simp [go_sem]⟩, ⟨⟨by simp [go_sem], by simp [go_sem]⟩, by simp [go_sem], by simp [go_sem]⟩,
    (((Below.refl w.heap.size w).alloc (Nat.le_refl _) _).alloc (by simp) _).alloc (by simp; omega) _⟩

set_option maxRecDepth 100000 in
set_option maxHeartbeats 1000000 in
theorem refProduct_at (a b : Int) (P : Nat) (V : Int → Bool) (S : Int → Int) (G : Int → Nat) (w : World) (hVa : V a = true) (hVb : V b = true) (sa0 : 0 ≤ S a) (sa1 : S a ≤ 70368744177664) (sb0 : 0 ≤ S b) (sb1 : S b ≤ 70368744177664)
    (CS : Hid (∀ x w, V x = true → Calls Tryz.prog 58 #[.int .i64 x] w fun e w' => e = .returned (.int .i64 (S x)) ∧ w = w'))
    (CO : Hid (∀ x w, 0 ≤ x → x ≤ 70368744177664 → Calls Tryz.prog 50 #[.int .i64 x] w fun e w' => ∃ v, e = .returned v ∧ Holds w' v (G x) ∧ Below w.heap.size w w'))
    (CT : Hid (∀ w va vb, Holds w va (G (S a)) → Holds w vb (G (S b)) → Calls Tryz.prog 49 #[va, vb] w fun e w' => ∃ v, e = .returned v ∧ Holds w' v P ∧ Below w.heap.size w w')) :
    Calls Tryz.prog 79 #[.int .i64 a, .int .i64 b] w fun e w' => ∃ v, e = .returned (.agg #[.bool (!(decide (a < 0) == decide (b < 0))), v]) ∧ Holds w' v P ∧ Below w.heap.size w w' := by
  obtain ⟨t, ht⟩ : ∃ t : Bool, (!(decide (a < 0) == decide (b < 0))) = t := ⟨_, rfl⟩
  have hZ := Lib.hid (zed_new w (.bool false) (.slice none 0 0) 110)
  go_enter Tryz.func79, Tryz.ntmps79
  go_wp2_with (first | (go_at_call 58; refine (CS.out _ _ (by assumption)).mono ?_; rintro e w' ⟨rfl, rfl⟩) | (go_at_call 50; have HM := HH1; refine (CO.out _ _ (by omega) (by omega)).mono ?_; clear HM; rintro e w2 ⟨v2, rfl, h2, hb2⟩; have HH2 := Lib.hid h2; have HB2 := Lib.hid hb2; clear h2 hb2) | (go_at_call 50; refine (CO.out _ _ (by omega) (by omega)).mono ?_; rintro e w1 ⟨v1, rfl, h1, hb1⟩; have HH1 := Lib.hid h1; have HB1 := Lib.hid hb1; clear h1 hb1) | (go_at_call 49; refine (CT.out _ _ _ (HH1.out.later HB2.out) HH2.out).mono ?_; rintro e w3 ⟨v3, rfl, h3, hb3⟩; obtain ⟨p3, l3, c3, rfl⟩ := h3.slice; obtain ⟨⟨zx3, zy3⟩, zf3, zg3⟩ := ((hZ.out.later HB1.out).later HB2.out).later hb3; have HH3 := Lib.hid h3; have HB3 := Lib.hid hb3; clear h3 hb3))
  rw [ht]
  obtain ⟨k1, k2⟩ := set_pair (.bool t) (.slice p3 l3 c3) zx3 zy3
  have q1 := HB1.out; have q2 := HB2.out; have q3 := HB3.out
  exact bodyPost_ret (v := .agg #[.bool t, .slice p3 l3 c3]) (by simp [results, Tryz.results79, go_sem, k1, k2, ht]) rfl
    ⟨_, rfl, (HH3.out.set (x := .bool t) (k := 0) zx3).set k1, by repeat' (first | assumption | exact Below.refl _ _ | (with_reducible refine Below.drew ?_) | (with_reducible refine ks ?_ _ (by first | exact Nat.le_refl _ | (simp; done) | (simp; omega))) | (with_reducible refine ka ?_ _) | (refine kc ?_ (by assumption)))⟩
theorem refProduct (a b : Int) (w : World) (ha : Vld a) (hb : Vld b) :
    Calls Tryz.prog 79 #[.int .i64 a, .int .i64 b] w fun e w' => ∃ v, e = .returned (.agg #[.bool (decide (a < 0) != decide (b < 0)), v]) ∧ Holds w' v (a.natAbs * b.natAbs) ∧ Below w.heap.size w w' := by
  have na := refSizeOf a ha
  have nb := refSizeOf b hb
  have la := parts_small _ na
  have lb := parts_small _ nb
  exact refProduct_at a b _ (fun x => decide (Vld x)) (fun x => (x.natAbs : Int)) Int.toNat w (decide_eq_true ha) (decide_eq_true hb) (by omega) (by omega) (by omega) (by omega) sizeC ofC (fun w va vb h1 h2 => refTimes _ _ va vb w h1 h2 (by omega) (by omega))

set_option maxRecDepth 100000 in
set_option maxHeartbeats 1000000 in
theorem refSum_samet (k : Nat) (p p' : Option Addr) (l c l' c' : Nat) (w : World) 
    (CP : Hid (∀ w', Below w.heap.size w w' → Calls Tryz.prog 48 #[.slice p l c, .slice p' l' c'] w' fun e w'' => ∃ v, e = .returned v ∧ Holds w'' v k ∧ Below w'.heap.size w' w'')) :
    Calls Tryz.prog 78 #[.agg #[.bool true, .slice p l c], .agg #[.bool true, .slice p' l' c']] w fun e w' => ∃ v, e = .returned (.agg #[.bool true, v]) ∧ Holds w' v k ∧ Below w.heap.size w w' := by
  have hT := Lib.hid (trio_new w (.bool true) (.slice p l c) (.bool true) (.slice p' l' c'))
  go_enter Tryz.func78, Tryz.ntmps78
  go_wp2_with fail
  have hP := hT.out
  obtain ⟨W0, hW0⟩ : ∃ W0, (((w.alloc (.cells #[.bool true, .slice p l c] 110)).alloc (.cells #[.bool true, .slice p' l' c'] 110)).alloc (.cells #[.bool false, .slice none 0 0] 110)) = W0 := ⟨_, rfl⟩
  rw [hW0] at hP ⊢
  clear hW0
  clear hT
  go_region_held3 (fun w' => w'.cell? ⟨w.heap.size, 0, none⟩ = some (.bool true) ∧ w'.cell? ⟨w.heap.size, 1, none⟩ = some (.slice p l c) ∧ w'.cell? ⟨w.heap.size + 1, 0, none⟩ = some (.bool true) ∧ w'.cell? ⟨w.heap.size + 1, 1, none⟩ = some (.slice p' l' c'))
    (first | exact hP.cells | exact hP2.cells | exact hP2.set _ _)
    ((go_at_call 48; refine (CP.out _ hP.2.2.2.drew).mono ?_; rintro e w2 ⟨v2, rfl, h2, hb2⟩; obtain ⟨p2, l2, c2, rfl⟩ := h2.slice; have hP2 := (hP.later ((Below.refl W0.heap.size W0).drew)).later hb2; have hX := hP2; obtain ⟨_, _, ⟨⟨zx2, zy2⟩, zf2, zg2⟩, _⟩ := hX; have HH2 := Lib.hid h2; clear h2))
  go_wp2
  obtain ⟨k1, k2⟩ := set_pair (.bool true) (.slice p2 l2 c2) zx2 zy2
  exact bodyPost_ret (v := .agg #[.bool true, .slice p2 l2 c2]) (by simp [results, Tryz.results78, go_sem, k1, k2]) rfl
    ⟨_, rfl, (HH2.out.set (x := .bool true) (k := 0) zx2).set k1, (hP2.2.2.2.setCell (by simp; omega) _).setCell (by simp; omega) _⟩

set_option maxRecDepth 100000 in
set_option maxHeartbeats 1000000 in
theorem refSum_samef (k : Nat) (p p' : Option Addr) (l c l' c' : Nat) (w : World) 
    (CP : Hid (∀ w', Below w.heap.size w w' → Calls Tryz.prog 48 #[.slice p l c, .slice p' l' c'] w' fun e w'' => ∃ v, e = .returned v ∧ Holds w'' v k ∧ Below w'.heap.size w' w'')) :
    Calls Tryz.prog 78 #[.agg #[.bool false, .slice p l c], .agg #[.bool false, .slice p' l' c']] w fun e w' => ∃ v, e = .returned (.agg #[.bool false, v]) ∧ Holds w' v k ∧ Below w.heap.size w w' := by
  have hT := Lib.hid (trio_new w (.bool false) (.slice p l c) (.bool false) (.slice p' l' c'))
  go_enter Tryz.func78, Tryz.ntmps78
  go_wp2_with fail
  have hP := hT.out
  obtain ⟨W0, hW0⟩ : ∃ W0, (((w.alloc (.cells #[.bool false, .slice p l c] 110)).alloc (.cells #[.bool false, .slice p' l' c'] 110)).alloc (.cells #[.bool false, .slice none 0 0] 110)) = W0 := ⟨_, rfl⟩
  rw [hW0] at hP ⊢
  clear hW0
  clear hT
  go_region_held3 (fun w' => w'.cell? ⟨w.heap.size, 0, none⟩ = some (.bool false) ∧ w'.cell? ⟨w.heap.size, 1, none⟩ = some (.slice p l c) ∧ w'.cell? ⟨w.heap.size + 1, 0, none⟩ = some (.bool false) ∧ w'.cell? ⟨w.heap.size + 1, 1, none⟩ = some (.slice p' l' c'))
    (first | exact hP.cells | exact hP2.cells | exact hP2.set _ _)
    ((go_at_call 48; refine (CP.out _ hP.2.2.2.drew).mono ?_; rintro e w2 ⟨v2, rfl, h2, hb2⟩; obtain ⟨p2, l2, c2, rfl⟩ := h2.slice; have hP2 := (hP.later ((Below.refl W0.heap.size W0).drew)).later hb2; have hX := hP2; obtain ⟨_, _, ⟨⟨zx2, zy2⟩, zf2, zg2⟩, _⟩ := hX; have HH2 := Lib.hid h2; clear h2))
  go_wp2
  obtain ⟨k1, k2⟩ := set_pair (.bool false) (.slice p2 l2 c2) zx2 zy2
  exact bodyPost_ret (v := .agg #[.bool false, .slice p2 l2 c2]) (by simp [results, Tryz.results78, go_sem, k1, k2]) rfl
    ⟨_, rfl, (HH2.out.set (x := .bool false) (k := 0) zx2).set k1, (hP2.2.2.2.setCell (by simp; omega) _).setCell (by simp; omega) _⟩

set_option maxRecDepth 100000 in
set_option maxHeartbeats 1000000 in
theorem refSum_difftg (k : Nat) (p p' : Option Addr) (l c l' c' : Nat) (w : World) (o : Int) (ho : 0 ≤ o)
    (CO : Hid (∀ w', Below w.heap.size w w' → Calls Tryz.prog 91 #[.slice p l c, .slice p' l' c'] w' fun e w'' => e = .returned (.int .i64 o) ∧ Below w'.heap.size w' w''))
    (CP : Hid (∀ w', Below w.heap.size w w' → Calls Tryz.prog 125 #[.slice p l c, .slice p' l' c'] w' fun e w'' => ∃ v, e = .returned v ∧ Holds w'' v k ∧ Below w'.heap.size w' w'')) :
    Calls Tryz.prog 78 #[.agg #[.bool true, .slice p l c], .agg #[.bool false, .slice p' l' c']] w fun e w' => ∃ v, e = .returned (.agg #[.bool true, v]) ∧ Holds w' v k ∧ Below w.heap.size w w' := by
  have hT := Lib.hid (trio_new w (.bool true) (.slice p l c) (.bool false) (.slice p' l' c'))
  go_enter Tryz.func78, Tryz.ntmps78
  go_wp2_with (go_at_call 91; refine (CO.out _ hT.out.2.2.2).mono ?_; rintro e W0 ⟨rfl, hb1⟩; have hP := hT.out.later hb1; obtain ⟨ax1, ay1, bx1, by1⟩ := hP.cells; have zg1 := World.block_lt_of_cell? _ _ hP.2.2.1.1.1; have HB1 := Lib.hid hb1; clear hb1)
  clear hT
  go_region_held3 (fun w' => w'.cell? ⟨w.heap.size, 0, none⟩ = some (.bool true) ∧ w'.cell? ⟨w.heap.size, 1, none⟩ = some (.slice p l c) ∧ w'.cell? ⟨w.heap.size + 1, 0, none⟩ = some (.bool false) ∧ w'.cell? ⟨w.heap.size + 1, 1, none⟩ = some (.slice p' l' c'))
    (first | exact hP.cells | exact hP2.cells | exact hP2.set _ _)
    ((go_at_call 125; refine (CP.out _ hP.2.2.2.drew).mono ?_; rintro e w2 ⟨v2, rfl, h2, hb2⟩; obtain ⟨p2, l2, c2, rfl⟩ := h2.slice; have hP2 := (hP.later ((Below.refl W0.heap.size W0).drew)).later hb2; have hX := hP2; obtain ⟨_, _, ⟨⟨zx2, zy2⟩, zf2, zg2⟩, _⟩ := hX; have HH2 := Lib.hid h2; clear h2))
  go_wp2
  obtain ⟨k1, k2⟩ := set_pair (.bool true) (.slice p2 l2 c2) zx2 zy2
  exact bodyPost_ret (v := .agg #[.bool true, .slice p2 l2 c2]) (by simp [results, Tryz.results78, go_sem, k1, k2]) rfl
    ⟨_, rfl, (HH2.out.set (x := .bool true) (k := 0) zx2).set k1, (hP2.2.2.2.setCell (by simp; omega) _).setCell (by simp; omega) _⟩

set_option maxRecDepth 100000 in
set_option maxHeartbeats 1000000 in
theorem refSum_difftl (k : Nat) (p p' : Option Addr) (l c l' c' : Nat) (w : World) (o : Int) (ho : ¬ 0 ≤ o)
    (CO : Hid (∀ w', Below w.heap.size w w' → Calls Tryz.prog 91 #[.slice p l c, .slice p' l' c'] w' fun e w'' => e = .returned (.int .i64 o) ∧ Below w'.heap.size w' w''))
    (CP : Hid (∀ w', Below w.heap.size w w' → Calls Tryz.prog 125 #[.slice p' l' c', .slice p l c] w' fun e w'' => ∃ v, e = .returned v ∧ Holds w'' v k ∧ Below w'.heap.size w' w'')) :
    Calls Tryz.prog 78 #[.agg #[.bool true, .slice p l c], .agg #[.bool false, .slice p' l' c']] w fun e w' => ∃ v, e = .returned (.agg #[.bool false, v]) ∧ Holds w' v k ∧ Below w.heap.size w w' := by
  have hT := Lib.hid (trio_new w (.bool true) (.slice p l c) (.bool false) (.slice p' l' c'))
  go_enter Tryz.func78, Tryz.ntmps78
  go_wp2_with (go_at_call 91; refine (CO.out _ hT.out.2.2.2).mono ?_; rintro e W0 ⟨rfl, hb1⟩; have hP := hT.out.later hb1; obtain ⟨ax1, ay1, bx1, by1⟩ := hP.cells; have zg1 := World.block_lt_of_cell? _ _ hP.2.2.1.1.1; have HB1 := Lib.hid hb1; clear hb1)
  clear hT
  go_region_held3 (fun w' => w'.cell? ⟨w.heap.size, 0, none⟩ = some (.bool true) ∧ w'.cell? ⟨w.heap.size, 1, none⟩ = some (.slice p l c) ∧ w'.cell? ⟨w.heap.size + 1, 0, none⟩ = some (.bool false) ∧ w'.cell? ⟨w.heap.size + 1, 1, none⟩ = some (.slice p' l' c'))
    (first | exact hP.cells | exact hP2.cells | exact hP2.set _ _)
    ((go_at_call 125; refine (CP.out _ hP.2.2.2.drew).mono ?_; rintro e w2 ⟨v2, rfl, h2, hb2⟩; obtain ⟨p2, l2, c2, rfl⟩ := h2.slice; have hP2 := (hP.later ((Below.refl W0.heap.size W0).drew)).later hb2; have hX := hP2; obtain ⟨_, _, ⟨⟨zx2, zy2⟩, zf2, zg2⟩, _⟩ := hX; have HH2 := Lib.hid h2; clear h2))
  go_wp2
  obtain ⟨k1, k2⟩ := set_pair (.bool false) (.slice p2 l2 c2) zx2 zy2
  exact bodyPost_ret (v := .agg #[.bool false, .slice p2 l2 c2]) (by simp [results, Tryz.results78, go_sem, k1, k2]) rfl
    ⟨_, rfl, (HH2.out.set (x := .bool false) (k := 0) zx2).set k1, (hP2.2.2.2.setCell (by simp; omega) _).setCell (by simp; omega) _⟩

set_option maxRecDepth 100000 in
set_option maxHeartbeats 1000000 in
theorem refSum_difffg (k : Nat) (p p' : Option Addr) (l c l' c' : Nat) (w : World) (o : Int) (ho : 0 ≤ o)
    (CO : Hid (∀ w', Below w.heap.size w w' → Calls Tryz.prog 91 #[.slice p l c, .slice p' l' c'] w' fun e w'' => e = .returned (.int .i64 o) ∧ Below w'.heap.size w' w''))
    (CP : Hid (∀ w', Below w.heap.size w w' → Calls Tryz.prog 125 #[.slice p l c, .slice p' l' c'] w' fun e w'' => ∃ v, e = .returned v ∧ Holds w'' v k ∧ Below w'.heap.size w' w'')) :
    Calls Tryz.prog 78 #[.agg #[.bool false, .slice p l c], .agg #[.bool true, .slice p' l' c']] w fun e w' => ∃ v, e = .returned (.agg #[.bool false, v]) ∧ Holds w' v k ∧ Below w.heap.size w w' := by
  have hT := Lib.hid (trio_new w (.bool false) (.slice p l c) (.bool true) (.slice p' l' c'))
  go_enter Tryz.func78, Tryz.ntmps78
  go_wp2_with (go_at_call 91; refine (CO.out _ hT.out.2.2.2).mono ?_; rintro e W0 ⟨rfl, hb1⟩; have hP := hT.out.later hb1; obtain ⟨ax1, ay1, bx1, by1⟩ := hP.cells; have zg1 := World.block_lt_of_cell? _ _ hP.2.2.1.1.1; have HB1 := Lib.hid hb1; clear hb1)
  clear hT
  go_region_held3 (fun w' => w'.cell? ⟨w.heap.size, 0, none⟩ = some (.bool false) ∧ w'.cell? ⟨w.heap.size, 1, none⟩ = some (.slice p l c) ∧ w'.cell? ⟨w.heap.size + 1, 0, none⟩ = some (.bool true) ∧ w'.cell? ⟨w.heap.size + 1, 1, none⟩ = some (.slice p' l' c'))
    (first | exact hP.cells | exact hP2.cells | exact hP2.set _ _)
    ((go_at_call 125; refine (CP.out _ hP.2.2.2.drew).mono ?_; rintro e w2 ⟨v2, rfl, h2, hb2⟩; obtain ⟨p2, l2, c2, rfl⟩ := h2.slice; have hP2 := (hP.later ((Below.refl W0.heap.size W0).drew)).later hb2; have hX := hP2; obtain ⟨_, _, ⟨⟨zx2, zy2⟩, zf2, zg2⟩, _⟩ := hX; have HH2 := Lib.hid h2; clear h2))
  go_wp2
  obtain ⟨k1, k2⟩ := set_pair (.bool false) (.slice p2 l2 c2) zx2 zy2
  exact bodyPost_ret (v := .agg #[.bool false, .slice p2 l2 c2]) (by simp [results, Tryz.results78, go_sem, k1, k2]) rfl
    ⟨_, rfl, (HH2.out.set (x := .bool false) (k := 0) zx2).set k1, (hP2.2.2.2.setCell (by simp; omega) _).setCell (by simp; omega) _⟩

set_option maxRecDepth 100000 in
set_option maxHeartbeats 1000000 in
theorem refSum_difffl (k : Nat) (p p' : Option Addr) (l c l' c' : Nat) (w : World) (o : Int) (ho : ¬ 0 ≤ o)
    (CO : Hid (∀ w', Below w.heap.size w w' → Calls Tryz.prog 91 #[.slice p l c, .slice p' l' c'] w' fun e w'' => e = .returned (.int .i64 o) ∧ Below w'.heap.size w' w''))
    (CP : Hid (∀ w', Below w.heap.size w w' → Calls Tryz.prog 125 #[.slice p' l' c', .slice p l c] w' fun e w'' => ∃ v, e = .returned v ∧ Holds w'' v k ∧ Below w'.heap.size w' w'')) :
    Calls Tryz.prog 78 #[.agg #[.bool false, .slice p l c], .agg #[.bool true, .slice p' l' c']] w fun e w' => ∃ v, e = .returned (.agg #[.bool true, v]) ∧ Holds w' v k ∧ Below w.heap.size w w' := by
  have hT := Lib.hid (trio_new w (.bool false) (.slice p l c) (.bool true) (.slice p' l' c'))
  go_enter Tryz.func78, Tryz.ntmps78
  go_wp2_with (go_at_call 91; refine (CO.out _ hT.out.2.2.2).mono ?_; rintro e W0 ⟨rfl, hb1⟩; have hP := hT.out.later hb1; obtain ⟨ax1, ay1, bx1, by1⟩ := hP.cells; have zg1 := World.block_lt_of_cell? _ _ hP.2.2.1.1.1; have HB1 := Lib.hid hb1; clear hb1)
  clear hT
  go_region_held3 (fun w' => w'.cell? ⟨w.heap.size, 0, none⟩ = some (.bool false) ∧ w'.cell? ⟨w.heap.size, 1, none⟩ = some (.slice p l c) ∧ w'.cell? ⟨w.heap.size + 1, 0, none⟩ = some (.bool true) ∧ w'.cell? ⟨w.heap.size + 1, 1, none⟩ = some (.slice p' l' c'))
    (first | exact hP.cells | exact hP2.cells | exact hP2.set _ _)
    ((go_at_call 125; refine (CP.out _ hP.2.2.2.drew).mono ?_; rintro e w2 ⟨v2, rfl, h2, hb2⟩; obtain ⟨p2, l2, c2, rfl⟩ := h2.slice; have hP2 := (hP.later ((Below.refl W0.heap.size W0).drew)).later hb2; have hX := hP2; obtain ⟨_, _, ⟨⟨zx2, zy2⟩, zf2, zg2⟩, _⟩ := hX; have HH2 := Lib.hid h2; clear h2))
  go_wp2
  obtain ⟨k1, k2⟩ := set_pair (.bool true) (.slice p2 l2 c2) zx2 zy2
  exact bodyPost_ret (v := .agg #[.bool true, .slice p2 l2 c2]) (by simp [results, Tryz.results78, go_sem, k1, k2]) rfl
    ⟨_, rfl, (HH2.out.set (x := .bool true) (k := 0) zx2).set k1, (hP2.2.2.2.setCell (by simp; omega) _).setCell (by simp; omega) _⟩

/-- A number with a sign. -/
def sv (t : Bool) (n : Nat) : Int := if t then -(n : Int) else (n : Int)
theorem sv_mul (a b : Int) : sv (decide (a < 0) != decide (b < 0)) (a.natAbs * b.natAbs) = a * b := by
  have e : ((a.natAbs * b.natAbs : Nat) : Int) = (a.natAbs : Int) * (b.natAbs : Int) := Int.natCast_mul ..
  unfold sv
  rw [e]
  by_cases ha : a < 0
  · have e1 : (a.natAbs : Int) = -a := by omega
    by_cases hb : b < 0
    · have e2 : (b.natAbs : Int) = -b := by omega
      rw [e1, e2, decide_eq_true ha, decide_eq_true hb]
      simp [Int.neg_mul, Int.mul_neg]
    · have e2 : (b.natAbs : Int) = b := by omega
      rw [e1, e2, decide_eq_true ha, decide_eq_false hb]
      simp [Int.neg_mul, Int.mul_neg]
  · have e1 : (a.natAbs : Int) = a := by omega
    by_cases hb : b < 0
    · have e2 : (b.natAbs : Int) = -b := by omega
      rw [e1, e2, decide_eq_false ha, decide_eq_true hb]
      simp [Int.neg_mul, Int.mul_neg]
    · have e2 : (b.natAbs : Int) = b := by omega
      rw [e1, e2, decide_eq_false ha, decide_eq_false hb]
      simp [Int.neg_mul, Int.mul_neg]

/-- The sum's sign and size. -/
def sumR (t u : Bool) (n m : Nat) : Bool := if t = u then t else if n < m then u else t
def sumK (t u : Bool) (n m : Nat) : Nat := if t = u then n + m else if n < m then m - n else n - m
theorem sv_sum (t u : Bool) (n m : Nat) : sv (sumR t u n m) (sumK t u n m) = sv t n + sv u m := by
  cases t <;> cases u <;> simp only [sv, sumR, sumK, if_true, Bool.false_eq_true, if_false, Bool.true_eq_false] <;> (try split) <;> (try simp only [if_true, Bool.false_eq_true, if_false]) <;> omega
theorem sumK_le (t u : Bool) (n m : Nat) : sumK t u n m ≤ n + m := by
  unfold sumK
  split
  · omega
  · split <;> omega

theorem refSum (t u : Bool) (n m : Nat) (va vb : Value) (w : World) (ha : Holds w va n) (hb : Holds w vb m) (hla : (parts n).length ≤ 900) (hlb : (parts m).length ≤ 900) :
    Calls Tryz.prog 78 #[.agg #[.bool t, va], .agg #[.bool u, vb]] w fun e w' => ∃ v, e = .returned (.agg #[.bool (sumR t u n m), v]) ∧ Holds w' v (sumK t u n m) ∧ Below w.heap.size w w' := by
  obtain ⟨p, l, c, rfl⟩ := ha.slice
  obtain ⟨p', l', c', rfl⟩ := hb.slice
  have CO : ∀ w', Below w.heap.size w w' → Calls Tryz.prog 91 #[.slice p l c, .slice p' l' c'] w' fun e w'' => e = .returned (.int .i64 (ordS n m)) ∧ Below w'.heap.size w' w'' := fun w' hw => order_any n m _ _ w' (ha.later hw) (hb.later hw) (by omega) (by omega)
  have CM : m ≤ n → ∀ w', Below w.heap.size w w' → Calls Tryz.prog 125 #[.slice p l c, .slice p' l' c'] w' fun e w'' => ∃ v, e = .returned v ∧ Holds w'' v (n - m) ∧ Below w'.heap.size w' w'' := fun hle w' hw => refMinus n m _ _ w' hle (ha.later hw) (hb.later hw) (by omega)
  have CN : n ≤ m → ∀ w', Below w.heap.size w w' → Calls Tryz.prog 125 #[.slice p' l' c', .slice p l c] w' fun e w'' => ∃ v, e = .returned v ∧ Holds w'' v (m - n) ∧ Below w'.heap.size w' w'' := fun hle w' hw => refMinus m n _ _ w' hle (hb.later hw) (ha.later hw) (by omega)
  have CP : ∀ w', Below w.heap.size w w' → Calls Tryz.prog 48 #[.slice p l c, .slice p' l' c'] w' fun e w'' => ∃ v, e = .returned v ∧ Holds w'' v (n + m) ∧ Below w'.heap.size w' w'' := fun w' hw => refPlus n m _ _ w' (ha.later hw) (hb.later hw) (by omega) (by omega)
  cases t <;> cases u
  · exact refSum_samef _ p p' l c l' c' w CP
  · by_cases h : n < m
    · rw [show sumR false true n m = true by simp [sumR, h], show sumK false true n m = m - n by simp [sumK, h]]
      exact refSum_difffl _ p p' l c l' c' w _ (by rw [ord_neg h]; decide) CO (CN (by omega))
    · rw [show sumR false true n m = false by simp [sumR, h], show sumK false true n m = n - m by simp [sumK, h]]
      exact refSum_difffg _ p p' l c l' c' w _ (ord_nonneg h) CO (CM (by omega))
  · by_cases h : n < m
    · rw [show sumR true false n m = false by simp [sumR, h], show sumK true false n m = m - n by simp [sumK, h]]
      exact refSum_difftl _ p p' l c l' c' w _ (by rw [ord_neg h]; decide) CO (CN (by omega))
    · rw [show sumR true false n m = true by simp [sumR, h], show sumK true false n m = n - m by simp [sumK, h]]
      exact refSum_difftg _ p p' l c l' c' w _ (ord_nonneg h) CO (CM (by omega))
  · exact refSum_samet _ p p' l c l' c' w CP

end Go.Proofs.YtebfhjndgfcijaaGreatDoor

namespace Go.Proofs.YtebfhjndgfcijaaGreatDoor
open Go Go.RowKit

theorem parts_len_zero : (parts 0).length = 0 := (parts_len0 0).2 rfl

set_option maxRecDepth 100000 in
set_option maxHeartbeats 1000000 in
theorem refTurn_zero (ax ay bx bz my : Int) (V : Int → Bool) (T : Int → Int → Bool) (N : Int → Int → Nat) (r : Bool) (K : Nat) (w : World) (W1 : wrap64 (-ay) = my) (W2 : IntKind.i64.wrap (-ay) = my) (h1 : V ax = true) (h2 : V ay = true) (h3 : V bx = true) (h4 : V bz = true) (h5 : V my = true) (hK : K = 0)
    (CP : Hid (∀ x y w, Calls Tryz.prog 77 #[.agg #[.int .i64 x, .int .i64 y]] w fun e w' => e = .returned (.bool (V x && V y)) ∧ Below w.heap.size w w'))
    (CR : Hid (∀ x y w, V x = true → V y = true → Calls Tryz.prog 79 #[.int .i64 x, .int .i64 y] w fun e w' => ∃ v, e = .returned (.agg #[.bool (T x y), v]) ∧ Holds w' v (N x y) ∧ Below w.heap.size w w'))
    (CM : Hid (∀ w va vb, Holds w va (N ax bz) → Holds w vb (N my bx) → Calls Tryz.prog 78 #[.agg #[.bool (T ax bz), va], .agg #[.bool (T my bx), vb]] w fun e w' => ∃ v, e = .returned (.agg #[.bool r, v]) ∧ Holds w' v K ∧ Below w.heap.size w w')) :
    Calls Tryz.prog 30 #[.agg #[.int .i64 ax, .int .i64 ay], .agg #[.int .i64 bx, .int .i64 bz]] w fun e w' => e = .returned (.tuple #[.int .i64 0, .int .i64 0]) ∧ Below w.heap.size w w' := by
  go_enter Tryz.func30, Tryz.ntmps30
  go_wp2_with (first | (go_at_call 77; have HM := HB1; refine (CP.out _ _ _).mono ?_; clear HM; rintro e w2 ⟨rfl, hb2⟩; obtain ⟨ax2, ay2⟩ := spot_later hb2 ⟨ax1, ay1⟩; have ag2 := World.block_lt_of_cell? _ _ ax2; obtain ⟨bx2, by2⟩ := spot_later hb2 ⟨bx1, by1⟩; have bg2 := World.block_lt_of_cell? _ _ bx2; have HB2 := Lib.hid hb2; clear hb2) | (go_at_call 77; refine (CP.out _ _ _).mono ?_; rintro e w1 ⟨rfl, hb1⟩; obtain ⟨ax1, ay1⟩ := spot_later hb1 (spot_new2 w ax ay bx bz).1; have ag1 := World.block_lt_of_cell? _ _ ax1; obtain ⟨bx1, by1⟩ := spot_later hb1 (spot_new2 w ax ay bx bz).2; have bg1 := World.block_lt_of_cell? _ _ bx1; have HB1 := Lib.hid hb1; clear hb1) | (go_at_call 79; have HM := HH3; refine (CR.out _ _ _ (by assumption) (by assumption)).mono ?_; clear HM; rintro e w4 ⟨v4, rfl, h4, hb4⟩; obtain ⟨p4, l4, c4, rfl⟩ := h4.slice; obtain ⟨ax4, ay4⟩ := spot_later hb4 (spot_alloc ⟨ax3, ay3⟩ _); have ag4 := World.block_lt_of_cell? _ _ ax4; obtain ⟨bx4, by4⟩ := spot_later hb4 (spot_alloc ⟨bx3, by3⟩ _); have bg4 := World.block_lt_of_cell? _ _ bx4; have px4 := cell_later hb4 (show (w3.alloc (.cells #[.bool (T ax bz), .slice p3 l3 c3] 110)).cell? ⟨w3.heap.size, 0, none⟩ = some (.bool (T ax bz)) by simp [go_sem]); have py4 := cell_later hb4 (show (w3.alloc (.cells #[.bool (T ax bz), .slice p3 l3 c3] 110)).cell? ⟨w3.heap.size, 1, none⟩ = some (.slice p3 l3 c3) by simp [go_sem]); have pg4 := World.block_lt_of_cell? _ _ px4; have HP4 := Lib.hid ((HH3.out.later (ka (Below.refl _ _) _)).later hb4); have HH4 := Lib.hid h4; have HB4 := Lib.hid hb4; clear h4 hb4) | (go_at_call 79; refine (CR.out _ _ _ (by assumption) (by assumption)).mono ?_; rintro e w3 ⟨v3, rfl, h3, hb3⟩; obtain ⟨p3, l3, c3, rfl⟩ := h3.slice; obtain ⟨ax3, ay3⟩ := spot_later hb3 ⟨ax2, ay2⟩; have ag3 := World.block_lt_of_cell? _ _ ax3; obtain ⟨bx3, by3⟩ := spot_later hb3 ⟨bx2, by2⟩; have bg3 := World.block_lt_of_cell? _ _ bx3; have HH3 := Lib.hid h3; have HB3 := Lib.hid hb3; clear h3 hb3) | (go_at_call 78; refine (CM.out _ _ _ (HP4.out.later (ka (Below.refl _ _) _)) (HH4.out.later (ka (Below.refl _ _) _))).mono ?_; rintro e w5 ⟨v5, rfl, h5', hb5⟩; obtain ⟨p5, l5, c5, rfl⟩ := h5'.slice; have hl5 := (h5'.len).trans (show (parts K).length = 0 by rw [hK, parts_len_zero]); subst hl5; have HB5 := Lib.hid hb5; clear h5' hb5))
  go_ret2
  have q1 := HB1.out; have q2 := HB2.out; have q3 := HB3.out; have q4 := HB4.out; have q5 := HB5.out
  exact ⟨rfl, by repeat' (first | assumption | exact Below.refl _ _ | (with_reducible refine Below.drew ?_) | (with_reducible refine ka ?_ _) | (refine kc ?_ (by assumption)))⟩

set_option maxRecDepth 100000 in
set_option maxHeartbeats 1000000 in
theorem refTurn_minus (ax ay bx bz my : Int) (V : Int → Bool) (T : Int → Int → Bool) (N : Int → Int → Nat) (K : Nat) (w : World) (W1 : wrap64 (-ay) = my) (W2 : IntKind.i64.wrap (-ay) = my) (h1 : V ax = true) (h2 : V ay = true) (h3 : V bx = true) (h4 : V bz = true) (h5 : V my = true) (hK : ¬ K = 0)
    (CP : Hid (∀ x y w, Calls Tryz.prog 77 #[.agg #[.int .i64 x, .int .i64 y]] w fun e w' => e = .returned (.bool (V x && V y)) ∧ Below w.heap.size w w'))
    (CR : Hid (∀ x y w, V x = true → V y = true → Calls Tryz.prog 79 #[.int .i64 x, .int .i64 y] w fun e w' => ∃ v, e = .returned (.agg #[.bool (T x y), v]) ∧ Holds w' v (N x y) ∧ Below w.heap.size w w'))
    (CM : Hid (∀ w va vb, Holds w va (N ax bz) → Holds w vb (N my bx) → Calls Tryz.prog 78 #[.agg #[.bool (T ax bz), va], .agg #[.bool (T my bx), vb]] w fun e w' => ∃ v, e = .returned (.agg #[.bool true, v]) ∧ Holds w' v K ∧ Below w.heap.size w w')) :
    Calls Tryz.prog 30 #[.agg #[.int .i64 ax, .int .i64 ay], .agg #[.int .i64 bx, .int .i64 bz]] w fun e w' => e = .returned (.tuple #[.int .i64 (-1), .int .i64 0]) ∧ Below w.heap.size w w' := by
  go_enter Tryz.func30, Tryz.ntmps30
  go_wp2_with (first | (go_at_call 77; have HM := HB1; refine (CP.out _ _ _).mono ?_; clear HM; rintro e w2 ⟨rfl, hb2⟩; obtain ⟨ax2, ay2⟩ := spot_later hb2 ⟨ax1, ay1⟩; have ag2 := World.block_lt_of_cell? _ _ ax2; obtain ⟨bx2, by2⟩ := spot_later hb2 ⟨bx1, by1⟩; have bg2 := World.block_lt_of_cell? _ _ bx2; have HB2 := Lib.hid hb2; clear hb2) | (go_at_call 77; refine (CP.out _ _ _).mono ?_; rintro e w1 ⟨rfl, hb1⟩; obtain ⟨ax1, ay1⟩ := spot_later hb1 (spot_new2 w ax ay bx bz).1; have ag1 := World.block_lt_of_cell? _ _ ax1; obtain ⟨bx1, by1⟩ := spot_later hb1 (spot_new2 w ax ay bx bz).2; have bg1 := World.block_lt_of_cell? _ _ bx1; have HB1 := Lib.hid hb1; clear hb1) | (go_at_call 79; have HM := HH3; refine (CR.out _ _ _ (by assumption) (by assumption)).mono ?_; clear HM; rintro e w4 ⟨v4, rfl, h4, hb4⟩; obtain ⟨p4, l4, c4, rfl⟩ := h4.slice; obtain ⟨ax4, ay4⟩ := spot_later hb4 (spot_alloc ⟨ax3, ay3⟩ _); have ag4 := World.block_lt_of_cell? _ _ ax4; obtain ⟨bx4, by4⟩ := spot_later hb4 (spot_alloc ⟨bx3, by3⟩ _); have bg4 := World.block_lt_of_cell? _ _ bx4; have px4 := cell_later hb4 (show (w3.alloc (.cells #[.bool (T ax bz), .slice p3 l3 c3] 110)).cell? ⟨w3.heap.size, 0, none⟩ = some (.bool (T ax bz)) by simp [go_sem]); have py4 := cell_later hb4 (show (w3.alloc (.cells #[.bool (T ax bz), .slice p3 l3 c3] 110)).cell? ⟨w3.heap.size, 1, none⟩ = some (.slice p3 l3 c3) by simp [go_sem]); have pg4 := World.block_lt_of_cell? _ _ px4; have HP4 := Lib.hid ((HH3.out.later (ka (Below.refl _ _) _)).later hb4); have HH4 := Lib.hid h4; have HB4 := Lib.hid hb4; clear h4 hb4) | (go_at_call 79; refine (CR.out _ _ _ (by assumption) (by assumption)).mono ?_; rintro e w3 ⟨v3, rfl, h3, hb3⟩; obtain ⟨p3, l3, c3, rfl⟩ := h3.slice; obtain ⟨ax3, ay3⟩ := spot_later hb3 ⟨ax2, ay2⟩; have ag3 := World.block_lt_of_cell? _ _ ax3; obtain ⟨bx3, by3⟩ := spot_later hb3 ⟨bx2, by2⟩; have bg3 := World.block_lt_of_cell? _ _ bx3; have HH3 := Lib.hid h3; have HB3 := Lib.hid hb3; clear h3 hb3) | (go_at_call 78; refine (CM.out _ _ _ (HP4.out.later (ka (Below.refl _ _) _)) (HH4.out.later (ka (Below.refl _ _) _))).mono ?_; rintro e w5 ⟨v5, rfl, h5', hb5⟩; obtain ⟨p5, l5, c5, rfl⟩ := h5'.slice; have hl5 := (h5'.len).trans (rfl); have hl6 : ¬ l5 = 0 := fun e => hK ((parts_len0 K).1 (hl5.symm.trans e)); have hl7 : ¬ (l5 : Int) = 0 := (by omega); clear hl5; have HB5 := Lib.hid hb5; clear h5' hb5))
  go_ret2
  have q1 := HB1.out; have q2 := HB2.out; have q3 := HB3.out; have q4 := HB4.out; have q5 := HB5.out
  exact ⟨rfl, by repeat' (first | assumption | exact Below.refl _ _ | (with_reducible refine Below.drew ?_) | (with_reducible refine ka ?_ _) | (refine kc ?_ (by assumption)))⟩

set_option maxRecDepth 100000 in
set_option maxHeartbeats 1000000 in
theorem refTurn_plus (ax ay bx bz my : Int) (V : Int → Bool) (T : Int → Int → Bool) (N : Int → Int → Nat) (K : Nat) (w : World) (W1 : wrap64 (-ay) = my) (W2 : IntKind.i64.wrap (-ay) = my) (h1 : V ax = true) (h2 : V ay = true) (h3 : V bx = true) (h4 : V bz = true) (h5 : V my = true) (hK : ¬ K = 0)
    (CP : Hid (∀ x y w, Calls Tryz.prog 77 #[.agg #[.int .i64 x, .int .i64 y]] w fun e w' => e = .returned (.bool (V x && V y)) ∧ Below w.heap.size w w'))
    (CR : Hid (∀ x y w, V x = true → V y = true → Calls Tryz.prog 79 #[.int .i64 x, .int .i64 y] w fun e w' => ∃ v, e = .returned (.agg #[.bool (T x y), v]) ∧ Holds w' v (N x y) ∧ Below w.heap.size w w'))
    (CM : Hid (∀ w va vb, Holds w va (N ax bz) → Holds w vb (N my bx) → Calls Tryz.prog 78 #[.agg #[.bool (T ax bz), va], .agg #[.bool (T my bx), vb]] w fun e w' => ∃ v, e = .returned (.agg #[.bool false, v]) ∧ Holds w' v K ∧ Below w.heap.size w w')) :
    Calls Tryz.prog 30 #[.agg #[.int .i64 ax, .int .i64 ay], .agg #[.int .i64 bx, .int .i64 bz]] w fun e w' => e = .returned (.tuple #[.int .i64 1, .int .i64 0]) ∧ Below w.heap.size w w' := by
  go_enter Tryz.func30, Tryz.ntmps30
  go_wp2_with (first | (go_at_call 77; have HM := HB1; refine (CP.out _ _ _).mono ?_; clear HM; rintro e w2 ⟨rfl, hb2⟩; obtain ⟨ax2, ay2⟩ := spot_later hb2 ⟨ax1, ay1⟩; have ag2 := World.block_lt_of_cell? _ _ ax2; obtain ⟨bx2, by2⟩ := spot_later hb2 ⟨bx1, by1⟩; have bg2 := World.block_lt_of_cell? _ _ bx2; have HB2 := Lib.hid hb2; clear hb2) | (go_at_call 77; refine (CP.out _ _ _).mono ?_; rintro e w1 ⟨rfl, hb1⟩; obtain ⟨ax1, ay1⟩ := spot_later hb1 (spot_new2 w ax ay bx bz).1; have ag1 := World.block_lt_of_cell? _ _ ax1; obtain ⟨bx1, by1⟩ := spot_later hb1 (spot_new2 w ax ay bx bz).2; have bg1 := World.block_lt_of_cell? _ _ bx1; have HB1 := Lib.hid hb1; clear hb1) | (go_at_call 79; have HM := HH3; refine (CR.out _ _ _ (by assumption) (by assumption)).mono ?_; clear HM; rintro e w4 ⟨v4, rfl, h4, hb4⟩; obtain ⟨p4, l4, c4, rfl⟩ := h4.slice; obtain ⟨ax4, ay4⟩ := spot_later hb4 (spot_alloc ⟨ax3, ay3⟩ _); have ag4 := World.block_lt_of_cell? _ _ ax4; obtain ⟨bx4, by4⟩ := spot_later hb4 (spot_alloc ⟨bx3, by3⟩ _); have bg4 := World.block_lt_of_cell? _ _ bx4; have px4 := cell_later hb4 (show (w3.alloc (.cells #[.bool (T ax bz), .slice p3 l3 c3] 110)).cell? ⟨w3.heap.size, 0, none⟩ = some (.bool (T ax bz)) by simp [go_sem]); have py4 := cell_later hb4 (show (w3.alloc (.cells #[.bool (T ax bz), .slice p3 l3 c3] 110)).cell? ⟨w3.heap.size, 1, none⟩ = some (.slice p3 l3 c3) by simp [go_sem]); have pg4 := World.block_lt_of_cell? _ _ px4; have HP4 := Lib.hid ((HH3.out.later (ka (Below.refl _ _) _)).later hb4); have HH4 := Lib.hid h4; have HB4 := Lib.hid hb4; clear h4 hb4) | (go_at_call 79; refine (CR.out _ _ _ (by assumption) (by assumption)).mono ?_; rintro e w3 ⟨v3, rfl, h3, hb3⟩; obtain ⟨p3, l3, c3, rfl⟩ := h3.slice; obtain ⟨ax3, ay3⟩ := spot_later hb3 ⟨ax2, ay2⟩; have ag3 := World.block_lt_of_cell? _ _ ax3; obtain ⟨bx3, by3⟩ := spot_later hb3 ⟨bx2, by2⟩; have bg3 := World.block_lt_of_cell? _ _ bx3; have HH3 := Lib.hid h3; have HB3 := Lib.hid hb3; clear h3 hb3) | (go_at_call 78; refine (CM.out _ _ _ (HP4.out.later (ka (Below.refl _ _) _)) (HH4.out.later (ka (Below.refl _ _) _))).mono ?_; rintro e w5 ⟨v5, rfl, h5', hb5⟩; obtain ⟨p5, l5, c5, rfl⟩ := h5'.slice; have hl5 := (h5'.len).trans (rfl); have hl6 : ¬ l5 = 0 := fun e => hK ((parts_len0 K).1 (hl5.symm.trans e)); have hl7 : ¬ (l5 : Int) = 0 := (by omega); clear hl5; have HB5 := Lib.hid hb5; clear h5' hb5))
  go_ret2
  have q1 := HB1.out; have q2 := HB2.out; have q3 := HB3.out; have q4 := HB4.out; have q5 := HB5.out
  exact ⟨rfl, by repeat' (first | assumption | exact Below.refl _ _ | (with_reducible refine Below.drew ?_) | (with_reducible refine ka ?_ _) | (refine kc ?_ (by assumption)))⟩

set_option maxRecDepth 100000 in
set_option maxHeartbeats 1000000 in
theorem refTurn_out (ax ay bx bz : Int) (V : Int → Bool) (t u p q : Bool) (w : World) (h : t = false ∨ u = false ∨ p = false ∨ q = false) (h1 : V ax = t) (h2 : V ay = u) (h3 : V bx = p) (h4 : V bz = q)
    (CP : Hid (∀ x y w, Calls Tryz.prog 77 #[.agg #[.int .i64 x, .int .i64 y]] w fun e w' => e = .returned (.bool (V x && V y)) ∧ Below w.heap.size w w')) :
    Calls Tryz.prog 30 #[.agg #[.int .i64 ax, .int .i64 ay], .agg #[.int .i64 bx, .int .i64 bz]] w fun e w' => e = .returned (.tuple #[.int .i64 0, .int .i64 2]) ∧ Below w.heap.size w w' := by
  cases t <;> cases u <;> cases p <;> cases q
  case true.true.true.true => rcases h with h | h | h | h <;> cases h
  all_goals
    clear h
    go_enter Tryz.func30, Tryz.ntmps30
    go_wp2_with (first | (go_at_call 77; have HM := HB1; refine (CP.out _ _ _).mono ?_; clear HM; rintro e w2 ⟨rfl, hb2⟩; obtain ⟨ax2, ay2⟩ := spot_later hb2 ⟨ax1, ay1⟩; have ag2 := World.block_lt_of_cell? _ _ ax2; obtain ⟨bx2, by2⟩ := spot_later hb2 ⟨bx1, by1⟩; have bg2 := World.block_lt_of_cell? _ _ bx2; have HB2 := Lib.hid hb2; clear hb2) | (go_at_call 77; refine (CP.out _ _ _).mono ?_; rintro e w1 ⟨rfl, hb1⟩; obtain ⟨ax1, ay1⟩ := spot_later hb1 (spot_new2 w ax ay bx bz).1; have ag1 := World.block_lt_of_cell? _ _ ax1; obtain ⟨bx1, by1⟩ := spot_later hb1 (spot_new2 w ax ay bx bz).2; have bg1 := World.block_lt_of_cell? _ _ bx1; have HB1 := Lib.hid hb1; clear hb1))
    go_ret2
    have q1 := HB1.out; have q2 := HB2.out
    exact ⟨rfl, by repeat' (first | assumption | exact Below.refl _ _ | (with_reducible refine Below.drew ?_) | (with_reducible refine ka ?_ _) | (refine kc ?_ (by assumption)))⟩

theorem sumK_len (a b c d : Int) (ha : Vld a) (hb : Vld b) (hc : Vld c) (hd : Vld d) : (parts (a.natAbs * b.natAbs)).length ≤ 8 ∧ (parts (c.natAbs * d.natAbs)).length ≤ 8 := by
  have la := parts_small _ (refSizeOf a ha)
  have lb := parts_small _ (refSizeOf b hb)
  have lc := parts_small _ (refSizeOf c hc)
  have ld := parts_small _ (refSizeOf d hd)
  have l1 := parts_mul_len a.natAbs b.natAbs
  have l2 := parts_mul_len c.natAbs d.natAbs
  omega

theorem vld_out {ax ay bx bz : Int} (hv : ¬ (Vld ax ∧ Vld ay ∧ Vld bx ∧ Vld bz)) : decide (Vld ax) = false ∨ decide (Vld ay) = false ∨ decide (Vld bx) = false ∨ decide (Vld bz) = false := by
  by_cases h1 : Vld ax
  · by_cases h2 : Vld ay
    · by_cases h3 : Vld bx
      · exact .inr (.inr (.inr (decide_eq_false (fun h4 => hv ⟨h1, h2, h3, h4⟩))))
      · exact .inr (.inr (.inl (decide_eq_false h3)))
    · exact .inr (.inl (decide_eq_false h2))
  · exact .inl (decide_eq_false h1)

theorem refTurnF (ax ay bx bz : Int) (w : World) :
    Calls Tryz.prog 30 #[.agg #[.int .i64 ax, .int .i64 ay], .agg #[.int .i64 bx, .int .i64 bz]] w fun e w' => e = .returned (.tuple #[.int .i64 (turnS ax ay bx bz).1, .int .i64 (turnS ax ay bx bz).2]) ∧ Below w.heap.size w w' := by
  have CP := fun x y w => refSpot x y w
  unfold turnS
  by_cases hv : Vld ax ∧ Vld ay ∧ Vld bx ∧ Vld bz
  · rw [if_pos hv]
    obtain ⟨h1, h2, h3, h4⟩ := hv
    have h5 : Vld (-ay) := by unfold Vld at h2 ⊢; omega
    have W1 := neg_vld h2
    have W2 : IntKind.i64.wrap (-ay) = -ay := by rw [IntKind.wrap_i64]; unfold wrap64 at W1; exact W1
    obtain ⟨l1, l2⟩ := sumK_len ax bz (-ay) bx h1 h4 h5 h3
    have CR := fun x y w (hx : decide (Vld x) = true) (hy : decide (Vld y) = true) => refProduct x y w (of_decide_eq_true hx) (of_decide_eq_true hy)
    have CM := fun w va vb ha hb => refSum (decide (ax < 0) != decide (bz < 0)) (decide (-ay < 0) != decide (bx < 0)) (ax.natAbs * bz.natAbs) ((-ay).natAbs * bx.natAbs) va vb w ha hb (by omega) (by omega)
    have hs := sv_sum (decide (ax < 0) != decide (bz < 0)) (decide (-ay < 0) != decide (bx < 0)) (ax.natAbs * bz.natAbs) ((-ay).natAbs * bx.natAbs)
    rw [sv_mul, sv_mul, Int.neg_mul] at hs
    obtain ⟨K, hK⟩ : ∃ K, sumK (decide (ax < 0) != decide (bz < 0)) (decide (-ay < 0) != decide (bx < 0)) (ax.natAbs * bz.natAbs) ((-ay).natAbs * bx.natAbs) = K := ⟨_, rfl⟩
    obtain ⟨r, hr⟩ : ∃ r, sumR (decide (ax < 0) != decide (bz < 0)) (decide (-ay < 0) != decide (bx < 0)) (ax.natAbs * bz.natAbs) ((-ay).natAbs * bx.natAbs) = r := ⟨_, rfl⟩
    rw [hK, hr] at hs CM
    unfold cmp3
    by_cases h0 : K = 0
    · have e : ax * bz = ay * bx := by cases r <;> simp [sv, h0] at hs <;> omega
      rw [if_pos e]
      exact refTurn_zero ax ay bx bz _ (fun x => decide (Vld x)) (fun x y => decide (x < 0) != decide (y < 0)) (fun x y => x.natAbs * y.natAbs) r K w W1 W2 (decide_eq_true h1) (decide_eq_true h2) (decide_eq_true h3) (decide_eq_true h4) (decide_eq_true h5) h0 CP CR CM
    · cases r with
      | true =>
        have e : ax * bz < ay * bx := by simp [sv] at hs; omega
        rw [if_neg (by omega), if_neg (by omega)]
        exact refTurn_minus ax ay bx bz _ (fun x => decide (Vld x)) (fun x y => decide (x < 0) != decide (y < 0)) (fun x y => x.natAbs * y.natAbs) K w W1 W2 (decide_eq_true h1) (decide_eq_true h2) (decide_eq_true h3) (decide_eq_true h4) (decide_eq_true h5) h0 CP CR CM
      | false =>
        have e : ay * bx < ax * bz := by simp [sv] at hs; omega
        rw [if_neg (by omega), if_pos (by omega)]
        exact refTurn_plus ax ay bx bz _ (fun x => decide (Vld x)) (fun x y => decide (x < 0) != decide (y < 0)) (fun x y => x.natAbs * y.natAbs) K w W1 W2 (decide_eq_true h1) (decide_eq_true h2) (decide_eq_true h3) (decide_eq_true h4) (decide_eq_true h5) h0 CP CR CM
  · rw [if_neg hv]
    exact refTurn_out ax ay bx bz _ _ _ _ _ w (vld_out hv) rfl rfl rfl rfl CP

end Go.Proofs.YtebfhjndgfcijaaGreatDoor
