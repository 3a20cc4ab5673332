/- The document's own answers: Spot, square, Length. -/
import Derived.Test.YtebfhjndgfcijaaGreatDoorRefRooted
import Derived.Test.YtebfhjndgfcijaaGreatDoorPair
import Derived.Test.YtebfhjndgfcijaaGreatDoorTurn
import Derived.Test.YtebfhjndgfcijaaGreatDoorWithin
namespace Go.Proofs.YtebfhjndgfcijaaGreatDoor
open Go Go.RowKit

/-- Two spots in new boxes. -/
theorem spot_new2 (w : World) (a b c d : Int) :
    SpotAt ((w.alloc (.cells #[.int .i64 a, .int .i64 b] 33)).alloc (.cells #[.int .i64 c, .int .i64 d] 33)) w.heap.size a b ∧ SpotAt ((w.alloc (.cells #[.int .i64 a, .int .i64 b] 33)).alloc (.cells #[.int .i64 c, .int .i64 d] 33)) (w.heap.size + 1) c d :=
  ⟨⟨by simp [go_sem], by simp [go_sem]⟩, ⟨by simp [go_sem], by simp [go_sem]⟩⟩

set_option maxRecDepth 100000 in
set_option maxHeartbeats 1000000 in
theorem refSpot_at (x y : Int) (V : Int → Bool) (t u : Bool) (w : World) (hx : V x = t) (hy : V y = u)
    (CV : Hid (∀ x w, Calls Tryz.prog 57 #[.int .i64 x] w fun e w' => e = .returned (.bool (V x)) ∧ w = w')) :
    Calls Tryz.prog 77 #[.agg #[.int .i64 x, .int .i64 y]] w fun e w' => e = .returned (.bool (t && u)) ∧ Below w.heap.size w w' := by
  cases t <;> cases u
  all_goals
    go_enter Tryz.func77, Tryz.ntmps77
    go_wp2_with (go_at_call 57; refine (CV.out _ _).mono ?_; rintro e w' ⟨rfl, rfl⟩)
    go_ret
    exact ⟨by simp [hx, hy], by repeat' (first | assumption | exact Below.refl _ _ | (with_reducible refine Below.drew ?_) | (with_reducible refine ka ?_ _) | (refine kc ?_ (by assumption)))⟩
theorem refSpot (x y : Int) (w : World) : Calls Tryz.prog 77 #[.agg #[.int .i64 x, .int .i64 y]] w fun e w' => e = .returned (.bool (decide (Vld x) && decide (Vld y))) ∧ Below w.heap.size w w' :=
  refSpot_at x y (fun x => decide (Vld x)) _ _ w rfl rfl (fun x w => refValid x w)

set_option maxRecDepth 100000 in
set_option maxHeartbeats 1000000 in
theorem refSquare_at (x y : Int) (P Q : Nat) (V : Int → Bool) (S : Int → Int) (G : Int → Nat) (w : World) (hVx : V x = true) (hVy : V y = true) (sa0 : 0 ≤ S x) (sa1 : S x ≤ 70368744177664) (sb0 : 0 ≤ S y) (sb1 : S y ≤ 70368744177664)
    (CS : Hid (∀ x w, V x = true → Calls Tryz.prog 58 #[.int .i64 x] w fun e w' => e = .returned (.int .i64 (S x)) ∧ w = w'))
    (CO : Hid (∀ x w, 0 ≤ x → x ≤ 70368744177664 → Calls Tryz.prog 50 #[.int .i64 x] w fun e w' => ∃ v, e = .returned v ∧ Holds w' v (G x) ∧ Below w.heap.size w w'))
    (CX : Hid (∀ w va, Holds w va (G (S x)) → Calls Tryz.prog 49 #[va, va] w fun e w' => ∃ v, e = .returned v ∧ Holds w' v P ∧ Below w.heap.size w w'))
    (CY : Hid (∀ w va, Holds w va (G (S y)) → Calls Tryz.prog 49 #[va, va] w fun e w' => ∃ v, e = .returned v ∧ Holds w' v Q ∧ Below w.heap.size w w'))
    (CQ : Hid (∀ w va vb, Holds w va P → Holds w vb Q → Calls Tryz.prog 48 #[va, vb] w fun e w' => ∃ v, e = .returned v ∧ Holds w' v (P + Q) ∧ Below w.heap.size w w')) :
    Calls Tryz.prog 83 #[.agg #[.int .i64 x, .int .i64 y]] w fun e w' => ∃ v, e = .returned v ∧ Holds w' v (P + Q) ∧ Below w.heap.size w w' := by
  go_enter Tryz.func83, Tryz.ntmps83
  go_wp2_with (first | (go_at_call 58; refine (CS.out _ _ (by assumption)).mono ?_; rintro e w' ⟨rfl, rfl⟩) | (go_at_call 50; have HM := HH1; refine (CO.out _ _ (by omega) (by omega)).mono ?_; clear HM; rintro e w2 ⟨v2, rfl, h2, hb2⟩; have HH2 := Lib.hid h2; have HB2 := Lib.hid hb2; clear h2 hb2) | (go_at_call 50; refine (CO.out _ _ (by omega) (by omega)).mono ?_; rintro e w1 ⟨v1, rfl, h1, hb1⟩; obtain ⟨sx1, sy1⟩ := spot_later hb1 (spot_new w x y); have sg1 := World.block_lt_of_cell? _ _ sx1; have HH1 := Lib.hid h1; have HB1 := Lib.hid hb1; clear h1 hb1) | (go_at_call 49; have HM := HH3; refine (CY.out _ _ (HH2.out.later HB3.out)).mono ?_; clear HM; rintro e w4 ⟨v4, rfl, h4, hb4⟩; have HH4 := Lib.hid h4; have HB4 := Lib.hid hb4; clear h4 hb4) | (go_at_call 49; refine (CX.out _ _ (HH1.out.later HB2.out)).mono ?_; rintro e w3 ⟨v3, rfl, h3, hb3⟩; have HH3 := Lib.hid h3; have HB3 := Lib.hid hb3; clear h3 hb3) | (go_at_call 48; refine (CQ.out _ _ _ (HH3.out.later HB4.out) HH4.out).mono ?_; rintro e w5 ⟨v5, rfl, h5, hb5⟩; have HH5 := Lib.hid h5; have HB5 := Lib.hid hb5; clear h5 hb5))
  go_ret
  have q1 := HB1.out; have q2 := HB2.out; have q3 := HB3.out; have q4 := HB4.out; have q5 := HB5.out
  exact ⟨_, rfl, HH5.out, by repeat' (first | assumption | exact Below.refl _ _ | (with_reducible refine Below.drew ?_) | (with_reducible refine ka ?_ _) | (refine kc ?_ (by assumption)))⟩

theorem refSquare (x y : Int) (w : World) (hx : Vld x) (hy : Vld y) :
    Calls Tryz.prog 83 #[.agg #[.int .i64 x, .int .i64 y]] w fun e w' => ∃ v, e = .returned v ∧ Holds w' v (x.natAbs * x.natAbs + y.natAbs * y.natAbs) ∧ Below w.heap.size w w' := by
  have na := refSizeOf x hx
  have nb := refSizeOf y hy
  have la := parts_small _ na
  have lb := parts_small _ nb
  have lp := parts_mul_len x.natAbs x.natAbs
  have lq := parts_mul_len y.natAbs y.natAbs
  exact refSquare_at x y _ _ (fun x => decide (Vld x)) (fun x => (x.natAbs : Int)) Int.toNat w (decide_eq_true hx) (decide_eq_true hy) (by omega) (by omega) (by omega) (by omega) sizeC ofC
    (fun w va h => refTimes _ _ va va w h h (by omega) (by omega)) (fun w va h => refTimes _ _ va va w h h (by omega) (by omega)) (fun w va vb h1 h2 => refPlus _ _ va vb w h1 h2 (by omega) (by omega))

set_option maxRecDepth 100000 in
set_option maxHeartbeats 1000000 in
theorem refLength_in (x y how R E : Int) (Q : Nat) (V : Int → Bool) (H : Bool) (w : World) (hVx : V x = true) (hVy : V y = true) (hH : H = true)
    (CP : Hid (∀ x y w, Calls Tryz.prog 77 #[.agg #[.int .i64 x, .int .i64 y]] w fun e w' => e = .returned (.bool (V x && V y)) ∧ Below w.heap.size w w'))
    (CH : Hid (∀ w, Calls Tryz.prog 46 #[.int .i64 how] w fun e w' => e = .returned (.bool H) ∧ w = w'))
    (CQ : Hid (∀ w, Calls Tryz.prog 83 #[.agg #[.int .i64 x, .int .i64 y]] w fun e w' => ∃ v, e = .returned v ∧ Holds w' v Q ∧ Below w.heap.size w w'))
    (CR : Hid (∀ w va, Holds w va Q → Calls Tryz.prog 82 #[va, .int .i64 how] w fun e w' => ∃ z, e = .returned (.tuple #[.int .i64 z, .bool true]) ∧ (∀ w, Calls Tryz.prog 51 #[.int .i64 z, .bool true] w fun e w' => e = .returned (.tuple #[.int .i64 R, .int .i64 E]) ∧ w = w') ∧ Below w.heap.size w w')) :
    Calls Tryz.prog 24 #[.agg #[.int .i64 x, .int .i64 y], .int .i64 how] w fun e w' => e = .returned (.tuple #[.int .i64 R, .int .i64 E]) ∧ Below w.heap.size w w' := by
  subst hH
  go_enter Tryz.func24, Tryz.ntmps24
  go_wp2_with (first | (go_at_call 77; refine (CP.out _ _ _).mono ?_; rintro e w1 ⟨rfl, hb1⟩; obtain ⟨sx1, sy1⟩ := spot_later hb1 (spot_new w x y); have sg1 := World.block_lt_of_cell? _ _ sx1; have HB1 := Lib.hid hb1; clear hb1) | (go_at_call 46; refine (CH.out _).mono ?_; rintro e w' ⟨rfl, rfl⟩) | (go_at_call 83; refine (CQ.out _).mono ?_; rintro e w2 ⟨v2, rfl, h2, hb2⟩; have HH2 := Lib.hid h2; have HB2 := Lib.hid hb2; clear h2 hb2) | (go_at_call 82; refine (CR.out _ _ HH2.out).mono ?_; rintro e w3 ⟨z, rfl, hz, hb3⟩; have HZ := Lib.hid hz; have HB3 := Lib.hid hb3; clear hz hb3) | (go_at_call 51; refine (HZ.out _).mono ?_; rintro e w' ⟨rfl, rfl⟩))
  go_ret2
  have q1 := HB1.out; have q2 := HB2.out; have q3 := HB3.out
  exact ⟨rfl, by repeat' (first | assumption | exact Below.refl _ _ | (with_reducible refine Below.drew ?_) | (with_reducible refine ka ?_ _) | (refine kc ?_ (by assumption)))⟩

set_option maxRecDepth 100000 in
set_option maxHeartbeats 1000000 in
theorem refLength_out (x y how : Int) (V : Int → Bool) (t u H : Bool) (w : World) (h : t = false ∨ u = false ∨ H = false) (hVx : V x = t) (hVy : V y = u)
    (CP : Hid (∀ x y w, Calls Tryz.prog 77 #[.agg #[.int .i64 x, .int .i64 y]] w fun e w' => e = .returned (.bool (V x && V y)) ∧ Below w.heap.size w w'))
    (CH : Hid (∀ w, Calls Tryz.prog 46 #[.int .i64 how] w fun e w' => e = .returned (.bool H) ∧ w = w')) :
    Calls Tryz.prog 24 #[.agg #[.int .i64 x, .int .i64 y], .int .i64 how] w fun e w' => e = .returned (.tuple #[.int .i64 0, .int .i64 2]) ∧ Below w.heap.size w w' := by
  cases t <;> cases u <;> cases H
  case true.true.true => rcases h with h | h | h <;> cases h
  all_goals
    clear h
    go_enter Tryz.func24, Tryz.ntmps24
    go_wp2_with (first | (go_at_call 77; refine (CP.out _ _ _).mono ?_; rintro e w1 ⟨rfl, hb1⟩; obtain ⟨sx1, sy1⟩ := spot_later hb1 (spot_new w x y); have sg1 := World.block_lt_of_cell? _ _ sx1; have HB1 := Lib.hid hb1; clear hb1) | (go_at_call 46; refine (CH.out _).mono ?_; rintro e w' ⟨rfl, rfl⟩))
    go_ret2
    have q1 := HB1.out
    exact ⟨rfl, by repeat' (first | assumption | exact Below.refl _ _ | (with_reducible refine Below.drew ?_) | (with_reducible refine ka ?_ _) | (refine kc ?_ (by assumption)))⟩

theorem refLengthF (x y how : Int) (w : World) :
    Calls Tryz.prog 24 #[.agg #[.int .i64 x, .int .i64 y], .int .i64 how] w fun e w' => e = .returned (.tuple #[.int .i64 (lengthS x y how).1, .int .i64 (lengthS x y how).2]) ∧ Below w.heap.size w w' := by
  have CP := fun x y w => refSpot x y w
  have CH := fun w => refHow how w
  unfold lengthS
  by_cases hx : Vld x
  · by_cases hy : Vld y
    · by_cases hh : 0 ≤ how ∧ how ≤ 3
      · rw [if_pos ⟨⟨hx, hy⟩, hh⟩]
        have hs : sqS x y < 19807040628566084398385987584 := by have h1 := (sq_facts ⟨hx, hy⟩).1; have h2 := (sq_facts ⟨hx, hy⟩).2.1; unfold sqS; omega
        refine refLength_in x y how _ _ (sqS x y) (fun x => decide (Vld x)) _ w (decide_eq_true hx) (decide_eq_true hy) (decide_eq_true hh) CP CH (fun w => refSquare x y w hx hy) (fun w va h => (refRooted _ how va w hh.1 hh.2 h hs).mono (fun e w' h => ⟨_, h.1, fun w => ?_, h.2⟩))
        by_cases hv : Vld (rootS how (sqS x y))
        · rw [if_pos hv]
          exact refFit_ok _ w hv
        · rw [if_neg hv]
          exact refFit_bad _ w hv
      · rw [if_neg (fun h => hh h.2)]
        exact refLength_out x y how _ _ _ _ w (.inr (.inr (decide_eq_false hh))) rfl rfl CP CH
    · rw [if_neg (fun h => hy h.1.2)]
      exact refLength_out x y how _ _ _ _ w (.inr (.inl (decide_eq_false hy))) rfl rfl CP CH
  · rw [if_neg (fun h => hx h.1.1)]
    exact refLength_out x y how _ _ _ _ w (.inl (decide_eq_false hx)) rfl rfl CP CH

end Go.Proofs.YtebfhjndgfcijaaGreatDoor
