/- The first stones that overlap: package sheet's Overlap. -/
import Derived.Test.YtfdhgimpdmhdeaaGreatDoorStones
namespace Go.Proofs.YtfdhgimpdmhdeaaGreatDoor
open Go Go.RowKit

theorem st_new2 (w : World) (s u : St) :
    StAt ((w.alloc (.cells #[.int .i64 s.t, .int .i64 s.n, .int .i64 s.x, .int .i64 s.y] 39)).alloc (.cells #[.int .i64 u.t, .int .i64 u.n, .int .i64 u.x, .int .i64 u.y] 39)) w.heap.size 0 s ∧ StAt ((w.alloc (.cells #[.int .i64 s.t, .int .i64 s.n, .int .i64 s.x, .int .i64 s.y] 39)).alloc (.cells #[.int .i64 u.t, .int .i64 u.n, .int .i64 u.x, .int .i64 u.y] 39)) (w.heap.size + 1) 0 u :=
  ⟨⟨⟨by simp [go_sem], by simp [go_sem]⟩, by simp [go_sem], by simp [go_sem]⟩, ⟨⟨by simp [go_sem], by simp [go_sem]⟩, by simp [go_sem], by simp [go_sem]⟩⟩

/-- Do two stones overlap? -/
def ovS (a b : St) : Bool := decide (Plc a.x a.y) && decide (Plc b.x b.y) && decide (conS (a.x - b.x) (a.y - b.y) = -1)

set_option maxRecDepth 100000 in
set_option maxHeartbeats 1000000 in
theorem overlap1_ok (a b : St) (n : Int) (V : Int → Int → Bool) (w : World) (h1 : V a.x a.y = true) (h2 : V b.x b.y = true)
    (CK : Hid (∀ x y w, Calls Tryz.prog 33 #[.agg #[.int .i64 x, .int .i64 y]] w fun e w' => e = .returned (.bool (V x y)) ∧ Below w.heap.size w w'))
    (CC : Hid (∀ w, Calls Tryz.prog 35 #[.agg #[.int .i64 a.x, .int .i64 a.y], .agg #[.int .i64 b.x, .int .i64 b.y]] w fun e w' => e = .returned (.int .i64 n) ∧ Below w.heap.size w w')) :
    Calls Tryz.prog 59 #[St.val a, St.val b] w fun e w' => e = .returned (.bool (decide (n = -1))) ∧ Below w.heap.size w w' := by
  go_enter Tryz.func59, Tryz.ntmps59
  go_wp2_with (first | (go_at_call 33; have HM := HB1; refine (CK.out _ _ _).mono ?_; clear HM; rintro e w2 ⟨rfl, hb2⟩; obtain ⟨⟨_, _⟩, ax2, ay2⟩ := St.later hb2 ⟨⟨an1, at1⟩, ax1, ay1⟩; have ag2 := World.block_lt_of_cell? _ _ ax2; obtain ⟨⟨_, _⟩, bx2, by2⟩ := St.later hb2 ⟨⟨bn1, bt1⟩, bx1, by1⟩; have bg2 := World.block_lt_of_cell? _ _ bx2; have HB2 := Lib.hid hb2; clear hb2) | (go_at_call 33; refine (CK.out _ _ _).mono ?_; rintro e w1 ⟨rfl, hb1⟩; obtain ⟨⟨an1, at1⟩, ax1, ay1⟩ := St.later hb1 (st_new2 w a b).1; have ag1 := World.block_lt_of_cell? _ _ ax1; obtain ⟨⟨bn1, bt1⟩, bx1, by1⟩ := St.later hb1 (st_new2 w a b).2; have bg1 := World.block_lt_of_cell? _ _ bx1; have HB1 := Lib.hid hb1; clear hb1) | (go_at_call 35; refine (CC.out _).mono ?_; rintro e w3 ⟨rfl, hb3⟩; have HB3 := Lib.hid hb3; clear hb3))
  go_ret
  have q1 := HB1.out
  have q2 := HB2.out
  have q3 := HB3.out
  exact ⟨by first | rfl | simp, by repeat' (first | assumption | exact Below.refl _ _ | (with_reducible refine Below.drew ?_) | (with_reducible refine ka ?_ _) | (refine kc ?_ (by assumption)))⟩

set_option maxRecDepth 100000 in
set_option maxHeartbeats 1000000 in
theorem overlap1_bad1 (a b : St) (V : Int → Int → Bool) (w : World) (h1 : V a.x a.y = false)
    (CK : Hid (∀ x y w, Calls Tryz.prog 33 #[.agg #[.int .i64 x, .int .i64 y]] w fun e w' => e = .returned (.bool (V x y)) ∧ Below w.heap.size w w')) :
    Calls Tryz.prog 59 #[St.val a, St.val b] w fun e w' => e = .returned (.bool false) ∧ Below w.heap.size w w' := by
  go_enter Tryz.func59, Tryz.ntmps59
  go_wp2_with (first | (go_at_call 33; refine (CK.out _ _ _).mono ?_; rintro e w1 ⟨rfl, hb1⟩; have HB1 := Lib.hid hb1; clear hb1))
  go_ret
  have q1 := HB1.out
  exact ⟨rfl, by repeat' (first | assumption | exact Below.refl _ _ | (with_reducible refine Below.drew ?_) | (with_reducible refine ka ?_ _) | (refine kc ?_ (by assumption)))⟩

set_option maxRecDepth 100000 in
set_option maxHeartbeats 1000000 in
theorem overlap1_bad2 (a b : St) (V : Int → Int → Bool) (w : World) (h1 : V a.x a.y = true) (h2 : V b.x b.y = false)
    (CK : Hid (∀ x y w, Calls Tryz.prog 33 #[.agg #[.int .i64 x, .int .i64 y]] w fun e w' => e = .returned (.bool (V x y)) ∧ Below w.heap.size w w')) :
    Calls Tryz.prog 59 #[St.val a, St.val b] w fun e w' => e = .returned (.bool false) ∧ Below w.heap.size w w' := by
  go_enter Tryz.func59, Tryz.ntmps59
  go_wp2_with (first | (go_at_call 33; have HM := HB1; refine (CK.out _ _ _).mono ?_; clear HM; rintro e w2 ⟨rfl, hb2⟩; have HB2 := Lib.hid hb2; clear hb2) | (go_at_call 33; refine (CK.out _ _ _).mono ?_; rintro e w1 ⟨rfl, hb1⟩; obtain ⟨⟨an1, at1⟩, ax1, ay1⟩ := St.later hb1 (st_new2 w a b).1; have ag1 := World.block_lt_of_cell? _ _ ax1; obtain ⟨⟨bn1, bt1⟩, bx1, by1⟩ := St.later hb1 (st_new2 w a b).2; have bg1 := World.block_lt_of_cell? _ _ bx1; have HB1 := Lib.hid hb1; clear hb1))
  go_ret
  have q1 := HB1.out
  have q2 := HB2.out
  exact ⟨rfl, by repeat' (first | assumption | exact Below.refl _ _ | (with_reducible refine Below.drew ?_) | (with_reducible refine ka ?_ _) | (refine kc ?_ (by assumption)))⟩

theorem overlap1_any (a b : St) (w : World) :
    Calls Tryz.prog 59 #[St.val a, St.val b] w fun e w' => e = .returned (.bool (ovS a b)) ∧ Below w.heap.size w w' := by
  have CK := fun x y w => checkSpot_any x y w
  unfold ovS
  by_cases ha : Plc a.x a.y
  · by_cases hb : Plc b.x b.y
    · rw [decide_eq_true ha, decide_eq_true hb, Bool.true_and, Bool.true_and]
      exact overlap1_ok a b _ (fun x y => decide (Plc x y)) w (decide_eq_true ha) (decide_eq_true hb) CK (fun w => contact_any a.x a.y b.x b.y w ha hb)
    · rw [decide_eq_true ha, decide_eq_false hb, Bool.and_false, Bool.false_and]
      exact overlap1_bad2 a b (fun x y => decide (Plc x y)) w (decide_eq_true ha) (decide_eq_false hb) CK
  · rw [decide_eq_false ha, Bool.false_and, Bool.false_and]
    exact overlap1_bad1 a b (fun x y => decide (Plc x y)) w (decide_eq_false ha) CK

set_option maxRecDepth 100000 in
set_option maxHeartbeats 1000000 in
theorem overlap_in (L : List St) (n c g o : Nat) (w : World) (hn : n ≤ 1000000) (hc : n ≤ c) (HL : Hid (L.length = n)) (HR : Hid (∀ j (h : j < L.length), StAt w g (o + j * 4) L[j])) :
    Calls Tryz.prog 42 #[.slice (some ⟨g, o, none⟩) n c] w fun e w' => ∃ r : Int × Int, e = .returned (.tuple #[.int .i64 r.1, .int .i64 r.2]) ∧ PairAt ovS L r ∧ Below w.heap.size w w' := by
  have CF := Lib.hid (firstPair_in 59 L (n : Int) n c g o w ovS rfl (by omega) hc (fun args w => by simp [go_sem]) HL HR (Lib.hid (fun a b w => overlap1_any a b w)))
  go_enter Tryz.func42, Tryz.ntmps42
  go_wp2_with ((with_reducible refine CF.out.mono ?_); rintro e w1 ⟨r, rfl, hr, hb1⟩; have HRr := Lib.hid hr; have HB1 := Lib.hid hb1; clear hr hb1)
  go_ret2
  exact ⟨r, rfl, HRr.out, HB1.out⟩

end Go.Proofs.YtfdhgimpdmhdeaaGreatDoor
