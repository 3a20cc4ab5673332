/- The laws SheetPlaces and SheetContacts, but for their opening examples. -/
import Derived.Test.YtalehoghenmbfaaGreatDoorContacts
namespace Go.Proofs.YtalehoghenmbfaaGreatDoor
open Go Go.RowKit

theorem froz_later {W W' : World} (hb : Below W.heap.size W W') {B : Nat} (hl : B < W.heap.size) (h : W.frozen? ⟨B, 0, none⟩ = false) : W'.frozen? ⟨B, 0, none⟩ = false := (hb.frozen (p := ⟨B, 0, none⟩) hl).trans h
theorem spot_set0 {W : World} {b : Nat} {x y : Int} (u : Int) (h : SpotAt W b x y) : SpotAt (W.setCell ⟨b, 0, none⟩ (.int .i64 u)) b u y :=
  ⟨set_one _ h.1, (World.cell?_setCell_other _ _ _ _ (by simp)).trans h.2⟩

set_option maxRecDepth 100000 in
set_option maxHeartbeats 1000000 in
theorem places_ok (x y nx a : Int) (c k : Bool) (w : World) (W1 : IntKind.i64.wrap (-x) = nx)
    (C1 : Hid (∀ u w, (u = x ∨ u = nx) → Calls Tryz.prog 5 #[.agg #[.int .i64 u, .int .i64 y]] w fun e w' => e = .returned (.tuple #[.int .i64 a, .int .i64 0]) ∧ Below w.heap.size w w'))
    (C2 : Hid (∀ u w, (u = x ∨ u = nx) → Calls Tryz.prog 6 #[.agg #[.int .i64 u, .int .i64 y]] w fun e w' => e = .returned (.tuple #[.int .i64 a, .int .i64 0]) ∧ Below w.heap.size w w'))
    (C3 : Hid (∀ u w, (u = x ∨ u = nx) → Calls Tryz.prog 7 #[.agg #[.int .i64 u, .int .i64 y]] w fun e w' => e = .returned (.tuple #[.bool c, .int .i64 0]) ∧ Below w.heap.size w w'))
    (C4 : Hid (∀ u w, (u = x ∨ u = nx) → Calls Tryz.prog 8 #[.agg #[.int .i64 u, .int .i64 y]] w fun e w' => e = .returned (.tuple #[.bool c, .int .i64 0]) ∧ Below w.heap.size w w'))
    (K1 : Hid (∀ w, Calls Tryz.prog 9 #[.agg #[.int .i64 x, .int .i64 y]] w fun e w' => e = .returned (.bool k) ∧ Below w.heap.size w w'))
    (K2 : Hid (∀ w, Calls Tryz.prog 10 #[.agg #[.int .i64 x, .int .i64 y]] w fun e w' => e = .returned (.bool k) ∧ Below w.heap.size w w'))
    (CA : Hid (∀ W, Below w.heap.size w W → Calls Tryz.prog 11 #[] W fun e w' => e = .returned (.bool true) ∧ Below W.heap.size W w')) :
    Calls Tryz.prog 3 #[.agg #[.int .i64 x, .int .i64 y]] w fun e w' => e = .returned (.bool true) ∧ Below w.heap.size w w' := by
  go_enter Tryz.func3, Tryz.ntmps3
  go_wp2_with (first | (go_at_call 5; refine (C1.out _ _ (by first | exact .inl rfl | exact .inr rfl)).mono ?_; rintro e w1 ⟨rfl, hb1⟩; obtain ⟨ax1, ay1⟩ := spot_later hb1 (spot_new w x y); have ag1 := World.block_lt_of_cell? _ _ ax1; have fz1 := froz_later hb1 (by simp) (show (w.alloc (.cells #[.int .i64 x, .int .i64 y] 24)).frozen? ⟨w.heap.size, 0, none⟩ = false by simp [go_sem]); have HB1 := Lib.hid hb1; clear hb1) | (go_at_call 6; refine (C2.out _ _ (by first | exact .inl rfl | exact .inr rfl)).mono ?_; rintro e w2 ⟨rfl, hb2⟩; obtain ⟨ax2, ay2⟩ := spot_later hb2 ⟨ax1, ay1⟩; have ag2 := World.block_lt_of_cell? _ _ ax2; have fz2 := froz_later hb2 ag1 fz1; have HB2 := Lib.hid hb2; clear hb2) | (go_at_call 7; refine (C3.out _ _ (by first | exact .inl rfl | exact .inr rfl)).mono ?_; rintro e w3 ⟨rfl, hb3⟩; obtain ⟨ax3, ay3⟩ := spot_later hb3 ⟨ax2, ay2⟩; have ag3 := World.block_lt_of_cell? _ _ ax3; have fz3 := froz_later hb3 ag2 fz2; have HB3 := Lib.hid hb3; clear hb3) | (go_at_call 8; refine (C4.out _ _ (by first | exact .inl rfl | exact .inr rfl)).mono ?_; rintro e w4 ⟨rfl, hb4⟩; obtain ⟨ax4, ay4⟩ := spot_later hb4 ⟨ax3, ay3⟩; have ag4 := World.block_lt_of_cell? _ _ ax4; have fz4 := froz_later hb4 ag3 fz3; have HB4 := Lib.hid hb4; clear hb4))
  go_region_held3 (fun w' => w'.cell? ⟨w.heap.size, 0, none⟩ = some (.int .i64 x) ∧ w'.cell? ⟨w.heap.size, 1, none⟩ = some (.int .i64 y))
    (go_keep)
    (first | (go_at_call 9; refine (K1.out _).mono ?_; rintro e w5 ⟨rfl, hb5⟩; obtain ⟨ax5, ay5⟩ := spot_later hb5 ⟨ax4, ay4⟩; have ag5 := World.block_lt_of_cell? _ _ ax5; have fz5 := froz_later hb5 ag4 fz4; have HB5 := Lib.hid hb5; clear hb5) | (go_at_call 10; refine (K2.out _).mono ?_; rintro e w6 ⟨rfl, hb6⟩; obtain ⟨ax6, ay6⟩ := spot_later hb6 ⟨ax5, ay5⟩; have ag6 := World.block_lt_of_cell? _ _ ax6; have fz6 := froz_later hb6 ag5 fz5; have HB6 := Lib.hid hb6; clear hb6))
  go_wp2_with (first | (go_at_call 5; refine (C1.out _ _ (by first | exact .inl rfl | exact .inr rfl)).mono ?_; rintro e w7 ⟨rfl, hb7⟩; obtain ⟨ax7, ay7⟩ := spot_later hb7 (spot_set0 _ ⟨ax6, ay6⟩); have ag7 := World.block_lt_of_cell? _ _ ax7; have HB7 := Lib.hid hb7; clear hb7) | (go_at_call 7; refine (C3.out _ _ (by first | exact .inl rfl | exact .inr rfl)).mono ?_; rintro e w8 ⟨rfl, hb8⟩; obtain ⟨ax8, ay8⟩ := spot_later hb8 ⟨ax7, ay7⟩; have ag8 := World.block_lt_of_cell? _ _ ax8; have HB8 := Lib.hid hb8; clear hb8) | (go_at_call 11; refine (CA.out _ (by have q1 := HB1.out; have q2 := HB2.out; have q3 := HB3.out; have q4 := HB4.out; have q5 := kc (Below.refl w4.heap.size w4).drew HB5.out; have q6 := HB6.out; have q7 := HB7.out; have q8 := HB8.out; repeat' (first | assumption | exact Below.refl _ _ | (with_reducible refine Below.drew ?_) | (with_reducible refine ks ?_ _ (by first | exact Nat.le_refl _ | (simp; done) | (simp; omega))) | (with_reducible refine ka ?_ _) | (refine kc ?_ (by assumption))))).mono ?_; rintro e w9 ⟨rfl, hb9⟩; have HB9 := Lib.hid hb9; clear hb9))
  go_ret
  have q1 := HB1.out; have q2 := HB2.out; have q3 := HB3.out; have q4 := HB4.out
  have q5 := kc (Below.refl w4.heap.size w4).drew HB5.out
  have q6 := HB6.out; have q7 := HB7.out; have q8 := HB8.out; have q9 := HB9.out
  exact ⟨rfl, by repeat' (first | assumption | exact Below.refl _ _ | (with_reducible refine Below.drew ?_) | (with_reducible refine ks ?_ _ (by first | exact Nat.le_refl _ | (simp; done) | (simp; omega))) | (with_reducible refine ka ?_ _) | (refine kc ?_ (by assumption)))⟩

set_option maxRecDepth 100000 in
set_option maxHeartbeats 1000000 in
theorem places_bad (x y nx : Int) (k : Bool) (w : World)
    (C1 : Hid (∀ u w, (u = x ∨ u = nx) → Calls Tryz.prog 5 #[.agg #[.int .i64 u, .int .i64 y]] w fun e w' => e = .returned (.tuple #[.int .i64 0, .int .i64 2]) ∧ Below w.heap.size w w'))
    (C2 : Hid (∀ u w, (u = x ∨ u = nx) → Calls Tryz.prog 6 #[.agg #[.int .i64 u, .int .i64 y]] w fun e w' => e = .returned (.tuple #[.int .i64 0, .int .i64 2]) ∧ Below w.heap.size w w'))
    (C3 : Hid (∀ u w, (u = x ∨ u = nx) → Calls Tryz.prog 7 #[.agg #[.int .i64 u, .int .i64 y]] w fun e w' => e = .returned (.tuple #[.bool false, .int .i64 2]) ∧ Below w.heap.size w w'))
    (C4 : Hid (∀ u w, (u = x ∨ u = nx) → Calls Tryz.prog 8 #[.agg #[.int .i64 u, .int .i64 y]] w fun e w' => e = .returned (.tuple #[.bool false, .int .i64 2]) ∧ Below w.heap.size w w'))
    (K1 : Hid (∀ w, Calls Tryz.prog 9 #[.agg #[.int .i64 x, .int .i64 y]] w fun e w' => e = .returned (.bool k) ∧ Below w.heap.size w w'))
    (K2 : Hid (∀ w, Calls Tryz.prog 10 #[.agg #[.int .i64 x, .int .i64 y]] w fun e w' => e = .returned (.bool k) ∧ Below w.heap.size w w'))
    (CA : Hid (∀ W, Below w.heap.size w W → Calls Tryz.prog 11 #[] W fun e w' => e = .returned (.bool true) ∧ Below W.heap.size W w')) :
    Calls Tryz.prog 3 #[.agg #[.int .i64 x, .int .i64 y]] w fun e w' => e = .returned (.bool true) ∧ Below w.heap.size w w' := by
  go_enter Tryz.func3, Tryz.ntmps3
  go_wp2_with (first | (go_at_call 5; refine (C1.out _ _ (by first | exact .inl rfl | exact .inr rfl)).mono ?_; rintro e w1 ⟨rfl, hb1⟩; obtain ⟨ax1, ay1⟩ := spot_later hb1 (spot_new w x y); have ag1 := World.block_lt_of_cell? _ _ ax1; have fz1 := froz_later hb1 (by simp) (show (w.alloc (.cells #[.int .i64 x, .int .i64 y] 24)).frozen? ⟨w.heap.size, 0, none⟩ = false by simp [go_sem]); have HB1 := Lib.hid hb1; clear hb1) | (go_at_call 6; refine (C2.out _ _ (by first | exact .inl rfl | exact .inr rfl)).mono ?_; rintro e w2 ⟨rfl, hb2⟩; obtain ⟨ax2, ay2⟩ := spot_later hb2 ⟨ax1, ay1⟩; have ag2 := World.block_lt_of_cell? _ _ ax2; have fz2 := froz_later hb2 ag1 fz1; have HB2 := Lib.hid hb2; clear hb2) | (go_at_call 7; refine (C3.out _ _ (by first | exact .inl rfl | exact .inr rfl)).mono ?_; rintro e w3 ⟨rfl, hb3⟩; obtain ⟨ax3, ay3⟩ := spot_later hb3 ⟨ax2, ay2⟩; have ag3 := World.block_lt_of_cell? _ _ ax3; have fz3 := froz_later hb3 ag2 fz2; have HB3 := Lib.hid hb3; clear hb3) | (go_at_call 8; refine (C4.out _ _ (by first | exact .inl rfl | exact .inr rfl)).mono ?_; rintro e w4 ⟨rfl, hb4⟩; obtain ⟨ax4, ay4⟩ := spot_later hb4 ⟨ax3, ay3⟩; have ag4 := World.block_lt_of_cell? _ _ ax4; have fz4 := froz_later hb4 ag3 fz3; have HB4 := Lib.hid hb4; clear hb4))
  go_region_held3 (fun w' => w'.cell? ⟨w.heap.size, 0, none⟩ = some (.int .i64 x) ∧ w'.cell? ⟨w.heap.size, 1, none⟩ = some (.int .i64 y))
    (go_keep)
    (first | (go_at_call 9; refine (K1.out _).mono ?_; rintro e w5 ⟨rfl, hb5⟩; obtain ⟨ax5, ay5⟩ := spot_later hb5 ⟨ax4, ay4⟩; have ag5 := World.block_lt_of_cell? _ _ ax5; have fz5 := froz_later hb5 ag4 fz4; have HB5 := Lib.hid hb5; clear hb5) | (go_at_call 10; refine (K2.out _).mono ?_; rintro e w6 ⟨rfl, hb6⟩; obtain ⟨ax6, ay6⟩ := spot_later hb6 ⟨ax5, ay5⟩; have ag6 := World.block_lt_of_cell? _ _ ax6; have fz6 := froz_later hb6 ag5 fz5; have HB6 := Lib.hid hb6; clear hb6))
  go_wp2_with (first | (go_at_call 11; refine (CA.out _ (by have q1 := HB1.out; have q2 := HB2.out; have q3 := HB3.out; have q4 := HB4.out; have q5 := kc (Below.refl w4.heap.size w4).drew HB5.out; have q6 := HB6.out; repeat' (first | assumption | exact Below.refl _ _ | (with_reducible refine Below.drew ?_) | (with_reducible refine ks ?_ _ (by first | exact Nat.le_refl _ | (simp; done) | (simp; omega))) | (with_reducible refine ka ?_ _) | (refine kc ?_ (by assumption))))).mono ?_; rintro e w9 ⟨rfl, hb9⟩; have HB9 := Lib.hid hb9; clear hb9))
  go_ret
  have q1 := HB1.out; have q2 := HB2.out; have q3 := HB3.out; have q4 := HB4.out
  have q5 := kc (Below.refl w4.heap.size w4).drew HB5.out
  have q6 := HB6.out; have q9 := HB9.out
  exact ⟨rfl, by repeat' (first | assumption | exact Below.refl _ _ | (with_reducible refine Below.drew ?_) | (with_reducible refine ks ?_ _ (by first | exact Nat.le_refl _ | (simp; done) | (simp; omega))) | (with_reducible refine ka ?_ _) | (refine kc ?_ (by assumption)))⟩

theorem mirror_plc (x y : Int) : Plc (-x) y ↔ Plc x y := by unfold Plc; omega
theorem mirror_out (x y : Int) : OutP (-x) y ↔ OutP x y := by unfold OutP; omega
theorem mirror_hou (x y : Int) : HouP (-x) y ↔ HouP x y := by unfold HouP; rw [Int.neg_mul_neg]
theorem mirror_zone (x y : Int) : zoneS (-x) y = zoneS x y := by
  unfold zoneS
  simp only [mirror_plc, mirror_out, mirror_hou]
theorem mirror_cent (x y : Int) : centS (-x) y = centS x y := by
  unfold centS
  have e : max (-x) (- -x) = max x (-x) := by omega
  simp only [mirror_plc, mirror_out, e]

theorem places_any (x y : Int) (w : World) (hx : -9223372036854775808 ≤ x) (hx1 : x ≤ 9223372036854775807)
    (CA : Hid (∀ W, Below w.heap.size w W → Calls Tryz.prog 11 #[] W fun e w' => e = .returned (.bool true) ∧ Below W.heap.size W w')) :
    Calls Tryz.prog 3 #[.agg #[.int .i64 x, .int .i64 y]] w fun e w' => e = .returned (.bool true) ∧ Below w.heap.size w w' := by
  by_cases hp : Plc x y
  · have hz : ∀ u, (u = x ∨ u = -x) → zoneS u y = ((zoneS x y).1, 0) := by
      have h0 : zoneS x y = ((zoneS x y).1, 0) := by
        unfold zoneS
        rw [if_pos hp]
        split
        · rfl
        · split
          · rfl
          · split <;> rfl
      rintro u (rfl | rfl)
      · exact h0
      · rw [mirror_zone]; exact h0
    have hc : ∀ u, (u = x ∨ u = -x) → centS u y = ((centS x y).1, 0) := by
      have h0 : centS x y = ((centS x y).1, 0) := by
        unfold centS
        rw [if_pos hp]
      rintro u (rfl | rfl)
      · exact h0
      · rw [mirror_cent]; exact h0
    have hb := hp
    unfold Plc at hb
    exact places_ok x y (-x) (zoneS x y).1 (centS x y).1 (decide (Plc x y)) w (by rw [IntKind.wrap_i64]; omega)
      (fun u w h => by have := zone_any u y w; rw [hz u h] at this; exact this) (fun u w h => by have := refZone_any u y w; rw [hz u h] at this; exact this)
      (fun u w h => by have := onCentre_any u y w; rw [hc u h] at this; exact this) (fun u w h => by have := refOnCentre_any u y w; rw [hc u h] at this; exact this)
      (fun w => checkSpot_any x y w) (fun w => refCheckSpot_any x y w) CA
  · have hz : zoneS x y = (0, 2) := by unfold zoneS; rw [if_neg hp]
    have hc : centS x y = (false, 2) := by unfold centS; rw [if_neg hp]
    exact places_bad x y x (decide (Plc x y)) w
      (fun u w h => by have hu : u = x := (by omega); subst hu; have := zone_any u y w; rw [hz] at this; exact this)
      (fun u w h => by have hu : u = x := (by omega); subst hu; have := refZone_any u y w; rw [hz] at this; exact this)
      (fun u w h => by have hu : u = x := (by omega); subst hu; have := onCentre_any u y w; rw [hc] at this; exact this)
      (fun u w h => by have hu : u = x := (by omega); subst hu; have := refOnCentre_any u y w; rw [hc] at this; exact this)
      (fun w => checkSpot_any x y w) (fun w => refCheckSpot_any x y w) CA

set_option maxRecDepth 100000 in
set_option maxHeartbeats 1000000 in
theorem contacts_walk (ax ay bx bz n e : Int) (w : World)
    (C1 : Hid (∀ a b c d w, ((a = ax ∧ b = ay ∧ c = bx ∧ d = bz) ∨ (a = bx ∧ b = bz ∧ c = ax ∧ d = ay)) → Calls Tryz.prog 12 #[.agg #[.int .i64 a, .int .i64 b], .agg #[.int .i64 c, .int .i64 d]] w fun e' w' => e' = .returned (.tuple #[.int .i64 n, .int .i64 e]) ∧ Below w.heap.size w w'))
    (C2 : Hid (∀ w, Calls Tryz.prog 13 #[.agg #[.int .i64 ax, .int .i64 ay], .agg #[.int .i64 bx, .int .i64 bz]] w fun e' w' => e' = .returned (.tuple #[.int .i64 n, .int .i64 e]) ∧ Below w.heap.size w w'))
    (CA : Hid (∀ W, Below w.heap.size w W → Calls Tryz.prog 11 #[] W fun e w' => e = .returned (.bool true) ∧ Below W.heap.size W w')) :
    Calls Tryz.prog 4 #[.agg #[.int .i64 ax, .int .i64 ay], .agg #[.int .i64 bx, .int .i64 bz]] w fun e' w' => e' = .returned (.bool true) ∧ Below w.heap.size w w' := by
  go_enter Tryz.func4, Tryz.ntmps4
  go_wp2_with (first | (go_at_call 12; have HM := HB2; refine (C1.out _ _ _ _ _ (by first | exact .inl ⟨rfl, rfl, rfl, rfl⟩ | exact .inr ⟨rfl, rfl, rfl, rfl⟩)).mono ?_; clear HM; rintro e w3 ⟨rfl, hb3⟩; obtain ⟨ax3, ay3⟩ := spot_later hb3 ⟨ax2, ay2⟩; have ag3 := World.block_lt_of_cell? _ _ ax3; obtain ⟨bx3, by3⟩ := spot_later hb3 ⟨bx2, by2⟩; have bg3 := World.block_lt_of_cell? _ _ bx3; have HB3 := Lib.hid hb3; clear hb3) | (go_at_call 12; refine (C1.out _ _ _ _ _ (by first | exact .inl ⟨rfl, rfl, rfl, rfl⟩ | exact .inr ⟨rfl, rfl, rfl, rfl⟩)).mono ?_; rintro e w1 ⟨rfl, hb1⟩; obtain ⟨ax1, ay1⟩ := spot_later hb1 (spot_new2 w ax ay bx bz).1; have ag1 := World.block_lt_of_cell? _ _ ax1; obtain ⟨bx1, by1⟩ := spot_later hb1 (spot_new2 w ax ay bx bz).2; have bg1 := World.block_lt_of_cell? _ _ bx1; have HB1 := Lib.hid hb1; clear hb1) | (go_at_call 13; refine (C2.out _).mono ?_; rintro e w2 ⟨rfl, hb2⟩; obtain ⟨ax2, ay2⟩ := spot_later hb2 ⟨ax1, ay1⟩; have ag2 := World.block_lt_of_cell? _ _ ax2; obtain ⟨bx2, by2⟩ := spot_later hb2 ⟨bx1, by1⟩; have bg2 := World.block_lt_of_cell? _ _ bx2; have HB2 := Lib.hid hb2; clear hb2) | (go_at_call 11; refine (CA.out _ (by have q1 := HB1.out; have q2 := HB2.out; have q3 := HB3.out; repeat' (first | assumption | exact Below.refl _ _ | (with_reducible refine Below.drew ?_) | (with_reducible refine ks ?_ _ (by first | exact Nat.le_refl _ | (simp; done) | (simp; omega))) | (with_reducible refine ka ?_ _) | (refine kc ?_ (by assumption))))).mono ?_; rintro e w4 ⟨rfl, hb4⟩; have HB4 := Lib.hid hb4; clear hb4))
  go_ret
  have q1 := HB1.out; have q2 := HB2.out; have q3 := HB3.out; have q4 := HB4.out
  exact ⟨rfl, by repeat' (first | assumption | exact Below.refl _ _ | (with_reducible refine Below.drew ?_) | (with_reducible refine ks ?_ _ (by first | exact Nat.le_refl _ | (simp; done) | (simp; omega))) | (with_reducible refine ka ?_ _) | (refine kc ?_ (by assumption)))⟩

theorem contacts_any (ax ay bx bz : Int) (w : World)
    (CA : Hid (∀ W, Below w.heap.size w W → Calls Tryz.prog 11 #[] W fun e w' => e = .returned (.bool true) ∧ Below W.heap.size W w')) :
    Calls Tryz.prog 4 #[.agg #[.int .i64 ax, .int .i64 ay], .agg #[.int .i64 bx, .int .i64 bz]] w fun e' w' => e' = .returned (.bool true) ∧ Below w.heap.size w w' := by
  refine contacts_walk ax ay bx bz _ _ w (fun a b c d w h => ?_) (fun w => refContact_all ax ay bx bz w) CA
  rcases h with ⟨rfl, rfl, rfl, rfl⟩ | ⟨rfl, rfl, rfl, rfl⟩
  · exact sheetContact_all _ _ _ _ w
  · have := sheetContact_all a b c d w
    rw [contS_swap] at this
    exact this

end Go.Proofs.YtalehoghenmbfaaGreatDoor
