/- besomlaw01.FixedTriangle: true, whatever the spots. -/
import Derived.Test.YtkckaboilfakcaaDoorTriLaw
namespace Go.Proofs.YtkckaboilfakcaaDoor
open Go Go.RowKit

set_option maxRecDepth 100000 in
set_option maxHeartbeats 2000000 in
theorem tri_e2 (ax ay bx bz cx cz x y z f g h : Int) (w : World)
    (cp : ∀ w, Calls Tryd.prog 25 #[.agg #[.int .i64 ax, .int .i64 ay], .agg #[.int .i64 bx, .int .i64 bz]] w fun e w' => e = .returned (.tuple #[.agg #[.int .i64 cx, .int .i64 cz], .int .i64 2]) ∧ Below w.heap.size w w')
    (ca : ∀ w, Calls Tryd.prog 26 #[.agg #[.int .i64 ax, .int .i64 ay], .int .i64 2] w fun e w' => e = .returned (.tuple #[.int .i64 x, .int .i64 f]) ∧ Below w.heap.size w w')
    (cb : ∀ w, Calls Tryd.prog 26 #[.agg #[.int .i64 bx, .int .i64 bz], .int .i64 2] w fun e w' => e = .returned (.tuple #[.int .i64 y, .int .i64 g]) ∧ Below w.heap.size w w')
    (cc : ∀ w, Calls Tryd.prog 26 #[.agg #[.int .i64 cx, .int .i64 cz], .int .i64 2] w fun e w' => e = .returned (.tuple #[.int .i64 z, .int .i64 h]) ∧ Below w.heap.size w w') :
    Calls Tryd.prog 7 #[.agg #[.int .i64 ax, .int .i64 ay], .agg #[.int .i64 bx, .int .i64 bz]] w fun e w' => e = .returned (.bool true) ∧ Below w.heap.size w w' := by
  have CP := Lib.hid cp
  have CA := Lib.hid ca
  have CB := Lib.hid cb
  have CC := Lib.hid cc
  have CX := Lib.hid (fun w => alive_any w)
  clear cp ca cb cc
  go_enter Tryd.func7, Tryd.ntmps7
  go_upto_region 2 with (go_at_call 9; refine (CX.out _).mono ?_; rintro e w1 ⟨rfl, hb1⟩; obtain ⟨a1, a1'⟩ := spot_later hb1 (spot_alloc (spot_new w ax ay) _); obtain ⟨b1, b1'⟩ : SpotAt w1 (w.heap.size + 1) bx bz := spot_later hb1 ⟨by simp [go_sem], by simp [go_sem]⟩; have ga1 := World.block_lt_of_cell? _ _ a1; have gb1 := World.block_lt_of_cell? _ _ b1)
  go_upto_region 3 with (go_at_call 25; refine (CP.out _).mono ?_; rintro e w2 ⟨rfl, hb2⟩; obtain ⟨a2, a2'⟩ := spot_later hb2 ⟨a1, a1'⟩; have ga2 := World.block_lt_of_cell? _ _ a2; obtain ⟨b2, b2'⟩ := spot_later hb2 ⟨b1, b1'⟩; have gb2 := World.block_lt_of_cell? _ _ b2)
  go_upto_region 4 with (go_at_call 26; refine (CA.out _).mono ?_; rintro e w3 ⟨rfl, hb3⟩; obtain ⟨a3, a3'⟩ := spot_later hb3 (spot_alloc ⟨a2, a2'⟩ _); have ga3 := World.block_lt_of_cell? _ _ a3; obtain ⟨b3, b3'⟩ := spot_later hb3 (spot_alloc ⟨b2, b2'⟩ _); have gb3 := World.block_lt_of_cell? _ _ b3; obtain ⟨c3, c3'⟩ := spot_later hb3 (spot_new w2 cx cz); have gc3 := World.block_lt_of_cell? _ _ c3)
  go_upto_region 5 with (go_at_call 26; refine (CB.out _).mono ?_; rintro e w4 ⟨rfl, hb4⟩; obtain ⟨a4, a4'⟩ := spot_later hb4 ⟨a3, a3'⟩; have ga4 := World.block_lt_of_cell? _ _ a4; obtain ⟨b4, b4'⟩ := spot_later hb4 ⟨b3, b3'⟩; have gb4 := World.block_lt_of_cell? _ _ b4; obtain ⟨c4, c4'⟩ := spot_later hb4 ⟨c3, c3'⟩; have gc4 := World.block_lt_of_cell? _ _ c4)
  go_upto_region 6 with (go_at_call 26; refine (CC.out _).mono ?_; rintro e w5 ⟨rfl, hb5⟩)
  have hB5 : Below w.heap.size w w5 := by repeat' (first | assumption | exact Below.refl _ _ | (with_reducible refine Below.drew ?_) | (with_reducible refine ka ?_ _) | (refine kc ?_ (by assumption)))
  go_wp2
  go_ret
  exact ⟨rfl, hB5⟩

set_option maxRecDepth 100000 in
set_option maxHeartbeats 2000000 in
theorem tri_e4 (ax ay bx bz cx cz x y z f g h : Int) (w : World)
    (cp : ∀ w, Calls Tryd.prog 25 #[.agg #[.int .i64 ax, .int .i64 ay], .agg #[.int .i64 bx, .int .i64 bz]] w fun e w' => e = .returned (.tuple #[.agg #[.int .i64 cx, .int .i64 cz], .int .i64 4]) ∧ Below w.heap.size w w')
    (ca : ∀ w, Calls Tryd.prog 26 #[.agg #[.int .i64 ax, .int .i64 ay], .int .i64 2] w fun e w' => e = .returned (.tuple #[.int .i64 x, .int .i64 f]) ∧ Below w.heap.size w w')
    (cb : ∀ w, Calls Tryd.prog 26 #[.agg #[.int .i64 bx, .int .i64 bz], .int .i64 2] w fun e w' => e = .returned (.tuple #[.int .i64 y, .int .i64 g]) ∧ Below w.heap.size w w')
    (cc : ∀ w, Calls Tryd.prog 26 #[.agg #[.int .i64 cx, .int .i64 cz], .int .i64 2] w fun e w' => e = .returned (.tuple #[.int .i64 z, .int .i64 h]) ∧ Below w.heap.size w w') :
    Calls Tryd.prog 7 #[.agg #[.int .i64 ax, .int .i64 ay], .agg #[.int .i64 bx, .int .i64 bz]] w fun e w' => e = .returned (.bool true) ∧ Below w.heap.size w w' := by
  have CP := Lib.hid cp
  have CA := Lib.hid ca
  have CB := Lib.hid cb
  have CC := Lib.hid cc
  have CX := Lib.hid (fun w => alive_any w)
  clear cp ca cb cc
  go_enter Tryd.func7, Tryd.ntmps7
  go_upto_region 2 with (go_at_call 9; refine (CX.out _).mono ?_; rintro e w1 ⟨rfl, hb1⟩; obtain ⟨a1, a1'⟩ := spot_later hb1 (spot_alloc (spot_new w ax ay) _); obtain ⟨b1, b1'⟩ : SpotAt w1 (w.heap.size + 1) bx bz := spot_later hb1 ⟨by simp [go_sem], by simp [go_sem]⟩; have ga1 := World.block_lt_of_cell? _ _ a1; have gb1 := World.block_lt_of_cell? _ _ b1)
  go_upto_region 3 with (go_at_call 25; refine (CP.out _).mono ?_; rintro e w2 ⟨rfl, hb2⟩; obtain ⟨a2, a2'⟩ := spot_later hb2 ⟨a1, a1'⟩; have ga2 := World.block_lt_of_cell? _ _ a2; obtain ⟨b2, b2'⟩ := spot_later hb2 ⟨b1, b1'⟩; have gb2 := World.block_lt_of_cell? _ _ b2)
  go_upto_region 4 with (go_at_call 26; refine (CA.out _).mono ?_; rintro e w3 ⟨rfl, hb3⟩; obtain ⟨a3, a3'⟩ := spot_later hb3 (spot_alloc ⟨a2, a2'⟩ _); have ga3 := World.block_lt_of_cell? _ _ a3; obtain ⟨b3, b3'⟩ := spot_later hb3 (spot_alloc ⟨b2, b2'⟩ _); have gb3 := World.block_lt_of_cell? _ _ b3; obtain ⟨c3, c3'⟩ := spot_later hb3 (spot_new w2 cx cz); have gc3 := World.block_lt_of_cell? _ _ c3)
  go_upto_region 5 with (go_at_call 26; refine (CB.out _).mono ?_; rintro e w4 ⟨rfl, hb4⟩; obtain ⟨a4, a4'⟩ := spot_later hb4 ⟨a3, a3'⟩; have ga4 := World.block_lt_of_cell? _ _ a4; obtain ⟨b4, b4'⟩ := spot_later hb4 ⟨b3, b3'⟩; have gb4 := World.block_lt_of_cell? _ _ b4; obtain ⟨c4, c4'⟩ := spot_later hb4 ⟨c3, c3'⟩; have gc4 := World.block_lt_of_cell? _ _ c4)
  go_upto_region 6 with (go_at_call 26; refine (CC.out _).mono ?_; rintro e w5 ⟨rfl, hb5⟩)
  have hB5 : Below w.heap.size w w5 := by repeat' (first | assumption | exact Below.refl _ _ | (with_reducible refine Below.drew ?_) | (with_reducible refine ka ?_ _) | (refine kc ?_ (by assumption)))
  go_wp2
  go_ret
  exact ⟨rfl, hB5⟩

set_option maxRecDepth 100000 in
set_option maxHeartbeats 2000000 in
theorem tri_f (ax ay bx bz cx cz x y z g h : Int) (w : World)
    (cp : ∀ w, Calls Tryd.prog 25 #[.agg #[.int .i64 ax, .int .i64 ay], .agg #[.int .i64 bx, .int .i64 bz]] w fun e w' => e = .returned (.tuple #[.agg #[.int .i64 cx, .int .i64 cz], .int .i64 0]) ∧ Below w.heap.size w w')
    (ca : ∀ w, Calls Tryd.prog 26 #[.agg #[.int .i64 ax, .int .i64 ay], .int .i64 2] w fun e w' => e = .returned (.tuple #[.int .i64 x, .int .i64 4]) ∧ Below w.heap.size w w')
    (cb : ∀ w, Calls Tryd.prog 26 #[.agg #[.int .i64 bx, .int .i64 bz], .int .i64 2] w fun e w' => e = .returned (.tuple #[.int .i64 y, .int .i64 g]) ∧ Below w.heap.size w w')
    (cc : ∀ w, Calls Tryd.prog 26 #[.agg #[.int .i64 cx, .int .i64 cz], .int .i64 2] w fun e w' => e = .returned (.tuple #[.int .i64 z, .int .i64 h]) ∧ Below w.heap.size w w') :
    Calls Tryd.prog 7 #[.agg #[.int .i64 ax, .int .i64 ay], .agg #[.int .i64 bx, .int .i64 bz]] w fun e w' => e = .returned (.bool true) ∧ Below w.heap.size w w' := by
  have CP := Lib.hid cp
  have CA := Lib.hid ca
  have CB := Lib.hid cb
  have CC := Lib.hid cc
  have CX := Lib.hid (fun w => alive_any w)
  clear cp ca cb cc
  go_enter Tryd.func7, Tryd.ntmps7
  go_upto_region 2 with (go_at_call 9; refine (CX.out _).mono ?_; rintro e w1 ⟨rfl, hb1⟩; obtain ⟨a1, a1'⟩ := spot_later hb1 (spot_alloc (spot_new w ax ay) _); obtain ⟨b1, b1'⟩ : SpotAt w1 (w.heap.size + 1) bx bz := spot_later hb1 ⟨by simp [go_sem], by simp [go_sem]⟩; have ga1 := World.block_lt_of_cell? _ _ a1; have gb1 := World.block_lt_of_cell? _ _ b1)
  go_upto_region 3 with (go_at_call 25; refine (CP.out _).mono ?_; rintro e w2 ⟨rfl, hb2⟩; obtain ⟨a2, a2'⟩ := spot_later hb2 ⟨a1, a1'⟩; have ga2 := World.block_lt_of_cell? _ _ a2; obtain ⟨b2, b2'⟩ := spot_later hb2 ⟨b1, b1'⟩; have gb2 := World.block_lt_of_cell? _ _ b2)
  go_upto_region 4 with (go_at_call 26; refine (CA.out _).mono ?_; rintro e w3 ⟨rfl, hb3⟩; obtain ⟨a3, a3'⟩ := spot_later hb3 (spot_alloc ⟨a2, a2'⟩ _); have ga3 := World.block_lt_of_cell? _ _ a3; obtain ⟨b3, b3'⟩ := spot_later hb3 (spot_alloc ⟨b2, b2'⟩ _); have gb3 := World.block_lt_of_cell? _ _ b3; obtain ⟨c3, c3'⟩ := spot_later hb3 (spot_new w2 cx cz); have gc3 := World.block_lt_of_cell? _ _ c3)
  go_upto_region 5 with (go_at_call 26; refine (CB.out _).mono ?_; rintro e w4 ⟨rfl, hb4⟩; obtain ⟨a4, a4'⟩ := spot_later hb4 ⟨a3, a3'⟩; have ga4 := World.block_lt_of_cell? _ _ a4; obtain ⟨b4, b4'⟩ := spot_later hb4 ⟨b3, b3'⟩; have gb4 := World.block_lt_of_cell? _ _ b4; obtain ⟨c4, c4'⟩ := spot_later hb4 ⟨c3, c3'⟩; have gc4 := World.block_lt_of_cell? _ _ c4)
  go_upto_region 6 with (go_at_call 26; refine (CC.out _).mono ?_; rintro e w5 ⟨rfl, hb5⟩)
  have hB5 : Below w.heap.size w w5 := by repeat' (first | assumption | exact Below.refl _ _ | (with_reducible refine Below.drew ?_) | (with_reducible refine ka ?_ _) | (refine kc ?_ (by assumption)))
  go_wp2
  go_ret
  exact ⟨rfl, hB5⟩

set_option maxRecDepth 100000 in
set_option maxHeartbeats 2000000 in
theorem tri_g (ax ay bx bz cx cz x y z h : Int) (w : World)
    (cp : ∀ w, Calls Tryd.prog 25 #[.agg #[.int .i64 ax, .int .i64 ay], .agg #[.int .i64 bx, .int .i64 bz]] w fun e w' => e = .returned (.tuple #[.agg #[.int .i64 cx, .int .i64 cz], .int .i64 0]) ∧ Below w.heap.size w w')
    (ca : ∀ w, Calls Tryd.prog 26 #[.agg #[.int .i64 ax, .int .i64 ay], .int .i64 2] w fun e w' => e = .returned (.tuple #[.int .i64 x, .int .i64 0]) ∧ Below w.heap.size w w')
    (cb : ∀ w, Calls Tryd.prog 26 #[.agg #[.int .i64 bx, .int .i64 bz], .int .i64 2] w fun e w' => e = .returned (.tuple #[.int .i64 y, .int .i64 4]) ∧ Below w.heap.size w w')
    (cc : ∀ w, Calls Tryd.prog 26 #[.agg #[.int .i64 cx, .int .i64 cz], .int .i64 2] w fun e w' => e = .returned (.tuple #[.int .i64 z, .int .i64 h]) ∧ Below w.heap.size w w') :
    Calls Tryd.prog 7 #[.agg #[.int .i64 ax, .int .i64 ay], .agg #[.int .i64 bx, .int .i64 bz]] w fun e w' => e = .returned (.bool true) ∧ Below w.heap.size w w' := by
  have CP := Lib.hid cp
  have CA := Lib.hid ca
  have CB := Lib.hid cb
  have CC := Lib.hid cc
  have CX := Lib.hid (fun w => alive_any w)
  clear cp ca cb cc
  go_enter Tryd.func7, Tryd.ntmps7
  go_upto_region 2 with (go_at_call 9; refine (CX.out _).mono ?_; rintro e w1 ⟨rfl, hb1⟩; obtain ⟨a1, a1'⟩ := spot_later hb1 (spot_alloc (spot_new w ax ay) _); obtain ⟨b1, b1'⟩ : SpotAt w1 (w.heap.size + 1) bx bz := spot_later hb1 ⟨by simp [go_sem], by simp [go_sem]⟩; have ga1 := World.block_lt_of_cell? _ _ a1; have gb1 := World.block_lt_of_cell? _ _ b1)
  go_upto_region 3 with (go_at_call 25; refine (CP.out _).mono ?_; rintro e w2 ⟨rfl, hb2⟩; obtain ⟨a2, a2'⟩ := spot_later hb2 ⟨a1, a1'⟩; have ga2 := World.block_lt_of_cell? _ _ a2; obtain ⟨b2, b2'⟩ := spot_later hb2 ⟨b1, b1'⟩; have gb2 := World.block_lt_of_cell? _ _ b2)
  go_upto_region 4 with (go_at_call 26; refine (CA.out _).mono ?_; rintro e w3 ⟨rfl, hb3⟩; obtain ⟨a3, a3'⟩ := spot_later hb3 (spot_alloc ⟨a2, a2'⟩ _); have ga3 := World.block_lt_of_cell? _ _ a3; obtain ⟨b3, b3'⟩ := spot_later hb3 (spot_alloc ⟨b2, b2'⟩ _); have gb3 := World.block_lt_of_cell? _ _ b3; obtain ⟨c3, c3'⟩ := spot_later hb3 (spot_new w2 cx cz); have gc3 := World.block_lt_of_cell? _ _ c3)
  go_upto_region 5 with (go_at_call 26; refine (CB.out _).mono ?_; rintro e w4 ⟨rfl, hb4⟩; obtain ⟨a4, a4'⟩ := spot_later hb4 ⟨a3, a3'⟩; have ga4 := World.block_lt_of_cell? _ _ a4; obtain ⟨b4, b4'⟩ := spot_later hb4 ⟨b3, b3'⟩; have gb4 := World.block_lt_of_cell? _ _ b4; obtain ⟨c4, c4'⟩ := spot_later hb4 ⟨c3, c3'⟩; have gc4 := World.block_lt_of_cell? _ _ c4)
  go_upto_region 6 with (go_at_call 26; refine (CC.out _).mono ?_; rintro e w5 ⟨rfl, hb5⟩)
  have hB5 : Below w.heap.size w w5 := by repeat' (first | assumption | exact Below.refl _ _ | (with_reducible refine Below.drew ?_) | (with_reducible refine ka ?_ _) | (refine kc ?_ (by assumption)))
  go_wp2
  go_ret
  exact ⟨rfl, hB5⟩

set_option maxRecDepth 100000 in
set_option maxHeartbeats 2000000 in
theorem tri_h (ax ay bx bz cx cz x y z  : Int) (w : World)
    (cp : ∀ w, Calls Tryd.prog 25 #[.agg #[.int .i64 ax, .int .i64 ay], .agg #[.int .i64 bx, .int .i64 bz]] w fun e w' => e = .returned (.tuple #[.agg #[.int .i64 cx, .int .i64 cz], .int .i64 0]) ∧ Below w.heap.size w w')
    (ca : ∀ w, Calls Tryd.prog 26 #[.agg #[.int .i64 ax, .int .i64 ay], .int .i64 2] w fun e w' => e = .returned (.tuple #[.int .i64 x, .int .i64 0]) ∧ Below w.heap.size w w')
    (cb : ∀ w, Calls Tryd.prog 26 #[.agg #[.int .i64 bx, .int .i64 bz], .int .i64 2] w fun e w' => e = .returned (.tuple #[.int .i64 y, .int .i64 0]) ∧ Below w.heap.size w w')
    (cc : ∀ w, Calls Tryd.prog 26 #[.agg #[.int .i64 cx, .int .i64 cz], .int .i64 2] w fun e w' => e = .returned (.tuple #[.int .i64 z, .int .i64 4]) ∧ Below w.heap.size w w') :
    Calls Tryd.prog 7 #[.agg #[.int .i64 ax, .int .i64 ay], .agg #[.int .i64 bx, .int .i64 bz]] w fun e w' => e = .returned (.bool true) ∧ Below w.heap.size w w' := by
  have CP := Lib.hid cp
  have CA := Lib.hid ca
  have CB := Lib.hid cb
  have CC := Lib.hid cc
  have CX := Lib.hid (fun w => alive_any w)
  clear cp ca cb cc
  go_enter Tryd.func7, Tryd.ntmps7
  go_upto_region 2 with (go_at_call 9; refine (CX.out _).mono ?_; rintro e w1 ⟨rfl, hb1⟩; obtain ⟨a1, a1'⟩ := spot_later hb1 (spot_alloc (spot_new w ax ay) _); obtain ⟨b1, b1'⟩ : SpotAt w1 (w.heap.size + 1) bx bz := spot_later hb1 ⟨by simp [go_sem], by simp [go_sem]⟩; have ga1 := World.block_lt_of_cell? _ _ a1; have gb1 := World.block_lt_of_cell? _ _ b1)
  go_upto_region 3 with (go_at_call 25; refine (CP.out _).mono ?_; rintro e w2 ⟨rfl, hb2⟩; obtain ⟨a2, a2'⟩ := spot_later hb2 ⟨a1, a1'⟩; have ga2 := World.block_lt_of_cell? _ _ a2; obtain ⟨b2, b2'⟩ := spot_later hb2 ⟨b1, b1'⟩; have gb2 := World.block_lt_of_cell? _ _ b2)
  go_upto_region 4 with (go_at_call 26; refine (CA.out _).mono ?_; rintro e w3 ⟨rfl, hb3⟩; obtain ⟨a3, a3'⟩ := spot_later hb3 (spot_alloc ⟨a2, a2'⟩ _); have ga3 := World.block_lt_of_cell? _ _ a3; obtain ⟨b3, b3'⟩ := spot_later hb3 (spot_alloc ⟨b2, b2'⟩ _); have gb3 := World.block_lt_of_cell? _ _ b3; obtain ⟨c3, c3'⟩ := spot_later hb3 (spot_new w2 cx cz); have gc3 := World.block_lt_of_cell? _ _ c3)
  go_upto_region 5 with (go_at_call 26; refine (CB.out _).mono ?_; rintro e w4 ⟨rfl, hb4⟩; obtain ⟨a4, a4'⟩ := spot_later hb4 ⟨a3, a3'⟩; have ga4 := World.block_lt_of_cell? _ _ a4; obtain ⟨b4, b4'⟩ := spot_later hb4 ⟨b3, b3'⟩; have gb4 := World.block_lt_of_cell? _ _ b4; obtain ⟨c4, c4'⟩ := spot_later hb4 ⟨c3, c3'⟩; have gc4 := World.block_lt_of_cell? _ _ c4)
  go_upto_region 6 with (go_at_call 26; refine (CC.out _).mono ?_; rintro e w5 ⟨rfl, hb5⟩)
  have hB5 : Below w.heap.size w w5 := by repeat' (first | assumption | exact Below.refl _ _ | (with_reducible refine Below.drew ?_) | (with_reducible refine ka ?_ _) | (refine kc ?_ (by assumption)))
  go_wp2
  go_ret
  exact ⟨rfl, hB5⟩

theorem sq_left (x y : Int) : sqS (-y) x = sqS x y := by
  unfold sqS
  rw [Int.natAbs_neg, Nat.add_comm]

theorem length_val (x y how : Int) (hv : Vld x ∧ Vld y) (h0 : 0 ≤ how) (h1 : how ≤ 3) : lengthS x y how = if Vld (rootS how (sqS x y)) then (rootS how (sqS x y), 0) else (0, 4) := by
  unfold lengthS
  rw [if_pos ⟨hv, h0, h1⟩]

theorem cmp3_swap (a b : Int) : cmp3 b a = -cmp3 a b := by
  unfold cmp3
  rcases Int.lt_trichotomy a b with h | h | h
  · rw [if_neg (by omega), if_pos h, if_neg (by omega), if_neg (by omega)]; rfl
  · subst h; rw [if_pos rfl]; rfl
  · rw [if_neg (by omega), if_neg (by omega), if_neg (by omega), if_pos h]

theorem cmp3_bd (a b : Int) : -1 ≤ cmp3 a b ∧ cmp3 a b ≤ 1 := by
  unfold cmp3
  split
  · omega
  · split <;> omega

theorem own_pos {a b : Int} (h : ¬ a = 0 ∨ ¬ b = 0) : -(b * b) < a * a := by
  have h1 := sq_nonneg a
  have h2 := sq_nonneg b
  rcases h with h | h
  · have : a * a ≠ 0 := fun e => h (by rcases Int.mul_eq_zero.1 e with e | e <;> exact e)
    omega
  · have : b * b ≠ 0 := fun e => h (by rcases Int.mul_eq_zero.1 e with e | e <;> exact e)
    omega

theorem tri_any (ax ay bx bz : Int) (w : World) :
    Calls Tryd.prog 7 #[.agg #[.int .i64 ax, .int .i64 ay], .agg #[.int .i64 bx, .int .i64 bz]] w fun e w' => e = .returned (.bool true) ∧ Below w.heap.size w w' := by
  have cp := fun w => plus_spot ax ay bx bz w
  have ca := fun w => length_any ax ay 2 w
  have cb := fun w => length_any bx bz 2 w
  by_cases hv : Vld ax ∧ Vld ay ∧ Vld bx ∧ Vld bz
  · obtain ⟨v1, v2, v3, v4⟩ := hv
    by_cases hc : Vld (ax + bx) ∧ Vld (ay + bz)
    · have e : plusS ax ay bx bz = ((ax + bx, ay + bz), 0) := by unfold plusS; rw [if_pos ⟨v1, v2, v3, v4⟩, if_pos hc]
      rw [e] at cp
      have cc := fun w => length_any (ax + bx) (ay + bz) 2 w
      rw [length_val _ _ 2 ⟨v1, v2⟩ (by omega) (by omega)] at ca
      rw [length_val _ _ 2 ⟨v3, v4⟩ (by omega) (by omega)] at cb
      rw [length_val _ _ 2 hc (by omega) (by omega)] at cc
      by_cases fa : Vld (rootS 2 (sqS ax ay))
      · rw [if_pos fa] at ca
        by_cases fb : Vld (rootS 2 (sqS bx bz))
        · rw [if_pos fb] at cb
          by_cases fc : Vld (rootS 2 (sqS (ax + bx) (ay + bz)))
          · rw [if_pos fc] at cc
            obtain ⟨x0, x1, x2, x3, x4⟩ := root_up (sqS ax ay)
            have hd0 : 0 ≤ rootS 1 (sqS ax ay) := by rw [rootS_down]; omega
            have hd1 := isq_le (sqS ax ay)
            have fd : Vld (rootS 1 (sqS ax ay)) := by rw [rootS_down]; unfold Vld at fa ⊢; omega
            have htri := triangle ax ay bx bz
            have cl := fun w => left_ok ax ay w v1 v2
            have vm : Vld (-ay) := by unfold Vld at v2 ⊢; omega
            have cm := fun w => length_any (-ay) ax 2 w
            rw [length_val _ _ 2 ⟨vm, v1⟩ (by omega) (by omega), sq_left, if_pos fa] at cm
            have cd := fun w => length_any ax ay 1 w
            rw [length_val _ _ 1 ⟨v1, v2⟩ (by omega) (by omega), if_pos fd] at cd
            have ci := fun w => within_any ax ay (rootS 2 (sqS ax ay)) w
            have ei : withinS ax ay (rootS 2 (sqS ax ay)) = (true, 0) := by
              unfold withinS
              rw [if_pos ⟨v1, v2, fa⟩, decide_eq_true x0, Bool.true_and]
              show (decide (cmp3 ((sqS ax ay : Nat) : Int) (rootS 2 (sqS ax ay) * rootS 2 (sqS ax ay)) ≤ 0), (0 : Int)) = (true, 0)
              rw [decide_eq_true (cmp3_le x1)]
            rw [ei] at ci
            have cj := fun w => within_any ax ay (rootS 1 (sqS ax ay) - 1) w
            have ej : withinS ax ay (rootS 1 (sqS ax ay) - 1) = (false, 0) := by
              unfold withinS
              rw [if_pos ⟨v1, v2, by unfold Vld at fd ⊢; omega⟩]
              by_cases h0 : 0 ≤ rootS 1 (sqS ax ay) - 1
              · rw [decide_eq_true h0, Bool.true_and]
                have hlt : (rootS 1 (sqS ax ay) - 1) * (rootS 1 (sqS ax ay) - 1) < ((sqS ax ay : Nat) : Int) := by
                  rw [rootS_down] at h0 ⊢
                  obtain ⟨t, ht⟩ : ∃ t, isq (sqS ax ay) = t := ⟨_, rfl⟩
                  rw [ht] at h0 hd1 ⊢
                  have e5 : ((t : Int) - 1) * ((t : Int) - 1) = ((t * t : Nat) : Int) - t - t + 1 := by rw [Int.natCast_mul]; grind
                  rw [e5]
                  omega
                have : cmp3 ((sqS ax ay : Nat) : Int) ((rootS 1 (sqS ax ay) - 1) * (rootS 1 (sqS ax ay) - 1)) = 1 := cmp3_pos hlt
                show (decide (cmp3 ((sqS ax ay : Nat) : Int) ((rootS 1 (sqS ax ay) - 1) * (rootS 1 (sqS ax ay) - 1)) ≤ 0), (0 : Int)) = (false, 0)
                rw [this]
                rfl
              · rw [decide_eq_false h0, Bool.false_and]
            rw [ej] at cj
            have cf := fun w => farther_any ax ay (-ay) ax w
            have ef : fartherS ax ay (-ay) ax = (0, 0) := by
              unfold fartherS
              rw [if_pos ⟨v1, v2, vm, v1⟩, Int.natAbs_neg, Nat.add_comm (ay.natAbs * ay.natAbs)]
              unfold cmp3
              rw [if_pos rfl]
            rw [ef] at cf
            have ct := fun w => turn_any ax ay bx bz w
            have et : turnS ax ay bx bz = (cmp3 (ax * bz) (ay * bx), 0) := by unfold turnS; rw [if_pos ⟨v1, v2, v3, v4⟩]
            rw [et] at ct
            have cu := fun w => turn_any bx bz ax ay w
            have eu : turnS bx bz ax ay = (-cmp3 (ax * bz) (ay * bx), 0) := by
              unfold turnS
              rw [if_pos ⟨v3, v4, v1, v2⟩, Int.mul_comm bx ay, Int.mul_comm bz ax, cmp3_swap]
            rw [eu] at cu
            have co := fun w => turn_any ax ay (-ay) ax w
            have hs := cmp3_bd (ax * bz) (ay * bx)
            have k1 : wrap64 (rootS 1 (sqS ax ay) - 1) = rootS 1 (sqS ax ay) - 1 := by unfold Vld at fd; unfold wrap64; omega
            have k2 : wrap64 (rootS 2 (sqS ax ay) + rootS 2 (sqS bx bz)) = rootS 2 (sqS ax ay) + rootS 2 (sqS bx bz) := by unfold Vld at fa fb; unfold wrap64; omega
            have k4 : rootS 1 (sqS ax ay) ≤ rootS 2 (sqS ax ay) := by rw [rootS_down]; exact x3
            have k5 : wrap64 (rootS 1 (sqS ax ay) + 1) = rootS 1 (sqS ax ay) + 1 := by unfold Vld at fd; unfold wrap64; omega
            have k6 : rootS 2 (sqS ax ay) ≤ rootS 1 (sqS ax ay) + 1 := by rw [rootS_down]; exact x4
            have k7 : wrap64 (- -cmp3 (ax * bz) (ay * bx)) = cmp3 (ax * bz) (ay * bx) := by unfold wrap64; omega
            by_cases hx : ax = 0
            · by_cases hy : ay = 0
              · subst hx
                subst hy
                have eo : turnS 0 0 (-0) 0 = (0, 0) := by decide
                rw [eo] at co
                exact tri_walk_z _ _ _ _ _ _ _ _ _ _ _ w cp ca cb cc cl cm cd ci cj cf ct cu co k1 k2 htri k4 k5 k6 k7
              · have eo : turnS ax ay (-ay) ax = (1, 0) := by
                  unfold turnS
                  rw [if_pos ⟨v1, v2, vm, v1⟩, Int.mul_neg]
                  rw [cmp3_pos (own_pos (.inr hy))]
                rw [eo] at co
                subst hx
                exact tri_walk_y _ _ _ _ _ _ _ _ _ _ _ _ _ w cp ca cb cc cl cm cd ci cj cf ct cu co hy k1 k2 htri k4 k5 k6 k7
            · have eo : turnS ax ay (-ay) ax = (1, 0) := by
                unfold turnS
                rw [if_pos ⟨v1, v2, vm, v1⟩, Int.mul_neg]
                rw [cmp3_pos (own_pos (.inl hx))]
              rw [eo] at co
              exact tri_walk_x _ _ _ _ _ _ _ _ _ _ _ _ _ _ w cp ca cb cc cl cm cd ci cj cf ct cu co hx k1 k2 htri k4 k5 k6 k7
          · rw [if_neg fc] at cc
            exact tri_h _ _ _ _ _ _ _ _ _ w cp ca cb cc
        · rw [if_neg fb] at cb
          exact tri_g _ _ _ _ _ _ _ _ _ _ w cp ca cb cc
      · rw [if_neg fa] at ca
        exact tri_f _ _ _ _ _ _ _ _ _ _ _ w cp ca cb cc
    · have e : plusS ax ay bx bz = ((0, 0), 4) := by unfold plusS; rw [if_pos ⟨v1, v2, v3, v4⟩, if_neg hc]
      rw [e] at cp
      exact tri_e4 _ _ _ _ _ _ _ _ _ _ _ _ w cp ca cb (fun w => length_any 0 0 2 w)
  · have e : plusS ax ay bx bz = ((0, 0), 2) := by unfold plusS; rw [if_neg hv]
    rw [e] at cp
    exact tri_e2 _ _ _ _ _ _ _ _ _ _ _ _ w cp ca cb (fun w => length_any 0 0 2 w)

end Go.Proofs.YtkckaboilfakcaaDoor
