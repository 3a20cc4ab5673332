/- besomlaw01.FixedTriangle: the walk where nothing is refused. -/
import Derived.Test.YtkckaboilfakcaaDoorTri
import Derived.Test.YtkckaboilfakcaaDoorPlus
import Derived.Test.YtkckaboilfakcaaDoorTurn
import Derived.Test.YtkckaboilfakcaaDoorWithin
namespace Go.Proofs.YtkckaboilfakcaaDoor
open Go Go.RowKit

set_option maxRecDepth 100000 in
set_option maxHeartbeats 2000000 in
theorem tri_walk_x (ax ay bx bz cx cz my x y z d d1 s t : Int) (w : World)
    (cp : ∀ w, Calls Tryd.prog 25 #[.agg #[.int .i64 ax, .int .i64 ay], .agg #[.int .i64 bx, .int .i64 bz]] w fun e w' => e = .returned (.tuple #[.agg #[.int .i64 cx, .int .i64 cz], .int .i64 0]) ∧ Below w.heap.size w w')
    (ca : ∀ w, Calls Tryd.prog 26 #[.agg #[.int .i64 ax, .int .i64 ay], .int .i64 2] w fun e w' => e = .returned (.tuple #[.int .i64 x, .int .i64 0]) ∧ Below w.heap.size w w')
    (cb : ∀ w, Calls Tryd.prog 26 #[.agg #[.int .i64 bx, .int .i64 bz], .int .i64 2] w fun e w' => e = .returned (.tuple #[.int .i64 y, .int .i64 0]) ∧ Below w.heap.size w w')
    (cc : ∀ w, Calls Tryd.prog 26 #[.agg #[.int .i64 cx, .int .i64 cz], .int .i64 2] w fun e w' => e = .returned (.tuple #[.int .i64 z, .int .i64 0]) ∧ Below w.heap.size w w')
    (cl : ∀ w, Calls Tryd.prog 27 #[.agg #[.int .i64 ax, .int .i64 ay]] w fun e w' => e = .returned (.agg #[.int .i64 my, .int .i64 ax]) ∧ Below w.heap.size w w')
    (cm : ∀ w, Calls Tryd.prog 26 #[.agg #[.int .i64 my, .int .i64 ax], .int .i64 2] w fun e w' => e = .returned (.tuple #[.int .i64 x, .int .i64 0]) ∧ Below w.heap.size w w')
    (cd : ∀ w, Calls Tryd.prog 26 #[.agg #[.int .i64 ax, .int .i64 ay], .int .i64 1] w fun e w' => e = .returned (.tuple #[.int .i64 d, .int .i64 0]) ∧ Below w.heap.size w w')
    (ci : ∀ w, Calls Tryd.prog 28 #[.agg #[.int .i64 ax, .int .i64 ay], .int .i64 x] w fun e w' => e = .returned (.tuple #[.bool true, .int .i64 0]) ∧ Below w.heap.size w w')
    (cj : ∀ w, Calls Tryd.prog 28 #[.agg #[.int .i64 ax, .int .i64 ay], .int .i64 d1] w fun e w' => e = .returned (.tuple #[.bool false, .int .i64 0]) ∧ Below w.heap.size w w')
    (cf : ∀ w, Calls Tryd.prog 29 #[.agg #[.int .i64 ax, .int .i64 ay], .agg #[.int .i64 my, .int .i64 ax]] w fun e w' => e = .returned (.tuple #[.int .i64 0, .int .i64 0]) ∧ Below w.heap.size w w')
    (ct : ∀ w, Calls Tryd.prog 30 #[.agg #[.int .i64 ax, .int .i64 ay], .agg #[.int .i64 bx, .int .i64 bz]] w fun e w' => e = .returned (.tuple #[.int .i64 s, .int .i64 0]) ∧ Below w.heap.size w w')
    (cu : ∀ w, Calls Tryd.prog 30 #[.agg #[.int .i64 bx, .int .i64 bz], .agg #[.int .i64 ax, .int .i64 ay]] w fun e w' => e = .returned (.tuple #[.int .i64 t, .int .i64 0]) ∧ Below w.heap.size w w')
    (co : ∀ w, Calls Tryd.prog 30 #[.agg #[.int .i64 ax, .int .i64 ay], .agg #[.int .i64 my, .int .i64 ax]] w fun e w' => e = .returned (.tuple #[.int .i64 1, .int .i64 0]) ∧ Below w.heap.size w w')
    (hne : ¬ ax = 0) (k1 : wrap64 (d - 1) = d1) (k2 : wrap64 (x + y) = x + y) (k3 : z ≤ x + y) (k4 : d ≤ x) (k5 : wrap64 (d + 1) = d + 1) (k6 : x ≤ d + 1) (k7 : wrap64 (-t) = s) :
    Calls Tryd.prog 7 #[.agg #[.int .i64 ax, .int .i64 ay], .agg #[.int .i64 bx, .int .i64 bz]] w fun e w' => e = .returned (.bool true) ∧ Below w.heap.size w w' := by
  have CP := Lib.hid cp
  have CA := Lib.hid ca
  have CB := Lib.hid cb
  have CC := Lib.hid cc
  have CL := Lib.hid cl
  have CM := Lib.hid cm
  have CD := Lib.hid cd
  have CI := Lib.hid ci
  have CJ := Lib.hid cj
  have CF := Lib.hid cf
  have CT := Lib.hid ct
  have CU := Lib.hid cu
  have CO := Lib.hid co
  have CX := Lib.hid (fun w => alive_any w)
  clear cp ca cb cc cl cm cd ci cj cf ct cu co
  go_enter Tryd.func7, Tryd.ntmps7
  go_upto_region 2 with (go_at_call 9; refine (CX.out _).mono ?_; rintro e w1 ⟨rfl, hb1⟩; obtain ⟨a1, a1'⟩ := spot_later hb1 (spot_alloc (spot_new w ax ay) _); obtain ⟨b1, b1'⟩ : SpotAt w1 (w.heap.size + 1) bx bz := spot_later hb1 ⟨by simp [go_sem], by simp [go_sem]⟩; have ga1 := World.block_lt_of_cell? _ _ a1; have gb1 := World.block_lt_of_cell? _ _ b1)
  go_upto_region 3 with (go_at_call 25; refine (CP.out _).mono ?_; rintro e w2 ⟨rfl, hb2⟩; obtain ⟨a2, a2'⟩ := spot_later hb2 ⟨a1, a1'⟩; have ga2 := World.block_lt_of_cell? _ _ a2; obtain ⟨b2, b2'⟩ := spot_later hb2 ⟨b1, b1'⟩; have gb2 := World.block_lt_of_cell? _ _ b2)
  go_upto_region 4 with (go_at_call 26; refine (CA.out _).mono ?_; rintro e w3 ⟨rfl, hb3⟩; obtain ⟨a3, a3'⟩ := spot_later hb3 (spot_alloc ⟨a2, a2'⟩ _); have ga3 := World.block_lt_of_cell? _ _ a3; obtain ⟨b3, b3'⟩ := spot_later hb3 (spot_alloc ⟨b2, b2'⟩ _); have gb3 := World.block_lt_of_cell? _ _ b3; obtain ⟨c3, c3'⟩ := spot_later hb3 (spot_new w2 cx cz); have gc3 := World.block_lt_of_cell? _ _ c3)
  go_upto_region 5 with (go_at_call 26; refine (CB.out _).mono ?_; rintro e w4 ⟨rfl, hb4⟩; obtain ⟨a4, a4'⟩ := spot_later hb4 ⟨a3, a3'⟩; have ga4 := World.block_lt_of_cell? _ _ a4; obtain ⟨b4, b4'⟩ := spot_later hb4 ⟨b3, b3'⟩; have gb4 := World.block_lt_of_cell? _ _ b4; obtain ⟨c4, c4'⟩ := spot_later hb4 ⟨c3, c3'⟩; have gc4 := World.block_lt_of_cell? _ _ c4)
  go_upto_region 6 with (go_at_call 26; refine (CC.out _).mono ?_; rintro e w5 ⟨rfl, hb5⟩; obtain ⟨a5, a5'⟩ := spot_later hb5 ⟨a4, a4'⟩; have ga5 := World.block_lt_of_cell? _ _ a5; obtain ⟨b5, b5'⟩ := spot_later hb5 ⟨b4, b4'⟩; have gb5 := World.block_lt_of_cell? _ _ b5)
  go_upto_region 9 with (first | (go_at_call 27; refine (CL.out _).mono ?_; rintro e w6 ⟨rfl, hb6⟩; obtain ⟨a6, a6'⟩ := spot_later hb6 ⟨a5, a5'⟩; have ga6 := World.block_lt_of_cell? _ _ a6; obtain ⟨b6, b6'⟩ := spot_later hb6 ⟨b5, b5'⟩; have gb6 := World.block_lt_of_cell? _ _ b6) | (go_at_call 26; refine (CM.out _).mono ?_; rintro e w7 ⟨rfl, hb7⟩; obtain ⟨a7, a7'⟩ := spot_later hb7 ⟨a6, a6'⟩; have ga7 := World.block_lt_of_cell? _ _ a7; obtain ⟨b7, b7'⟩ := spot_later hb7 ⟨b6, b6'⟩; have gb7 := World.block_lt_of_cell? _ _ b7))
  go_upto_region 10 with (go_at_call 26; refine (CD.out _).mono ?_; rintro e w8 ⟨rfl, hb8⟩; obtain ⟨a8, a8'⟩ := spot_later hb8 ⟨a7, a7'⟩; have ga8 := World.block_lt_of_cell? _ _ a8; obtain ⟨b8, b8'⟩ := spot_later hb8 ⟨b7, b7'⟩; have gb8 := World.block_lt_of_cell? _ _ b8)
  go_upto_region 11 with (go_at_call 28; refine (CI.out _).mono ?_; rintro e w9 ⟨rfl, hb9⟩; obtain ⟨a9, a9'⟩ := spot_later hb9 ⟨a8, a8'⟩; have ga9 := World.block_lt_of_cell? _ _ a9; obtain ⟨b9, b9'⟩ := spot_later hb9 ⟨b8, b8'⟩; have gb9 := World.block_lt_of_cell? _ _ b9)
  go_upto_region 12 with (go_at_call 28; refine (CJ.out _).mono ?_; rintro e w10 ⟨rfl, hb10⟩; obtain ⟨a10, a10'⟩ := spot_later hb10 ⟨a9, a9'⟩; have ga10 := World.block_lt_of_cell? _ _ a10; obtain ⟨b10, b10'⟩ := spot_later hb10 ⟨b9, b9'⟩; have gb10 := World.block_lt_of_cell? _ _ b10)
  have hB10 : Below w.heap.size w w10 := by repeat' (first | assumption | exact Below.refl _ _ | (with_reducible refine Below.drew ?_) | (with_reducible refine ka ?_ _) | (refine kc ?_ (by assumption)))
  have HB := Lib.hid hB10
  clear hB10 hb1 hb2 hb3 hb4 hb5 hb6 hb7 hb8 hb9 hb10 a1 a1' ga1 b1 b1' gb1 a2 a2' ga2 b2 b2' gb2 a3 a3' ga3 b3 b3' gb3 a4 a4' ga4 b4 b4' gb4 a5 a5' ga5 b5 b5' gb5 a6 a6' ga6 b6 b6' gb6 a7 a7' ga7 b7 b7' gb7 a8 a8' ga8 b8 b8' gb8 a9 a9' ga9 b9 b9' gb9 c3 c3' gc3 c4 c4' gc4 CP CA CB CC CM CD CI CJ CX k1
  go_region_held3 (fun w' => w'.cell? ⟨w.heap.size, 0, none⟩ = some (.int .i64 ax) ∧ w'.cell? ⟨w.heap.size, 1, none⟩ = some (.int .i64 ay) ∧ w'.cell? ⟨w.heap.size + 1, 0, none⟩ = some (.int .i64 bx) ∧ w'.cell? ⟨w.heap.size + 1, 1, none⟩ = some (.int .i64 bz))
    (first | exact ⟨a10, a10', b10, b10'⟩ | exact ⟨a11, a11', b11, b11'⟩ | exact ⟨a12, a12', b12, b12'⟩)
    ((first | (go_at_call 27; refine (CL.out _).mono ?_; rintro e w11 ⟨rfl, hb11⟩; obtain ⟨a11, a11'⟩ := spot_later hb11 ⟨a10, a10'⟩; have ga11 := World.block_lt_of_cell? _ _ a11; obtain ⟨b11, b11'⟩ := spot_later hb11 ⟨b10, b10'⟩; have gb11 := World.block_lt_of_cell? _ _ b11) | (go_at_call 29; refine (CF.out _).mono ?_; rintro e w12 ⟨rfl, hb12⟩; obtain ⟨a12, a12'⟩ := spot_later hb12 ⟨a11, a11'⟩; have ga12 := World.block_lt_of_cell? _ _ a12; obtain ⟨b12, b12'⟩ := spot_later hb12 ⟨b11, b11'⟩; have gb12 := World.block_lt_of_cell? _ _ b12)))
  go_upto_region 14 with (go_at_call 30; refine (CT.out _).mono ?_; rintro e w13 ⟨rfl, hb13⟩; obtain ⟨a13, a13'⟩ := spot_later hb13 ⟨a12, a12'⟩; have ga13 := World.block_lt_of_cell? _ _ a13; obtain ⟨b13, b13'⟩ := spot_later hb13 ⟨b12, b12'⟩; have gb13 := World.block_lt_of_cell? _ _ b13)
  go_upto_region 15 with (go_at_call 30; refine (CU.out _).mono ?_; rintro e w14 ⟨rfl, hb14⟩; obtain ⟨a14, a14'⟩ := spot_later hb14 ⟨a13, a13'⟩; have ga14 := World.block_lt_of_cell? _ _ a14; obtain ⟨b14, b14'⟩ := spot_later hb14 ⟨b13, b13'⟩; have gb14 := World.block_lt_of_cell? _ _ b14)
  go_region_held3 (fun w' => w'.cell? ⟨w.heap.size, 0, none⟩ = some (.int .i64 ax) ∧ w'.cell? ⟨w.heap.size, 1, none⟩ = some (.int .i64 ay) ∧ w'.cell? ⟨w.heap.size + 1, 0, none⟩ = some (.int .i64 bx) ∧ w'.cell? ⟨w.heap.size + 1, 1, none⟩ = some (.int .i64 bz))
    (first | exact ⟨a14, a14', b14, b14'⟩ | exact ⟨a15, a15', b15, b15'⟩ | exact ⟨a16, a16', b16, b16'⟩)
    ((first | (go_at_call 27; refine (CL.out _).mono ?_; rintro e w15 ⟨rfl, hb15⟩; obtain ⟨a15, a15'⟩ := spot_later hb15 ⟨a14, a14'⟩; have ga15 := World.block_lt_of_cell? _ _ a15; obtain ⟨b15, b15'⟩ := spot_later hb15 ⟨b14, b14'⟩; have gb15 := World.block_lt_of_cell? _ _ b15) | (go_at_call 30; refine (CO.out _).mono ?_; rintro e w16 ⟨rfl, hb16⟩; obtain ⟨a16, a16'⟩ := spot_later hb16 ⟨a15, a15'⟩; have ga16 := World.block_lt_of_cell? _ _ a16; obtain ⟨b16, b16'⟩ := spot_later hb16 ⟨b15, b15'⟩; have gb16 := World.block_lt_of_cell? _ _ b16)))
  go_wp2
  go_ret
  exact ⟨rfl, kc (kc (kc (kc (kc (kc (Below.drew HB.out) hb11) hb12) hb13) (Below.drew hb14)) hb15) hb16⟩

set_option maxRecDepth 100000 in
set_option maxHeartbeats 2000000 in
theorem tri_walk_y (ay bx bz cx cz my x y z d d1 s t : Int) (w : World)
    (cp : ∀ w, Calls Tryd.prog 25 #[.agg #[.int .i64 0, .int .i64 ay], .agg #[.int .i64 bx, .int .i64 bz]] w fun e w' => e = .returned (.tuple #[.agg #[.int .i64 cx, .int .i64 cz], .int .i64 0]) ∧ Below w.heap.size w w')
    (ca : ∀ w, Calls Tryd.prog 26 #[.agg #[.int .i64 0, .int .i64 ay], .int .i64 2] w fun e w' => e = .returned (.tuple #[.int .i64 x, .int .i64 0]) ∧ Below w.heap.size w w')
    (cb : ∀ w, Calls Tryd.prog 26 #[.agg #[.int .i64 bx, .int .i64 bz], .int .i64 2] w fun e w' => e = .returned (.tuple #[.int .i64 y, .int .i64 0]) ∧ Below w.heap.size w w')
    (cc : ∀ w, Calls Tryd.prog 26 #[.agg #[.int .i64 cx, .int .i64 cz], .int .i64 2] w fun e w' => e = .returned (.tuple #[.int .i64 z, .int .i64 0]) ∧ Below w.heap.size w w')
    (cl : ∀ w, Calls Tryd.prog 27 #[.agg #[.int .i64 0, .int .i64 ay]] w fun e w' => e = .returned (.agg #[.int .i64 my, .int .i64 0]) ∧ Below w.heap.size w w')
    (cm : ∀ w, Calls Tryd.prog 26 #[.agg #[.int .i64 my, .int .i64 0], .int .i64 2] w fun e w' => e = .returned (.tuple #[.int .i64 x, .int .i64 0]) ∧ Below w.heap.size w w')
    (cd : ∀ w, Calls Tryd.prog 26 #[.agg #[.int .i64 0, .int .i64 ay], .int .i64 1] w fun e w' => e = .returned (.tuple #[.int .i64 d, .int .i64 0]) ∧ Below w.heap.size w w')
    (ci : ∀ w, Calls Tryd.prog 28 #[.agg #[.int .i64 0, .int .i64 ay], .int .i64 x] w fun e w' => e = .returned (.tuple #[.bool true, .int .i64 0]) ∧ Below w.heap.size w w')
    (cj : ∀ w, Calls Tryd.prog 28 #[.agg #[.int .i64 0, .int .i64 ay], .int .i64 d1] w fun e w' => e = .returned (.tuple #[.bool false, .int .i64 0]) ∧ Below w.heap.size w w')
    (cf : ∀ w, Calls Tryd.prog 29 #[.agg #[.int .i64 0, .int .i64 ay], .agg #[.int .i64 my, .int .i64 0]] w fun e w' => e = .returned (.tuple #[.int .i64 0, .int .i64 0]) ∧ Below w.heap.size w w')
    (ct : ∀ w, Calls Tryd.prog 30 #[.agg #[.int .i64 0, .int .i64 ay], .agg #[.int .i64 bx, .int .i64 bz]] w fun e w' => e = .returned (.tuple #[.int .i64 s, .int .i64 0]) ∧ Below w.heap.size w w')
    (cu : ∀ w, Calls Tryd.prog 30 #[.agg #[.int .i64 bx, .int .i64 bz], .agg #[.int .i64 0, .int .i64 ay]] w fun e w' => e = .returned (.tuple #[.int .i64 t, .int .i64 0]) ∧ Below w.heap.size w w')
    (co : ∀ w, Calls Tryd.prog 30 #[.agg #[.int .i64 0, .int .i64 ay], .agg #[.int .i64 my, .int .i64 0]] w fun e w' => e = .returned (.tuple #[.int .i64 1, .int .i64 0]) ∧ Below w.heap.size w w')
    (hne : ¬ ay = 0) (k1 : wrap64 (d - 1) = d1) (k2 : wrap64 (x + y) = x + y) (k3 : z ≤ x + y) (k4 : d ≤ x) (k5 : wrap64 (d + 1) = d + 1) (k6 : x ≤ d + 1) (k7 : wrap64 (-t) = s) :
    Calls Tryd.prog 7 #[.agg #[.int .i64 0, .int .i64 ay], .agg #[.int .i64 bx, .int .i64 bz]] w fun e w' => e = .returned (.bool true) ∧ Below w.heap.size w w' := by
  have CP := Lib.hid cp
  have CA := Lib.hid ca
  have CB := Lib.hid cb
  have CC := Lib.hid cc
  have CL := Lib.hid cl
  have CM := Lib.hid cm
  have CD := Lib.hid cd
  have CI := Lib.hid ci
  have CJ := Lib.hid cj
  have CF := Lib.hid cf
  have CT := Lib.hid ct
  have CU := Lib.hid cu
  have CO := Lib.hid co
  have CX := Lib.hid (fun w => alive_any w)
  clear cp ca cb cc cl cm cd ci cj cf ct cu co
  go_enter Tryd.func7, Tryd.ntmps7
  go_upto_region 2 with (go_at_call 9; refine (CX.out _).mono ?_; rintro e w1 ⟨rfl, hb1⟩; obtain ⟨a1, a1'⟩ := spot_later hb1 (spot_alloc (spot_new w 0 ay) _); obtain ⟨b1, b1'⟩ : SpotAt w1 (w.heap.size + 1) bx bz := spot_later hb1 ⟨by simp [go_sem], by simp [go_sem]⟩; have ga1 := World.block_lt_of_cell? _ _ a1; have gb1 := World.block_lt_of_cell? _ _ b1)
  go_upto_region 3 with (go_at_call 25; refine (CP.out _).mono ?_; rintro e w2 ⟨rfl, hb2⟩; obtain ⟨a2, a2'⟩ := spot_later hb2 ⟨a1, a1'⟩; have ga2 := World.block_lt_of_cell? _ _ a2; obtain ⟨b2, b2'⟩ := spot_later hb2 ⟨b1, b1'⟩; have gb2 := World.block_lt_of_cell? _ _ b2)
  go_upto_region 4 with (go_at_call 26; refine (CA.out _).mono ?_; rintro e w3 ⟨rfl, hb3⟩; obtain ⟨a3, a3'⟩ := spot_later hb3 (spot_alloc ⟨a2, a2'⟩ _); have ga3 := World.block_lt_of_cell? _ _ a3; obtain ⟨b3, b3'⟩ := spot_later hb3 (spot_alloc ⟨b2, b2'⟩ _); have gb3 := World.block_lt_of_cell? _ _ b3; obtain ⟨c3, c3'⟩ := spot_later hb3 (spot_new w2 cx cz); have gc3 := World.block_lt_of_cell? _ _ c3)
  go_upto_region 5 with (go_at_call 26; refine (CB.out _).mono ?_; rintro e w4 ⟨rfl, hb4⟩; obtain ⟨a4, a4'⟩ := spot_later hb4 ⟨a3, a3'⟩; have ga4 := World.block_lt_of_cell? _ _ a4; obtain ⟨b4, b4'⟩ := spot_later hb4 ⟨b3, b3'⟩; have gb4 := World.block_lt_of_cell? _ _ b4; obtain ⟨c4, c4'⟩ := spot_later hb4 ⟨c3, c3'⟩; have gc4 := World.block_lt_of_cell? _ _ c4)
  go_upto_region 6 with (go_at_call 26; refine (CC.out _).mono ?_; rintro e w5 ⟨rfl, hb5⟩; obtain ⟨a5, a5'⟩ := spot_later hb5 ⟨a4, a4'⟩; have ga5 := World.block_lt_of_cell? _ _ a5; obtain ⟨b5, b5'⟩ := spot_later hb5 ⟨b4, b4'⟩; have gb5 := World.block_lt_of_cell? _ _ b5)
  go_upto_region 9 with (first | (go_at_call 27; refine (CL.out _).mono ?_; rintro e w6 ⟨rfl, hb6⟩; obtain ⟨a6, a6'⟩ := spot_later hb6 ⟨a5, a5'⟩; have ga6 := World.block_lt_of_cell? _ _ a6; obtain ⟨b6, b6'⟩ := spot_later hb6 ⟨b5, b5'⟩; have gb6 := World.block_lt_of_cell? _ _ b6) | (go_at_call 26; refine (CM.out _).mono ?_; rintro e w7 ⟨rfl, hb7⟩; obtain ⟨a7, a7'⟩ := spot_later hb7 ⟨a6, a6'⟩; have ga7 := World.block_lt_of_cell? _ _ a7; obtain ⟨b7, b7'⟩ := spot_later hb7 ⟨b6, b6'⟩; have gb7 := World.block_lt_of_cell? _ _ b7))
  go_upto_region 10 with (go_at_call 26; refine (CD.out _).mono ?_; rintro e w8 ⟨rfl, hb8⟩; obtain ⟨a8, a8'⟩ := spot_later hb8 ⟨a7, a7'⟩; have ga8 := World.block_lt_of_cell? _ _ a8; obtain ⟨b8, b8'⟩ := spot_later hb8 ⟨b7, b7'⟩; have gb8 := World.block_lt_of_cell? _ _ b8)
  go_upto_region 11 with (go_at_call 28; refine (CI.out _).mono ?_; rintro e w9 ⟨rfl, hb9⟩; obtain ⟨a9, a9'⟩ := spot_later hb9 ⟨a8, a8'⟩; have ga9 := World.block_lt_of_cell? _ _ a9; obtain ⟨b9, b9'⟩ := spot_later hb9 ⟨b8, b8'⟩; have gb9 := World.block_lt_of_cell? _ _ b9)
  go_upto_region 12 with (go_at_call 28; refine (CJ.out _).mono ?_; rintro e w10 ⟨rfl, hb10⟩; obtain ⟨a10, a10'⟩ := spot_later hb10 ⟨a9, a9'⟩; have ga10 := World.block_lt_of_cell? _ _ a10; obtain ⟨b10, b10'⟩ := spot_later hb10 ⟨b9, b9'⟩; have gb10 := World.block_lt_of_cell? _ _ b10)
  have hB10 : Below w.heap.size w w10 := by repeat' (first | assumption | exact Below.refl _ _ | (with_reducible refine Below.drew ?_) | (with_reducible refine ka ?_ _) | (refine kc ?_ (by assumption)))
  have HB := Lib.hid hB10
  clear hB10 hb1 hb2 hb3 hb4 hb5 hb6 hb7 hb8 hb9 hb10 a1 a1' ga1 b1 b1' gb1 a2 a2' ga2 b2 b2' gb2 a3 a3' ga3 b3 b3' gb3 a4 a4' ga4 b4 b4' gb4 a5 a5' ga5 b5 b5' gb5 a6 a6' ga6 b6 b6' gb6 a7 a7' ga7 b7 b7' gb7 a8 a8' ga8 b8 b8' gb8 a9 a9' ga9 b9 b9' gb9 c3 c3' gc3 c4 c4' gc4 CP CA CB CC CM CD CI CJ CX k1
  go_region_held3 (fun w' => w'.cell? ⟨w.heap.size, 0, none⟩ = some (.int .i64 0) ∧ w'.cell? ⟨w.heap.size, 1, none⟩ = some (.int .i64 ay) ∧ w'.cell? ⟨w.heap.size + 1, 0, none⟩ = some (.int .i64 bx) ∧ w'.cell? ⟨w.heap.size + 1, 1, none⟩ = some (.int .i64 bz))
    (first | exact ⟨a10, a10', b10, b10'⟩ | exact ⟨a11, a11', b11, b11'⟩ | exact ⟨a12, a12', b12, b12'⟩)
    ((first | (go_at_call 27; refine (CL.out _).mono ?_; rintro e w11 ⟨rfl, hb11⟩; obtain ⟨a11, a11'⟩ := spot_later hb11 ⟨a10, a10'⟩; have ga11 := World.block_lt_of_cell? _ _ a11; obtain ⟨b11, b11'⟩ := spot_later hb11 ⟨b10, b10'⟩; have gb11 := World.block_lt_of_cell? _ _ b11) | (go_at_call 29; refine (CF.out _).mono ?_; rintro e w12 ⟨rfl, hb12⟩; obtain ⟨a12, a12'⟩ := spot_later hb12 ⟨a11, a11'⟩; have ga12 := World.block_lt_of_cell? _ _ a12; obtain ⟨b12, b12'⟩ := spot_later hb12 ⟨b11, b11'⟩; have gb12 := World.block_lt_of_cell? _ _ b12)))
  go_upto_region 14 with (go_at_call 30; refine (CT.out _).mono ?_; rintro e w13 ⟨rfl, hb13⟩; obtain ⟨a13, a13'⟩ := spot_later hb13 ⟨a12, a12'⟩; have ga13 := World.block_lt_of_cell? _ _ a13; obtain ⟨b13, b13'⟩ := spot_later hb13 ⟨b12, b12'⟩; have gb13 := World.block_lt_of_cell? _ _ b13)
  go_upto_region 15 with (go_at_call 30; refine (CU.out _).mono ?_; rintro e w14 ⟨rfl, hb14⟩; obtain ⟨a14, a14'⟩ := spot_later hb14 ⟨a13, a13'⟩; have ga14 := World.block_lt_of_cell? _ _ a14; obtain ⟨b14, b14'⟩ := spot_later hb14 ⟨b13, b13'⟩; have gb14 := World.block_lt_of_cell? _ _ b14)
  go_region_held3 (fun w' => w'.cell? ⟨w.heap.size, 0, none⟩ = some (.int .i64 0) ∧ w'.cell? ⟨w.heap.size, 1, none⟩ = some (.int .i64 ay) ∧ w'.cell? ⟨w.heap.size + 1, 0, none⟩ = some (.int .i64 bx) ∧ w'.cell? ⟨w.heap.size + 1, 1, none⟩ = some (.int .i64 bz))
    (first | exact ⟨a14, a14', b14, b14'⟩ | exact ⟨a15, a15', b15, b15'⟩ | exact ⟨a16, a16', b16, b16'⟩)
    ((first | (go_at_call 27; refine (CL.out _).mono ?_; rintro e w15 ⟨rfl, hb15⟩; obtain ⟨a15, a15'⟩ := spot_later hb15 ⟨a14, a14'⟩; have ga15 := World.block_lt_of_cell? _ _ a15; obtain ⟨b15, b15'⟩ := spot_later hb15 ⟨b14, b14'⟩; have gb15 := World.block_lt_of_cell? _ _ b15) | (go_at_call 30; refine (CO.out _).mono ?_; rintro e w16 ⟨rfl, hb16⟩; obtain ⟨a16, a16'⟩ := spot_later hb16 ⟨a15, a15'⟩; have ga16 := World.block_lt_of_cell? _ _ a16; obtain ⟨b16, b16'⟩ := spot_later hb16 ⟨b15, b15'⟩; have gb16 := World.block_lt_of_cell? _ _ b16)))
  go_wp2
  go_ret
  exact ⟨rfl, kc (kc (kc (kc (kc (kc (Below.drew HB.out) hb11) hb12) hb13) (Below.drew hb14)) hb15) hb16⟩

set_option maxRecDepth 100000 in
set_option maxHeartbeats 2000000 in
theorem tri_walk_z (bx bz cx cz x y z d d1 s t : Int) (w : World)
    (cp : ∀ w, Calls Tryd.prog 25 #[.agg #[.int .i64 0, .int .i64 0], .agg #[.int .i64 bx, .int .i64 bz]] w fun e w' => e = .returned (.tuple #[.agg #[.int .i64 cx, .int .i64 cz], .int .i64 0]) ∧ Below w.heap.size w w')
    (ca : ∀ w, Calls Tryd.prog 26 #[.agg #[.int .i64 0, .int .i64 0], .int .i64 2] w fun e w' => e = .returned (.tuple #[.int .i64 x, .int .i64 0]) ∧ Below w.heap.size w w')
    (cb : ∀ w, Calls Tryd.prog 26 #[.agg #[.int .i64 bx, .int .i64 bz], .int .i64 2] w fun e w' => e = .returned (.tuple #[.int .i64 y, .int .i64 0]) ∧ Below w.heap.size w w')
    (cc : ∀ w, Calls Tryd.prog 26 #[.agg #[.int .i64 cx, .int .i64 cz], .int .i64 2] w fun e w' => e = .returned (.tuple #[.int .i64 z, .int .i64 0]) ∧ Below w.heap.size w w')
    (cl : ∀ w, Calls Tryd.prog 27 #[.agg #[.int .i64 0, .int .i64 0]] w fun e w' => e = .returned (.agg #[.int .i64 0, .int .i64 0]) ∧ Below w.heap.size w w')
    (cm : ∀ w, Calls Tryd.prog 26 #[.agg #[.int .i64 0, .int .i64 0], .int .i64 2] w fun e w' => e = .returned (.tuple #[.int .i64 x, .int .i64 0]) ∧ Below w.heap.size w w')
    (cd : ∀ w, Calls Tryd.prog 26 #[.agg #[.int .i64 0, .int .i64 0], .int .i64 1] w fun e w' => e = .returned (.tuple #[.int .i64 d, .int .i64 0]) ∧ Below w.heap.size w w')
    (ci : ∀ w, Calls Tryd.prog 28 #[.agg #[.int .i64 0, .int .i64 0], .int .i64 x] w fun e w' => e = .returned (.tuple #[.bool true, .int .i64 0]) ∧ Below w.heap.size w w')
    (cj : ∀ w, Calls Tryd.prog 28 #[.agg #[.int .i64 0, .int .i64 0], .int .i64 d1] w fun e w' => e = .returned (.tuple #[.bool false, .int .i64 0]) ∧ Below w.heap.size w w')
    (cf : ∀ w, Calls Tryd.prog 29 #[.agg #[.int .i64 0, .int .i64 0], .agg #[.int .i64 0, .int .i64 0]] w fun e w' => e = .returned (.tuple #[.int .i64 0, .int .i64 0]) ∧ Below w.heap.size w w')
    (ct : ∀ w, Calls Tryd.prog 30 #[.agg #[.int .i64 0, .int .i64 0], .agg #[.int .i64 bx, .int .i64 bz]] w fun e w' => e = .returned (.tuple #[.int .i64 s, .int .i64 0]) ∧ Below w.heap.size w w')
    (cu : ∀ w, Calls Tryd.prog 30 #[.agg #[.int .i64 bx, .int .i64 bz], .agg #[.int .i64 0, .int .i64 0]] w fun e w' => e = .returned (.tuple #[.int .i64 t, .int .i64 0]) ∧ Below w.heap.size w w')
    (co : ∀ w, Calls Tryd.prog 30 #[.agg #[.int .i64 0, .int .i64 0], .agg #[.int .i64 0, .int .i64 0]] w fun e w' => e = .returned (.tuple #[.int .i64 0, .int .i64 0]) ∧ Below w.heap.size w w')
    (k1 : wrap64 (d - 1) = d1) (k2 : wrap64 (x + y) = x + y) (k3 : z ≤ x + y) (k4 : d ≤ x) (k5 : wrap64 (d + 1) = d + 1) (k6 : x ≤ d + 1) (k7 : wrap64 (-t) = s) :
    Calls Tryd.prog 7 #[.agg #[.int .i64 0, .int .i64 0], .agg #[.int .i64 bx, .int .i64 bz]] w fun e w' => e = .returned (.bool true) ∧ Below w.heap.size w w' := by
  have CP := Lib.hid cp
  have CA := Lib.hid ca
  have CB := Lib.hid cb
  have CC := Lib.hid cc
  have CL := Lib.hid cl
  have CM := Lib.hid cm
  have CD := Lib.hid cd
  have CI := Lib.hid ci
  have CJ := Lib.hid cj
  have CF := Lib.hid cf
  have CT := Lib.hid ct
  have CU := Lib.hid cu
  have CO := Lib.hid co
  have CX := Lib.hid (fun w => alive_any w)
  clear cp ca cb cc cl cm cd ci cj cf ct cu co
  go_enter Tryd.func7, Tryd.ntmps7
  go_upto_region 2 with (go_at_call 9; refine (CX.out _).mono ?_; rintro e w1 ⟨rfl, hb1⟩; obtain ⟨a1, a1'⟩ := spot_later hb1 (spot_alloc (spot_new w 0 0) _); obtain ⟨b1, b1'⟩ : SpotAt w1 (w.heap.size + 1) bx bz := spot_later hb1 ⟨by simp [go_sem], by simp [go_sem]⟩; have ga1 := World.block_lt_of_cell? _ _ a1; have gb1 := World.block_lt_of_cell? _ _ b1)
  go_upto_region 3 with (go_at_call 25; refine (CP.out _).mono ?_; rintro e w2 ⟨rfl, hb2⟩; obtain ⟨a2, a2'⟩ := spot_later hb2 ⟨a1, a1'⟩; have ga2 := World.block_lt_of_cell? _ _ a2; obtain ⟨b2, b2'⟩ := spot_later hb2 ⟨b1, b1'⟩; have gb2 := World.block_lt_of_cell? _ _ b2)
  go_upto_region 4 with (go_at_call 26; refine (CA.out _).mono ?_; rintro e w3 ⟨rfl, hb3⟩; obtain ⟨a3, a3'⟩ := spot_later hb3 (spot_alloc ⟨a2, a2'⟩ _); have ga3 := World.block_lt_of_cell? _ _ a3; obtain ⟨b3, b3'⟩ := spot_later hb3 (spot_alloc ⟨b2, b2'⟩ _); have gb3 := World.block_lt_of_cell? _ _ b3; obtain ⟨c3, c3'⟩ := spot_later hb3 (spot_new w2 cx cz); have gc3 := World.block_lt_of_cell? _ _ c3)
  go_upto_region 5 with (go_at_call 26; refine (CB.out _).mono ?_; rintro e w4 ⟨rfl, hb4⟩; obtain ⟨a4, a4'⟩ := spot_later hb4 ⟨a3, a3'⟩; have ga4 := World.block_lt_of_cell? _ _ a4; obtain ⟨b4, b4'⟩ := spot_later hb4 ⟨b3, b3'⟩; have gb4 := World.block_lt_of_cell? _ _ b4; obtain ⟨c4, c4'⟩ := spot_later hb4 ⟨c3, c3'⟩; have gc4 := World.block_lt_of_cell? _ _ c4)
  go_upto_region 6 with (go_at_call 26; refine (CC.out _).mono ?_; rintro e w5 ⟨rfl, hb5⟩; obtain ⟨a5, a5'⟩ := spot_later hb5 ⟨a4, a4'⟩; have ga5 := World.block_lt_of_cell? _ _ a5; obtain ⟨b5, b5'⟩ := spot_later hb5 ⟨b4, b4'⟩; have gb5 := World.block_lt_of_cell? _ _ b5)
  go_upto_region 9 with (first | (go_at_call 27; refine (CL.out _).mono ?_; rintro e w6 ⟨rfl, hb6⟩; obtain ⟨a6, a6'⟩ := spot_later hb6 ⟨a5, a5'⟩; have ga6 := World.block_lt_of_cell? _ _ a6; obtain ⟨b6, b6'⟩ := spot_later hb6 ⟨b5, b5'⟩; have gb6 := World.block_lt_of_cell? _ _ b6) | (go_at_call 26; refine (CM.out _).mono ?_; rintro e w7 ⟨rfl, hb7⟩; obtain ⟨a7, a7'⟩ := spot_later hb7 ⟨a6, a6'⟩; have ga7 := World.block_lt_of_cell? _ _ a7; obtain ⟨b7, b7'⟩ := spot_later hb7 ⟨b6, b6'⟩; have gb7 := World.block_lt_of_cell? _ _ b7))
  go_upto_region 10 with (go_at_call 26; refine (CD.out _).mono ?_; rintro e w8 ⟨rfl, hb8⟩; obtain ⟨a8, a8'⟩ := spot_later hb8 ⟨a7, a7'⟩; have ga8 := World.block_lt_of_cell? _ _ a8; obtain ⟨b8, b8'⟩ := spot_later hb8 ⟨b7, b7'⟩; have gb8 := World.block_lt_of_cell? _ _ b8)
  go_upto_region 11 with (go_at_call 28; refine (CI.out _).mono ?_; rintro e w9 ⟨rfl, hb9⟩; obtain ⟨a9, a9'⟩ := spot_later hb9 ⟨a8, a8'⟩; have ga9 := World.block_lt_of_cell? _ _ a9; obtain ⟨b9, b9'⟩ := spot_later hb9 ⟨b8, b8'⟩; have gb9 := World.block_lt_of_cell? _ _ b9)
  go_upto_region 12 with (go_at_call 28; refine (CJ.out _).mono ?_; rintro e w10 ⟨rfl, hb10⟩; obtain ⟨a10, a10'⟩ := spot_later hb10 ⟨a9, a9'⟩; have ga10 := World.block_lt_of_cell? _ _ a10; obtain ⟨b10, b10'⟩ := spot_later hb10 ⟨b9, b9'⟩; have gb10 := World.block_lt_of_cell? _ _ b10)
  have hB10 : Below w.heap.size w w10 := by repeat' (first | assumption | exact Below.refl _ _ | (with_reducible refine Below.drew ?_) | (with_reducible refine ka ?_ _) | (refine kc ?_ (by assumption)))
  have HB := Lib.hid hB10
  clear hB10 hb1 hb2 hb3 hb4 hb5 hb6 hb7 hb8 hb9 hb10 a1 a1' ga1 b1 b1' gb1 a2 a2' ga2 b2 b2' gb2 a3 a3' ga3 b3 b3' gb3 a4 a4' ga4 b4 b4' gb4 a5 a5' ga5 b5 b5' gb5 a6 a6' ga6 b6 b6' gb6 a7 a7' ga7 b7 b7' gb7 a8 a8' ga8 b8 b8' gb8 a9 a9' ga9 b9 b9' gb9 c3 c3' gc3 c4 c4' gc4 CP CA CB CC CM CD CI CJ CX k1
  go_region_held3 (fun w' => w'.cell? ⟨w.heap.size, 0, none⟩ = some (.int .i64 0) ∧ w'.cell? ⟨w.heap.size, 1, none⟩ = some (.int .i64 0) ∧ w'.cell? ⟨w.heap.size + 1, 0, none⟩ = some (.int .i64 bx) ∧ w'.cell? ⟨w.heap.size + 1, 1, none⟩ = some (.int .i64 bz))
    (first | exact ⟨a10, a10', b10, b10'⟩ | exact ⟨a11, a11', b11, b11'⟩ | exact ⟨a12, a12', b12, b12'⟩)
    ((first | (go_at_call 27; refine (CL.out _).mono ?_; rintro e w11 ⟨rfl, hb11⟩; obtain ⟨a11, a11'⟩ := spot_later hb11 ⟨a10, a10'⟩; have ga11 := World.block_lt_of_cell? _ _ a11; obtain ⟨b11, b11'⟩ := spot_later hb11 ⟨b10, b10'⟩; have gb11 := World.block_lt_of_cell? _ _ b11) | (go_at_call 29; refine (CF.out _).mono ?_; rintro e w12 ⟨rfl, hb12⟩; obtain ⟨a12, a12'⟩ := spot_later hb12 ⟨a11, a11'⟩; have ga12 := World.block_lt_of_cell? _ _ a12; obtain ⟨b12, b12'⟩ := spot_later hb12 ⟨b11, b11'⟩; have gb12 := World.block_lt_of_cell? _ _ b12)))
  go_upto_region 14 with (go_at_call 30; refine (CT.out _).mono ?_; rintro e w13 ⟨rfl, hb13⟩; obtain ⟨a13, a13'⟩ := spot_later hb13 ⟨a12, a12'⟩; have ga13 := World.block_lt_of_cell? _ _ a13; obtain ⟨b13, b13'⟩ := spot_later hb13 ⟨b12, b12'⟩; have gb13 := World.block_lt_of_cell? _ _ b13)
  go_upto_region 15 with (go_at_call 30; refine (CU.out _).mono ?_; rintro e w14 ⟨rfl, hb14⟩; obtain ⟨a14, a14'⟩ := spot_later hb14 ⟨a13, a13'⟩; have ga14 := World.block_lt_of_cell? _ _ a14; obtain ⟨b14, b14'⟩ := spot_later hb14 ⟨b13, b13'⟩; have gb14 := World.block_lt_of_cell? _ _ b14)
  go_region_held3 (fun w' => w'.cell? ⟨w.heap.size, 0, none⟩ = some (.int .i64 0) ∧ w'.cell? ⟨w.heap.size, 1, none⟩ = some (.int .i64 0) ∧ w'.cell? ⟨w.heap.size + 1, 0, none⟩ = some (.int .i64 bx) ∧ w'.cell? ⟨w.heap.size + 1, 1, none⟩ = some (.int .i64 bz))
    (first | exact ⟨a14, a14', b14, b14'⟩ | exact ⟨a15, a15', b15, b15'⟩ | exact ⟨a16, a16', b16, b16'⟩)
    ((first | (go_at_call 27; refine (CL.out _).mono ?_; rintro e w15 ⟨rfl, hb15⟩; obtain ⟨a15, a15'⟩ := spot_later hb15 ⟨a14, a14'⟩; have ga15 := World.block_lt_of_cell? _ _ a15; obtain ⟨b15, b15'⟩ := spot_later hb15 ⟨b14, b14'⟩; have gb15 := World.block_lt_of_cell? _ _ b15) | (go_at_call 30; refine (CO.out _).mono ?_; rintro e w16 ⟨rfl, hb16⟩; obtain ⟨a16, a16'⟩ := spot_later hb16 ⟨a15, a15'⟩; have ga16 := World.block_lt_of_cell? _ _ a16; obtain ⟨b16, b16'⟩ := spot_later hb16 ⟨b15, b15'⟩; have gb16 := World.block_lt_of_cell? _ _ b16)))
  go_wp2
  go_ret
  exact ⟨rfl, kc (kc (kc (kc (kc (kc (Below.drew HB.out) hb11) hb12) hb13) (Below.drew hb14)) hb15) hb16⟩

end Go.Proofs.YtkckaboilfakcaaDoor
