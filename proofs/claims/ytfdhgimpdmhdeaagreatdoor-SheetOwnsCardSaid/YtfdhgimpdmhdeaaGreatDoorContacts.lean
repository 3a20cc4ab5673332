/- Package sheet's OnCentre and Contact, and the document's own. -/
import Derived.Test.YtfdhgimpdmhdeaaGreatDoorPlaces
namespace Go.Proofs.YtfdhgimpdmhdeaaGreatDoor
open Go Go.RowKit

/-- How two stones lie whose places differ by so much. -/
def conS (x y : Int) : Int := if inB 19005440 x y = true then (if x * x + y * y < 361206749593600 then -1 else if x * x + y * y = 361206749593600 then 0 else 1) else 1
def contS (ax ay bx bz : Int) : Int × Int := if Plc ax ay ∧ Plc bx bz then (conS (ax - bx) (ay - bz), 0) else (0, 2)

theorem way_new (w : World) (a b c d x y : Int) :
    SpotAt (((w.alloc (.cells #[.int .i64 a, .int .i64 b] 37)).alloc (.cells #[.int .i64 c, .int .i64 d] 37)).alloc (.cells #[.int .i64 x, .int .i64 y] 37)) (w.heap.size + 1 + 1) x y :=
  ⟨by simp [go_sem], by simp [go_sem]⟩

set_option maxRecDepth 100000 in
set_option maxHeartbeats 1000000 in
theorem contact_far (ax ay bx bz x y : Int) (w : World) (hx : ax - bx = x) (hy : ay - bz = y) (b0 : -20000000000 ≤ x ∧ x ≤ 20000000000) (b1 : -20000000000 ≤ y ∧ y ≤ 20000000000)
    (CW : Hid (∀ w, Calls Tryz.prog 49 #[.agg #[.int .i64 x, .int .i64 y], .int .i64 19005440] w fun e w' => e = .returned (.bool false) ∧ Below w.heap.size w w')) :
    Calls Tryz.prog 35 #[.agg #[.int .i64 ax, .int .i64 ay], .agg #[.int .i64 bx, .int .i64 bz]] w fun e w' => e = .returned (.int .i64 1) ∧ Below w.heap.size w w' := by
  go_enter Tryz.func35, Tryz.ntmps35
  go_wp2_with (first | (go_at_call 49; refine (CW.out _).mono ?_; rintro e w1 ⟨rfl, hb1⟩; have HB1 := Lib.hid hb1; clear hb1))
  go_ret
  have q1 := HB1.out
  exact ⟨rfl, by repeat' (first | assumption | exact Below.refl _ _ | (with_reducible refine Below.drew ?_) | (with_reducible refine ka ?_ _) | (refine kc ?_ (by assumption)))⟩

set_option maxRecDepth 100000 in
set_option maxHeartbeats 1000000 in
theorem contact_near (ax ay bx bz x y q : Int) (w : World) (hx : ax - bx = x) (hy : ay - bz = y) (b0 : -20000000000 ≤ x ∧ x ≤ 20000000000) (b1 : -20000000000 ≤ y ∧ y ≤ 20000000000)
    (CW : Hid (∀ w, Calls Tryz.prog 49 #[.agg #[.int .i64 x, .int .i64 y], .int .i64 19005440] w fun e w' => e = .returned (.bool true) ∧ Below w.heap.size w w'))
    (CQ : Hid (∀ w, Calls Tryz.prog 24 #[.agg #[.int .i64 x, .int .i64 y]] w fun e w' => e = .returned (.int .i64 q) ∧ Below w.heap.size w w')) :
    Calls Tryz.prog 35 #[.agg #[.int .i64 ax, .int .i64 ay], .agg #[.int .i64 bx, .int .i64 bz]] w fun e w' => e = .returned (.int .i64 (if q < 361206749593600 then -1 else if q = 361206749593600 then 0 else 1)) ∧ Below w.heap.size w w' := by
  by_cases h1 : q < 361206749593600
  · go_enter Tryz.func35, Tryz.ntmps35
    go_wp2_with (first | (go_at_call 49; refine (CW.out _).mono ?_; rintro e w1 ⟨rfl, hb1⟩; obtain ⟨cx1, cy1⟩ := spot_later hb1 (way_new w ax ay bx bz x y); have cg1 := World.block_lt_of_cell? _ _ cx1; have HB1 := Lib.hid hb1; clear hb1) | (go_at_call 24; refine (CQ.out _).mono ?_; rintro e w2 ⟨rfl, hb2⟩; have HB2 := Lib.hid hb2; clear hb2))
    go_ret
    have q1 := HB1.out
    have q2 := HB2.out
    exact ⟨by first | rfl | rw [if_pos h1], by repeat' (first | assumption | exact Below.refl _ _ | (with_reducible refine Below.drew ?_) | (with_reducible refine ka ?_ _) | (refine kc ?_ (by assumption)))⟩
  · by_cases h2 : q = 361206749593600
    all_goals
      go_enter Tryz.func35, Tryz.ntmps35
      go_wp2_with (first | (go_at_call 49; refine (CW.out _).mono ?_; rintro e w1 ⟨rfl, hb1⟩; obtain ⟨cx1, cy1⟩ := spot_later hb1 (way_new w ax ay bx bz x y); have cg1 := World.block_lt_of_cell? _ _ cx1; have HB1 := Lib.hid hb1; clear hb1) | (go_at_call 24; refine (CQ.out _).mono ?_; rintro e w2 ⟨rfl, hb2⟩; have HB2 := Lib.hid hb2; clear hb2))
      go_ret
      have q1 := HB1.out
      have q2 := HB2.out
      exact ⟨by simp [h1, h2], by repeat' (first | assumption | exact Below.refl _ _ | (with_reducible refine Below.drew ?_) | (with_reducible refine ka ?_ _) | (refine kc ?_ (by assumption)))⟩

theorem contact_any (ax ay bx bz : Int) (w : World) (ha : Plc ax ay) (hb : Plc bx bz) :
    Calls Tryz.prog 35 #[.agg #[.int .i64 ax, .int .i64 ay], .agg #[.int .i64 bx, .int .i64 bz]] w fun e w' => e = .returned (.int .i64 (conS (ax - bx) (ay - bz))) ∧ Below w.heap.size w w' := by
  have CW := fun w => isWithin_any (ax - bx) (ay - bz) 19005440 (-19005440) w (by decide) rfl
  unfold Plc at ha hb
  unfold conS
  cases h : inB 19005440 (ax - bx) (ay - bz)
  · rw [h] at CW
    exact contact_far ax ay bx bz _ _ w rfl rfl (by omega) (by omega) CW
  · rw [h] at CW
    rw [if_pos rfl]
    have h' := h
    unfold inB at h'
    simp at h'
    obtain ⟨p0, p1⟩ := sq_small (x := ax - bx) (by omega) (by omega)
    obtain ⟨q0, q1⟩ := sq_small (x := ay - bz) (by omega) (by omega)
    exact contact_near ax ay bx bz _ _ _ w rfl rfl (by omega) (by omega) CW (fun w => square_sh _ _ _ _ w rfl rfl p0 p1 q0 q1)

set_option maxRecDepth 100000 in
set_option maxHeartbeats 1000000 in
theorem refContact_in (ax ay bx bz x y s t p q n : Int) (w : World) (hx : ax - bx = x) (hy : ay - bz = y) (b0 : -20000000000 ≤ x ∧ x ≤ 20000000000) (b1 : -20000000000 ≤ y ∧ y ≤ 20000000000) (hs : max x (-x) = s) (ht : max y (-y) = t) (s0 : 0 ≤ s) (t0 : 0 ≤ t)
    (hp : s * s = p) (hq : t * t = q) (p0 : 0 ≤ p) (q0 : 0 ≤ q) (p1 : s ≤ 19005440 → p ≤ 361206749593600) (q1 : t ≤ 19005440 → q ≤ 361206749593600)
    (hn : (n = 1 ∧ (19005440 < s ∨ (s ≤ 19005440 ∧ 19005440 < t) ∨ (s ≤ 19005440 ∧ t ≤ 19005440 ∧ 361206749593600 < p + q))) ∨ (n = 0 ∧ s ≤ 19005440 ∧ t ≤ 19005440 ∧ p + q = 361206749593600) ∨ (n = -1 ∧ s ≤ 19005440 ∧ t ≤ 19005440 ∧ p + q < 361206749593600))
    (CZ : Hid (∀ n w, -9223372036854775807 ≤ n → n ≤ 9223372036854775807 → Calls Tryz.prog 62 #[.int .i64 n] w fun e w' => e = .returned (.int .i64 (max n (-n))) ∧ w = w')) :
    Calls Tryz.prog 63 #[.agg #[.int .i64 ax, .int .i64 ay], .agg #[.int .i64 bx, .int .i64 bz]] w fun e w' => e = .returned (.int .i64 n) ∧ Below w.heap.size w w' := by
  obtain ⟨W0, hW0⟩ : ∃ W0, (w.alloc (.cells #[.int .i64 ax, .int .i64 ay] 37)).alloc (.cells #[.int .i64 bx, .int .i64 bz] 37) = W0 := ⟨_, rfl⟩
  have hS : W0.cell? ⟨w.heap.size, 0, none⟩ = some (.int .i64 ax) ∧ W0.cell? ⟨w.heap.size, 1, none⟩ = some (.int .i64 ay) ∧ W0.cell? ⟨w.heap.size + 1, 0, none⟩ = some (.int .i64 bx) ∧ W0.cell? ⟨w.heap.size + 1, 1, none⟩ = some (.int .i64 bz) := by
    rw [← hW0]
    exact ⟨(spot_new2 w ax ay bx bz).1.1, (spot_new2 w ax ay bx bz).1.2, (spot_new2 w ax ay bx bz).2.1, (spot_new2 w ax ay bx bz).2.2⟩
  have Wx : IntKind.i64.wrap x = x := by rw [IntKind.wrap_i64]; omega
  have Wy : IntKind.i64.wrap y = y := by rw [IntKind.wrap_i64]; omega
  have HB : Hid (Below w.heap.size w W0) := by show Below _ _ _; rw [← hW0]; exact ka (ka (Below.refl _ _) _) _
  rcases hn with ⟨rfl, h | ⟨h1, h⟩ | ⟨h1, h2, h3⟩⟩ | ⟨rfl, h1, h2, h3⟩ | ⟨rfl, h1, h2, h3⟩
  · clear p1 q1
    go_enter Tryz.func63, Tryz.ntmps63
    go_wp2_with fail
    try rw [hW0]
    go_region_held3 (fun w' => w'.cell? ⟨w.heap.size, 0, none⟩ = some (.int .i64 ax) ∧ w'.cell? ⟨w.heap.size, 1, none⟩ = some (.int .i64 ay) ∧ w'.cell? ⟨w.heap.size + 1, 0, none⟩ = some (.int .i64 bx) ∧ w'.cell? ⟨w.heap.size + 1, 1, none⟩ = some (.int .i64 bz))
      (exact hS)
      (first | (go_at_call 62; refine (CZ.out _ _ (by omega) (by omega)).mono ?_; rintro e w' ⟨rfl, rfl⟩))
    go_wp2_with fail
    go_ret
    exact ⟨rfl, HB.out.drew⟩
  · clear p1 q1
    go_enter Tryz.func63, Tryz.ntmps63
    go_wp2_with fail
    try rw [hW0]
    go_region_held3 (fun w' => w'.cell? ⟨w.heap.size, 0, none⟩ = some (.int .i64 ax) ∧ w'.cell? ⟨w.heap.size, 1, none⟩ = some (.int .i64 ay) ∧ w'.cell? ⟨w.heap.size + 1, 0, none⟩ = some (.int .i64 bx) ∧ w'.cell? ⟨w.heap.size + 1, 1, none⟩ = some (.int .i64 bz))
      (exact hS)
      (first | (go_at_call 62; refine (CZ.out _ _ (by omega) (by omega)).mono ?_; rintro e w' ⟨rfl, rfl⟩))
    go_wp2_with fail
    go_ret
    exact ⟨rfl, HB.out.drew⟩
  all_goals
    have p2 := p1 h1
    have q2 := q1 h2
    clear p1 q1
    obtain ⟨d, hd⟩ : ∃ d, p + q - 361206749593600 = d := ⟨_, rfl⟩
    have hdb : -9000000000000000 ≤ d ∧ d ≤ 9000000000000000 := by omega
  · have hd1 : ¬ d < 0 := by omega
    have hd2 : (d == 0) = false := beq_eq_false_iff_ne.2 (by omega)
    clear h3
    go_enter Tryz.func63, Tryz.ntmps63
    go_wp2_with fail
    try rw [hW0]
    go_region_held3 (fun w' => w'.cell? ⟨w.heap.size, 0, none⟩ = some (.int .i64 ax) ∧ w'.cell? ⟨w.heap.size, 1, none⟩ = some (.int .i64 ay) ∧ w'.cell? ⟨w.heap.size + 1, 0, none⟩ = some (.int .i64 bx) ∧ w'.cell? ⟨w.heap.size + 1, 1, none⟩ = some (.int .i64 bz))
      (exact hS)
      (first | (go_at_call 62; refine (CZ.out _ _ (by omega) (by omega)).mono ?_; rintro e w' ⟨rfl, rfl⟩))
    go_wp2_with fail
    go_ret
    exact ⟨rfl, HB.out.drew⟩
  · have hd0 : d = 0 := by omega
    clear h3
    go_enter Tryz.func63, Tryz.ntmps63
    go_wp2_with fail
    try rw [hW0]
    go_region_held3 (fun w' => w'.cell? ⟨w.heap.size, 0, none⟩ = some (.int .i64 ax) ∧ w'.cell? ⟨w.heap.size, 1, none⟩ = some (.int .i64 ay) ∧ w'.cell? ⟨w.heap.size + 1, 0, none⟩ = some (.int .i64 bx) ∧ w'.cell? ⟨w.heap.size + 1, 1, none⟩ = some (.int .i64 bz))
      (exact hS)
      (first | (go_at_call 62; refine (CZ.out _ _ (by omega) (by omega)).mono ?_; rintro e w' ⟨rfl, rfl⟩))
    go_wp2_with fail
    go_ret
    exact ⟨rfl, HB.out.drew⟩
  · have hd1 : d < 0 := by omega
    clear h3
    go_enter Tryz.func63, Tryz.ntmps63
    go_wp2_with fail
    try rw [hW0]
    go_region_held3 (fun w' => w'.cell? ⟨w.heap.size, 0, none⟩ = some (.int .i64 ax) ∧ w'.cell? ⟨w.heap.size, 1, none⟩ = some (.int .i64 ay) ∧ w'.cell? ⟨w.heap.size + 1, 0, none⟩ = some (.int .i64 bx) ∧ w'.cell? ⟨w.heap.size + 1, 1, none⟩ = some (.int .i64 bz))
      (exact hS)
      (first | (go_at_call 62; refine (CZ.out _ _ (by omega) (by omega)).mono ?_; rintro e w' ⟨rfl, rfl⟩))
    go_wp2_with fail
    go_ret
    exact ⟨rfl, HB.out.drew⟩

theorem max_sq (x s : Int) (h : max x (-x) = s) : 0 ≤ s ∧ s * s = x * x ∧ (s ≤ 19005440 → s * s ≤ 361206749593600) ∧ 0 ≤ s * s := by
  have hs : s = (x.natAbs : Int) := by omega
  have e : s * s = x * x := by rw [hs]; exact Int.natAbs_mul_self' x
  have e2 : ((x.natAbs * x.natAbs : Nat) : Int) = (x.natAbs : Int) * (x.natAbs : Int) := Int.natCast_mul ..
  refine ⟨by omega, e, fun h2 => ?_, by rw [hs, ← e2]; omega⟩
  have h3 := Nat.mul_le_mul (show x.natAbs ≤ 19005440 by omega) (show x.natAbs ≤ 19005440 by omega)
  rw [hs, ← e2]
  omega

theorem refContact_one (ax ay bx bz : Int) (w : World) (ha : Plc ax ay) (hb : Plc bx bz) :
    Calls Tryz.prog 63 #[.agg #[.int .i64 ax, .int .i64 ay], .agg #[.int .i64 bx, .int .i64 bz]] w fun e w' => e = .returned (.int .i64 (conS (ax - bx) (ay - bz))) ∧ Below w.heap.size w w' := by
  unfold Plc at ha hb
  obtain ⟨s0, s1, s2, s3⟩ := max_sq (ax - bx) _ rfl
  obtain ⟨t0, t1, t2, t3⟩ := max_sq (ay - bz) _ rfl
  obtain ⟨s, hs⟩ : ∃ s, max (ax - bx) (-(ax - bx)) = s := ⟨_, rfl⟩
  obtain ⟨t, ht⟩ : ∃ t, max (ay - bz) (-(ay - bz)) = t := ⟨_, rfl⟩
  rw [hs] at s0 s1 s2 s3
  rw [ht] at t0 t1 t2 t3
  obtain ⟨p, hp⟩ : ∃ p, s * s = p := ⟨_, rfl⟩
  obtain ⟨q, hq⟩ : ∃ q, t * t = q := ⟨_, rfl⟩
  rw [hp] at s1 s2 s3
  rw [hq] at t1 t2 t3
  refine refContact_in ax ay bx bz _ _ s t p q _ w rfl rfl (by omega) (by omega) hs ht s0 t0 hp hq s3 t3 s2 t2 ?_ (fun n w h0 h1 => refSize_sh n w h0 h1)
  unfold conS
  rw [← s1, ← t1]
  by_cases hb' : s ≤ 19005440 ∧ t ≤ 19005440
  · have hin : inB 19005440 (ax - bx) (ay - bz) = true := by
      unfold inB
      simp
      omega
    rw [if_pos hin]
    by_cases h1 : p + q < 361206749593600
    · rw [if_pos h1]; omega
    · rw [if_neg h1]
      by_cases h2 : p + q = 361206749593600
      · rw [if_pos h2]; omega
      · rw [if_neg h2]; omega
  · have hin : ¬ inB 19005440 (ax - bx) (ay - bz) = true := by
      unfold inB
      simp
      omega
    rw [if_neg hin]
    omega

set_option maxRecDepth 100000 in
set_option maxHeartbeats 1000000 in
theorem sheetContact_ok (ax ay bx bz n : Int) (V : Int → Int → Bool) (w : World) (h1 : V ax ay = true) (h2 : V bx bz = true)
    (CK : Hid (∀ x y w, Calls Tryz.prog 33 #[.agg #[.int .i64 x, .int .i64 y]] w fun e w' => e = .returned (.bool (V x y)) ∧ Below w.heap.size w w'))
    (CC : Hid (∀ w, Calls Tryz.prog 35 #[.agg #[.int .i64 ax, .int .i64 ay], .agg #[.int .i64 bx, .int .i64 bz]] w fun e w' => e = .returned (.int .i64 n) ∧ Below w.heap.size w w')) :
    Calls Tryz.prog 16 #[.agg #[.int .i64 ax, .int .i64 ay], .agg #[.int .i64 bx, .int .i64 bz]] w fun e w' => e = .returned (.tuple #[.int .i64 n, .int .i64 0]) ∧ Below w.heap.size w w' := by
  go_enter Tryz.func16, Tryz.ntmps16
  go_wp2_with (first | (go_at_call 33; have HM := HB1; refine (CK.out _ _ _).mono ?_; clear HM; rintro e w2 ⟨rfl, hb2⟩; obtain ⟨ax2, ay2⟩ := spot_later hb2 ⟨ax1, ay1⟩; have ag2 := World.block_lt_of_cell? _ _ ax2; obtain ⟨bx2, by2⟩ := spot_later hb2 ⟨bx1, by1⟩; have bg2 := World.block_lt_of_cell? _ _ bx2; have HB2 := Lib.hid hb2; clear hb2) | (go_at_call 33; refine (CK.out _ _ _).mono ?_; rintro e w1 ⟨rfl, hb1⟩; obtain ⟨ax1, ay1⟩ := spot_later hb1 (spot_new2 w ax ay bx bz).1; have ag1 := World.block_lt_of_cell? _ _ ax1; obtain ⟨bx1, by1⟩ := spot_later hb1 (spot_new2 w ax ay bx bz).2; have bg1 := World.block_lt_of_cell? _ _ bx1; have HB1 := Lib.hid hb1; clear hb1) | (go_at_call 35; refine (CC.out _).mono ?_; rintro e w3 ⟨rfl, hb3⟩; have HB3 := Lib.hid hb3; clear hb3))
  go_ret2
  have q1 := HB1.out
  have q2 := HB2.out
  have q3 := HB3.out
  exact ⟨rfl, by repeat' (first | assumption | exact Below.refl _ _ | (with_reducible refine Below.drew ?_) | (with_reducible refine ka ?_ _) | (refine kc ?_ (by assumption)))⟩

set_option maxRecDepth 100000 in
set_option maxHeartbeats 1000000 in
theorem sheetContact_bad1 (ax ay bx bz : Int) (V : Int → Int → Bool) (w : World) (h1 : V ax ay = false)
    (CK : Hid (∀ x y w, Calls Tryz.prog 33 #[.agg #[.int .i64 x, .int .i64 y]] w fun e w' => e = .returned (.bool (V x y)) ∧ Below w.heap.size w w')) :
    Calls Tryz.prog 16 #[.agg #[.int .i64 ax, .int .i64 ay], .agg #[.int .i64 bx, .int .i64 bz]] w fun e w' => e = .returned (.tuple #[.int .i64 0, .int .i64 2]) ∧ Below w.heap.size w w' := by
  go_enter Tryz.func16, Tryz.ntmps16
  go_wp2_with (first | (go_at_call 33; have HM := HB1; refine (CK.out _ _ _).mono ?_; clear HM; rintro e w2 ⟨rfl, hb2⟩; obtain ⟨ax2, ay2⟩ := spot_later hb2 ⟨ax1, ay1⟩; have ag2 := World.block_lt_of_cell? _ _ ax2; obtain ⟨bx2, by2⟩ := spot_later hb2 ⟨bx1, by1⟩; have bg2 := World.block_lt_of_cell? _ _ bx2; have HB2 := Lib.hid hb2; clear hb2) | (go_at_call 33; refine (CK.out _ _ _).mono ?_; rintro e w1 ⟨rfl, hb1⟩; obtain ⟨ax1, ay1⟩ := spot_later hb1 (spot_new2 w ax ay bx bz).1; have ag1 := World.block_lt_of_cell? _ _ ax1; obtain ⟨bx1, by1⟩ := spot_later hb1 (spot_new2 w ax ay bx bz).2; have bg1 := World.block_lt_of_cell? _ _ bx1; have HB1 := Lib.hid hb1; clear hb1))
  go_ret2
  have q1 := HB1.out
  exact ⟨rfl, by repeat' (first | assumption | exact Below.refl _ _ | (with_reducible refine Below.drew ?_) | (with_reducible refine ka ?_ _) | (refine kc ?_ (by assumption)))⟩

set_option maxRecDepth 100000 in
set_option maxHeartbeats 1000000 in
theorem sheetContact_bad2 (ax ay bx bz : Int) (V : Int → Int → Bool) (w : World) (h1 : V ax ay = true) (h2 : V bx bz = false)
    (CK : Hid (∀ x y w, Calls Tryz.prog 33 #[.agg #[.int .i64 x, .int .i64 y]] w fun e w' => e = .returned (.bool (V x y)) ∧ Below w.heap.size w w')) :
    Calls Tryz.prog 16 #[.agg #[.int .i64 ax, .int .i64 ay], .agg #[.int .i64 bx, .int .i64 bz]] w fun e w' => e = .returned (.tuple #[.int .i64 0, .int .i64 2]) ∧ Below w.heap.size w w' := by
  go_enter Tryz.func16, Tryz.ntmps16
  go_wp2_with (first | (go_at_call 33; have HM := HB1; refine (CK.out _ _ _).mono ?_; clear HM; rintro e w2 ⟨rfl, hb2⟩; obtain ⟨ax2, ay2⟩ := spot_later hb2 ⟨ax1, ay1⟩; have ag2 := World.block_lt_of_cell? _ _ ax2; obtain ⟨bx2, by2⟩ := spot_later hb2 ⟨bx1, by1⟩; have bg2 := World.block_lt_of_cell? _ _ bx2; have HB2 := Lib.hid hb2; clear hb2) | (go_at_call 33; refine (CK.out _ _ _).mono ?_; rintro e w1 ⟨rfl, hb1⟩; obtain ⟨ax1, ay1⟩ := spot_later hb1 (spot_new2 w ax ay bx bz).1; have ag1 := World.block_lt_of_cell? _ _ ax1; obtain ⟨bx1, by1⟩ := spot_later hb1 (spot_new2 w ax ay bx bz).2; have bg1 := World.block_lt_of_cell? _ _ bx1; have HB1 := Lib.hid hb1; clear hb1))
  go_ret2
  have q1 := HB1.out
  have q2 := HB2.out
  exact ⟨rfl, by repeat' (first | assumption | exact Below.refl _ _ | (with_reducible refine Below.drew ?_) | (with_reducible refine ka ?_ _) | (refine kc ?_ (by assumption)))⟩

theorem sheetContact_all (ax ay bx bz : Int) (w : World) :
    Calls Tryz.prog 16 #[.agg #[.int .i64 ax, .int .i64 ay], .agg #[.int .i64 bx, .int .i64 bz]] w fun e w' => e = .returned (.tuple #[.int .i64 (contS ax ay bx bz).1, .int .i64 (contS ax ay bx bz).2]) ∧ Below w.heap.size w w' := by
  have CK := fun x y w => checkSpot_any x y w
  unfold contS
  by_cases ha : Plc ax ay
  · by_cases hb : Plc bx bz
    · rw [if_pos ⟨ha, hb⟩]
      exact sheetContact_ok ax ay bx bz _ (fun x y => decide (Plc x y)) w (decide_eq_true ha) (decide_eq_true hb) CK (fun w => contact_any ax ay bx bz w ha hb)
    · rw [if_neg (fun h => hb h.2)]
      exact sheetContact_bad2 ax ay bx bz (fun x y => decide (Plc x y)) w (decide_eq_true ha) (decide_eq_false hb) CK
  · rw [if_neg (fun h => ha h.1)]
    exact sheetContact_bad1 ax ay bx bz (fun x y => decide (Plc x y)) w (decide_eq_false ha) CK

theorem contS_swap (ax ay bx bz : Int) : contS bx bz ax ay = contS ax ay bx bz := by
  unfold contS
  by_cases h : Plc ax ay ∧ Plc bx bz
  · rw [if_pos h, if_pos ⟨h.2, h.1⟩]
    unfold conS
    have e1 : (bx - ax) * (bx - ax) = (ax - bx) * (ax - bx) := by rw [← Int.neg_sub ax bx, Int.neg_mul_neg]
    have e2 : (bz - ay) * (bz - ay) = (ay - bz) * (ay - bz) := by rw [← Int.neg_sub ay bz, Int.neg_mul_neg]
    have e3 : inB 19005440 (bx - ax) (bz - ay) = inB 19005440 (ax - bx) (ay - bz) := by
      unfold inB
      rw [Bool.eq_iff_iff]
      simp
      omega
    rw [e1, e2, e3]
  · rw [if_neg h, if_neg (fun h' => h ⟨h'.2, h'.1⟩)]

end Go.Proofs.YtfdhgimpdmhdeaaGreatDoor
