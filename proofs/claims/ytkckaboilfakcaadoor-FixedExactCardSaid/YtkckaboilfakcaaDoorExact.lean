/- besomlaw01.FixedExact: true, whatever the two numbers. -/
import Derived.Test.YtkckaboilfakcaaDoorAlive
import Derived.Test.YtkckaboilfakcaaDoorMul
import Derived.Test.YtkckaboilfakcaaDoorRnd
namespace Go.Proofs.YtkckaboilfakcaaDoor
open Go Go.RowKit

set_option maxRecDepth 100000 in
set_option maxHeartbeats 1000000 in
theorem exact_zero (x y a : Int) (w : World) (ha : x.tdiv 2 = a) (hb : y.tdiv 2 = 0) (wa : wrap64 a = a) (x0 : -2147483648 ≤ x) (x1 : x ≤ 2147483647) (y0 : -2147483648 ≤ y) (y1 : y ≤ 2147483647)
    (cm : ∀ w, Calls Tryd.prog 11 #[.int .i64 a, .int .i64 0, .int .i64 1] w fun e w' => e = .returned (.tuple #[.int .i64 0, .int .i64 0]) ∧ Below w.heap.size w w')
    (cd : ∀ w, Calls Tryd.prog 13 #[.int .i64 a, .int .i64 0, .int .i64 3] w fun e w' => e = .returned (.tuple #[.int .i64 0, .int .i64 10]) ∧ Below w.heap.size w w') :
    Calls Tryd.prog 4 #[.int .i32 x, .int .i32 y] w fun e w' => e = .returned (.bool true) ∧ Below w.heap.size w w' := by
  have CM := Lib.hid cm
  have CD := Lib.hid cd
  have CA := Lib.hid (fun w => alive_any w)
  clear cm cd
  go_enter Tryd.func4, Tryd.ntmps4
  go_wp2_with (first | (go_at_call 9; refine (CA.out _).mono ?_; rintro e w1 ⟨rfl, hb1⟩) | (go_at_call 11; refine (CM.out _).mono ?_; rintro e w2 ⟨rfl, hb2⟩) | (go_at_call 13; refine (CD.out _).mono ?_; rintro e w3 ⟨rfl, hb3⟩))
  go_ret
  exact ⟨rfl, kc (kc hb1 hb2) hb3⟩

set_option maxRecDepth 100000 in
set_option maxHeartbeats 1000000 in
theorem exact_range (x y a b p m1 m2 g q : Int) (w : World) (ha : x.tdiv 2 = a) (hb : y.tdiv 2 = b) (wa : wrap64 a = a) (wb : wrap64 b = b)
    (k1 : wrap64 (a * b) = m1) (k2 : wrap64 (p * 65536) = m2) (k3 : wrap64 (m1 - m2) = g) (g0 : 0 ≤ g) (g1 : g < 65536) (x0 : -2147483648 ≤ x) (x1 : x ≤ 2147483647) (y0 : -2147483648 ≤ y) (y1 : y ≤ 2147483647)
    (b0 : ¬ b = 0)
    (cm : ∀ w, Calls Tryd.prog 11 #[.int .i64 a, .int .i64 b, .int .i64 1] w fun e w' => e = .returned (.tuple #[.int .i64 p, .int .i64 0]) ∧ Below w.heap.size w w')
    (cd : ∀ w, Calls Tryd.prog 13 #[.int .i64 a, .int .i64 b, .int .i64 3] w fun e w' => e = .returned (.tuple #[.int .i64 q, .int .i64 4]) ∧ Below w.heap.size w w') :
    Calls Tryd.prog 4 #[.int .i32 x, .int .i32 y] w fun e w' => e = .returned (.bool true) ∧ Below w.heap.size w w' := by
  have CM := Lib.hid cm
  have CD := Lib.hid cd
  have CA := Lib.hid (fun w => alive_any w)
  clear cm cd
  go_enter Tryd.func4, Tryd.ntmps4
  go_wp2_with (first | (go_at_call 9; refine (CA.out _).mono ?_; rintro e w1 ⟨rfl, hb1⟩) | (go_at_call 11; refine (CM.out _).mono ?_; rintro e w2 ⟨rfl, hb2⟩) | (go_at_call 13; refine (CD.out _).mono ?_; rintro e w3 ⟨rfl, hb3⟩))
  go_ret
  exact ⟨rfl, kc (kc hb1 hb2) hb3⟩

set_option maxRecDepth 100000 in
set_option maxHeartbeats 1000000 in
theorem exact_neg (x y a b p m1 m2 g q r1 r2 rest sz rr ns : Int) (w : World) (ha : x.tdiv 2 = a) (hb : y.tdiv 2 = b) (wa : wrap64 a = a) (wb : wrap64 b = b)
    (k1 : wrap64 (a * b) = m1) (k2 : wrap64 (p * 65536) = m2) (k3 : wrap64 (m1 - m2) = g) (g0 : 0 ≤ g) (g1 : g < 65536) (x0 : -2147483648 ≤ x) (x1 : x ≤ 2147483647) (y0 : -2147483648 ≤ y) (y1 : y ≤ 2147483647)
    (b0 : ¬ b = 0) (bn : b < 0) (l1 : wrap64 (a * 65536) = r1) (l2 : wrap64 (q * b) = r2) (l3 : wrap64 (r1 - r2) = rest) (l4 : wrap64 (-b) = sz) (l5 : wrap64 (2 * rest) = rr) (l6 : wrap64 (-sz) = ns) (l7 : rr ≤ sz) (l8 : ns ≤ rr)
    (cm : ∀ w, Calls Tryd.prog 11 #[.int .i64 a, .int .i64 b, .int .i64 1] w fun e w' => e = .returned (.tuple #[.int .i64 p, .int .i64 0]) ∧ Below w.heap.size w w')
    (cd : ∀ w, Calls Tryd.prog 13 #[.int .i64 a, .int .i64 b, .int .i64 3] w fun e w' => e = .returned (.tuple #[.int .i64 q, .int .i64 0]) ∧ Below w.heap.size w w') :
    Calls Tryd.prog 4 #[.int .i32 x, .int .i32 y] w fun e w' => e = .returned (.bool true) ∧ Below w.heap.size w w' := by
  have CM := Lib.hid cm
  have CD := Lib.hid cd
  have CA := Lib.hid (fun w => alive_any w)
  clear cm cd
  go_enter Tryd.func4, Tryd.ntmps4
  go_wp2_with (first | (go_at_call 9; refine (CA.out _).mono ?_; rintro e w1 ⟨rfl, hb1⟩) | (go_at_call 11; refine (CM.out _).mono ?_; rintro e w2 ⟨rfl, hb2⟩) | (go_at_call 13; refine (CD.out _).mono ?_; rintro e w3 ⟨rfl, hb3⟩))
  go_ret
  exact ⟨rfl, kc (kc hb1 hb2) hb3⟩

set_option maxRecDepth 100000 in
set_option maxHeartbeats 1000000 in
theorem exact_pos (x y a b p m1 m2 g q r1 r2 rest rr ns : Int) (w : World) (ha : x.tdiv 2 = a) (hb : y.tdiv 2 = b) (wa : wrap64 a = a) (wb : wrap64 b = b)
    (k1 : wrap64 (a * b) = m1) (k2 : wrap64 (p * 65536) = m2) (k3 : wrap64 (m1 - m2) = g) (g0 : 0 ≤ g) (g1 : g < 65536) (x0 : -2147483648 ≤ x) (x1 : x ≤ 2147483647) (y0 : -2147483648 ≤ y) (y1 : y ≤ 2147483647)
    (b0 : ¬ b = 0) (bn : ¬ b < 0) (l1 : wrap64 (a * 65536) = r1) (l2 : wrap64 (q * b) = r2) (l3 : wrap64 (r1 - r2) = rest) (l5 : wrap64 (2 * rest) = rr) (l6 : wrap64 (-b) = ns) (l7 : rr ≤ b) (l8 : ns ≤ rr)
    (cm : ∀ w, Calls Tryd.prog 11 #[.int .i64 a, .int .i64 b, .int .i64 1] w fun e w' => e = .returned (.tuple #[.int .i64 p, .int .i64 0]) ∧ Below w.heap.size w w')
    (cd : ∀ w, Calls Tryd.prog 13 #[.int .i64 a, .int .i64 b, .int .i64 3] w fun e w' => e = .returned (.tuple #[.int .i64 q, .int .i64 0]) ∧ Below w.heap.size w w') :
    Calls Tryd.prog 4 #[.int .i32 x, .int .i32 y] w fun e w' => e = .returned (.bool true) ∧ Below w.heap.size w w' := by
  have CM := Lib.hid cm
  have CD := Lib.hid cd
  have CA := Lib.hid (fun w => alive_any w)
  clear cm cd
  go_enter Tryd.func4, Tryd.ntmps4
  go_wp2_with (first | (go_at_call 9; refine (CA.out _).mono ?_; rintro e w1 ⟨rfl, hb1⟩) | (go_at_call 11; refine (CM.out _).mono ?_; rintro e w2 ⟨rfl, hb2⟩) | (go_at_call 13; refine (CD.out _).mono ?_; rintro e w3 ⟨rfl, hb3⟩))
  go_ret
  exact ⟨rfl, kc (kc hb1 hb2) hb3⟩

theorem w64 (n : Int) (h0 : -9223372036854775808 ≤ n) (h1 : n ≤ 9223372036854775807) : wrap64 n = n := by
  unfold wrap64
  omega

theorem half_bd {x a : Int} (x0 : -2147483648 ≤ x) (x1 : x ≤ 2147483647) (ha : x.tdiv 2 = a) : -1073741824 ≤ a ∧ a ≤ 1073741824 := by
  subst ha
  rcases Int.le_total 0 x with h | h
  · have := Int.tdiv_eq_ediv_of_nonneg (b := 2) h
    omega
  · have : x.tdiv 2 = -((-x).tdiv 2) := by rw [Int.neg_tdiv]; omega
    have h2 := Int.tdiv_eq_ediv_of_nonneg (a := -x) (b := 2) (by omega)
    omega

theorem prod_bd {a b : Int} (a0 : -1073741824 ≤ a) (a1 : a ≤ 1073741824) (b0 : -1073741824 ≤ b) (b1 : b ≤ 1073741824) : -1152921504606846976 ≤ a * b ∧ a * b ≤ 1152921504606846976 := by
  have h : a.natAbs * b.natAbs ≤ 1073741824 * 1073741824 := Nat.mul_le_mul (by omega) (by omega)
  have e := Int.natAbs_mul a b
  omega

theorem exact_any (x y : Int) (w : World) (x0 : -2147483648 ≤ x) (x1 : x ≤ 2147483647) (y0 : -2147483648 ≤ y) (y1 : y ≤ 2147483647) :
    Calls Tryd.prog 4 #[.int .i32 x, .int .i32 y] w fun e w' => e = .returned (.bool true) ∧ Below w.heap.size w w' := by
  obtain ⟨a, ha⟩ : ∃ a, x.tdiv 2 = a := ⟨_, rfl⟩
  obtain ⟨b, hb⟩ : ∃ b, y.tdiv 2 = b := ⟨_, rfl⟩
  obtain ⟨a0, a1⟩ := half_bd x0 x1 ha
  obtain ⟨b0, b1⟩ := half_bd y0 y1 hb
  have va : Vld a := ⟨by omega, by omega⟩
  have vb : Vld b := ⟨by omega, by omega⟩
  obtain ⟨p0, p1⟩ := prod_bd a0 a1 b0 b1
  obtain ⟨d0, d1⟩ := rnd_down (a * b) 65536 (by omega)
  have vp : Vld (rnd 1 (a * b) 65536) := ⟨by omega, by omega⟩
  have hm : mulS a b 1 = (rnd 1 (a * b) 65536, 0) := by
    unfold mulS
    rw [if_pos ⟨⟨va, vb⟩, by omega, by omega⟩, if_pos vp]
  have cm := fun w => mul_any a b 1 w
  rw [hm] at cm
  have cd := fun w => div_any a b 3 w
  have hd : divS a b 3 = if b = 0 then (0, 10) else if Vld (rnd 3 (a * 65536) b) then (rnd 3 (a * 65536) b, 0) else (0, 4) := by
    unfold divS
    rw [if_pos ⟨⟨va, vb⟩, by omega, by omega⟩]
  rw [hd] at cd
  by_cases hb0 : b = 0
  · subst hb0
    rw [if_pos rfl] at cd
    have e : rnd 1 (a * 0) 65536 = 0 := by rw [Int.mul_zero]; rfl
    rw [e] at cm
    exact exact_zero x y a w ha hb (w64 _ (by omega) (by omega)) x0 x1 y0 y1 cm cd
  · rw [if_neg hb0] at cd
    obtain ⟨p, hp⟩ : ∃ p, rnd 1 (a * b) 65536 = p := ⟨_, rfl⟩
    rw [hp] at cm d0 d1 vp
    obtain ⟨m, hm1⟩ : ∃ m, a * b = m := ⟨_, rfl⟩
    rw [hm1] at p0 p1 d0 d1
    by_cases hv : Vld (rnd 3 (a * 65536) b)
    · rw [if_pos hv] at cd
      obtain ⟨n0, n1⟩ := rnd_near (a * 65536) b hb0
      obtain ⟨q, hq⟩ : ∃ q, rnd 3 (a * 65536) b = q := ⟨_, rfl⟩
      rw [hq] at cd n0 n1
      obtain ⟨r, hr⟩ : ∃ r, q * b = r := ⟨_, rfl⟩
      rw [hr] at n0 n1
      by_cases hn : b < 0
      · exact exact_neg x y a b p m (p * 65536) (m - p * 65536) q (a * 65536) r (a * 65536 - r) (-b) (2 * (a * 65536 - r)) (- -b) w ha hb (w64 _ (by omega) (by omega)) (w64 _ (by omega) (by omega))
          (by rw [hm1]; exact w64 _ (by omega) (by omega)) (w64 _ (by omega) (by omega)) (w64 _ (by omega) (by omega)) d0 d1 x0 x1 y0 y1 hb0 hn (w64 _ (by omega) (by omega)) (by rw [hr]; exact w64 _ (by omega) (by omega))
          (w64 _ (by omega) (by omega)) (w64 _ (by omega) (by omega)) (w64 _ (by omega) (by omega)) (w64 _ (by omega) (by omega)) (by omega) (by omega) cm cd
      · exact exact_pos x y a b p m (p * 65536) (m - p * 65536) q (a * 65536) r (a * 65536 - r) (2 * (a * 65536 - r)) (-b) w ha hb (w64 _ (by omega) (by omega)) (w64 _ (by omega) (by omega))
          (by rw [hm1]; exact w64 _ (by omega) (by omega)) (w64 _ (by omega) (by omega)) (w64 _ (by omega) (by omega)) d0 d1 x0 x1 y0 y1 hb0 hn (w64 _ (by omega) (by omega)) (by rw [hr]; exact w64 _ (by omega) (by omega))
          (w64 _ (by omega) (by omega)) (w64 _ (by omega) (by omega)) (w64 _ (by omega) (by omega)) (by omega) (by omega) cm cd
    · rw [if_neg hv] at cd
      exact exact_range x y a b p m (p * 65536) (m - p * 65536) 0 w ha hb (w64 _ (by omega) (by omega)) (w64 _ (by omega) (by omega))
          (by rw [hm1]; exact w64 _ (by omega) (by omega)) (w64 _ (by omega) (by omega)) (w64 _ (by omega) (by omega)) d0 d1 x0 x1 y0 y1 hb0 cm cd

end Go.Proofs.YtkckaboilfakcaaDoor
