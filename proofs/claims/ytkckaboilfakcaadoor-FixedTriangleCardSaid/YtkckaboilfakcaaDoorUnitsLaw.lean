/- besomlaw01.FixedUnits: true, whatever the spot. -/
import Derived.Test.YtkckaboilfakcaaDoorAlive
import Derived.Test.YtkckaboilfakcaaDoorLength
import Derived.Test.YtkckaboilfakcaaDoorLeft
namespace Go.Proofs.YtkckaboilfakcaaDoor
open Go Go.RowKit

/-- A spot in a box that is there. -/
def SpotAt (W : World) (b : Nat) (x y : Int) : Prop := W.cell? ⟨b, 0, none⟩ = some (.int .i64 x) ∧ W.cell? ⟨b, 1, none⟩ = some (.int .i64 y)
theorem spot_later {W W' : World} {b : Nat} {x y : Int} (hb : Below W.heap.size W W') (h : SpotAt W b x y) : SpotAt W' b x y := ⟨cell_later hb h.1, cell_later hb h.2⟩
theorem spot_alloc {W : World} {b : Nat} {x y : Int} (h : SpotAt W b x y) (o : Obj) : SpotAt (W.alloc o) b x y := ⟨alloc_cell h.1, alloc_cell h.2⟩
theorem spot_new (W : World) (x y : Int) : SpotAt (W.alloc (.cells #[.int .i64 x, .int .i64 y] 44)) W.heap.size x y := ⟨by simp [go_sem], by simp [go_sem]⟩

set_option maxRecDepth 100000 in
set_option maxHeartbeats 1000000 in
theorem units_err (x y f : Int) (w : World) (hf : f = 2 ∨ (f = 10 ∧ x = 0 ∧ y = 0))
    (cu : ∀ w, Calls Tryd.prog 31 #[.agg #[.int .i64 x, .int .i64 y]] w fun e w' => e = .returned (.tuple #[.agg #[.int .i64 0, .int .i64 0], .int .i64 f]) ∧ Below w.heap.size w w') :
    Calls Tryd.prog 8 #[.agg #[.int .i64 x, .int .i64 y]] w fun e w' => e = .returned (.bool true) ∧ Below w.heap.size w w' := by
  have CU := Lib.hid cu
  have CA := Lib.hid (fun w => alive_any w)
  clear cu
  rcases hf with rfl | ⟨rfl, rfl, rfl⟩
  all_goals
    go_enter Tryd.func8, Tryd.ntmps8
    go_wp2_with (first | (go_at_call 9; refine (CA.out _).mono ?_; rintro e w1 ⟨rfl, hb1⟩; obtain ⟨c0, c1⟩ := spot_later hb1 (spot_new w _ _); have gc := World.block_lt_of_cell? _ _ c0) | (go_at_call 31; refine (CU.out _).mono ?_; rintro e w2 ⟨rfl, hb2⟩; obtain ⟨d0, d1⟩ := spot_later hb2 ⟨c0, c1⟩; have gd := World.block_lt_of_cell? _ _ d0))
    go_ret
    exact ⟨rfl, by repeat' (first | assumption | exact Below.refl _ _ | (with_reducible refine Below.drew ?_) | (with_reducible refine ka ?_ _) | (refine kc ?_ (by assumption)))⟩

set_option maxRecDepth 100000 in
set_option maxHeartbeats 2000000 in
theorem units_walk (x y X Y n k mx my P Q : Int) (w : World) (W1 : wrap64 (-x) = mx) (W2 : wrap64 (-y) = my) (W3 : wrap64 (-X) = P) (W4 : wrap64 (-Y) = Q) (hn : n ≤ 65536) (hk : 65532 < k)
    (cu : ∀ w, Calls Tryd.prog 31 #[.agg #[.int .i64 x, .int .i64 y]] w fun e w' => e = .returned (.tuple #[.agg #[.int .i64 X, .int .i64 Y], .int .i64 0]) ∧ Below w.heap.size w w')
    (cl : ∀ w, Calls Tryd.prog 27 #[.agg #[.int .i64 x, .int .i64 y]] w fun e w' => e = .returned (.agg #[.int .i64 my, .int .i64 x]) ∧ Below w.heap.size w w')
    (cv : ∀ w, Calls Tryd.prog 31 #[.agg #[.int .i64 my, .int .i64 x]] w fun e w' => e = .returned (.tuple #[.agg #[.int .i64 Q, .int .i64 X], .int .i64 0]) ∧ Below w.heap.size w w')
    (cz : ∀ w, Calls Tryd.prog 31 #[.agg #[.int .i64 mx, .int .i64 my]] w fun e w' => e = .returned (.tuple #[.agg #[.int .i64 P, .int .i64 Q], .int .i64 0]) ∧ Below w.heap.size w w')
    (cn : ∀ w, Calls Tryd.prog 26 #[.agg #[.int .i64 X, .int .i64 Y], .int .i64 2] w fun e w' => e = .returned (.tuple #[.int .i64 n, .int .i64 0]) ∧ Below w.heap.size w w')
    (ck : ∀ w, Calls Tryd.prog 26 #[.agg #[.int .i64 X, .int .i64 Y], .int .i64 1] w fun e w' => e = .returned (.tuple #[.int .i64 k, .int .i64 0]) ∧ Below w.heap.size w w')
    (cm : ∀ w, Calls Tryd.prog 27 #[.agg #[.int .i64 X, .int .i64 Y]] w fun e w' => e = .returned (.agg #[.int .i64 Q, .int .i64 X]) ∧ Below w.heap.size w w') :
    Calls Tryd.prog 8 #[.agg #[.int .i64 x, .int .i64 y]] w fun e w' => e = .returned (.bool true) ∧ Below w.heap.size w w' := by
  have CU := Lib.hid cu
  have CL := Lib.hid cl
  have CV := Lib.hid cv
  have CZ := Lib.hid cz
  have CN := Lib.hid cn
  have CK := Lib.hid ck
  have CM := Lib.hid cm
  have CA := Lib.hid (fun w => alive_any w)
  clear cu cl cv cz cn ck cm
  go_enter Tryd.func8, Tryd.ntmps8
  go_upto_region 9 with (first
    | (go_at_call 9; refine (CA.out _).mono ?_; rintro e w1 ⟨rfl, hb1⟩; obtain ⟨a0, a1⟩ := spot_later hb1 (spot_new w x y); have ga := World.block_lt_of_cell? _ _ a0)
    | (go_at_call_of 31 (Value.agg #[.int .i64 x, .int .i64 y]); refine (CU.out _).mono ?_; rintro e w2 ⟨rfl, hb2⟩; obtain ⟨b0, b1⟩ := spot_later hb2 ⟨a0, a1⟩; have gb := World.block_lt_of_cell? _ _ b0)
    | (go_at_call_of 27 (Value.agg #[.int .i64 x, .int .i64 y]); refine (CL.out _).mono ?_; rintro e w3 ⟨rfl, hb3⟩; obtain ⟨c0, c1⟩ := spot_later hb3 (spot_alloc ⟨b0, b1⟩ _); have gc := World.block_lt_of_cell? _ _ c0; obtain ⟨u0, u1⟩ := spot_later hb3 (spot_new w2 X Y); have gu := World.block_lt_of_cell? _ _ u0)
    | (go_at_call_of 31 (Value.agg #[.int .i64 my, .int .i64 x]); refine (CV.out _).mono ?_; rintro e w4 ⟨rfl, hb4⟩; obtain ⟨d0, d1⟩ := spot_later hb4 ⟨c0, c1⟩; have gd := World.block_lt_of_cell? _ _ d0; obtain ⟨v0, v1⟩ := spot_later hb4 ⟨u0, u1⟩; have gv := World.block_lt_of_cell? _ _ v0)
    | (go_at_call_of 31 (Value.agg #[.int .i64 mx, .int .i64 my]); refine (CZ.out _).mono ?_; rintro e w5 ⟨rfl, hb5⟩; obtain ⟨x0, x1⟩ := spot_later hb5 (spot_alloc ⟨v0, v1⟩ _); have gx := World.block_lt_of_cell? _ _ x0; obtain ⟨l0, l1⟩ := spot_later hb5 (spot_new w4 Q X); have gl := World.block_lt_of_cell? _ _ l0)
    | (go_at_call_of 26 (Value.int .i64 2); refine (CN.out _).mono ?_; rintro e w6 ⟨rfl, hb6⟩; obtain ⟨y0, y1⟩ := spot_later hb6 (spot_alloc ⟨x0, x1⟩ _); have gy := World.block_lt_of_cell? _ _ y0; obtain ⟨m0, m1⟩ := spot_later hb6 (spot_alloc ⟨l0, l1⟩ _); have gm := World.block_lt_of_cell? _ _ m0; obtain ⟨p0, p1⟩ := spot_later hb6 (spot_new w5 P Q); have gp := World.block_lt_of_cell? _ _ p0)
    | (go_at_call_of 26 (Value.int .i64 1); refine (CK.out _).mono ?_; rintro e w7 ⟨rfl, hb7⟩; obtain ⟨z0, z1⟩ := spot_later hb7 ⟨y0, y1⟩; have gz := World.block_lt_of_cell? _ _ z0; obtain ⟨n0, n1⟩ := spot_later hb7 ⟨m0, m1⟩; have gn := World.block_lt_of_cell? _ _ n0; obtain ⟨q0, q1⟩ := spot_later hb7 ⟨p0, p1⟩; have gq := World.block_lt_of_cell? _ _ q0))
  have hB : Below w.heap.size w w7 := by repeat' (first | assumption | exact Below.refl _ _ | (with_reducible refine Below.drew ?_) | (with_reducible refine ka ?_ _) | (refine kc ?_ (by assumption)))
  have HB := Lib.hid hB
  have V3 : IntKind.i64.wrap (-X) = P := by rw [IntKind.wrap_i64]; unfold wrap64 at W3; exact W3
  have V4 : IntKind.i64.wrap (-Y) = Q := by rw [IntKind.wrap_i64]; unfold wrap64 at W4; exact W4
  clear hB hb1 hb2 hb3 hb4 hb5 hb6 hb7 a0 a1 ga b0 b1 gb c0 c1 gc u0 u1 gu d0 d1 gd v0 v1 gv x0 x1 gx l0 l1 gl y0 y1 gy m0 m1 gm p0 p1 gp CU CL CV CZ CN CK CA W1 W2
  go_region_held3 (fun w' => w'.cell? ⟨w2.heap.size, 0, none⟩ = some (.int .i64 X) ∧ w'.cell? ⟨w2.heap.size, 1, none⟩ = some (.int .i64 Y) ∧ w'.cell? ⟨w4.heap.size, 0, none⟩ = some (.int .i64 Q) ∧ w'.cell? ⟨w4.heap.size, 1, none⟩ = some (.int .i64 X) ∧ w'.cell? ⟨w5.heap.size, 0, none⟩ = some (.int .i64 P) ∧ w'.cell? ⟨w5.heap.size, 1, none⟩ = some (.int .i64 Q))
    (first | exact ⟨z0, z1, n0, n1, q0, q1⟩ | exact ⟨cell_later hb8 z0, cell_later hb8 z1, cell_later hb8 n0, cell_later hb8 n1, cell_later hb8 q0, cell_later hb8 q1⟩)
    ((go_at_call 27; refine (CM.out _).mono ?_; rintro e w8 ⟨rfl, hb8⟩))
  go_wp2
  go_ret
  exact ⟨rfl, kc HB.out.drew hb8⟩

theorem shr_spec {a sq : Nat} (h : a * a ≤ sq) (h0 : 0 < sq) : sq * (shr a sq * shr a sq) ≤ a * a * 4294967296 ∧ a * a * 4294967296 < sq * ((shr a sq + 1) * (shr a sq + 1)) := by
  have h1 : a * a * 4294967296 < sq * ((0 + 2 ^ 17) * (0 + 2 ^ 17)) := by omega
  have := shAux_spec sq (a * a * 4294967296) 17 0 (by omega) h1
  exact ⟨this.1, this.2.1⟩

theorem shr_zero {sq : Nat} (h0 : 0 < sq) : shr 0 sq = 0 := by
  have h := (shr_spec (a := 0) (Nat.zero_le _) h0).1
  rw [Nat.zero_mul] at h
  rcases Nat.mul_eq_zero.1 (Nat.le_zero.1 h) with h1 | h1
  · omega
  · rcases Nat.mul_eq_zero.1 h1 with h2 | h2 <;> exact h2

theorem shareS_neg (n : Int) {sq : Nat} (h0 : 0 < sq) : shareS (-n) sq = -shareS n sq := by
  unfold shareS
  rw [Int.natAbs_neg]
  rcases Int.lt_trichotomy n 0 with h | h | h
  · rw [if_neg (by omega), if_pos h]; omega
  · subst h
    rw [if_neg (by omega), if_neg (by omega)]
    show ((shr 0 sq : Nat) : Int) = -((shr 0 sq : Nat) : Int)
    rw [shr_zero h0]
    rfl
  · rw [if_pos (by omega), if_neg (by omega)]

theorem shareS_abs (n : Int) (sq : Nat) : (shareS n sq).natAbs = shr n.natAbs sq := by
  unfold shareS
  split <;> omega

/-- What the two shares of a length are together. -/
theorem shares {p q sq : Nat} (h : sq = p * p + q * q) (h0 : 0 < sq) :
    shr p sq * shr p sq + shr q sq * shr q sq ≤ 4294967296 ∧ 4294967296 < (shr p sq + 1) * (shr p sq + 1) + (shr q sq + 1) * (shr q sq + 1) := by
  obtain ⟨a1, a2⟩ := shr_spec (a := p) (sq := sq) (by omega) h0
  obtain ⟨b1, b2⟩ := shr_spec (a := q) (sq := sq) (by omega) h0
  constructor
  · refine Nat.le_of_mul_le_mul_left (c := sq) ?_ h0
    rw [Nat.mul_add]
    omega
  · obtain ⟨m, hm⟩ : ∃ m, (shr p sq + 1) * (shr p sq + 1) + (shr q sq + 1) * (shr q sq + 1) = m := ⟨_, rfl⟩
    have e : sq * m = sq * ((shr p sq + 1) * (shr p sq + 1)) + sq * ((shr q sq + 1) * (shr q sq + 1)) := by rw [← hm, Nat.mul_add]
    rw [hm]
    rcases Nat.lt_or_ge 4294967296 m with h' | h'
    · exact h'
    · have := Nat.mul_le_mul_left sq h'
      omega

theorem rootS_up (u : Nat) : rootS 2 u = if 0 < (u : Int) - (isq u : Int) * (isq u : Int) then (isq u : Int) + 1 else (isq u : Int) := by
  unfold rootS
  by_cases h : 0 < (u : Int) - (isq u : Int) * (isq u : Int)
  · rw [if_pos h, if_pos (by simp only [upB]; simpa using h)]
  · rw [if_neg h, if_neg (by simp only [upB]; simpa using h), Int.add_zero]

theorem rootS_down (u : Nat) : rootS 1 u = (isq u : Int) := by
  unfold rootS
  simp [upB]

theorem unit_length {A B : Nat} (h1 : A * A + B * B ≤ 4294967296) (h2 : 4294967296 < (A + 1) * (A + 1) + (B + 1) * (B + 1)) :
    A ≤ 65536 ∧ B ≤ 65536 ∧ rootS 2 (A * A + B * B) ≤ 65536 ∧ 65532 < rootS 1 (A * A + B * B) := by
  have hA : A < 65537 := sq_lt (by omega)
  have hB : B < 65537 := sq_lt (by omega)
  have e1 : (A + 1) * (A + 1) = A * A + A + A + 1 := by grind
  have e2 : (B + 1) * (B + 1) = B * B + B + B + 1 := by grind
  have hu : 4294574089 ≤ A * A + B * B := by omega
  obtain ⟨u, hU⟩ : ∃ u, A * A + B * B = u := ⟨_, rfl⟩
  rw [hU] at h1 hu ⊢
  have g0 := isq_le u
  have g1 := isq_lt u
  have i1 : isq u < 65537 := sq_lt (by omega)
  have i2 : 65533 < isq u + 1 := sq_lt (by omega)
  refine ⟨by omega, by omega, ?_, ?_⟩
  · rw [rootS_up]
    obtain ⟨t, ht⟩ : ∃ t, isq u = t := ⟨_, rfl⟩
    rw [ht] at g0 g1 i1 ⊢
    split
    · have : t ≠ 65536 := by
        intro h
        subst h
        omega
      omega
    · omega
  · rw [rootS_down]
    omega

theorem rootS_small (how : Int) (u : Nat) (hu : u ≤ 4294967296) : Vld (rootS how u) := by
  have := sq_lt (a := isq u) (b := 65537) (Nat.lt_of_le_of_lt (isq_le u) (by omega))
  unfold rootS Vld
  split <;> omega

theorem neg_vld {n : Int} (h : Vld n) : wrap64 (-n) = -n := by
  unfold Vld at h
  unfold wrap64
  omega

theorem units_any (x y : Int) (w : World) :
    Calls Tryd.prog 8 #[.agg #[.int .i64 x, .int .i64 y]] w fun e w' => e = .returned (.bool true) ∧ Below w.heap.size w w' := by
  have cu := fun w => unit_any x y w
  by_cases hv : Vld x ∧ Vld y
  · by_cases hz : x = 0 ∧ y = 0
    · have e : unitS x y = ((0, 0), 10) := by unfold unitS; rw [if_pos hv, if_pos hz]
      rw [e] at cu
      exact units_err x y 10 w (.inr ⟨rfl, hz.1, hz.2⟩) cu
    · obtain ⟨sq, hsq⟩ : ∃ sq, x.natAbs * x.natAbs + y.natAbs * y.natAbs = sq := ⟨_, rfl⟩
      have h0 : 0 < sq := by
        rcases Nat.eq_zero_or_pos sq with h | h
        · have hx : x.natAbs * x.natAbs = 0 := by omega
          have hy : y.natAbs * y.natAbs = 0 := by omega
          have := Nat.mul_eq_zero.1 hx
          have := Nat.mul_eq_zero.1 hy
          omega
        · exact h
      have e : unitS x y = ((shareS x sq, shareS y sq), 0) := by unfold unitS; rw [if_pos hv, if_neg hz, hsq]
      have vx : Vld (-x) := by have := hv.1; unfold Vld at this ⊢; omega
      have vy : Vld (-y) := by have := hv.2; unfold Vld at this ⊢; omega
      have e1 : unitS (-y) x = ((-shareS y sq, shareS x sq), 0) := by
        unfold unitS
        rw [if_pos ⟨vy, hv.1⟩, if_neg (by omega), Int.natAbs_neg, Nat.add_comm, hsq, shareS_neg y h0]
      have e2 : unitS (-x) (-y) = ((-shareS x sq, -shareS y sq), 0) := by
        unfold unitS
        rw [if_pos ⟨vx, vy⟩, if_neg (by omega), Int.natAbs_neg, Int.natAbs_neg, hsq, shareS_neg x h0, shareS_neg y h0]
      have hs := shares hsq.symm h0
      rw [← shareS_abs x sq, ← shareS_abs y sq] at hs
      obtain ⟨X, hX⟩ : ∃ X, shareS x sq = X := ⟨_, rfl⟩
      obtain ⟨Y, hY⟩ : ∃ Y, shareS y sq = Y := ⟨_, rfl⟩
      rw [hX, hY] at e e1 e2 hs
      obtain ⟨hA, hB, hu, hd⟩ := unit_length hs.1 hs.2
      have vX : Vld X ∧ Vld Y := by unfold Vld; omega
      have r1 : lengthS X Y 2 = (rootS 2 (X.natAbs * X.natAbs + Y.natAbs * Y.natAbs), 0) := by
        unfold lengthS sqS
        rw [if_pos ⟨vX, by omega, by omega⟩, if_pos (rootS_small _ _ hs.1)]
      have r2 : lengthS X Y 1 = (rootS 1 (X.natAbs * X.natAbs + Y.natAbs * Y.natAbs), 0) := by
        unfold lengthS sqS
        rw [if_pos ⟨vX, by omega, by omega⟩, if_pos (rootS_small _ _ hs.1)]
      have cl := fun w => left_ok x y w hv.1 hv.2
      have cv := fun w => unit_any (-y) x w
      have cz := fun w => unit_any (-x) (-y) w
      have cn := fun w => length_any X Y 2 w
      have ck := fun w => length_any X Y 1 w
      have cm := fun w => left_ok X Y w vX.1 vX.2
      rw [e] at cu
      rw [e1] at cv
      rw [e2] at cz
      rw [r1] at cn
      rw [r2] at ck
      exact units_walk x y X Y _ _ (-x) (-y) (-X) (-Y) w (neg_vld hv.1) (neg_vld hv.2) (neg_vld vX.1) (neg_vld vX.2) hu hd cu cl cv cz cn ck cm
  · have e : unitS x y = ((0, 0), 2) := by unfold unitS; rw [if_neg hv]
    rw [e] at cu
    exact units_err x y 2 w (.inl rfl) cu

end Go.Proofs.YtkckaboilfakcaaDoor
