/- The contract of package fixed's Dot: the rounded product of two spots, or the error, as dotS says. No conditions. -/
import Derived.Test.YtebfhjndgfcijaaGreatDoorNeeds
import Derived.Test.YtebfhjndgfcijaaGreatDoorUnit
namespace Go.Proofs.YtebfhjndgfcijaaGreatDoor
open Go Go.RowKit

set_option maxHeartbeats 1000000 in
theorem dotf_in_ok (ax ay bx bz how p : Int) (Ap Bp Hp : Nat) (w : World) (z : Int) (hv : Vld ax ∧ Vld ay ∧ Vld bx ∧ Vld bz) (h0 : 0 ≤ how) (h1 : how ≤ 3)
    (cd : ∀ W, Calls Tryz.prog 76 #[.agg #[.int .i64 ax, .int .i64 ay], .agg #[.int .i64 bx, .int .i64 bz]] W fun e w' => e = .returned (.agg #[.int .i64 (hiOf p), .int .u64 (loOf p)]) ∧ Below W.heap.size W w')
    (co : ∀ W, Calls Tryz.prog 45 #[.agg #[.int .i64 (hiOf p), .int .u64 (loOf p)], .int .i64 65536, .func (.func (wayFn how)) #[] #[]] W fun e w' => e = .returned (.int .i64 z) ∧ Below W.heap.size W w')
    (c0 : w.cell? ⟨Ap, 0, none⟩ = some (.int .i64 ax)) (c1 : w.cell? ⟨Ap, 1, none⟩ = some (.int .i64 ay)) (c2 : w.cell? ⟨Bp, 0, none⟩ = some (.int .i64 bx)) (c3 : w.cell? ⟨Bp, 1, none⟩ = some (.int .i64 bz)) (c4 : w.cell? ⟨Hp, 0, none⟩ = some (.int .i64 how)) :
    Calls Tryz.prog 75 #[.pointer (some ⟨Ap, 0, none⟩), .pointer (some ⟨Bp, 0, none⟩), .pointer (some ⟨Hp, 0, none⟩)] w fun e w' => e = .returned (.int .i64 z) ∧ Below w.heap.size w w' := by
  have HV := Lib.hid hv
  have CD := Lib.hid cd
  have CO := Lib.hid co
  have CW := Lib.hid (fun w => way_ok how w h0 h1)
  clear hv cd co h0 h1
  go_enter Tryz.func75, Tryz.ntmps75
  go_wp2_with (go_at_call 62; refine (need4_ok ax ay bx bz _ _ HV.out (by simp [go_sem]) (by simp [go_sem]) (by simp [go_sem]) (by simp [go_sem])).mono ?_; rintro e w' ⟨rfl, rfl⟩)
  have c10 := alloc_cell (o := .cells #[.int .i64 ax, .int .i64 ay, .int .i64 bx, .int .i64 bz] 22) c0
  have c11 := alloc_cell (o := .cells #[.int .i64 ax, .int .i64 ay, .int .i64 bx, .int .i64 bz] 22) c1
  have c12 := alloc_cell (o := .cells #[.int .i64 ax, .int .i64 ay, .int .i64 bx, .int .i64 bz] 22) c2
  have c13 := alloc_cell (o := .cells #[.int .i64 ax, .int .i64 ay, .int .i64 bx, .int .i64 bz] 22) c3
  have c14 := alloc_cell (o := .cells #[.int .i64 ax, .int .i64 ay, .int .i64 bx, .int .i64 bz] 22) c4
  have hB0 : Below w.heap.size w (w.alloc (.cells #[.int .i64 ax, .int .i64 ay, .int .i64 bx, .int .i64 bz] 22)).drew := ((Below.refl _ _).alloc (Nat.le_refl _) _).drew
  clear c0 c1 c2 c3 c4
  go_region_held3 (fun w' => w'.cell? ⟨Ap, 0, none⟩ = some (.int .i64 ax) ∧ w'.cell? ⟨Ap, 1, none⟩ = some (.int .i64 ay) ∧ w'.cell? ⟨Bp, 0, none⟩ = some (.int .i64 bx) ∧ w'.cell? ⟨Bp, 1, none⟩ = some (.int .i64 bz) ∧ w'.cell? ⟨Hp, 0, none⟩ = some (.int .i64 how) ∧ Below w.heap.size w w')
    (go_keep)
    ((first | (go_at_call 76; refine (CD.out _).mono ?_; rintro e w1 ⟨rfl, hb1⟩; have c20 := cell_later hb1 c10; have c21 := cell_later hb1 c11; have c22 := cell_later hb1 c12; have c23 := cell_later hb1 c13; have c24 := cell_later hb1 c14; have hB1 := hB0.trans (hb1.mono (by simp))) | (go_at_call 36; refine (CW.out _).mono ?_; rintro e w' ⟨rfl, rfl⟩) | (go_at_call 45; refine (CO.out _).mono ?_; rintro e w2 ⟨rfl, hb2⟩; have c30 := cell_later hb2 c20; have c31 := cell_later hb2 c21; have c32 := cell_later hb2 c22; have c33 := cell_later hb2 c23; have c34 := cell_later hb2 c24; have hB2 := hB1.trans (hb2.mono hB1.size))))
  go_wp2
  go_ret
  exact ⟨rfl, hB2⟩

set_option maxHeartbeats 1000000 in
theorem dotf_in_flt (ax ay bx bz how p : Int) (Ap Bp Hp : Nat) (w : World) (n : Int) (hv : Vld ax ∧ Vld ay ∧ Vld bx ∧ Vld bz) (h0 : 0 ≤ how) (h1 : how ≤ 3)
    (cd : ∀ W, Calls Tryz.prog 76 #[.agg #[.int .i64 ax, .int .i64 ay], .agg #[.int .i64 bx, .int .i64 bz]] W fun e w' => e = .returned (.agg #[.int .i64 (hiOf p), .int .u64 (loOf p)]) ∧ Below W.heap.size W w')
    (co : ∀ W, Calls Tryz.prog 45 #[.agg #[.int .i64 (hiOf p), .int .u64 (loOf p)], .int .i64 65536, .func (.func (wayFn how)) #[] #[]] W fun e w' => e = flt n ∧ Below W.heap.size W w')
    (c0 : w.cell? ⟨Ap, 0, none⟩ = some (.int .i64 ax)) (c1 : w.cell? ⟨Ap, 1, none⟩ = some (.int .i64 ay)) (c2 : w.cell? ⟨Bp, 0, none⟩ = some (.int .i64 bx)) (c3 : w.cell? ⟨Bp, 1, none⟩ = some (.int .i64 bz)) (c4 : w.cell? ⟨Hp, 0, none⟩ = some (.int .i64 how)) :
    Calls Tryz.prog 75 #[.pointer (some ⟨Ap, 0, none⟩), .pointer (some ⟨Bp, 0, none⟩), .pointer (some ⟨Hp, 0, none⟩)] w fun e w' => e = flt n ∧ Below w.heap.size w w' := by
  have HV := Lib.hid hv
  have CD := Lib.hid cd
  have CO := Lib.hid (fun W => or_never (R' := fun e w' => e = .returned (.int .i64 0) ∧ Below W.heap.size W w') (co W))
  have CW := Lib.hid (fun w => way_ok how w h0 h1)
  clear hv cd co h0 h1
  go_enter Tryz.func75, Tryz.ntmps75
  go_wp2_with (go_at_call 62; refine (need4_ok ax ay bx bz _ _ HV.out (by simp [go_sem]) (by simp [go_sem]) (by simp [go_sem]) (by simp [go_sem])).mono ?_; rintro e w' ⟨rfl, rfl⟩)
  have c10 := alloc_cell (o := .cells #[.int .i64 ax, .int .i64 ay, .int .i64 bx, .int .i64 bz] 22) c0
  have c11 := alloc_cell (o := .cells #[.int .i64 ax, .int .i64 ay, .int .i64 bx, .int .i64 bz] 22) c1
  have c12 := alloc_cell (o := .cells #[.int .i64 ax, .int .i64 ay, .int .i64 bx, .int .i64 bz] 22) c2
  have c13 := alloc_cell (o := .cells #[.int .i64 ax, .int .i64 ay, .int .i64 bx, .int .i64 bz] 22) c3
  have c14 := alloc_cell (o := .cells #[.int .i64 ax, .int .i64 ay, .int .i64 bx, .int .i64 bz] 22) c4
  have hB0 : Below w.heap.size w (w.alloc (.cells #[.int .i64 ax, .int .i64 ay, .int .i64 bx, .int .i64 bz] 22)).drew := ((Below.refl _ _).alloc (Nat.le_refl _) _).drew
  clear c0 c1 c2 c3 c4
  go_region_held2 (fun w' => w'.cell? ⟨Ap, 0, none⟩ = some (.int .i64 ax) ∧ w'.cell? ⟨Ap, 1, none⟩ = some (.int .i64 ay) ∧ w'.cell? ⟨Bp, 0, none⟩ = some (.int .i64 bx) ∧ w'.cell? ⟨Bp, 1, none⟩ = some (.int .i64 bz) ∧ w'.cell? ⟨Hp, 0, none⟩ = some (.int .i64 how) ∧ Below w.heap.size w w')
    (go_keep)
    ((first | (go_at_call 76; refine (CD.out _).mono ?_; rintro e w1 ⟨rfl, hb1⟩; have c20 := cell_later hb1 c10; have c21 := cell_later hb1 c11; have c22 := cell_later hb1 c12; have c23 := cell_later hb1 c13; have c24 := cell_later hb1 c14; have hB1 := hB0.trans (hb1.mono (by simp))) | (go_at_call 36; refine (CW.out _).mono ?_; rintro e w' ⟨rfl, rfl⟩) | (go_at_call 45; refine (CO.out _).mono ?_; rintro e w2 (⟨rfl, hb2⟩ | ⟨hx, rfl, hb2⟩); exact ⟨rfl, rfl, hB1.trans (hb2.mono hB1.size)⟩; have c30 := cell_later hb2 c20; have c31 := cell_later hb2 c21; have c32 := cell_later hb2 c22; have c33 := cell_later hb2 c23; have c34 := cell_later hb2 c24; have hB2 := hB1.trans (hb2.mono hB1.size))))
  exact (hx : False).elim

set_option maxHeartbeats 1000000 in
theorem dotf_in_how (ax ay bx bz how p : Int) (Ap Bp Hp : Nat) (w : World) (hv : Vld ax ∧ Vld ay ∧ Vld bx ∧ Vld bz) (hh : how < 0 ∨ 3 < how)
    (cd : ∀ W, Calls Tryz.prog 76 #[.agg #[.int .i64 ax, .int .i64 ay], .agg #[.int .i64 bx, .int .i64 bz]] W fun e w' => e = .returned (.agg #[.int .i64 (hiOf p), .int .u64 (loOf p)]) ∧ Below W.heap.size W w')
    (c0 : w.cell? ⟨Ap, 0, none⟩ = some (.int .i64 ax)) (c1 : w.cell? ⟨Ap, 1, none⟩ = some (.int .i64 ay)) (c2 : w.cell? ⟨Bp, 0, none⟩ = some (.int .i64 bx)) (c3 : w.cell? ⟨Bp, 1, none⟩ = some (.int .i64 bz)) (c4 : w.cell? ⟨Hp, 0, none⟩ = some (.int .i64 how)) :
    Calls Tryz.prog 75 #[.pointer (some ⟨Ap, 0, none⟩), .pointer (some ⟨Bp, 0, none⟩), .pointer (some ⟨Hp, 0, none⟩)] w fun e w' => e = flt 2 ∧ Below w.heap.size w w' := by
  have HV := Lib.hid hv
  have CD := Lib.hid cd
  have CW := Lib.hid (fun W => or_never (R' := fun e w' => e = .returned (.func (.func 99) #[] #[]) ∧ W = w') (way_bad how W hh))
  have CO : Hid (Never → ∀ (v d : Int) W, Calls Tryz.prog 45 #[.agg #[.int .i64 (hiOf v), .int .u64 (loOf v)], .int .i64 d, .func (.func 99) #[] #[]] W fun e w' => e = .returned (.int .i64 0) ∧ Below W.heap.size W w') := fun h => (h : False).elim
  clear hv cd hh
  go_enter Tryz.func75, Tryz.ntmps75
  go_wp2_with (go_at_call 62; refine (need4_ok ax ay bx bz _ _ HV.out (by simp [go_sem]) (by simp [go_sem]) (by simp [go_sem]) (by simp [go_sem])).mono ?_; rintro e w' ⟨rfl, rfl⟩)
  have c10 := alloc_cell (o := .cells #[.int .i64 ax, .int .i64 ay, .int .i64 bx, .int .i64 bz] 22) c0
  have c11 := alloc_cell (o := .cells #[.int .i64 ax, .int .i64 ay, .int .i64 bx, .int .i64 bz] 22) c1
  have c12 := alloc_cell (o := .cells #[.int .i64 ax, .int .i64 ay, .int .i64 bx, .int .i64 bz] 22) c2
  have c13 := alloc_cell (o := .cells #[.int .i64 ax, .int .i64 ay, .int .i64 bx, .int .i64 bz] 22) c3
  have c14 := alloc_cell (o := .cells #[.int .i64 ax, .int .i64 ay, .int .i64 bx, .int .i64 bz] 22) c4
  have hB0 : Below w.heap.size w (w.alloc (.cells #[.int .i64 ax, .int .i64 ay, .int .i64 bx, .int .i64 bz] 22)).drew := ((Below.refl _ _).alloc (Nat.le_refl _) _).drew
  clear c0 c1 c2 c3 c4
  go_region_held2 (fun w' => w'.cell? ⟨Ap, 0, none⟩ = some (.int .i64 ax) ∧ w'.cell? ⟨Ap, 1, none⟩ = some (.int .i64 ay) ∧ w'.cell? ⟨Bp, 0, none⟩ = some (.int .i64 bx) ∧ w'.cell? ⟨Bp, 1, none⟩ = some (.int .i64 bz) ∧ w'.cell? ⟨Hp, 0, none⟩ = some (.int .i64 how) ∧ Below w.heap.size w w')
    (go_keep)
    ((first | (go_at_call 76; refine (CD.out _).mono ?_; rintro e w1 ⟨rfl, hb1⟩; have c20 := cell_later hb1 c10; have c21 := cell_later hb1 c11; have c22 := cell_later hb1 c12; have c23 := cell_later hb1 c13; have c24 := cell_later hb1 c14; have hB1 := hB0.trans (hb1.mono (by simp))) | (go_at_call 36; refine (CW.out _).mono ?_; rintro e w3 (⟨rfl, rfl⟩ | ⟨hx, rfl, rfl⟩); exact ⟨rfl, rfl, hB1⟩) | (go_at_call 45; refine (CO.out hx _ _ _).mono ?_; rintro e w2 ⟨rfl, hb2⟩; have c30 := cell_later hb2 c20; have c31 := cell_later hb2 c21; have c32 := cell_later hb2 c22; have c33 := cell_later hb2 c23; have c34 := cell_later hb2 c24; have hB2 := hB1.trans (hb2.mono hB1.size))))
  exact (hx : False).elim

set_option maxHeartbeats 1000000 in
theorem dotf_in_arg (ax ay bx bz : Int) (Ap Bp Hp : Nat) (w : World) (hv : ¬ (Vld ax ∧ Vld ay ∧ Vld bx ∧ Vld bz)) (c0 : w.cell? ⟨Ap, 0, none⟩ = some (.int .i64 ax)) (c1 : w.cell? ⟨Ap, 1, none⟩ = some (.int .i64 ay)) (c2 : w.cell? ⟨Bp, 0, none⟩ = some (.int .i64 bx)) (c3 : w.cell? ⟨Bp, 1, none⟩ = some (.int .i64 bz)) :
    Calls Tryz.prog 75 #[.pointer (some ⟨Ap, 0, none⟩), .pointer (some ⟨Bp, 0, none⟩), .pointer (some ⟨Hp, 0, none⟩)] w fun e w' => e = flt 2 ∧ Below w.heap.size w w' := by
  have HV := Lib.hid hv
  clear hv
  go_enter Tryz.func75, Tryz.ntmps75
  go_wp2_with (go_at_call 62; refine (need4_bad ax ay bx bz _ _ HV.out (by simp [go_sem]) (by simp [go_sem]) (by simp [go_sem]) (by simp [go_sem])).mono ?_; rintro e w' ⟨rfl, rfl⟩)
  exact ⟨rfl, rfl, (Below.refl w.heap.size w).alloc (Nat.le_refl _) _⟩

theorem enters_dotf (args : Array Value) (w : World) : (callFunc 75 args).run Tryz.prog w = .ok (.enter 75 args) w := by
  simp [go_sem]

set_option maxHeartbeats 1000000 in
theorem dotf_out (ax ay bx bz how : Int) (r : Int × Int) (w : World)
    (hin : (r.2 = 0 ∧ ∀ Ap Bp Hp W, W.cell? ⟨Ap, 0, none⟩ = some (.int .i64 ax) → W.cell? ⟨Ap, 1, none⟩ = some (.int .i64 ay) → W.cell? ⟨Bp, 0, none⟩ = some (.int .i64 bx) → W.cell? ⟨Bp, 1, none⟩ = some (.int .i64 bz) → W.cell? ⟨Hp, 0, none⟩ = some (.int .i64 how) →
        Calls Tryz.prog 75 #[.pointer (some ⟨Ap, 0, none⟩), .pointer (some ⟨Bp, 0, none⟩), .pointer (some ⟨Hp, 0, none⟩)] W fun e w' => e = .returned (.int .i64 r.1) ∧ Below W.heap.size W w') ∨
      (r.1 = 0 ∧ ∀ Ap Bp Hp W, W.cell? ⟨Ap, 0, none⟩ = some (.int .i64 ax) → W.cell? ⟨Ap, 1, none⟩ = some (.int .i64 ay) → W.cell? ⟨Bp, 0, none⟩ = some (.int .i64 bx) → W.cell? ⟨Bp, 1, none⟩ = some (.int .i64 bz) → W.cell? ⟨Hp, 0, none⟩ = some (.int .i64 how) →
        Calls Tryz.prog 75 #[.pointer (some ⟨Ap, 0, none⟩), .pointer (some ⟨Bp, 0, none⟩), .pointer (some ⟨Hp, 0, none⟩)] W fun e w' => e = flt r.2 ∧ Below W.heap.size W w')) :
    Calls Tryz.prog 18 #[.agg #[.int .i64 ax, .int .i64 ay], .agg #[.int .i64 bx, .int .i64 bz], .int .i64 how] w fun e w' => e = .returned (.tuple #[.int .i64 r.1, .int .i64 r.2]) ∧ Below w.heap.size w w' := by
  have hmf : ∀ (fn : Fn) (first cap : Array Value) (w : World), (Instr.makeFunc fn first cap).run Tryz.prog w = .ok (.func fn first cap) w := fun _ _ _ _ => rfl
  have ha := attempt_fix 75 #[.pointer (some ⟨w.heap.size, 0, none⟩), .pointer (some ⟨w.heap.size + 1, 0, none⟩), .pointer (some ⟨w.heap.size + 1 + 1, 0, none⟩)] r
    (((w.alloc (.cells #[.int .i64 ax, .int .i64 ay] 33)).alloc (.cells #[.int .i64 bx, .int .i64 bz] 33)).alloc (.cells #[.int .i64 how] 3)) enters_dotf
    (by
      rcases hin with ⟨h, hin⟩ | ⟨h, hin⟩
      · exact .inl ⟨h, fun W hb => hin _ _ _ W (cell_later hb (by simp [go_sem])) (cell_later hb (by simp [go_sem])) (cell_later hb (by simp [go_sem])) (cell_later hb (by simp [go_sem])) (cell_later hb (by simp [go_sem]))⟩
      · exact .inr ⟨h, fun W hb => hin _ _ _ W (cell_later hb (by simp [go_sem])) (cell_later hb (by simp [go_sem])) (cell_later hb (by simp [go_sem])) (cell_later hb (by simp [go_sem])) (cell_later hb (by simp [go_sem]))⟩)
  have HA := Lib.hid ha
  clear ha hin
  go_enter Tryz.func18, Tryz.ntmps18
  go_wp2_with (go_at_call 34; refine HA.out.mono ?_; rintro e w1 ⟨rfl, hb⟩)
  go_ret2
  exact ⟨rfl, ((((Below.refl w.heap.size w).alloc (Nat.le_refl _) _).alloc (by simp) _).alloc (by simp; omega) _).trans (hb.mono (by simp; omega))⟩

/-- What Dot gives: the value and the error. -/
def dotS (ax ay bx bz how : Int) : Int × Int :=
  if (Vld ax ∧ Vld ay ∧ Vld bx ∧ Vld bz) ∧ 0 ≤ how ∧ how ≤ 3 then (if Vld (rnd how (ax * bx + ay * bz) 65536) then (rnd how (ax * bx + ay * bz) 65536, 0) else (0, 4)) else (0, 2)

theorem vld_small {a b : Int} (ha : Vld a) (hb : Vld b) : -9903520314283042199192993792 ≤ a * b ∧ a * b ≤ 9903520314283042199192993792 := by
  have e := Int.natAbs_mul a b
  have h := Nat.mul_le_mul (show a.natAbs ≤ 70368744177664 by unfold Vld at ha; omega) (show b.natAbs ≤ 70368744177664 by unfold Vld at hb; omega)
  omega

theorem dotf_any (ax ay bx bz how : Int) (w : World) :
    Calls Tryz.prog 18 #[.agg #[.int .i64 ax, .int .i64 ay], .agg #[.int .i64 bx, .int .i64 bz], .int .i64 how] w fun e w' => e = .returned (.tuple #[.int .i64 (dotS ax ay bx bz how).1, .int .i64 (dotS ax ay bx bz how).2]) ∧ Below w.heap.size w w' := by
  apply dotf_out
  unfold dotS
  by_cases hv : Vld ax ∧ Vld ay ∧ Vld bx ∧ Vld bz
  · have hp := vld_small hv.1 hv.2.2.1
    have hq := vld_small hv.2.1 hv.2.2.2
    have cd := fun W => dot_any ax ay bx bz W (by unfold Vld at hv; omega) (by unfold Vld at hv; omega) (by unfold Vld at hv; omega) (by unfold Vld at hv; omega) (by omega) (by omega)
    by_cases hh : 0 ≤ how ∧ how ≤ 3
    · rw [if_pos ⟨hv, hh⟩]
      by_cases hf : Vld (rnd how (ax * bx + ay * bz) 65536)
      · rw [if_pos hf]
        exact .inl ⟨rfl, fun A B H W c0 c1 c2 c3 c4 => dotf_in_ok ax ay bx bz how _ A B H W _ hv hh.1 hh.2 cd (fun W => over_ok how _ _ W hh.1 hh.2 (by omega) (by omega) (by omega) (by omega) (by omega) hf) c0 c1 c2 c3 c4⟩
      · rw [if_neg hf]
        exact .inr ⟨rfl, fun A B H W c0 c1 c2 c3 c4 => dotf_in_flt ax ay bx bz how _ A B H W _ hv hh.1 hh.2 cd (fun W => over_bad how _ _ W hh.1 hh.2 (by omega) (by omega) (by omega) (by omega) (by omega) hf) c0 c1 c2 c3 c4⟩
    · rw [if_neg (fun h => hh h.2)]
      exact .inr ⟨rfl, fun A B H W c0 c1 c2 c3 c4 => dotf_in_how ax ay bx bz how _ A B H W hv (by omega) cd c0 c1 c2 c3 c4⟩
  · rw [if_neg (fun h => hv h.1)]
    exact .inr ⟨rfl, fun A B H W c0 c1 c2 c3 _ => dotf_in_arg ax ay bx bz A B H W hv c0 c1 c2 c3⟩

end Go.Proofs.YtebfhjndgfcijaaGreatDoor
