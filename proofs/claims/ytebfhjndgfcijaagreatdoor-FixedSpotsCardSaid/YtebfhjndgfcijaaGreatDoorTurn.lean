/- The contracts of package fixed's Turn and Farther. No conditions. -/
import Derived.Test.YtebfhjndgfcijaaGreatDoorNeeds
import Derived.Test.YtebfhjndgfcijaaGreatDoorUnit
namespace Go.Proofs.YtebfhjndgfcijaaGreatDoor
open Go Go.RowKit

set_option maxHeartbeats 1000000 in
theorem turn_in (ax ay bx bz p q : Int) (Ap Bp : Nat) (w : World) (hv : Vld ax ∧ Vld ay ∧ Vld bx ∧ Vld bz)
    (f1 : ∀ w, Calls Tryz.prog 39 #[.int .i64 ax, .int .i64 bz] w fun e w' => e = .returned (.agg #[.int .i64 (hiOf p), .int .u64 (loOf p)]) ∧ Below w.heap.size w w')
    (f2 : ∀ w, Calls Tryz.prog 39 #[.int .i64 ay, .int .i64 bx] w fun e w' => e = .returned (.agg #[.int .i64 (hiOf q), .int .u64 (loOf q)]) ∧ Below w.heap.size w w')
    (c0 : w.cell? ⟨Ap, 0, none⟩ = some (.int .i64 ax)) (c1 : w.cell? ⟨Ap, 1, none⟩ = some (.int .i64 ay)) (c2 : w.cell? ⟨Bp, 0, none⟩ = some (.int .i64 bx)) (c3 : w.cell? ⟨Bp, 1, none⟩ = some (.int .i64 bz)) :
    Calls Tryz.prog 92 #[.pointer (some ⟨Ap, 0, none⟩), .pointer (some ⟨Bp, 0, none⟩)] w fun e w' => e = .returned (.int .i64 (cmp3 p q)) ∧ Below w.heap.size w w' := by
  have HV := Lib.hid hv
  have C1 := Lib.hid f1
  have C2 := Lib.hid f2
  obtain ⟨c, hc⟩ : ∃ c, cmp3 p q = c := ⟨_, rfl⟩
  have cc := fun w => compare_any p q w
  rw [hc] at cc
  rw [hc]
  have CC := Lib.hid cc
  clear hv f1 f2 cc hc
  go_enter Tryz.func92, Tryz.ntmps92
  go_wp2_with (go_at_call 62; refine (need4_ok ax ay bx bz _ _ HV.out (by simp [go_sem]) (by simp [go_sem]) (by simp [go_sem]) (by simp [go_sem])).mono ?_; rintro e w' ⟨rfl, rfl⟩)
  have c10 := alloc_cell (o := .cells #[.int .i64 ax, .int .i64 ay, .int .i64 bx, .int .i64 bz] 22) c0
  have c11 := alloc_cell (o := .cells #[.int .i64 ax, .int .i64 ay, .int .i64 bx, .int .i64 bz] 22) c1
  have c12 := alloc_cell (o := .cells #[.int .i64 ax, .int .i64 ay, .int .i64 bx, .int .i64 bz] 22) c2
  have c13 := alloc_cell (o := .cells #[.int .i64 ax, .int .i64 ay, .int .i64 bx, .int .i64 bz] 22) c3
  have hB0 : Below w.heap.size w (w.alloc (.cells #[.int .i64 ax, .int .i64 ay, .int .i64 bx, .int .i64 bz] 22)).drew := ((Below.refl _ _).alloc (Nat.le_refl _) _).drew
  clear c0 c1 c2 c3
  go_region_held3 (fun w' => w'.cell? ⟨Ap, 0, none⟩ = some (.int .i64 ax) ∧ w'.cell? ⟨Ap, 1, none⟩ = some (.int .i64 ay) ∧ w'.cell? ⟨Bp, 0, none⟩ = some (.int .i64 bx) ∧ w'.cell? ⟨Bp, 1, none⟩ = some (.int .i64 bz) ∧ Below w.heap.size w w')
    (go_keep)
    ((first | (go_at_call_of 39 (Value.int .i64 ax); refine (C1.out _).mono ?_; rintro e w1 ⟨rfl, hb1⟩; have c20 := cell_later hb1 c10; have c21 := cell_later hb1 c11; have c22 := cell_later hb1 c12; have c23 := cell_later hb1 c13; have hB1 := hB0.trans (hb1.mono (by simp))) | (go_at_call_of 39 (Value.int .i64 ay); refine (C2.out _).mono ?_; rintro e w2 ⟨rfl, hb2⟩; have c30 := cell_later hb2 c20; have c31 := cell_later hb2 c21; have c32 := cell_later hb2 c22; have c33 := cell_later hb2 c23; have hB2 := hB1.trans (hb2.mono hB1.size)) | (go_at_call 90; refine (CC.out _).mono ?_; rintro e w3 ⟨rfl, hb3⟩; have c40 := cell_later hb3 c30; have c41 := cell_later hb3 c31; have c42 := cell_later hb3 c32; have c43 := cell_later hb3 c33; have hB3 := hB2.trans (hb3.mono hB2.size))))
  go_wp2
  go_ret
  exact ⟨rfl, hB3⟩

set_option maxHeartbeats 1000000 in
theorem turn_arg (ax ay bx bz : Int) (Ap Bp : Nat) (w : World) (hv : ¬ (Vld ax ∧ Vld ay ∧ Vld bx ∧ Vld bz)) (c0 : w.cell? ⟨Ap, 0, none⟩ = some (.int .i64 ax)) (c1 : w.cell? ⟨Ap, 1, none⟩ = some (.int .i64 ay)) (c2 : w.cell? ⟨Bp, 0, none⟩ = some (.int .i64 bx)) (c3 : w.cell? ⟨Bp, 1, none⟩ = some (.int .i64 bz)) :
    Calls Tryz.prog 92 #[.pointer (some ⟨Ap, 0, none⟩), .pointer (some ⟨Bp, 0, none⟩)] w fun e w' => e = flt 2 ∧ Below w.heap.size w w' := by
  have HV := Lib.hid hv
  clear hv
  go_enter Tryz.func92, Tryz.ntmps92
  go_wp2_with (go_at_call 62; refine (need4_bad ax ay bx bz _ _ HV.out (by simp [go_sem]) (by simp [go_sem]) (by simp [go_sem]) (by simp [go_sem])).mono ?_; rintro e w' ⟨rfl, rfl⟩)
  exact ⟨rfl, rfl, (Below.refl w.heap.size w).alloc (Nat.le_refl _) _⟩

theorem enters_turn (args : Array Value) (w : World) : (callFunc 92 args).run Tryz.prog w = .ok (.enter 92 args) w := by
  simp [go_sem]

set_option maxHeartbeats 1000000 in
theorem turn_out (ax ay bx bz : Int) (r : Int × Int) (w : World)
    (hin : (r.2 = 0 ∧ ∀ Ap Bp W, W.cell? ⟨Ap, 0, none⟩ = some (.int .i64 ax) → W.cell? ⟨Ap, 1, none⟩ = some (.int .i64 ay) → W.cell? ⟨Bp, 0, none⟩ = some (.int .i64 bx) → W.cell? ⟨Bp, 1, none⟩ = some (.int .i64 bz) →
        Calls Tryz.prog 92 #[.pointer (some ⟨Ap, 0, none⟩), .pointer (some ⟨Bp, 0, none⟩)] W fun e w' => e = .returned (.int .i64 r.1) ∧ Below W.heap.size W w') ∨
      (r.1 = 0 ∧ ∀ Ap Bp W, W.cell? ⟨Ap, 0, none⟩ = some (.int .i64 ax) → W.cell? ⟨Ap, 1, none⟩ = some (.int .i64 ay) → W.cell? ⟨Bp, 0, none⟩ = some (.int .i64 bx) → W.cell? ⟨Bp, 1, none⟩ = some (.int .i64 bz) →
        Calls Tryz.prog 92 #[.pointer (some ⟨Ap, 0, none⟩), .pointer (some ⟨Bp, 0, none⟩)] W fun e w' => e = flt r.2 ∧ Below W.heap.size W w')) :
    Calls Tryz.prog 29 #[.agg #[.int .i64 ax, .int .i64 ay], .agg #[.int .i64 bx, .int .i64 bz]] w fun e w' => e = .returned (.tuple #[.int .i64 r.1, .int .i64 r.2]) ∧ Below w.heap.size w w' := by
  have hmf : ∀ (fn : Fn) (first cap : Array Value) (w : World), (Instr.makeFunc fn first cap).run Tryz.prog w = .ok (.func fn first cap) w := fun _ _ _ _ => rfl
  have ha := attempt_int 92 #[.pointer (some ⟨w.heap.size, 0, none⟩), .pointer (some ⟨w.heap.size + 1, 0, none⟩)] r
    ((w.alloc (.cells #[.int .i64 ax, .int .i64 ay] 33)).alloc (.cells #[.int .i64 bx, .int .i64 bz] 33)) enters_turn
    (by
      rcases hin with ⟨h, hin⟩ | ⟨h, hin⟩
      · exact .inl ⟨h, fun W hb => hin _ _ W (cell_later hb (by simp [go_sem])) (cell_later hb (by simp [go_sem])) (cell_later hb (by simp [go_sem])) (cell_later hb (by simp [go_sem]))⟩
      · exact .inr ⟨h, fun W hb => hin _ _ W (cell_later hb (by simp [go_sem])) (cell_later hb (by simp [go_sem])) (cell_later hb (by simp [go_sem])) (cell_later hb (by simp [go_sem]))⟩)
  have HA := Lib.hid ha
  clear ha hin
  go_enter Tryz.func29, Tryz.ntmps29
  go_wp2_with (go_at_call 88; refine HA.out.mono ?_; rintro e w1 ⟨rfl, hb⟩)
  go_ret2
  exact ⟨rfl, (((Below.refl w.heap.size w).alloc (Nat.le_refl _) _).alloc (by simp) _).trans (hb.mono (by simp; omega))⟩

/-- What Turn gives: the value and the error. -/
def turnS (ax ay bx bz : Int) : Int × Int := if Vld ax ∧ Vld ay ∧ Vld bx ∧ Vld bz then (cmp3 (ax * bz) (ay * bx), 0) else (0, 2)

theorem turn_any (ax ay bx bz : Int) (w : World) :
    Calls Tryz.prog 29 #[.agg #[.int .i64 ax, .int .i64 ay], .agg #[.int .i64 bx, .int .i64 bz]] w fun e w' => e = .returned (.tuple #[.int .i64 (turnS ax ay bx bz).1, .int .i64 (turnS ax ay bx bz).2]) ∧ Below w.heap.size w w' := by
  apply turn_out
  unfold turnS
  by_cases hv : Vld ax ∧ Vld ay ∧ Vld bx ∧ Vld bz
  · rw [if_pos hv]
    have h := hv
    unfold Vld at h
    exact .inl ⟨rfl, fun A B W c0 c1 c2 c3 => turn_in ax ay bx bz _ _ A B W hv (fun w => product_any ax bz w (by omega) (by omega) (by omega) (by omega)) (fun w => product_any ay bx w (by omega) (by omega) (by omega) (by omega)) c0 c1 c2 c3⟩
  · rw [if_neg hv]
    exact .inr ⟨rfl, fun A B W c0 c1 c2 c3 => turn_arg ax ay bx bz A B W hv c0 c1 c2 c3⟩

set_option maxHeartbeats 1000000 in
theorem farther_in (ax ay bx bz p q : Int) (Ap Bp : Nat) (w : World) (hv : Vld ax ∧ Vld ay ∧ Vld bx ∧ Vld bz)
    (f1 : ∀ w, Calls Tryz.prog 76 #[.agg #[.int .i64 ax, .int .i64 ay], .agg #[.int .i64 ax, .int .i64 ay]] w fun e w' => e = .returned (.agg #[.int .i64 (hiOf p), .int .u64 (loOf p)]) ∧ Below w.heap.size w w')
    (f2 : ∀ w, Calls Tryz.prog 76 #[.agg #[.int .i64 bx, .int .i64 bz], .agg #[.int .i64 bx, .int .i64 bz]] w fun e w' => e = .returned (.agg #[.int .i64 (hiOf q), .int .u64 (loOf q)]) ∧ Below w.heap.size w w')
    (c0 : w.cell? ⟨Ap, 0, none⟩ = some (.int .i64 ax)) (c1 : w.cell? ⟨Ap, 1, none⟩ = some (.int .i64 ay)) (c2 : w.cell? ⟨Bp, 0, none⟩ = some (.int .i64 bx)) (c3 : w.cell? ⟨Bp, 1, none⟩ = some (.int .i64 bz)) :
    Calls Tryz.prog 89 #[.pointer (some ⟨Ap, 0, none⟩), .pointer (some ⟨Bp, 0, none⟩)] w fun e w' => e = .returned (.int .i64 (cmp3 p q)) ∧ Below w.heap.size w w' := by
  have HV := Lib.hid hv
  have C1 := Lib.hid f1
  have C2 := Lib.hid f2
  obtain ⟨c, hc⟩ : ∃ c, cmp3 p q = c := ⟨_, rfl⟩
  have cc := fun w => compare_any p q w
  rw [hc] at cc
  rw [hc]
  have CC := Lib.hid cc
  clear hv f1 f2 cc hc
  go_enter Tryz.func89, Tryz.ntmps89
  go_wp2_with (go_at_call 62; refine (need4_ok ax ay bx bz _ _ HV.out (by simp [go_sem]) (by simp [go_sem]) (by simp [go_sem]) (by simp [go_sem])).mono ?_; rintro e w' ⟨rfl, rfl⟩)
  have c10 := alloc_cell (o := .cells #[.int .i64 ax, .int .i64 ay, .int .i64 bx, .int .i64 bz] 22) c0
  have c11 := alloc_cell (o := .cells #[.int .i64 ax, .int .i64 ay, .int .i64 bx, .int .i64 bz] 22) c1
  have c12 := alloc_cell (o := .cells #[.int .i64 ax, .int .i64 ay, .int .i64 bx, .int .i64 bz] 22) c2
  have c13 := alloc_cell (o := .cells #[.int .i64 ax, .int .i64 ay, .int .i64 bx, .int .i64 bz] 22) c3
  have hB0 : Below w.heap.size w (w.alloc (.cells #[.int .i64 ax, .int .i64 ay, .int .i64 bx, .int .i64 bz] 22)).drew := ((Below.refl _ _).alloc (Nat.le_refl _) _).drew
  clear c0 c1 c2 c3
  go_region_held3 (fun w' => w'.cell? ⟨Ap, 0, none⟩ = some (.int .i64 ax) ∧ w'.cell? ⟨Ap, 1, none⟩ = some (.int .i64 ay) ∧ w'.cell? ⟨Bp, 0, none⟩ = some (.int .i64 bx) ∧ w'.cell? ⟨Bp, 1, none⟩ = some (.int .i64 bz) ∧ Below w.heap.size w w')
    (go_keep)
    ((first | (go_at_call_of 76 (Value.agg #[.int .i64 ax, .int .i64 ay]); refine (C1.out _).mono ?_; rintro e w1 ⟨rfl, hb1⟩; have c20 := cell_later hb1 c10; have c21 := cell_later hb1 c11; have c22 := cell_later hb1 c12; have c23 := cell_later hb1 c13; have hB1 := hB0.trans (hb1.mono (by simp))) | (go_at_call_of 76 (Value.agg #[.int .i64 bx, .int .i64 bz]); refine (C2.out _).mono ?_; rintro e w2 ⟨rfl, hb2⟩; have c30 := cell_later hb2 c20; have c31 := cell_later hb2 c21; have c32 := cell_later hb2 c22; have c33 := cell_later hb2 c23; have hB2 := hB1.trans (hb2.mono hB1.size)) | (go_at_call 90; refine (CC.out _).mono ?_; rintro e w3 ⟨rfl, hb3⟩; have c40 := cell_later hb3 c30; have c41 := cell_later hb3 c31; have c42 := cell_later hb3 c32; have c43 := cell_later hb3 c33; have hB3 := hB2.trans (hb3.mono hB2.size))))
  go_wp2
  go_ret
  exact ⟨rfl, hB3⟩

set_option maxHeartbeats 1000000 in
theorem farther_arg (ax ay bx bz : Int) (Ap Bp : Nat) (w : World) (hv : ¬ (Vld ax ∧ Vld ay ∧ Vld bx ∧ Vld bz)) (c0 : w.cell? ⟨Ap, 0, none⟩ = some (.int .i64 ax)) (c1 : w.cell? ⟨Ap, 1, none⟩ = some (.int .i64 ay)) (c2 : w.cell? ⟨Bp, 0, none⟩ = some (.int .i64 bx)) (c3 : w.cell? ⟨Bp, 1, none⟩ = some (.int .i64 bz)) :
    Calls Tryz.prog 89 #[.pointer (some ⟨Ap, 0, none⟩), .pointer (some ⟨Bp, 0, none⟩)] w fun e w' => e = flt 2 ∧ Below w.heap.size w w' := by
  have HV := Lib.hid hv
  clear hv
  go_enter Tryz.func89, Tryz.ntmps89
  go_wp2_with (go_at_call 62; refine (need4_bad ax ay bx bz _ _ HV.out (by simp [go_sem]) (by simp [go_sem]) (by simp [go_sem]) (by simp [go_sem])).mono ?_; rintro e w' ⟨rfl, rfl⟩)
  exact ⟨rfl, rfl, (Below.refl w.heap.size w).alloc (Nat.le_refl _) _⟩

theorem enters_farther (args : Array Value) (w : World) : (callFunc 89 args).run Tryz.prog w = .ok (.enter 89 args) w := by
  simp [go_sem]

set_option maxHeartbeats 1000000 in
theorem farther_out (ax ay bx bz : Int) (r : Int × Int) (w : World)
    (hin : (r.2 = 0 ∧ ∀ Ap Bp W, W.cell? ⟨Ap, 0, none⟩ = some (.int .i64 ax) → W.cell? ⟨Ap, 1, none⟩ = some (.int .i64 ay) → W.cell? ⟨Bp, 0, none⟩ = some (.int .i64 bx) → W.cell? ⟨Bp, 1, none⟩ = some (.int .i64 bz) →
        Calls Tryz.prog 89 #[.pointer (some ⟨Ap, 0, none⟩), .pointer (some ⟨Bp, 0, none⟩)] W fun e w' => e = .returned (.int .i64 r.1) ∧ Below W.heap.size W w') ∨
      (r.1 = 0 ∧ ∀ Ap Bp W, W.cell? ⟨Ap, 0, none⟩ = some (.int .i64 ax) → W.cell? ⟨Ap, 1, none⟩ = some (.int .i64 ay) → W.cell? ⟨Bp, 0, none⟩ = some (.int .i64 bx) → W.cell? ⟨Bp, 1, none⟩ = some (.int .i64 bz) →
        Calls Tryz.prog 89 #[.pointer (some ⟨Ap, 0, none⟩), .pointer (some ⟨Bp, 0, none⟩)] W fun e w' => e = flt r.2 ∧ Below W.heap.size W w')) :
    Calls Tryz.prog 27 #[.agg #[.int .i64 ax, .int .i64 ay], .agg #[.int .i64 bx, .int .i64 bz]] w fun e w' => e = .returned (.tuple #[.int .i64 r.1, .int .i64 r.2]) ∧ Below w.heap.size w w' := by
  have hmf : ∀ (fn : Fn) (first cap : Array Value) (w : World), (Instr.makeFunc fn first cap).run Tryz.prog w = .ok (.func fn first cap) w := fun _ _ _ _ => rfl
  have ha := attempt_int 89 #[.pointer (some ⟨w.heap.size, 0, none⟩), .pointer (some ⟨w.heap.size + 1, 0, none⟩)] r
    ((w.alloc (.cells #[.int .i64 ax, .int .i64 ay] 33)).alloc (.cells #[.int .i64 bx, .int .i64 bz] 33)) enters_farther
    (by
      rcases hin with ⟨h, hin⟩ | ⟨h, hin⟩
      · exact .inl ⟨h, fun W hb => hin _ _ W (cell_later hb (by simp [go_sem])) (cell_later hb (by simp [go_sem])) (cell_later hb (by simp [go_sem])) (cell_later hb (by simp [go_sem]))⟩
      · exact .inr ⟨h, fun W hb => hin _ _ W (cell_later hb (by simp [go_sem])) (cell_later hb (by simp [go_sem])) (cell_later hb (by simp [go_sem])) (cell_later hb (by simp [go_sem]))⟩)
  have HA := Lib.hid ha
  clear ha hin
  go_enter Tryz.func27, Tryz.ntmps27
  go_wp2_with (go_at_call 88; refine HA.out.mono ?_; rintro e w1 ⟨rfl, hb⟩)
  go_ret2
  exact ⟨rfl, (((Below.refl w.heap.size w).alloc (Nat.le_refl _) _).alloc (by simp) _).trans (hb.mono (by simp; omega))⟩

/-- What Farther gives: the value and the error. -/
def fartherS (ax ay bx bz : Int) : Int × Int := if Vld ax ∧ Vld ay ∧ Vld bx ∧ Vld bz then (cmp3 (((ax.natAbs * ax.natAbs + ay.natAbs * ay.natAbs : Nat) : Int)) (((bx.natAbs * bx.natAbs + bz.natAbs * bz.natAbs : Nat) : Int)), 0) else (0, 2)

theorem farther_any (ax ay bx bz : Int) (w : World) :
    Calls Tryz.prog 27 #[.agg #[.int .i64 ax, .int .i64 ay], .agg #[.int .i64 bx, .int .i64 bz]] w fun e w' => e = .returned (.tuple #[.int .i64 (fartherS ax ay bx bz).1, .int .i64 (fartherS ax ay bx bz).2]) ∧ Below w.heap.size w w' := by
  apply farther_out
  unfold fartherS
  by_cases hv : Vld ax ∧ Vld ay ∧ Vld bx ∧ Vld bz
  · rw [if_pos hv]
    exact .inl ⟨rfl, fun A B W c0 c1 c2 c3 => farther_in ax ay bx bz _ _ A B W hv (fun w => dot_self ax ay w ⟨hv.1, hv.2.1⟩) (fun w => dot_self bx bz w hv.2.2) c0 c1 c2 c3⟩
  · rw [if_neg hv]
    exact .inr ⟨rfl, fun A B W c0 c1 c2 c3 => farther_arg ax ay bx bz A B W hv c0 c1 c2 c3⟩

end Go.Proofs.YtebfhjndgfcijaaGreatDoor
