/- The contract of package fixed's Minus. No conditions. -/
import Derived.Test.YtebfhjndgfcijaaGreatDoorPair
namespace Go.Proofs.YtebfhjndgfcijaaGreatDoor
open Go Go.RowKit

set_option maxRecDepth 100000 in
set_option maxHeartbeats 1000000 in
theorem minus_step_ok (a b : Int) (w : World) (ha : Vld a) (hb : Vld b) (h : Vld (a - b)) :
    Calls Tryz.prog 69 #[.agg #[.int .i64 a, .int .i64 b]] w fun e w' => e = .returned (.int .i64 (a - b)) ∧ Below w.heap.size w w' := by
  have CF := Lib.hid (fun w => fitting_ok (a - b) w h)
  have W1 : wrap64 (a - b) = a - b := by unfold Vld at ha hb; unfold wrap64; omega
  clear ha hb h
  go_enter Tryz.func69, Tryz.ntmps69
  go_wp2_with (go_at_call 65; refine (CF.out _).mono ?_; rintro e w' ⟨rfl, rfl⟩)
  go_ret
  exact ⟨rfl, (Below.refl _ _).alloc (Nat.le_refl _) _⟩

set_option maxRecDepth 100000 in
set_option maxHeartbeats 1000000 in
theorem minus_step_bad (a b : Int) (w : World) (ha : Vld a) (hb : Vld b) (h : ¬ Vld (a - b)) :
    Calls Tryz.prog 69 #[.agg #[.int .i64 a, .int .i64 b]] w fun e w' => e = flt 4 ∧ Below w.heap.size w w' := by
  have CF := Lib.hid (fun w => fitting_bad (a - b) w h)
  have W1 : wrap64 (a - b) = a - b := by unfold Vld at ha hb; unfold wrap64; omega
  clear ha hb h
  go_enter Tryz.func69, Tryz.ntmps69
  go_wp2_with (go_at_call 65; refine (CF.out _).mono ?_; rintro e w' ⟨rfl, rfl⟩)
  exact ⟨rfl, rfl, (Below.refl _ _).alloc (Nat.le_refl _) _⟩

theorem enters_minus_step (args : Array Value) (w : World) : (callFunc 69 args).run Tryz.prog w = .ok (.enter 69 args) w := by
  simp [go_sem]

set_option maxRecDepth 100000 in
set_option maxHeartbeats 1000000 in
theorem minus_in_ok (ax ay bx bz u v : Int) (Ap Bp : Nat) (w : World) (hv : Vld ax ∧ Vld ay ∧ Vld bx ∧ Vld bz)
    (ce : ∀ w, Calls Tryz.prog 63 #[.agg #[.int .i64 ax, .int .i64 bx], .agg #[.int .i64 ay, .int .i64 bz], .func (.func 69) #[] #[]] w fun e w' => e = .returned (.agg #[.int .i64 u, .int .i64 v]) ∧ Below w.heap.size w w')
    (c0 : w.cell? ⟨Ap, 0, none⟩ = some (.int .i64 ax)) (c1 : w.cell? ⟨Ap, 1, none⟩ = some (.int .i64 ay)) (c2 : w.cell? ⟨Bp, 0, none⟩ = some (.int .i64 bx)) (c3 : w.cell? ⟨Bp, 1, none⟩ = some (.int .i64 bz)) :
    Calls Tryz.prog 68 #[.pointer (some ⟨Ap, 0, none⟩), .pointer (some ⟨Bp, 0, none⟩)] w fun e w' => e = .returned (.agg #[.int .i64 u, .int .i64 v]) ∧ Below w.heap.size w w' := by
  have HV := Lib.hid hv
  have CE := Lib.hid ce
  have l0 : Ap < w.heap.size := World.block_lt_of_cell? _ _ c0
  have l1 : Bp < w.heap.size := World.block_lt_of_cell? _ _ c2
  have l2 : Ap < w.heap.size + 1 := by omega
  have l3 : Bp < w.heap.size + 1 := by omega
  have l4 : Ap < w.heap.size + 1 + 1 := by omega
  have l5 : Bp < w.heap.size + 1 + 1 := by omega
  clear hv ce
  go_enter Tryz.func68, Tryz.ntmps68
  go_wp2_with (go_at_call 62; refine (need4_ok ax ay bx bz _ _ HV.out (by simp [go_sem]) (by simp [go_sem]) (by simp [go_sem]) (by simp [go_sem])).mono ?_; rintro e w' ⟨rfl, rfl⟩)
  refine (CE.out _).mono ?_
  rintro e w1 ⟨rfl, hb1⟩
  have hB1 : Below w.heap.size w w1 := (((Below.refl w.heap.size w).alloc (Nat.le_refl _) _).alloc (by simp) _).trans (hb1.mono (by simp; omega))
  obtain ⟨t0, t1⟩ : SpotAt w1 w.heap.size 0 0 := spot_later hb1 (spot_alloc (spot_new w 0 0) _)
  have f0 : w1.frozen? ⟨w.heap.size, 0, none⟩ = false := (hb1.frozen (p := ⟨w.heap.size, 0, none⟩) (by simp; omega)).trans (by simp [go_sem])
  have f1 : w1.frozen? ⟨w.heap.size, 1, none⟩ = false := (hb1.frozen (p := ⟨w.heap.size, 1, none⟩) (by simp; omega)).trans (by simp [go_sem])
  go_wp2
  obtain ⟨k1, k2⟩ := set_pair (.int .i64 u) (.int .i64 v) t0 t1
  exact bodyPost_ret (v := .agg #[.int .i64 u, .int .i64 v]) (by simp [results, Tryz.results68, go_sem, k1, k2]) rfl
    ⟨rfl, (hB1.setCell (by simp) _).setCell (by simp) _⟩

set_option maxRecDepth 100000 in
set_option maxHeartbeats 1000000 in
theorem minus_in_flt (ax ay bx bz n : Int) (Ap Bp : Nat) (w : World) (hv : Vld ax ∧ Vld ay ∧ Vld bx ∧ Vld bz)
    (ce : ∀ w, Calls Tryz.prog 63 #[.agg #[.int .i64 ax, .int .i64 bx], .agg #[.int .i64 ay, .int .i64 bz], .func (.func 69) #[] #[]] w fun e w' => e = flt n ∧ Below w.heap.size w w')
    (c0 : w.cell? ⟨Ap, 0, none⟩ = some (.int .i64 ax)) (c1 : w.cell? ⟨Ap, 1, none⟩ = some (.int .i64 ay)) (c2 : w.cell? ⟨Bp, 0, none⟩ = some (.int .i64 bx)) (c3 : w.cell? ⟨Bp, 1, none⟩ = some (.int .i64 bz)) :
    Calls Tryz.prog 68 #[.pointer (some ⟨Ap, 0, none⟩), .pointer (some ⟨Bp, 0, none⟩)] w fun e w' => e = flt n ∧ Below w.heap.size w w' := by
  have HV := Lib.hid hv
  have CE := Lib.hid ce
  have l0 : Ap < w.heap.size := World.block_lt_of_cell? _ _ c0
  have l1 : Bp < w.heap.size := World.block_lt_of_cell? _ _ c2
  have l2 : Ap < w.heap.size + 1 := by omega
  have l3 : Bp < w.heap.size + 1 := by omega
  have l4 : Ap < w.heap.size + 1 + 1 := by omega
  have l5 : Bp < w.heap.size + 1 + 1 := by omega
  clear hv ce
  go_enter Tryz.func68, Tryz.ntmps68
  go_wp2_with (go_at_call 62; refine (need4_ok ax ay bx bz _ _ HV.out (by simp [go_sem]) (by simp [go_sem]) (by simp [go_sem]) (by simp [go_sem])).mono ?_; rintro e w' ⟨rfl, rfl⟩)
  refine (CE.out _).mono ?_
  rintro e w1 ⟨rfl, hb1⟩
  exact ⟨rfl, rfl, (((Below.refl w.heap.size w).alloc (Nat.le_refl _) _).alloc (by simp) _).trans (hb1.mono (by simp; omega))⟩

set_option maxHeartbeats 1000000 in
theorem minus_arg (ax ay bx bz : Int) (Ap Bp : Nat) (w : World) (hv : ¬ (Vld ax ∧ Vld ay ∧ Vld bx ∧ Vld bz)) (c0 : w.cell? ⟨Ap, 0, none⟩ = some (.int .i64 ax)) (c1 : w.cell? ⟨Ap, 1, none⟩ = some (.int .i64 ay)) (c2 : w.cell? ⟨Bp, 0, none⟩ = some (.int .i64 bx)) (c3 : w.cell? ⟨Bp, 1, none⟩ = some (.int .i64 bz)) :
    Calls Tryz.prog 68 #[.pointer (some ⟨Ap, 0, none⟩), .pointer (some ⟨Bp, 0, none⟩)] w fun e w' => e = flt 2 ∧ Below w.heap.size w w' := by
  have HV := Lib.hid hv
  have l0 : Ap < w.heap.size := World.block_lt_of_cell? _ _ c0
  have l1 : Bp < w.heap.size := World.block_lt_of_cell? _ _ c2
  clear hv
  go_enter Tryz.func68, Tryz.ntmps68
  go_wp2_with (go_at_call 62; refine (need4_bad ax ay bx bz _ _ HV.out (by simp [go_sem]) (by simp [go_sem]) (by simp [go_sem]) (by simp [go_sem])).mono ?_; rintro e w' ⟨rfl, rfl⟩)
  exact ⟨rfl, rfl, ((Below.refl w.heap.size w).alloc (Nat.le_refl _) _).alloc (by simp) _⟩

theorem enters_minus (args : Array Value) (w : World) : (callFunc 68 args).run Tryz.prog w = .ok (.enter 68 args) w := by
  simp [go_sem]

set_option maxHeartbeats 1000000 in
theorem minus_out (ax ay bx bz u v n : Int) (w : World)
    (hin : (n = 0 ∧ ∀ Ap Bp W, W.cell? ⟨Ap, 0, none⟩ = some (.int .i64 ax) → W.cell? ⟨Ap, 1, none⟩ = some (.int .i64 ay) → W.cell? ⟨Bp, 0, none⟩ = some (.int .i64 bx) → W.cell? ⟨Bp, 1, none⟩ = some (.int .i64 bz) →
        Calls Tryz.prog 68 #[.pointer (some ⟨Ap, 0, none⟩), .pointer (some ⟨Bp, 0, none⟩)] W fun e w' => e = .returned (.agg #[.int .i64 u, .int .i64 v]) ∧ Below W.heap.size W w') ∨
      ((u = 0 ∧ v = 0) ∧ ∀ Ap Bp W, W.cell? ⟨Ap, 0, none⟩ = some (.int .i64 ax) → W.cell? ⟨Ap, 1, none⟩ = some (.int .i64 ay) → W.cell? ⟨Bp, 0, none⟩ = some (.int .i64 bx) → W.cell? ⟨Bp, 1, none⟩ = some (.int .i64 bz) →
        Calls Tryz.prog 68 #[.pointer (some ⟨Ap, 0, none⟩), .pointer (some ⟨Bp, 0, none⟩)] W fun e w' => e = flt n ∧ Below W.heap.size W w')) :
    Calls Tryz.prog 14 #[.agg #[.int .i64 ax, .int .i64 ay], .agg #[.int .i64 bx, .int .i64 bz]] w fun e w' => e = .returned (.tuple #[.agg #[.int .i64 u, .int .i64 v], .int .i64 n]) ∧ Below w.heap.size w w' := by
  have hmf : ∀ (fn : Fn) (first cap : Array Value) (w : World), (Instr.makeFunc fn first cap).run Tryz.prog w = .ok (.func fn first cap) w := fun _ _ _ _ => rfl
  have ha := attempt_spot 68 #[.pointer (some ⟨w.heap.size, 0, none⟩), .pointer (some ⟨w.heap.size + 1, 0, none⟩)] u v n
    (((w.alloc (.cells #[.int .i64 ax, .int .i64 ay] 33)).alloc (.cells #[.int .i64 bx, .int .i64 bz] 33)).alloc (.cells #[.int .i64 0, .int .i64 0] 33)) enters_minus
    (by
      rcases hin with ⟨h, hin⟩ | ⟨h, hin⟩
      · exact .inl ⟨h, fun W hb => hin _ _ W (cell_later hb (by simp [go_sem])) (cell_later hb (by simp [go_sem])) (cell_later hb (by simp [go_sem])) (cell_later hb (by simp [go_sem]))⟩
      · exact .inr ⟨h, fun W hb => hin _ _ W (cell_later hb (by simp [go_sem])) (cell_later hb (by simp [go_sem])) (cell_later hb (by simp [go_sem])) (cell_later hb (by simp [go_sem]))⟩)
  have HA := Lib.hid ha
  clear ha hin
  go_enter Tryz.func14, Tryz.ntmps14
  go_wp2_with fail
  refine HA.out.mono ?_
  rintro e w1 ⟨rfl, hb⟩
  obtain ⟨hc, hf⟩ := bcell hb
  have t0 : w1.cell? ⟨w.heap.size + 1 + 1, 0, none⟩ = some (.int .i64 0) := cell_later hb (by simp [go_sem])
  have t1 : w1.cell? ⟨w.heap.size + 1 + 1, 1, none⟩ = some (.int .i64 0) := cell_later hb (by simp [go_sem])
  go_wp2
  obtain ⟨k1, k2⟩ := set_pair (.int .i64 u) (.int .i64 v) t0 t1
  exact bodyPost_ret (v := .tuple #[.agg #[.int .i64 u, .int .i64 v], .int .i64 n]) (by simp [results, Tryz.results14, go_sem, k1, k2]) rfl
    ⟨rfl, ((((((Below.refl w.heap.size w).alloc (Nat.le_refl _) _).alloc (by simp) _).alloc (by simp; omega) _).trans (hb.mono (by simp; omega))).setCell (by simp; omega) _).setCell (by simp; omega) _⟩

/-- What Minus gives: the coordinates and the error. -/
def minusS (ax ay bx bz : Int) : (Int × Int) × Int :=
  if Vld ax ∧ Vld ay ∧ Vld bx ∧ Vld bz then (if Vld (ax - bx) ∧ Vld (ay - bz) then ((ax - bx, ay - bz), 0) else ((0, 0), 4)) else ((0, 0), 2)

theorem minus_spot (ax ay bx bz : Int) (w : World) :
    Calls Tryz.prog 14 #[.agg #[.int .i64 ax, .int .i64 ay], .agg #[.int .i64 bx, .int .i64 bz]] w fun e w' => e = .returned (.tuple #[.agg #[.int .i64 (minusS ax ay bx bz).1.1, .int .i64 (minusS ax ay bx bz).1.2], .int .i64 (minusS ax ay bx bz).2]) ∧ Below w.heap.size w w' := by
  apply minus_out
  unfold minusS
  by_cases hv : Vld ax ∧ Vld ay ∧ Vld bx ∧ Vld bz
  · rw [if_pos hv]
    obtain ⟨v1, v2, v3, v4⟩ := hv
    by_cases hx : Vld (ax - bx)
    · by_cases hy : Vld (ay - bz)
      · rw [if_pos ⟨hx, hy⟩]
        exact .inl ⟨rfl, fun A B W c0 c1 c2 c3 => minus_in_ok ax ay bx bz _ _ A B W ⟨v1, v2, v3, v4⟩ (fun w => each_pair ax bx ay bz _ _ _ w enters_minus_step (fun W => minus_step_ok ax bx W v1 v3 hx) (fun W => minus_step_ok ay bz W v2 v4 hy)) c0 c1 c2 c3⟩
      · rw [if_neg (fun h => hy h.2)]
        exact .inr ⟨⟨rfl, rfl⟩, fun A B W c0 c1 c2 c3 => minus_in_flt ax ay bx bz 4 A B W ⟨v1, v2, v3, v4⟩ (fun w => each_pair_y ax bx ay bz _ 4 _ w enters_minus_step (fun W => minus_step_ok ax bx W v1 v3 hx) (fun W => minus_step_bad ay bz W v2 v4 hy)) c0 c1 c2 c3⟩
    · rw [if_neg (fun h => hx h.1)]
      exact .inr ⟨⟨rfl, rfl⟩, fun A B W c0 c1 c2 c3 => minus_in_flt ax ay bx bz 4 A B W ⟨v1, v2, v3, v4⟩ (fun w => each_pair_x ax bx ay bz 4 _ w enters_minus_step (fun W => minus_step_bad ax bx W v1 v3 hx)) c0 c1 c2 c3⟩
  · rw [if_neg hv]
    exact .inr ⟨⟨rfl, rfl⟩, fun A B W c0 c1 c2 c3 => minus_arg ax ay bx bz A B W hv c0 c1 c2 c3⟩

end Go.Proofs.YtebfhjndgfcijaaGreatDoor
