/- The contracts of package fixed's Of, Add and Sub. No conditions. -/
import Derived.Test.YtfpfpmacobkmhaaGreatDoorNeeds
namespace Go.Proofs.YtfpfpmacobkmhaaGreatDoor
open Go Go.RowKit

/-- What Of gives. -/
def ofS (n : Int) : Int × Int := if -1073741824 ≤ n ∧ n ≤ 1073741824 then (n * 65536, 0) else (0, 4)

set_option maxRecDepth 100000 in
set_option maxHeartbeats 1000000 in
theorem of_in (n : Int) (w : World) (h0 : -1073741824 ≤ n) (h1 : n ≤ 1073741824) :
    Calls Tryz.prog 5 #[.int .i64 n] w fun e w' => e = .returned (.tuple #[.int .i64 (n * 65536), .int .i64 0]) ∧ Below w.heap.size w w' := by
  go_enter Tryz.func5, Tryz.ntmps5
  go_wp2
  go_ret2
  exact ⟨rfl, Below.refl _ _⟩
set_option maxRecDepth 100000 in
set_option maxHeartbeats 1000000 in
theorem of_out (n : Int) (w : World) (h : n < -1073741824 ∨ 1073741824 < n) :
    Calls Tryz.prog 5 #[.int .i64 n] w fun e w' => e = .returned (.tuple #[.int .i64 0, .int .i64 4]) ∧ Below w.heap.size w w' := by
  rcases h with h | h
  · go_enter Tryz.func5, Tryz.ntmps5
    go_wp2
    go_ret2
    exact ⟨rfl, Below.refl _ _⟩
  · have h2 : -1073741824 ≤ n := by omega
    go_enter Tryz.func5, Tryz.ntmps5
    go_wp2
    go_ret2
    exact ⟨rfl, Below.refl _ _⟩
theorem of_fix (n : Int) (w : World) :
    Calls Tryz.prog 5 #[.int .i64 n] w fun e w' => e = .returned (.tuple #[.int .i64 (ofS n).1, .int .i64 (ofS n).2]) ∧ Below w.heap.size w w' := by
  unfold ofS
  by_cases h : -1073741824 ≤ n ∧ n ≤ 1073741824
  · rw [if_pos h]
    exact of_in n w h.1 h.2
  · rw [if_neg h]
    exact of_out n w (by omega)

set_option maxRecDepth 100000 in
set_option maxHeartbeats 1000000 in
theorem add_in_ok (a b s : Int) (Ap Bp : Nat) (w : World) (hv : Vld a ∧ Vld b) (hs : a + b = s) (h : Vld s) (c0 : w.cell? ⟨Ap, 0, none⟩ = some (.int .i64 a)) (c1 : w.cell? ⟨Bp, 0, none⟩ = some (.int .i64 b)) :
    Calls Tryz.prog 38 #[.pointer (some ⟨Ap, 0, none⟩), .pointer (some ⟨Bp, 0, none⟩)] w fun e w' => e = .returned (.int .i64 s) ∧ Below w.heap.size w w' := by
  have HV := Lib.hid hv
  have CF := Lib.hid (fun w => fitting_ok s w h)
  have W1 : wrap64 (a + b) = s := by unfold Vld at hv; unfold wrap64; omega
  have l0 : Ap < w.heap.size := World.block_lt_of_cell? _ _ c0
  have l1 : Bp < w.heap.size := World.block_lt_of_cell? _ _ c1
  clear hv hs h
  go_enter Tryz.func38, Tryz.ntmps38
  go_wp2_with (first | (go_at_call 28; refine (need2_ok a b _ _ HV.out (by simp [go_sem]) (by simp [go_sem])).mono ?_; rintro e w' ⟨rfl, rfl⟩) | (go_at_call 39; refine (CF.out _).mono ?_; rintro e w' ⟨rfl, rfl⟩))
  go_ret
  exact ⟨rfl, (Below.refl _ _).alloc (Nat.le_refl _) _⟩

set_option maxRecDepth 100000 in
set_option maxHeartbeats 1000000 in
theorem add_in_bad (a b s : Int) (Ap Bp : Nat) (w : World) (hv : Vld a ∧ Vld b) (hs : a + b = s) (h : ¬ Vld s) (c0 : w.cell? ⟨Ap, 0, none⟩ = some (.int .i64 a)) (c1 : w.cell? ⟨Bp, 0, none⟩ = some (.int .i64 b)) :
    Calls Tryz.prog 38 #[.pointer (some ⟨Ap, 0, none⟩), .pointer (some ⟨Bp, 0, none⟩)] w fun e w' => e = flt 4 ∧ Below w.heap.size w w' := by
  have HV := Lib.hid hv
  have CF := Lib.hid (fun w => fitting_bad s w h)
  have W1 : wrap64 (a + b) = s := by unfold Vld at hv; unfold wrap64; omega
  have l0 : Ap < w.heap.size := World.block_lt_of_cell? _ _ c0
  have l1 : Bp < w.heap.size := World.block_lt_of_cell? _ _ c1
  clear hv hs h
  go_enter Tryz.func38, Tryz.ntmps38
  go_wp2_with (first | (go_at_call 28; refine (need2_ok a b _ _ HV.out (by simp [go_sem]) (by simp [go_sem])).mono ?_; rintro e w' ⟨rfl, rfl⟩) | (go_at_call 39; refine (CF.out _).mono ?_; rintro e w' ⟨rfl, rfl⟩))
  exact ⟨rfl, rfl, (Below.refl _ _).alloc (Nat.le_refl _) _⟩

set_option maxRecDepth 100000 in
set_option maxHeartbeats 1000000 in
theorem add_in_arg (a b : Int) (Ap Bp : Nat) (w : World) (hv : ¬ (Vld a ∧ Vld b)) (c0 : w.cell? ⟨Ap, 0, none⟩ = some (.int .i64 a)) (c1 : w.cell? ⟨Bp, 0, none⟩ = some (.int .i64 b)) :
    Calls Tryz.prog 38 #[.pointer (some ⟨Ap, 0, none⟩), .pointer (some ⟨Bp, 0, none⟩)] w fun e w' => e = flt 2 ∧ Below w.heap.size w w' := by
  have HV := Lib.hid hv
  have l0 : Ap < w.heap.size := World.block_lt_of_cell? _ _ c0
  have l1 : Bp < w.heap.size := World.block_lt_of_cell? _ _ c1
  clear hv
  go_enter Tryz.func38, Tryz.ntmps38
  go_wp2_with (go_at_call 28; refine (need2_bad a b _ _ HV.out (by simp [go_sem]) (by simp [go_sem])).mono ?_; rintro e w' ⟨rfl, rfl⟩)
  exact ⟨rfl, rfl, (Below.refl _ _).alloc (Nat.le_refl _) _⟩

theorem enters_addf (args : Array Value) (w : World) : (callFunc 38 args).run Tryz.prog w = .ok (.enter 38 args) w := by
  simp [go_sem]

set_option maxRecDepth 100000 in
set_option maxHeartbeats 1000000 in
theorem addf_out (a b : Int) (r : Int × Int) (w : World)
    (hin : (r.2 = 0 ∧ ∀ Ap Bp W, W.cell? ⟨Ap, 0, none⟩ = some (.int .i64 a) → W.cell? ⟨Bp, 0, none⟩ = some (.int .i64 b) →
        Calls Tryz.prog 38 #[.pointer (some ⟨Ap, 0, none⟩), .pointer (some ⟨Bp, 0, none⟩)] W fun e w' => e = .returned (.int .i64 r.1) ∧ Below W.heap.size W w') ∨
      (r.1 = 0 ∧ ∀ Ap Bp W, W.cell? ⟨Ap, 0, none⟩ = some (.int .i64 a) → W.cell? ⟨Bp, 0, none⟩ = some (.int .i64 b) →
        Calls Tryz.prog 38 #[.pointer (some ⟨Ap, 0, none⟩), .pointer (some ⟨Bp, 0, none⟩)] W fun e w' => e = flt r.2 ∧ Below W.heap.size W w')) :
    Calls Tryz.prog 9 #[.int .i64 a, .int .i64 b] w fun e w' => e = .returned (.tuple #[.int .i64 r.1, .int .i64 r.2]) ∧ Below w.heap.size w w' := by
  have hmf : ∀ (fn : Fn) (first cap : Array Value) (w : World), (Instr.makeFunc fn first cap).run Tryz.prog w = .ok (.func fn first cap) w := fun _ _ _ _ => rfl
  have ha := attempt_fix 38 #[.pointer (some ⟨w.heap.size, 0, none⟩), .pointer (some ⟨w.heap.size + 1, 0, none⟩)] r
    ((w.alloc (.cells #[.int .i64 a] 22)).alloc (.cells #[.int .i64 b] 22)) enters_addf
    (by
      rcases hin with ⟨h, hin⟩ | ⟨h, hin⟩
      · exact .inl ⟨h, fun W hb => hin _ _ W (cell_later hb (by simp [go_sem])) (cell_later hb (by simp [go_sem]))⟩
      · exact .inr ⟨h, fun W hb => hin _ _ W (cell_later hb (by simp [go_sem])) (cell_later hb (by simp [go_sem]))⟩)
  have HA := Lib.hid ha
  clear ha hin
  go_enter Tryz.func9, Tryz.ntmps9
  go_wp2_with (go_at_call 37; refine HA.out.mono ?_; rintro e w1 ⟨rfl, hb⟩)
  go_ret2
  exact ⟨rfl, (((Below.refl w.heap.size w).alloc (Nat.le_refl _) _).alloc (by simp) _).trans (hb.mono (by simp; omega))⟩

/-- What Add gives. -/
def addS (a b : Int) : Int × Int :=
  if Vld a ∧ Vld b then (if Vld (a + b) then (a + b, 0) else (0, 4)) else (0, 2)

theorem add_fix (a b : Int) (w : World) :
    Calls Tryz.prog 9 #[.int .i64 a, .int .i64 b] w fun e w' => e = .returned (.tuple #[.int .i64 (addS a b).1, .int .i64 (addS a b).2]) ∧ Below w.heap.size w w' := by
  apply addf_out
  unfold addS
  by_cases hv : Vld a ∧ Vld b
  · rw [if_pos hv]
    by_cases h : Vld (a + b)
    · rw [if_pos h]
      exact .inl ⟨rfl, fun A B W c0 c1 => add_in_ok a b _ A B W hv rfl h c0 c1⟩
    · rw [if_neg h]
      exact .inr ⟨rfl, fun A B W c0 c1 => add_in_bad a b _ A B W hv rfl h c0 c1⟩
  · rw [if_neg hv]
    exact .inr ⟨rfl, fun A B W c0 c1 => add_in_arg a b A B W hv c0 c1⟩

set_option maxRecDepth 100000 in
set_option maxHeartbeats 1000000 in
theorem sub_in_ok (a b s : Int) (Ap Bp : Nat) (w : World) (hv : Vld a ∧ Vld b) (hs : a - b = s) (h : Vld s) (c0 : w.cell? ⟨Ap, 0, none⟩ = some (.int .i64 a)) (c1 : w.cell? ⟨Bp, 0, none⟩ = some (.int .i64 b)) :
    Calls Tryz.prog 41 #[.pointer (some ⟨Ap, 0, none⟩), .pointer (some ⟨Bp, 0, none⟩)] w fun e w' => e = .returned (.int .i64 s) ∧ Below w.heap.size w w' := by
  have HV := Lib.hid hv
  have CF := Lib.hid (fun w => fitting_ok s w h)
  have W1 : wrap64 (a - b) = s := by unfold Vld at hv; unfold wrap64; omega
  have l0 : Ap < w.heap.size := World.block_lt_of_cell? _ _ c0
  have l1 : Bp < w.heap.size := World.block_lt_of_cell? _ _ c1
  clear hv hs h
  go_enter Tryz.func41, Tryz.ntmps41
  go_wp2_with (first | (go_at_call 28; refine (need2_ok a b _ _ HV.out (by simp [go_sem]) (by simp [go_sem])).mono ?_; rintro e w' ⟨rfl, rfl⟩) | (go_at_call 39; refine (CF.out _).mono ?_; rintro e w' ⟨rfl, rfl⟩))
  go_ret
  exact ⟨rfl, (Below.refl _ _).alloc (Nat.le_refl _) _⟩

set_option maxRecDepth 100000 in
set_option maxHeartbeats 1000000 in
theorem sub_in_bad (a b s : Int) (Ap Bp : Nat) (w : World) (hv : Vld a ∧ Vld b) (hs : a - b = s) (h : ¬ Vld s) (c0 : w.cell? ⟨Ap, 0, none⟩ = some (.int .i64 a)) (c1 : w.cell? ⟨Bp, 0, none⟩ = some (.int .i64 b)) :
    Calls Tryz.prog 41 #[.pointer (some ⟨Ap, 0, none⟩), .pointer (some ⟨Bp, 0, none⟩)] w fun e w' => e = flt 4 ∧ Below w.heap.size w w' := by
  have HV := Lib.hid hv
  have CF := Lib.hid (fun w => fitting_bad s w h)
  have W1 : wrap64 (a - b) = s := by unfold Vld at hv; unfold wrap64; omega
  have l0 : Ap < w.heap.size := World.block_lt_of_cell? _ _ c0
  have l1 : Bp < w.heap.size := World.block_lt_of_cell? _ _ c1
  clear hv hs h
  go_enter Tryz.func41, Tryz.ntmps41
  go_wp2_with (first | (go_at_call 28; refine (need2_ok a b _ _ HV.out (by simp [go_sem]) (by simp [go_sem])).mono ?_; rintro e w' ⟨rfl, rfl⟩) | (go_at_call 39; refine (CF.out _).mono ?_; rintro e w' ⟨rfl, rfl⟩))
  exact ⟨rfl, rfl, (Below.refl _ _).alloc (Nat.le_refl _) _⟩

set_option maxRecDepth 100000 in
set_option maxHeartbeats 1000000 in
theorem sub_in_arg (a b : Int) (Ap Bp : Nat) (w : World) (hv : ¬ (Vld a ∧ Vld b)) (c0 : w.cell? ⟨Ap, 0, none⟩ = some (.int .i64 a)) (c1 : w.cell? ⟨Bp, 0, none⟩ = some (.int .i64 b)) :
    Calls Tryz.prog 41 #[.pointer (some ⟨Ap, 0, none⟩), .pointer (some ⟨Bp, 0, none⟩)] w fun e w' => e = flt 2 ∧ Below w.heap.size w w' := by
  have HV := Lib.hid hv
  have l0 : Ap < w.heap.size := World.block_lt_of_cell? _ _ c0
  have l1 : Bp < w.heap.size := World.block_lt_of_cell? _ _ c1
  clear hv
  go_enter Tryz.func41, Tryz.ntmps41
  go_wp2_with (go_at_call 28; refine (need2_bad a b _ _ HV.out (by simp [go_sem]) (by simp [go_sem])).mono ?_; rintro e w' ⟨rfl, rfl⟩)
  exact ⟨rfl, rfl, (Below.refl _ _).alloc (Nat.le_refl _) _⟩

theorem enters_subf (args : Array Value) (w : World) : (callFunc 41 args).run Tryz.prog w = .ok (.enter 41 args) w := by
  simp [go_sem]

set_option maxRecDepth 100000 in
set_option maxHeartbeats 1000000 in
theorem subf_out (a b : Int) (r : Int × Int) (w : World)
    (hin : (r.2 = 0 ∧ ∀ Ap Bp W, W.cell? ⟨Ap, 0, none⟩ = some (.int .i64 a) → W.cell? ⟨Bp, 0, none⟩ = some (.int .i64 b) →
        Calls Tryz.prog 41 #[.pointer (some ⟨Ap, 0, none⟩), .pointer (some ⟨Bp, 0, none⟩)] W fun e w' => e = .returned (.int .i64 r.1) ∧ Below W.heap.size W w') ∨
      (r.1 = 0 ∧ ∀ Ap Bp W, W.cell? ⟨Ap, 0, none⟩ = some (.int .i64 a) → W.cell? ⟨Bp, 0, none⟩ = some (.int .i64 b) →
        Calls Tryz.prog 41 #[.pointer (some ⟨Ap, 0, none⟩), .pointer (some ⟨Bp, 0, none⟩)] W fun e w' => e = flt r.2 ∧ Below W.heap.size W w')) :
    Calls Tryz.prog 11 #[.int .i64 a, .int .i64 b] w fun e w' => e = .returned (.tuple #[.int .i64 r.1, .int .i64 r.2]) ∧ Below w.heap.size w w' := by
  have hmf : ∀ (fn : Fn) (first cap : Array Value) (w : World), (Instr.makeFunc fn first cap).run Tryz.prog w = .ok (.func fn first cap) w := fun _ _ _ _ => rfl
  have ha := attempt_fix 41 #[.pointer (some ⟨w.heap.size, 0, none⟩), .pointer (some ⟨w.heap.size + 1, 0, none⟩)] r
    ((w.alloc (.cells #[.int .i64 a] 22)).alloc (.cells #[.int .i64 b] 22)) enters_subf
    (by
      rcases hin with ⟨h, hin⟩ | ⟨h, hin⟩
      · exact .inl ⟨h, fun W hb => hin _ _ W (cell_later hb (by simp [go_sem])) (cell_later hb (by simp [go_sem]))⟩
      · exact .inr ⟨h, fun W hb => hin _ _ W (cell_later hb (by simp [go_sem])) (cell_later hb (by simp [go_sem]))⟩)
  have HA := Lib.hid ha
  clear ha hin
  go_enter Tryz.func11, Tryz.ntmps11
  go_wp2_with (go_at_call 37; refine HA.out.mono ?_; rintro e w1 ⟨rfl, hb⟩)
  go_ret2
  exact ⟨rfl, (((Below.refl w.heap.size w).alloc (Nat.le_refl _) _).alloc (by simp) _).trans (hb.mono (by simp; omega))⟩

/-- What Sub gives. -/
def subS (a b : Int) : Int × Int :=
  if Vld a ∧ Vld b then (if Vld (a - b) then (a - b, 0) else (0, 4)) else (0, 2)

theorem sub_fix (a b : Int) (w : World) :
    Calls Tryz.prog 11 #[.int .i64 a, .int .i64 b] w fun e w' => e = .returned (.tuple #[.int .i64 (subS a b).1, .int .i64 (subS a b).2]) ∧ Below w.heap.size w w' := by
  apply subf_out
  unfold subS
  by_cases hv : Vld a ∧ Vld b
  · rw [if_pos hv]
    by_cases h : Vld (a - b)
    · rw [if_pos h]
      exact .inl ⟨rfl, fun A B W c0 c1 => sub_in_ok a b _ A B W hv rfl h c0 c1⟩
    · rw [if_neg h]
      exact .inr ⟨rfl, fun A B W c0 c1 => sub_in_bad a b _ A B W hv rfl h c0 c1⟩
  · rw [if_neg hv]
    exact .inr ⟨rfl, fun A B W c0 c1 => sub_in_arg a b A B W hv c0 c1⟩

end Go.Proofs.YtfpfpmacobkmhaaGreatDoor
