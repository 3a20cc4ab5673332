/- The contract of package fixed's Root: the rounded root, or the error, as rootfS says. No conditions. -/
import Derived.Test.YtfpfpmacobkmhaaGreatDoorRoots
import Derived.Test.YtfpfpmacobkmhaaGreatDoorNeeds
namespace Go.Proofs.YtfpfpmacobkmhaaGreatDoor
open Go Go.RowKit

set_option maxHeartbeats 1000000 in
theorem rootf_in (a how : Int) (Ap Hp : Nat) (w : World) (E : Ending) (hv : Vld a) (h0 : 0 ≤ how) (h1 : how ≤ 3) (ha : 0 ≤ a)
    (hE : (∃ z, E = .returned (.int .i64 z)) ∨ (∃ n, E = flt n))
    (co : ∀ W, Calls Tryz.prog 52 #[.agg #[.int .i64 (hiOf (a * 65536)), .int .u64 (loOf (a * 65536))], .func (.func (wayFn how)) #[] #[]] W fun e w' => e = E ∧ Below W.heap.size W w')
    (c0 : w.cell? ⟨Ap, 0, none⟩ = some (.int .i64 a)) (c1 : w.cell? ⟨Hp, 0, none⟩ = some (.int .i64 how)) :
    Calls Tryz.prog 51 #[.pointer (some ⟨Ap, 0, none⟩), .pointer (some ⟨Hp, 0, none⟩)] w fun e w' => e = E ∧ Below w.heap.size w w' := by
  have a1 : a ≤ 9223372036854775807 := by unfold Vld at hv; omega
  have a0 : -9223372036854775807 ≤ a := by omega
  have HV := Lib.hid hv
  have CO := Lib.hid co
  have HE := Lib.hid hE
  have CW := Lib.hid (fun w => way_ok how w h0 h1)
  have CP := Lib.hid (fun w => product_any a 65536 w a0 a1 (by omega) (by omega))
  clear hv co hE a0 a1 h0 h1
  go_enter Tryz.func51, Tryz.ntmps51
  go_wp2_with (first | (go_at_call 28; refine (need1_ok a _ _ HV.out (by simp [go_sem])).mono ?_; rintro e w' ⟨rfl, rfl⟩; have d0 := alloc_cell (o := .cells #[.int .i64 a] 22) c0; have d1 := alloc_cell (o := .cells #[.int .i64 a] 22) c1) | (go_at_call 31; refine (CW.out _).mono ?_; rintro e w' ⟨rfl, rfl⟩) | (go_at_call 29; refine (CP.out _).mono ?_; rintro e w1 ⟨rfl, hb1⟩))
  refine (CO.out _).mono ?_
  rintro e w' ⟨he, hb⟩
  have hB : Below w.heap.size w w1 := ((Below.refl w.heap.size w).alloc (Nat.le_refl _) _).trans (hb1.mono (by simp))
  rcases HE.out with ⟨z, hz⟩ | ⟨n, hz⟩ <;> (subst he; subst hz)
  · go_wp2
    go_ret
    exact ⟨rfl, kc hB hb⟩
  · exact ⟨rfl, rfl, kc hB hb⟩

set_option maxHeartbeats 1000000 in
theorem rootf_less (a how : Int) (Ap Hp : Nat) (w : World) (hv : Vld a) (h0 : 0 ≤ how) (h1 : how ≤ 3) (ha : a < 0)
    (c0 : w.cell? ⟨Ap, 0, none⟩ = some (.int .i64 a)) (c1 : w.cell? ⟨Hp, 0, none⟩ = some (.int .i64 how)) :
    Calls Tryz.prog 51 #[.pointer (some ⟨Ap, 0, none⟩), .pointer (some ⟨Hp, 0, none⟩)] w fun e w' => e = flt 11 ∧ Below w.heap.size w w' := by
  have HV := Lib.hid hv
  have CW := Lib.hid (fun w => way_ok how w h0 h1)
  clear hv h0 h1
  go_enter Tryz.func51, Tryz.ntmps51
  go_wp2_with (first | (go_at_call 28; refine (need1_ok a _ _ HV.out (by simp [go_sem])).mono ?_; rintro e w' ⟨rfl, rfl⟩; have d0 := alloc_cell (o := .cells #[.int .i64 a] 22) c0; have d1 := alloc_cell (o := .cells #[.int .i64 a] 22) c1) | (go_at_call 31; refine (CW.out _).mono ?_; rintro e w' ⟨rfl, rfl⟩))
  exact ⟨rfl, rfl, (Below.refl w.heap.size w).alloc (Nat.le_refl _) _⟩

set_option maxHeartbeats 1000000 in
theorem rootf_how (a how : Int) (Ap Hp : Nat) (w : World) (hv : Vld a) (hh : how < 0 ∨ 3 < how)
    (c0 : w.cell? ⟨Ap, 0, none⟩ = some (.int .i64 a)) (c1 : w.cell? ⟨Hp, 0, none⟩ = some (.int .i64 how)) :
    Calls Tryz.prog 51 #[.pointer (some ⟨Ap, 0, none⟩), .pointer (some ⟨Hp, 0, none⟩)] w fun e w' => e = flt 2 ∧ Below w.heap.size w w' := by
  have HV := Lib.hid hv
  have CW := Lib.hid (fun w => way_bad how w hh)
  clear hv hh
  go_enter Tryz.func51, Tryz.ntmps51
  go_wp2_with (first | (go_at_call 28; refine (need1_ok a _ _ HV.out (by simp [go_sem])).mono ?_; rintro e w' ⟨rfl, rfl⟩; have d1 := alloc_cell (o := .cells #[.int .i64 a] 22) c1) | (go_at_call 31; refine (CW.out _).mono ?_; rintro e w' ⟨rfl, rfl⟩))
  exact ⟨rfl, rfl, (Below.refl w.heap.size w).alloc (Nat.le_refl _) _⟩

set_option maxHeartbeats 1000000 in
theorem rootf_arg (a : Int) (Ap Hp : Nat) (w : World) (hv : ¬ Vld a) (c0 : w.cell? ⟨Ap, 0, none⟩ = some (.int .i64 a)) :
    Calls Tryz.prog 51 #[.pointer (some ⟨Ap, 0, none⟩), .pointer (some ⟨Hp, 0, none⟩)] w fun e w' => e = flt 2 ∧ Below w.heap.size w w' := by
  have HV := Lib.hid hv
  clear hv
  go_enter Tryz.func51, Tryz.ntmps51
  go_wp2_with (go_at_call 28; refine (need1_bad a _ _ HV.out (by simp [go_sem])).mono ?_; rintro e w' ⟨rfl, rfl⟩)
  exact ⟨rfl, rfl, (Below.refl w.heap.size w).alloc (Nat.le_refl _) _⟩

theorem enters_rootf (args : Array Value) (w : World) : (callFunc 51 args).run Tryz.prog w = .ok (.enter 51 args) w := by
  simp [go_sem]

set_option maxHeartbeats 1000000 in
theorem rootf_out (a how : Int) (r : Int × Int) (w : World)
    (hin : (r.2 = 0 ∧ ∀ Ap Hp W, W.cell? ⟨Ap, 0, none⟩ = some (.int .i64 a) → W.cell? ⟨Hp, 0, none⟩ = some (.int .i64 how) →
        Calls Tryz.prog 51 #[.pointer (some ⟨Ap, 0, none⟩), .pointer (some ⟨Hp, 0, none⟩)] W fun e w' => e = .returned (.int .i64 r.1) ∧ Below W.heap.size W w') ∨
      (r.1 = 0 ∧ ∀ Ap Hp W, W.cell? ⟨Ap, 0, none⟩ = some (.int .i64 a) → W.cell? ⟨Hp, 0, none⟩ = some (.int .i64 how) →
        Calls Tryz.prog 51 #[.pointer (some ⟨Ap, 0, none⟩), .pointer (some ⟨Hp, 0, none⟩)] W fun e w' => e = flt r.2 ∧ Below W.heap.size W w')) :
    Calls Tryz.prog 23 #[.int .i64 a, .int .i64 how] w fun e w' => e = .returned (.tuple #[.int .i64 r.1, .int .i64 r.2]) ∧ Below w.heap.size w w' := by
  have hmf : ∀ (fn : Fn) (first cap : Array Value) (w : World), (Instr.makeFunc fn first cap).run Tryz.prog w = .ok (.func fn first cap) w := fun _ _ _ _ => rfl
  have ha := attempt_fix 51 #[.pointer (some ⟨w.heap.size, 0, none⟩), .pointer (some ⟨w.heap.size + 1, 0, none⟩)] r
    ((w.alloc (.cells #[.int .i64 a] 22)).alloc (.cells #[.int .i64 how] 3)) enters_rootf
    (by
      rcases hin with ⟨h, hin⟩ | ⟨h, hin⟩
      · exact .inl ⟨h, fun W hb => hin _ _ W (cell_later hb (by simp [go_sem])) (cell_later hb (by simp [go_sem]))⟩
      · exact .inr ⟨h, fun W hb => hin _ _ W (cell_later hb (by simp [go_sem])) (cell_later hb (by simp [go_sem]))⟩)
  have HA := Lib.hid ha
  clear ha hin
  go_enter Tryz.func23, Tryz.ntmps23
  go_wp2_with (go_at_call 37; refine HA.out.mono ?_; rintro e w1 ⟨rfl, hb⟩)
  go_ret2
  exact ⟨rfl, (((Below.refl w.heap.size w).alloc (Nat.le_refl _) _).alloc (by simp) _).trans (hb.mono (by simp; omega))⟩

/-- What Root gives: the value and the error. -/
noncomputable def rootfS (a how : Int) : Int × Int :=
  if Vld a ∧ 0 ≤ how ∧ how ≤ 3 then (if a < 0 then (0, 11) else (rootS how (a.natAbs * 65536), 0)) else (0, 2)

theorem rootS_vld (a how : Int) (hv : Vld a) : Vld (rootS how (a.natAbs * 65536)) ∧ 0 ≤ rootS how (a.natAbs * 65536) := by
  unfold Vld at hv
  have h := sq_lt (a := isq (a.natAbs * 65536)) (b := 4294967296) (Nat.lt_of_le_of_lt (isq_le _) (by omega))
  unfold rootS Vld
  split <;> omega

theorem rootf_any (a how : Int) (w : World) :
    Calls Tryz.prog 23 #[.int .i64 a, .int .i64 how] w fun e w' => e = .returned (.tuple #[.int .i64 (rootfS a how).1, .int .i64 (rootfS a how).2]) ∧ Below w.heap.size w w' := by
  apply rootf_out
  unfold rootfS
  by_cases hv : Vld a
  · by_cases hh : 0 ≤ how ∧ how ≤ 3
    · rw [if_pos ⟨hv, hh⟩]
      by_cases ha : a < 0
      · rw [if_pos ha]
        exact .inr ⟨rfl, fun A H W ca ch => rootf_less a how A H W hv hh.1 hh.2 ha ca ch⟩
      · rw [if_neg ha]
        have e : a * 65536 = ((a.natAbs * 65536 : Nat) : Int) := by omega
        have hV : a.natAbs * 65536 < 19807040628566084398385987584 := by unfold Vld at hv; omega
        refine .inl ⟨rfl, fun A H W ca ch => rootf_in a how A H W _ hv hh.1 hh.2 (by omega) (.inl ⟨_, rfl⟩) (fun W => ?_) ca ch⟩
        rw [e]
        exact (root_any how (a.natAbs * 65536) W hh.1 hh.2 hV).1 (rootS_vld a how hv).1
    · rw [if_neg (fun h => hh h.2)]
      exact .inr ⟨rfl, fun A H W ca ch => rootf_how a how A H W hv (by omega) ca ch⟩
  · rw [if_neg (fun h => hv h.1)]
    exact .inr ⟨rfl, fun A H W ca _ => rootf_arg a A H W hv ca⟩

end Go.Proofs.YtfpfpmacobkmhaaGreatDoor
