/- The contracts of package fixed's Int and Of. No conditions. -/
import Derived.Test.YtfpfpmacobkmhaaGreatDoorNeeds
namespace Go.Proofs.YtfpfpmacobkmhaaGreatDoor
open Go Go.RowKit

set_option maxRecDepth 100000 in
set_option maxHeartbeats 1000000 in
theorem intf_in_ok (a how : Int) (Ap Hp : Nat) (w : World) (z : Int) (_z0 : -9223372036854775808 ≤ z) (_z1 : z ≤ 9223372036854775807) (hv : Vld a) (h0 : 0 ≤ how) (h1 : how ≤ 3)
    (co : ∀ W, Calls Tryz.prog 30 #[.agg #[.int .i64 (hiOf a), .int .u64 (loOf a)], .int .i64 65536, .func (.func (wayFn how)) #[] #[]] W fun e w' => e = .returned (.int .i64 z) ∧ Below W.heap.size W w')
    (c0 : w.cell? ⟨Ap, 0, none⟩ = some (.int .i64 a)) (c1 : w.cell? ⟨Hp, 0, none⟩ = some (.int .i64 how)) :
    Calls Tryz.prog 27 #[.pointer (some ⟨Ap, 0, none⟩), .pointer (some ⟨Hp, 0, none⟩)] w fun e w' => e = .returned (.int .i64 z) ∧ Below w.heap.size w w' := by
  have b00 : -9223372036854775807 ≤ a := by unfold Vld at hv; omega
  have b01 : a ≤ 9223372036854775807 := by unfold Vld at hv; omega
  have HV := Lib.hid hv
  have CO := Lib.hid co
  clear hv co
  go_enter Tryz.func27, Tryz.ntmps27
  go_wp2_with (go_at_call 28; refine (need1_ok a _ _ HV.out (by simp [go_sem])).mono ?_; rintro e w' ⟨rfl, rfl⟩)
  have c10 := alloc_cell (o := .cells #[.int .i64 a] 22) c0
  have c11 := alloc_cell (o := .cells #[.int .i64 a] 22) c1
  have hB0 : Below w.heap.size w (w.alloc (.cells #[.int .i64 a] 22)).drew := ((Below.refl _ _).alloc (Nat.le_refl _) _).drew
  clear c0 c1
  go_region_held3 (fun w' => w'.cell? ⟨Ap, 0, none⟩ = some (.int .i64 a) ∧ w'.cell? ⟨Hp, 0, none⟩ = some (.int .i64 how) ∧ Below w.heap.size w w')
    (go_keep)
    ((first | (go_at_call 29; refine (product_any _ _ _ (by omega) (by omega) (by omega) (by omega)).mono ?_; rintro e w1 ⟨rfl, hb1⟩; have c20 := cell_later hb1 c10; have c21 := cell_later hb1 c11; have hB1 := hB0.trans (hb1.mono (by simp))) | (go_at_call 31; refine (way_ok how _ h0 h1).mono ?_; rintro e w' ⟨rfl, rfl⟩) | (go_at_call 30; refine (CO.out _).mono ?_; rintro e w2 ⟨rfl, hb2⟩; have c30 := cell_later hb2 c20; have c31 := cell_later hb2 c21; have hB2 := hB1.trans (hb2.mono hB1.size))))
  go_wp2
  go_ret
  exact ⟨rfl, hB2⟩

set_option maxRecDepth 100000 in
set_option maxHeartbeats 1000000 in
theorem intf_in_flt (a how : Int) (Ap Hp : Nat) (w : World) (n : Int) (hv : Vld a) (h0 : 0 ≤ how) (h1 : how ≤ 3)
    (co : ∀ W, Calls Tryz.prog 30 #[.agg #[.int .i64 (hiOf a), .int .u64 (loOf a)], .int .i64 65536, .func (.func (wayFn how)) #[] #[]] W fun e w' => e = flt n ∧ Below W.heap.size W w')
    (c0 : w.cell? ⟨Ap, 0, none⟩ = some (.int .i64 a)) (c1 : w.cell? ⟨Hp, 0, none⟩ = some (.int .i64 how)) :
    Calls Tryz.prog 27 #[.pointer (some ⟨Ap, 0, none⟩), .pointer (some ⟨Hp, 0, none⟩)] w fun e w' => e = flt n ∧ Below w.heap.size w w' := by
  have b00 : -9223372036854775807 ≤ a := by unfold Vld at hv; omega
  have b01 : a ≤ 9223372036854775807 := by unfold Vld at hv; omega
  have HV := Lib.hid hv
  have CO := Lib.hid (fun W => or_never (R' := fun e w' => e = .returned (.int .i64 0) ∧ Below W.heap.size W w') (co W))
  clear hv co
  go_enter Tryz.func27, Tryz.ntmps27
  go_wp2_with (go_at_call 28; refine (need1_ok a _ _ HV.out (by simp [go_sem])).mono ?_; rintro e w' ⟨rfl, rfl⟩)
  have c10 := alloc_cell (o := .cells #[.int .i64 a] 22) c0
  have c11 := alloc_cell (o := .cells #[.int .i64 a] 22) c1
  have hB0 : Below w.heap.size w (w.alloc (.cells #[.int .i64 a] 22)).drew := ((Below.refl _ _).alloc (Nat.le_refl _) _).drew
  clear c0 c1
  go_region_held2 (fun w' => w'.cell? ⟨Ap, 0, none⟩ = some (.int .i64 a) ∧ w'.cell? ⟨Hp, 0, none⟩ = some (.int .i64 how) ∧ Below w.heap.size w w')
    (go_keep)
    ((first | (go_at_call 29; refine (product_any _ _ _ (by omega) (by omega) (by omega) (by omega)).mono ?_; rintro e w1 ⟨rfl, hb1⟩; have c20 := cell_later hb1 c10; have c21 := cell_later hb1 c11; have hB1 := hB0.trans (hb1.mono (by simp))) | (go_at_call 31; refine (way_ok how _ h0 h1).mono ?_; rintro e w' ⟨rfl, rfl⟩) | (go_at_call 30; refine (CO.out _).mono ?_; rintro e w2 (⟨rfl, hb2⟩ | ⟨hx, rfl, hb2⟩); exact ⟨rfl, rfl, hB1.trans (hb2.mono hB1.size)⟩; have c30 := cell_later hb2 c20; have c31 := cell_later hb2 c21; have hB2 := hB1.trans (hb2.mono hB1.size))))
  exact (hx : False).elim

set_option maxRecDepth 100000 in
set_option maxHeartbeats 1000000 in
theorem intf_in_how (a how : Int) (Ap Hp : Nat) (w : World) (hv : Vld a) (hh : how < 0 ∨ 3 < how)
    (c0 : w.cell? ⟨Ap, 0, none⟩ = some (.int .i64 a)) (c1 : w.cell? ⟨Hp, 0, none⟩ = some (.int .i64 how)) :
    Calls Tryz.prog 27 #[.pointer (some ⟨Ap, 0, none⟩), .pointer (some ⟨Hp, 0, none⟩)] w fun e w' => e = flt 2 ∧ Below w.heap.size w w' := by
  have b00 : -9223372036854775807 ≤ a := by unfold Vld at hv; omega
  have b01 : a ≤ 9223372036854775807 := by unfold Vld at hv; omega
  have HV := Lib.hid hv
  have CW := Lib.hid (fun W => or_never (R' := fun e w' => e = .returned (.func (.func 60) #[] #[]) ∧ W = w') (way_bad how W hh))
  have CO : Hid (Never → ∀ (v d : Int) W, Calls Tryz.prog 30 #[.agg #[.int .i64 (hiOf v), .int .u64 (loOf v)], .int .i64 d, .func (.func 60) #[] #[]] W fun e w' => e = .returned (.int .i64 0) ∧ Below W.heap.size W w') := fun h => (h : False).elim
  clear hv hh
  go_enter Tryz.func27, Tryz.ntmps27
  go_wp2_with (go_at_call 28; refine (need1_ok a _ _ HV.out (by simp [go_sem])).mono ?_; rintro e w' ⟨rfl, rfl⟩)
  have c10 := alloc_cell (o := .cells #[.int .i64 a] 22) c0
  have c11 := alloc_cell (o := .cells #[.int .i64 a] 22) c1
  have hB0 : Below w.heap.size w (w.alloc (.cells #[.int .i64 a] 22)).drew := ((Below.refl _ _).alloc (Nat.le_refl _) _).drew
  clear c0 c1
  go_region_held2 (fun w' => w'.cell? ⟨Ap, 0, none⟩ = some (.int .i64 a) ∧ w'.cell? ⟨Hp, 0, none⟩ = some (.int .i64 how) ∧ Below w.heap.size w w')
    (go_keep)
    ((first | (go_at_call 29; refine (product_any _ _ _ (by omega) (by omega) (by omega) (by omega)).mono ?_; rintro e w1 ⟨rfl, hb1⟩; have c20 := cell_later hb1 c10; have c21 := cell_later hb1 c11; have hB1 := hB0.trans (hb1.mono (by simp))) | (go_at_call 31; refine (CW.out _).mono ?_; rintro e w3 (⟨rfl, rfl⟩ | ⟨hx, rfl, rfl⟩); exact ⟨rfl, rfl, hB1⟩) | (go_at_call 30; refine (CO.out hx _ _ _).mono ?_; rintro e w2 ⟨rfl, hb2⟩; have c30 := cell_later hb2 c20; have c31 := cell_later hb2 c21; have hB2 := hB1.trans (hb2.mono hB1.size))))
  exact (hx : False).elim

set_option maxRecDepth 100000 in
set_option maxHeartbeats 1000000 in
theorem intf_in_arg (a : Int) (Ap Hp : Nat) (w : World) (hv : ¬ (Vld a))
    (c0 : w.cell? ⟨Ap, 0, none⟩ = some (.int .i64 a)) :
    Calls Tryz.prog 27 #[.pointer (some ⟨Ap, 0, none⟩), .pointer (some ⟨Hp, 0, none⟩)] w fun e w' => e = flt 2 ∧ Below w.heap.size w w' := by
  go_enter Tryz.func27, Tryz.ntmps27
  go_wp2_with (go_at_call 28; refine (need1_bad a _ _ hv (by simp [go_sem])).mono ?_; rintro e w' ⟨rfl, rfl⟩)
  exact ⟨rfl, rfl, ((Below.refl _ _).alloc (Nat.le_refl _) _)⟩

theorem enters_intf (args : Array Value) (w : World) : (callFunc 27 args).run Tryz.prog w = .ok (.enter 27 args) w := by
  simp [go_sem]

set_option maxRecDepth 100000 in
set_option maxHeartbeats 1000000 in
theorem intf_out (a how : Int) (r : Int × Int) (w : World)
    (hin : (r.2 = 0 ∧ ∀ Ap Hp W, W.cell? ⟨Ap, 0, none⟩ = some (.int .i64 a) → W.cell? ⟨Hp, 0, none⟩ = some (.int .i64 how) →
        Calls Tryz.prog 27 #[.pointer (some ⟨Ap, 0, none⟩), .pointer (some ⟨Hp, 0, none⟩)] W fun e w' => e = .returned (.int .i64 r.1) ∧ Below W.heap.size W w') ∨
      (r.1 = 0 ∧ ∀ Ap Hp W, W.cell? ⟨Ap, 0, none⟩ = some (.int .i64 a) → W.cell? ⟨Hp, 0, none⟩ = some (.int .i64 how) →
        Calls Tryz.prog 27 #[.pointer (some ⟨Ap, 0, none⟩), .pointer (some ⟨Hp, 0, none⟩)] W fun e w' => e = flt r.2 ∧ Below W.heap.size W w')) :
    Calls Tryz.prog 7 #[.int .i64 a, .int .i64 how] w fun e w' => e = .returned (.tuple #[.int .i64 r.1, .int .i64 r.2]) ∧ Below w.heap.size w w' := by
  have hmf : ∀ (fn : Fn) (first cap : Array Value) (w : World), (Instr.makeFunc fn first cap).run Tryz.prog w = .ok (.func fn first cap) w := fun _ _ _ _ => rfl
  have ha := attempt_int 27 #[.pointer (some ⟨w.heap.size, 0, none⟩), .pointer (some ⟨w.heap.size + 1, 0, none⟩)] r
    ((w.alloc (.cells #[.int .i64 a] 22)).alloc (.cells #[.int .i64 how] 3)) enters_intf
    (by
      rcases hin with ⟨h, hin⟩ | ⟨h, hin⟩
      · exact .inl ⟨h, fun W hb => hin _ _ W (cell_later hb (by simp [go_sem])) (cell_later hb (by simp [go_sem]))⟩
      · exact .inr ⟨h, fun W hb => hin _ _ W (cell_later hb (by simp [go_sem])) (cell_later hb (by simp [go_sem]))⟩)
  have HA := Lib.hid ha
  clear ha hin
  go_enter Tryz.func7, Tryz.ntmps7
  go_wp2_with (go_at_call 26; refine HA.out.mono ?_; rintro e w1 ⟨rfl, hb⟩)
  go_ret2
  exact ⟨rfl, (((Below.refl w.heap.size w).alloc (Nat.le_refl _) _).alloc (by simp) _).trans (hb.mono (by simp; omega))⟩

/-- What Int gives: the value and the error. -/
def intS (a how : Int) : Int × Int :=
  if Vld a ∧ 0 ≤ how ∧ how ≤ 3 then (if Vld (rnd how a 65536) then (rnd how a 65536, 0) else (0, 4)) else (0, 2)

theorem int_any (a how : Int) (w : World) :
    Calls Tryz.prog 7 #[.int .i64 a, .int .i64 how] w fun e w' => e = .returned (.tuple #[.int .i64 (intS a how).1, .int .i64 (intS a how).2]) ∧ Below w.heap.size w w' := by
  apply intf_out
  unfold intS
  by_cases hv : Vld a
  · by_cases hh : 0 ≤ how ∧ how ≤ 3
    · rw [if_pos ⟨hv, hh⟩]
      have hb : -170141183460469231731687303715884105728 < a ∧ a < 170141183460469231731687303715884105728 := by unfold Vld at hv; omega
      by_cases hf : Vld (rnd how a 65536)
      · rw [if_pos hf]
        exact .inl ⟨rfl, fun A H W ca ch => intf_in_ok a how A H W _ (by unfold Vld at hf; omega) (by unfold Vld at hf; omega) hv hh.1 hh.2 (fun W => over_ok how _ _ W hh.1 hh.2 hb.1 hb.2 (by omega) (by omega) (by omega) hf) ca ch⟩
      · rw [if_neg hf]
        exact .inr ⟨rfl, fun A H W ca ch => intf_in_flt a how A H W _ hv hh.1 hh.2 (fun W => over_bad how _ _ W hh.1 hh.2 hb.1 hb.2 (by omega) (by omega) (by omega) hf) ca ch⟩
    · rw [if_neg (fun h => hh h.2)]
      exact .inr ⟨rfl, fun A H W ca ch => intf_in_how a how A H W hv (by omega) ca ch⟩
  · rw [if_neg (fun h => hv h.1)]
    exact .inr ⟨rfl, fun A H W ca _ => intf_in_arg a A H W hv ca⟩

set_option maxHeartbeats 1000000 in
theorem of_three (w : World) : Calls Tryz.prog 5 #[.int .i64 3] w fun e w' => e = .returned (.tuple #[.int .i64 196608, .int .i64 0]) ∧ w = w' := by
  go_enter Tryz.func5, Tryz.ntmps5
  go_wp2
  go_ret2
  exact ⟨rfl, rfl⟩

end Go.Proofs.YtfpfpmacobkmhaaGreatDoor
