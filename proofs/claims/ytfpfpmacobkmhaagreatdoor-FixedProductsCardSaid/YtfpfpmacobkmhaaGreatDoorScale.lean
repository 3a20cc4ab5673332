/- The contract of package fixed's Scale: the rounded number times a quotient, or the error, as scaleS says. No conditions. -/
import Derived.Test.YtfpfpmacobkmhaaGreatDoorNeeds
namespace Go.Proofs.YtfpfpmacobkmhaaGreatDoor
open Go Go.RowKit

set_option maxRecDepth 100000 in
set_option maxHeartbeats 1000000 in
theorem scale_in_ok (a how num den : Int) (Ap Hp Np Dp : Nat) (w : World) (z : Int) (hv : Vld a) (h0 : 0 ≤ how) (h1 : how ≤ 3) (n0 : -2147483648 ≤ num) (n1 : num ≤ 2147483648) (d0 : -2147483648 ≤ den) (d1 : den ≤ 2147483648)
    (co : ∀ W, Calls Tryz.prog 47 #[.agg #[.int .i64 (hiOf (a * num)), .int .u64 (loOf (a * num))], .int .i64 den, .func (.func (wayFn how)) #[] #[]] W fun e w' => e = .returned (.int .i64 z) ∧ Below W.heap.size W w')
    (c0 : w.cell? ⟨Ap, 0, none⟩ = some (.int .i64 a)) (c1 : w.cell? ⟨Hp, 0, none⟩ = some (.int .i64 how)) (c2 : w.cell? ⟨Np, 0, none⟩ = some (.int .i64 num)) (c3 : w.cell? ⟨Dp, 0, none⟩ = some (.int .i64 den)) :
    Calls Tryz.prog 49 #[.pointer (some ⟨Ap, 0, none⟩), .pointer (some ⟨Hp, 0, none⟩), .pointer (some ⟨Np, 0, none⟩), .pointer (some ⟨Dp, 0, none⟩)] w fun e w' => e = .returned (.int .i64 z) ∧ Below w.heap.size w w' := by
  have a0 : -9223372036854775807 ≤ a := by unfold Vld at hv; omega
  have a1 : a ≤ 9223372036854775807 := by unfold Vld at hv; omega
  have HV := Lib.hid hv
  have CW := Lib.hid (fun w => way_ok how w h0 h1)
  have CN := Lib.hid (fun w => needRate_ok num w n0 n1)
  have CD := Lib.hid (fun w => needRate_ok den w d0 d1)
  have CP := Lib.hid (fun w => product_any a num w a0 a1 (by omega) (by omega))
  have CO := Lib.hid co
  clear hv co h0 h1 a0 a1
  go_enter Tryz.func49, Tryz.ntmps49
  go_wp2_with (first | (go_at_call 28; refine (need1_ok a _ _ HV.out (by simp [go_sem])).mono ?_; rintro e w' ⟨rfl, rfl⟩; have c10 := alloc_cell (o := .cells #[.int .i64 a] 22) c0; have c11 := alloc_cell (o := .cells #[.int .i64 a] 22) c1; have c12 := alloc_cell (o := .cells #[.int .i64 a] 22) c2; have c13 := alloc_cell (o := .cells #[.int .i64 a] 22) c3) | (go_at_call 31; refine (CW.out _).mono ?_; rintro e w' ⟨rfl, rfl⟩) | (go_at_call 50; refine (CN.out _).mono ?_; rintro e w' ⟨rfl, rfl⟩) | (go_at_call 50; refine (CD.out _).mono ?_; rintro e w' ⟨rfl, rfl⟩) | fail)
  have hB0 : Below w.heap.size w (w.alloc (.cells #[.int .i64 a] 22)).drew := ((Below.refl _ _).alloc (Nat.le_refl _) _).drew
  clear c0 c1 c2 c3
  go_region_held3 (fun w' => w'.cell? ⟨Ap, 0, none⟩ = some (.int .i64 a) ∧ w'.cell? ⟨Hp, 0, none⟩ = some (.int .i64 how) ∧ w'.cell? ⟨Np, 0, none⟩ = some (.int .i64 num) ∧ w'.cell? ⟨Dp, 0, none⟩ = some (.int .i64 den) ∧ Below w.heap.size w w')
    (go_keep)
    ((first | (go_at_call 29; refine (CP.out _).mono ?_; rintro e w1 ⟨rfl, hb1⟩; have c20 := cell_later hb1 c10; have c21 := cell_later hb1 c11; have c22 := cell_later hb1 c12; have c23 := cell_later hb1 c13; have hB1 := hB0.trans (hb1.mono (by simp))) | (go_at_call 47; refine (CO.out _).mono ?_; rintro e w2 ⟨rfl, hb2⟩; have c30 := cell_later hb2 c20; have c31 := cell_later hb2 c21; have c32 := cell_later hb2 c22; have c33 := cell_later hb2 c23; have hB2 := hB1.trans (hb2.mono hB1.size))))
  go_wp2
  go_ret
  exact ⟨rfl, hB2⟩

set_option maxRecDepth 100000 in
set_option maxHeartbeats 1000000 in
theorem scale_in_flt (a how num den : Int) (Ap Hp Np Dp : Nat) (w : World) (n : Int) (hv : Vld a) (h0 : 0 ≤ how) (h1 : how ≤ 3) (n0 : -2147483648 ≤ num) (n1 : num ≤ 2147483648) (d0 : -2147483648 ≤ den) (d1 : den ≤ 2147483648)
    (co : ∀ W, Calls Tryz.prog 47 #[.agg #[.int .i64 (hiOf (a * num)), .int .u64 (loOf (a * num))], .int .i64 den, .func (.func (wayFn how)) #[] #[]] W fun e w' => e = flt n ∧ Below W.heap.size W w')
    (c0 : w.cell? ⟨Ap, 0, none⟩ = some (.int .i64 a)) (c1 : w.cell? ⟨Hp, 0, none⟩ = some (.int .i64 how)) (c2 : w.cell? ⟨Np, 0, none⟩ = some (.int .i64 num)) (c3 : w.cell? ⟨Dp, 0, none⟩ = some (.int .i64 den)) :
    Calls Tryz.prog 49 #[.pointer (some ⟨Ap, 0, none⟩), .pointer (some ⟨Hp, 0, none⟩), .pointer (some ⟨Np, 0, none⟩), .pointer (some ⟨Dp, 0, none⟩)] w fun e w' => e = flt n ∧ Below w.heap.size w w' := by
  have a0 : -9223372036854775807 ≤ a := by unfold Vld at hv; omega
  have a1 : a ≤ 9223372036854775807 := by unfold Vld at hv; omega
  have HV := Lib.hid hv
  have CW := Lib.hid (fun w => way_ok how w h0 h1)
  have CN := Lib.hid (fun w => needRate_ok num w n0 n1)
  have CD := Lib.hid (fun w => needRate_ok den w d0 d1)
  have CP := Lib.hid (fun w => product_any a num w a0 a1 (by omega) (by omega))
  have CO := Lib.hid (fun W => or_never (R' := fun e w' => e = .returned (.int .i64 0) ∧ Below W.heap.size W w') (co W))
  clear hv co h0 h1 a0 a1
  go_enter Tryz.func49, Tryz.ntmps49
  go_wp2_with (first | (go_at_call 28; refine (need1_ok a _ _ HV.out (by simp [go_sem])).mono ?_; rintro e w' ⟨rfl, rfl⟩; have c10 := alloc_cell (o := .cells #[.int .i64 a] 22) c0; have c11 := alloc_cell (o := .cells #[.int .i64 a] 22) c1; have c12 := alloc_cell (o := .cells #[.int .i64 a] 22) c2; have c13 := alloc_cell (o := .cells #[.int .i64 a] 22) c3) | (go_at_call 31; refine (CW.out _).mono ?_; rintro e w' ⟨rfl, rfl⟩) | (go_at_call 50; refine (CN.out _).mono ?_; rintro e w' ⟨rfl, rfl⟩) | (go_at_call 50; refine (CD.out _).mono ?_; rintro e w' ⟨rfl, rfl⟩) | fail)
  have hB0 : Below w.heap.size w (w.alloc (.cells #[.int .i64 a] 22)).drew := ((Below.refl _ _).alloc (Nat.le_refl _) _).drew
  clear c0 c1 c2 c3
  go_region_held2 (fun w' => w'.cell? ⟨Ap, 0, none⟩ = some (.int .i64 a) ∧ w'.cell? ⟨Hp, 0, none⟩ = some (.int .i64 how) ∧ w'.cell? ⟨Np, 0, none⟩ = some (.int .i64 num) ∧ w'.cell? ⟨Dp, 0, none⟩ = some (.int .i64 den) ∧ Below w.heap.size w w')
    (go_keep)
    ((first | (go_at_call 29; refine (CP.out _).mono ?_; rintro e w1 ⟨rfl, hb1⟩; have c20 := cell_later hb1 c10; have c21 := cell_later hb1 c11; have c22 := cell_later hb1 c12; have c23 := cell_later hb1 c13; have hB1 := hB0.trans (hb1.mono (by simp))) | (go_at_call 47; refine (CO.out _).mono ?_; rintro e w2 (⟨rfl, hb2⟩ | ⟨hx, rfl, hb2⟩); exact ⟨rfl, rfl, hB1.trans (hb2.mono hB1.size)⟩; have c30 := cell_later hb2 c20; have c31 := cell_later hb2 c21; have c32 := cell_later hb2 c22; have c33 := cell_later hb2 c23; have hB2 := hB1.trans (hb2.mono hB1.size))))
  exact (hx : False).elim

set_option maxRecDepth 100000 in
set_option maxHeartbeats 1000000 in
theorem scale_den (a how num den : Int) (Ap Hp Np Dp : Nat) (w : World) (hv : Vld a) (h0 : 0 ≤ how) (h1 : how ≤ 3) (n0 : -2147483648 ≤ num) (n1 : num ≤ 2147483648) (hd : den < -2147483648 ∨ 2147483648 < den)
    (c0 : w.cell? ⟨Ap, 0, none⟩ = some (.int .i64 a)) (c1 : w.cell? ⟨Hp, 0, none⟩ = some (.int .i64 how)) (c2 : w.cell? ⟨Np, 0, none⟩ = some (.int .i64 num)) (c3 : w.cell? ⟨Dp, 0, none⟩ = some (.int .i64 den)) :
    Calls Tryz.prog 49 #[.pointer (some ⟨Ap, 0, none⟩), .pointer (some ⟨Hp, 0, none⟩), .pointer (some ⟨Np, 0, none⟩), .pointer (some ⟨Dp, 0, none⟩)] w fun e w' => e = flt 2 ∧ Below w.heap.size w w' := by
  have HV := Lib.hid hv
  have CW := Lib.hid (fun w => way_ok how w h0 h1)
  have CN := Lib.hid (fun w => needRate_ok num w n0 n1)
  have CD := Lib.hid (fun w => needRate_bad den w hd)
  clear hv h0 h1 hd
  go_enter Tryz.func49, Tryz.ntmps49
  go_wp2_with (first | (go_at_call 28; refine (need1_ok a _ _ HV.out (by simp [go_sem])).mono ?_; rintro e w' ⟨rfl, rfl⟩; have c10 := alloc_cell (o := .cells #[.int .i64 a] 22) c0; have c11 := alloc_cell (o := .cells #[.int .i64 a] 22) c1; have c12 := alloc_cell (o := .cells #[.int .i64 a] 22) c2; have c13 := alloc_cell (o := .cells #[.int .i64 a] 22) c3) | (go_at_call 31; refine (CW.out _).mono ?_; rintro e w' ⟨rfl, rfl⟩) | (go_at_call 50; refine (CN.out _).mono ?_; rintro e w' ⟨rfl, rfl⟩) | (go_at_call 50; refine (CD.out _).mono ?_; rintro e w' ⟨rfl, rfl⟩))
  exact ⟨rfl, rfl, (Below.refl w.heap.size w).alloc (Nat.le_refl _) _⟩

set_option maxRecDepth 100000 in
set_option maxHeartbeats 1000000 in
theorem scale_num (a how num : Int) (Ap Hp Np Dp : Nat) (w : World) (hv : Vld a) (h0 : 0 ≤ how) (h1 : how ≤ 3) (hn : num < -2147483648 ∨ 2147483648 < num)
    (c0 : w.cell? ⟨Ap, 0, none⟩ = some (.int .i64 a)) (c1 : w.cell? ⟨Hp, 0, none⟩ = some (.int .i64 how)) (c2 : w.cell? ⟨Np, 0, none⟩ = some (.int .i64 num)) :
    Calls Tryz.prog 49 #[.pointer (some ⟨Ap, 0, none⟩), .pointer (some ⟨Hp, 0, none⟩), .pointer (some ⟨Np, 0, none⟩), .pointer (some ⟨Dp, 0, none⟩)] w fun e w' => e = flt 2 ∧ Below w.heap.size w w' := by
  have HV := Lib.hid hv
  have CW := Lib.hid (fun w => way_ok how w h0 h1)
  have CN := Lib.hid (fun w => needRate_bad num w hn)
  clear hv h0 h1 hn
  go_enter Tryz.func49, Tryz.ntmps49
  go_wp2_with (first | (go_at_call 28; refine (need1_ok a _ _ HV.out (by simp [go_sem])).mono ?_; rintro e w' ⟨rfl, rfl⟩; have c10 := alloc_cell (o := .cells #[.int .i64 a] 22) c0; have c11 := alloc_cell (o := .cells #[.int .i64 a] 22) c1; have c12 := alloc_cell (o := .cells #[.int .i64 a] 22) c2) | (go_at_call 31; refine (CW.out _).mono ?_; rintro e w' ⟨rfl, rfl⟩) | (go_at_call 50; refine (CN.out _).mono ?_; rintro e w' ⟨rfl, rfl⟩))
  exact ⟨rfl, rfl, (Below.refl w.heap.size w).alloc (Nat.le_refl _) _⟩

set_option maxRecDepth 100000 in
set_option maxHeartbeats 1000000 in
theorem scale_how (a how : Int) (Ap Hp Np Dp : Nat) (w : World) (hv : Vld a) (hh : how < 0 ∨ 3 < how)
    (c0 : w.cell? ⟨Ap, 0, none⟩ = some (.int .i64 a)) (c1 : w.cell? ⟨Hp, 0, none⟩ = some (.int .i64 how)) :
    Calls Tryz.prog 49 #[.pointer (some ⟨Ap, 0, none⟩), .pointer (some ⟨Hp, 0, none⟩), .pointer (some ⟨Np, 0, none⟩), .pointer (some ⟨Dp, 0, none⟩)] w fun e w' => e = flt 2 ∧ Below w.heap.size w w' := by
  have HV := Lib.hid hv
  have CW := Lib.hid (fun w => way_bad how w hh)
  clear hv hh
  go_enter Tryz.func49, Tryz.ntmps49
  go_wp2_with (first | (go_at_call 28; refine (need1_ok a _ _ HV.out (by simp [go_sem])).mono ?_; rintro e w' ⟨rfl, rfl⟩; have c10 := alloc_cell (o := .cells #[.int .i64 a] 22) c0; have c11 := alloc_cell (o := .cells #[.int .i64 a] 22) c1) | (go_at_call 31; refine (CW.out _).mono ?_; rintro e w' ⟨rfl, rfl⟩))
  exact ⟨rfl, rfl, (Below.refl w.heap.size w).alloc (Nat.le_refl _) _⟩

set_option maxHeartbeats 1000000 in
theorem scale_arg (a : Int) (Ap Hp Np Dp : Nat) (w : World) (hv : ¬ Vld a)
    (c0 : w.cell? ⟨Ap, 0, none⟩ = some (.int .i64 a)) :
    Calls Tryz.prog 49 #[.pointer (some ⟨Ap, 0, none⟩), .pointer (some ⟨Hp, 0, none⟩), .pointer (some ⟨Np, 0, none⟩), .pointer (some ⟨Dp, 0, none⟩)] w fun e w' => e = flt 2 ∧ Below w.heap.size w w' := by
  have HV := Lib.hid hv
  clear hv
  go_enter Tryz.func49, Tryz.ntmps49
  go_wp2_with (go_at_call 28; refine (need1_bad a _ _ HV.out (by simp [go_sem])).mono ?_; rintro e w' ⟨rfl, rfl⟩)
  exact ⟨rfl, rfl, (Below.refl w.heap.size w).alloc (Nat.le_refl _) _⟩

theorem enters_scale (args : Array Value) (w : World) : (callFunc 49 args).run Tryz.prog w = .ok (.enter 49 args) w := by
  simp [go_sem]

set_option maxHeartbeats 1000000 in
theorem scale_out (a num den how : Int) (r : Int × Int) (w : World)
    (hin : (r.2 = 0 ∧ ∀ Ap Hp Np Dp W, W.cell? ⟨Ap, 0, none⟩ = some (.int .i64 a) → W.cell? ⟨Hp, 0, none⟩ = some (.int .i64 how) → W.cell? ⟨Np, 0, none⟩ = some (.int .i64 num) → W.cell? ⟨Dp, 0, none⟩ = some (.int .i64 den) →
        Calls Tryz.prog 49 #[.pointer (some ⟨Ap, 0, none⟩), .pointer (some ⟨Hp, 0, none⟩), .pointer (some ⟨Np, 0, none⟩), .pointer (some ⟨Dp, 0, none⟩)] W fun e w' => e = .returned (.int .i64 r.1) ∧ Below W.heap.size W w') ∨
      (r.1 = 0 ∧ ∀ Ap Hp Np Dp W, W.cell? ⟨Ap, 0, none⟩ = some (.int .i64 a) → W.cell? ⟨Hp, 0, none⟩ = some (.int .i64 how) → W.cell? ⟨Np, 0, none⟩ = some (.int .i64 num) → W.cell? ⟨Dp, 0, none⟩ = some (.int .i64 den) →
        Calls Tryz.prog 49 #[.pointer (some ⟨Ap, 0, none⟩), .pointer (some ⟨Hp, 0, none⟩), .pointer (some ⟨Np, 0, none⟩), .pointer (some ⟨Dp, 0, none⟩)] W fun e w' => e = flt r.2 ∧ Below W.heap.size W w')) :
    Calls Tryz.prog 21 #[.int .i64 a, .int .i64 num, .int .i64 den, .int .i64 how] w fun e w' => e = .returned (.tuple #[.int .i64 r.1, .int .i64 r.2]) ∧ Below w.heap.size w w' := by
  have hmf : ∀ (fn : Fn) (first cap : Array Value) (w : World), (Instr.makeFunc fn first cap).run Tryz.prog w = .ok (.func fn first cap) w := fun _ _ _ _ => rfl
  have ha := attempt_fix 49 #[.pointer (some ⟨w.heap.size, 0, none⟩), .pointer (some ⟨w.heap.size + 1 + 1 + 1, 0, none⟩), .pointer (some ⟨w.heap.size + 1, 0, none⟩), .pointer (some ⟨w.heap.size + 1 + 1, 0, none⟩)] r
    ((((w.alloc (.cells #[.int .i64 a] 22)).alloc (.cells #[.int .i64 num] 3)).alloc (.cells #[.int .i64 den] 3)).alloc (.cells #[.int .i64 how] 3)) enters_scale
    (by
      rcases hin with ⟨h, hin⟩ | ⟨h, hin⟩
      · exact .inl ⟨h, fun W hb => hin _ _ _ _ W (cell_later hb (by simp [go_sem])) (cell_later hb (by simp [go_sem])) (cell_later hb (by simp [go_sem])) (cell_later hb (by simp [go_sem]))⟩
      · exact .inr ⟨h, fun W hb => hin _ _ _ _ W (cell_later hb (by simp [go_sem])) (cell_later hb (by simp [go_sem])) (cell_later hb (by simp [go_sem])) (cell_later hb (by simp [go_sem]))⟩)
  have HA := Lib.hid ha
  clear ha hin
  go_enter Tryz.func21, Tryz.ntmps21
  go_wp2_with (go_at_call 37; refine HA.out.mono ?_; rintro e w1 ⟨rfl, hb⟩)
  go_ret2
  exact ⟨rfl, (((((Below.refl w.heap.size w).alloc (Nat.le_refl _) _).alloc (by simp) _).alloc (by simp; omega) _).alloc (by simp; omega) _).trans (hb.mono (by simp; omega))⟩

/-- A factor or a divisor that is not too great. -/
def Rate (n : Int) : Prop := -2147483648 ≤ n ∧ n ≤ 2147483648
instance (a : Int) : Decidable (Rate a) := by unfold Rate; infer_instance

/-- What Scale gives: the value and the error. -/
def scaleS (a num den how : Int) : Int × Int :=
  if Vld a ∧ (0 ≤ how ∧ how ≤ 3) ∧ Rate num ∧ Rate den then (if den = 0 then (0, 10) else if Vld (rnd how (a * num) den) then (rnd how (a * num) den, 0) else (0, 4)) else (0, 2)

theorem scale_bd {a num : Int} (hv : Vld a) (hn : Rate num) : -170141183460469231731687303715884105728 < a * num ∧ a * num < 170141183460469231731687303715884105728 := by
  unfold Vld at hv
  unfold Rate at hn
  have h : a.natAbs * num.natAbs ≤ 70368744177664 * 2147483648 := Nat.mul_le_mul (by omega) (by omega)
  have e := Int.natAbs_mul a num
  omega

theorem scale_any (a num den how : Int) (w : World) :
    Calls Tryz.prog 21 #[.int .i64 a, .int .i64 num, .int .i64 den, .int .i64 how] w fun e w' => e = .returned (.tuple #[.int .i64 (scaleS a num den how).1, .int .i64 (scaleS a num den how).2]) ∧ Below w.heap.size w w' := by
  apply scale_out
  unfold scaleS
  by_cases hv : Vld a
  · by_cases hh : 0 ≤ how ∧ how ≤ 3
    · by_cases hn : Rate num
      · by_cases hd : Rate den
        · rw [if_pos ⟨hv, hh, hn, hd⟩]
          obtain ⟨v0, v1⟩ := scale_bd hv hn
          have hd' := hd
          unfold Rate at hn hd'
          by_cases h0 : den = 0
          · rw [if_pos h0]
            subst h0
            exact .inr ⟨rfl, fun A H N D W ca ch cn cd => scale_in_flt a how num 0 A H N D W _ hv hh.1 hh.2 hn.1 hn.2 (by omega) (by omega) (fun W => quotient_zero _ _ _ W) ca ch cn cd⟩
          · rw [if_neg h0]
            by_cases hf : Vld (rnd how (a * num) den)
            · rw [if_pos hf]
              exact .inl ⟨rfl, fun A H N D W ca ch cn cd => scale_in_ok a how num den A H N D W _ hv hh.1 hh.2 hn.1 hn.2 hd'.1 hd'.2 (fun W => quotient_ok _ _ _ _ _ W h0 (fun W => over_ok how _ _ W hh.1 hh.2 v0 v1 h0 (by omega) (by omega) hf)) ca ch cn cd⟩
            · rw [if_neg hf]
              exact .inr ⟨rfl, fun A H N D W ca ch cn cd => scale_in_flt a how num den A H N D W _ hv hh.1 hh.2 hn.1 hn.2 hd'.1 hd'.2 (fun W => quotient_bad _ _ _ _ W h0 (fun W => over_bad how _ _ W hh.1 hh.2 v0 v1 h0 (by omega) (by omega) hf)) ca ch cn cd⟩
        · rw [if_neg (fun h => hd h.2.2.2)]
          have hd' : den < -2147483648 ∨ 2147483648 < den := by unfold Rate at hd; omega
          unfold Rate at hn
          exact .inr ⟨rfl, fun A H N D W ca ch cn cd => scale_den a how num den A H N D W hv hh.1 hh.2 hn.1 hn.2 hd' ca ch cn cd⟩
      · rw [if_neg (fun h => hn h.2.2.1)]
        have hn' : num < -2147483648 ∨ 2147483648 < num := by unfold Rate at hn; omega
        exact .inr ⟨rfl, fun A H N D W ca ch cn _ => scale_num a how num A H N D W hv hh.1 hh.2 hn' ca ch cn⟩
    · rw [if_neg (fun h => hh h.2.1)]
      exact .inr ⟨rfl, fun A H N D W ca ch _ _ => scale_how a how A H N D W hv (by omega) ca ch⟩
  · rw [if_neg (fun h => hv h.1)]
    exact .inr ⟨rfl, fun A H N D W ca _ _ _ => scale_arg a A H N D W hv ca⟩

end Go.Proofs.YtfpfpmacobkmhaaGreatDoor
