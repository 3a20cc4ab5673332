/- The contract of package fixed's Div: the rounded quotient, or the error, as divS says. No conditions. -/
import Derived.Test.YtebfhjndgfcijaaGreatDoorNeeds
namespace Go.Proofs.YtebfhjndgfcijaaGreatDoor
open Go Go.RowKit

set_option maxHeartbeats 1000000 in
theorem div_in_ok (a b how : Int) (Ap Bp Hp : Nat) (w : World) (z : Int) (hv : Vld a ∧ Vld b) (h0 : 0 ≤ how) (h1 : how ≤ 3)
    (co : ∀ W, Calls Tryz.prog 96 #[.agg #[.int .i64 (hiOf (a * 65536)), .int .u64 (loOf (a * 65536))], .int .i64 b, .func (.func (wayFn how)) #[] #[]] W fun e w' => e = .returned (.int .i64 z) ∧ Below W.heap.size W w')
    (c0 : w.cell? ⟨Ap, 0, none⟩ = some (.int .i64 a)) (c1 : w.cell? ⟨Bp, 0, none⟩ = some (.int .i64 b)) (c2 : w.cell? ⟨Hp, 0, none⟩ = some (.int .i64 how)) :
    Calls Tryz.prog 95 #[.pointer (some ⟨Ap, 0, none⟩), .pointer (some ⟨Bp, 0, none⟩), .pointer (some ⟨Hp, 0, none⟩)] w fun e w' => e = .returned (.int .i64 z) ∧ Below w.heap.size w w' := by
  have b00 : -9223372036854775807 ≤ a := by unfold Vld at hv; omega
  have b01 : a ≤ 9223372036854775807 := by unfold Vld at hv; omega
  have HV := Lib.hid hv
  have CO := Lib.hid co
  clear hv co
  go_enter Tryz.func95, Tryz.ntmps95
  go_wp2_with (go_at_call 62; refine (need2_ok a b _ _ HV.out (by simp [go_sem]) (by simp [go_sem])).mono ?_; rintro e w' ⟨rfl, rfl⟩)
  have c10 := alloc_cell (o := .cells #[.int .i64 a, .int .i64 b] 22) c0
  have c11 := alloc_cell (o := .cells #[.int .i64 a, .int .i64 b] 22) c1
  have c12 := alloc_cell (o := .cells #[.int .i64 a, .int .i64 b] 22) c2
  have hB0 : Below w.heap.size w (w.alloc (.cells #[.int .i64 a, .int .i64 b] 22)).drew := ((Below.refl _ _).alloc (Nat.le_refl _) _).drew
  clear c0 c1 c2
  go_region_held3 (fun w' => w'.cell? ⟨Ap, 0, none⟩ = some (.int .i64 a) ∧ w'.cell? ⟨Bp, 0, none⟩ = some (.int .i64 b) ∧ w'.cell? ⟨Hp, 0, none⟩ = some (.int .i64 how) ∧ Below w.heap.size w w')
    (go_keep)
    ((first | (go_at_call 39; refine (product_any _ _ _ (by omega) (by omega) (by omega) (by omega)).mono ?_; rintro e w1 ⟨rfl, hb1⟩; have c20 := cell_later hb1 c10; have c21 := cell_later hb1 c11; have c22 := cell_later hb1 c12; have hB1 := hB0.trans (hb1.mono (by simp))) | (go_at_call 36; refine (way_ok how _ h0 h1).mono ?_; rintro e w' ⟨rfl, rfl⟩) | (go_at_call 96; refine (CO.out _).mono ?_; rintro e w2 ⟨rfl, hb2⟩; have c30 := cell_later hb2 c20; have c31 := cell_later hb2 c21; have c32 := cell_later hb2 c22; have hB2 := hB1.trans (hb2.mono hB1.size))))
  go_wp2
  go_ret
  exact ⟨rfl, hB2⟩

set_option maxHeartbeats 1000000 in
theorem div_in_flt (a b how : Int) (Ap Bp Hp : Nat) (w : World) (n : Int) (hv : Vld a ∧ Vld b) (h0 : 0 ≤ how) (h1 : how ≤ 3)
    (co : ∀ W, Calls Tryz.prog 96 #[.agg #[.int .i64 (hiOf (a * 65536)), .int .u64 (loOf (a * 65536))], .int .i64 b, .func (.func (wayFn how)) #[] #[]] W fun e w' => e = flt n ∧ Below W.heap.size W w')
    (c0 : w.cell? ⟨Ap, 0, none⟩ = some (.int .i64 a)) (c1 : w.cell? ⟨Bp, 0, none⟩ = some (.int .i64 b)) (c2 : w.cell? ⟨Hp, 0, none⟩ = some (.int .i64 how)) :
    Calls Tryz.prog 95 #[.pointer (some ⟨Ap, 0, none⟩), .pointer (some ⟨Bp, 0, none⟩), .pointer (some ⟨Hp, 0, none⟩)] w fun e w' => e = flt n ∧ Below w.heap.size w w' := by
  have b00 : -9223372036854775807 ≤ a := by unfold Vld at hv; omega
  have b01 : a ≤ 9223372036854775807 := by unfold Vld at hv; omega
  have HV := Lib.hid hv
  have CO := Lib.hid (fun W => or_never (R' := fun e w' => e = .returned (.int .i64 0) ∧ Below W.heap.size W w') (co W))
  clear hv co
  go_enter Tryz.func95, Tryz.ntmps95
  go_wp2_with (go_at_call 62; refine (need2_ok a b _ _ HV.out (by simp [go_sem]) (by simp [go_sem])).mono ?_; rintro e w' ⟨rfl, rfl⟩)
  have c10 := alloc_cell (o := .cells #[.int .i64 a, .int .i64 b] 22) c0
  have c11 := alloc_cell (o := .cells #[.int .i64 a, .int .i64 b] 22) c1
  have c12 := alloc_cell (o := .cells #[.int .i64 a, .int .i64 b] 22) c2
  have hB0 : Below w.heap.size w (w.alloc (.cells #[.int .i64 a, .int .i64 b] 22)).drew := ((Below.refl _ _).alloc (Nat.le_refl _) _).drew
  clear c0 c1 c2
  go_region_held2 (fun w' => w'.cell? ⟨Ap, 0, none⟩ = some (.int .i64 a) ∧ w'.cell? ⟨Bp, 0, none⟩ = some (.int .i64 b) ∧ w'.cell? ⟨Hp, 0, none⟩ = some (.int .i64 how) ∧ Below w.heap.size w w')
    (go_keep)
    ((first | (go_at_call 39; refine (product_any _ _ _ (by omega) (by omega) (by omega) (by omega)).mono ?_; rintro e w1 ⟨rfl, hb1⟩; have c20 := cell_later hb1 c10; have c21 := cell_later hb1 c11; have c22 := cell_later hb1 c12; have hB1 := hB0.trans (hb1.mono (by simp))) | (go_at_call 36; refine (way_ok how _ h0 h1).mono ?_; rintro e w' ⟨rfl, rfl⟩) | (go_at_call 96; refine (CO.out _).mono ?_; rintro e w2 (⟨rfl, hb2⟩ | ⟨hx, rfl, hb2⟩); exact ⟨rfl, rfl, hB1.trans (hb2.mono hB1.size)⟩; have c30 := cell_later hb2 c20; have c31 := cell_later hb2 c21; have c32 := cell_later hb2 c22; have hB2 := hB1.trans (hb2.mono hB1.size))))
  exact (hx : False).elim

set_option maxHeartbeats 1000000 in
theorem div_in_how (a b how : Int) (Ap Bp Hp : Nat) (w : World) (hv : Vld a ∧ Vld b) (hh : how < 0 ∨ 3 < how)
    (c0 : w.cell? ⟨Ap, 0, none⟩ = some (.int .i64 a)) (c1 : w.cell? ⟨Bp, 0, none⟩ = some (.int .i64 b)) (c2 : w.cell? ⟨Hp, 0, none⟩ = some (.int .i64 how)) :
    Calls Tryz.prog 95 #[.pointer (some ⟨Ap, 0, none⟩), .pointer (some ⟨Bp, 0, none⟩), .pointer (some ⟨Hp, 0, none⟩)] w fun e w' => e = flt 2 ∧ Below w.heap.size w w' := by
  have b00 : -9223372036854775807 ≤ a := by unfold Vld at hv; omega
  have b01 : a ≤ 9223372036854775807 := by unfold Vld at hv; omega
  have HV := Lib.hid hv
  have CW := Lib.hid (fun W => or_never (R' := fun e w' => e = .returned (.func (.func 99) #[] #[]) ∧ W = w') (way_bad how W hh))
  have CO : Hid (Never → ∀ (v d : Int) W, Calls Tryz.prog 96 #[.agg #[.int .i64 (hiOf v), .int .u64 (loOf v)], .int .i64 d, .func (.func 99) #[] #[]] W fun e w' => e = .returned (.int .i64 0) ∧ Below W.heap.size W w') := fun h => (h : False).elim
  clear hv hh
  go_enter Tryz.func95, Tryz.ntmps95
  go_wp2_with (go_at_call 62; refine (need2_ok a b _ _ HV.out (by simp [go_sem]) (by simp [go_sem])).mono ?_; rintro e w' ⟨rfl, rfl⟩)
  have c10 := alloc_cell (o := .cells #[.int .i64 a, .int .i64 b] 22) c0
  have c11 := alloc_cell (o := .cells #[.int .i64 a, .int .i64 b] 22) c1
  have c12 := alloc_cell (o := .cells #[.int .i64 a, .int .i64 b] 22) c2
  have hB0 : Below w.heap.size w (w.alloc (.cells #[.int .i64 a, .int .i64 b] 22)).drew := ((Below.refl _ _).alloc (Nat.le_refl _) _).drew
  clear c0 c1 c2
  go_region_held2 (fun w' => w'.cell? ⟨Ap, 0, none⟩ = some (.int .i64 a) ∧ w'.cell? ⟨Bp, 0, none⟩ = some (.int .i64 b) ∧ w'.cell? ⟨Hp, 0, none⟩ = some (.int .i64 how) ∧ Below w.heap.size w w')
    (go_keep)
    ((first | (go_at_call 39; refine (product_any _ _ _ (by omega) (by omega) (by omega) (by omega)).mono ?_; rintro e w1 ⟨rfl, hb1⟩; have c20 := cell_later hb1 c10; have c21 := cell_later hb1 c11; have c22 := cell_later hb1 c12; have hB1 := hB0.trans (hb1.mono (by simp))) | (go_at_call 36; refine (CW.out _).mono ?_; rintro e w3 (⟨rfl, rfl⟩ | ⟨hx, rfl, rfl⟩); exact ⟨rfl, rfl, hB1⟩) | (go_at_call 96; refine (CO.out hx _ _ _).mono ?_; rintro e w2 ⟨rfl, hb2⟩; have c30 := cell_later hb2 c20; have c31 := cell_later hb2 c21; have c32 := cell_later hb2 c22; have hB2 := hB1.trans (hb2.mono hB1.size))))
  exact (hx : False).elim

set_option maxHeartbeats 1000000 in
theorem div_in_arg (a b : Int) (Ap Bp Hp : Nat) (w : World) (hv : ¬ (Vld a ∧ Vld b))
    (c0 : w.cell? ⟨Ap, 0, none⟩ = some (.int .i64 a)) (c1 : w.cell? ⟨Bp, 0, none⟩ = some (.int .i64 b)) :
    Calls Tryz.prog 95 #[.pointer (some ⟨Ap, 0, none⟩), .pointer (some ⟨Bp, 0, none⟩), .pointer (some ⟨Hp, 0, none⟩)] w fun e w' => e = flt 2 ∧ Below w.heap.size w w' := by
  go_enter Tryz.func95, Tryz.ntmps95
  go_wp2_with (go_at_call 62; refine (need2_bad a b _ _ hv (by simp [go_sem]) (by simp [go_sem])).mono ?_; rintro e w' ⟨rfl, rfl⟩)
  exact ⟨rfl, rfl, ((Below.refl _ _).alloc (Nat.le_refl _) _)⟩

theorem enters_div (args : Array Value) (w : World) : (callFunc 95 args).run Tryz.prog w = .ok (.enter 95 args) w := by
  simp [go_sem]

set_option maxHeartbeats 1000000 in
theorem div_out (a b how : Int) (r : Int × Int) (w : World)
    (hin : (r.2 = 0 ∧ ∀ Ap Bp Hp W, W.cell? ⟨Ap, 0, none⟩ = some (.int .i64 a) → W.cell? ⟨Bp, 0, none⟩ = some (.int .i64 b) → W.cell? ⟨Hp, 0, none⟩ = some (.int .i64 how) →
        Calls Tryz.prog 95 #[.pointer (some ⟨Ap, 0, none⟩), .pointer (some ⟨Bp, 0, none⟩), .pointer (some ⟨Hp, 0, none⟩)] W fun e w' => e = .returned (.int .i64 r.1) ∧ Below W.heap.size W w') ∨
      (r.1 = 0 ∧ ∀ Ap Bp Hp W, W.cell? ⟨Ap, 0, none⟩ = some (.int .i64 a) → W.cell? ⟨Bp, 0, none⟩ = some (.int .i64 b) → W.cell? ⟨Hp, 0, none⟩ = some (.int .i64 how) →
        Calls Tryz.prog 95 #[.pointer (some ⟨Ap, 0, none⟩), .pointer (some ⟨Bp, 0, none⟩), .pointer (some ⟨Hp, 0, none⟩)] W fun e w' => e = flt r.2 ∧ Below W.heap.size W w')) :
    Calls Tryz.prog 33 #[.int .i64 a, .int .i64 b, .int .i64 how] w fun e w' => e = .returned (.tuple #[.int .i64 r.1, .int .i64 r.2]) ∧ Below w.heap.size w w' := by
  have hmf : ∀ (fn : Fn) (first cap : Array Value) (w : World), (Instr.makeFunc fn first cap).run Tryz.prog w = .ok (.func fn first cap) w := fun _ _ _ _ => rfl
  have ha := attempt_fix 95 #[.pointer (some ⟨w.heap.size, 0, none⟩), .pointer (some ⟨w.heap.size + 1, 0, none⟩), .pointer (some ⟨w.heap.size + 1 + 1, 0, none⟩)] r
    (((w.alloc (.cells #[.int .i64 a] 22)).alloc (.cells #[.int .i64 b] 22)).alloc (.cells #[.int .i64 how] 3)) enters_div
    (by
      rcases hin with ⟨h, hin⟩ | ⟨h, hin⟩
      · exact .inl ⟨h, fun W hb => hin _ _ _ W (cell_later hb (by simp [go_sem])) (cell_later hb (by simp [go_sem])) (cell_later hb (by simp [go_sem]))⟩
      · exact .inr ⟨h, fun W hb => hin _ _ _ W (cell_later hb (by simp [go_sem])) (cell_later hb (by simp [go_sem])) (cell_later hb (by simp [go_sem]))⟩)
  have HA := Lib.hid ha
  clear ha hin
  go_enter Tryz.func33, Tryz.ntmps33
  go_wp2_with (go_at_call 34; refine HA.out.mono ?_; rintro e w1 ⟨rfl, hb⟩)
  go_ret2
  exact ⟨rfl, ((((Below.refl w.heap.size w).alloc (Nat.le_refl _) _).alloc (by simp) _).alloc (by simp; omega) _).trans (hb.mono (by simp; omega))⟩

/-- What Div gives: the value and the error. -/
def divS (a b how : Int) : Int × Int :=
  if (Vld a ∧ Vld b) ∧ 0 ≤ how ∧ how ≤ 3 then (if b = 0 then (0, 10) else if Vld (rnd how (a * 65536) b) then (rnd how (a * 65536) b, 0) else (0, 4)) else (0, 2)

theorem div_any (a b how : Int) (w : World) :
    Calls Tryz.prog 33 #[.int .i64 a, .int .i64 b, .int .i64 how] w fun e w' => e = .returned (.tuple #[.int .i64 (divS a b how).1, .int .i64 (divS a b how).2]) ∧ Below w.heap.size w w' := by
  apply div_out
  unfold divS
  by_cases hv : Vld a ∧ Vld b
  · by_cases hh : 0 ≤ how ∧ how ≤ 3
    · rw [if_pos ⟨hv, hh⟩]
      by_cases h0 : b = 0
      · rw [if_pos h0]
        subst h0
        exact .inr ⟨rfl, fun A B H W ca cb ch => div_in_flt a 0 how A B H W _ hv hh.1 hh.2 (fun W => quotient_zero _ _ _ W) ca cb ch⟩
      · rw [if_neg h0]
        have ha0 : -4611686018427387904 ≤ a * 65536 ∧ a * 65536 ≤ 4611686018427387904 := by unfold Vld at hv; omega
        have hb0 : -9223372036854775807 ≤ b ∧ b ≤ 9223372036854775807 := by unfold Vld at hv; omega
        by_cases hf : Vld (rnd how (a * 65536) b)
        · rw [if_pos hf]
          exact .inl ⟨rfl, fun A B H W ca cb ch => div_in_ok a b how A B H W _ hv hh.1 hh.2 (fun W => quotient_ok _ _ _ _ _ W h0 (fun W => over_ok how _ _ W hh.1 hh.2 (by omega) (by omega) h0 hb0.1 hb0.2 hf)) ca cb ch⟩
        · rw [if_neg hf]
          exact .inr ⟨rfl, fun A B H W ca cb ch => div_in_flt a b how A B H W _ hv hh.1 hh.2 (fun W => quotient_bad _ _ _ _ W h0 (fun W => over_bad how _ _ W hh.1 hh.2 (by omega) (by omega) h0 hb0.1 hb0.2 hf)) ca cb ch⟩
    · rw [if_neg (fun h => hh h.2)]
      exact .inr ⟨rfl, fun A B H W ca cb ch => div_in_how a b how A B H W hv (by omega) ca cb ch⟩
  · rw [if_neg (fun h => hv h.1)]
    exact .inr ⟨rfl, fun A B H W ca cb _ => div_in_arg a b A B H W hv ca cb⟩

end Go.Proofs.YtebfhjndgfcijaaGreatDoor
