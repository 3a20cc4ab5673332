/- The contract of package fixed's Times: a spot times a number, rounded, or the error, as timesS says. No conditions. -/
import Derived.Test.YtebfhjndgfcijaaGreatDoorNeeds
import Derived.Test.YtebfhjndgfcijaaGreatDoorUnit
import Derived.Test.YtebfhjndgfcijaaGreatDoorUnitsLaw
import Derived.Test.YtebfhjndgfcijaaGreatDoorMul
import Derived.Laws.EntriesVeiled
namespace Go.Proofs.YtebfhjndgfcijaaGreatDoor
open Go Go.RowKit

set_option maxHeartbeats 1000000 in
theorem times_step_ok (n b how : Int) (Bp Up : Nat) (w : World) (z : Int) (b00 : -9223372036854775807 ≤ n) (b01 : n ≤ 9223372036854775807) (b10 : -9223372036854775807 ≤ b) (b11 : b ≤ 9223372036854775807)
    (co : ∀ W, Calls Tryz.prog 45 #[.agg #[.int .i64 (hiOf (n * b)), .int .u64 (loOf (n * b))], .int .i64 65536, .func (.func (wayFn how)) #[] #[]] W fun e w' => e = .returned (.int .i64 z) ∧ Below W.heap.size W w')
    (c0 : w.cell? ⟨Bp, 0, none⟩ = some (.int .i64 b)) (c1 : w.cell? ⟨Up, 0, none⟩ = some (.func (.func (wayFn how)) #[] #[])) :
    Calls Tryz.prog 73 #[.int .i64 n, .pointer (some ⟨Bp, 0, none⟩), .pointer (some ⟨Up, 0, none⟩)] w fun e w' => e = .returned (.int .i64 z) ∧ Below w.heap.size w w' := by
  have CO := Lib.hid co
  clear co
  have hB0 : Below w.heap.size w w.drew := (Below.refl _ _).drew
  go_enter Tryz.func73, Tryz.ntmps73
  go_wp2_with fail
  go_region_held3 (fun w' => w'.cell? ⟨Bp, 0, none⟩ = some (.int .i64 b) ∧ w'.cell? ⟨Up, 0, none⟩ = some (.func (.func (wayFn how)) #[] #[]) ∧ Below w.heap.size w w')
    (go_keep)
    ((first | (go_at_call 39; refine (product_any _ _ _ (by omega) (by omega) (by omega) (by omega)).mono ?_; rintro e w1 ⟨rfl, hb1⟩; have c20 := cell_later hb1 c0; have c21 := cell_later hb1 c1; have hB1 := hB0.trans (hb1.mono (by simp))) | (go_at_call 45; refine (CO.out _).mono ?_; rintro e w2 ⟨rfl, hb2⟩; have c30 := cell_later hb2 c20; have c31 := cell_later hb2 c21; have hB2 := hB1.trans (hb2.mono hB1.size))))
  go_wp2
  go_ret
  exact ⟨rfl, hB2⟩

set_option maxHeartbeats 1000000 in
theorem times_step_bad (n b how : Int) (Bp Up : Nat) (w : World) (k : Int) (b00 : -9223372036854775807 ≤ n) (b01 : n ≤ 9223372036854775807) (b10 : -9223372036854775807 ≤ b) (b11 : b ≤ 9223372036854775807)
    (co : ∀ W, Calls Tryz.prog 45 #[.agg #[.int .i64 (hiOf (n * b)), .int .u64 (loOf (n * b))], .int .i64 65536, .func (.func (wayFn how)) #[] #[]] W fun e w' => e = flt k ∧ Below W.heap.size W w')
    (c0 : w.cell? ⟨Bp, 0, none⟩ = some (.int .i64 b)) (c1 : w.cell? ⟨Up, 0, none⟩ = some (.func (.func (wayFn how)) #[] #[])) :
    Calls Tryz.prog 73 #[.int .i64 n, .pointer (some ⟨Bp, 0, none⟩), .pointer (some ⟨Up, 0, none⟩)] w fun e w' => e = flt k ∧ Below w.heap.size w w' := by
  have CO := Lib.hid (fun W => or_never (R' := fun e w' => e = .returned (.int .i64 0) ∧ Below W.heap.size W w') (co W))
  clear co
  have hB0 : Below w.heap.size w w.drew := (Below.refl _ _).drew
  go_enter Tryz.func73, Tryz.ntmps73
  go_wp2_with fail
  go_region_held2 (fun w' => w'.cell? ⟨Bp, 0, none⟩ = some (.int .i64 b) ∧ w'.cell? ⟨Up, 0, none⟩ = some (.func (.func (wayFn how)) #[] #[]) ∧ Below w.heap.size w w')
    (go_keep)
    ((first | (go_at_call 39; refine (product_any _ _ _ (by omega) (by omega) (by omega) (by omega)).mono ?_; rintro e w1 ⟨rfl, hb1⟩; have c20 := cell_later hb1 c0; have c21 := cell_later hb1 c1; have hB1 := hB0.trans (hb1.mono (by simp))) | (go_at_call 45; refine (CO.out _).mono ?_; rintro e w2 (⟨rfl, hb2⟩ | ⟨hx, rfl, hb2⟩); exact ⟨rfl, rfl, hB1.trans (hb2.mono hB1.size)⟩; have c30 := cell_later hb2 c20; have c31 := cell_later hb2 c21; have hB2 := hB1.trans (hb2.mono hB1.size))))
  exact (hx : False).elim

theorem enters_times_step (args : Array Value) (w : World) : (callFunc 73 args).run Tryz.prog w = .ok (.enter 73 args) w := by
  simp [go_sem]

set_option maxHeartbeats 1000000 in
theorem each_two (x y u v : Int) (K S U : Nat) (w : World) (hcf : ∀ args w, (callFunc K args).run Tryz.prog w = .ok (.enter K args) w)
    (cx : ∀ W, Below w.heap.size w W → Calls Tryz.prog K #[.int .i64 x, .pointer (some ⟨S, 0, none⟩), .pointer (some ⟨U, 0, none⟩)] W fun e w' => e = .returned (.int .i64 u) ∧ Below W.heap.size W w')
    (cy : ∀ W, Below w.heap.size w W → Calls Tryz.prog K #[.int .i64 y, .pointer (some ⟨S, 0, none⟩), .pointer (some ⟨U, 0, none⟩)] W fun e w' => e = .returned (.int .i64 v) ∧ Below W.heap.size W w') :
    Calls Tryz.prog 72 #[.int .i64 x, .int .i64 y, .func (.func K) #[] #[.pointer (some ⟨S, 0, none⟩), .pointer (some ⟨U, 0, none⟩)]] w fun e w' => e = .returned (.agg #[.int .i64 u, .int .i64 v]) ∧ Below w.heap.size w w' := by
  have CX := Lib.hid (cx (w.alloc (.cells #[.int .i64 0, .int .i64 0] 33)) ((Below.refl _ _).alloc (Nat.le_refl _) _))
  have CY := Lib.hid cy
  clear cx cy
  go_enter Tryz.func72, Tryz.ntmps72
  go_wp2_with (with_reducible refine CX.out.mono ?_; rintro e w1 ⟨rfl, hb1⟩)
  have hB1 : Below w.heap.size w w1 := ((Below.refl w.heap.size w).alloc (Nat.le_refl _) _).trans (hb1.mono (by simp))
  refine (CY.out w1 hB1).mono ?_
  rintro e w2 ⟨rfl, hb2⟩
  have hB2 := hB1.trans (hb2.mono hB1.size)
  have t0 : w2.cell? ⟨w.heap.size, 0, none⟩ = some (.int .i64 0) := cell_later hb2 (cell_later hb1 (by simp [go_sem]))
  have t1 : w2.cell? ⟨w.heap.size, 1, none⟩ = some (.int .i64 0) := cell_later hb2 (cell_later hb1 (by simp [go_sem]))
  have f0 : w2.frozen? ⟨w.heap.size, 0, none⟩ = false := (hb2.frozen (p := ⟨w.heap.size, 0, none⟩) (by have := hb1.size; simp at this ⊢; omega)).trans ((hb1.frozen (p := ⟨w.heap.size, 0, none⟩) (by simp)).trans (by simp [go_sem]))
  have f1 : w2.frozen? ⟨w.heap.size, 1, none⟩ = false := (hb2.frozen (p := ⟨w.heap.size, 1, none⟩) (by have := hb1.size; simp at this ⊢; omega)).trans ((hb1.frozen (p := ⟨w.heap.size, 1, none⟩) (by simp)).trans (by simp [go_sem]))
  go_wp2
  obtain ⟨k1, k2⟩ := set_pair (.int .i64 u) (.int .i64 v) t0 t1
  exact bodyPost_ret (v := .agg #[.int .i64 u, .int .i64 v]) (by simp [results, Tryz.results72, go_sem, k1, k2]) rfl
    ⟨rfl, (hB2.setCell (by simp) _).setCell (by simp) _⟩

set_option maxHeartbeats 1000000 in
theorem each_two_x (x y k : Int) (K S U : Nat) (w : World) (hcf : ∀ args w, (callFunc K args).run Tryz.prog w = .ok (.enter K args) w)
    (cx : ∀ W, Below w.heap.size w W → Calls Tryz.prog K #[.int .i64 x, .pointer (some ⟨S, 0, none⟩), .pointer (some ⟨U, 0, none⟩)] W fun e w' => e = flt k ∧ Below W.heap.size W w') :
    Calls Tryz.prog 72 #[.int .i64 x, .int .i64 y, .func (.func K) #[] #[.pointer (some ⟨S, 0, none⟩), .pointer (some ⟨U, 0, none⟩)]] w fun e w' => e = flt k ∧ Below w.heap.size w w' := by
  have CX := Lib.hid (cx (w.alloc (.cells #[.int .i64 0, .int .i64 0] 33)) ((Below.refl _ _).alloc (Nat.le_refl _) _))
  clear cx
  go_enter Tryz.func72, Tryz.ntmps72
  go_wp2_with (with_reducible refine CX.out.mono ?_; rintro e w1 ⟨rfl, hb1⟩)
  exact ⟨rfl, rfl, ((Below.refl w.heap.size w).alloc (Nat.le_refl _) _).trans (hb1.mono (by simp))⟩

set_option maxHeartbeats 1000000 in
theorem each_two_y (x y u k : Int) (K S U : Nat) (w : World) (hcf : ∀ args w, (callFunc K args).run Tryz.prog w = .ok (.enter K args) w)
    (cx : ∀ W, Below w.heap.size w W → Calls Tryz.prog K #[.int .i64 x, .pointer (some ⟨S, 0, none⟩), .pointer (some ⟨U, 0, none⟩)] W fun e w' => e = .returned (.int .i64 u) ∧ Below W.heap.size W w')
    (cy : ∀ W, Below w.heap.size w W → Calls Tryz.prog K #[.int .i64 y, .pointer (some ⟨S, 0, none⟩), .pointer (some ⟨U, 0, none⟩)] W fun e w' => e = flt k ∧ Below W.heap.size W w') :
    Calls Tryz.prog 72 #[.int .i64 x, .int .i64 y, .func (.func K) #[] #[.pointer (some ⟨S, 0, none⟩), .pointer (some ⟨U, 0, none⟩)]] w fun e w' => e = flt k ∧ Below w.heap.size w w' := by
  have CX := Lib.hid (cx (w.alloc (.cells #[.int .i64 0, .int .i64 0] 33)) ((Below.refl _ _).alloc (Nat.le_refl _) _))
  have CY := Lib.hid cy
  clear cx cy
  go_enter Tryz.func72, Tryz.ntmps72
  go_wp2_with (with_reducible refine CX.out.mono ?_; rintro e w1 ⟨rfl, hb1⟩)
  have hB1 : Below w.heap.size w w1 := ((Below.refl w.heap.size w).alloc (Nat.le_refl _) _).trans (hb1.mono (by simp))
  refine (CY.out w1 hB1).mono ?_
  rintro e w2 ⟨rfl, hb2⟩
  exact ⟨rfl, rfl, hB1.trans (hb2.mono hB1.size)⟩

set_option maxHeartbeats 1000000 in
theorem times_in_ok (x y b how u v : Int) (Ap Bp Hp : Nat) (w : World) (hv : Vld x ∧ Vld y ∧ Vld b) (h0 : 0 ≤ how) (h1 : how ≤ 3)
    (ce : ∀ S W, W.cell? ⟨Bp, 0, none⟩ = some (.int .i64 b) → W.cell? ⟨S, 0, none⟩ = some (.func (.func (wayFn how)) #[] #[]) → Calls Tryz.prog 72 #[.int .i64 x, .int .i64 y, .func (.func 73) #[] #[.pointer (some ⟨Bp, 0, none⟩), .pointer (some ⟨S, 0, none⟩)]] W fun e w' => e = .returned (.agg #[.int .i64 u, .int .i64 v]) ∧ Below W.heap.size W w')
    (c0 : w.cell? ⟨Ap, 0, none⟩ = some (.int .i64 x)) (c1 : w.cell? ⟨Ap, 1, none⟩ = some (.int .i64 y)) (c2 : w.cell? ⟨Bp, 0, none⟩ = some (.int .i64 b)) (c3 : w.cell? ⟨Hp, 0, none⟩ = some (.int .i64 how)) :
    Calls Tryz.prog 71 #[.pointer (some ⟨Ap, 0, none⟩), .pointer (some ⟨Bp, 0, none⟩), .pointer (some ⟨Hp, 0, none⟩)] w fun e w' => e = .returned (.agg #[.int .i64 u, .int .i64 v]) ∧ Below w.heap.size w w' := by
  have hmf : ∀ (fn : Fn) (first cap : Array Value) (w : World), (Instr.makeFunc fn first cap).run Tryz.prog w = .ok (.func fn first cap) w := fun _ _ _ _ => rfl
  have HV := Lib.hid hv
  have CE := Lib.hid ce
  have CW := Lib.hid (fun w => way_ok how w h0 h1)
  have l0 : Ap < w.heap.size := World.block_lt_of_cell? _ _ c0
  have l1 : Bp < w.heap.size := World.block_lt_of_cell? _ _ c2
  have l2 : Hp < w.heap.size := World.block_lt_of_cell? _ _ c3
  have l3 : Ap < w.heap.size + 1 := by omega
  have l4 : Bp < w.heap.size + 1 := by omega
  have l5 : Hp < w.heap.size + 1 := by omega
  have l6 : Ap < w.heap.size + 1 + 1 := by omega
  have l7 : Bp < w.heap.size + 1 + 1 := by omega
  have l8 : Hp < w.heap.size + 1 + 1 := by omega
  have l9 : Ap < w.heap.size + 1 + 1 + 1 := by omega
  have l10 : Bp < w.heap.size + 1 + 1 + 1 := by omega
  clear hv ce h0 h1
  go_enter Tryz.func71, Tryz.ntmps71
  go_wp2_with (first | (go_at_call 62; refine (need3_ok x y b _ _ HV.out (by simp [go_sem]) (by simp [go_sem]) (by simp [go_sem])).mono ?_; rintro e w' ⟨rfl, rfl⟩) | (go_at_call 36; refine (CW.out _).mono ?_; rintro e w' ⟨rfl, rfl⟩))
  refine (CE.out (w.heap.size + 1 + 1) _ ?_ ?_).mono ?_
  · exact alloc_cell (alloc_cell (alloc_cell c2))
  · simp [go_sem]
  rintro e w1 ⟨rfl, hb1⟩
  have hB1 : Below w.heap.size w w1 := ((((Below.refl w.heap.size w).alloc (Nat.le_refl _) _).alloc (by simp) _).alloc (by simp; omega) _).trans (hb1.mono (by simp; omega))
  obtain ⟨t0, t1⟩ : SpotAt w1 w.heap.size 0 0 := spot_later hb1 (spot_alloc (spot_alloc (spot_new w 0 0) _) _)
  have f0 : w1.frozen? ⟨w.heap.size, 0, none⟩ = false := (hb1.frozen (p := ⟨w.heap.size, 0, none⟩) (by simp; omega)).trans (by simp [go_sem])
  have f1 : w1.frozen? ⟨w.heap.size, 1, none⟩ = false := (hb1.frozen (p := ⟨w.heap.size, 1, none⟩) (by simp; omega)).trans (by simp [go_sem])
  go_wp2
  obtain ⟨k1, k2⟩ := set_pair (.int .i64 u) (.int .i64 v) t0 t1
  exact bodyPost_ret (v := .agg #[.int .i64 u, .int .i64 v]) (by simp [results, Tryz.results71, go_sem, k1, k2]) rfl
    ⟨rfl, (hB1.setCell (by simp) _).setCell (by simp) _⟩

set_option maxHeartbeats 1000000 in
theorem times_in_flt (x y b how k : Int) (Ap Bp Hp : Nat) (w : World) (hv : Vld x ∧ Vld y ∧ Vld b) (h0 : 0 ≤ how) (h1 : how ≤ 3)
    (ce : ∀ S W, W.cell? ⟨Bp, 0, none⟩ = some (.int .i64 b) → W.cell? ⟨S, 0, none⟩ = some (.func (.func (wayFn how)) #[] #[]) → Calls Tryz.prog 72 #[.int .i64 x, .int .i64 y, .func (.func 73) #[] #[.pointer (some ⟨Bp, 0, none⟩), .pointer (some ⟨S, 0, none⟩)]] W fun e w' => e = flt k ∧ Below W.heap.size W w')
    (c0 : w.cell? ⟨Ap, 0, none⟩ = some (.int .i64 x)) (c1 : w.cell? ⟨Ap, 1, none⟩ = some (.int .i64 y)) (c2 : w.cell? ⟨Bp, 0, none⟩ = some (.int .i64 b)) (c3 : w.cell? ⟨Hp, 0, none⟩ = some (.int .i64 how)) :
    Calls Tryz.prog 71 #[.pointer (some ⟨Ap, 0, none⟩), .pointer (some ⟨Bp, 0, none⟩), .pointer (some ⟨Hp, 0, none⟩)] w fun e w' => e = flt k ∧ Below w.heap.size w w' := by
  have hmf : ∀ (fn : Fn) (first cap : Array Value) (w : World), (Instr.makeFunc fn first cap).run Tryz.prog w = .ok (.func fn first cap) w := fun _ _ _ _ => rfl
  have HV := Lib.hid hv
  have CE := Lib.hid ce
  have CW := Lib.hid (fun w => way_ok how w h0 h1)
  have l0 : Ap < w.heap.size := World.block_lt_of_cell? _ _ c0
  have l1 : Bp < w.heap.size := World.block_lt_of_cell? _ _ c2
  have l2 : Hp < w.heap.size := World.block_lt_of_cell? _ _ c3
  have l3 : Ap < w.heap.size + 1 := by omega
  have l4 : Bp < w.heap.size + 1 := by omega
  have l5 : Hp < w.heap.size + 1 := by omega
  have l6 : Ap < w.heap.size + 1 + 1 := by omega
  have l7 : Bp < w.heap.size + 1 + 1 := by omega
  have l8 : Hp < w.heap.size + 1 + 1 := by omega
  have l9 : Ap < w.heap.size + 1 + 1 + 1 := by omega
  have l10 : Bp < w.heap.size + 1 + 1 + 1 := by omega
  clear hv ce h0 h1
  go_enter Tryz.func71, Tryz.ntmps71
  go_wp2_with (first | (go_at_call 62; refine (need3_ok x y b _ _ HV.out (by simp [go_sem]) (by simp [go_sem]) (by simp [go_sem])).mono ?_; rintro e w' ⟨rfl, rfl⟩) | (go_at_call 36; refine (CW.out _).mono ?_; rintro e w' ⟨rfl, rfl⟩))
  refine (CE.out (w.heap.size + 1 + 1) _ ?_ ?_).mono ?_
  · exact alloc_cell (alloc_cell (alloc_cell c2))
  · simp [go_sem]
  rintro e w1 ⟨rfl, hb1⟩
  exact ⟨rfl, rfl, ((((Below.refl w.heap.size w).alloc (Nat.le_refl _) _).alloc (by simp) _).alloc (by simp; omega) _).trans (hb1.mono (by simp; omega))⟩

set_option maxHeartbeats 1000000 in
theorem times_in_how (x y b how : Int) (Ap Bp Hp : Nat) (w : World) (hv : Vld x ∧ Vld y ∧ Vld b) (hh : how < 0 ∨ 3 < how)
    (c0 : w.cell? ⟨Ap, 0, none⟩ = some (.int .i64 x)) (c1 : w.cell? ⟨Ap, 1, none⟩ = some (.int .i64 y)) (c2 : w.cell? ⟨Bp, 0, none⟩ = some (.int .i64 b)) (c3 : w.cell? ⟨Hp, 0, none⟩ = some (.int .i64 how)) :
    Calls Tryz.prog 71 #[.pointer (some ⟨Ap, 0, none⟩), .pointer (some ⟨Bp, 0, none⟩), .pointer (some ⟨Hp, 0, none⟩)] w fun e w' => e = flt 2 ∧ Below w.heap.size w w' := by
  have HV := Lib.hid hv
  have CW := Lib.hid (fun w => way_bad how w hh)
  have l0 : Ap < w.heap.size := World.block_lt_of_cell? _ _ c0
  have l1 : Bp < w.heap.size := World.block_lt_of_cell? _ _ c2
  have l2 : Hp < w.heap.size := World.block_lt_of_cell? _ _ c3
  have l3 : Ap < w.heap.size + 1 := by omega
  have l4 : Bp < w.heap.size + 1 := by omega
  have l5 : Hp < w.heap.size + 1 := by omega
  have l6 : Ap < w.heap.size + 1 + 1 := by omega
  have l7 : Bp < w.heap.size + 1 + 1 := by omega
  have l8 : Hp < w.heap.size + 1 + 1 := by omega
  have l9 : Ap < w.heap.size + 1 + 1 + 1 := by omega
  have l10 : Bp < w.heap.size + 1 + 1 + 1 := by omega
  clear hv hh
  go_enter Tryz.func71, Tryz.ntmps71
  go_wp2_with (first | (go_at_call 62; refine (need3_ok x y b _ _ HV.out (by simp [go_sem]) (by simp [go_sem]) (by simp [go_sem])).mono ?_; rintro e w' ⟨rfl, rfl⟩) | (go_at_call 36; refine (CW.out _).mono ?_; rintro e w' ⟨rfl, rfl⟩))
  exact ⟨rfl, rfl, by repeat' (first | exact Below.refl _ _ | (refine ka ?_ _))⟩

set_option maxHeartbeats 1000000 in
theorem times_in_arg (x y b : Int) (Ap Bp Hp : Nat) (w : World) (hv : ¬ (Vld x ∧ Vld y ∧ Vld b)) (c0 : w.cell? ⟨Ap, 0, none⟩ = some (.int .i64 x)) (c1 : w.cell? ⟨Ap, 1, none⟩ = some (.int .i64 y)) (c2 : w.cell? ⟨Bp, 0, none⟩ = some (.int .i64 b)) :
    Calls Tryz.prog 71 #[.pointer (some ⟨Ap, 0, none⟩), .pointer (some ⟨Bp, 0, none⟩), .pointer (some ⟨Hp, 0, none⟩)] w fun e w' => e = flt 2 ∧ Below w.heap.size w w' := by
  have HV := Lib.hid hv
  have l0 : Ap < w.heap.size := World.block_lt_of_cell? _ _ c0
  have l1 : Bp < w.heap.size := World.block_lt_of_cell? _ _ c2
  clear hv
  go_enter Tryz.func71, Tryz.ntmps71
  go_wp2_with (go_at_call 62; refine (need3_bad x y b _ _ HV.out (by simp [go_sem]) (by simp [go_sem]) (by simp [go_sem])).mono ?_; rintro e w' ⟨rfl, rfl⟩)
  exact ⟨rfl, rfl, by repeat' (first | exact Below.refl _ _ | (refine ka ?_ _))⟩

theorem enters_times (args : Array Value) (w : World) : (callFunc 71 args).run Tryz.prog w = .ok (.enter 71 args) w := by
  simp [go_sem]

set_option maxHeartbeats 1000000 in
theorem times_out (x y b how u v n : Int) (w : World)
    (hin : (n = 0 ∧ ∀ Ap Bp Hp W, W.cell? ⟨Ap, 0, none⟩ = some (.int .i64 x) → W.cell? ⟨Ap, 1, none⟩ = some (.int .i64 y) → W.cell? ⟨Bp, 0, none⟩ = some (.int .i64 b) → W.cell? ⟨Hp, 0, none⟩ = some (.int .i64 how) →
        Calls Tryz.prog 71 #[.pointer (some ⟨Ap, 0, none⟩), .pointer (some ⟨Bp, 0, none⟩), .pointer (some ⟨Hp, 0, none⟩)] W fun e w' => e = .returned (.agg #[.int .i64 u, .int .i64 v]) ∧ Below W.heap.size W w') ∨
      ((u = 0 ∧ v = 0) ∧ ∀ Ap Bp Hp W, W.cell? ⟨Ap, 0, none⟩ = some (.int .i64 x) → W.cell? ⟨Ap, 1, none⟩ = some (.int .i64 y) → W.cell? ⟨Bp, 0, none⟩ = some (.int .i64 b) → W.cell? ⟨Hp, 0, none⟩ = some (.int .i64 how) →
        Calls Tryz.prog 71 #[.pointer (some ⟨Ap, 0, none⟩), .pointer (some ⟨Bp, 0, none⟩), .pointer (some ⟨Hp, 0, none⟩)] W fun e w' => e = flt n ∧ Below W.heap.size W w')) :
    Calls Tryz.prog 16 #[.agg #[.int .i64 x, .int .i64 y], .int .i64 b, .int .i64 how] w fun e w' => e = .returned (.tuple #[.agg #[.int .i64 u, .int .i64 v], .int .i64 n]) ∧ Below w.heap.size w w' := by
  have hmf : ∀ (fn : Fn) (first cap : Array Value) (w : World), (Instr.makeFunc fn first cap).run Tryz.prog w = .ok (.func fn first cap) w := fun _ _ _ _ => rfl
  have ha := attempt_spot 71 #[.pointer (some ⟨w.heap.size, 0, none⟩), .pointer (some ⟨w.heap.size + 1, 0, none⟩), .pointer (some ⟨w.heap.size + 1 + 1, 0, none⟩)] u v n
    ((((w.alloc (.cells #[.int .i64 x, .int .i64 y] 33)).alloc (.cells #[.int .i64 b] 22)).alloc (.cells #[.int .i64 how] 3)).alloc (.cells #[.int .i64 0, .int .i64 0] 33)) enters_times
    (by
      rcases hin with ⟨h, hin⟩ | ⟨h, hin⟩
      · exact .inl ⟨h, fun W hb => hin _ _ _ W (cell_later hb (by simp [go_sem])) (cell_later hb (by simp [go_sem])) (cell_later hb (by simp [go_sem])) (cell_later hb (by simp [go_sem]))⟩
      · exact .inr ⟨h, fun W hb => hin _ _ _ W (cell_later hb (by simp [go_sem])) (cell_later hb (by simp [go_sem])) (cell_later hb (by simp [go_sem])) (cell_later hb (by simp [go_sem]))⟩)
  have HA := Lib.hid ha
  clear ha hin
  go_enter Tryz.func16, Tryz.ntmps16
  go_wp2_with fail
  refine HA.out.mono ?_
  rintro e w1 ⟨rfl, hb⟩
  obtain ⟨hc, hf⟩ := bcell hb
  have t0 : w1.cell? ⟨w.heap.size + 1 + 1 + 1, 0, none⟩ = some (.int .i64 0) := cell_later hb (by simp [go_sem])
  have t1 : w1.cell? ⟨w.heap.size + 1 + 1 + 1, 1, none⟩ = some (.int .i64 0) := cell_later hb (by simp [go_sem])
  go_wp2
  obtain ⟨k1, k2⟩ := set_pair (.int .i64 u) (.int .i64 v) t0 t1
  exact bodyPost_ret (v := .tuple #[.agg #[.int .i64 u, .int .i64 v], .int .i64 n]) (by simp [results, Tryz.results16, go_sem, k1, k2]) rfl
    ⟨rfl, (((((((Below.refl w.heap.size w).alloc (Nat.le_refl _) _).alloc (by simp) _).alloc (by simp; omega) _).alloc (by simp; omega) _).trans (hb.mono (by simp; omega))).setCell (by simp; omega) _).setCell (by simp; omega) _⟩

/-- What Times gives: the coordinates and the error. -/
def timesS (x y b how : Int) : (Int × Int) × Int :=
  if (Vld x ∧ Vld y ∧ Vld b) ∧ 0 ≤ how ∧ how ≤ 3 then (if Vld (rnd how (x * b) 65536) ∧ Vld (rnd how (y * b) 65536) then ((rnd how (x * b) 65536, rnd how (y * b) 65536), 0) else ((0, 0), 4)) else ((0, 0), 2)

theorem timesf_any (x y b how : Int) (w : World) :
    Calls Tryz.prog 16 #[.agg #[.int .i64 x, .int .i64 y], .int .i64 b, .int .i64 how] w fun e w' => e = .returned (.tuple #[.agg #[.int .i64 (timesS x y b how).1.1, .int .i64 (timesS x y b how).1.2], .int .i64 (timesS x y b how).2]) ∧ Below w.heap.size w w' := by
  apply times_out
  unfold timesS
  by_cases hv : Vld x ∧ Vld y ∧ Vld b
  · have hp := vld_mul hv.1 hv.2.2
    have hq := vld_mul hv.2.1 hv.2.2
    have bx := hv.1
    have bz := hv.2.1
    have bb := hv.2.2
    unfold Vld at bx bz bb
    by_cases hh : 0 ≤ how ∧ how ≤ 3
    · rw [if_pos ⟨hv, hh⟩]
      have okx : Vld (rnd how (x * b) 65536) → ∀ Bp S (W : World), W.cell? ⟨Bp, 0, none⟩ = some (.int .i64 b) → W.cell? ⟨S, 0, none⟩ = some (.func (.func (wayFn how)) #[] #[]) → _ := fun hf Bp S W d0 d1 => times_step_ok x b how Bp S W _ (by omega) (by omega) (by omega) (by omega) (fun W => over_ok how _ _ W hh.1 hh.2 hp.1 hp.2 (by omega) (by omega) (by omega) hf) d0 d1
      have oky : Vld (rnd how (y * b) 65536) → ∀ Bp S (W : World), W.cell? ⟨Bp, 0, none⟩ = some (.int .i64 b) → W.cell? ⟨S, 0, none⟩ = some (.func (.func (wayFn how)) #[] #[]) → _ := fun hf Bp S W d0 d1 => times_step_ok y b how Bp S W _ (by omega) (by omega) (by omega) (by omega) (fun W => over_ok how _ _ W hh.1 hh.2 hq.1 hq.2 (by omega) (by omega) (by omega) hf) d0 d1
      have bdx : ¬ Vld (rnd how (x * b) 65536) → ∀ Bp S (W : World), W.cell? ⟨Bp, 0, none⟩ = some (.int .i64 b) → W.cell? ⟨S, 0, none⟩ = some (.func (.func (wayFn how)) #[] #[]) → _ := fun hf Bp S W d0 d1 => times_step_bad x b how Bp S W 4 (by omega) (by omega) (by omega) (by omega) (fun W => over_bad how _ _ W hh.1 hh.2 hp.1 hp.2 (by omega) (by omega) (by omega) hf) d0 d1
      have bdy : ¬ Vld (rnd how (y * b) 65536) → ∀ Bp S (W : World), W.cell? ⟨Bp, 0, none⟩ = some (.int .i64 b) → W.cell? ⟨S, 0, none⟩ = some (.func (.func (wayFn how)) #[] #[]) → _ := fun hf Bp S W d0 d1 => times_step_bad y b how Bp S W 4 (by omega) (by omega) (by omega) (by omega) (fun W => over_bad how _ _ W hh.1 hh.2 hq.1 hq.2 (by omega) (by omega) (by omega) hf) d0 d1
      by_cases hx : Vld (rnd how (x * b) 65536)
      · by_cases hy : Vld (rnd how (y * b) 65536)
        · rw [if_pos ⟨hx, hy⟩]
          exact .inl ⟨rfl, fun A B H W c0 c1 c2 c3 => times_in_ok x y b how _ _ A B H W hv hh.1 hh.2 (fun S W d0 d1 => each_two x y _ _ _ B S W enters_times_step (fun W' hb => okx hx B S W' (cell_later hb d0) (cell_later hb d1)) (fun W' hb => oky hy B S W' (cell_later hb d0) (cell_later hb d1))) c0 c1 c2 c3⟩
        · rw [if_neg (fun h => hy h.2)]
          exact .inr ⟨⟨rfl, rfl⟩, fun A B H W c0 c1 c2 c3 => times_in_flt x y b how 4 A B H W hv hh.1 hh.2 (fun S W d0 d1 => each_two_y x y _ 4 _ B S W enters_times_step (fun W' hb => okx hx B S W' (cell_later hb d0) (cell_later hb d1)) (fun W' hb => bdy hy B S W' (cell_later hb d0) (cell_later hb d1))) c0 c1 c2 c3⟩
      · rw [if_neg (fun h => hx h.1)]
        exact .inr ⟨⟨rfl, rfl⟩, fun A B H W c0 c1 c2 c3 => times_in_flt x y b how 4 A B H W hv hh.1 hh.2 (fun S W d0 d1 => each_two_x x y 4 _ B S W enters_times_step (fun W' hb => bdx hx B S W' (cell_later hb d0) (cell_later hb d1))) c0 c1 c2 c3⟩
    · rw [if_neg (fun h => hh h.2)]
      exact .inr ⟨⟨rfl, rfl⟩, fun A B H W c0 c1 c2 c3 => times_in_how x y b how A B H W hv (by omega) c0 c1 c2 c3⟩
  · rw [if_neg (fun h => hv h.1)]
    exact .inr ⟨⟨rfl, rfl⟩, fun A B H W c0 c1 c2 _ => times_in_arg x y b A B H W hv c0 c1 c2⟩

end Go.Proofs.YtebfhjndgfcijaaGreatDoor
