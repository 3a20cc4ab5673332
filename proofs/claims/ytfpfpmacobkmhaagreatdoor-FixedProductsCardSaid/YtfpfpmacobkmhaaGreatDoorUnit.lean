/- The contract of package fixed's Unit: both coordinates divided by the length, rounded by Cut, or the error, as unitS says. No conditions. -/
import Derived.Test.YtfpfpmacobkmhaaGreatDoorShare
namespace Go.Proofs.YtfpfpmacobkmhaaGreatDoor
open Go Go.RowKit

/-- A coordinate by the root of the square. -/
def shareS (n : Int) (sq : Nat) : Int := if n < 0 then -(shr n.natAbs sq : Int) else (shr n.natAbs sq : Int)

set_option maxHeartbeats 1000000 in
theorem unit_step (n : Int) (sq S : Nat) (w : World) (hn : Vld n) (hsq : sq ≤ 9903520314283042199192993792) (hle : n.natAbs * n.natAbs ≤ sq) (hpos : 0 < sq)
    (c0 : w.cell? ⟨S, 0, none⟩ = some (.int .i64 (hiOf sq))) (c1 : w.cell? ⟨S, 1, none⟩ = some (.int .u64 (loOf sq))) :
    Calls Tryz.prog 73 #[.int .i64 n, .pointer (some ⟨S, 0, none⟩)] w fun e w' => e = .returned (.int .i64 (shareS n sq)) ∧ Below w.heap.size w w' := by
  have cs : ∀ W, Calls Tryz.prog 74 #[.int .i64 n, .agg #[.int .i64 (hiOf sq), .int .u64 (loOf sq)]] W fun e w' => e = .returned (.int .i64 (shareS n sq)) ∧ Below W.heap.size W w' := fun W => share_any n sq W hn hsq hle hpos
  have CS := Lib.hid cs
  clear cs
  clear hn hsq hle hpos
  go_enter Tryz.func73, Tryz.ntmps73
  go_wp2_with (go_at_call 74; refine (CS.out _).mono ?_; rintro e w1 ⟨rfl, hb⟩)
  go_ret
  exact ⟨rfl, hb⟩

set_option maxHeartbeats 1000000 in
theorem each_fix (x y u v : Int) (K S : Nat) (w : World) (hcf : ∀ args w, (callFunc K args).run Tryz.prog w = .ok (.enter K args) w)
    (cx : ∀ W, Below w.heap.size w W → Calls Tryz.prog K #[.int .i64 x, .pointer (some ⟨S, 0, none⟩)] W fun e w' => e = .returned (.int .i64 u) ∧ Below W.heap.size W w')
    (cy : ∀ W, Below w.heap.size w W → Calls Tryz.prog K #[.int .i64 y, .pointer (some ⟨S, 0, none⟩)] W fun e w' => e = .returned (.int .i64 v) ∧ Below W.heap.size W w') :
    Calls Tryz.prog 72 #[.int .i64 x, .int .i64 y, .func (.func K) #[] #[.pointer (some ⟨S, 0, none⟩)]] w fun e w' => e = .returned (.agg #[.int .i64 u, .int .i64 v]) ∧ Below w.heap.size w w' := by
  have CX := Lib.hid (cx (w.alloc (.cells #[.int .i64 0, .int .i64 0] 69)) ((Below.refl _ _).alloc (Nat.le_refl _) _))
  have CY := Lib.hid cy
  clear cx cy
  go_enter Tryz.func72, Tryz.ntmps72
  go_wp2_with (with_reducible refine CX.out.mono ?_; rintro e w1 ⟨rfl, hb1⟩)
  have hB1 : Below w.heap.size w w1 := ((Below.refl w.heap.size w).alloc (Nat.le_refl _) _).trans (hb1.mono (by simp))
  refine (CY.out w1 hB1).mono ?_
  rintro e w2 ⟨rfl, hb2⟩
  have hB2 := hB1.trans (hb2.mono hB1.size)
  have t0 : w2.cell? ⟨w.heap.size, 0, none⟩ = some (.int .i64 0) := cell_later hb2 (cell_later hb1 (by simp [go_sem]))
  have t1 : w2.cell? ⟨w.heap.size, 1, none⟩ = some (.int .i64 0) := cell_later hb2 (cell_later hb1 (by simp [go_sem]))
  have f0 : w2.frozen? ⟨w.heap.size, 0, none⟩ = false := (hb2.frozen (p := ⟨w.heap.size, 0, none⟩) (by have := hb1.size; simp at this ⊢; omega)).trans ((hb1.frozen (p := ⟨w.heap.size, 0, none⟩) (by simp)).trans (by simp [go_sem]))
  have f1 : w2.frozen? ⟨w.heap.size, 1, none⟩ = false := (hb2.frozen (p := ⟨w.heap.size, 1, none⟩) (by have := hb1.size; simp at this ⊢; omega)).trans ((hb1.frozen (p := ⟨w.heap.size, 1, none⟩) (by simp)).trans (by simp [go_sem]))
  go_wp2
  obtain ⟨k1, k2⟩ := set_pair (.int .i64 u) (.int .i64 v) t0 t1
  exact bodyPost_ret (v := .agg #[.int .i64 u, .int .i64 v]) (by simp [results, Tryz.results72, go_sem, k1, k2]) rfl
    ⟨rfl, (hB2.setCell (by simp) _).setCell (by simp) _⟩

theorem enters_unit_step (args : Array Value) (w : World) : (callFunc 73 args).run Tryz.prog w = .ok (.enter 73 args) w := by
  simp [go_sem]

theorem sq_facts {x y : Int} (hv : Vld x ∧ Vld y) : x.natAbs * x.natAbs ≤ 4951760157141521099596496896 ∧ y.natAbs * y.natAbs ≤ 4951760157141521099596496896 ∧ x * x + y * y = ((x.natAbs * x.natAbs + y.natAbs * y.natAbs : Nat) : Int) := by
  obtain ⟨⟨a0, a1⟩, ⟨b0, b1⟩⟩ := hv
  have h1 := Nat.mul_le_mul (show x.natAbs ≤ 70368744177664 by omega) (show x.natAbs ≤ 70368744177664 by omega)
  have h2 := Nat.mul_le_mul (show y.natAbs ≤ 70368744177664 by omega) (show y.natAbs ≤ 70368744177664 by omega)
  refine ⟨h1, h2, ?_⟩
  rw [Int.natCast_add, Int.natCast_mul, Int.natCast_mul, Int.natAbs_mul_self', Int.natAbs_mul_self']

theorem dot_self (x y : Int) (w : World) (hv : Vld x ∧ Vld y) :
    Calls Tryz.prog 71 #[.agg #[.int .i64 x, .int .i64 y], .agg #[.int .i64 x, .int .i64 y]] w fun e w' => e = .returned (.agg #[.int .i64 (hiOf ((x.natAbs * x.natAbs + y.natAbs * y.natAbs : Nat) : Int)), .int .u64 (loOf ((x.natAbs * x.natAbs + y.natAbs * y.natAbs : Nat) : Int))]) ∧ Below w.heap.size w w' := by
  obtain ⟨h1, h2, h3⟩ := sq_facts hv
  have h := dot_any x y x y w (by unfold Vld at hv; omega) (by unfold Vld at hv; omega) (by unfold Vld at hv; omega) (by unfold Vld at hv; omega) (by omega) (by omega)
  rw [h3] at h
  exact h

set_option maxHeartbeats 1000000 in
theorem unit_in_ok (x y : Int) (A sq : Nat) (w : World) (hv : Vld x ∧ Vld y) (hz : ¬ (x = 0 ∧ y = 0)) (hsq : sq = x.natAbs * x.natAbs + y.natAbs * y.natAbs)
    (c0 : w.cell? ⟨A, 0, none⟩ = some (.int .i64 x)) (c1 : w.cell? ⟨A, 1, none⟩ = some (.int .i64 y)) :
    Calls Tryz.prog 70 #[.pointer (some ⟨A, 0, none⟩)] w fun e w' => e = .returned (.agg #[.int .i64 (shareS x sq), .int .i64 (shareS y sq)]) ∧ Below w.heap.size w w' := by
  obtain ⟨h1, h2, h3⟩ := sq_facts hv
  have hmf : ∀ (fn : Fn) (first cap : Array Value) (w : World), (Instr.makeFunc fn first cap).run Tryz.prog w = .ok (.func fn first cap) w := fun _ _ _ _ => rfl
  have hpos : 0 < sq := by
    rcases Nat.eq_zero_or_pos sq with h | h
    · have hx : x.natAbs * x.natAbs = 0 := by omega
      have hy : y.natAbs * y.natAbs = 0 := by omega
      have := Nat.mul_eq_zero.1 hx
      have := Nat.mul_eq_zero.1 hy
      omega
    · exact h
  have HV := Lib.hid hv
  have CD := Lib.hid (fun W => dot_self x y W hv)
  rw [← hsq] at CD
  have CX := Lib.hid (fun (S : Nat) W c0 c1 => unit_step x sq S W hv.1 (by omega) (by omega) hpos c0 c1)
  have CY := Lib.hid (fun (S : Nat) W c0 c1 => unit_step y sq S W hv.2 (by omega) (by omega) hpos c0 c1)
  have l0 : A < w.heap.size := World.block_lt_of_cell? _ _ c0
  have l1 : A < w.heap.size + 1 := by omega
  have l2 : A < w.heap.size + 1 + 1 := by omega
  clear hv h1 h2 h3 hpos hsq
  by_cases hx : x = 0
  · subst hx
    have hy : ¬ y = 0 := fun h => hz ⟨rfl, h⟩
    clear hz
    go_enter Tryz.func70, Tryz.ntmps70
    go_wp2_with (first | (go_at_call 28; refine (need2_ok 0 y _ _ HV.out (by simp [go_sem]) (by simp [go_sem])).mono ?_; rintro e w' ⟨rfl, rfl⟩))
    refine (CD.out _).mono ?_
    rintro e w1 ⟨rfl, hb1⟩
    have d0 := cell_later hb1 (alloc_cell (alloc_cell c0))
    have d1 := cell_later hb1 (alloc_cell (alloc_cell c1))
    have l3 := World.block_lt_of_cell? _ _ d0
    go_wp2_with fail
    refine (each_fix 0 y (shareS 0 sq) (shareS y sq) 73 w1.heap.size _ enters_unit_step (fun W hb => CX.out _ W (cell_later hb (by simp [go_sem])) (cell_later hb (by simp [go_sem]))) (fun W hb => CY.out _ W (cell_later hb (by simp [go_sem])) (cell_later hb (by simp [go_sem])))).mono ?_
    rintro e w2 ⟨rfl, hb2⟩
    have hB1 : Below w.heap.size w w1 := (((Below.refl w.heap.size w).alloc (Nat.le_refl _) _).alloc (by simp) _).trans (hb1.mono (by simp; omega))
    have hB2 : Below w.heap.size w w2 := (hB1.alloc hB1.size _).trans (hb2.mono (by have := hB1.size; simp; omega))
    have s1 : w.heap.size < w1.heap.size := by have := hb1.size; simp at this; omega
    have t0 : w2.cell? ⟨w.heap.size, 0, none⟩ = some (.int .i64 0) := cell_later hb2 (alloc_cell (cell_later hb1 (by simp [go_sem])))
    have t1 : w2.cell? ⟨w.heap.size, 1, none⟩ = some (.int .i64 0) := cell_later hb2 (alloc_cell (cell_later hb1 (by simp [go_sem])))
    have f0 : w2.frozen? ⟨w.heap.size, 0, none⟩ = false := (hb2.frozen (p := ⟨w.heap.size, 0, none⟩) (by simp; omega)).trans ((World.frozen?_alloc_old _ _ _ (by simp; omega)).trans ((hb1.frozen (p := ⟨w.heap.size, 0, none⟩) (by simp; omega)).trans (by simp [go_sem])))
    have f1 : w2.frozen? ⟨w.heap.size, 1, none⟩ = false := (hb2.frozen (p := ⟨w.heap.size, 1, none⟩) (by simp; omega)).trans ((World.frozen?_alloc_old _ _ _ (by simp; omega)).trans ((hb1.frozen (p := ⟨w.heap.size, 1, none⟩) (by simp; omega)).trans (by simp [go_sem])))
    go_wp2
    obtain ⟨k1, k2⟩ := set_pair (.int .i64 (shareS 0 sq)) (.int .i64 (shareS y sq)) t0 t1
    exact bodyPost_ret (v := .agg #[.int .i64 (shareS 0 sq), .int .i64 (shareS y sq)]) (by simp [results, Tryz.results70, go_sem, k1, k2]) rfl
      ⟨rfl, (hB2.setCell (by simp) _).setCell (by simp) _⟩
  · clear hz
    go_enter Tryz.func70, Tryz.ntmps70
    go_wp2_with (first | (go_at_call 28; refine (need2_ok x y _ _ HV.out (by simp [go_sem]) (by simp [go_sem])).mono ?_; rintro e w' ⟨rfl, rfl⟩))
    refine (CD.out _).mono ?_
    rintro e w1 ⟨rfl, hb1⟩
    have d0 := cell_later hb1 (alloc_cell (alloc_cell c0))
    have d1 := cell_later hb1 (alloc_cell (alloc_cell c1))
    have l3 := World.block_lt_of_cell? _ _ d0
    go_wp2_with fail
    refine (each_fix x y (shareS x sq) (shareS y sq) 73 w1.heap.size _ enters_unit_step (fun W hb => CX.out _ W (cell_later hb (by simp [go_sem])) (cell_later hb (by simp [go_sem]))) (fun W hb => CY.out _ W (cell_later hb (by simp [go_sem])) (cell_later hb (by simp [go_sem])))).mono ?_
    rintro e w2 ⟨rfl, hb2⟩
    have hB1 : Below w.heap.size w w1 := (((Below.refl w.heap.size w).alloc (Nat.le_refl _) _).alloc (by simp) _).trans (hb1.mono (by simp; omega))
    have hB2 : Below w.heap.size w w2 := (hB1.alloc hB1.size _).trans (hb2.mono (by have := hB1.size; simp; omega))
    have s1 : w.heap.size < w1.heap.size := by have := hb1.size; simp at this; omega
    have t0 : w2.cell? ⟨w.heap.size, 0, none⟩ = some (.int .i64 0) := cell_later hb2 (alloc_cell (cell_later hb1 (by simp [go_sem])))
    have t1 : w2.cell? ⟨w.heap.size, 1, none⟩ = some (.int .i64 0) := cell_later hb2 (alloc_cell (cell_later hb1 (by simp [go_sem])))
    have f0 : w2.frozen? ⟨w.heap.size, 0, none⟩ = false := (hb2.frozen (p := ⟨w.heap.size, 0, none⟩) (by simp; omega)).trans ((World.frozen?_alloc_old _ _ _ (by simp; omega)).trans ((hb1.frozen (p := ⟨w.heap.size, 0, none⟩) (by simp; omega)).trans (by simp [go_sem])))
    have f1 : w2.frozen? ⟨w.heap.size, 1, none⟩ = false := (hb2.frozen (p := ⟨w.heap.size, 1, none⟩) (by simp; omega)).trans ((World.frozen?_alloc_old _ _ _ (by simp; omega)).trans ((hb1.frozen (p := ⟨w.heap.size, 1, none⟩) (by simp; omega)).trans (by simp [go_sem])))
    go_wp2
    obtain ⟨k1, k2⟩ := set_pair (.int .i64 (shareS x sq)) (.int .i64 (shareS y sq)) t0 t1
    exact bodyPost_ret (v := .agg #[.int .i64 (shareS x sq), .int .i64 (shareS y sq)]) (by simp [results, Tryz.results70, go_sem, k1, k2]) rfl
      ⟨rfl, (hB2.setCell (by simp) _).setCell (by simp) _⟩

set_option maxHeartbeats 1000000 in
theorem unit_in_zero (A : Nat) (w : World) (c0 : w.cell? ⟨A, 0, none⟩ = some (.int .i64 0)) (c1 : w.cell? ⟨A, 1, none⟩ = some (.int .i64 0)) :
    Calls Tryz.prog 70 #[.pointer (some ⟨A, 0, none⟩)] w fun e w' => e = flt 10 ∧ Below w.heap.size w w' := by
  have HV : Hid (Vld 0 ∧ Vld 0) := ⟨⟨by omega, by omega⟩, by omega, by omega⟩
  have l0 : A < w.heap.size := World.block_lt_of_cell? _ _ c0
  have l1 : A < w.heap.size + 1 := by omega
  have l2 : A < w.heap.size + 1 + 1 := by omega
  go_enter Tryz.func70, Tryz.ntmps70
  go_wp2_with (first | (go_at_call 28; refine (need2_ok 0 0 _ _ HV.out (by simp [go_sem]) (by simp [go_sem])).mono ?_; rintro e w' ⟨rfl, rfl⟩))
  exact ⟨rfl, rfl, ((Below.refl w.heap.size w).alloc (Nat.le_refl _) _).alloc (by simp) _⟩

set_option maxHeartbeats 1000000 in
theorem unit_in_arg (x y : Int) (A : Nat) (w : World) (hv : ¬ (Vld x ∧ Vld y)) (c0 : w.cell? ⟨A, 0, none⟩ = some (.int .i64 x)) (c1 : w.cell? ⟨A, 1, none⟩ = some (.int .i64 y)) :
    Calls Tryz.prog 70 #[.pointer (some ⟨A, 0, none⟩)] w fun e w' => e = flt 2 ∧ Below w.heap.size w w' := by
  have HV := Lib.hid hv
  have l0 : A < w.heap.size := World.block_lt_of_cell? _ _ c0
  have l1 : A < w.heap.size + 1 := by omega
  have l2 : A < w.heap.size + 1 + 1 := by omega
  clear hv
  go_enter Tryz.func70, Tryz.ntmps70
  go_wp2_with (first | (go_at_call 28; refine (need2_bad x y _ _ HV.out (by simp [go_sem]) (by simp [go_sem])).mono ?_; rintro e w' ⟨rfl, rfl⟩))
  exact ⟨rfl, rfl, ((Below.refl w.heap.size w).alloc (Nat.le_refl _) _).alloc (by simp) _⟩

end Go.Proofs.YtfpfpmacobkmhaaGreatDoor
