/- The contract of package fixed's Length: the rounded length, or the error, as lengthS says. No conditions. -/
import Derived.Test.YtebfhjndgfcijaaGreatDoorRootf
import Derived.Test.YtebfhjndgfcijaaGreatDoorNeeds
import Derived.Test.YtebfhjndgfcijaaGreatDoorUnit
namespace Go.Proofs.YtebfhjndgfcijaaGreatDoor
open Go Go.RowKit

set_option maxHeartbeats 1000000 in
theorem length_in (x y how : Int) (sq Ap Hp : Nat) (w : World) (E : Ending) (hv : Vld x ∧ Vld y) (hsq : sq = x.natAbs * x.natAbs + y.natAbs * y.natAbs) (h0 : 0 ≤ how) (h1 : how ≤ 3)
    (hE : (∃ z, E = .returned (.int .i64 z)) ∨ (∃ n, E = flt n))
    (co : ∀ W, Calls Tryz.prog 81 #[.agg #[.int .i64 (hiOf sq), .int .u64 (loOf sq)], .func (.func (wayFn how)) #[] #[]] W fun e w' => e = E ∧ Below W.heap.size W w')
    (c0 : w.cell? ⟨Ap, 0, none⟩ = some (.int .i64 x)) (c1 : w.cell? ⟨Ap, 1, none⟩ = some (.int .i64 y)) (c2 : w.cell? ⟨Hp, 0, none⟩ = some (.int .i64 how)) :
    Calls Tryz.prog 80 #[.pointer (some ⟨Ap, 0, none⟩), .pointer (some ⟨Hp, 0, none⟩)] w fun e w' => e = E ∧ Below w.heap.size w w' := by
  have HV := Lib.hid hv
  have CD := Lib.hid (fun W => dot_self x y W hv)
  rw [← hsq] at CD
  have CO := Lib.hid co
  have HE := Lib.hid hE
  have CW := Lib.hid (fun w => way_ok how w h0 h1)
  clear hv hsq co hE h0 h1
  rcases HE.out with ⟨z, hz⟩ | ⟨n, hz⟩ <;> subst hz
  · clear HE
    go_enter Tryz.func80, Tryz.ntmps80
    go_wp2_with (go_at_call 62; refine (need2_ok x y _ _ HV.out (by simp [go_sem]) (by simp [go_sem])).mono ?_; rintro e w' ⟨rfl, rfl⟩)
    have c10 := alloc_cell (o := .cells #[.int .i64 x, .int .i64 y] 22) c0
    have c11 := alloc_cell (o := .cells #[.int .i64 x, .int .i64 y] 22) c1
    have c12 := alloc_cell (o := .cells #[.int .i64 x, .int .i64 y] 22) c2
    have hB0 : Below w.heap.size w (w.alloc (.cells #[.int .i64 x, .int .i64 y] 22)).drew := ((Below.refl _ _).alloc (Nat.le_refl _) _).drew
    clear c0 c1 c2
    go_region_held3 (fun w' => w'.cell? ⟨Ap, 0, none⟩ = some (.int .i64 x) ∧ w'.cell? ⟨Ap, 1, none⟩ = some (.int .i64 y) ∧ w'.cell? ⟨Hp, 0, none⟩ = some (.int .i64 how) ∧ Below w.heap.size w w')
      (go_keep)
      ((first | (go_at_call 76; refine (CD.out _).mono ?_; rintro e w1 ⟨rfl, hb1⟩; have c20 := cell_later hb1 c10; have c21 := cell_later hb1 c11; have c22 := cell_later hb1 c12; have hB1 := hB0.trans (hb1.mono (by simp))) | (go_at_call 36; refine (CW.out _).mono ?_; rintro e w' ⟨rfl, rfl⟩) | (go_at_call 81; refine (CO.out _).mono ?_; rintro e w2 ⟨rfl, hb2⟩; have c30 := cell_later hb2 c20; have c31 := cell_later hb2 c21; have c32 := cell_later hb2 c22; have hB2 := hB1.trans (hb2.mono hB1.size))))
    go_wp2
    go_ret
    exact ⟨rfl, hB2⟩
  · clear HE
    go_enter Tryz.func80, Tryz.ntmps80
    go_wp2_with (go_at_call 62; refine (need2_ok x y _ _ HV.out (by simp [go_sem]) (by simp [go_sem])).mono ?_; rintro e w' ⟨rfl, rfl⟩)
    have c10 := alloc_cell (o := .cells #[.int .i64 x, .int .i64 y] 22) c0
    have c11 := alloc_cell (o := .cells #[.int .i64 x, .int .i64 y] 22) c1
    have c12 := alloc_cell (o := .cells #[.int .i64 x, .int .i64 y] 22) c2
    have hB0 : Below w.heap.size w (w.alloc (.cells #[.int .i64 x, .int .i64 y] 22)).drew := ((Below.refl _ _).alloc (Nat.le_refl _) _).drew
    clear c0 c1 c2
    have CR := Lib.hid (fun W => or_never (R' := fun e w' => e = .returned (.int .i64 0) ∧ Below W.heap.size W w') (CO.out W))
    go_region_held2 (fun w' => w'.cell? ⟨Ap, 0, none⟩ = some (.int .i64 x) ∧ w'.cell? ⟨Ap, 1, none⟩ = some (.int .i64 y) ∧ w'.cell? ⟨Hp, 0, none⟩ = some (.int .i64 how) ∧ Below w.heap.size w w')
      (go_keep)
      ((first | (go_at_call 76; refine (CD.out _).mono ?_; rintro e w1 ⟨rfl, hb1⟩; have c20 := cell_later hb1 c10; have c21 := cell_later hb1 c11; have c22 := cell_later hb1 c12; have hB1 := hB0.trans (hb1.mono (by simp))) | (go_at_call 36; refine (CW.out _).mono ?_; rintro e w' ⟨rfl, rfl⟩) | (go_at_call 81; refine (CR.out _).mono ?_; rintro e w2 (⟨rfl, hb2⟩ | ⟨hx, rfl, hb2⟩); exact ⟨rfl, rfl, hB1.trans (hb2.mono hB1.size)⟩; have c30 := cell_later hb2 c20; have c31 := cell_later hb2 c21; have c32 := cell_later hb2 c22; have hB2 := hB1.trans (hb2.mono hB1.size))))
    exact (hx : False).elim

set_option maxHeartbeats 1000000 in
theorem length_how (x y how : Int) (Ap Hp : Nat) (w : World) (hv : Vld x ∧ Vld y) (hh : how < 0 ∨ 3 < how) (c0 : w.cell? ⟨Ap, 0, none⟩ = some (.int .i64 x)) (c1 : w.cell? ⟨Ap, 1, none⟩ = some (.int .i64 y)) (c2 : w.cell? ⟨Hp, 0, none⟩ = some (.int .i64 how)) :
    Calls Tryz.prog 80 #[.pointer (some ⟨Ap, 0, none⟩), .pointer (some ⟨Hp, 0, none⟩)] w fun e w' => e = flt 2 ∧ Below w.heap.size w w' := by
  have HV := Lib.hid hv
  obtain ⟨sq, hsq⟩ : ∃ sq : Nat, sq = x.natAbs * x.natAbs + y.natAbs * y.natAbs := ⟨_, rfl⟩
  have CD := Lib.hid (fun W => dot_self x y W hv)
  rw [← hsq] at CD
  have CW := Lib.hid (fun W => or_never (R' := fun e w' => e = .returned (.func (.func 99) #[] #[]) ∧ W = w') (way_bad how W hh))
  have CO : Hid (Never → ∀ W, Calls Tryz.prog 81 #[.agg #[.int .i64 (hiOf sq), .int .u64 (loOf sq)], .func (.func 99) #[] #[]] W fun e w' => e = .returned (.int .i64 0) ∧ Below W.heap.size W w') := fun h => (h : False).elim
  clear hv hsq hh
  go_enter Tryz.func80, Tryz.ntmps80
  go_wp2_with (go_at_call 62; refine (need2_ok x y _ _ HV.out (by simp [go_sem]) (by simp [go_sem])).mono ?_; rintro e w' ⟨rfl, rfl⟩)
  have c10 := alloc_cell (o := .cells #[.int .i64 x, .int .i64 y] 22) c0
  have c11 := alloc_cell (o := .cells #[.int .i64 x, .int .i64 y] 22) c1
  have c12 := alloc_cell (o := .cells #[.int .i64 x, .int .i64 y] 22) c2
  have hB0 : Below w.heap.size w (w.alloc (.cells #[.int .i64 x, .int .i64 y] 22)).drew := ((Below.refl _ _).alloc (Nat.le_refl _) _).drew
  clear c0 c1 c2
  go_region_held2 (fun w' => w'.cell? ⟨Ap, 0, none⟩ = some (.int .i64 x) ∧ w'.cell? ⟨Ap, 1, none⟩ = some (.int .i64 y) ∧ w'.cell? ⟨Hp, 0, none⟩ = some (.int .i64 how) ∧ Below w.heap.size w w')
    (go_keep)
    ((first | (go_at_call 76; refine (CD.out _).mono ?_; rintro e w1 ⟨rfl, hb1⟩; have c20 := cell_later hb1 c10; have c21 := cell_later hb1 c11; have c22 := cell_later hb1 c12; have hB1 := hB0.trans (hb1.mono (by simp))) | (go_at_call 36; refine (CW.out _).mono ?_; rintro e w3 (⟨rfl, rfl⟩ | ⟨hx, rfl, rfl⟩); exact ⟨rfl, rfl, hB1⟩) | (go_at_call 81; refine (CO.out hx _).mono ?_; rintro e w2 ⟨rfl, hb2⟩; have c30 := cell_later hb2 c20; have c31 := cell_later hb2 c21; have c32 := cell_later hb2 c22; have hB2 := hB1.trans (hb2.mono hB1.size))))
  exact (hx : False).elim

set_option maxHeartbeats 1000000 in
theorem length_arg (x y : Int) (Ap Hp : Nat) (w : World) (hv : ¬ (Vld x ∧ Vld y)) (c0 : w.cell? ⟨Ap, 0, none⟩ = some (.int .i64 x)) (c1 : w.cell? ⟨Ap, 1, none⟩ = some (.int .i64 y)) :
    Calls Tryz.prog 80 #[.pointer (some ⟨Ap, 0, none⟩), .pointer (some ⟨Hp, 0, none⟩)] w fun e w' => e = flt 2 ∧ Below w.heap.size w w' := by
  have HV := Lib.hid hv
  clear hv
  go_enter Tryz.func80, Tryz.ntmps80
  go_wp2_with (go_at_call 62; refine (need2_bad x y _ _ HV.out (by simp [go_sem]) (by simp [go_sem])).mono ?_; rintro e w' ⟨rfl, rfl⟩)
  exact ⟨rfl, rfl, (Below.refl w.heap.size w).alloc (Nat.le_refl _) _⟩

theorem enters_length (args : Array Value) (w : World) : (callFunc 80 args).run Tryz.prog w = .ok (.enter 80 args) w := by
  simp [go_sem]

set_option maxHeartbeats 1000000 in
theorem length_out (x y how : Int) (r : Int × Int) (w : World)
    (hin : (r.2 = 0 ∧ ∀ Ap Hp W, W.cell? ⟨Ap, 0, none⟩ = some (.int .i64 x) → W.cell? ⟨Ap, 1, none⟩ = some (.int .i64 y) → W.cell? ⟨Hp, 0, none⟩ = some (.int .i64 how) →
        Calls Tryz.prog 80 #[.pointer (some ⟨Ap, 0, none⟩), .pointer (some ⟨Hp, 0, none⟩)] W fun e w' => e = .returned (.int .i64 r.1) ∧ Below W.heap.size W w') ∨
      (r.1 = 0 ∧ ∀ Ap Hp W, W.cell? ⟨Ap, 0, none⟩ = some (.int .i64 x) → W.cell? ⟨Ap, 1, none⟩ = some (.int .i64 y) → W.cell? ⟨Hp, 0, none⟩ = some (.int .i64 how) →
        Calls Tryz.prog 80 #[.pointer (some ⟨Ap, 0, none⟩), .pointer (some ⟨Hp, 0, none⟩)] W fun e w' => e = flt r.2 ∧ Below W.heap.size W w')) :
    Calls Tryz.prog 23 #[.agg #[.int .i64 x, .int .i64 y], .int .i64 how] w fun e w' => e = .returned (.tuple #[.int .i64 r.1, .int .i64 r.2]) ∧ Below w.heap.size w w' := by
  have hmf : ∀ (fn : Fn) (first cap : Array Value) (w : World), (Instr.makeFunc fn first cap).run Tryz.prog w = .ok (.func fn first cap) w := fun _ _ _ _ => rfl
  have ha := attempt_fix 80 #[.pointer (some ⟨w.heap.size, 0, none⟩), .pointer (some ⟨w.heap.size + 1, 0, none⟩)] r
    ((w.alloc (.cells #[.int .i64 x, .int .i64 y] 33)).alloc (.cells #[.int .i64 how] 3)) enters_length
    (by
      rcases hin with ⟨h, hin⟩ | ⟨h, hin⟩
      · exact .inl ⟨h, fun W hb => hin _ _ W (cell_later hb (by simp [go_sem])) (cell_later hb (by simp [go_sem])) (cell_later hb (by simp [go_sem]))⟩
      · exact .inr ⟨h, fun W hb => hin _ _ W (cell_later hb (by simp [go_sem])) (cell_later hb (by simp [go_sem])) (cell_later hb (by simp [go_sem]))⟩)
  have HA := Lib.hid ha
  clear ha hin
  go_enter Tryz.func23, Tryz.ntmps23
  go_wp2_with (go_at_call 34; refine HA.out.mono ?_; rintro e w1 ⟨rfl, hb⟩)
  go_ret2
  exact ⟨rfl, (((Below.refl w.heap.size w).alloc (Nat.le_refl _) _).alloc (by simp) _).trans (hb.mono (by simp; omega))⟩

/-- The square of a spot's length. -/
def sqS (x y : Int) : Nat := x.natAbs * x.natAbs + y.natAbs * y.natAbs

/-- What Length gives: the value and the error. -/
noncomputable def lengthS (x y how : Int) : Int × Int :=
  if (Vld x ∧ Vld y) ∧ 0 ≤ how ∧ how ≤ 3 then (if Vld (rootS how (sqS x y)) then (rootS how (sqS x y), 0) else (0, 4)) else (0, 2)

theorem length_any (x y how : Int) (w : World) :
    Calls Tryz.prog 23 #[.agg #[.int .i64 x, .int .i64 y], .int .i64 how] w fun e w' => e = .returned (.tuple #[.int .i64 (lengthS x y how).1, .int .i64 (lengthS x y how).2]) ∧ Below w.heap.size w w' := by
  apply length_out
  unfold lengthS
  by_cases hv : Vld x ∧ Vld y
  · by_cases hh : 0 ≤ how ∧ how ≤ 3
    · rw [if_pos ⟨hv, hh⟩]
      have hb : sqS x y < 19807040628566084398385987584 := by have h1 := (sq_facts hv).1; have h2 := (sq_facts hv).2.1; unfold sqS; omega
      by_cases hf : Vld (rootS how (sqS x y))
      · rw [if_pos hf]
        exact .inl ⟨rfl, fun A H W ca cb ch => length_in x y how (sqS x y) A H W _ hv rfl hh.1 hh.2 (.inl ⟨_, rfl⟩) (fun W => (root_any how (sqS x y) W hh.1 hh.2 hb).1 hf) ca cb ch⟩
      · rw [if_neg hf]
        exact .inr ⟨rfl, fun A H W ca cb ch => length_in x y how (sqS x y) A H W _ hv rfl hh.1 hh.2 (.inr ⟨_, rfl⟩) (fun W => (root_any how (sqS x y) W hh.1 hh.2 hb).2 hf) ca cb ch⟩
    · rw [if_neg (fun h => hh h.2)]
      exact .inr ⟨rfl, fun A H W ca cb ch => length_how x y how A H W hv (by omega) ca cb ch⟩
  · rw [if_neg (fun h => hv h.1)]
    exact .inr ⟨rfl, fun A H W ca cb _ => length_arg x y A H W hv ca cb⟩

end Go.Proofs.YtebfhjndgfcijaaGreatDoor
