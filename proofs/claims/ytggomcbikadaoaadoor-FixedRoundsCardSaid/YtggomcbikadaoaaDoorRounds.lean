/- besomlaw01.FixedRounds: true, whatever the numbers. -/
import Derived.Test.YtggomcbikadaoaaDoorFour
import Derived.Test.YtggomcbikadaoaaDoorAlive
import Derived.Test.YtggomcbikadaoaaDoorMul
namespace Go.Proofs.YtggomcbikadaoaaDoor
open Go Go.RowKit

set_option maxHeartbeats 1000000 in
theorem clo_mul (x b how : Int) (p : Addr) (W : World) (hc : W.cell? p = some (.int .i64 b)) :
    Calls Tryd.prog 6 #[.int .i64 x, .int .i64 how, .pointer (some p)] W fun e W' => e = .returned (.tuple #[.int .i64 (mulS x b how).1, .int .i64 (mulS x b how).2]) ∧ Below W.heap.size W W' := by
  have CC := Lib.hid (mul_any x b how W)
  go_enter Tryd.func6, Tryd.ntmps6
  go_wp2_with (go_at_call 7; refine CC.out.mono ?_; rintro e w1 ⟨rfl, hb1⟩)
  go_ret2
  exact ⟨rfl, hb1⟩

set_option maxHeartbeats 1000000 in
theorem clo_div (x b how : Int) (p : Addr) (W : World) (hc : W.cell? p = some (.int .i64 b)) :
    Calls Tryd.prog 8 #[.int .i64 x, .int .i64 how, .pointer (some p)] W fun e W' => e = .returned (.tuple #[.int .i64 (divS x b how).1, .int .i64 (divS x b how).2]) ∧ Below W.heap.size W W' := by
  have CC := Lib.hid (div_any x b how W)
  go_enter Tryd.func8, Tryd.ntmps8
  go_wp2_with (go_at_call 9; refine CC.out.mono ?_; rintro e w1 ⟨rfl, hb1⟩)
  go_ret2
  exact ⟨rfl, hb1⟩

set_option maxHeartbeats 1000000 in
theorem clo_scale (x num den how : Int) (p q : Addr) (W : World) (hc : W.cell? p = some (.int .i64 num)) (hd : W.cell? q = some (.int .i64 den)) :
    Calls Tryd.prog 10 #[.int .i64 x, .int .i64 how, .pointer (some p), .pointer (some q)] W fun e W' => e = .returned (.tuple #[.int .i64 (scaleS x num den how).1, .int .i64 (scaleS x num den how).2]) ∧ Below W.heap.size W W' := by
  have CC := Lib.hid (scale_any x num den how W)
  go_enter Tryd.func10, Tryd.ntmps10
  go_wp2_with (go_at_call 11; refine CC.out.mono ?_; rintro e w1 ⟨rfl, hb1⟩)
  go_ret2
  exact ⟨rfl, hb1⟩

set_option maxHeartbeats 1000000 in
theorem clo_root (a how : Int) (p : Addr) (W : World) (hc : W.cell? p = some (.int .i64 a)) :
    Calls Tryd.prog 16 #[.int .i64 how, .pointer (some p)] W fun e W' => e = .returned (.tuple #[.int .i64 (rootfS a how).1, .int .i64 (rootfS a how).2]) ∧ Below W.heap.size W W' := by
  have CC := Lib.hid (rootf_any a how W)
  go_enter Tryd.func16, Tryd.ntmps16
  go_wp2_with (go_at_call 17; refine CC.out.mono ?_; rintro e w1 ⟨rfl, hb1⟩)
  go_ret2
  exact ⟨rfl, hb1⟩

set_option maxHeartbeats 1000000 in
theorem clo_4 (K : Nat) (cap : Array Value) (a how v n : Int) (pc pa : Addr) (W : World) (hcf : ∀ args w, (callFunc K args).run Tryd.prog w = .ok (.enter K args) w)
    (h1 : W.cell? pc = some (.func (.func K) #[] cap)) (h2 : W.cell? pa = some (.int .i64 a))
    (cc : Calls Tryd.prog K (#[.int .i64 a, .int .i64 how] ++ cap) W fun e W' => e = .returned (.tuple #[.int .i64 v, .int .i64 n]) ∧ Below W.heap.size W W') :
    Calls Tryd.prog 13 #[.int .i64 how, .pointer (some pc), .pointer (some pa)] W fun e W' => e = .returned (.tuple #[.int .i64 v, .int .i64 n]) ∧ Below W.heap.size W W' := by
  have CC := Lib.hid cc
  clear cc
  go_enter Tryd.func13, Tryd.ntmps13
  go_wp2_with (with_reducible refine CC.out.mono ?_; rintro e w1 ⟨rfl, hb1⟩)
  go_ret2
  exact ⟨rfl, hb1⟩

set_option maxHeartbeats 1000000 in
theorem clo_5 (K : Nat) (cap : Array Value) (a x how v n : Int) (pc pa : Addr) (W : World) (hcf : ∀ args w, (callFunc K args).run Tryd.prog w = .ok (.enter K args) w)
    (h1 : W.cell? pc = some (.func (.func K) #[] cap)) (h2 : W.cell? pa = some (.int .i64 a)) (hx : wrap64 (-a) = x)
    (cc : Calls Tryd.prog K (#[.int .i64 x, .int .i64 how] ++ cap) W fun e W' => e = .returned (.tuple #[.int .i64 v, .int .i64 n]) ∧ Below W.heap.size W W') :
    Calls Tryd.prog 14 #[.int .i64 how, .pointer (some pc), .pointer (some pa)] W fun e W' => e = .returned (.tuple #[.int .i64 v, .int .i64 n]) ∧ Below W.heap.size W W' := by
  have CC := Lib.hid cc
  clear cc
  go_enter Tryd.func14, Tryd.ntmps14
  go_wp2_with (with_reducible refine CC.out.mono ?_; rintro e w1 ⟨rfl, hb1⟩)
  go_ret2
  exact ⟨rfl, hb1⟩

/-- What the k-th function value of the law's list gives. -/
def rS (k : Nat) (b num den x how : Int) : Int × Int := if k = 0 then mulS x b how else if k = 1 then divS x b how else scaleS x num den how
def rK (k : Nat) : Nat := if k = 0 then 6 else if k = 1 then 8 else 10
def rC (H k : Nat) : Array Value := if k = 2 then #[.pointer (some ⟨H + 1 + 1, 0, none⟩), .pointer (some ⟨H + 1 + 1 + 1, 0, none⟩)] else #[.pointer (some ⟨H + 1, 0, none⟩)]
def fv (H k : Nat) : Value := .func (.func (rK k)) #[] (rC H k)

theorem rK_enters (k : Nat) : ∀ args w, (callFunc (rK k) args).run Tryd.prog w = .ok (.enter (rK k) args) w := by
  intro args w
  unfold rK
  split
  · simp [go_sem]
  · split <;> simp [go_sem]

/-- The law's boxes. -/
def RBox (a b num den : Int) (H : Nat) (W : World) : Prop :=
  W.cell? ⟨H, 0, none⟩ = some (.int .i64 a) ∧ W.cell? ⟨H + 1, 0, none⟩ = some (.int .i64 b) ∧ W.cell? ⟨H + 1 + 1, 0, none⟩ = some (.int .i64 num) ∧ W.cell? ⟨H + 1 + 1 + 1, 0, none⟩ = some (.int .i64 den)
theorem RBox.later {a b num den : Int} {H : Nat} {W W' : World} (h : RBox a b num den H W) (hb : Below W.heap.size W W') : RBox a b num den H W' :=
  ⟨cell_later hb h.1, cell_later hb h.2.1, cell_later hb h.2.2.1, cell_later hb h.2.2.2⟩
theorem RBox.alloc {a b num den : Int} {H : Nat} {W : World} (h : RBox a b num den H W) (o : Obj) : RBox a b num den H (W.alloc o) :=
  ⟨alloc_cell h.1, alloc_cell h.2.1, alloc_cell h.2.2.1, alloc_cell h.2.2.2⟩

theorem rS_calls (k : Nat) (hk : k < 3) (a b num den x how : Int) (H : Nat) (W : World) (h : RBox a b num den H W) :
    Calls Tryd.prog (rK k) (#[.int .i64 x, .int .i64 how] ++ rC H k) W fun e W' => e = .returned (.tuple #[.int .i64 (rS k b num den x how).1, .int .i64 (rS k b num den x how).2]) ∧ Below W.heap.size W W' := by
  obtain ⟨_, h1, h2, h3⟩ := h
  rcases k with _ | _ | _ | k
  · exact clo_mul x b how _ W h1
  · exact clo_div x b how _ W h1
  · exact clo_scale x num den how _ _ W h2 h3
  · omega

theorem four_4 (k : Nat) (hk : k < 3) (a b num den v0 v1 v2 v3 : Int) (H c : Nat) (W : World) (h : RBox a b num den H W) (hc : W.cell? ⟨c, 0, none⟩ = some (fv H k))
    (s0 : rS k b num den a 0 = (v0, 0)) (s1 : rS k b num den a 1 = (v1, 0)) (s2 : rS k b num den a 2 = (v2, 0)) (s3 : rS k b num den a 3 = (v3, 0)) :
    Calls Tryd.prog 12 #[.func (.func 13) #[] #[.pointer (some ⟨c, 0, none⟩), .pointer (some ⟨H, 0, none⟩)]] W fun e W' => e = .returned (.tuple #[.agg #[.int .i64 v0, .int .i64 v1, .int .i64 v2, .int .i64 v3], .bool true]) ∧ Below W.heap.size W W' := by
  have g : ∀ how W', Below W.heap.size W W' → _ := fun (how : Int) W' hb => clo_4 (rK k) (rC H k) a how _ _ ⟨c, 0, none⟩ ⟨H, 0, none⟩ W' (rK_enters k) (cell_later hb hc) (cell_later hb h.1) (rS_calls k hk a b num den a how H W' (h.later hb))
  have e : ∀ args w, (callFunc 13 args).run Tryd.prog w = .ok (.enter 13 args) w := fun args w => by simp [go_sem]
  refine four2_ok _ _ _ v0 v1 v2 v3 W e ?_ ?_ ?_ ?_
  · intro W' hb; have := g 0 W' hb; rw [s0] at this; exact this
  · intro W' hb; have := g 1 W' hb; rw [s1] at this; exact this
  · intro W' hb; have := g 2 W' hb; rw [s2] at this; exact this
  · intro W' hb; have := g 3 W' hb; rw [s3] at this; exact this

theorem four_4_bad (k : Nat) (hk : k < 3) (a b num den : Int) (H c : Nat) (W : World) (h : RBox a b num den H W) (hc : W.cell? ⟨c, 0, none⟩ = some (fv H k))
    (hbad : ¬ ((rS k b num den a 0).2 = 0 ∧ (rS k b num den a 1).2 = 0 ∧ (rS k b num den a 2).2 = 0 ∧ (rS k b num den a 3).2 = 0)) :
    Calls Tryd.prog 12 #[.func (.func 13) #[] #[.pointer (some ⟨c, 0, none⟩), .pointer (some ⟨H, 0, none⟩)]] W fun e W' => ∃ l0 l1 l2 l3, e = .returned (.tuple #[.agg #[.int .i64 l0, .int .i64 l1, .int .i64 l2, .int .i64 l3], .bool false]) ∧ Below W.heap.size W W' := by
  have g : ∀ how W', Below W.heap.size W W' → _ := fun (how : Int) W' hb => clo_4 (rK k) (rC H k) a how _ _ ⟨c, 0, none⟩ ⟨H, 0, none⟩ W' (rK_enters k) (cell_later hb hc) (cell_later hb h.1) (rS_calls k hk a b num den a how H W' (h.later hb))
  have e : ∀ args w, (callFunc 13 args).run Tryd.prog w = .ok (.enter 13 args) w := fun args w => by simp [go_sem]
  exact four2_bad _ _ _ _ _ _ _ _ _ _ _ W e hbad (g 0) (g 1) (g 2) (g 3)

theorem four_5 (k : Nat) (hk : k < 3) (a x b num den v0 v1 v2 v3 : Int) (H c : Nat) (W : World) (hx : wrap64 (-a) = x) (h : RBox a b num den H W) (hc : W.cell? ⟨c, 0, none⟩ = some (fv H k))
    (s0 : rS k b num den x 0 = (v0, 0)) (s1 : rS k b num den x 1 = (v1, 0)) (s2 : rS k b num den x 2 = (v2, 0)) (s3 : rS k b num den x 3 = (v3, 0)) :
    Calls Tryd.prog 12 #[.func (.func 14) #[] #[.pointer (some ⟨c, 0, none⟩), .pointer (some ⟨H, 0, none⟩)]] W fun e W' => e = .returned (.tuple #[.agg #[.int .i64 v0, .int .i64 v1, .int .i64 v2, .int .i64 v3], .bool true]) ∧ Below W.heap.size W W' := by
  have g : ∀ how W', Below W.heap.size W W' → _ := fun (how : Int) W' hb => clo_5 (rK k) (rC H k) a x how _ _ ⟨c, 0, none⟩ ⟨H, 0, none⟩ W' (rK_enters k) (cell_later hb hc) (cell_later hb h.1) hx (rS_calls k hk a b num den x how H W' (h.later hb))
  have e : ∀ args w, (callFunc 14 args).run Tryd.prog w = .ok (.enter 14 args) w := fun args w => by simp [go_sem]
  refine four2_ok _ _ _ v0 v1 v2 v3 W e ?_ ?_ ?_ ?_
  · intro W' hb; have := g 0 W' hb; rw [s0] at this; exact this
  · intro W' hb; have := g 1 W' hb; rw [s1] at this; exact this
  · intro W' hb; have := g 2 W' hb; rw [s2] at this; exact this
  · intro W' hb; have := g 3 W' hb; rw [s3] at this; exact this

theorem four_6 (a v0 v1 v2 v3 : Int) (H : Nat) (W : World) (h : W.cell? ⟨H, 0, none⟩ = some (.int .i64 a))
    (s0 : rootfS a 0 = (v0, 0)) (s1 : rootfS a 1 = (v1, 0)) (s2 : rootfS a 2 = (v2, 0)) (s3 : rootfS a 3 = (v3, 0)) :
    Calls Tryd.prog 12 #[.func (.func 16) #[] #[.pointer (some ⟨H, 0, none⟩)]] W fun e W' => e = .returned (.tuple #[.agg #[.int .i64 v0, .int .i64 v1, .int .i64 v2, .int .i64 v3], .bool true]) ∧ Below W.heap.size W W' := by
  have g : ∀ how W', Below W.heap.size W W' → _ := fun (how : Int) W' hb => clo_root a how ⟨H, 0, none⟩ W' (cell_later hb h)
  have e : ∀ args w, (callFunc 16 args).run Tryd.prog w = .ok (.enter 16 args) w := fun args w => by simp [go_sem]
  refine four1_ok _ _ v0 v1 v2 v3 W e ?_ ?_ ?_ ?_
  · intro W' hb; have := g 0 W' hb; rw [s0] at this; exact this
  · intro W' hb; have := g 1 W' hb; rw [s1] at this; exact this
  · intro W' hb; have := g 2 W' hb; rw [s2] at this; exact this
  · intro W' hb; have := g 3 W' hb; rw [s3] at this; exact this

theorem four_6_bad (a : Int) (H : Nat) (W : World) (h : W.cell? ⟨H, 0, none⟩ = some (.int .i64 a))
    (hbad : ¬ ((rootfS a 0).2 = 0 ∧ (rootfS a 1).2 = 0 ∧ (rootfS a 2).2 = 0 ∧ (rootfS a 3).2 = 0)) :
    Calls Tryd.prog 12 #[.func (.func 16) #[] #[.pointer (some ⟨H, 0, none⟩)]] W fun e W' => ∃ l0 l1 l2 l3, e = .returned (.tuple #[.agg #[.int .i64 l0, .int .i64 l1, .int .i64 l2, .int .i64 l3], .bool false]) ∧ Below W.heap.size W W' := by
  have g : ∀ how W', Below W.heap.size W W' → _ := fun (how : Int) W' hb => clo_root a how ⟨H, 0, none⟩ W' (cell_later hb h)
  have e : ∀ args w, (callFunc 16 args).run Tryd.prog w = .ok (.enter 16 args) w := fun args w => by simp [go_sem]
  exact four1_bad _ _ _ _ _ _ _ _ _ _ W e hbad (g 0) (g 1) (g 2) (g 3)

theorem vld_neg {x : Int} (h : Vld x) : Vld (-x) ∧ wrap64 (-x) = -x := by
  unfold Vld at h
  refine ⟨⟨by omega, by omega⟩, ?_⟩
  unfold wrap64
  omega

/-- What the four results are, if none is refused: the roundings of one quotient, and of its negative one. -/
theorem rS_ok (k : Nat) (hk : k < 3) (a b num den : Int)
    (h : (rS k b num den a 0).2 = 0 ∧ (rS k b num den a 1).2 = 0 ∧ (rS k b num den a 2).2 = 0 ∧ (rS k b num den a 3).2 = 0) :
    ∃ n d, d ≠ 0 ∧ Vld a ∧ ∀ j : Int, 0 ≤ j → j ≤ 3 → rS k b num den a j = (rnd j n d, 0) ∧ Vld (rnd j n d) ∧ (Vld (rnd j (-n) d) → rS k b num den (-a) j = (rnd j (-n) d, 0)) := by
  have hj : ∀ j : Int, 0 ≤ j → j ≤ 3 → (rS k b num den a j).2 = 0 := fun j j0 j3 => by
    rcases how_cases j0 j3 with rfl | rfl | rfl | rfl
    · exact h.1
    · exact h.2.1
    · exact h.2.2.1
    · exact h.2.2.2
  clear h
  rcases k with _ | _ | _ | k
  · have hj' : ∀ j : Int, 0 ≤ j → j ≤ 3 → (mulS a b j).2 = 0 := hj
    by_cases hv : Vld a ∧ Vld b
    case neg =>
      have := hj' 0 (by omega) (by omega)
      unfold mulS at this
      rw [if_neg (fun h => hv h.1)] at this
      exact absurd this (by decide)
    refine ⟨a * b, 65536, by decide, hv.1, fun j j0 j3 => ?_⟩
    have h1 := hj' j j0 j3
    show mulS a b j = _ ∧ _ ∧ (_ → mulS (-a) b j = _)
    unfold mulS at h1 ⊢
    rw [if_pos ⟨hv, j0, j3⟩] at h1 ⊢
    by_cases hf : Vld (rnd j (a * b) 65536)
    · rw [if_pos hf]
      refine ⟨rfl, hf, fun hn => ?_⟩
      rw [if_pos ⟨⟨(vld_neg hv.1).1, hv.2⟩, j0, j3⟩, Int.neg_mul, if_pos hn]
    · rw [if_neg hf] at h1
      exact absurd h1 (by decide)
  · have hj' : ∀ j : Int, 0 ≤ j → j ≤ 3 → (divS a b j).2 = 0 := hj
    by_cases hv : Vld a ∧ Vld b
    case neg =>
      have := hj' 0 (by omega) (by omega)
      unfold divS at this
      rw [if_neg (fun h => hv h.1)] at this
      exact absurd this (by decide)
    by_cases hb : b = 0
    case pos =>
      have := hj' 0 (by omega) (by omega)
      unfold divS at this
      rw [if_pos ⟨hv, by omega, by omega⟩, if_pos hb] at this
      exact absurd this (by decide)
    refine ⟨a * 65536, b, hb, hv.1, fun j j0 j3 => ?_⟩
    have h1 := hj' j j0 j3
    show divS a b j = _ ∧ _ ∧ (_ → divS (-a) b j = _)
    unfold divS at h1 ⊢
    rw [if_pos ⟨hv, j0, j3⟩, if_neg hb] at h1 ⊢
    by_cases hf : Vld (rnd j (a * 65536) b)
    · rw [if_pos hf]
      refine ⟨rfl, hf, fun hn => ?_⟩
      rw [if_pos ⟨⟨(vld_neg hv.1).1, hv.2⟩, j0, j3⟩, if_neg hb, Int.neg_mul, if_pos hn]
    · rw [if_neg hf] at h1
      exact absurd h1 (by decide)
  · have hj' : ∀ j : Int, 0 ≤ j → j ≤ 3 → (scaleS a num den j).2 = 0 := hj
    by_cases hv : Vld a ∧ Rate num ∧ Rate den
    case neg =>
      have := hj' 0 (by omega) (by omega)
      unfold scaleS at this
      rw [if_neg (fun h => hv ⟨h.1, h.2.2⟩)] at this
      exact absurd this (by decide)
    by_cases hb : den = 0
    case pos =>
      have := hj' 0 (by omega) (by omega)
      unfold scaleS at this
      rw [if_pos ⟨hv.1, by omega, hv.2⟩, if_pos hb] at this
      exact absurd this (by decide)
    refine ⟨a * num, den, hb, hv.1, fun j j0 j3 => ?_⟩
    have h1 := hj' j j0 j3
    show scaleS a num den j = _ ∧ _ ∧ (_ → scaleS (-a) num den j = _)
    unfold scaleS at h1 ⊢
    rw [if_pos ⟨hv.1, ⟨j0, j3⟩, hv.2⟩, if_neg hb] at h1 ⊢
    by_cases hf : Vld (rnd j (a * num) den)
    · rw [if_pos hf]
      refine ⟨rfl, hf, fun hn => ?_⟩
      rw [if_pos ⟨(vld_neg hv.1).1, ⟨j0, j3⟩, hv.2⟩, if_neg hb, Int.neg_mul, if_pos hn]
    · rw [if_neg hf] at h1
      exact absurd h1 (by decide)
  · omega

/-- The same in letters: what the law's round asks. -/
theorem rS_round (k : Nat) (hk : k < 3) (a b num den : Int)
    (h : (rS k b num den a 0).2 = 0 ∧ (rS k b num den a 1).2 = 0 ∧ (rS k b num den a 2).2 = 0 ∧ (rS k b num den a 3).2 = 0) :
    ∃ x v0 v1 v2 v3 m0 m1 m2 m3 : Int, wrap64 (-a) = x ∧ (rS k b num den a 0 = (v0, 0) ∧ rS k b num den a 1 = (v1, 0) ∧ rS k b num den a 2 = (v2, 0) ∧ rS k b num den a 3 = (v3, 0)) ∧
      (rS k b num den x 0 = (m0, 0) ∧ rS k b num den x 1 = (m1, 0) ∧ rS k b num den x 2 = (m2, 0) ∧ rS k b num den x 3 = (m3, 0)) ∧
      (wrap64 (-v0) = m0 ∧ wrap64 (-v3) = m3 ∧ wrap64 (-v1) = m2 ∧ wrap64 (-v2) = m1) ∧ Together v0 v1 v2 v3 ∧ -70368744177664 ≤ v2 ∧ v2 ≤ 70368744177664 := by
  obtain ⟨n, d, hd, va, g⟩ := rS_ok k hk a b num den h
  obtain ⟨t0, t3, t2, t1⟩ := rnd_turn n d hd
  obtain ⟨a0, b0, c0⟩ := g 0 (by omega) (by omega)
  obtain ⟨a1, b1, c1⟩ := g 1 (by omega) (by omega)
  obtain ⟨a2, b2, c2⟩ := g 2 (by omega) (by omega)
  obtain ⟨a3, b3, c3⟩ := g 3 (by omega) (by omega)
  rw [t0] at c0
  rw [t1] at c1
  rw [t2] at c2
  rw [t3] at c3
  refine ⟨-a, _, _, _, _, _, _, _, _, (vld_neg va).2, ⟨a0, a1, a2, a3⟩, ⟨c0 (vld_neg b0).1, c1 (vld_neg b2).1, c2 (vld_neg b1).1, c3 (vld_neg b3).1⟩, ⟨(vld_neg b0).2, (vld_neg b3).2, (vld_neg b1).2, (vld_neg b2).2⟩, rnd_together n d hd, b2.1, b2.2⟩

end Go.Proofs.YtggomcbikadaoaaDoor
