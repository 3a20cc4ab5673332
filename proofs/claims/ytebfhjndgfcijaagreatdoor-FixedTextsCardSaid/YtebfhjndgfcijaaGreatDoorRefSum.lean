/- The document's own answers: Valid, In, Check, Of, Int, Add, Sub. -/
import Derived.Test.YtebfhjndgfcijaaGreatDoorRounded
import Derived.Test.YtebfhjndgfcijaaGreatDoorAddf
import Derived.Test.YtebfhjndgfcijaaGreatDoorIntf
namespace Go.Proofs.YtebfhjndgfcijaaGreatDoor
open Go Go.RowKit

theorem ret_bool {a b : Bool} (h : a = b) : Ending.returned (.bool a) = .returned (.bool b) := by rw [h]

set_option maxHeartbeats 1000000 in
theorem refValid_ok (a : Int) (w : World) (h : Vld a) : Calls Tryz.prog 57 #[.int .i64 a] w fun e w' => e = .returned (.bool true) ∧ w = w' := by
  obtain ⟨h0, h1⟩ := h
  go_enter Tryz.func57, Tryz.ntmps57
  go_wp2
  go_ret
  exact ⟨rfl, rfl⟩
set_option maxHeartbeats 1000000 in
theorem refValid_bad (a : Int) (w : World) (h : ¬ Vld a) : Calls Tryz.prog 57 #[.int .i64 a] w fun e w' => e = .returned (.bool false) ∧ w = w' := by
  have h' : a < -70368744177664 ∨ 70368744177664 < a := by unfold Vld at h; omega
  clear h
  rcases h' with h | h
  · go_enter Tryz.func57, Tryz.ntmps57
    go_wp2
    go_ret
    exact ⟨rfl, rfl⟩
  · have h2 : -70368744177664 ≤ a := by omega
    go_enter Tryz.func57, Tryz.ntmps57
    go_wp2
    go_ret
    exact ⟨ret_bool (by simp; omega), rfl⟩
theorem refValid (a : Int) (w : World) : Calls Tryz.prog 57 #[.int .i64 a] w fun e w' => e = .returned (.bool (decide (Vld a))) ∧ w = w' := by
  by_cases h : Vld a
  · rw [decide_eq_true h]
    exact refValid_ok a w h
  · rw [decide_eq_false h]
    exact refValid_bad a w h

set_option maxHeartbeats 1000000 in
theorem refIn_ok (n l h : Int) (w : World) (h0 : l ≤ n) (h1 : n ≤ h) : Calls Tryz.prog 118 #[.int .i64 n, .int .i64 l, .int .i64 h] w fun e w' => e = .returned (.bool true) ∧ w = w' := by
  go_enter Tryz.func118, Tryz.ntmps118
  go_wp2
  go_ret
  exact ⟨rfl, rfl⟩
set_option maxHeartbeats 1000000 in
theorem refIn_bad (n l h : Int) (w : World) (hb : n < l ∨ h < n) : Calls Tryz.prog 118 #[.int .i64 n, .int .i64 l, .int .i64 h] w fun e w' => e = .returned (.bool false) ∧ w = w' := by
  by_cases h0 : l ≤ n
  · have h1 : h < n := by omega
    clear hb
    go_enter Tryz.func118, Tryz.ntmps118
    go_wp2
    go_ret
    exact ⟨ret_bool (by simp; omega), rfl⟩
  · clear hb
    go_enter Tryz.func118, Tryz.ntmps118
    go_wp2
    go_ret
    exact ⟨rfl, rfl⟩
theorem refIn (n l h : Int) (w : World) : Calls Tryz.prog 118 #[.int .i64 n, .int .i64 l, .int .i64 h] w fun e w' => e = .returned (.bool (decide (l ≤ n ∧ n ≤ h))) ∧ w = w' := by
  by_cases hh : l ≤ n ∧ n ≤ h
  · rw [decide_eq_true hh]
    exact refIn_ok n l h w hh.1 hh.2
  · rw [decide_eq_false hh]
    exact refIn_bad n l h w (by omega)

set_option maxHeartbeats 1000000 in
theorem refHow (how : Int) (w : World) : Calls Tryz.prog 46 #[.int .i64 how] w fun e w' => e = .returned (.bool (decide (0 ≤ how ∧ how ≤ 3))) ∧ w = w' := by
  go_enter Tryz.func46, Tryz.ntmps46
  go_wp2_with (go_at_call 118; refine (refIn how 0 3 _).mono ?_; rintro e w' ⟨rfl, rfl⟩)
  go_ret
  exact ⟨ret_bool (by simp), rfl⟩

set_option maxHeartbeats 1000000 in
theorem refSize_neg (a N : Int) (w : World) (h : -a = N) (h0 : a < 0) (h1 : Vld a) : Calls Tryz.prog 58 #[.int .i64 a] w fun e w' => e = .returned (.int .i64 N) ∧ w = w' := by
  have W1 : wrap64 (-a) = N := by unfold Vld at h1; unfold wrap64; omega
  clear h h1
  go_enter Tryz.func58, Tryz.ntmps58
  go_wp2
  go_ret
  exact ⟨by simp [W1], rfl⟩
set_option maxHeartbeats 1000000 in
theorem refSize_pos (a : Int) (w : World) (h0 : 0 ≤ a) : Calls Tryz.prog 58 #[.int .i64 a] w fun e w' => e = .returned (.int .i64 a) ∧ w = w' := by
  go_enter Tryz.func58, Tryz.ntmps58
  go_wp2
  go_ret
  exact ⟨rfl, rfl⟩
theorem refSize (a : Int) (w : World) (h : Vld a) : Calls Tryz.prog 58 #[.int .i64 a] w fun e w' => e = .returned (.int .i64 (a.natAbs : Int)) ∧ w = w' := by
  by_cases h0 : a < 0
  · exact refSize_neg a _ w (by omega) h0 h
  · have := refSize_pos a w (by omega)
    have e : (a.natAbs : Int) = a := by omega
    rw [e]
    exact this

set_option maxHeartbeats 1000000 in
theorem refFit_ok (n : Int) (w : World) (h : Vld n) : Calls Tryz.prog 51 #[.int .i64 n, .bool true] w fun e w' => e = .returned (.tuple #[.int .i64 n, .int .i64 0]) ∧ w = w' := by
  obtain ⟨h0, h1⟩ := h
  go_enter Tryz.func51, Tryz.ntmps51
  go_wp2
  go_ret2
  exact ⟨rfl, rfl⟩
set_option maxHeartbeats 1000000 in
theorem refFit_bad (n : Int) (w : World) (h : ¬ Vld n) : Calls Tryz.prog 51 #[.int .i64 n, .bool true] w fun e w' => e = .returned (.tuple #[.int .i64 0, .int .i64 4]) ∧ w = w' := by
  have h' : n < -70368744177664 ∨ 70368744177664 < n := by unfold Vld at h; omega
  clear h
  rcases h' with h | h
  · go_enter Tryz.func51, Tryz.ntmps51
    go_wp2
    go_ret2
    exact ⟨rfl, rfl⟩
  · have h2 : -70368744177664 ≤ n := by omega
    go_enter Tryz.func51, Tryz.ntmps51
    go_wp2
    go_ret2
    exact ⟨rfl, rfl⟩

set_option maxRecDepth 100000 in
set_option maxHeartbeats 1000000 in
theorem refAdd_in (a b s r n : Int) (V : Int → Bool) (w : World) (hs : wrap64 (a + b) = s) (hVa : V a = true) (hVb : V b = true)
    (CV : Hid (∀ x w, Calls Tryz.prog 57 #[.int .i64 x] w fun e w' => e = .returned (.bool (V x)) ∧ w = w'))
    (CF : Hid (∀ w, Calls Tryz.prog 51 #[.int .i64 s, .bool true] w fun e w' => e = .returned (.tuple #[.int .i64 r, .int .i64 n]) ∧ w = w')) :
    Calls Tryz.prog 66 #[.int .i64 a, .int .i64 b] w fun e w' => e = .returned (.tuple #[.int .i64 r, .int .i64 n]) ∧ Below w.heap.size w w' := by
  go_enter Tryz.func66, Tryz.ntmps66
  go_wp2_with (first | (go_at_call 57; refine (CV.out _ _).mono ?_; rintro e w' ⟨rfl, rfl⟩) | (go_at_call 51; refine (CF.out _).mono ?_; rintro e w' ⟨rfl, rfl⟩))
  go_ret2
  exact ⟨rfl, Below.refl _ _⟩
set_option maxRecDepth 100000 in
set_option maxHeartbeats 1000000 in
theorem refAdd_out (a b : Int) (t u : Bool) (V : Int → Bool) (w : World) (h : t = false ∨ u = false) (hVa : V a = t) (hVb : V b = u)
    (CV : Hid (∀ x w, Calls Tryz.prog 57 #[.int .i64 x] w fun e w' => e = .returned (.bool (V x)) ∧ w = w')) :
    Calls Tryz.prog 66 #[.int .i64 a, .int .i64 b] w fun e w' => e = .returned (.tuple #[.int .i64 0, .int .i64 2]) ∧ Below w.heap.size w w' := by
  cases t <;> cases u
  case true.true => rcases h with h | h <;> cases h
  all_goals
    clear h
    go_enter Tryz.func66, Tryz.ntmps66
    go_wp2_with (first | (go_at_call 57; refine (CV.out _ _).mono ?_; rintro e w' ⟨rfl, rfl⟩))
    go_ret2
    exact ⟨rfl, Below.refl _ _⟩
theorem refAddF (a b : Int) (w : World) :
    Calls Tryz.prog 66 #[.int .i64 a, .int .i64 b] w fun e w' => e = .returned (.tuple #[.int .i64 (addS a b).1, .int .i64 (addS a b).2]) ∧ Below w.heap.size w w' := by
  have CV := fun x w => refValid x w
  unfold addS
  by_cases ha : Vld a
  · by_cases hb : Vld b
    · rw [if_pos ⟨ha, hb⟩]
      have hs : wrap64 (a + b) = a + b := by unfold Vld at ha hb; unfold wrap64; omega
      by_cases h : Vld (a + b)
      · rw [if_pos h]
        exact refAdd_in a b _ _ _ (fun x => decide (Vld x)) w hs (decide_eq_true ha) (decide_eq_true hb) CV (fun w => refFit_ok _ w h)
      · rw [if_neg h]
        exact refAdd_in a b _ _ _ (fun x => decide (Vld x)) w hs (decide_eq_true ha) (decide_eq_true hb) CV (fun w => refFit_bad _ w h)
    · rw [if_neg (fun h => hb h.2)]
      exact refAdd_out a b _ _ (fun x => decide (Vld x)) w (.inr (decide_eq_false hb)) rfl rfl CV
  · rw [if_neg (fun h => ha h.1)]
    exact refAdd_out a b _ _ (fun x => decide (Vld x)) w (.inl (decide_eq_false ha)) rfl rfl CV

set_option maxRecDepth 100000 in
set_option maxHeartbeats 1000000 in
theorem refSub_in (a b s r n : Int) (V : Int → Bool) (w : World) (hs : wrap64 (a - b) = s) (hVa : V a = true) (hVb : V b = true)
    (CV : Hid (∀ x w, Calls Tryz.prog 57 #[.int .i64 x] w fun e w' => e = .returned (.bool (V x)) ∧ w = w'))
    (CF : Hid (∀ w, Calls Tryz.prog 51 #[.int .i64 s, .bool true] w fun e w' => e = .returned (.tuple #[.int .i64 r, .int .i64 n]) ∧ w = w')) :
    Calls Tryz.prog 70 #[.int .i64 a, .int .i64 b] w fun e w' => e = .returned (.tuple #[.int .i64 r, .int .i64 n]) ∧ Below w.heap.size w w' := by
  go_enter Tryz.func70, Tryz.ntmps70
  go_wp2_with (first | (go_at_call 57; refine (CV.out _ _).mono ?_; rintro e w' ⟨rfl, rfl⟩) | (go_at_call 51; refine (CF.out _).mono ?_; rintro e w' ⟨rfl, rfl⟩))
  go_ret2
  exact ⟨rfl, Below.refl _ _⟩
set_option maxRecDepth 100000 in
set_option maxHeartbeats 1000000 in
theorem refSub_out (a b : Int) (t u : Bool) (V : Int → Bool) (w : World) (h : t = false ∨ u = false) (hVa : V a = t) (hVb : V b = u)
    (CV : Hid (∀ x w, Calls Tryz.prog 57 #[.int .i64 x] w fun e w' => e = .returned (.bool (V x)) ∧ w = w')) :
    Calls Tryz.prog 70 #[.int .i64 a, .int .i64 b] w fun e w' => e = .returned (.tuple #[.int .i64 0, .int .i64 2]) ∧ Below w.heap.size w w' := by
  cases t <;> cases u
  case true.true => rcases h with h | h <;> cases h
  all_goals
    clear h
    go_enter Tryz.func70, Tryz.ntmps70
    go_wp2_with (first | (go_at_call 57; refine (CV.out _ _).mono ?_; rintro e w' ⟨rfl, rfl⟩))
    go_ret2
    exact ⟨rfl, Below.refl _ _⟩
theorem refSubF (a b : Int) (w : World) :
    Calls Tryz.prog 70 #[.int .i64 a, .int .i64 b] w fun e w' => e = .returned (.tuple #[.int .i64 (subS a b).1, .int .i64 (subS a b).2]) ∧ Below w.heap.size w w' := by
  have CV := fun x w => refValid x w
  unfold subS
  by_cases ha : Vld a
  · by_cases hb : Vld b
    · rw [if_pos ⟨ha, hb⟩]
      have hs : wrap64 (a - b) = a - b := by unfold Vld at ha hb; unfold wrap64; omega
      by_cases h : Vld (a - b)
      · rw [if_pos h]
        exact refSub_in a b _ _ _ (fun x => decide (Vld x)) w hs (decide_eq_true ha) (decide_eq_true hb) CV (fun w => refFit_ok _ w h)
      · rw [if_neg h]
        exact refSub_in a b _ _ _ (fun x => decide (Vld x)) w hs (decide_eq_true ha) (decide_eq_true hb) CV (fun w => refFit_bad _ w h)
    · rw [if_neg (fun h => hb h.2)]
      exact refSub_out a b _ _ (fun x => decide (Vld x)) w (.inr (decide_eq_false hb)) rfl rfl CV
  · rw [if_neg (fun h => ha h.1)]
    exact refSub_out a b _ _ (fun x => decide (Vld x)) w (.inl (decide_eq_false ha)) rfl rfl CV

theorem rnd_int_vld (a how : Int) (hv : Vld a) : Vld (rnd how a 65536) := by
  have e : (65536 : Int).natAbs = 65536 := rfl
  unfold rnd
  rw [e]
  have h1 : a.natAbs / 65536 ≤ 1073741824 := by unfold Vld at hv; omega
  unfold Vld
  split <;> split <;> omega

end Go.Proofs.YtebfhjndgfcijaaGreatDoor
