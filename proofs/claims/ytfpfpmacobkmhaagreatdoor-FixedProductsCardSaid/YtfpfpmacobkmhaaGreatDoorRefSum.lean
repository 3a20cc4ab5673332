/- The document's own answers: Valid, In, Check, Of, Int, Add, Sub. -/
import Derived.Test.YtfpfpmacobkmhaaGreatDoorRounded
import Derived.Test.YtfpfpmacobkmhaaGreatDoorAddf
import Derived.Test.YtfpfpmacobkmhaaGreatDoorIntf
namespace Go.Proofs.YtfpfpmacobkmhaaGreatDoor
open Go Go.RowKit

theorem ret_bool {a b : Bool} (h : a = b) : Ending.returned (.bool a) = .returned (.bool b) := by rw [h]

set_option maxHeartbeats 1000000 in
theorem refValid_ok (a : Int) (w : World) (h : Vld a) : Calls Tryz.prog 32 #[.int .i64 a] w fun e w' => e = .returned (.bool true) ∧ w = w' := by
  obtain ⟨h0, h1⟩ := h
  go_enter Tryz.func32, Tryz.ntmps32
  go_wp2
  go_ret
  exact ⟨rfl, rfl⟩
set_option maxHeartbeats 1000000 in
theorem refValid_bad (a : Int) (w : World) (h : ¬ Vld a) : Calls Tryz.prog 32 #[.int .i64 a] w fun e w' => e = .returned (.bool false) ∧ w = w' := by
  have h' : a < -70368744177664 ∨ 70368744177664 < a := by unfold Vld at h; omega
  clear h
  rcases h' with h | h
  · go_enter Tryz.func32, Tryz.ntmps32
    go_wp2
    go_ret
    exact ⟨rfl, rfl⟩
  · have h2 : -70368744177664 ≤ a := by omega
    go_enter Tryz.func32, Tryz.ntmps32
    go_wp2
    go_ret
    exact ⟨ret_bool (by simp; omega), rfl⟩
theorem refValid (a : Int) (w : World) : Calls Tryz.prog 32 #[.int .i64 a] w fun e w' => e = .returned (.bool (decide (Vld a))) ∧ w = w' := by
  by_cases h : Vld a
  · rw [decide_eq_true h]
    exact refValid_ok a w h
  · rw [decide_eq_false h]
    exact refValid_bad a w h

set_option maxHeartbeats 1000000 in
theorem refIn_ok (n l h : Int) (w : World) (h0 : l ≤ n) (h1 : n ≤ h) : Calls Tryz.prog 25 #[.int .i64 n, .int .i64 l, .int .i64 h] w fun e w' => e = .returned (.bool true) ∧ w = w' := by
  go_enter Tryz.func25, Tryz.ntmps25
  go_wp2
  go_ret
  exact ⟨rfl, rfl⟩
set_option maxHeartbeats 1000000 in
theorem refIn_bad (n l h : Int) (w : World) (hb : n < l ∨ h < n) : Calls Tryz.prog 25 #[.int .i64 n, .int .i64 l, .int .i64 h] w fun e w' => e = .returned (.bool false) ∧ w = w' := by
  by_cases h0 : l ≤ n
  · have h1 : h < n := by omega
    clear hb
    go_enter Tryz.func25, Tryz.ntmps25
    go_wp2
    go_ret
    exact ⟨ret_bool (by simp; omega), rfl⟩
  · clear hb
    go_enter Tryz.func25, Tryz.ntmps25
    go_wp2
    go_ret
    exact ⟨rfl, rfl⟩
theorem refIn (n l h : Int) (w : World) : Calls Tryz.prog 25 #[.int .i64 n, .int .i64 l, .int .i64 h] w fun e w' => e = .returned (.bool (decide (l ≤ n ∧ n ≤ h))) ∧ w = w' := by
  by_cases hh : l ≤ n ∧ n ≤ h
  · rw [decide_eq_true hh]
    exact refIn_ok n l h w hh.1 hh.2
  · rw [decide_eq_false hh]
    exact refIn_bad n l h w (by omega)

set_option maxHeartbeats 1000000 in
theorem refHow (how : Int) (w : World) : Calls Tryz.prog 33 #[.int .i64 how] w fun e w' => e = .returned (.bool (decide (0 ≤ how ∧ how ≤ 3))) ∧ w = w' := by
  go_enter Tryz.func33, Tryz.ntmps33
  go_wp2_with (go_at_call 25; refine (refIn how 0 3 _).mono ?_; rintro e w' ⟨rfl, rfl⟩)
  go_ret
  exact ⟨ret_bool (by simp), rfl⟩

set_option maxHeartbeats 1000000 in
theorem refSize_neg (a N : Int) (w : World) (h : -a = N) (h0 : a < 0) (h1 : Vld a) : Calls Tryz.prog 36 #[.int .i64 a] w fun e w' => e = .returned (.int .i64 N) ∧ w = w' := by
  have W1 : wrap64 (-a) = N := by unfold Vld at h1; unfold wrap64; omega
  clear h h1
  go_enter Tryz.func36, Tryz.ntmps36
  go_wp2
  go_ret
  exact ⟨by simp [W1], rfl⟩
set_option maxHeartbeats 1000000 in
theorem refSize_pos (a : Int) (w : World) (h0 : 0 ≤ a) : Calls Tryz.prog 36 #[.int .i64 a] w fun e w' => e = .returned (.int .i64 a) ∧ w = w' := by
  go_enter Tryz.func36, Tryz.ntmps36
  go_wp2
  go_ret
  exact ⟨rfl, rfl⟩
theorem refSize (a : Int) (w : World) (h : Vld a) : Calls Tryz.prog 36 #[.int .i64 a] w fun e w' => e = .returned (.int .i64 (a.natAbs : Int)) ∧ w = w' := by
  by_cases h0 : a < 0
  · exact refSize_neg a _ w (by omega) h0 h
  · have := refSize_pos a w (by omega)
    have e : (a.natAbs : Int) = a := by omega
    rw [e]
    exact this

set_option maxHeartbeats 1000000 in
theorem refFit_ok (n : Int) (w : World) (h : Vld n) : Calls Tryz.prog 40 #[.int .i64 n, .bool true] w fun e w' => e = .returned (.tuple #[.int .i64 n, .int .i64 0]) ∧ w = w' := by
  obtain ⟨h0, h1⟩ := h
  go_enter Tryz.func40, Tryz.ntmps40
  go_wp2
  go_ret2
  exact ⟨rfl, rfl⟩
set_option maxHeartbeats 1000000 in
theorem refFit_bad (n : Int) (w : World) (h : ¬ Vld n) : Calls Tryz.prog 40 #[.int .i64 n, .bool true] w fun e w' => e = .returned (.tuple #[.int .i64 0, .int .i64 4]) ∧ w = w' := by
  have h' : n < -70368744177664 ∨ 70368744177664 < n := by unfold Vld at h; omega
  clear h
  rcases h' with h | h
  · go_enter Tryz.func40, Tryz.ntmps40
    go_wp2
    go_ret2
    exact ⟨rfl, rfl⟩
  · have h2 : -70368744177664 ≤ n := by omega
    go_enter Tryz.func40, Tryz.ntmps40
    go_wp2
    go_ret2
    exact ⟨rfl, rfl⟩

set_option maxHeartbeats 1000000 in
theorem refCheck (a : Int) (w : World) : Calls Tryz.prog 14 #[.int .i64 a] w fun e w' => e = .returned (.int .i64 (if Vld a then 0 else 2)) ∧ w = w' := by
  have CV := Lib.hid (fun w => refValid a w)
  by_cases h : Vld a
  · rw [if_pos h]
    rw [decide_eq_true h] at CV
    clear h
    go_enter Tryz.func14, Tryz.ntmps14
    go_wp2_with (go_at_call 32; refine (CV.out _).mono ?_; rintro e w' ⟨rfl, rfl⟩)
    go_ret
    exact ⟨rfl, rfl⟩
  · rw [if_neg h]
    rw [decide_eq_false h] at CV
    clear h
    go_enter Tryz.func14, Tryz.ntmps14
    go_wp2_with (go_at_call 32; refine (CV.out _).mono ?_; rintro e w' ⟨rfl, rfl⟩)
    go_ret
    exact ⟨rfl, rfl⟩

set_option maxRecDepth 100000 in
set_option maxHeartbeats 1000000 in
theorem refOf_in (n r : Int) (w : World) (hr : wrap64 (n * 65536) = r)
    (CI : Hid (∀ w, Calls Tryz.prog 25 #[.int .i64 n, .int .i64 (-1073741824), .int .i64 1073741824] w fun e w' => e = .returned (.bool true) ∧ w = w')) :
    Calls Tryz.prog 6 #[.int .i64 n] w fun e w' => e = .returned (.tuple #[.int .i64 r, .int .i64 0]) ∧ Below w.heap.size w w' := by
  go_enter Tryz.func6, Tryz.ntmps6
  go_wp2_with (go_at_call 25; refine (CI.out _).mono ?_; rintro e w' ⟨rfl, rfl⟩)
  go_ret2
  exact ⟨by simp [hr], Below.refl _ _⟩
set_option maxRecDepth 100000 in
set_option maxHeartbeats 1000000 in
theorem refOf_out (n : Int) (w : World)
    (CI : Hid (∀ w, Calls Tryz.prog 25 #[.int .i64 n, .int .i64 (-1073741824), .int .i64 1073741824] w fun e w' => e = .returned (.bool false) ∧ w = w')) :
    Calls Tryz.prog 6 #[.int .i64 n] w fun e w' => e = .returned (.tuple #[.int .i64 0, .int .i64 4]) ∧ Below w.heap.size w w' := by
  go_enter Tryz.func6, Tryz.ntmps6
  go_wp2_with (go_at_call 25; refine (CI.out _).mono ?_; rintro e w' ⟨rfl, rfl⟩)
  go_ret2
  exact ⟨rfl, Below.refl _ _⟩
theorem refOfF (n : Int) (w : World) :
    Calls Tryz.prog 6 #[.int .i64 n] w fun e w' => e = .returned (.tuple #[.int .i64 (ofS n).1, .int .i64 (ofS n).2]) ∧ Below w.heap.size w w' := by
  have CI := fun w => refIn n (-1073741824) 1073741824 w
  unfold ofS
  by_cases h : -1073741824 ≤ n ∧ n ≤ 1073741824
  · rw [if_pos h]
    rw [decide_eq_true h] at CI
    exact refOf_in n _ w (by unfold wrap64; omega) CI
  · rw [if_neg h]
    rw [decide_eq_false h] at CI
    exact refOf_out n w CI

set_option maxRecDepth 100000 in
set_option maxHeartbeats 1000000 in
theorem refAdd_in (a b s r n : Int) (V : Int → Bool) (w : World) (hs : wrap64 (a + b) = s) (hVa : V a = true) (hVb : V b = true)
    (CV : Hid (∀ x w, Calls Tryz.prog 32 #[.int .i64 x] w fun e w' => e = .returned (.bool (V x)) ∧ w = w'))
    (CF : Hid (∀ w, Calls Tryz.prog 40 #[.int .i64 s, .bool true] w fun e w' => e = .returned (.tuple #[.int .i64 r, .int .i64 n]) ∧ w = w')) :
    Calls Tryz.prog 10 #[.int .i64 a, .int .i64 b] w fun e w' => e = .returned (.tuple #[.int .i64 r, .int .i64 n]) ∧ Below w.heap.size w w' := by
  go_enter Tryz.func10, Tryz.ntmps10
  go_wp2_with (first | (go_at_call 32; refine (CV.out _ _).mono ?_; rintro e w' ⟨rfl, rfl⟩) | (go_at_call 40; refine (CF.out _).mono ?_; rintro e w' ⟨rfl, rfl⟩))
  go_ret2
  exact ⟨rfl, Below.refl _ _⟩
set_option maxRecDepth 100000 in
set_option maxHeartbeats 1000000 in
theorem refAdd_out (a b : Int) (t u : Bool) (V : Int → Bool) (w : World) (h : t = false ∨ u = false) (hVa : V a = t) (hVb : V b = u)
    (CV : Hid (∀ x w, Calls Tryz.prog 32 #[.int .i64 x] w fun e w' => e = .returned (.bool (V x)) ∧ w = w')) :
    Calls Tryz.prog 10 #[.int .i64 a, .int .i64 b] w fun e w' => e = .returned (.tuple #[.int .i64 0, .int .i64 2]) ∧ Below w.heap.size w w' := by
  cases t <;> cases u
  case true.true => rcases h with h | h <;> cases h
  all_goals
    clear h
    go_enter Tryz.func10, Tryz.ntmps10
    go_wp2_with (first | (go_at_call 32; refine (CV.out _ _).mono ?_; rintro e w' ⟨rfl, rfl⟩))
    go_ret2
    exact ⟨rfl, Below.refl _ _⟩
theorem refAddF (a b : Int) (w : World) :
    Calls Tryz.prog 10 #[.int .i64 a, .int .i64 b] w fun e w' => e = .returned (.tuple #[.int .i64 (addS a b).1, .int .i64 (addS a b).2]) ∧ Below w.heap.size w w' := by
  have CV := fun x w => refValid x w
  unfold addS
  by_cases ha : Vld a
  · by_cases hb : Vld b
    · rw [if_pos ⟨ha, hb⟩]
      have hs : wrap64 (a + b) = a + b := by unfold Vld at ha hb; unfold wrap64; omega
      by_cases h : Vld (a + b)
      · rw [if_pos h]
        exact refAdd_in a b _ _ _ (fun x => decide (Vld x)) w hs (decide_eq_true ha) (decide_eq_true hb) CV (fun w => refFit_ok _ w h)
      · rw [if_neg h]
        exact refAdd_in a b _ _ _ (fun x => decide (Vld x)) w hs (decide_eq_true ha) (decide_eq_true hb) CV (fun w => refFit_bad _ w h)
    · rw [if_neg (fun h => hb h.2)]
      exact refAdd_out a b _ _ (fun x => decide (Vld x)) w (.inr (decide_eq_false hb)) rfl rfl CV
  · rw [if_neg (fun h => ha h.1)]
    exact refAdd_out a b _ _ (fun x => decide (Vld x)) w (.inl (decide_eq_false ha)) rfl rfl CV

set_option maxRecDepth 100000 in
set_option maxHeartbeats 1000000 in
theorem refSub_in (a b s r n : Int) (V : Int → Bool) (w : World) (hs : wrap64 (a - b) = s) (hVa : V a = true) (hVb : V b = true)
    (CV : Hid (∀ x w, Calls Tryz.prog 32 #[.int .i64 x] w fun e w' => e = .returned (.bool (V x)) ∧ w = w'))
    (CF : Hid (∀ w, Calls Tryz.prog 40 #[.int .i64 s, .bool true] w fun e w' => e = .returned (.tuple #[.int .i64 r, .int .i64 n]) ∧ w = w')) :
    Calls Tryz.prog 12 #[.int .i64 a, .int .i64 b] w fun e w' => e = .returned (.tuple #[.int .i64 r, .int .i64 n]) ∧ Below w.heap.size w w' := by
  go_enter Tryz.func12, Tryz.ntmps12
  go_wp2_with (first | (go_at_call 32; refine (CV.out _ _).mono ?_; rintro e w' ⟨rfl, rfl⟩) | (go_at_call 40; refine (CF.out _).mono ?_; rintro e w' ⟨rfl, rfl⟩))
  go_ret2
  exact ⟨rfl, Below.refl _ _⟩
set_option maxRecDepth 100000 in
set_option maxHeartbeats 1000000 in
theorem refSub_out (a b : Int) (t u : Bool) (V : Int → Bool) (w : World) (h : t = false ∨ u = false) (hVa : V a = t) (hVb : V b = u)
    (CV : Hid (∀ x w, Calls Tryz.prog 32 #[.int .i64 x] w fun e w' => e = .returned (.bool (V x)) ∧ w = w')) :
    Calls Tryz.prog 12 #[.int .i64 a, .int .i64 b] w fun e w' => e = .returned (.tuple #[.int .i64 0, .int .i64 2]) ∧ Below w.heap.size w w' := by
  cases t <;> cases u
  case true.true => rcases h with h | h <;> cases h
  all_goals
    clear h
    go_enter Tryz.func12, Tryz.ntmps12
    go_wp2_with (first | (go_at_call 32; refine (CV.out _ _).mono ?_; rintro e w' ⟨rfl, rfl⟩))
    go_ret2
    exact ⟨rfl, Below.refl _ _⟩
theorem refSubF (a b : Int) (w : World) :
    Calls Tryz.prog 12 #[.int .i64 a, .int .i64 b] w fun e w' => e = .returned (.tuple #[.int .i64 (subS a b).1, .int .i64 (subS a b).2]) ∧ Below w.heap.size w w' := by
  have CV := fun x w => refValid x w
  unfold subS
  by_cases ha : Vld a
  · by_cases hb : Vld b
    · rw [if_pos ⟨ha, hb⟩]
      have hs : wrap64 (a - b) = a - b := by unfold Vld at ha hb; unfold wrap64; omega
      by_cases h : Vld (a - b)
      · rw [if_pos h]
        exact refSub_in a b _ _ _ (fun x => decide (Vld x)) w hs (decide_eq_true ha) (decide_eq_true hb) CV (fun w => refFit_ok _ w h)
      · rw [if_neg h]
        exact refSub_in a b _ _ _ (fun x => decide (Vld x)) w hs (decide_eq_true ha) (decide_eq_true hb) CV (fun w => refFit_bad _ w h)
    · rw [if_neg (fun h => hb h.2)]
      exact refSub_out a b _ _ (fun x => decide (Vld x)) w (.inr (decide_eq_false hb)) rfl rfl CV
  · rw [if_neg (fun h => ha h.1)]
    exact refSub_out a b _ _ (fun x => decide (Vld x)) w (.inl (decide_eq_false ha)) rfl rfl CV

set_option maxRecDepth 100000 in
set_option maxHeartbeats 1000000 in
theorem refInt_in (a how z NN : Int) (G : Int → Nat) (w : World) (n0 : 0 ≤ NN) (n1 : NN ≤ 70368744177664) 
    (CA : Hid (∀ w, Calls Tryz.prog 32 #[.int .i64 a] w fun e w' => e = .returned (.bool true) ∧ w = w'))
    (CH : Hid (∀ w, Calls Tryz.prog 33 #[.int .i64 how] w fun e w' => e = .returned (.bool true) ∧ w = w'))
    (CS : Hid (∀ w, Calls Tryz.prog 36 #[.int .i64 a] w fun e w' => e = .returned (.int .i64 NN) ∧ w = w'))
    (CO : Hid (∀ x w, 0 ≤ x → x ≤ 70368744177664 → Calls Tryz.prog 35 #[.int .i64 x] w fun e w' => ∃ v, e = .returned v ∧ Holds w' v (G x) ∧ Below w.heap.size w w'))
    (CR : Hid (∀ w va vb, Holds w va (G NN) → Holds w vb (G 65536) → Calls Tryz.prog 34 #[va, vb, .bool (decide (a < 0)), .int .i64 how] w fun e w' => e = .returned (.tuple #[.int .i64 z, .bool true]) ∧ Below w.heap.size w w')) :
    Calls Tryz.prog 8 #[.int .i64 a, .int .i64 how] w fun e w' => e = .returned (.tuple #[.int .i64 z, .int .i64 0]) ∧ Below w.heap.size w w' := by
  go_enter Tryz.func8, Tryz.ntmps8
  go_wp2_with (first | (go_at_call 32; refine (CA.out _).mono ?_; rintro e w' ⟨rfl, rfl⟩) | (go_at_call 33; refine (CH.out _).mono ?_; rintro e w' ⟨rfl, rfl⟩) | (go_at_call 36; refine (CS.out _).mono ?_; rintro e w' ⟨rfl, rfl⟩) | (go_at_call 35; have HM := HN; refine (CO.out _ _ (by omega) (by omega)).mono ?_; clear HM; rintro e w2 ⟨vd, rfl, hd, hb2⟩; have HD := Lib.hid hd; have HB2 := Lib.hid hb2; clear hd hb2) | (go_at_call 35; refine (CO.out _ _ (by omega) (by omega)).mono ?_; rintro e w1 ⟨vn, rfl, hn, hb1⟩; have HN := Lib.hid hn; have HB1 := Lib.hid hb1; clear hn hb1) | (go_at_call 34; refine (CR.out _ _ _ (HN.out.later HB2.out) HD.out).mono ?_; rintro e w3 ⟨rfl, hb3⟩; have HB3 := Lib.hid hb3; clear hb3))
  go_ret2
  exact ⟨rfl, kcb (kcb HB1.out HB2.out) HB3.out⟩

set_option maxRecDepth 100000 in
set_option maxHeartbeats 1000000 in
theorem refInt_out (a how : Int) (t u : Bool) (w : World) (h : t = false ∨ u = false)
    (CA : Hid (∀ w, Calls Tryz.prog 32 #[.int .i64 a] w fun e w' => e = .returned (.bool t) ∧ w = w'))
    (CH : Hid (∀ w, Calls Tryz.prog 33 #[.int .i64 how] w fun e w' => e = .returned (.bool u) ∧ w = w')) :
    Calls Tryz.prog 8 #[.int .i64 a, .int .i64 how] w fun e w' => e = .returned (.tuple #[.int .i64 0, .int .i64 2]) ∧ Below w.heap.size w w' := by
  cases t <;> cases u
  case true.true => rcases h with h | h <;> cases h
  all_goals
    clear h
    go_enter Tryz.func8, Tryz.ntmps8
    go_wp2_with (first | (go_at_call 32; refine (CA.out _).mono ?_; rintro e w' ⟨rfl, rfl⟩) | (go_at_call 33; refine (CH.out _).mono ?_; rintro e w' ⟨rfl, rfl⟩))
    go_ret2
    exact ⟨rfl, Below.refl _ _⟩

theorem rnd_int_vld (a how : Int) (hv : Vld a) : Vld (rnd how a 65536) := by
  have e : (65536 : Int).natAbs = 65536 := rfl
  unfold rnd
  rw [e]
  have h1 : a.natAbs / 65536 ≤ 1073741824 := by unfold Vld at hv; omega
  unfold Vld
  split <;> split <;> omega

theorem refIntF (a how : Int) (w : World) :
    Calls Tryz.prog 8 #[.int .i64 a, .int .i64 how] w fun e w' => e = .returned (.tuple #[.int .i64 (intS a how).1, .int .i64 (intS a how).2]) ∧ Below w.heap.size w w' := by
  have CA := fun w => refValid a w
  have CH := fun w => refHow how w
  unfold intS
  by_cases ha : Vld a
  · by_cases hh : 0 ≤ how ∧ how ≤ 3
    · rw [if_pos ⟨ha, hh⟩, if_pos (rnd_int_vld a how ha)]
      rw [decide_eq_true ha] at CA
      rw [decide_eq_true hh] at CH
      have CS := fun w => refSize a w ha
      obtain ⟨NN, eN⟩ : ∃ NN : Int, (a.natAbs : Int) = NN := ⟨_, rfl⟩
      rw [eN] at CS
      have hN0 : 0 ≤ NN := by omega
      have hN1 : NN ≤ 70368744177664 := by unfold Vld at ha; omega
      have CO : ∀ (x : Int) (w : World), 0 ≤ x → x ≤ 70368744177664 → Calls Tryz.prog 35 #[.int .i64 x] w fun e w' => ∃ v, e = .returned v ∧ Holds w' v (x.toNat) ∧ Below w.heap.size w w' :=
        fun x w h0 h1 => refOf_any x.toNat x (by omega) (by omega) w
      obtain ⟨D, eD⟩ : ∃ D : Nat, (65536 : Int).toNat = D := ⟨_, rfl⟩
      have eD2 : D = 65536 := by rw [← eD]; rfl
      have lN : (parts NN.toNat).length ≤ 4 := parts_length 4 _ (by have : (32768 : Nat) ^ 4 = 1152921504606846976 := by decide
                                                                    omega)
      have lD : (parts D).length ≤ 4 := parts_length 4 D (by have : (32768 : Nat) ^ 4 = 1152921504606846976 := by decide
                                                             omega)
      have lq : (parts (NN.toNat / D)).length ≤ 4 := parts_length 4 _ (by
        have : (32768 : Nat) ^ 4 = 1152921504606846976 := by decide
        have h2 : NN.toNat / D ≤ NN.toNat := Nat.div_le_self _ _
        omega)
      have CR := fun t w va vb hn hd => refRounded NN.toNat D t how va vb w hh.1 hh.2 (by omega) hn hd (by omega) (by omega) lq
      rw [← eD] at CR
      have hd0 : decide ((65536 : Int) < 0) = false := rfl
      have en : a.natAbs = NN.toNat := by omega
      have ed : (65536 : Int).natAbs = (65536 : Int).toNat := rfl
      have e := rnd_rndS how a 65536 (decide (a < 0)) (by rw [hd0]; simp)
      rw [en, ed] at e
      rw [e]
      exact refInt_in a how _ NN Int.toNat w hN0 hN1 CA CH CS CO (CR _)
    · rw [if_neg (fun h => hh h.2)]
      exact refInt_out a how _ _ w (.inr (decide_eq_false hh)) CA CH
  · rw [if_neg (fun h => ha h.1)]
    exact refInt_out a how _ _ w (.inl (decide_eq_false ha)) CA CH

end Go.Proofs.YtfpfpmacobkmhaaGreatDoor
