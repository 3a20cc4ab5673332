/- The document's own answers: rooted, Root. -/
import Derived.Test.YtfpfpmacobkmhaaGreatDoorRefRoot
import Derived.Test.YtfpfpmacobkmhaaGreatDoorRootf
namespace Go.Proofs.YtfpfpmacobkmhaaGreatDoor
open Go Go.RowKit

set_option maxRecDepth 100000 in
set_option maxHeartbeats 1000000 in
theorem refUp2 (n : Nat) (v : Value) (w : World) (hv : Holds w v n) (hl : (parts n).length ≤ 300) :
    Calls Tryz.prog 48 #[v, .int .i64 2] w fun e w' => ∃ v', e = .returned v' ∧ Holds w' v' (n * 4) ∧ Below w.heap.size w w' := by
  have CO := Lib.hid (fun w => refOf_any 4 4 rfl (by omega) w)
  have l1 : (parts 4).length ≤ 4 := parts_length 4 _ (by decide)
  have CT := Lib.hid (fun vb W h1 h2 => refTimes n 4 v vb W h1 h2 (by omega) (by omega))
  have HV := Lib.hid hv
  clear hv hl l1
  go_enter Tryz.func48, Tryz.ntmps48
  go_wp2_with (first | (go_at_call 35; refine (CO.out _).mono ?_; rintro e w1 ⟨vo, rfl, ho, hb1⟩; have HO := Lib.hid ho; have HB1 := Lib.hid hb1; clear ho hb1) | (go_at_call 45; refine (CT.out _ _ (HV.out.later HB1.out) HO.out).mono ?_; rintro e w2 ⟨vt, rfl, ht, hb2⟩; have HT := Lib.hid ht; have HB2 := Lib.hid hb2; clear ht hb2))
  go_ret
  exact ⟨_, rfl, HT.out, kcb HB1.out HB2.out⟩

set_option maxRecDepth 100000 in
set_option maxHeartbeats 1000000 in
theorem rooted_0 (n : Int) (X : Bool) (v : Value) (w : World) (CR : Hid (Calls Tryz.prog 83 #[v] w fun e w' => e = .returned (.tuple #[.int .i64 n, .bool X]) ∧ Below w.heap.size w w')) :
    Calls Tryz.prog 53 #[v, .int .i64 0] w fun e w' => e = .returned (.tuple #[.int .i64 n, .bool true]) ∧ Below w.heap.size w w' := by
  go_enter Tryz.func53, Tryz.ntmps53
  go_wp2_with (go_at_call 83; refine CR.out.mono ?_; rintro e w1 ⟨rfl, hb1⟩; have HB1 := Lib.hid hb1; clear hb1)
  go_ret2
  exact ⟨rfl, HB1.out⟩

set_option maxRecDepth 100000 in
set_option maxHeartbeats 1000000 in
theorem rooted_1 (n : Int) (X : Bool) (v : Value) (w : World) (CR : Hid (Calls Tryz.prog 83 #[v] w fun e w' => e = .returned (.tuple #[.int .i64 n, .bool X]) ∧ Below w.heap.size w w')) :
    Calls Tryz.prog 53 #[v, .int .i64 1] w fun e w' => e = .returned (.tuple #[.int .i64 n, .bool true]) ∧ Below w.heap.size w w' := by
  go_enter Tryz.func53, Tryz.ntmps53
  go_wp2_with (go_at_call 83; refine CR.out.mono ?_; rintro e w1 ⟨rfl, hb1⟩; have HB1 := Lib.hid hb1; clear hb1)
  go_ret2
  exact ⟨rfl, HB1.out⟩

set_option maxRecDepth 100000 in
set_option maxHeartbeats 1000000 in
theorem rooted_2t (n : Int) (v : Value) (w : World) (_n0 : 0 ≤ n) (_n1 : n ≤ 2147483648) (CR : Hid (Calls Tryz.prog 83 #[v] w fun e w' => e = .returned (.tuple #[.int .i64 n, .bool true]) ∧ Below w.heap.size w w')) :
    Calls Tryz.prog 53 #[v, .int .i64 2] w fun e w' => e = .returned (.tuple #[.int .i64 (n), .bool true]) ∧ Below w.heap.size w w' := by
  go_enter Tryz.func53, Tryz.ntmps53
  go_wp2_with (go_at_call 83; refine CR.out.mono ?_; rintro e w1 ⟨rfl, hb1⟩; have HB1 := Lib.hid hb1; clear hb1)
  go_ret2
  exact ⟨rfl, HB1.out⟩

set_option maxRecDepth 100000 in
set_option maxHeartbeats 1000000 in
theorem rooted_2f (n : Int) (v : Value) (w : World) (_n0 : 0 ≤ n) (_n1 : n ≤ 2147483648) (CR : Hid (Calls Tryz.prog 83 #[v] w fun e w' => e = .returned (.tuple #[.int .i64 n, .bool false]) ∧ Below w.heap.size w w')) :
    Calls Tryz.prog 53 #[v, .int .i64 2] w fun e w' => e = .returned (.tuple #[.int .i64 (n + 1), .bool true]) ∧ Below w.heap.size w w' := by
  go_enter Tryz.func53, Tryz.ntmps53
  go_wp2_with (go_at_call 83; refine CR.out.mono ?_; rintro e w1 ⟨rfl, hb1⟩; have HB1 := Lib.hid hb1; clear hb1)
  go_ret2
  exact ⟨rfl, HB1.out⟩

set_option maxRecDepth 100000 in
set_option maxHeartbeats 1000000 in
theorem rooted_3g (n U o : Int) (X : Bool) (V u : Nat) (v : Value) (w : World) (_n0 : 0 ≤ n) (_n1 : n ≤ 2147483648) (hU : 2 * n + 1 = U) (ho : 0 ≤ o) (HV : Hid (Holds w v V)) (CR : Hid (Calls Tryz.prog 83 #[v] w fun e w' => e = .returned (.tuple #[.int .i64 n, .bool X]) ∧ Below w.heap.size w w'))
    (CF : Hid (∀ w, Calls Tryz.prog 35 #[.int .i64 U] w fun e w' => ∃ v, e = .returned v ∧ Holds w' v u ∧ Below w.heap.size w w'))
    (CU : Hid (∀ w va, Holds w va V → Calls Tryz.prog 48 #[va, .int .i64 2] w fun e w' => ∃ v, e = .returned v ∧ Holds w' v (V * 4) ∧ Below w.heap.size w w'))
    (CT : Hid (∀ w va, Holds w va u → Calls Tryz.prog 45 #[va, va] w fun e w' => ∃ v, e = .returned v ∧ Holds w' v (u * u) ∧ Below w.heap.size w w'))
    (CO : Hid (∀ w va vb, Holds w va (V * 4) → Holds w vb (u * u) → Calls Tryz.prog 66 #[va, vb] w fun e w' => e = .returned (.int .i64 o) ∧ Below w.heap.size w w')) :
    Calls Tryz.prog 53 #[v, .int .i64 3] w fun e w' => e = .returned (.tuple #[.int .i64 (n + 1), .bool true]) ∧ Below w.heap.size w w' := by
  go_enter Tryz.func53, Tryz.ntmps53
  go_wp2_with (first | (go_at_call 83; refine CR.out.mono ?_; rintro e w1 ⟨rfl, hb1⟩; have HB1 := Lib.hid hb1; clear hb1) | (go_at_call 35; refine (CF.out _).mono ?_; rintro e w2 ⟨v2, rfl, h2, hb2⟩; have HH2 := Lib.hid h2; have HB2 := Lib.hid hb2; clear h2 hb2) | (go_at_call 48; refine (CU.out _ _ (HV.out.later (kcb HB1.out HB2.out))).mono ?_; rintro e w3 ⟨v3, rfl, h3, hb3⟩; have HH3 := Lib.hid h3; have HB3 := Lib.hid hb3; clear h3 hb3) | (go_at_call 45; refine (CT.out _ _ (HH2.out.later HB3.out)).mono ?_; rintro e w4 ⟨v4, rfl, h4, hb4⟩; have HH4 := Lib.hid h4; have HB4 := Lib.hid hb4; clear h4 hb4) | (go_at_call 66; refine (CO.out _ _ _ (HH3.out.later HB4.out) HH4.out).mono ?_; rintro e w5 ⟨rfl, hb5⟩; have HB5 := Lib.hid hb5; clear hb5))
  go_ret2
  exact ⟨rfl, kcb (kcb (kcb (kcb HB1.out HB2.out) HB3.out) HB4.out) HB5.out⟩

set_option maxRecDepth 100000 in
set_option maxHeartbeats 1000000 in
theorem rooted_3l (n U o : Int) (X : Bool) (V u : Nat) (v : Value) (w : World) (_n0 : 0 ≤ n) (_n1 : n ≤ 2147483648) (hU : 2 * n + 1 = U) (ho : ¬ 0 ≤ o) (HV : Hid (Holds w v V)) (CR : Hid (Calls Tryz.prog 83 #[v] w fun e w' => e = .returned (.tuple #[.int .i64 n, .bool X]) ∧ Below w.heap.size w w'))
    (CF : Hid (∀ w, Calls Tryz.prog 35 #[.int .i64 U] w fun e w' => ∃ v, e = .returned v ∧ Holds w' v u ∧ Below w.heap.size w w'))
    (CU : Hid (∀ w va, Holds w va V → Calls Tryz.prog 48 #[va, .int .i64 2] w fun e w' => ∃ v, e = .returned v ∧ Holds w' v (V * 4) ∧ Below w.heap.size w w'))
    (CT : Hid (∀ w va, Holds w va u → Calls Tryz.prog 45 #[va, va] w fun e w' => ∃ v, e = .returned v ∧ Holds w' v (u * u) ∧ Below w.heap.size w w'))
    (CO : Hid (∀ w va vb, Holds w va (V * 4) → Holds w vb (u * u) → Calls Tryz.prog 66 #[va, vb] w fun e w' => e = .returned (.int .i64 o) ∧ Below w.heap.size w w')) :
    Calls Tryz.prog 53 #[v, .int .i64 3] w fun e w' => e = .returned (.tuple #[.int .i64 (n), .bool true]) ∧ Below w.heap.size w w' := by
  go_enter Tryz.func53, Tryz.ntmps53
  go_wp2_with (first | (go_at_call 83; refine CR.out.mono ?_; rintro e w1 ⟨rfl, hb1⟩; have HB1 := Lib.hid hb1; clear hb1) | (go_at_call 35; refine (CF.out _).mono ?_; rintro e w2 ⟨v2, rfl, h2, hb2⟩; have HH2 := Lib.hid h2; have HB2 := Lib.hid hb2; clear h2 hb2) | (go_at_call 48; refine (CU.out _ _ (HV.out.later (kcb HB1.out HB2.out))).mono ?_; rintro e w3 ⟨v3, rfl, h3, hb3⟩; have HH3 := Lib.hid h3; have HB3 := Lib.hid hb3; clear h3 hb3) | (go_at_call 45; refine (CT.out _ _ (HH2.out.later HB3.out)).mono ?_; rintro e w4 ⟨v4, rfl, h4, hb4⟩; have HH4 := Lib.hid h4; have HB4 := Lib.hid hb4; clear h4 hb4) | (go_at_call 66; refine (CO.out _ _ _ (HH3.out.later HB4.out) HH4.out).mono ?_; rintro e w5 ⟨rfl, hb5⟩; have HB5 := Lib.hid hb5; clear hb5))
  go_ret2
  exact ⟨rfl, kcb (kcb (kcb (kcb HB1.out HB2.out) HB3.out) HB4.out) HB5.out⟩

theorem refRooted (V : Nat) (how : Int) (v : Value) (w : World) (h0 : 0 ≤ how) (h1 : how ≤ 3) (h : Holds w v V) (hV : V ≤ 4611686018427387904) :
    Calls Tryz.prog 53 #[v, .int .i64 how] w fun e w' => e = .returned (.tuple #[.int .i64 (rootS how V), .bool true]) ∧ Below w.heap.size w w' := by
  have CR := refRootN V v w h hV
  have hn1 : isq V ≤ 2147483648 := by
    have h1 := sq_lt (a := isq V) (b := 2147483649) (Nat.lt_of_le_of_lt (isq_le V) (by omega))
    omega
  have hle := isq_le V
  obtain ⟨r, hr⟩ : ∃ r, isq V = r := ⟨_, rfl⟩
  unfold rootS
  rw [hr] at CR hn1 hle ⊢
  obtain ⟨q, hq⟩ : ∃ q, r * r = q := ⟨_, rfl⟩
  have hqi : (r : Int) * (r : Int) = (q : Int) := by rw [← hq]; exact (Int.natCast_mul r r).symm
  rw [hqi]
  rw [hq] at CR hle
  rcases how_cases h0 h1 with rfl | rfl | rfl | rfl
  · have hu : upB 0 false ((V : Int) - (q : Int)) (2 * (r : Int) + 1) = false := rfl
    rw [hu]
    have := rooted_0 _ _ v w CR
    simpa using this
  · have hu : upB 1 false ((V : Int) - (q : Int)) (2 * (r : Int) + 1) = false := rfl
    rw [hu]
    have := rooted_1 _ _ v w CR
    simpa using this
  · by_cases hx : q = V
    · have hu : upB 2 false ((V : Int) - (q : Int)) (2 * (r : Int) + 1) = false := by simp [upB]; omega
      rw [hu]
      rw [decide_eq_true hx] at CR
      have := rooted_2t _ v w (by omega) (by omega) CR
      simpa using this
    · have hu : upB 2 false ((V : Int) - (q : Int)) (2 * (r : Int) + 1) = true := by simp [upB]; omega
      rw [hu]
      rw [decide_eq_false hx] at CR
      exact rooted_2f _ v w (by omega) (by omega) CR
  · have lV : (parts V).length ≤ 5 := parts_length 5 V (by have : (32768 : Nat) ^ 5 = 37778931862957161709568 := by decide
                                                           omega)
    have lu := parts_small (2 * r + 1) (by omega)
    have luu := parts_mul_len (2 * r + 1) (2 * r + 1)
    have l4 := parts_small 4 (by omega)
    have lV4 := parts_mul_len V 4
    have euu : (2 * r + 1) * (2 * r + 1) = 4 * q + 4 * r + 1 := by
      rw [← hq, Nat.add_mul, Nat.mul_add, Nat.mul_assoc 2 r, Nat.mul_left_comm r 2 r]
      omega
    have CF := fun w => refOf_any (2 * r + 1) (2 * (r : Int) + 1) (by omega) (by omega) w
    have CU := fun w va (h : Holds w va V) => refUp2 V va w h (by omega)
    have CT := fun w va (h : Holds w va (2 * r + 1)) => refTimes (2 * r + 1) (2 * r + 1) va va w h h (by omega) (by omega)
    have CO := fun w va vb (h1 : Holds w va (V * 4)) (h2 : Holds w vb ((2 * r + 1) * (2 * r + 1))) => order_any (V * 4) ((2 * r + 1) * (2 * r + 1)) va vb w h1 h2 (by omega) (by omega)
    by_cases hg : V * 4 < (2 * r + 1) * (2 * r + 1)
    · have ho : ¬ 0 ≤ ordS (V * 4) ((2 * r + 1) * (2 * r + 1)) := by rw [ord_neg hg]; decide
      have hu : upB 3 false ((V : Int) - (q : Int)) (2 * (r : Int) + 1) = false := by simp [upB]; omega
      rw [hu]
      have := rooted_3l _ _ _ _ V (2 * r + 1) v w (by omega) (by omega) rfl ho h CR CF CU CT CO
      simpa using this
    · have ho := ord_nonneg hg
      have hu : upB 3 false ((V : Int) - (q : Int)) (2 * (r : Int) + 1) = true := by simp [upB]; omega
      rw [hu]
      exact rooted_3g _ _ _ _ V (2 * r + 1) v w (by omega) (by omega) rfl ho h CR CF CU CT CO

set_option maxRecDepth 100000 in
set_option maxHeartbeats 1000000 in
theorem refRootF_in (a how Z : Int) (P : Nat) (V : Int → Bool) (G : Int → Nat) (H : Bool) (w : World) (hVa : V a = true) (hH : H = true) (a0 : 0 ≤ a) (a1 : a ≤ 70368744177664)
    (CV : Hid (∀ x w, Calls Tryz.prog 32 #[.int .i64 x] w fun e w' => e = .returned (.bool (V x)) ∧ w = w'))
    (CH : Hid (∀ w, Calls Tryz.prog 33 #[.int .i64 how] w fun e w' => e = .returned (.bool H) ∧ w = w'))
    (CO : Hid (∀ x w, 0 ≤ x → x ≤ 70368744177664 → Calls Tryz.prog 35 #[.int .i64 x] w fun e w' => ∃ v, e = .returned v ∧ Holds w' v (G x) ∧ Below w.heap.size w w'))
    (CU : Hid (∀ w va, Holds w va (G a) → Calls Tryz.prog 48 #[va, .int .i64 16] w fun e w' => ∃ v, e = .returned v ∧ Holds w' v P ∧ Below w.heap.size w w'))
    (CQ : Hid (∀ w va, Holds w va P → Calls Tryz.prog 53 #[va, .int .i64 how] w fun e w' => e = .returned (.tuple #[.int .i64 Z, .bool true]) ∧ Below w.heap.size w w'))
    (CZ : Hid (∀ w, Calls Tryz.prog 40 #[.int .i64 Z, .bool true] w fun e w' => e = .returned (.tuple #[.int .i64 Z, .int .i64 0]) ∧ w = w')) :
    Calls Tryz.prog 24 #[.int .i64 a, .int .i64 how] w fun e w' => e = .returned (.tuple #[.int .i64 Z, .int .i64 0]) ∧ Below w.heap.size w w' := by
  subst hH
  go_enter Tryz.func24, Tryz.ntmps24
  go_wp2_with (first | (go_at_call 32; refine (CV.out _ _).mono ?_; rintro e w' ⟨rfl, rfl⟩) | (go_at_call 33; refine (CH.out _).mono ?_; rintro e w' ⟨rfl, rfl⟩) | (go_at_call 35; refine (CO.out _ _ (by omega) (by omega)).mono ?_; rintro e w1 ⟨v1, rfl, h1, hb1⟩; have HH1 := Lib.hid h1; have HB1 := Lib.hid hb1; clear h1 hb1) | (go_at_call 48; refine (CU.out _ _ HH1.out).mono ?_; rintro e w3 ⟨v3, rfl, hu, hb3⟩; have HU := Lib.hid hu; have HB3 := Lib.hid hb3; clear hu hb3) | (go_at_call 53; refine (CQ.out _ _ HU.out).mono ?_; rintro e w4 ⟨rfl, hb4⟩; have HB4 := Lib.hid hb4; clear hb4) | (go_at_call 40; refine (CZ.out _).mono ?_; rintro e w' ⟨rfl, rfl⟩))
  go_ret2
  exact ⟨rfl, kcb (kcb HB1.out HB3.out) HB4.out⟩

set_option maxRecDepth 100000 in
set_option maxHeartbeats 1000000 in
theorem refRootF_less (a how : Int) (V : Int → Bool) (H : Bool) (w : World) (hVa : V a = true) (hH : H = true) (a0 : a < 0)
    (CV : Hid (∀ x w, Calls Tryz.prog 32 #[.int .i64 x] w fun e w' => e = .returned (.bool (V x)) ∧ w = w'))
    (CH : Hid (∀ w, Calls Tryz.prog 33 #[.int .i64 how] w fun e w' => e = .returned (.bool H) ∧ w = w')) :
    Calls Tryz.prog 24 #[.int .i64 a, .int .i64 how] w fun e w' => e = .returned (.tuple #[.int .i64 0, .int .i64 11]) ∧ Below w.heap.size w w' := by
  subst hH
  go_enter Tryz.func24, Tryz.ntmps24
  go_wp2_with (first | (go_at_call 32; refine (CV.out _ _).mono ?_; rintro e w' ⟨rfl, rfl⟩) | (go_at_call 33; refine (CH.out _).mono ?_; rintro e w' ⟨rfl, rfl⟩))
  go_ret2
  exact ⟨rfl, Below.refl _ _⟩

set_option maxRecDepth 100000 in
set_option maxHeartbeats 1000000 in
theorem refRootF_out (a how : Int) (V : Int → Bool) (t H : Bool) (w : World) (h : t = false ∨ H = false) (hVa : V a = t)
    (CV : Hid (∀ x w, Calls Tryz.prog 32 #[.int .i64 x] w fun e w' => e = .returned (.bool (V x)) ∧ w = w'))
    (CH : Hid (∀ w, Calls Tryz.prog 33 #[.int .i64 how] w fun e w' => e = .returned (.bool H) ∧ w = w')) :
    Calls Tryz.prog 24 #[.int .i64 a, .int .i64 how] w fun e w' => e = .returned (.tuple #[.int .i64 0, .int .i64 2]) ∧ Below w.heap.size w w' := by
  cases t <;> cases H
  case true.true => rcases h with h | h <;> cases h
  all_goals
    clear h
    go_enter Tryz.func24, Tryz.ntmps24
    go_wp2_with (first | (go_at_call 32; refine (CV.out _ _).mono ?_; rintro e w' ⟨rfl, rfl⟩) | (go_at_call 33; refine (CH.out _).mono ?_; rintro e w' ⟨rfl, rfl⟩))
    go_ret2
    exact ⟨rfl, Below.refl _ _⟩

theorem refRootF (a how : Int) (w : World) :
    Calls Tryz.prog 24 #[.int .i64 a, .int .i64 how] w fun e w' => e = .returned (.tuple #[.int .i64 (rootfS a how).1, .int .i64 (rootfS a how).2]) ∧ Below w.heap.size w w' := by
  have CV := fun x w => refValid x w
  have CH := fun w => refHow how w
  unfold rootfS
  by_cases ha : Vld a
  · by_cases hh : 0 ≤ how ∧ how ≤ 3
    · rw [if_pos ⟨ha, hh⟩]
      by_cases hn : a < 0
      · rw [if_pos hn]
        exact refRootF_less a how _ _ w (decide_eq_true ha) (decide_eq_true hh) hn CV CH
      · rw [if_neg hn]
        have na := refSizeOf a ha
        have hz := (rootS_vld a how ha).1
        have en : a.natAbs = a.toNat := by omega
        rw [en] at hz na ⊢
        have la := parts_small _ na
        exact refRootF_in a how _ (a.toNat * 65536) _ Int.toNat _ w (decide_eq_true ha) (decide_eq_true hh) (by omega) (by omega) CV CH ofC (fun w va h => refUp16 _ va w h (by omega)) (fun w va h => refRooted _ how va w hh.1 hh.2 h (by omega)) (fun w => refFit_ok _ w hz)
    · rw [if_neg (fun h => hh h.2)]
      exact refRootF_out a how _ _ _ w (.inr (decide_eq_false hh)) rfl CV CH
  · rw [if_neg (fun h => ha h.1)]
    exact refRootF_out a how _ _ _ w (.inl (decide_eq_false ha)) rfl CV CH

end Go.Proofs.YtfpfpmacobkmhaaGreatDoor
