/- The document's own answers: Scale. -/
import Derived.Test.YtfpfpmacobkmhaaGreatDoorRefMul
namespace Go.Proofs.YtfpfpmacobkmhaaGreatDoor
open Go Go.RowKit

set_option maxRecDepth 100000 in
set_option maxHeartbeats 1000000 in
theorem refScale_in (a num den how R E NM DM : Int) (P : Nat) (V I : Int → Bool) (S : Int → Int) (G : Int → Nat) (H : Bool) (w : World) (hVa : V a = true) (hIn : I num = true) (hId : I den = true) (hH : H = true) (hd0 : ¬ den = 0) (sa0 : 0 ≤ S a) (sa1 : S a ≤ 70368744177664)
    (_wn : wrap64 (-num) = -num) (_wd : wrap64 (-den) = -den) (hn : max num (-num) = NM) (hd : max den (-den) = DM) (n0 : 0 ≤ NM) (n1 : NM ≤ 70368744177664) (d0 : 0 ≤ DM) (d1 : DM ≤ 70368744177664)
    (CV : Hid (∀ x w, Calls Tryz.prog 32 #[.int .i64 x] w fun e w' => e = .returned (.bool (V x)) ∧ w = w'))
    (CH : Hid (∀ w, Calls Tryz.prog 33 #[.int .i64 how] w fun e w' => e = .returned (.bool H) ∧ w = w'))
    (CI : Hid (∀ x w, Calls Tryz.prog 25 #[.int .i64 x, .int .i64 (-2147483648), .int .i64 2147483648] w fun e w' => e = .returned (.bool (I x)) ∧ w = w'))
    (CS : Hid (∀ x w, V x = true → Calls Tryz.prog 36 #[.int .i64 x] w fun e w' => e = .returned (.int .i64 (S x)) ∧ w = w'))
    (CO : Hid (∀ x w, 0 ≤ x → x ≤ 70368744177664 → Calls Tryz.prog 35 #[.int .i64 x] w fun e w' => ∃ v, e = .returned v ∧ Holds w' v (G x) ∧ Below w.heap.size w w'))
    (CT : Hid (∀ w va vb, Holds w va (G (S a)) → Holds w vb (G NM) → Calls Tryz.prog 45 #[va, vb] w fun e w' => ∃ v, e = .returned v ∧ Holds w' v P ∧ Below w.heap.size w w'))
    (CR : Hid (∀ w va vb, Holds w va P → Holds w vb (G DM) → Calls Tryz.prog 34 #[va, vb, .bool ((decide (a < 0) != decide (num < 0)) != decide (den < 0)), .int .i64 how] w fun e w' => ∃ z B, e = .returned (.tuple #[.int .i64 z, .bool B]) ∧ (∀ w, Calls Tryz.prog 40 #[.int .i64 z, .bool B] w fun e w' => e = .returned (.tuple #[.int .i64 R, .int .i64 E]) ∧ w = w') ∧ Below w.heap.size w w')) :
    Calls Tryz.prog 22 #[.int .i64 a, .int .i64 num, .int .i64 den, .int .i64 how] w fun e w' => e = .returned (.tuple #[.int .i64 R, .int .i64 E]) ∧ Below w.heap.size w w' := by
  subst hH
  go_enter Tryz.func22, Tryz.ntmps22
  go_wp2_with (first | (go_at_call 32; refine (CV.out _ _).mono ?_; rintro e w' ⟨rfl, rfl⟩) | (go_at_call 33; refine (CH.out _).mono ?_; rintro e w' ⟨rfl, rfl⟩) | (go_at_call 25; refine (CI.out _ _).mono ?_; rintro e w' ⟨rfl, rfl⟩) | (go_at_call 36; refine (CS.out _ _ (by assumption)).mono ?_; rintro e w' ⟨rfl, rfl⟩) | (go_at_call 35; have HM := HT; refine (CO.out _ _ (by omega) (by omega)).mono ?_; clear HM; rintro e w4 ⟨v4, rfl, h4, hb4⟩; have HH4 := Lib.hid h4; have HB4 := Lib.hid hb4; clear h4 hb4) | (go_at_call 35; have HM := HH1; refine (CO.out _ _ (by omega) (by omega)).mono ?_; clear HM; rintro e w2 ⟨v2, rfl, h2, hb2⟩; have HH2 := Lib.hid h2; have HB2 := Lib.hid hb2; clear h2 hb2) | (go_at_call 35; refine (CO.out _ _ (by omega) (by omega)).mono ?_; rintro e w1 ⟨v1, rfl, h1, hb1⟩; have HH1 := Lib.hid h1; have HB1 := Lib.hid hb1; clear h1 hb1) | (go_at_call 45; refine (CT.out _ _ _ (HH1.out.later HB2.out) HH2.out).mono ?_; rintro e w3 ⟨v3, rfl, ht, hb3⟩; have HT := Lib.hid ht; have HB3 := Lib.hid hb3; clear ht hb3) | (go_at_call 34; refine (CR.out _ _ _ (HT.out.later HB4.out) HH4.out).mono ?_; rintro e w5 ⟨z, B, rfl, hz, hb5⟩; have HZ := Lib.hid hz; have HB5 := Lib.hid hb5; clear hz hb5) | (go_at_call 40; refine (HZ.out _).mono ?_; rintro e w' ⟨rfl, rfl⟩))
  go_ret2
  exact ⟨rfl, kcb (kcb (kcb (kcb HB1.out HB2.out) HB3.out) HB4.out) HB5.out⟩

set_option maxRecDepth 100000 in
set_option maxHeartbeats 1000000 in
theorem refScale_zero (a num how : Int) (V I : Int → Bool) (H : Bool) (w : World) (hVa : V a = true) (hIn : I num = true) (hId : I 0 = true) (hH : H = true)
    (CV : Hid (∀ x w, Calls Tryz.prog 32 #[.int .i64 x] w fun e w' => e = .returned (.bool (V x)) ∧ w = w'))
    (CH : Hid (∀ w, Calls Tryz.prog 33 #[.int .i64 how] w fun e w' => e = .returned (.bool H) ∧ w = w'))
    (CI : Hid (∀ x w, Calls Tryz.prog 25 #[.int .i64 x, .int .i64 (-2147483648), .int .i64 2147483648] w fun e w' => e = .returned (.bool (I x)) ∧ w = w')) :
    Calls Tryz.prog 22 #[.int .i64 a, .int .i64 num, .int .i64 0, .int .i64 how] w fun e w' => e = .returned (.tuple #[.int .i64 0, .int .i64 10]) ∧ Below w.heap.size w w' := by
  subst hH
  go_enter Tryz.func22, Tryz.ntmps22
  go_wp2_with (first | (go_at_call 32; refine (CV.out _ _).mono ?_; rintro e w' ⟨rfl, rfl⟩) | (go_at_call 33; refine (CH.out _).mono ?_; rintro e w' ⟨rfl, rfl⟩) | (go_at_call 25; refine (CI.out _ _).mono ?_; rintro e w' ⟨rfl, rfl⟩))
  go_ret2
  exact ⟨rfl, Below.refl _ _⟩

set_option maxRecDepth 100000 in
set_option maxHeartbeats 1000000 in
theorem refScale_out (a num den how : Int) (V I : Int → Bool) (t p q H : Bool) (w : World) (h : t = false ∨ H = false ∨ p = false ∨ q = false) (hVa : V a = t) (hIn : I num = p) (hId : I den = q)
    (CV : Hid (∀ x w, Calls Tryz.prog 32 #[.int .i64 x] w fun e w' => e = .returned (.bool (V x)) ∧ w = w'))
    (CH : Hid (∀ w, Calls Tryz.prog 33 #[.int .i64 how] w fun e w' => e = .returned (.bool H) ∧ w = w'))
    (CI : Hid (∀ x w, Calls Tryz.prog 25 #[.int .i64 x, .int .i64 (-2147483648), .int .i64 2147483648] w fun e w' => e = .returned (.bool (I x)) ∧ w = w')) :
    Calls Tryz.prog 22 #[.int .i64 a, .int .i64 num, .int .i64 den, .int .i64 how] w fun e w' => e = .returned (.tuple #[.int .i64 0, .int .i64 2]) ∧ Below w.heap.size w w' := by
  cases t <;> cases p <;> cases q <;> cases H
  case true.true.true.true => rcases h with h | h | h | h <;> cases h
  all_goals
    clear h
    go_enter Tryz.func22, Tryz.ntmps22
    go_wp2_with (first | (go_at_call 32; refine (CV.out _ _).mono ?_; rintro e w' ⟨rfl, rfl⟩) | (go_at_call 33; refine (CH.out _).mono ?_; rintro e w' ⟨rfl, rfl⟩) | (go_at_call 25; refine (CI.out _ _).mono ?_; rintro e w' ⟨rfl, rfl⟩))
    go_ret2
    exact ⟨rfl, Below.refl _ _⟩

theorem max_abs (n : Int) : max n (-n) = (n.natAbs : Int) := by omega

theorem sign_scale (a num den : Int) (h : a * num ≠ 0) : (decide (a * num < 0) != decide (den < 0)) = ((decide (a < 0) != decide (num < 0)) != decide (den < 0)) := by
  rw [sign_mul a num h]

theorem refScaleF (a num den how : Int) (w : World) :
    Calls Tryz.prog 22 #[.int .i64 a, .int .i64 num, .int .i64 den, .int .i64 how] w fun e w' => e = .returned (.tuple #[.int .i64 (scaleS a num den how).1, .int .i64 (scaleS a num den how).2]) ∧ Below w.heap.size w w' := by
  have CV := fun x w => refValid x w
  have CH := fun w => refHow how w
  have CI := fun x w => refIn x (-2147483648) 2147483648 w
  unfold scaleS
  by_cases hc : Vld a ∧ (0 ≤ how ∧ how ≤ 3) ∧ Rate num ∧ Rate den
  · rw [if_pos hc]
    obtain ⟨ha, hh, hn, hd⟩ := hc
    by_cases hz : den = 0
    · rw [if_pos hz]
      subst hz
      exact refScale_zero a num how _ _ _ w (decide_eq_true ha) (decide_eq_true hn) (decide_eq_true hd) (decide_eq_true hh) CV CH CI
    · rw [if_neg hz]
      have na := refSizeOf a ha
      have nn : num.natAbs ≤ 2147483648 := by unfold Rate at hn; omega
      have nd : den.natAbs ≤ 2147483648 := by unfold Rate at hd; omega
      have la := parts_small _ na
      have ln := parts_small num.natAbs (by omega)
      have ld := parts_small den.natAbs (by omega)
      have lp := parts_mul_len a.natAbs num.natAbs
      have e : rnd how (a * num) den = rndS how ((decide (a < 0) != decide (num < 0)) != decide (den < 0)) (a.natAbs * num.natAbs) den.natAbs := by
        rw [rnd_signs how (a * num) den _ hz (fun h => sign_scale a num den h), Int.natAbs_mul]
      rw [e]
      refine refScale_in a num den how _ _ _ _ (a.natAbs * num.natAbs) (fun x => decide (Vld x)) _ (fun x => (x.natAbs : Int)) Int.toNat _ w (decide_eq_true ha) (decide_eq_true hn) (decide_eq_true hd) (decide_eq_true hh) hz (by omega) (by omega) (by unfold wrap64; omega) (by unfold wrap64; omega) (max_abs num) (max_abs den) (by omega) (by omega) (by omega) (by omega) CV CH CI sizeC ofC
        (fun w va vb h1 h2 => refTimes _ _ va vb w h1 h2 (by omega) (by omega)) (fun w va vb h1 h2 => ?_)
      exact (refRoundFit _ den.natAbs _ how va vb w hh.1 hh.2 (by omega) h1 h2 (by omega) (by omega)).mono (fun e w' h => by obtain ⟨z, B, h1, h2, h3⟩ := h; exact ⟨z, B, h1, h2, h3⟩)
  · rw [if_neg hc]
    refine refScale_out a num den how _ _ _ _ _ _ w ?_ rfl rfl rfl CV CH CI
    by_cases ha : Vld a
    · by_cases hh : 0 ≤ how ∧ how ≤ 3
      · by_cases hn : Rate num
        · exact .inr (.inr (.inr (decide_eq_false (fun hd => hc ⟨ha, hh, hn, hd⟩))))
        · exact .inr (.inr (.inl (decide_eq_false hn)))
      · exact .inr (.inl (decide_eq_false hh))
    · exact .inl (decide_eq_false ha)

end Go.Proofs.YtfpfpmacobkmhaaGreatDoor
