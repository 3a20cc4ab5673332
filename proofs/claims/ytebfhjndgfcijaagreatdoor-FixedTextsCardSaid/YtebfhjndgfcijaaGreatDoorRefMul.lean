/- The document's own answers: up, Mul, Div, Scale. -/
import Derived.Test.YtebfhjndgfcijaaGreatDoorRoundg
import Derived.Test.YtebfhjndgfcijaaGreatDoorMul
import Derived.Test.YtebfhjndgfcijaaGreatDoorDivf
import Derived.Test.YtebfhjndgfcijaaGreatDoorScale
namespace Go.Proofs.YtebfhjndgfcijaaGreatDoor
open Go Go.RowKit

theorem rndS_zero (how : Int) (t : Bool) (D : Nat) (hD : 0 < D) : rndS how t 0 D = 0 := by
  have hu : upB how t ((0 % D : Nat) : Int) (D : Int) = false := by
    rw [Nat.zero_mod]
    unfold upB
    split
    · rfl
    · split
      · simp
      · split
        · simp
        · rw [decide_eq_false]
          omega
  unfold rndS
  rw [hu, Nat.zero_div]
  cases t <;> rfl

theorem rnd_signs (how n d : Int) (t : Bool) (hd : d ≠ 0) (h : n ≠ 0 → (decide (n < 0) != decide (d < 0)) = t) : rnd how n d = rndS how t n.natAbs d.natAbs := by
  by_cases hn : n = 0
  · subst hn
    rw [rnd_rndS how 0 d _ rfl]
    show rndS how _ 0 _ = rndS how _ 0 _
    rw [rndS_zero how _ _ (by omega), rndS_zero how _ _ (by omega)]
  · exact rnd_rndS how n d t (h hn)

theorem sign_mul (a b : Int) (h : a * b ≠ 0) : decide (a * b < 0) = (decide (a < 0) != decide (b < 0)) := by
  have ha : a ≠ 0 := fun e => h (by rw [e, Int.zero_mul])
  have hb : b ≠ 0 := fun e => h (by rw [e, Int.mul_zero])
  by_cases h1 : a < 0
  · by_cases h2 : b < 0
    · have h3 := Int.mul_pos_of_neg_of_neg h1 h2
      rw [decide_eq_true h1, decide_eq_true h2, decide_eq_false (by omega)]
      rfl
    · have h3 := Int.mul_neg_of_neg_of_pos h1 (by omega : 0 < b)
      rw [decide_eq_true h1, decide_eq_false h2, decide_eq_true h3]
      rfl
  · by_cases h2 : b < 0
    · have h3 := Int.mul_neg_of_pos_of_neg (by omega : 0 < a) h2
      rw [decide_eq_false h1, decide_eq_true h2, decide_eq_true h3]
      rfl
    · have h3 := Int.mul_pos (by omega : 0 < a) (by omega : 0 < b)
      rw [decide_eq_false h1, decide_eq_false h2, decide_eq_false (by omega)]
      rfl

set_option maxRecDepth 100000 in
set_option maxHeartbeats 1000000 in
theorem refUp16 (n : Nat) (v : Value) (w : World) (hv : Holds w v n) (hl : (parts n).length ≤ 300) :
    Calls Tryz.prog 53 #[v, .int .i64 16] w fun e w' => ∃ v', e = .returned v' ∧ Holds w' v' (n * 65536) ∧ Below w.heap.size w w' := by
  have CO := Lib.hid (fun w => refOf_any 65536 65536 rfl (by omega) w)
  have l1 : (parts 65536).length ≤ 4 := parts_length 4 _ (by decide)
  have CT := Lib.hid (fun vb W h1 h2 => refTimes n 65536 v vb W h1 h2 (by omega) (by omega))
  have HV := Lib.hid hv
  clear hv hl l1
  go_enter Tryz.func53, Tryz.ntmps53
  go_wp2_with (first | (go_at_call 50; refine (CO.out _).mono ?_; rintro e w1 ⟨vo, rfl, ho, hb1⟩; have HO := Lib.hid ho; have HB1 := Lib.hid hb1; clear ho hb1) | (go_at_call 49; refine (CT.out _ _ (HV.out.later HB1.out) HO.out).mono ?_; rintro e w2 ⟨vt, rfl, ht, hb2⟩; have HT := Lib.hid ht; have HB2 := Lib.hid hb2; clear ht hb2))
  go_ret
  exact ⟨_, rfl, HT.out, kcb HB1.out HB2.out⟩

theorem parts_small (n : Nat) (h : n ≤ 70368744177664) : (parts n).length ≤ 4 := parts_length 4 _ (by
  have : (32768 : Nat) ^ 4 = 1152921504606846976 := by decide
  omega)

/-- The size of a number, as a list of parts. -/
theorem refSizeOf (x : Int) (h : Vld x) : x.natAbs ≤ 70368744177664 := by unfold Vld at h; omega

set_option maxRecDepth 100000 in
set_option maxHeartbeats 1000000 in
theorem refMul_in (a b how R E : Int) (P : Nat) (V : Int → Bool) (S : Int → Int) (G : Int → Nat) (H : Bool) (w : World) (hVa : V a = true) (hVb : V b = true) (hH : H = true) (sa0 : 0 ≤ S a) (sa1 : S a ≤ 70368744177664) (sb0 : 0 ≤ S b) (sb1 : S b ≤ 70368744177664)
    (CV : Hid (∀ x w, Calls Tryz.prog 57 #[.int .i64 x] w fun e w' => e = .returned (.bool (V x)) ∧ w = w'))
    (CH : Hid (∀ w, Calls Tryz.prog 46 #[.int .i64 how] w fun e w' => e = .returned (.bool H) ∧ w = w'))
    (CS : Hid (∀ x w, V x = true → Calls Tryz.prog 58 #[.int .i64 x] w fun e w' => e = .returned (.int .i64 (S x)) ∧ w = w'))
    (CO : Hid (∀ x w, 0 ≤ x → x ≤ 70368744177664 → Calls Tryz.prog 50 #[.int .i64 x] w fun e w' => ∃ v, e = .returned v ∧ Holds w' v (G x) ∧ Below w.heap.size w w'))
    (CT : Hid (∀ w va vb, Holds w va (G (S a)) → Holds w vb (G (S b)) → Calls Tryz.prog 49 #[va, vb] w fun e w' => ∃ v, e = .returned v ∧ Holds w' v P ∧ Below w.heap.size w w'))
    (CR : Hid (∀ w va vb, Holds w va P → Holds w vb (G 65536) → Calls Tryz.prog 52 #[va, vb, .bool (decide (a < 0) != decide (b < 0)), .int .i64 how] w fun e w' => ∃ z B, e = .returned (.tuple #[.int .i64 z, .bool B]) ∧ (∀ w, Calls Tryz.prog 51 #[.int .i64 z, .bool B] w fun e w' => e = .returned (.tuple #[.int .i64 R, .int .i64 E]) ∧ w = w') ∧ Below w.heap.size w w')) :
    Calls Tryz.prog 74 #[.int .i64 a, .int .i64 b, .int .i64 how] w fun e w' => e = .returned (.tuple #[.int .i64 R, .int .i64 E]) ∧ Below w.heap.size w w' := by
  subst hH
  go_enter Tryz.func74, Tryz.ntmps74
  go_wp2_with (first | (go_at_call 57; refine (CV.out _ _).mono ?_; rintro e w' ⟨rfl, rfl⟩) | (go_at_call 46; refine (CH.out _).mono ?_; rintro e w' ⟨rfl, rfl⟩) | (go_at_call 58; refine (CS.out _ _ (by assumption)).mono ?_; rintro e w' ⟨rfl, rfl⟩) | (go_at_call 50; have HM := HT; refine (CO.out _ _ (by omega) (by omega)).mono ?_; clear HM; rintro e w4 ⟨v4, rfl, h4, hb4⟩; have HH4 := Lib.hid h4; have HB4 := Lib.hid hb4; clear h4 hb4) | (go_at_call 50; have HM := HH1; refine (CO.out _ _ (by omega) (by omega)).mono ?_; clear HM; rintro e w2 ⟨v2, rfl, h2, hb2⟩; have HH2 := Lib.hid h2; have HB2 := Lib.hid hb2; clear h2 hb2) | (go_at_call 50; refine (CO.out _ _ (by omega) (by omega)).mono ?_; rintro e w1 ⟨v1, rfl, h1, hb1⟩; have HH1 := Lib.hid h1; have HB1 := Lib.hid hb1; clear h1 hb1) | (go_at_call 49; refine (CT.out _ _ _ (HH1.out.later HB2.out) HH2.out).mono ?_; rintro e w3 ⟨v3, rfl, ht, hb3⟩; have HT := Lib.hid ht; have HB3 := Lib.hid hb3; clear ht hb3) | (go_at_call 52; refine (CR.out _ _ _ (HT.out.later HB4.out) HH4.out).mono ?_; rintro e w5 ⟨z, B, rfl, hz, hb5⟩; have HZ := Lib.hid hz; have HB5 := Lib.hid hb5; clear hz hb5) | (go_at_call 51; refine (HZ.out _).mono ?_; rintro e w' ⟨rfl, rfl⟩))
  go_ret2
  exact ⟨rfl, kcb (kcb (kcb (kcb HB1.out HB2.out) HB3.out) HB4.out) HB5.out⟩

set_option maxRecDepth 100000 in
set_option maxHeartbeats 1000000 in
theorem refMul_out (a b how : Int) (V : Int → Bool) (t u H : Bool) (w : World) (h : t = false ∨ u = false ∨ H = false) (hVa : V a = t) (hVb : V b = u)
    (CV : Hid (∀ x w, Calls Tryz.prog 57 #[.int .i64 x] w fun e w' => e = .returned (.bool (V x)) ∧ w = w'))
    (CH : Hid (∀ w, Calls Tryz.prog 46 #[.int .i64 how] w fun e w' => e = .returned (.bool H) ∧ w = w')) :
    Calls Tryz.prog 74 #[.int .i64 a, .int .i64 b, .int .i64 how] w fun e w' => e = .returned (.tuple #[.int .i64 0, .int .i64 2]) ∧ Below w.heap.size w w' := by
  cases t <;> cases u <;> cases H
  case true.true.true => rcases h with h | h | h <;> cases h
  all_goals
    clear h
    go_enter Tryz.func74, Tryz.ntmps74
    go_wp2_with (first | (go_at_call 57; refine (CV.out _ _).mono ?_; rintro e w' ⟨rfl, rfl⟩) | (go_at_call 46; refine (CH.out _).mono ?_; rintro e w' ⟨rfl, rfl⟩))
    go_ret2
    exact ⟨rfl, Below.refl _ _⟩

theorem sizeC : ∀ (x : Int) (w : World), decide (Vld x) = true → Calls Tryz.prog 58 #[.int .i64 x] w fun e w' => e = .returned (.int .i64 (x.natAbs : Int)) ∧ w = w' :=
  fun x w h => refSize x w (of_decide_eq_true h)
theorem ofC : ∀ (x : Int) (w : World), 0 ≤ x → x ≤ 70368744177664 → Calls Tryz.prog 50 #[.int .i64 x] w fun e w' => ∃ v, e = .returned v ∧ Holds w' v (x.toNat) ∧ Below w.heap.size w w' :=
  fun x w h0 h1 => refOf_any x.toNat x (by omega) (by omega) w

theorem refMulF (a b how : Int) (w : World) :
    Calls Tryz.prog 74 #[.int .i64 a, .int .i64 b, .int .i64 how] w fun e w' => e = .returned (.tuple #[.int .i64 (mulS a b how).1, .int .i64 (mulS a b how).2]) ∧ Below w.heap.size w w' := by
  have CV := fun x w => refValid x w
  have CH := fun w => refHow how w
  unfold mulS
  by_cases ha : Vld a
  · by_cases hb : Vld b
    · by_cases hh : 0 ≤ how ∧ how ≤ 3
      · rw [if_pos ⟨⟨ha, hb⟩, hh⟩]
        have na := refSizeOf a ha
        have nb := refSizeOf b hb
        have la := parts_small _ na
        have lb := parts_small _ nb
        have lp := parts_mul_len a.natAbs b.natAbs
        have ld : (parts 65536).length ≤ 4 := parts_small _ (by omega)
        have e : rnd how (a * b) 65536 = rndS how (decide (a < 0) != decide (b < 0)) (a.natAbs * b.natAbs) 65536 := by
          rw [rnd_signs how (a * b) 65536 (decide (a < 0) != decide (b < 0)) (by omega) (fun h => by rw [sign_mul a b h]; simp), Int.natAbs_mul]
          rfl
        rw [e]
        refine refMul_in a b how _ _ (a.natAbs * b.natAbs) (fun x => decide (Vld x)) (fun x => (x.natAbs : Int)) Int.toNat _ w (decide_eq_true ha) (decide_eq_true hb) (decide_eq_true hh) (by omega) (by omega) (by omega) (by omega) CV CH sizeC ofC
          (fun w va vb h1 h2 => refTimes _ _ va vb w h1 h2 (by omega) (by omega)) (fun w va vb h1 h2 => ?_)
        exact (refRoundFit _ 65536 _ how va vb w hh.1 hh.2 (by omega) h1 h2 (by omega) (by omega)).mono (fun e w' h => by obtain ⟨z, B, h1, h2, h3⟩ := h; exact ⟨z, B, h1, h2, h3⟩)
      · rw [if_neg (fun h => hh h.2)]
        exact refMul_out a b how _ _ _ _ w (.inr (.inr (decide_eq_false hh))) rfl rfl CV CH
    · rw [if_neg (fun h => hb h.1.2)]
      exact refMul_out a b how _ _ _ _ w (.inr (.inl (decide_eq_false hb))) rfl rfl CV CH
  · rw [if_neg (fun h => ha h.1.1)]
    exact refMul_out a b how _ _ _ _ w (.inl (decide_eq_false ha)) rfl rfl CV CH

end Go.Proofs.YtebfhjndgfcijaaGreatDoor
