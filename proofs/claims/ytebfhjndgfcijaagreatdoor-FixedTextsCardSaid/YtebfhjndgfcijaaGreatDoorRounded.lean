/- The document's own answers: number and rounded. -/
import Derived.Test.YtebfhjndgfcijaaGreatDoorRover
import Derived.Test.YtebfhjndgfcijaaGreatDoorOvs
namespace Go.Proofs.YtebfhjndgfcijaaGreatDoor
open Go Go.RowKit

set_option maxRecDepth 100000 in
set_option maxHeartbeats 1000000 in
theorem number_small (n : Nat) (v : Value) (w : World) (hv : Holds w v n) (hl : (parts n).length ≤ 4) :
    Calls Tryz.prog 121 #[v] w fun e w' => e = .returned (.tuple #[.int .i64 (n : Int), .bool true]) ∧ Below w.heap.size w w' := by
  obtain ⟨p, c, rfl, _, hx⟩ := hv
  obtain ⟨l, hll⟩ : ∃ l, parts n = l := ⟨_, rfl⟩
  have HFl : Hid (Fine l) := by rw [← hll]; exact parts_fine n
  have HPl : Hid (pv l = n) := by rw [← hll]; exact pv_parts n
  rw [hll] at hx hl ⊢
  obtain ⟨m, hm⟩ : ∃ m, l.length = m := ⟨_, rfl⟩
  have HX : Hid (∀ j, j < m → ∃ g, p = some ⟨g, 0, none⟩ ∧ w.cell? ⟨g, j, none⟩ = some (.int .i64 (at' l j : Int))) := by rw [← hm]; exact hx
  have HM : Hid (l.length = m) := hm
  rw [hm] at hl ⊢
  have hbig : Hid (pv l < 1152921504606846976) := by
    have h1 := pv_lt HFl.out
    have h2 : 32768 ^ l.length ≤ 32768 ^ 4 := Nat.pow_le_pow_right (by decide) (by rw [HM.out]; exact hl)
    have h3 : (32768 : Nat) ^ 4 = 1152921504606846976 := by decide
    show _ < _
    omega
  have hS : Hid (m ≤ m ∧ pv (l.drop m) = 0) := ⟨Nat.le_refl _, pv_drop_end (by rw [HM.out]; exact Nat.le_refl _)⟩
  obtain ⟨I0, hI0⟩ : ∃ I0 : Int, (m : Int) - 1 = I0 := ⟨_, rfl⟩
  have hIb : -1 ≤ I0 ∧ I0 ≤ 3 := by omega
  have HI0 := Lib.hid hI0
  clear hx hm hll
  go_enter Tryz.func121, Tryz.ntmps121
  go_wp2_with fail
  go_loopw [4, 5] (fun s i wr => ∃ (k : Nat) (A I : Int), s = .int .i64 A ∧ i = .int .i64 I ∧ -1 ≤ I ∧ I ≤ 3 ∧ 0 ≤ A ∧ A < 1152921504606846976 ∧ wr = w ∧ Hid (k ≤ m ∧ I = (k : Int) - 1 ∧ A = (pv (l.drop k) : Int))) (fun s i _ => (intOf i + 1).toNat + 0 * (intOf s).toNat)
  case atStart => exact ⟨m, 0, I0, rfl, by go_num, hIb.1, hIb.2, by omega, by omega, rfl, ⟨Nat.le_refl _, HI0.out.symm, by rw [hS.out.2]; rfl⟩⟩
  case round =>
    obtain ⟨k, A, I, rfl, rfl, hJ1, hJ2, hA0, hA1, rfl, hI⟩ := hrel
    clear hS HI0 hI0 hIb
    by_cases hz : 0 ≤ I
    · obtain ⟨j, hj⟩ : ∃ j, k = j + 1 := ⟨k - 1, by have := hI.out; omega⟩
      subst hj
      have hIj : I = (j : Int) := by have := hI.out; omega
      subst hIj
      have hjm : j < m := by have := hI.out; omega
      have hjm' : (j : Int) < (m : Int) := by omega
      obtain ⟨g, rfl, hx⟩ := HX.out j hjm
      obtain ⟨X, eX⟩ : ∃ X : Int, (at' l j : Int) = X := ⟨_, rfl⟩
      rw [eX] at hx
      have hstep := pv_step l j
      have hsum : (pv (l.drop j) : Int) = X + 32768 * A := by have := hI.out; omega
      have hle : pv (l.drop j) ≤ pv l := by
        have h := pv_append (l.take j) (l.drop j)
        rw [List.take_append_drop] at h
        have hp : 0 < 32768 ^ (l.take j).length := Nat.pow_pos (by decide)
        have := Nat.le_mul_of_pos_left (pv (l.drop j)) hp
        omega
      obtain ⟨B, hB⟩ : ∃ B : Int, 32768 * A = B := ⟨_, rfl⟩
      obtain ⟨C, hC⟩ : ∃ C : Int, B + X = C := ⟨_, rfl⟩
      have bX : 0 ≤ X ∧ X < 32768 := by have := at_lt HFl.out j; omega
      have hb := hbig.out
      have bC : 0 ≤ C ∧ C < 1152921504606846976 := by omega
      have bB : 0 ≤ B ∧ B < 1152921504606846976 := by omega
      have eC : C = (pv (l.drop j) : Int) := by omega
      have HC := Lib.hid eC
      obtain ⟨J, hJ⟩ : ∃ J : Int, (j : Int) - 1 = J := ⟨_, rfl⟩
      have HJ := Lib.hid hJ
      have hJb : -1 ≤ J ∧ J ≤ 3 ∧ (J + 1).toNat < ((j : Int) + 1).toNat := by omega
      clear hI hstep hsum hle hb eC eX
      go_wp2_with fail
      go_roundw
      case rel => exact ⟨j, C, J, by go_num, by go_num, hJb.1, hJb.2.1, bC.1, bC.2, by trivial, ⟨by omega, HJ.out.symm, HC.out⟩⟩
      case measure => simp [intOf]; omega
    · have hk0 : k = 0 := by have := hI.out; omega
      subst hk0
      have hfin : A = (n : Int) := by rw [← HPl.out]; exact hI.out.2.2
      clear hI hbig
      go_wp2_with fail
      go_ret2
      exact ⟨rfl, Below.refl _ _⟩

/-- A rounded quotient, by the sizes and a sign. -/
def rndS (how : Int) (t : Bool) (N D : Nat) : Int :=
  if t then -(((N / D : Nat) : Int) + if upB how t ((N % D : Nat) : Int) (D : Int) then 1 else 0) else (((N / D : Nat) : Int) + if upB how t ((N % D : Nat) : Int) (D : Int) then 1 else 0)
theorem rnd_rndS (how n d : Int) (t : Bool) (h : (decide (n < 0) != decide (d < 0)) = t) : rnd how n d = rndS how t n.natAbs d.natAbs := rnd_sign how n d t h

theorem parts_len0 (r : Nat) : (parts r).length = 0 ↔ r = 0 := by
  constructor
  · intro h
    have := List.eq_nil_of_length_eq_zero h
    have h2 := pv_parts r
    rw [this] at h2
    exact h2.symm
  · rintro rfl
    rw [parts_zero]
    rfl

set_option maxRecDepth 100000 in
set_option maxHeartbeats 1000000 in
theorem rounded_0mz (N D q r len : Nat) (Q : Int) (va vb : Value) (w : World) (hN : Hid (Holds w va N)) (hD : Hid (Holds w vb D)) (Hlr : Hid ((parts r).length ≤ 400)) (HlD : Hid ((parts D).length ≤ 100)) (hlen : (parts r).length = len) (hQ : (q : Int) = Q) (Q1 : Q < 1152921504606846976) (hr0 : r = 0)
    (CV : Hid (Calls Tryz.prog 120 #[va, vb] w fun e w' => ∃ v v', e = .returned (.tuple #[v, v']) ∧ Holds w' v q ∧ Holds w' v' r ∧ Below w.heap.size w w'))
    (CN : Hid (∀ W v, Holds W v q → Calls Tryz.prog 121 #[v] W fun e w' => e = .returned (.tuple #[.int .i64 Q, .bool true]) ∧ Below W.heap.size W w')) :
    Calls Tryz.prog 52 #[va, vb, .bool true, .int .i64 0] w fun e w' => e = .returned (.tuple #[.int .i64 (-(Q)), .bool true]) ∧ Below w.heap.size w w' := by
  have hQ0 : 0 ≤ Q := by omega
  have hl1 : (len : Int) ≤ 0 := by
    have := parts_len0 r
    omega
  have HQQ := Lib.hid hQ
  clear hQ hr0 
  go_enter Tryz.func52, Tryz.ntmps52
  go_wp2_with (first | (go_at_call 120; refine (CV.out).mono ?_; rintro e w1 ⟨vq, vr, rfl, hq, hr, hb1⟩; have HQ := Lib.hid hq; have HB1 := Lib.hid hb1; obtain ⟨pr, cr, rfl, hcr, hrc⟩ := hr; rw [hlen] at hcr hrc ⊢; have HR : Hid (Holds w1 (.slice pr len cr) r) := ⟨pr, cr, by rw [hlen], by rw [hlen]; exact hcr, by rw [hlen]; exact hrc⟩; clear hq hb1 hcr hrc) | (go_at_call 121; refine (CN.out _ _ HQ.out).mono ?_; rintro e w2 ⟨rfl, hb2⟩; have HB2 := Lib.hid hb2; clear hb2))
  go_ret2
  exact ⟨rfl, kcb HB1.out HB2.out⟩

set_option maxRecDepth 100000 in
set_option maxHeartbeats 1000000 in
theorem rounded_0mr (N D q r len : Nat) (Q : Int) (va vb : Value) (w : World) (hN : Hid (Holds w va N)) (hD : Hid (Holds w vb D)) (Hlr : Hid ((parts r).length ≤ 400)) (HlD : Hid ((parts D).length ≤ 100)) (hlen : (parts r).length = len) (hQ : (q : Int) = Q) (Q1 : Q < 1152921504606846976) (hr0 : ¬ r = 0)
    (CV : Hid (Calls Tryz.prog 120 #[va, vb] w fun e w' => ∃ v v', e = .returned (.tuple #[v, v']) ∧ Holds w' v q ∧ Holds w' v' r ∧ Below w.heap.size w w'))
    (CN : Hid (∀ W v, Holds W v q → Calls Tryz.prog 121 #[v] W fun e w' => e = .returned (.tuple #[.int .i64 Q, .bool true]) ∧ Below W.heap.size W w')) :
    Calls Tryz.prog 52 #[va, vb, .bool true, .int .i64 0] w fun e w' => e = .returned (.tuple #[.int .i64 (-(Q)), .bool true]) ∧ Below w.heap.size w w' := by
  have hQ0 : 0 ≤ Q := by omega
  have hl1 : (0 : Int) < (len : Int) := by
    have := parts_len0 r
    omega
  have HQQ := Lib.hid hQ
  clear hQ hr0 
  go_enter Tryz.func52, Tryz.ntmps52
  go_wp2_with (first | (go_at_call 120; refine (CV.out).mono ?_; rintro e w1 ⟨vq, vr, rfl, hq, hr, hb1⟩; have HQ := Lib.hid hq; have HB1 := Lib.hid hb1; obtain ⟨pr, cr, rfl, hcr, hrc⟩ := hr; rw [hlen] at hcr hrc ⊢; have HR : Hid (Holds w1 (.slice pr len cr) r) := ⟨pr, cr, by rw [hlen], by rw [hlen]; exact hcr, by rw [hlen]; exact hrc⟩; clear hq hb1 hcr hrc) | (go_at_call 121; refine (CN.out _ _ HQ.out).mono ?_; rintro e w2 ⟨rfl, hb2⟩; have HB2 := Lib.hid hb2; clear hb2))
  go_ret2
  exact ⟨rfl, kcb HB1.out HB2.out⟩

set_option maxRecDepth 100000 in
set_option maxHeartbeats 1000000 in
theorem rounded_0pz (N D q r len : Nat) (Q : Int) (va vb : Value) (w : World) (hN : Hid (Holds w va N)) (hD : Hid (Holds w vb D)) (Hlr : Hid ((parts r).length ≤ 400)) (HlD : Hid ((parts D).length ≤ 100)) (hlen : (parts r).length = len) (hQ : (q : Int) = Q) (Q1 : Q < 1152921504606846976) (hr0 : r = 0)
    (CV : Hid (Calls Tryz.prog 120 #[va, vb] w fun e w' => ∃ v v', e = .returned (.tuple #[v, v']) ∧ Holds w' v q ∧ Holds w' v' r ∧ Below w.heap.size w w'))
    (CN : Hid (∀ W v, Holds W v q → Calls Tryz.prog 121 #[v] W fun e w' => e = .returned (.tuple #[.int .i64 Q, .bool true]) ∧ Below W.heap.size W w')) :
    Calls Tryz.prog 52 #[va, vb, .bool false, .int .i64 0] w fun e w' => e = .returned (.tuple #[.int .i64 (Q), .bool true]) ∧ Below w.heap.size w w' := by
  have hQ0 : 0 ≤ Q := by omega
  have hl1 : (len : Int) ≤ 0 := by
    have := parts_len0 r
    omega
  have HQQ := Lib.hid hQ
  clear hQ hr0 
  go_enter Tryz.func52, Tryz.ntmps52
  go_wp2_with (first | (go_at_call 120; refine (CV.out).mono ?_; rintro e w1 ⟨vq, vr, rfl, hq, hr, hb1⟩; have HQ := Lib.hid hq; have HB1 := Lib.hid hb1; obtain ⟨pr, cr, rfl, hcr, hrc⟩ := hr; rw [hlen] at hcr hrc ⊢; have HR : Hid (Holds w1 (.slice pr len cr) r) := ⟨pr, cr, by rw [hlen], by rw [hlen]; exact hcr, by rw [hlen]; exact hrc⟩; clear hq hb1 hcr hrc) | (go_at_call 121; refine (CN.out _ _ HQ.out).mono ?_; rintro e w2 ⟨rfl, hb2⟩; have HB2 := Lib.hid hb2; clear hb2))
  go_ret2
  exact ⟨rfl, kcb HB1.out HB2.out⟩

set_option maxRecDepth 100000 in
set_option maxHeartbeats 1000000 in
theorem rounded_0pr (N D q r len : Nat) (Q : Int) (va vb : Value) (w : World) (hN : Hid (Holds w va N)) (hD : Hid (Holds w vb D)) (Hlr : Hid ((parts r).length ≤ 400)) (HlD : Hid ((parts D).length ≤ 100)) (hlen : (parts r).length = len) (hQ : (q : Int) = Q) (Q1 : Q < 1152921504606846976) (hr0 : ¬ r = 0)
    (CV : Hid (Calls Tryz.prog 120 #[va, vb] w fun e w' => ∃ v v', e = .returned (.tuple #[v, v']) ∧ Holds w' v q ∧ Holds w' v' r ∧ Below w.heap.size w w'))
    (CN : Hid (∀ W v, Holds W v q → Calls Tryz.prog 121 #[v] W fun e w' => e = .returned (.tuple #[.int .i64 Q, .bool true]) ∧ Below W.heap.size W w')) :
    Calls Tryz.prog 52 #[va, vb, .bool false, .int .i64 0] w fun e w' => e = .returned (.tuple #[.int .i64 (Q), .bool true]) ∧ Below w.heap.size w w' := by
  have hQ0 : 0 ≤ Q := by omega
  have hl1 : (0 : Int) < (len : Int) := by
    have := parts_len0 r
    omega
  have HQQ := Lib.hid hQ
  clear hQ hr0 
  go_enter Tryz.func52, Tryz.ntmps52
  go_wp2_with (first | (go_at_call 120; refine (CV.out).mono ?_; rintro e w1 ⟨vq, vr, rfl, hq, hr, hb1⟩; have HQ := Lib.hid hq; have HB1 := Lib.hid hb1; obtain ⟨pr, cr, rfl, hcr, hrc⟩ := hr; rw [hlen] at hcr hrc ⊢; have HR : Hid (Holds w1 (.slice pr len cr) r) := ⟨pr, cr, by rw [hlen], by rw [hlen]; exact hcr, by rw [hlen]; exact hrc⟩; clear hq hb1 hcr hrc) | (go_at_call 121; refine (CN.out _ _ HQ.out).mono ?_; rintro e w2 ⟨rfl, hb2⟩; have HB2 := Lib.hid hb2; clear hb2))
  go_ret2
  exact ⟨rfl, kcb HB1.out HB2.out⟩

set_option maxRecDepth 100000 in
set_option maxHeartbeats 1000000 in
theorem rounded_1mz (N D q r len : Nat) (Q : Int) (va vb : Value) (w : World) (hN : Hid (Holds w va N)) (hD : Hid (Holds w vb D)) (Hlr : Hid ((parts r).length ≤ 400)) (HlD : Hid ((parts D).length ≤ 100)) (hlen : (parts r).length = len) (hQ : (q : Int) = Q) (Q1 : Q < 1152921504606846976) (hr0 : r = 0)
    (CV : Hid (Calls Tryz.prog 120 #[va, vb] w fun e w' => ∃ v v', e = .returned (.tuple #[v, v']) ∧ Holds w' v q ∧ Holds w' v' r ∧ Below w.heap.size w w'))
    (CN : Hid (∀ W v, Holds W v q → Calls Tryz.prog 121 #[v] W fun e w' => e = .returned (.tuple #[.int .i64 Q, .bool true]) ∧ Below W.heap.size W w')) :
    Calls Tryz.prog 52 #[va, vb, .bool true, .int .i64 1] w fun e w' => e = .returned (.tuple #[.int .i64 (-(Q)), .bool true]) ∧ Below w.heap.size w w' := by
  have hQ0 : 0 ≤ Q := by omega
  have hl1 : (len : Int) ≤ 0 := by
    have := parts_len0 r
    omega
  have HQQ := Lib.hid hQ
  clear hQ hr0 
  go_enter Tryz.func52, Tryz.ntmps52
  go_wp2_with (first | (go_at_call 120; refine (CV.out).mono ?_; rintro e w1 ⟨vq, vr, rfl, hq, hr, hb1⟩; have HQ := Lib.hid hq; have HB1 := Lib.hid hb1; obtain ⟨pr, cr, rfl, hcr, hrc⟩ := hr; rw [hlen] at hcr hrc ⊢; have HR : Hid (Holds w1 (.slice pr len cr) r) := ⟨pr, cr, by rw [hlen], by rw [hlen]; exact hcr, by rw [hlen]; exact hrc⟩; clear hq hb1 hcr hrc) | (go_at_call 121; refine (CN.out _ _ HQ.out).mono ?_; rintro e w2 ⟨rfl, hb2⟩; have HB2 := Lib.hid hb2; clear hb2))
  go_ret2
  exact ⟨rfl, kcb HB1.out HB2.out⟩

set_option maxRecDepth 100000 in
set_option maxHeartbeats 1000000 in
theorem rounded_1mr (N D q r len : Nat) (Q : Int) (va vb : Value) (w : World) (hN : Hid (Holds w va N)) (hD : Hid (Holds w vb D)) (Hlr : Hid ((parts r).length ≤ 400)) (HlD : Hid ((parts D).length ≤ 100)) (hlen : (parts r).length = len) (hQ : (q : Int) = Q) (Q1 : Q < 1152921504606846976) (hr0 : ¬ r = 0)
    (CV : Hid (Calls Tryz.prog 120 #[va, vb] w fun e w' => ∃ v v', e = .returned (.tuple #[v, v']) ∧ Holds w' v q ∧ Holds w' v' r ∧ Below w.heap.size w w'))
    (CN : Hid (∀ W v, Holds W v q → Calls Tryz.prog 121 #[v] W fun e w' => e = .returned (.tuple #[.int .i64 Q, .bool true]) ∧ Below W.heap.size W w')) :
    Calls Tryz.prog 52 #[va, vb, .bool true, .int .i64 1] w fun e w' => e = .returned (.tuple #[.int .i64 (-(Q + 1)), .bool true]) ∧ Below w.heap.size w w' := by
  have hQ0 : 0 ≤ Q := by omega
  have hl1 : (0 : Int) < (len : Int) := by
    have := parts_len0 r
    omega
  have HQQ := Lib.hid hQ
  clear hQ hr0 
  go_enter Tryz.func52, Tryz.ntmps52
  go_wp2_with (first | (go_at_call 120; refine (CV.out).mono ?_; rintro e w1 ⟨vq, vr, rfl, hq, hr, hb1⟩; have HQ := Lib.hid hq; have HB1 := Lib.hid hb1; obtain ⟨pr, cr, rfl, hcr, hrc⟩ := hr; rw [hlen] at hcr hrc ⊢; have HR : Hid (Holds w1 (.slice pr len cr) r) := ⟨pr, cr, by rw [hlen], by rw [hlen]; exact hcr, by rw [hlen]; exact hrc⟩; clear hq hb1 hcr hrc) | (go_at_call 121; refine (CN.out _ _ HQ.out).mono ?_; rintro e w2 ⟨rfl, hb2⟩; have HB2 := Lib.hid hb2; clear hb2))
  go_ret2
  exact ⟨rfl, kcb HB1.out HB2.out⟩

set_option maxRecDepth 100000 in
set_option maxHeartbeats 1000000 in
theorem rounded_1pz (N D q r len : Nat) (Q : Int) (va vb : Value) (w : World) (hN : Hid (Holds w va N)) (hD : Hid (Holds w vb D)) (Hlr : Hid ((parts r).length ≤ 400)) (HlD : Hid ((parts D).length ≤ 100)) (hlen : (parts r).length = len) (hQ : (q : Int) = Q) (Q1 : Q < 1152921504606846976) (hr0 : r = 0)
    (CV : Hid (Calls Tryz.prog 120 #[va, vb] w fun e w' => ∃ v v', e = .returned (.tuple #[v, v']) ∧ Holds w' v q ∧ Holds w' v' r ∧ Below w.heap.size w w'))
    (CN : Hid (∀ W v, Holds W v q → Calls Tryz.prog 121 #[v] W fun e w' => e = .returned (.tuple #[.int .i64 Q, .bool true]) ∧ Below W.heap.size W w')) :
    Calls Tryz.prog 52 #[va, vb, .bool false, .int .i64 1] w fun e w' => e = .returned (.tuple #[.int .i64 (Q), .bool true]) ∧ Below w.heap.size w w' := by
  have hQ0 : 0 ≤ Q := by omega
  have hl1 : (len : Int) ≤ 0 := by
    have := parts_len0 r
    omega
  have HQQ := Lib.hid hQ
  clear hQ hr0 
  go_enter Tryz.func52, Tryz.ntmps52
  go_wp2_with (first | (go_at_call 120; refine (CV.out).mono ?_; rintro e w1 ⟨vq, vr, rfl, hq, hr, hb1⟩; have HQ := Lib.hid hq; have HB1 := Lib.hid hb1; obtain ⟨pr, cr, rfl, hcr, hrc⟩ := hr; rw [hlen] at hcr hrc ⊢; have HR : Hid (Holds w1 (.slice pr len cr) r) := ⟨pr, cr, by rw [hlen], by rw [hlen]; exact hcr, by rw [hlen]; exact hrc⟩; clear hq hb1 hcr hrc) | (go_at_call 121; refine (CN.out _ _ HQ.out).mono ?_; rintro e w2 ⟨rfl, hb2⟩; have HB2 := Lib.hid hb2; clear hb2))
  go_ret2
  exact ⟨rfl, kcb HB1.out HB2.out⟩

set_option maxRecDepth 100000 in
set_option maxHeartbeats 1000000 in
theorem rounded_1pr (N D q r len : Nat) (Q : Int) (va vb : Value) (w : World) (hN : Hid (Holds w va N)) (hD : Hid (Holds w vb D)) (Hlr : Hid ((parts r).length ≤ 400)) (HlD : Hid ((parts D).length ≤ 100)) (hlen : (parts r).length = len) (hQ : (q : Int) = Q) (Q1 : Q < 1152921504606846976) (hr0 : ¬ r = 0)
    (CV : Hid (Calls Tryz.prog 120 #[va, vb] w fun e w' => ∃ v v', e = .returned (.tuple #[v, v']) ∧ Holds w' v q ∧ Holds w' v' r ∧ Below w.heap.size w w'))
    (CN : Hid (∀ W v, Holds W v q → Calls Tryz.prog 121 #[v] W fun e w' => e = .returned (.tuple #[.int .i64 Q, .bool true]) ∧ Below W.heap.size W w')) :
    Calls Tryz.prog 52 #[va, vb, .bool false, .int .i64 1] w fun e w' => e = .returned (.tuple #[.int .i64 (Q), .bool true]) ∧ Below w.heap.size w w' := by
  have hQ0 : 0 ≤ Q := by omega
  have hl1 : (0 : Int) < (len : Int) := by
    have := parts_len0 r
    omega
  have HQQ := Lib.hid hQ
  clear hQ hr0 
  go_enter Tryz.func52, Tryz.ntmps52
  go_wp2_with (first | (go_at_call 120; refine (CV.out).mono ?_; rintro e w1 ⟨vq, vr, rfl, hq, hr, hb1⟩; have HQ := Lib.hid hq; have HB1 := Lib.hid hb1; obtain ⟨pr, cr, rfl, hcr, hrc⟩ := hr; rw [hlen] at hcr hrc ⊢; have HR : Hid (Holds w1 (.slice pr len cr) r) := ⟨pr, cr, by rw [hlen], by rw [hlen]; exact hcr, by rw [hlen]; exact hrc⟩; clear hq hb1 hcr hrc) | (go_at_call 121; refine (CN.out _ _ HQ.out).mono ?_; rintro e w2 ⟨rfl, hb2⟩; have HB2 := Lib.hid hb2; clear hb2))
  go_ret2
  exact ⟨rfl, kcb HB1.out HB2.out⟩

set_option maxRecDepth 100000 in
set_option maxHeartbeats 1000000 in
theorem rounded_2mz (N D q r len : Nat) (Q : Int) (va vb : Value) (w : World) (hN : Hid (Holds w va N)) (hD : Hid (Holds w vb D)) (Hlr : Hid ((parts r).length ≤ 400)) (HlD : Hid ((parts D).length ≤ 100)) (hlen : (parts r).length = len) (hQ : (q : Int) = Q) (Q1 : Q < 1152921504606846976) (hr0 : r = 0)
    (CV : Hid (Calls Tryz.prog 120 #[va, vb] w fun e w' => ∃ v v', e = .returned (.tuple #[v, v']) ∧ Holds w' v q ∧ Holds w' v' r ∧ Below w.heap.size w w'))
    (CN : Hid (∀ W v, Holds W v q → Calls Tryz.prog 121 #[v] W fun e w' => e = .returned (.tuple #[.int .i64 Q, .bool true]) ∧ Below W.heap.size W w')) :
    Calls Tryz.prog 52 #[va, vb, .bool true, .int .i64 2] w fun e w' => e = .returned (.tuple #[.int .i64 (-(Q)), .bool true]) ∧ Below w.heap.size w w' := by
  have hQ0 : 0 ≤ Q := by omega
  have hl1 : (len : Int) ≤ 0 := by
    have := parts_len0 r
    omega
  have HQQ := Lib.hid hQ
  clear hQ hr0 
  go_enter Tryz.func52, Tryz.ntmps52
  go_wp2_with (first | (go_at_call 120; refine (CV.out).mono ?_; rintro e w1 ⟨vq, vr, rfl, hq, hr, hb1⟩; have HQ := Lib.hid hq; have HB1 := Lib.hid hb1; obtain ⟨pr, cr, rfl, hcr, hrc⟩ := hr; rw [hlen] at hcr hrc ⊢; have HR : Hid (Holds w1 (.slice pr len cr) r) := ⟨pr, cr, by rw [hlen], by rw [hlen]; exact hcr, by rw [hlen]; exact hrc⟩; clear hq hb1 hcr hrc) | (go_at_call 121; refine (CN.out _ _ HQ.out).mono ?_; rintro e w2 ⟨rfl, hb2⟩; have HB2 := Lib.hid hb2; clear hb2))
  go_ret2
  exact ⟨rfl, kcb HB1.out HB2.out⟩

set_option maxRecDepth 100000 in
set_option maxHeartbeats 1000000 in
theorem rounded_2mr (N D q r len : Nat) (Q : Int) (va vb : Value) (w : World) (hN : Hid (Holds w va N)) (hD : Hid (Holds w vb D)) (Hlr : Hid ((parts r).length ≤ 400)) (HlD : Hid ((parts D).length ≤ 100)) (hlen : (parts r).length = len) (hQ : (q : Int) = Q) (Q1 : Q < 1152921504606846976) (hr0 : ¬ r = 0)
    (CV : Hid (Calls Tryz.prog 120 #[va, vb] w fun e w' => ∃ v v', e = .returned (.tuple #[v, v']) ∧ Holds w' v q ∧ Holds w' v' r ∧ Below w.heap.size w w'))
    (CN : Hid (∀ W v, Holds W v q → Calls Tryz.prog 121 #[v] W fun e w' => e = .returned (.tuple #[.int .i64 Q, .bool true]) ∧ Below W.heap.size W w')) :
    Calls Tryz.prog 52 #[va, vb, .bool true, .int .i64 2] w fun e w' => e = .returned (.tuple #[.int .i64 (-(Q)), .bool true]) ∧ Below w.heap.size w w' := by
  have hQ0 : 0 ≤ Q := by omega
  have hl1 : (0 : Int) < (len : Int) := by
    have := parts_len0 r
    omega
  have HQQ := Lib.hid hQ
  clear hQ hr0 
  go_enter Tryz.func52, Tryz.ntmps52
  go_wp2_with (first | (go_at_call 120; refine (CV.out).mono ?_; rintro e w1 ⟨vq, vr, rfl, hq, hr, hb1⟩; have HQ := Lib.hid hq; have HB1 := Lib.hid hb1; obtain ⟨pr, cr, rfl, hcr, hrc⟩ := hr; rw [hlen] at hcr hrc ⊢; have HR : Hid (Holds w1 (.slice pr len cr) r) := ⟨pr, cr, by rw [hlen], by rw [hlen]; exact hcr, by rw [hlen]; exact hrc⟩; clear hq hb1 hcr hrc) | (go_at_call 121; refine (CN.out _ _ HQ.out).mono ?_; rintro e w2 ⟨rfl, hb2⟩; have HB2 := Lib.hid hb2; clear hb2))
  go_ret2
  exact ⟨rfl, kcb HB1.out HB2.out⟩

set_option maxRecDepth 100000 in
set_option maxHeartbeats 1000000 in
theorem rounded_2pz (N D q r len : Nat) (Q : Int) (va vb : Value) (w : World) (hN : Hid (Holds w va N)) (hD : Hid (Holds w vb D)) (Hlr : Hid ((parts r).length ≤ 400)) (HlD : Hid ((parts D).length ≤ 100)) (hlen : (parts r).length = len) (hQ : (q : Int) = Q) (Q1 : Q < 1152921504606846976) (hr0 : r = 0)
    (CV : Hid (Calls Tryz.prog 120 #[va, vb] w fun e w' => ∃ v v', e = .returned (.tuple #[v, v']) ∧ Holds w' v q ∧ Holds w' v' r ∧ Below w.heap.size w w'))
    (CN : Hid (∀ W v, Holds W v q → Calls Tryz.prog 121 #[v] W fun e w' => e = .returned (.tuple #[.int .i64 Q, .bool true]) ∧ Below W.heap.size W w')) :
    Calls Tryz.prog 52 #[va, vb, .bool false, .int .i64 2] w fun e w' => e = .returned (.tuple #[.int .i64 (Q), .bool true]) ∧ Below w.heap.size w w' := by
  have hQ0 : 0 ≤ Q := by omega
  have hl1 : (len : Int) ≤ 0 := by
    have := parts_len0 r
    omega
  have HQQ := Lib.hid hQ
  clear hQ hr0 
  go_enter Tryz.func52, Tryz.ntmps52
  go_wp2_with (first | (go_at_call 120; refine (CV.out).mono ?_; rintro e w1 ⟨vq, vr, rfl, hq, hr, hb1⟩; have HQ := Lib.hid hq; have HB1 := Lib.hid hb1; obtain ⟨pr, cr, rfl, hcr, hrc⟩ := hr; rw [hlen] at hcr hrc ⊢; have HR : Hid (Holds w1 (.slice pr len cr) r) := ⟨pr, cr, by rw [hlen], by rw [hlen]; exact hcr, by rw [hlen]; exact hrc⟩; clear hq hb1 hcr hrc) | (go_at_call 121; refine (CN.out _ _ HQ.out).mono ?_; rintro e w2 ⟨rfl, hb2⟩; have HB2 := Lib.hid hb2; clear hb2))
  go_ret2
  exact ⟨rfl, kcb HB1.out HB2.out⟩

set_option maxRecDepth 100000 in
set_option maxHeartbeats 1000000 in
theorem rounded_2pr (N D q r len : Nat) (Q : Int) (va vb : Value) (w : World) (hN : Hid (Holds w va N)) (hD : Hid (Holds w vb D)) (Hlr : Hid ((parts r).length ≤ 400)) (HlD : Hid ((parts D).length ≤ 100)) (hlen : (parts r).length = len) (hQ : (q : Int) = Q) (Q1 : Q < 1152921504606846976) (hr0 : ¬ r = 0)
    (CV : Hid (Calls Tryz.prog 120 #[va, vb] w fun e w' => ∃ v v', e = .returned (.tuple #[v, v']) ∧ Holds w' v q ∧ Holds w' v' r ∧ Below w.heap.size w w'))
    (CN : Hid (∀ W v, Holds W v q → Calls Tryz.prog 121 #[v] W fun e w' => e = .returned (.tuple #[.int .i64 Q, .bool true]) ∧ Below W.heap.size W w')) :
    Calls Tryz.prog 52 #[va, vb, .bool false, .int .i64 2] w fun e w' => e = .returned (.tuple #[.int .i64 (Q + 1), .bool true]) ∧ Below w.heap.size w w' := by
  have hQ0 : 0 ≤ Q := by omega
  have hl1 : (0 : Int) < (len : Int) := by
    have := parts_len0 r
    omega
  have HQQ := Lib.hid hQ
  clear hQ hr0 
  go_enter Tryz.func52, Tryz.ntmps52
  go_wp2_with (first | (go_at_call 120; refine (CV.out).mono ?_; rintro e w1 ⟨vq, vr, rfl, hq, hr, hb1⟩; have HQ := Lib.hid hq; have HB1 := Lib.hid hb1; obtain ⟨pr, cr, rfl, hcr, hrc⟩ := hr; rw [hlen] at hcr hrc ⊢; have HR : Hid (Holds w1 (.slice pr len cr) r) := ⟨pr, cr, by rw [hlen], by rw [hlen]; exact hcr, by rw [hlen]; exact hrc⟩; clear hq hb1 hcr hrc) | (go_at_call 121; refine (CN.out _ _ HQ.out).mono ?_; rintro e w2 ⟨rfl, hb2⟩; have HB2 := Lib.hid hb2; clear hb2))
  go_ret2
  exact ⟨rfl, kcb HB1.out HB2.out⟩

set_option maxRecDepth 100000 in
set_option maxHeartbeats 1000000 in
theorem rounded_3mzl (N D q r len : Nat) (Q : Int) (va vb : Value) (w : World) (hN : Hid (Holds w va N)) (hD : Hid (Holds w vb D)) (Hlr : Hid ((parts r).length ≤ 400)) (HlD : Hid ((parts D).length ≤ 100)) (hlen : (parts r).length = len) (hQ : (q : Int) = Q) (Q1 : Q < 1152921504606846976) (hr0 : r = 0) (hge : ¬ D ≤ 2 * r)
    (CV : Hid (Calls Tryz.prog 120 #[va, vb] w fun e w' => ∃ v v', e = .returned (.tuple #[v, v']) ∧ Holds w' v q ∧ Holds w' v' r ∧ Below w.heap.size w w'))
    (CN : Hid (∀ W v, Holds W v q → Calls Tryz.prog 121 #[v] W fun e w' => e = .returned (.tuple #[.int .i64 Q, .bool true]) ∧ Below W.heap.size W w')) :
    Calls Tryz.prog 52 #[va, vb, .bool true, .int .i64 3] w fun e w' => e = .returned (.tuple #[.int .i64 (-(Q)), .bool true]) ∧ Below w.heap.size w w' := by
  have hQ0 : 0 ≤ Q := by omega
  have hl1 : (len : Int) ≤ 0 := by
    have := parts_len0 r
    omega
  have Hlrr : Hid ((parts (r + r)).length ≤ 1000) := by
    have h1 : r + r = r * 2 := by omega
    rw [h1]
    have h2 := parts_mul_len r 2
    have h3 : (parts 2).length ≤ 1 := parts_length 1 2 (by decide)
    have h4 := Hlr.out
    show _ ≤ _
    omega
  obtain ⟨o, ho⟩ : ∃ o, ordS (r + r) D = o := ⟨_, rfl⟩
  have hob : ¬ 0 ≤ o := by rw [← ho]; rw [ord_neg (by omega)]; decide
  have HO := Lib.hid ho
  clear ho
  have HQQ := Lib.hid hQ
  clear hQ hr0 hge
  go_enter Tryz.func52, Tryz.ntmps52
  go_wp2_with (first | (go_at_call 120; refine (CV.out).mono ?_; rintro e w1 ⟨vq, vr, rfl, hq, hr, hb1⟩; have HQ := Lib.hid hq; have HB1 := Lib.hid hb1; obtain ⟨pr, cr, rfl, hcr, hrc⟩ := hr; rw [hlen] at hcr hrc ⊢; have HR : Hid (Holds w1 (.slice pr len cr) r) := ⟨pr, cr, by rw [hlen], by rw [hlen]; exact hcr, by rw [hlen]; exact hrc⟩; clear hq hb1 hcr hrc) | (go_at_call 121; refine (CN.out _ _ HQ.out).mono ?_; rintro e w2 ⟨rfl, hb2⟩; have HB2 := Lib.hid hb2; clear hb2) | (go_at_call 48; refine (refPlus r r _ _ _ (HR.out.later HB2.out) (HR.out.later HB2.out) (by have := Hlr.out; omega) (by have := Hlr.out; omega)).mono ?_; rintro e w3 ⟨vp, rfl, hp, hb3⟩; have HP := Lib.hid hp; have HB3 := Lib.hid hb3; clear hp hb3) | (go_at_call 91; refine (order_any (r + r) D vp vb _ HP.out (hD.out.later (kcb (kcb HB1.out HB2.out) HB3.out)) Hlrr.out (by have := HlD.out; omega)).mono ?_; rintro e w4 ⟨rfl, hb4⟩; rw [HO.out]; have HB4 := Lib.hid hb4; clear hb4))
  go_ret2
  exact ⟨rfl, kcb (kcb (kcb HB1.out HB2.out) HB3.out) HB4.out⟩

set_option maxRecDepth 100000 in
set_option maxHeartbeats 1000000 in
theorem rounded_3mrg (N D q r len : Nat) (Q : Int) (va vb : Value) (w : World) (hN : Hid (Holds w va N)) (hD : Hid (Holds w vb D)) (Hlr : Hid ((parts r).length ≤ 400)) (HlD : Hid ((parts D).length ≤ 100)) (hlen : (parts r).length = len) (hQ : (q : Int) = Q) (Q1 : Q < 1152921504606846976) (hr0 : ¬ r = 0) (hge : D ≤ 2 * r)
    (CV : Hid (Calls Tryz.prog 120 #[va, vb] w fun e w' => ∃ v v', e = .returned (.tuple #[v, v']) ∧ Holds w' v q ∧ Holds w' v' r ∧ Below w.heap.size w w'))
    (CN : Hid (∀ W v, Holds W v q → Calls Tryz.prog 121 #[v] W fun e w' => e = .returned (.tuple #[.int .i64 Q, .bool true]) ∧ Below W.heap.size W w')) :
    Calls Tryz.prog 52 #[va, vb, .bool true, .int .i64 3] w fun e w' => e = .returned (.tuple #[.int .i64 (-(Q + 1)), .bool true]) ∧ Below w.heap.size w w' := by
  have hQ0 : 0 ≤ Q := by omega
  have hl1 : (0 : Int) < (len : Int) := by
    have := parts_len0 r
    omega
  have Hlrr : Hid ((parts (r + r)).length ≤ 1000) := by
    have h1 : r + r = r * 2 := by omega
    rw [h1]
    have h2 := parts_mul_len r 2
    have h3 : (parts 2).length ≤ 1 := parts_length 1 2 (by decide)
    have h4 := Hlr.out
    show _ ≤ _
    omega
  obtain ⟨o, ho⟩ : ∃ o, ordS (r + r) D = o := ⟨_, rfl⟩
  have hob : 0 ≤ o := by rw [← ho]; exact ord_nonneg (by omega)
  have HO := Lib.hid ho
  clear ho
  have HQQ := Lib.hid hQ
  clear hQ hr0 hge
  go_enter Tryz.func52, Tryz.ntmps52
  go_wp2_with (first | (go_at_call 120; refine (CV.out).mono ?_; rintro e w1 ⟨vq, vr, rfl, hq, hr, hb1⟩; have HQ := Lib.hid hq; have HB1 := Lib.hid hb1; obtain ⟨pr, cr, rfl, hcr, hrc⟩ := hr; rw [hlen] at hcr hrc ⊢; have HR : Hid (Holds w1 (.slice pr len cr) r) := ⟨pr, cr, by rw [hlen], by rw [hlen]; exact hcr, by rw [hlen]; exact hrc⟩; clear hq hb1 hcr hrc) | (go_at_call 121; refine (CN.out _ _ HQ.out).mono ?_; rintro e w2 ⟨rfl, hb2⟩; have HB2 := Lib.hid hb2; clear hb2) | (go_at_call 48; refine (refPlus r r _ _ _ (HR.out.later HB2.out) (HR.out.later HB2.out) (by have := Hlr.out; omega) (by have := Hlr.out; omega)).mono ?_; rintro e w3 ⟨vp, rfl, hp, hb3⟩; have HP := Lib.hid hp; have HB3 := Lib.hid hb3; clear hp hb3) | (go_at_call 91; refine (order_any (r + r) D vp vb _ HP.out (hD.out.later (kcb (kcb HB1.out HB2.out) HB3.out)) Hlrr.out (by have := HlD.out; omega)).mono ?_; rintro e w4 ⟨rfl, hb4⟩; rw [HO.out]; have HB4 := Lib.hid hb4; clear hb4))
  go_ret2
  exact ⟨rfl, kcb (kcb (kcb HB1.out HB2.out) HB3.out) HB4.out⟩

set_option maxRecDepth 100000 in
set_option maxHeartbeats 1000000 in
theorem rounded_3mrl (N D q r len : Nat) (Q : Int) (va vb : Value) (w : World) (hN : Hid (Holds w va N)) (hD : Hid (Holds w vb D)) (Hlr : Hid ((parts r).length ≤ 400)) (HlD : Hid ((parts D).length ≤ 100)) (hlen : (parts r).length = len) (hQ : (q : Int) = Q) (Q1 : Q < 1152921504606846976) (hr0 : ¬ r = 0) (hge : ¬ D ≤ 2 * r)
    (CV : Hid (Calls Tryz.prog 120 #[va, vb] w fun e w' => ∃ v v', e = .returned (.tuple #[v, v']) ∧ Holds w' v q ∧ Holds w' v' r ∧ Below w.heap.size w w'))
    (CN : Hid (∀ W v, Holds W v q → Calls Tryz.prog 121 #[v] W fun e w' => e = .returned (.tuple #[.int .i64 Q, .bool true]) ∧ Below W.heap.size W w')) :
    Calls Tryz.prog 52 #[va, vb, .bool true, .int .i64 3] w fun e w' => e = .returned (.tuple #[.int .i64 (-(Q)), .bool true]) ∧ Below w.heap.size w w' := by
  have hQ0 : 0 ≤ Q := by omega
  have hl1 : (0 : Int) < (len : Int) := by
    have := parts_len0 r
    omega
  have Hlrr : Hid ((parts (r + r)).length ≤ 1000) := by
    have h1 : r + r = r * 2 := by omega
    rw [h1]
    have h2 := parts_mul_len r 2
    have h3 : (parts 2).length ≤ 1 := parts_length 1 2 (by decide)
    have h4 := Hlr.out
    show _ ≤ _
    omega
  obtain ⟨o, ho⟩ : ∃ o, ordS (r + r) D = o := ⟨_, rfl⟩
  have hob : ¬ 0 ≤ o := by rw [← ho]; rw [ord_neg (by omega)]; decide
  have HO := Lib.hid ho
  clear ho
  have HQQ := Lib.hid hQ
  clear hQ hr0 hge
  go_enter Tryz.func52, Tryz.ntmps52
  go_wp2_with (first | (go_at_call 120; refine (CV.out).mono ?_; rintro e w1 ⟨vq, vr, rfl, hq, hr, hb1⟩; have HQ := Lib.hid hq; have HB1 := Lib.hid hb1; obtain ⟨pr, cr, rfl, hcr, hrc⟩ := hr; rw [hlen] at hcr hrc ⊢; have HR : Hid (Holds w1 (.slice pr len cr) r) := ⟨pr, cr, by rw [hlen], by rw [hlen]; exact hcr, by rw [hlen]; exact hrc⟩; clear hq hb1 hcr hrc) | (go_at_call 121; refine (CN.out _ _ HQ.out).mono ?_; rintro e w2 ⟨rfl, hb2⟩; have HB2 := Lib.hid hb2; clear hb2) | (go_at_call 48; refine (refPlus r r _ _ _ (HR.out.later HB2.out) (HR.out.later HB2.out) (by have := Hlr.out; omega) (by have := Hlr.out; omega)).mono ?_; rintro e w3 ⟨vp, rfl, hp, hb3⟩; have HP := Lib.hid hp; have HB3 := Lib.hid hb3; clear hp hb3) | (go_at_call 91; refine (order_any (r + r) D vp vb _ HP.out (hD.out.later (kcb (kcb HB1.out HB2.out) HB3.out)) Hlrr.out (by have := HlD.out; omega)).mono ?_; rintro e w4 ⟨rfl, hb4⟩; rw [HO.out]; have HB4 := Lib.hid hb4; clear hb4))
  go_ret2
  exact ⟨rfl, kcb (kcb (kcb HB1.out HB2.out) HB3.out) HB4.out⟩

set_option maxRecDepth 100000 in
set_option maxHeartbeats 1000000 in
theorem rounded_3pzl (N D q r len : Nat) (Q : Int) (va vb : Value) (w : World) (hN : Hid (Holds w va N)) (hD : Hid (Holds w vb D)) (Hlr : Hid ((parts r).length ≤ 400)) (HlD : Hid ((parts D).length ≤ 100)) (hlen : (parts r).length = len) (hQ : (q : Int) = Q) (Q1 : Q < 1152921504606846976) (hr0 : r = 0) (hge : ¬ D ≤ 2 * r)
    (CV : Hid (Calls Tryz.prog 120 #[va, vb] w fun e w' => ∃ v v', e = .returned (.tuple #[v, v']) ∧ Holds w' v q ∧ Holds w' v' r ∧ Below w.heap.size w w'))
    (CN : Hid (∀ W v, Holds W v q → Calls Tryz.prog 121 #[v] W fun e w' => e = .returned (.tuple #[.int .i64 Q, .bool true]) ∧ Below W.heap.size W w')) :
    Calls Tryz.prog 52 #[va, vb, .bool false, .int .i64 3] w fun e w' => e = .returned (.tuple #[.int .i64 (Q), .bool true]) ∧ Below w.heap.size w w' := by
  have hQ0 : 0 ≤ Q := by omega
  have hl1 : (len : Int) ≤ 0 := by
    have := parts_len0 r
    omega
  have Hlrr : Hid ((parts (r + r)).length ≤ 1000) := by
    have h1 : r + r = r * 2 := by omega
    rw [h1]
    have h2 := parts_mul_len r 2
    have h3 : (parts 2).length ≤ 1 := parts_length 1 2 (by decide)
    have h4 := Hlr.out
    show _ ≤ _
    omega
  obtain ⟨o, ho⟩ : ∃ o, ordS (r + r) D = o := ⟨_, rfl⟩
  have hob : ¬ 0 ≤ o := by rw [← ho]; rw [ord_neg (by omega)]; decide
  have HO := Lib.hid ho
  clear ho
  have HQQ := Lib.hid hQ
  clear hQ hr0 hge
  go_enter Tryz.func52, Tryz.ntmps52
  go_wp2_with (first | (go_at_call 120; refine (CV.out).mono ?_; rintro e w1 ⟨vq, vr, rfl, hq, hr, hb1⟩; have HQ := Lib.hid hq; have HB1 := Lib.hid hb1; obtain ⟨pr, cr, rfl, hcr, hrc⟩ := hr; rw [hlen] at hcr hrc ⊢; have HR : Hid (Holds w1 (.slice pr len cr) r) := ⟨pr, cr, by rw [hlen], by rw [hlen]; exact hcr, by rw [hlen]; exact hrc⟩; clear hq hb1 hcr hrc) | (go_at_call 121; refine (CN.out _ _ HQ.out).mono ?_; rintro e w2 ⟨rfl, hb2⟩; have HB2 := Lib.hid hb2; clear hb2) | (go_at_call 48; refine (refPlus r r _ _ _ (HR.out.later HB2.out) (HR.out.later HB2.out) (by have := Hlr.out; omega) (by have := Hlr.out; omega)).mono ?_; rintro e w3 ⟨vp, rfl, hp, hb3⟩; have HP := Lib.hid hp; have HB3 := Lib.hid hb3; clear hp hb3) | (go_at_call 91; refine (order_any (r + r) D vp vb _ HP.out (hD.out.later (kcb (kcb HB1.out HB2.out) HB3.out)) Hlrr.out (by have := HlD.out; omega)).mono ?_; rintro e w4 ⟨rfl, hb4⟩; rw [HO.out]; have HB4 := Lib.hid hb4; clear hb4))
  go_ret2
  exact ⟨rfl, kcb (kcb (kcb HB1.out HB2.out) HB3.out) HB4.out⟩

set_option maxRecDepth 100000 in
set_option maxHeartbeats 1000000 in
theorem rounded_3prg (N D q r len : Nat) (Q : Int) (va vb : Value) (w : World) (hN : Hid (Holds w va N)) (hD : Hid (Holds w vb D)) (Hlr : Hid ((parts r).length ≤ 400)) (HlD : Hid ((parts D).length ≤ 100)) (hlen : (parts r).length = len) (hQ : (q : Int) = Q) (Q1 : Q < 1152921504606846976) (hr0 : ¬ r = 0) (hge : D ≤ 2 * r)
    (CV : Hid (Calls Tryz.prog 120 #[va, vb] w fun e w' => ∃ v v', e = .returned (.tuple #[v, v']) ∧ Holds w' v q ∧ Holds w' v' r ∧ Below w.heap.size w w'))
    (CN : Hid (∀ W v, Holds W v q → Calls Tryz.prog 121 #[v] W fun e w' => e = .returned (.tuple #[.int .i64 Q, .bool true]) ∧ Below W.heap.size W w')) :
    Calls Tryz.prog 52 #[va, vb, .bool false, .int .i64 3] w fun e w' => e = .returned (.tuple #[.int .i64 (Q + 1), .bool true]) ∧ Below w.heap.size w w' := by
  have hQ0 : 0 ≤ Q := by omega
  have hl1 : (0 : Int) < (len : Int) := by
    have := parts_len0 r
    omega
  have Hlrr : Hid ((parts (r + r)).length ≤ 1000) := by
    have h1 : r + r = r * 2 := by omega
    rw [h1]
    have h2 := parts_mul_len r 2
    have h3 : (parts 2).length ≤ 1 := parts_length 1 2 (by decide)
    have h4 := Hlr.out
    show _ ≤ _
    omega
  obtain ⟨o, ho⟩ : ∃ o, ordS (r + r) D = o := ⟨_, rfl⟩
  have hob : 0 ≤ o := by rw [← ho]; exact ord_nonneg (by omega)
  have HO := Lib.hid ho
  clear ho
  have HQQ := Lib.hid hQ
  clear hQ hr0 hge
  go_enter Tryz.func52, Tryz.ntmps52
  go_wp2_with (first | (go_at_call 120; refine (CV.out).mono ?_; rintro e w1 ⟨vq, vr, rfl, hq, hr, hb1⟩; have HQ := Lib.hid hq; have HB1 := Lib.hid hb1; obtain ⟨pr, cr, rfl, hcr, hrc⟩ := hr; rw [hlen] at hcr hrc ⊢; have HR : Hid (Holds w1 (.slice pr len cr) r) := ⟨pr, cr, by rw [hlen], by rw [hlen]; exact hcr, by rw [hlen]; exact hrc⟩; clear hq hb1 hcr hrc) | (go_at_call 121; refine (CN.out _ _ HQ.out).mono ?_; rintro e w2 ⟨rfl, hb2⟩; have HB2 := Lib.hid hb2; clear hb2) | (go_at_call 48; refine (refPlus r r _ _ _ (HR.out.later HB2.out) (HR.out.later HB2.out) (by have := Hlr.out; omega) (by have := Hlr.out; omega)).mono ?_; rintro e w3 ⟨vp, rfl, hp, hb3⟩; have HP := Lib.hid hp; have HB3 := Lib.hid hb3; clear hp hb3) | (go_at_call 91; refine (order_any (r + r) D vp vb _ HP.out (hD.out.later (kcb (kcb HB1.out HB2.out) HB3.out)) Hlrr.out (by have := HlD.out; omega)).mono ?_; rintro e w4 ⟨rfl, hb4⟩; rw [HO.out]; have HB4 := Lib.hid hb4; clear hb4))
  go_ret2
  exact ⟨rfl, kcb (kcb (kcb HB1.out HB2.out) HB3.out) HB4.out⟩

set_option maxRecDepth 100000 in
set_option maxHeartbeats 1000000 in
theorem rounded_3prl (N D q r len : Nat) (Q : Int) (va vb : Value) (w : World) (hN : Hid (Holds w va N)) (hD : Hid (Holds w vb D)) (Hlr : Hid ((parts r).length ≤ 400)) (HlD : Hid ((parts D).length ≤ 100)) (hlen : (parts r).length = len) (hQ : (q : Int) = Q) (Q1 : Q < 1152921504606846976) (hr0 : ¬ r = 0) (hge : ¬ D ≤ 2 * r)
    (CV : Hid (Calls Tryz.prog 120 #[va, vb] w fun e w' => ∃ v v', e = .returned (.tuple #[v, v']) ∧ Holds w' v q ∧ Holds w' v' r ∧ Below w.heap.size w w'))
    (CN : Hid (∀ W v, Holds W v q → Calls Tryz.prog 121 #[v] W fun e w' => e = .returned (.tuple #[.int .i64 Q, .bool true]) ∧ Below W.heap.size W w')) :
    Calls Tryz.prog 52 #[va, vb, .bool false, .int .i64 3] w fun e w' => e = .returned (.tuple #[.int .i64 (Q), .bool true]) ∧ Below w.heap.size w w' := by
  have hQ0 : 0 ≤ Q := by omega
  have hl1 : (0 : Int) < (len : Int) := by
    have := parts_len0 r
    omega
  have Hlrr : Hid ((parts (r + r)).length ≤ 1000) := by
    have h1 : r + r = r * 2 := by omega
    rw [h1]
    have h2 := parts_mul_len r 2
    have h3 : (parts 2).length ≤ 1 := parts_length 1 2 (by decide)
    have h4 := Hlr.out
    show _ ≤ _
    omega
  obtain ⟨o, ho⟩ : ∃ o, ordS (r + r) D = o := ⟨_, rfl⟩
  have hob : ¬ 0 ≤ o := by rw [← ho]; rw [ord_neg (by omega)]; decide
  have HO := Lib.hid ho
  clear ho
  have HQQ := Lib.hid hQ
  clear hQ hr0 hge
  go_enter Tryz.func52, Tryz.ntmps52
  go_wp2_with (first | (go_at_call 120; refine (CV.out).mono ?_; rintro e w1 ⟨vq, vr, rfl, hq, hr, hb1⟩; have HQ := Lib.hid hq; have HB1 := Lib.hid hb1; obtain ⟨pr, cr, rfl, hcr, hrc⟩ := hr; rw [hlen] at hcr hrc ⊢; have HR : Hid (Holds w1 (.slice pr len cr) r) := ⟨pr, cr, by rw [hlen], by rw [hlen]; exact hcr, by rw [hlen]; exact hrc⟩; clear hq hb1 hcr hrc) | (go_at_call 121; refine (CN.out _ _ HQ.out).mono ?_; rintro e w2 ⟨rfl, hb2⟩; have HB2 := Lib.hid hb2; clear hb2) | (go_at_call 48; refine (refPlus r r _ _ _ (HR.out.later HB2.out) (HR.out.later HB2.out) (by have := Hlr.out; omega) (by have := Hlr.out; omega)).mono ?_; rintro e w3 ⟨vp, rfl, hp, hb3⟩; have HP := Lib.hid hp; have HB3 := Lib.hid hb3; clear hp hb3) | (go_at_call 91; refine (order_any (r + r) D vp vb _ HP.out (hD.out.later (kcb (kcb HB1.out HB2.out) HB3.out)) Hlrr.out (by have := HlD.out; omega)).mono ?_; rintro e w4 ⟨rfl, hb4⟩; rw [HO.out]; have HB4 := Lib.hid hb4; clear hb4))
  go_ret2
  exact ⟨rfl, kcb (kcb (kcb HB1.out HB2.out) HB3.out) HB4.out⟩

theorem refRounded (N D : Nat) (t : Bool) (how : Int) (va vb : Value) (w : World) (h0 : 0 ≤ how) (h1 : how ≤ 3) (hD0 : 0 < D) (hN : Holds w va N) (hD : Holds w vb D) (hlN : (parts N).length ≤ 100) (hlD : (parts D).length ≤ 100) (hq : (parts (N / D)).length ≤ 4) :
    Calls Tryz.prog 52 #[va, vb, .bool t, .int .i64 how] w fun e w' => e = .returned (.tuple #[.int .i64 (rndS how t N D), .bool true]) ∧ Below w.heap.size w w' := by
  have CV := Lib.hid (refOver N D va vb w hN hD hD0 hlN hlD)
  have CN := Lib.hid (fun W v h => number_small (N / D) v W h hq)
  have hN' := Lib.hid hN
  have hD' := Lib.hid hD
  have hlr : Hid ((parts (N % D)).length ≤ 400) := by
    have := parts_len_le (Nat.le_of_lt (Nat.mod_lt N hD0))
    show _ ≤ _
    omega
  have hlD' := Lib.hid hlD
  have hrD := Nat.mod_lt N hD0
  have hQ1 : ((N / D : Nat) : Int) < 1152921504606846976 := by
    have h1 := pv_lt (parts_fine (N / D))
    rw [pv_parts] at h1
    have h2 : 32768 ^ (parts (N / D)).length ≤ 32768 ^ 4 := Nat.pow_le_pow_right (by decide) hq
    have h3 : (32768 : Nat) ^ 4 = 1152921504606846976 := by decide
    omega
  unfold rndS
  obtain ⟨q, eq⟩ : ∃ q, N / D = q := ⟨_, rfl⟩
  obtain ⟨r, er⟩ : ∃ r, N % D = r := ⟨_, rfl⟩
  rw [eq] at CV CN hQ1 ⊢
  rw [er] at CV hlr hrD ⊢
  rcases how_cases h0 h1 with rfl | rfl | rfl | rfl
  · cases t
    · by_cases hr : r = 0
      · skip
        have hu : upB 0 false (r : Int) (D : Int) = false := by simp [upB]
        rw [hu]
        have h := rounded_0pz N D q r _ _ va vb w hN' hD' hlr hlD' rfl rfl hQ1 hr CV CN
        simpa using h
      · skip
        have hu : upB 0 false (r : Int) (D : Int) = false := by simp [upB]
        rw [hu]
        have h := rounded_0pr N D q r _ _ va vb w hN' hD' hlr hlD' rfl rfl hQ1 hr CV CN
        simpa using h
    · by_cases hr : r = 0
      · skip
        have hu : upB 0 true (r : Int) (D : Int) = false := by simp [upB]
        rw [hu]
        have h := rounded_0mz N D q r _ _ va vb w hN' hD' hlr hlD' rfl rfl hQ1 hr CV CN
        simpa using h
      · skip
        have hu : upB 0 true (r : Int) (D : Int) = false := by simp [upB]
        rw [hu]
        have h := rounded_0mr N D q r _ _ va vb w hN' hD' hlr hlD' rfl rfl hQ1 hr CV CN
        simpa using h
  · cases t
    · by_cases hr : r = 0
      · skip
        have hu : upB 1 false (r : Int) (D : Int) = false := by first | (simp [upB]; done) | (simp [upB]; omega)
        rw [hu]
        have h := rounded_1pz N D q r _ _ va vb w hN' hD' hlr hlD' rfl rfl hQ1 hr CV CN
        simpa using h
      · skip
        have hu : upB 1 false (r : Int) (D : Int) = false := by first | (simp [upB]; done) | (simp [upB]; omega)
        rw [hu]
        have h := rounded_1pr N D q r _ _ va vb w hN' hD' hlr hlD' rfl rfl hQ1 hr CV CN
        simpa using h
    · by_cases hr : r = 0
      · skip
        have hu : upB 1 true (r : Int) (D : Int) = false := by first | (simp [upB]; done) | (simp [upB]; omega)
        rw [hu]
        have h := rounded_1mz N D q r _ _ va vb w hN' hD' hlr hlD' rfl rfl hQ1 hr CV CN
        simpa using h
      · skip
        have hu : upB 1 true (r : Int) (D : Int) = true := by first | (simp [upB]; done) | (simp [upB]; omega)
        rw [hu]
        have h := rounded_1mr N D q r _ _ va vb w hN' hD' hlr hlD' rfl rfl hQ1 hr CV CN
        exact h
  · cases t
    · by_cases hr : r = 0
      · skip
        have hu : upB 2 false (r : Int) (D : Int) = false := by first | (simp [upB]; done) | (simp [upB]; omega)
        rw [hu]
        have h := rounded_2pz N D q r _ _ va vb w hN' hD' hlr hlD' rfl rfl hQ1 hr CV CN
        simpa using h
      · skip
        have hu : upB 2 false (r : Int) (D : Int) = true := by first | (simp [upB]; done) | (simp [upB]; omega)
        rw [hu]
        have h := rounded_2pr N D q r _ _ va vb w hN' hD' hlr hlD' rfl rfl hQ1 hr CV CN
        exact h
    · by_cases hr : r = 0
      · skip
        have hu : upB 2 true (r : Int) (D : Int) = false := by first | (simp [upB]; done) | (simp [upB]; omega)
        rw [hu]
        have h := rounded_2mz N D q r _ _ va vb w hN' hD' hlr hlD' rfl rfl hQ1 hr CV CN
        simpa using h
      · skip
        have hu : upB 2 true (r : Int) (D : Int) = false := by first | (simp [upB]; done) | (simp [upB]; omega)
        rw [hu]
        have h := rounded_2mr N D q r _ _ va vb w hN' hD' hlr hlD' rfl rfl hQ1 hr CV CN
        simpa using h
  · cases t
    · by_cases hr : r = 0
      · have hg : ¬ D ≤ 2 * r := by omega
        have hu : upB 3 false (r : Int) (D : Int) = false := by first | (simp [upB]; done) | (simp [upB]; omega)
        rw [hu]
        have h := rounded_3pzl N D q r _ _ va vb w hN' hD' hlr hlD' rfl rfl hQ1 hr hg CV CN
        simpa using h
      · by_cases hg : D ≤ 2 * r
        · skip
          have hu : upB 3 false (r : Int) (D : Int) = true := by first | (simp [upB]; done) | (simp [upB]; omega)
          rw [hu]
          have h := rounded_3prg N D q r _ _ va vb w hN' hD' hlr hlD' rfl rfl hQ1 hr hg CV CN
          exact h
        · skip
          have hu : upB 3 false (r : Int) (D : Int) = false := by first | (simp [upB]; done) | (simp [upB]; omega)
          rw [hu]
          have h := rounded_3prl N D q r _ _ va vb w hN' hD' hlr hlD' rfl rfl hQ1 hr hg CV CN
          simpa using h
    · by_cases hr : r = 0
      · have hg : ¬ D ≤ 2 * r := by omega
        have hu : upB 3 true (r : Int) (D : Int) = false := by first | (simp [upB]; done) | (simp [upB]; omega)
        rw [hu]
        have h := rounded_3mzl N D q r _ _ va vb w hN' hD' hlr hlD' rfl rfl hQ1 hr hg CV CN
        simpa using h
      · by_cases hg : D ≤ 2 * r
        · skip
          have hu : upB 3 true (r : Int) (D : Int) = true := by first | (simp [upB]; done) | (simp [upB]; omega)
          rw [hu]
          have h := rounded_3mrg N D q r _ _ va vb w hN' hD' hlr hlD' rfl rfl hQ1 hr hg CV CN
          exact h
        · skip
          have hu : upB 3 true (r : Int) (D : Int) = false := by first | (simp [upB]; done) | (simp [upB]; omega)
          rw [hu]
          have h := rounded_3mrl N D q r _ _ va vb w hN' hD' hlr hlD' rfl rfl hQ1 hr hg CV CN
          simpa using h

end Go.Proofs.YtebfhjndgfcijaaGreatDoor
