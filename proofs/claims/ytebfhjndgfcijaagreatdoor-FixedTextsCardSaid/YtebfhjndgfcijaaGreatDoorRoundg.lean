/- The document's own answers: rounded and fit, for every quotient; up. -/
import Derived.Test.YtebfhjndgfcijaaGreatDoorRefSum
namespace Go.Proofs.YtebfhjndgfcijaaGreatDoor
open Go Go.RowKit

set_option maxRecDepth 100000 in
set_option maxHeartbeats 1000000 in
theorem number_great (n : Nat) (v : Value) (w : World) (hv : Holds w v n) (hl : 4 < (parts n).length) :
    Calls Tryz.prog 121 #[v] w fun e w' => e = .returned (.tuple #[.int .i64 0, .bool false]) ∧ Below w.heap.size w w' := by
  obtain ⟨p, c, rfl, _, hx⟩ := hv
  obtain ⟨m, hm⟩ : ∃ m, (parts n).length = m := ⟨_, rfl⟩
  rw [hm] at hl ⊢
  have hl' : (4 : Int) < (m : Int) := by omega
  clear hx hm hl
  go_enter Tryz.func121, Tryz.ntmps121
  go_wp2
  go_ret2
  exact ⟨rfl, Below.refl _ _⟩

set_option maxRecDepth 100000 in
set_option maxHeartbeats 1000000 in
theorem roundg_0mz (N D q r len : Nat) (Q : Int) (va vb : Value) (w : World) (_hN : Hid (Holds w va N)) (_hD : Hid (Holds w vb D)) (_Hlr : Hid ((parts r).length ≤ 400)) (_HlD : Hid ((parts D).length ≤ 100)) (hlen : (parts r).length = len) (B : Bool) (_hQ0 : 0 ≤ Q) (_Q1 : Q < 1152921504606846976) (hr0 : r = 0)
    (CV : Hid (Calls Tryz.prog 120 #[va, vb] w fun e w' => ∃ v v', e = .returned (.tuple #[v, v']) ∧ Holds w' v q ∧ Holds w' v' r ∧ Below w.heap.size w w'))
    (CN : Hid (∀ W v, Holds W v q → Calls Tryz.prog 121 #[v] W fun e w' => e = .returned (.tuple #[.int .i64 Q, .bool B]) ∧ Below W.heap.size W w')) :
    Calls Tryz.prog 52 #[va, vb, .bool true, .int .i64 0] w fun e w' => e = .returned (.tuple #[.int .i64 (-(Q)), .bool B]) ∧ Below w.heap.size w w' := by
  have hl1 : (len : Int) ≤ 0 := by
    have := parts_len0 r
    omega
  clear hr0 
  go_enter Tryz.func52, Tryz.ntmps52
  go_wp2_with (first | (go_at_call 120; refine (CV.out).mono ?_; rintro e w1 ⟨vq, vr, rfl, hq, hr, hb1⟩; have HQ := Lib.hid hq; have HB1 := Lib.hid hb1; obtain ⟨pr, cr, rfl, hcr, hrc⟩ := hr; rw [hlen] at hcr hrc ⊢; have HR : Hid (Holds w1 (.slice pr len cr) r) := ⟨pr, cr, by rw [hlen], by rw [hlen]; exact hcr, by rw [hlen]; exact hrc⟩; clear hq hb1 hcr hrc) | (go_at_call 121; refine (CN.out _ _ HQ.out).mono ?_; rintro e w2 ⟨rfl, hb2⟩; have HB2 := Lib.hid hb2; clear hb2))
  go_ret2
  exact ⟨rfl, kcb HB1.out HB2.out⟩

set_option maxRecDepth 100000 in
set_option maxHeartbeats 1000000 in
theorem roundg_0mr (N D q r len : Nat) (Q : Int) (va vb : Value) (w : World) (_hN : Hid (Holds w va N)) (_hD : Hid (Holds w vb D)) (_Hlr : Hid ((parts r).length ≤ 400)) (_HlD : Hid ((parts D).length ≤ 100)) (hlen : (parts r).length = len) (B : Bool) (_hQ0 : 0 ≤ Q) (_Q1 : Q < 1152921504606846976) (hr0 : ¬ r = 0)
    (CV : Hid (Calls Tryz.prog 120 #[va, vb] w fun e w' => ∃ v v', e = .returned (.tuple #[v, v']) ∧ Holds w' v q ∧ Holds w' v' r ∧ Below w.heap.size w w'))
    (CN : Hid (∀ W v, Holds W v q → Calls Tryz.prog 121 #[v] W fun e w' => e = .returned (.tuple #[.int .i64 Q, .bool B]) ∧ Below W.heap.size W w')) :
    Calls Tryz.prog 52 #[va, vb, .bool true, .int .i64 0] w fun e w' => e = .returned (.tuple #[.int .i64 (-(Q)), .bool B]) ∧ Below w.heap.size w w' := by
  have hl1 : (0 : Int) < (len : Int) := by
    have := parts_len0 r
    omega
  clear hr0 
  go_enter Tryz.func52, Tryz.ntmps52
  go_wp2_with (first | (go_at_call 120; refine (CV.out).mono ?_; rintro e w1 ⟨vq, vr, rfl, hq, hr, hb1⟩; have HQ := Lib.hid hq; have HB1 := Lib.hid hb1; obtain ⟨pr, cr, rfl, hcr, hrc⟩ := hr; rw [hlen] at hcr hrc ⊢; have HR : Hid (Holds w1 (.slice pr len cr) r) := ⟨pr, cr, by rw [hlen], by rw [hlen]; exact hcr, by rw [hlen]; exact hrc⟩; clear hq hb1 hcr hrc) | (go_at_call 121; refine (CN.out _ _ HQ.out).mono ?_; rintro e w2 ⟨rfl, hb2⟩; have HB2 := Lib.hid hb2; clear hb2))
  go_ret2
  exact ⟨rfl, kcb HB1.out HB2.out⟩

set_option maxRecDepth 100000 in
set_option maxHeartbeats 1000000 in
theorem roundg_0pz (N D q r len : Nat) (Q : Int) (va vb : Value) (w : World) (_hN : Hid (Holds w va N)) (_hD : Hid (Holds w vb D)) (_Hlr : Hid ((parts r).length ≤ 400)) (_HlD : Hid ((parts D).length ≤ 100)) (hlen : (parts r).length = len) (B : Bool) (_hQ0 : 0 ≤ Q) (_Q1 : Q < 1152921504606846976) (hr0 : r = 0)
    (CV : Hid (Calls Tryz.prog 120 #[va, vb] w fun e w' => ∃ v v', e = .returned (.tuple #[v, v']) ∧ Holds w' v q ∧ Holds w' v' r ∧ Below w.heap.size w w'))
    (CN : Hid (∀ W v, Holds W v q → Calls Tryz.prog 121 #[v] W fun e w' => e = .returned (.tuple #[.int .i64 Q, .bool B]) ∧ Below W.heap.size W w')) :
    Calls Tryz.prog 52 #[va, vb, .bool false, .int .i64 0] w fun e w' => e = .returned (.tuple #[.int .i64 (Q), .bool B]) ∧ Below w.heap.size w w' := by
  have hl1 : (len : Int) ≤ 0 := by
    have := parts_len0 r
    omega
  clear hr0 
  go_enter Tryz.func52, Tryz.ntmps52
  go_wp2_with (first | (go_at_call 120; refine (CV.out).mono ?_; rintro e w1 ⟨vq, vr, rfl, hq, hr, hb1⟩; have HQ := Lib.hid hq; have HB1 := Lib.hid hb1; obtain ⟨pr, cr, rfl, hcr, hrc⟩ := hr; rw [hlen] at hcr hrc ⊢; have HR : Hid (Holds w1 (.slice pr len cr) r) := ⟨pr, cr, by rw [hlen], by rw [hlen]; exact hcr, by rw [hlen]; exact hrc⟩; clear hq hb1 hcr hrc) | (go_at_call 121; refine (CN.out _ _ HQ.out).mono ?_; rintro e w2 ⟨rfl, hb2⟩; have HB2 := Lib.hid hb2; clear hb2))
  go_ret2
  exact ⟨rfl, kcb HB1.out HB2.out⟩

set_option maxRecDepth 100000 in
set_option maxHeartbeats 1000000 in
theorem roundg_0pr (N D q r len : Nat) (Q : Int) (va vb : Value) (w : World) (_hN : Hid (Holds w va N)) (_hD : Hid (Holds w vb D)) (_Hlr : Hid ((parts r).length ≤ 400)) (_HlD : Hid ((parts D).length ≤ 100)) (hlen : (parts r).length = len) (B : Bool) (_hQ0 : 0 ≤ Q) (_Q1 : Q < 1152921504606846976) (hr0 : ¬ r = 0)
    (CV : Hid (Calls Tryz.prog 120 #[va, vb] w fun e w' => ∃ v v', e = .returned (.tuple #[v, v']) ∧ Holds w' v q ∧ Holds w' v' r ∧ Below w.heap.size w w'))
    (CN : Hid (∀ W v, Holds W v q → Calls Tryz.prog 121 #[v] W fun e w' => e = .returned (.tuple #[.int .i64 Q, .bool B]) ∧ Below W.heap.size W w')) :
    Calls Tryz.prog 52 #[va, vb, .bool false, .int .i64 0] w fun e w' => e = .returned (.tuple #[.int .i64 (Q), .bool B]) ∧ Below w.heap.size w w' := by
  have hl1 : (0 : Int) < (len : Int) := by
    have := parts_len0 r
    omega
  clear hr0 
  go_enter Tryz.func52, Tryz.ntmps52
  go_wp2_with (first | (go_at_call 120; refine (CV.out).mono ?_; rintro e w1 ⟨vq, vr, rfl, hq, hr, hb1⟩; have HQ := Lib.hid hq; have HB1 := Lib.hid hb1; obtain ⟨pr, cr, rfl, hcr, hrc⟩ := hr; rw [hlen] at hcr hrc ⊢; have HR : Hid (Holds w1 (.slice pr len cr) r) := ⟨pr, cr, by rw [hlen], by rw [hlen]; exact hcr, by rw [hlen]; exact hrc⟩; clear hq hb1 hcr hrc) | (go_at_call 121; refine (CN.out _ _ HQ.out).mono ?_; rintro e w2 ⟨rfl, hb2⟩; have HB2 := Lib.hid hb2; clear hb2))
  go_ret2
  exact ⟨rfl, kcb HB1.out HB2.out⟩

set_option maxRecDepth 100000 in
set_option maxHeartbeats 1000000 in
theorem roundg_1mz (N D q r len : Nat) (Q : Int) (va vb : Value) (w : World) (_hN : Hid (Holds w va N)) (_hD : Hid (Holds w vb D)) (_Hlr : Hid ((parts r).length ≤ 400)) (_HlD : Hid ((parts D).length ≤ 100)) (hlen : (parts r).length = len) (B : Bool) (_hQ0 : 0 ≤ Q) (_Q1 : Q < 1152921504606846976) (hr0 : r = 0)
    (CV : Hid (Calls Tryz.prog 120 #[va, vb] w fun e w' => ∃ v v', e = .returned (.tuple #[v, v']) ∧ Holds w' v q ∧ Holds w' v' r ∧ Below w.heap.size w w'))
    (CN : Hid (∀ W v, Holds W v q → Calls Tryz.prog 121 #[v] W fun e w' => e = .returned (.tuple #[.int .i64 Q, .bool B]) ∧ Below W.heap.size W w')) :
    Calls Tryz.prog 52 #[va, vb, .bool true, .int .i64 1] w fun e w' => e = .returned (.tuple #[.int .i64 (-(Q)), .bool B]) ∧ Below w.heap.size w w' := by
  have hl1 : (len : Int) ≤ 0 := by
    have := parts_len0 r
    omega
  clear hr0 
  go_enter Tryz.func52, Tryz.ntmps52
  go_wp2_with (first | (go_at_call 120; refine (CV.out).mono ?_; rintro e w1 ⟨vq, vr, rfl, hq, hr, hb1⟩; have HQ := Lib.hid hq; have HB1 := Lib.hid hb1; obtain ⟨pr, cr, rfl, hcr, hrc⟩ := hr; rw [hlen] at hcr hrc ⊢; have HR : Hid (Holds w1 (.slice pr len cr) r) := ⟨pr, cr, by rw [hlen], by rw [hlen]; exact hcr, by rw [hlen]; exact hrc⟩; clear hq hb1 hcr hrc) | (go_at_call 121; refine (CN.out _ _ HQ.out).mono ?_; rintro e w2 ⟨rfl, hb2⟩; have HB2 := Lib.hid hb2; clear hb2))
  go_ret2
  exact ⟨rfl, kcb HB1.out HB2.out⟩

set_option maxRecDepth 100000 in
set_option maxHeartbeats 1000000 in
theorem roundg_1mr (N D q r len : Nat) (Q : Int) (va vb : Value) (w : World) (_hN : Hid (Holds w va N)) (_hD : Hid (Holds w vb D)) (_Hlr : Hid ((parts r).length ≤ 400)) (_HlD : Hid ((parts D).length ≤ 100)) (hlen : (parts r).length = len) (B : Bool) (_hQ0 : 0 ≤ Q) (_Q1 : Q < 1152921504606846976) (hr0 : ¬ r = 0)
    (CV : Hid (Calls Tryz.prog 120 #[va, vb] w fun e w' => ∃ v v', e = .returned (.tuple #[v, v']) ∧ Holds w' v q ∧ Holds w' v' r ∧ Below w.heap.size w w'))
    (CN : Hid (∀ W v, Holds W v q → Calls Tryz.prog 121 #[v] W fun e w' => e = .returned (.tuple #[.int .i64 Q, .bool B]) ∧ Below W.heap.size W w')) :
    Calls Tryz.prog 52 #[va, vb, .bool true, .int .i64 1] w fun e w' => e = .returned (.tuple #[.int .i64 (-(Q + 1)), .bool B]) ∧ Below w.heap.size w w' := by
  have hl1 : (0 : Int) < (len : Int) := by
    have := parts_len0 r
    omega
  clear hr0 
  go_enter Tryz.func52, Tryz.ntmps52
  go_wp2_with (first | (go_at_call 120; refine (CV.out).mono ?_; rintro e w1 ⟨vq, vr, rfl, hq, hr, hb1⟩; have HQ := Lib.hid hq; have HB1 := Lib.hid hb1; obtain ⟨pr, cr, rfl, hcr, hrc⟩ := hr; rw [hlen] at hcr hrc ⊢; have HR : Hid (Holds w1 (.slice pr len cr) r) := ⟨pr, cr, by rw [hlen], by rw [hlen]; exact hcr, by rw [hlen]; exact hrc⟩; clear hq hb1 hcr hrc) | (go_at_call 121; refine (CN.out _ _ HQ.out).mono ?_; rintro e w2 ⟨rfl, hb2⟩; have HB2 := Lib.hid hb2; clear hb2))
  go_ret2
  exact ⟨rfl, kcb HB1.out HB2.out⟩

set_option maxRecDepth 100000 in
set_option maxHeartbeats 1000000 in
theorem roundg_1pz (N D q r len : Nat) (Q : Int) (va vb : Value) (w : World) (_hN : Hid (Holds w va N)) (_hD : Hid (Holds w vb D)) (_Hlr : Hid ((parts r).length ≤ 400)) (_HlD : Hid ((parts D).length ≤ 100)) (hlen : (parts r).length = len) (B : Bool) (_hQ0 : 0 ≤ Q) (_Q1 : Q < 1152921504606846976) (hr0 : r = 0)
    (CV : Hid (Calls Tryz.prog 120 #[va, vb] w fun e w' => ∃ v v', e = .returned (.tuple #[v, v']) ∧ Holds w' v q ∧ Holds w' v' r ∧ Below w.heap.size w w'))
    (CN : Hid (∀ W v, Holds W v q → Calls Tryz.prog 121 #[v] W fun e w' => e = .returned (.tuple #[.int .i64 Q, .bool B]) ∧ Below W.heap.size W w')) :
    Calls Tryz.prog 52 #[va, vb, .bool false, .int .i64 1] w fun e w' => e = .returned (.tuple #[.int .i64 (Q), .bool B]) ∧ Below w.heap.size w w' := by
  have hl1 : (len : Int) ≤ 0 := by
    have := parts_len0 r
    omega
  clear hr0 
  go_enter Tryz.func52, Tryz.ntmps52
  go_wp2_with (first | (go_at_call 120; refine (CV.out).mono ?_; rintro e w1 ⟨vq, vr, rfl, hq, hr, hb1⟩; have HQ := Lib.hid hq; have HB1 := Lib.hid hb1; obtain ⟨pr, cr, rfl, hcr, hrc⟩ := hr; rw [hlen] at hcr hrc ⊢; have HR : Hid (Holds w1 (.slice pr len cr) r) := ⟨pr, cr, by rw [hlen], by rw [hlen]; exact hcr, by rw [hlen]; exact hrc⟩; clear hq hb1 hcr hrc) | (go_at_call 121; refine (CN.out _ _ HQ.out).mono ?_; rintro e w2 ⟨rfl, hb2⟩; have HB2 := Lib.hid hb2; clear hb2))
  go_ret2
  exact ⟨rfl, kcb HB1.out HB2.out⟩

set_option maxRecDepth 100000 in
set_option maxHeartbeats 1000000 in
theorem roundg_1pr (N D q r len : Nat) (Q : Int) (va vb : Value) (w : World) (_hN : Hid (Holds w va N)) (_hD : Hid (Holds w vb D)) (_Hlr : Hid ((parts r).length ≤ 400)) (_HlD : Hid ((parts D).length ≤ 100)) (hlen : (parts r).length = len) (B : Bool) (_hQ0 : 0 ≤ Q) (_Q1 : Q < 1152921504606846976) (hr0 : ¬ r = 0)
    (CV : Hid (Calls Tryz.prog 120 #[va, vb] w fun e w' => ∃ v v', e = .returned (.tuple #[v, v']) ∧ Holds w' v q ∧ Holds w' v' r ∧ Below w.heap.size w w'))
    (CN : Hid (∀ W v, Holds W v q → Calls Tryz.prog 121 #[v] W fun e w' => e = .returned (.tuple #[.int .i64 Q, .bool B]) ∧ Below W.heap.size W w')) :
    Calls Tryz.prog 52 #[va, vb, .bool false, .int .i64 1] w fun e w' => e = .returned (.tuple #[.int .i64 (Q), .bool B]) ∧ Below w.heap.size w w' := by
  have hl1 : (0 : Int) < (len : Int) := by
    have := parts_len0 r
    omega
  clear hr0 
  go_enter Tryz.func52, Tryz.ntmps52
  go_wp2_with (first | (go_at_call 120; refine (CV.out).mono ?_; rintro e w1 ⟨vq, vr, rfl, hq, hr, hb1⟩; have HQ := Lib.hid hq; have HB1 := Lib.hid hb1; obtain ⟨pr, cr, rfl, hcr, hrc⟩ := hr; rw [hlen] at hcr hrc ⊢; have HR : Hid (Holds w1 (.slice pr len cr) r) := ⟨pr, cr, by rw [hlen], by rw [hlen]; exact hcr, by rw [hlen]; exact hrc⟩; clear hq hb1 hcr hrc) | (go_at_call 121; refine (CN.out _ _ HQ.out).mono ?_; rintro e w2 ⟨rfl, hb2⟩; have HB2 := Lib.hid hb2; clear hb2))
  go_ret2
  exact ⟨rfl, kcb HB1.out HB2.out⟩

set_option maxRecDepth 100000 in
set_option maxHeartbeats 1000000 in
theorem roundg_2mz (N D q r len : Nat) (Q : Int) (va vb : Value) (w : World) (_hN : Hid (Holds w va N)) (_hD : Hid (Holds w vb D)) (_Hlr : Hid ((parts r).length ≤ 400)) (_HlD : Hid ((parts D).length ≤ 100)) (hlen : (parts r).length = len) (B : Bool) (_hQ0 : 0 ≤ Q) (_Q1 : Q < 1152921504606846976) (hr0 : r = 0)
    (CV : Hid (Calls Tryz.prog 120 #[va, vb] w fun e w' => ∃ v v', e = .returned (.tuple #[v, v']) ∧ Holds w' v q ∧ Holds w' v' r ∧ Below w.heap.size w w'))
    (CN : Hid (∀ W v, Holds W v q → Calls Tryz.prog 121 #[v] W fun e w' => e = .returned (.tuple #[.int .i64 Q, .bool B]) ∧ Below W.heap.size W w')) :
    Calls Tryz.prog 52 #[va, vb, .bool true, .int .i64 2] w fun e w' => e = .returned (.tuple #[.int .i64 (-(Q)), .bool B]) ∧ Below w.heap.size w w' := by
  have hl1 : (len : Int) ≤ 0 := by
    have := parts_len0 r
    omega
  clear hr0 
  go_enter Tryz.func52, Tryz.ntmps52
  go_wp2_with (first | (go_at_call 120; refine (CV.out).mono ?_; rintro e w1 ⟨vq, vr, rfl, hq, hr, hb1⟩; have HQ := Lib.hid hq; have HB1 := Lib.hid hb1; obtain ⟨pr, cr, rfl, hcr, hrc⟩ := hr; rw [hlen] at hcr hrc ⊢; have HR : Hid (Holds w1 (.slice pr len cr) r) := ⟨pr, cr, by rw [hlen], by rw [hlen]; exact hcr, by rw [hlen]; exact hrc⟩; clear hq hb1 hcr hrc) | (go_at_call 121; refine (CN.out _ _ HQ.out).mono ?_; rintro e w2 ⟨rfl, hb2⟩; have HB2 := Lib.hid hb2; clear hb2))
  go_ret2
  exact ⟨rfl, kcb HB1.out HB2.out⟩

set_option maxRecDepth 100000 in
set_option maxHeartbeats 1000000 in
theorem roundg_2mr (N D q r len : Nat) (Q : Int) (va vb : Value) (w : World) (_hN : Hid (Holds w va N)) (_hD : Hid (Holds w vb D)) (_Hlr : Hid ((parts r).length ≤ 400)) (_HlD : Hid ((parts D).length ≤ 100)) (hlen : (parts r).length = len) (B : Bool) (_hQ0 : 0 ≤ Q) (_Q1 : Q < 1152921504606846976) (hr0 : ¬ r = 0)
    (CV : Hid (Calls Tryz.prog 120 #[va, vb] w fun e w' => ∃ v v', e = .returned (.tuple #[v, v']) ∧ Holds w' v q ∧ Holds w' v' r ∧ Below w.heap.size w w'))
    (CN : Hid (∀ W v, Holds W v q → Calls Tryz.prog 121 #[v] W fun e w' => e = .returned (.tuple #[.int .i64 Q, .bool B]) ∧ Below W.heap.size W w')) :
    Calls Tryz.prog 52 #[va, vb, .bool true, .int .i64 2] w fun e w' => e = .returned (.tuple #[.int .i64 (-(Q)), .bool B]) ∧ Below w.heap.size w w' := by
  have hl1 : (0 : Int) < (len : Int) := by
    have := parts_len0 r
    omega
  clear hr0 
  go_enter Tryz.func52, Tryz.ntmps52
  go_wp2_with (first | (go_at_call 120; refine (CV.out).mono ?_; rintro e w1 ⟨vq, vr, rfl, hq, hr, hb1⟩; have HQ := Lib.hid hq; have HB1 := Lib.hid hb1; obtain ⟨pr, cr, rfl, hcr, hrc⟩ := hr; rw [hlen] at hcr hrc ⊢; have HR : Hid (Holds w1 (.slice pr len cr) r) := ⟨pr, cr, by rw [hlen], by rw [hlen]; exact hcr, by rw [hlen]; exact hrc⟩; clear hq hb1 hcr hrc) | (go_at_call 121; refine (CN.out _ _ HQ.out).mono ?_; rintro e w2 ⟨rfl, hb2⟩; have HB2 := Lib.hid hb2; clear hb2))
  go_ret2
  exact ⟨rfl, kcb HB1.out HB2.out⟩

set_option maxRecDepth 100000 in
set_option maxHeartbeats 1000000 in
theorem roundg_2pz (N D q r len : Nat) (Q : Int) (va vb : Value) (w : World) (_hN : Hid (Holds w va N)) (_hD : Hid (Holds w vb D)) (_Hlr : Hid ((parts r).length ≤ 400)) (_HlD : Hid ((parts D).length ≤ 100)) (hlen : (parts r).length = len) (B : Bool) (_hQ0 : 0 ≤ Q) (_Q1 : Q < 1152921504606846976) (hr0 : r = 0)
    (CV : Hid (Calls Tryz.prog 120 #[va, vb] w fun e w' => ∃ v v', e = .returned (.tuple #[v, v']) ∧ Holds w' v q ∧ Holds w' v' r ∧ Below w.heap.size w w'))
    (CN : Hid (∀ W v, Holds W v q → Calls Tryz.prog 121 #[v] W fun e w' => e = .returned (.tuple #[.int .i64 Q, .bool B]) ∧ Below W.heap.size W w')) :
    Calls Tryz.prog 52 #[va, vb, .bool false, .int .i64 2] w fun e w' => e = .returned (.tuple #[.int .i64 (Q), .bool B]) ∧ Below w.heap.size w w' := by
  have hl1 : (len : Int) ≤ 0 := by
    have := parts_len0 r
    omega
  clear hr0 
  go_enter Tryz.func52, Tryz.ntmps52
  go_wp2_with (first | (go_at_call 120; refine (CV.out).mono ?_; rintro e w1 ⟨vq, vr, rfl, hq, hr, hb1⟩; have HQ := Lib.hid hq; have HB1 := Lib.hid hb1; obtain ⟨pr, cr, rfl, hcr, hrc⟩ := hr; rw [hlen] at hcr hrc ⊢; have HR : Hid (Holds w1 (.slice pr len cr) r) := ⟨pr, cr, by rw [hlen], by rw [hlen]; exact hcr, by rw [hlen]; exact hrc⟩; clear hq hb1 hcr hrc) | (go_at_call 121; refine (CN.out _ _ HQ.out).mono ?_; rintro e w2 ⟨rfl, hb2⟩; have HB2 := Lib.hid hb2; clear hb2))
  go_ret2
  exact ⟨rfl, kcb HB1.out HB2.out⟩

set_option maxRecDepth 100000 in
set_option maxHeartbeats 1000000 in
theorem roundg_2pr (N D q r len : Nat) (Q : Int) (va vb : Value) (w : World) (_hN : Hid (Holds w va N)) (_hD : Hid (Holds w vb D)) (_Hlr : Hid ((parts r).length ≤ 400)) (_HlD : Hid ((parts D).length ≤ 100)) (hlen : (parts r).length = len) (B : Bool) (_hQ0 : 0 ≤ Q) (_Q1 : Q < 1152921504606846976) (hr0 : ¬ r = 0)
    (CV : Hid (Calls Tryz.prog 120 #[va, vb] w fun e w' => ∃ v v', e = .returned (.tuple #[v, v']) ∧ Holds w' v q ∧ Holds w' v' r ∧ Below w.heap.size w w'))
    (CN : Hid (∀ W v, Holds W v q → Calls Tryz.prog 121 #[v] W fun e w' => e = .returned (.tuple #[.int .i64 Q, .bool B]) ∧ Below W.heap.size W w')) :
    Calls Tryz.prog 52 #[va, vb, .bool false, .int .i64 2] w fun e w' => e = .returned (.tuple #[.int .i64 (Q + 1), .bool B]) ∧ Below w.heap.size w w' := by
  have hl1 : (0 : Int) < (len : Int) := by
    have := parts_len0 r
    omega
  clear hr0 
  go_enter Tryz.func52, Tryz.ntmps52
  go_wp2_with (first | (go_at_call 120; refine (CV.out).mono ?_; rintro e w1 ⟨vq, vr, rfl, hq, hr, hb1⟩; have HQ := Lib.hid hq; have HB1 := Lib.hid hb1; obtain ⟨pr, cr, rfl, hcr, hrc⟩ := hr; rw [hlen] at hcr hrc ⊢; have HR : Hid (Holds w1 (.slice pr len cr) r) := ⟨pr, cr, by rw [hlen], by rw [hlen]; exact hcr, by rw [hlen]; exact hrc⟩; clear hq hb1 hcr hrc) | (go_at_call 121; refine (CN.out _ _ HQ.out).mono ?_; rintro e w2 ⟨rfl, hb2⟩; have HB2 := Lib.hid hb2; clear hb2))
  go_ret2
  exact ⟨rfl, kcb HB1.out HB2.out⟩

set_option maxRecDepth 100000 in
set_option maxHeartbeats 1000000 in
theorem roundg_3mzl (N D q r len : Nat) (Q : Int) (va vb : Value) (w : World) (_hN : Hid (Holds w va N)) (hD : Hid (Holds w vb D)) (Hlr : Hid ((parts r).length ≤ 400)) (HlD : Hid ((parts D).length ≤ 100)) (hlen : (parts r).length = len) (B : Bool) (_hQ0 : 0 ≤ Q) (_Q1 : Q < 1152921504606846976) (hr0 : r = 0) (hge : ¬ D ≤ 2 * r)
    (CV : Hid (Calls Tryz.prog 120 #[va, vb] w fun e w' => ∃ v v', e = .returned (.tuple #[v, v']) ∧ Holds w' v q ∧ Holds w' v' r ∧ Below w.heap.size w w'))
    (CN : Hid (∀ W v, Holds W v q → Calls Tryz.prog 121 #[v] W fun e w' => e = .returned (.tuple #[.int .i64 Q, .bool B]) ∧ Below W.heap.size W w')) :
    Calls Tryz.prog 52 #[va, vb, .bool true, .int .i64 3] w fun e w' => e = .returned (.tuple #[.int .i64 (-(Q)), .bool B]) ∧ Below w.heap.size w w' := by
  have hl1 : (len : Int) ≤ 0 := by
    have := parts_len0 r
    omega
  have Hlrr : Hid ((parts (r + r)).length ≤ 1000) := by
    have h1 : r + r = r * 2 := by omega
    rw [h1]
    have h2 := parts_mul_len r 2
    have h3 : (parts 2).length ≤ 1 := parts_length 1 2 (by decide)
    have h4 := Hlr.out
    show _ ≤ _
    omega
  obtain ⟨o, ho⟩ : ∃ o, ordS (r + r) D = o := ⟨_, rfl⟩
  have hob : ¬ 0 ≤ o := by rw [← ho]; rw [ord_neg (by omega)]; decide
  have HO := Lib.hid ho
  clear ho
  clear hr0 hge
  go_enter Tryz.func52, Tryz.ntmps52
  go_wp2_with (first | (go_at_call 120; refine (CV.out).mono ?_; rintro e w1 ⟨vq, vr, rfl, hq, hr, hb1⟩; have HQ := Lib.hid hq; have HB1 := Lib.hid hb1; obtain ⟨pr, cr, rfl, hcr, hrc⟩ := hr; rw [hlen] at hcr hrc ⊢; have HR : Hid (Holds w1 (.slice pr len cr) r) := ⟨pr, cr, by rw [hlen], by rw [hlen]; exact hcr, by rw [hlen]; exact hrc⟩; clear hq hb1 hcr hrc) | (go_at_call 121; refine (CN.out _ _ HQ.out).mono ?_; rintro e w2 ⟨rfl, hb2⟩; have HB2 := Lib.hid hb2; clear hb2) | (go_at_call 48; refine (refPlus r r _ _ _ (HR.out.later HB2.out) (HR.out.later HB2.out) (by have := Hlr.out; omega) (by have := Hlr.out; omega)).mono ?_; rintro e w3 ⟨vp, rfl, hp, hb3⟩; have HP := Lib.hid hp; have HB3 := Lib.hid hb3; clear hp hb3) | (go_at_call 91; refine (order_any (r + r) D vp vb _ HP.out (hD.out.later (kcb (kcb HB1.out HB2.out) HB3.out)) Hlrr.out (by have := HlD.out; omega)).mono ?_; rintro e w4 ⟨rfl, hb4⟩; rw [HO.out]; have HB4 := Lib.hid hb4; clear hb4))
  go_ret2
  exact ⟨rfl, kcb (kcb (kcb HB1.out HB2.out) HB3.out) HB4.out⟩

set_option maxRecDepth 100000 in
set_option maxHeartbeats 1000000 in
theorem roundg_3mrg (N D q r len : Nat) (Q : Int) (va vb : Value) (w : World) (_hN : Hid (Holds w va N)) (hD : Hid (Holds w vb D)) (Hlr : Hid ((parts r).length ≤ 400)) (HlD : Hid ((parts D).length ≤ 100)) (hlen : (parts r).length = len) (B : Bool) (_hQ0 : 0 ≤ Q) (_Q1 : Q < 1152921504606846976) (hr0 : ¬ r = 0) (hge : D ≤ 2 * r)
    (CV : Hid (Calls Tryz.prog 120 #[va, vb] w fun e w' => ∃ v v', e = .returned (.tuple #[v, v']) ∧ Holds w' v q ∧ Holds w' v' r ∧ Below w.heap.size w w'))
    (CN : Hid (∀ W v, Holds W v q → Calls Tryz.prog 121 #[v] W fun e w' => e = .returned (.tuple #[.int .i64 Q, .bool B]) ∧ Below W.heap.size W w')) :
    Calls Tryz.prog 52 #[va, vb, .bool true, .int .i64 3] w fun e w' => e = .returned (.tuple #[.int .i64 (-(Q + 1)), .bool B]) ∧ Below w.heap.size w w' := by
  have hl1 : (0 : Int) < (len : Int) := by
    have := parts_len0 r
    omega
  have Hlrr : Hid ((parts (r + r)).length ≤ 1000) := by
    have h1 : r + r = r * 2 := by omega
    rw [h1]
    have h2 := parts_mul_len r 2
    have h3 : (parts 2).length ≤ 1 := parts_length 1 2 (by decide)
    have h4 := Hlr.out
    show _ ≤ _
    omega
  obtain ⟨o, ho⟩ : ∃ o, ordS (r + r) D = o := ⟨_, rfl⟩
  have hob : 0 ≤ o := by rw [← ho]; exact ord_nonneg (by omega)
  have HO := Lib.hid ho
  clear ho
  clear hr0 hge
  go_enter Tryz.func52, Tryz.ntmps52
  go_wp2_with (first | (go_at_call 120; refine (CV.out).mono ?_; rintro e w1 ⟨vq, vr, rfl, hq, hr, hb1⟩; have HQ := Lib.hid hq; have HB1 := Lib.hid hb1; obtain ⟨pr, cr, rfl, hcr, hrc⟩ := hr; rw [hlen] at hcr hrc ⊢; have HR : Hid (Holds w1 (.slice pr len cr) r) := ⟨pr, cr, by rw [hlen], by rw [hlen]; exact hcr, by rw [hlen]; exact hrc⟩; clear hq hb1 hcr hrc) | (go_at_call 121; refine (CN.out _ _ HQ.out).mono ?_; rintro e w2 ⟨rfl, hb2⟩; have HB2 := Lib.hid hb2; clear hb2) | (go_at_call 48; refine (refPlus r r _ _ _ (HR.out.later HB2.out) (HR.out.later HB2.out) (by have := Hlr.out; omega) (by have := Hlr.out; omega)).mono ?_; rintro e w3 ⟨vp, rfl, hp, hb3⟩; have HP := Lib.hid hp; have HB3 := Lib.hid hb3; clear hp hb3) | (go_at_call 91; refine (order_any (r + r) D vp vb _ HP.out (hD.out.later (kcb (kcb HB1.out HB2.out) HB3.out)) Hlrr.out (by have := HlD.out; omega)).mono ?_; rintro e w4 ⟨rfl, hb4⟩; rw [HO.out]; have HB4 := Lib.hid hb4; clear hb4))
  go_ret2
  exact ⟨rfl, kcb (kcb (kcb HB1.out HB2.out) HB3.out) HB4.out⟩

set_option maxRecDepth 100000 in
set_option maxHeartbeats 1000000 in
theorem roundg_3mrl (N D q r len : Nat) (Q : Int) (va vb : Value) (w : World) (_hN : Hid (Holds w va N)) (hD : Hid (Holds w vb D)) (Hlr : Hid ((parts r).length ≤ 400)) (HlD : Hid ((parts D).length ≤ 100)) (hlen : (parts r).length = len) (B : Bool) (_hQ0 : 0 ≤ Q) (_Q1 : Q < 1152921504606846976) (hr0 : ¬ r = 0) (hge : ¬ D ≤ 2 * r)
    (CV : Hid (Calls Tryz.prog 120 #[va, vb] w fun e w' => ∃ v v', e = .returned (.tuple #[v, v']) ∧ Holds w' v q ∧ Holds w' v' r ∧ Below w.heap.size w w'))
    (CN : Hid (∀ W v, Holds W v q → Calls Tryz.prog 121 #[v] W fun e w' => e = .returned (.tuple #[.int .i64 Q, .bool B]) ∧ Below W.heap.size W w')) :
    Calls Tryz.prog 52 #[va, vb, .bool true, .int .i64 3] w fun e w' => e = .returned (.tuple #[.int .i64 (-(Q)), .bool B]) ∧ Below w.heap.size w w' := by
  have hl1 : (0 : Int) < (len : Int) := by
    have := parts_len0 r
    omega
  have Hlrr : Hid ((parts (r + r)).length ≤ 1000) := by
    have h1 : r + r = r * 2 := by omega
    rw [h1]
    have h2 := parts_mul_len r 2
    have h3 : (parts 2).length ≤ 1 := parts_length 1 2 (by decide)
    have h4 := Hlr.out
    show _ ≤ _
    omega
  obtain ⟨o, ho⟩ : ∃ o, ordS (r + r) D = o := ⟨_, rfl⟩
  have hob : ¬ 0 ≤ o := by rw [← ho]; rw [ord_neg (by omega)]; decide
  have HO := Lib.hid ho
  clear ho
  clear hr0 hge
  go_enter Tryz.func52, Tryz.ntmps52
  go_wp2_with (first | (go_at_call 120; refine (CV.out).mono ?_; rintro e w1 ⟨vq, vr, rfl, hq, hr, hb1⟩; have HQ := Lib.hid hq; have HB1 := Lib.hid hb1; obtain ⟨pr, cr, rfl, hcr, hrc⟩ := hr; rw [hlen] at hcr hrc ⊢; have HR : Hid (Holds w1 (.slice pr len cr) r) := ⟨pr, cr, by rw [hlen], by rw [hlen]; exact hcr, by rw [hlen]; exact hrc⟩; clear hq hb1 hcr hrc) | (go_at_call 121; refine (CN.out _ _ HQ.out).mono ?_; rintro e w2 ⟨rfl, hb2⟩; have HB2 := Lib.hid hb2; clear hb2) | (go_at_call 48; refine (refPlus r r _ _ _ (HR.out.later HB2.out) (HR.out.later HB2.out) (by have := Hlr.out; omega) (by have := Hlr.out; omega)).mono ?_; rintro e w3 ⟨vp, rfl, hp, hb3⟩; have HP := Lib.hid hp; have HB3 := Lib.hid hb3; clear hp hb3) | (go_at_call 91; refine (order_any (r + r) D vp vb _ HP.out (hD.out.later (kcb (kcb HB1.out HB2.out) HB3.out)) Hlrr.out (by have := HlD.out; omega)).mono ?_; rintro e w4 ⟨rfl, hb4⟩; rw [HO.out]; have HB4 := Lib.hid hb4; clear hb4))
  go_ret2
  exact ⟨rfl, kcb (kcb (kcb HB1.out HB2.out) HB3.out) HB4.out⟩

set_option maxRecDepth 100000 in
set_option maxHeartbeats 1000000 in
theorem roundg_3pzl (N D q r len : Nat) (Q : Int) (va vb : Value) (w : World) (_hN : Hid (Holds w va N)) (hD : Hid (Holds w vb D)) (Hlr : Hid ((parts r).length ≤ 400)) (HlD : Hid ((parts D).length ≤ 100)) (hlen : (parts r).length = len) (B : Bool) (_hQ0 : 0 ≤ Q) (_Q1 : Q < 1152921504606846976) (hr0 : r = 0) (hge : ¬ D ≤ 2 * r)
    (CV : Hid (Calls Tryz.prog 120 #[va, vb] w fun e w' => ∃ v v', e = .returned (.tuple #[v, v']) ∧ Holds w' v q ∧ Holds w' v' r ∧ Below w.heap.size w w'))
    (CN : Hid (∀ W v, Holds W v q → Calls Tryz.prog 121 #[v] W fun e w' => e = .returned (.tuple #[.int .i64 Q, .bool B]) ∧ Below W.heap.size W w')) :
    Calls Tryz.prog 52 #[va, vb, .bool false, .int .i64 3] w fun e w' => e = .returned (.tuple #[.int .i64 (Q), .bool B]) ∧ Below w.heap.size w w' := by
  have hl1 : (len : Int) ≤ 0 := by
    have := parts_len0 r
    omega
  have Hlrr : Hid ((parts (r + r)).length ≤ 1000) := by
    have h1 : r + r = r * 2 := by omega
    rw [h1]
    have h2 := parts_mul_len r 2
    have h3 : (parts 2).length ≤ 1 := parts_length 1 2 (by decide)
    have h4 := Hlr.out
    show _ ≤ _
    omega
  obtain ⟨o, ho⟩ : ∃ o, ordS (r + r) D = o := ⟨_, rfl⟩
  have hob : ¬ 0 ≤ o := by rw [← ho]; rw [ord_neg (by omega)]; decide
  have HO := Lib.hid ho
  clear ho
  clear hr0 hge
  go_enter Tryz.func52, Tryz.ntmps52
  go_wp2_with (first | (go_at_call 120; refine (CV.out).mono ?_; rintro e w1 ⟨vq, vr, rfl, hq, hr, hb1⟩; have HQ := Lib.hid hq; have HB1 := Lib.hid hb1; obtain ⟨pr, cr, rfl, hcr, hrc⟩ := hr; rw [hlen] at hcr hrc ⊢; have HR : Hid (Holds w1 (.slice pr len cr) r) := ⟨pr, cr, by rw [hlen], by rw [hlen]; exact hcr, by rw [hlen]; exact hrc⟩; clear hq hb1 hcr hrc) | (go_at_call 121; refine (CN.out _ _ HQ.out).mono ?_; rintro e w2 ⟨rfl, hb2⟩; have HB2 := Lib.hid hb2; clear hb2) | (go_at_call 48; refine (refPlus r r _ _ _ (HR.out.later HB2.out) (HR.out.later HB2.out) (by have := Hlr.out; omega) (by have := Hlr.out; omega)).mono ?_; rintro e w3 ⟨vp, rfl, hp, hb3⟩; have HP := Lib.hid hp; have HB3 := Lib.hid hb3; clear hp hb3) | (go_at_call 91; refine (order_any (r + r) D vp vb _ HP.out (hD.out.later (kcb (kcb HB1.out HB2.out) HB3.out)) Hlrr.out (by have := HlD.out; omega)).mono ?_; rintro e w4 ⟨rfl, hb4⟩; rw [HO.out]; have HB4 := Lib.hid hb4; clear hb4))
  go_ret2
  exact ⟨rfl, kcb (kcb (kcb HB1.out HB2.out) HB3.out) HB4.out⟩

set_option maxRecDepth 100000 in
set_option maxHeartbeats 1000000 in
theorem roundg_3prg (N D q r len : Nat) (Q : Int) (va vb : Value) (w : World) (_hN : Hid (Holds w va N)) (hD : Hid (Holds w vb D)) (Hlr : Hid ((parts r).length ≤ 400)) (HlD : Hid ((parts D).length ≤ 100)) (hlen : (parts r).length = len) (B : Bool) (_hQ0 : 0 ≤ Q) (_Q1 : Q < 1152921504606846976) (hr0 : ¬ r = 0) (hge : D ≤ 2 * r)
    (CV : Hid (Calls Tryz.prog 120 #[va, vb] w fun e w' => ∃ v v', e = .returned (.tuple #[v, v']) ∧ Holds w' v q ∧ Holds w' v' r ∧ Below w.heap.size w w'))
    (CN : Hid (∀ W v, Holds W v q → Calls Tryz.prog 121 #[v] W fun e w' => e = .returned (.tuple #[.int .i64 Q, .bool B]) ∧ Below W.heap.size W w')) :
    Calls Tryz.prog 52 #[va, vb, .bool false, .int .i64 3] w fun e w' => e = .returned (.tuple #[.int .i64 (Q + 1), .bool B]) ∧ Below w.heap.size w w' := by
  have hl1 : (0 : Int) < (len : Int) := by
    have := parts_len0 r
    omega
  have Hlrr : Hid ((parts (r + r)).length ≤ 1000) := by
    have h1 : r + r = r * 2 := by omega
    rw [h1]
    have h2 := parts_mul_len r 2
    have h3 : (parts 2).length ≤ 1 := parts_length 1 2 (by decide)
    have h4 := Hlr.out
    show _ ≤ _
    omega
  obtain ⟨o, ho⟩ : ∃ o, ordS (r + r) D = o := ⟨_, rfl⟩
  have hob : 0 ≤ o := by rw [← ho]; exact ord_nonneg (by omega)
  have HO := Lib.hid ho
  clear ho
  clear hr0 hge
  go_enter Tryz.func52, Tryz.ntmps52
  go_wp2_with (first | (go_at_call 120; refine (CV.out).mono ?_; rintro e w1 ⟨vq, vr, rfl, hq, hr, hb1⟩; have HQ := Lib.hid hq; have HB1 := Lib.hid hb1; obtain ⟨pr, cr, rfl, hcr, hrc⟩ := hr; rw [hlen] at hcr hrc ⊢; have HR : Hid (Holds w1 (.slice pr len cr) r) := ⟨pr, cr, by rw [hlen], by rw [hlen]; exact hcr, by rw [hlen]; exact hrc⟩; clear hq hb1 hcr hrc) | (go_at_call 121; refine (CN.out _ _ HQ.out).mono ?_; rintro e w2 ⟨rfl, hb2⟩; have HB2 := Lib.hid hb2; clear hb2) | (go_at_call 48; refine (refPlus r r _ _ _ (HR.out.later HB2.out) (HR.out.later HB2.out) (by have := Hlr.out; omega) (by have := Hlr.out; omega)).mono ?_; rintro e w3 ⟨vp, rfl, hp, hb3⟩; have HP := Lib.hid hp; have HB3 := Lib.hid hb3; clear hp hb3) | (go_at_call 91; refine (order_any (r + r) D vp vb _ HP.out (hD.out.later (kcb (kcb HB1.out HB2.out) HB3.out)) Hlrr.out (by have := HlD.out; omega)).mono ?_; rintro e w4 ⟨rfl, hb4⟩; rw [HO.out]; have HB4 := Lib.hid hb4; clear hb4))
  go_ret2
  exact ⟨rfl, kcb (kcb (kcb HB1.out HB2.out) HB3.out) HB4.out⟩

set_option maxRecDepth 100000 in
set_option maxHeartbeats 1000000 in
theorem roundg_3prl (N D q r len : Nat) (Q : Int) (va vb : Value) (w : World) (_hN : Hid (Holds w va N)) (hD : Hid (Holds w vb D)) (Hlr : Hid ((parts r).length ≤ 400)) (HlD : Hid ((parts D).length ≤ 100)) (hlen : (parts r).length = len) (B : Bool) (_hQ0 : 0 ≤ Q) (_Q1 : Q < 1152921504606846976) (hr0 : ¬ r = 0) (hge : ¬ D ≤ 2 * r)
    (CV : Hid (Calls Tryz.prog 120 #[va, vb] w fun e w' => ∃ v v', e = .returned (.tuple #[v, v']) ∧ Holds w' v q ∧ Holds w' v' r ∧ Below w.heap.size w w'))
    (CN : Hid (∀ W v, Holds W v q → Calls Tryz.prog 121 #[v] W fun e w' => e = .returned (.tuple #[.int .i64 Q, .bool B]) ∧ Below W.heap.size W w')) :
    Calls Tryz.prog 52 #[va, vb, .bool false, .int .i64 3] w fun e w' => e = .returned (.tuple #[.int .i64 (Q), .bool B]) ∧ Below w.heap.size w w' := by
  have hl1 : (0 : Int) < (len : Int) := by
    have := parts_len0 r
    omega
  have Hlrr : Hid ((parts (r + r)).length ≤ 1000) := by
    have h1 : r + r = r * 2 := by omega
    rw [h1]
    have h2 := parts_mul_len r 2
    have h3 : (parts 2).length ≤ 1 := parts_length 1 2 (by decide)
    have h4 := Hlr.out
    show _ ≤ _
    omega
  obtain ⟨o, ho⟩ : ∃ o, ordS (r + r) D = o := ⟨_, rfl⟩
  have hob : ¬ 0 ≤ o := by rw [← ho]; rw [ord_neg (by omega)]; decide
  have HO := Lib.hid ho
  clear ho
  clear hr0 hge
  go_enter Tryz.func52, Tryz.ntmps52
  go_wp2_with (first | (go_at_call 120; refine (CV.out).mono ?_; rintro e w1 ⟨vq, vr, rfl, hq, hr, hb1⟩; have HQ := Lib.hid hq; have HB1 := Lib.hid hb1; obtain ⟨pr, cr, rfl, hcr, hrc⟩ := hr; rw [hlen] at hcr hrc ⊢; have HR : Hid (Holds w1 (.slice pr len cr) r) := ⟨pr, cr, by rw [hlen], by rw [hlen]; exact hcr, by rw [hlen]; exact hrc⟩; clear hq hb1 hcr hrc) | (go_at_call 121; refine (CN.out _ _ HQ.out).mono ?_; rintro e w2 ⟨rfl, hb2⟩; have HB2 := Lib.hid hb2; clear hb2) | (go_at_call 48; refine (refPlus r r _ _ _ (HR.out.later HB2.out) (HR.out.later HB2.out) (by have := Hlr.out; omega) (by have := Hlr.out; omega)).mono ?_; rintro e w3 ⟨vp, rfl, hp, hb3⟩; have HP := Lib.hid hp; have HB3 := Lib.hid hb3; clear hp hb3) | (go_at_call 91; refine (order_any (r + r) D vp vb _ HP.out (hD.out.later (kcb (kcb HB1.out HB2.out) HB3.out)) Hlrr.out (by have := HlD.out; omega)).mono ?_; rintro e w4 ⟨rfl, hb4⟩; rw [HO.out]; have HB4 := Lib.hid hb4; clear hb4))
  go_ret2
  exact ⟨rfl, kcb (kcb (kcb HB1.out HB2.out) HB3.out) HB4.out⟩

theorem refRoundg (N D : Nat) (t : Bool) (how Q : Int) (B : Bool) (va vb : Value) (w : World) (h0 : 0 ≤ how) (h1 : how ≤ 3) (hD0 : 0 < D) (hN : Holds w va N) (hD : Holds w vb D) (hlN : (parts N).length ≤ 100) (hlD : (parts D).length ≤ 100)
    (hQ0 : 0 ≤ Q) (hQ1 : Q < 1152921504606846976) (CN : ∀ W v, Holds W v (N / D) → Calls Tryz.prog 121 #[v] W fun e w' => e = .returned (.tuple #[.int .i64 Q, .bool B]) ∧ Below W.heap.size W w') :
    Calls Tryz.prog 52 #[va, vb, .bool t, .int .i64 how] w fun e w' => (∃ z, e = .returned (.tuple #[.int .i64 z, .bool B])) ∧ Below w.heap.size w w' := by
  have CV := Lib.hid (refOver N D va vb w hN hD hD0 hlN hlD)
  have CN := Lib.hid CN
  have hN' := Lib.hid hN
  have hD' := Lib.hid hD
  have hlr : Hid ((parts (N % D)).length ≤ 400) := by
    have := parts_len_le (Nat.le_of_lt (Nat.mod_lt N hD0))
    show _ ≤ _
    omega
  have hlD' := Lib.hid hlD
  have hrD := Nat.mod_lt N hD0
  obtain ⟨q, eq⟩ : ∃ q, N / D = q := ⟨_, rfl⟩
  obtain ⟨r, er⟩ : ∃ r, N % D = r := ⟨_, rfl⟩
  rw [eq] at CV CN
  rw [er] at CV hlr hrD
  rcases how_cases h0 h1 with rfl | rfl | rfl | rfl
  · cases t
    · by_cases hr : r = 0
      · exact (roundg_0pz N D q r _ _ va vb w hN' hD' hlr hlD' rfl B hQ0 hQ1 hr CV CN).mono (fun e w' h => ⟨⟨_, h.1⟩, h.2⟩)
      · exact (roundg_0pr N D q r _ _ va vb w hN' hD' hlr hlD' rfl B hQ0 hQ1 hr CV CN).mono (fun e w' h => ⟨⟨_, h.1⟩, h.2⟩)
    · by_cases hr : r = 0
      · exact (roundg_0mz N D q r _ _ va vb w hN' hD' hlr hlD' rfl B hQ0 hQ1 hr CV CN).mono (fun e w' h => ⟨⟨_, h.1⟩, h.2⟩)
      · exact (roundg_0mr N D q r _ _ va vb w hN' hD' hlr hlD' rfl B hQ0 hQ1 hr CV CN).mono (fun e w' h => ⟨⟨_, h.1⟩, h.2⟩)
  · cases t
    · by_cases hr : r = 0
      · exact (roundg_1pz N D q r _ _ va vb w hN' hD' hlr hlD' rfl B hQ0 hQ1 hr CV CN).mono (fun e w' h => ⟨⟨_, h.1⟩, h.2⟩)
      · exact (roundg_1pr N D q r _ _ va vb w hN' hD' hlr hlD' rfl B hQ0 hQ1 hr CV CN).mono (fun e w' h => ⟨⟨_, h.1⟩, h.2⟩)
    · by_cases hr : r = 0
      · exact (roundg_1mz N D q r _ _ va vb w hN' hD' hlr hlD' rfl B hQ0 hQ1 hr CV CN).mono (fun e w' h => ⟨⟨_, h.1⟩, h.2⟩)
      · exact (roundg_1mr N D q r _ _ va vb w hN' hD' hlr hlD' rfl B hQ0 hQ1 hr CV CN).mono (fun e w' h => ⟨⟨_, h.1⟩, h.2⟩)
  · cases t
    · by_cases hr : r = 0
      · exact (roundg_2pz N D q r _ _ va vb w hN' hD' hlr hlD' rfl B hQ0 hQ1 hr CV CN).mono (fun e w' h => ⟨⟨_, h.1⟩, h.2⟩)
      · exact (roundg_2pr N D q r _ _ va vb w hN' hD' hlr hlD' rfl B hQ0 hQ1 hr CV CN).mono (fun e w' h => ⟨⟨_, h.1⟩, h.2⟩)
    · by_cases hr : r = 0
      · exact (roundg_2mz N D q r _ _ va vb w hN' hD' hlr hlD' rfl B hQ0 hQ1 hr CV CN).mono (fun e w' h => ⟨⟨_, h.1⟩, h.2⟩)
      · exact (roundg_2mr N D q r _ _ va vb w hN' hD' hlr hlD' rfl B hQ0 hQ1 hr CV CN).mono (fun e w' h => ⟨⟨_, h.1⟩, h.2⟩)
  · cases t
    · by_cases hr : r = 0
      · have hg : ¬ D ≤ 2 * r := by omega
        exact (roundg_3pzl N D q r _ _ va vb w hN' hD' hlr hlD' rfl B hQ0 hQ1 hr hg CV CN).mono (fun e w' h => ⟨⟨_, h.1⟩, h.2⟩)
      · by_cases hg : D ≤ 2 * r
        · exact (roundg_3prg N D q r _ _ va vb w hN' hD' hlr hlD' rfl B hQ0 hQ1 hr hg CV CN).mono (fun e w' h => ⟨⟨_, h.1⟩, h.2⟩)
        · exact (roundg_3prl N D q r _ _ va vb w hN' hD' hlr hlD' rfl B hQ0 hQ1 hr hg CV CN).mono (fun e w' h => ⟨⟨_, h.1⟩, h.2⟩)
    · by_cases hr : r = 0
      · have hg : ¬ D ≤ 2 * r := by omega
        exact (roundg_3mzl N D q r _ _ va vb w hN' hD' hlr hlD' rfl B hQ0 hQ1 hr hg CV CN).mono (fun e w' h => ⟨⟨_, h.1⟩, h.2⟩)
      · by_cases hg : D ≤ 2 * r
        · exact (roundg_3mrg N D q r _ _ va vb w hN' hD' hlr hlD' rfl B hQ0 hQ1 hr hg CV CN).mono (fun e w' h => ⟨⟨_, h.1⟩, h.2⟩)
        · exact (roundg_3mrl N D q r _ _ va vb w hN' hD' hlr hlD' rfl B hQ0 hQ1 hr hg CV CN).mono (fun e w' h => ⟨⟨_, h.1⟩, h.2⟩)

/-- fit of a rounded quotient: the value and the error. -/
def fitS (z : Int) : Int × Int := if Vld z then (z, 0) else (0, 4)

set_option maxHeartbeats 1000000 in
theorem refFit_great (n : Int) (w : World) : Calls Tryz.prog 51 #[.int .i64 n, .bool false] w fun e w' => e = .returned (.tuple #[.int .i64 0, .int .i64 4]) ∧ w = w' := by
  go_enter Tryz.func51, Tryz.ntmps51
  go_wp2
  go_ret2
  exact ⟨rfl, rfl⟩

theorem rndS_great (how : Int) (t : Bool) (N D : Nat) (h : 4 < (parts (N / D)).length) : ¬ Vld (rndS how t N D) := by
  have h1 : 32768 ^ 4 ≤ N / D := by
    rcases Nat.lt_or_ge (N / D) (32768 ^ 4) with h2 | h2
    · have := parts_length 4 _ h2
      omega
    · exact h2
  have h3 : (32768 : Nat) ^ 4 = 1152921504606846976 := by decide
  rw [h3] at h1
  unfold rndS Vld
  cases t
  · simp only [Bool.false_eq_true, if_false]
    split <;> omega
  · simp only [if_true]
    split <;> omega

/-- What a rounded quotient is, with what fit makes of it. -/
def RoundFit (how : Int) (t : Bool) (N D : Nat) (z : Int) (B : Bool) : Prop := ∀ w, Calls Tryz.prog 51 #[.int .i64 z, .bool B] w fun e w' => e = .returned (.tuple #[.int .i64 (fitS (rndS how t N D)).1, .int .i64 (fitS (rndS how t N D)).2]) ∧ w = w'

theorem refRoundFit (N D : Nat) (t : Bool) (how : Int) (va vb : Value) (w : World) (h0 : 0 ≤ how) (h1 : how ≤ 3) (hD0 : 0 < D) (hN : Holds w va N) (hD : Holds w vb D) (hlN : (parts N).length ≤ 100) (hlD : (parts D).length ≤ 100) :
    Calls Tryz.prog 52 #[va, vb, .bool t, .int .i64 how] w fun e w' => ∃ z B, e = .returned (.tuple #[.int .i64 z, .bool B]) ∧ RoundFit how t N D z B ∧ Below w.heap.size w w' := by
  by_cases hq : (parts (N / D)).length ≤ 4
  · refine (refRounded N D t how va vb w h0 h1 hD0 hN hD hlN hlD hq).mono fun e w' h => ⟨_, _, h.1, fun w => ?_, h.2⟩
    unfold fitS
    by_cases hv : Vld (rndS how t N D)
    · rw [if_pos hv]
      exact refFit_ok _ w hv
    · rw [if_neg hv]
      exact refFit_bad _ w hv
  · refine (refRoundg N D t how 0 false va vb w h0 h1 hD0 hN hD hlN hlD (by omega) (by omega) (fun W v hv => number_great _ v W hv (by omega))).mono fun e w' h => ?_
    obtain ⟨⟨z, rfl⟩, hb⟩ := h
    refine ⟨z, false, rfl, fun w => ?_, hb⟩
    unfold fitS
    rw [if_neg (rndS_great how t N D (by omega))]
    exact refFit_great z w

end Go.Proofs.YtebfhjndgfcijaaGreatDoor
