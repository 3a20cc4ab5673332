/- The document's own answers: root. -/
import Derived.Test.YtebfhjndgfcijaaGreatDoorRefMul
import Derived.Test.YtebfhjndgfcijaaGreatDoorIsq
import Derived.Test.YtebfhjndgfcijaaGreatDoorRootf
namespace Go.Proofs.YtebfhjndgfcijaaGreatDoor
open Go Go.RowKit

/-- Where the search for the root stands: the step is a power of 2, or 0. -/
def Seeks (V n s : Nat) : Prop := n * n ≤ V ∧ ((∃ k, s = 2 ^ k ∧ V < (n + 2 * s) * (n + 2 * s)) ∨ (s = 0 ∧ V < (n + 1) * (n + 1)))
theorem Seeks.more {V n s : Nat} (h : Seeks V n s) (hs : 0 < s) (hl : (n + s) * (n + s) ≤ V) : Seeks V (n + s) (s / 2) := by
  obtain ⟨_, ⟨k, rfl, h2⟩ | ⟨h0, _⟩⟩ := h
  · refine ⟨hl, ?_⟩
    rcases k with _ | k
    · exact .inr ⟨rfl, h2⟩
    · refine .inl ⟨k, ?_, ?_⟩
      · rw [Nat.pow_succ]; omega
      · have e : n + 2 ^ (k + 1) + 2 * (2 ^ (k + 1) / 2) = n + 2 * 2 ^ (k + 1) := by rw [Nat.pow_succ]; omega
        rw [e]
        exact h2
  · omega
theorem Seeks.less {V n s : Nat} (h : Seeks V n s) (hs : 0 < s) (hl : ¬ (n + s) * (n + s) ≤ V) : Seeks V n (s / 2) := by
  obtain ⟨h1, ⟨k, rfl, _⟩ | ⟨h0, _⟩⟩ := h
  · refine ⟨h1, ?_⟩
    rcases k with _ | k
    · exact .inr ⟨rfl, Nat.lt_of_not_le hl⟩
    · refine .inl ⟨k, ?_, ?_⟩
      · rw [Nat.pow_succ]; omega
      · have e : n + 2 * (2 ^ (k + 1) / 2) = n + 2 ^ (k + 1) := by rw [Nat.pow_succ]; omega
        rw [e]
        exact Nat.lt_of_not_le hl
  · omega
theorem Seeks.done {V n : Nat} (h : Seeks V n 0) : isq V = n := by
  obtain ⟨h1, ⟨k, h0, _⟩ | ⟨_, h2⟩⟩ := h
  · have := Nat.pow_pos (n := k) (show 0 < 2 by decide)
    omega
  · exact isq_is h1 h2
theorem sq_great : (140737488355328 : Nat) * 140737488355328 = 19807040628566084398385987584 := by decide
theorem Seeks.le {V n s : Nat} (h : Seeks V n s) (hV : V < 19807040628566084398385987584) : n ≤ 140737488355328 := by
  have h1 := sq_lt (a := n) (b := 140737488355328) (Nat.lt_of_le_of_lt h.1 (by rw [sq_great]; exact hV))
  omega

/-- The step at the beginning, by the number of parts. -/
def firstStep (len : Nat) : Nat := if len = 0 then 2 else if len = 1 then 256 else if len = 2 then 65536 else if len = 3 then 8388608 else if len = 4 then 2147483648 else if len = 5 then 274877906944 else if len = 6 then 70368744177664 else 9007199254740992
theorem seeks_first (V : Nat) (hl : (parts V).length ≤ 7) : Seeks V 0 (firstStep (parts V).length) := by
  have h1 := pv_lt (parts_fine V)
  rw [pv_parts] at h1
  refine ⟨Nat.zero_le _, .inl ?_⟩
  obtain ⟨len, hlen⟩ : ∃ len, (parts V).length = len := ⟨_, rfl⟩
  rw [hlen] at hl h1 ⊢
  rcases (by omega : len = 0 ∨ len = 1 ∨ len = 2 ∨ len = 3 ∨ len = 4 ∨ len = 5 ∨ len = 6 ∨ len = 7) with rfl | rfl | rfl | rfl | rfl | rfl | rfl | rfl
  · exact ⟨1, rfl, Nat.lt_of_lt_of_le h1 (by decide)⟩
  · exact ⟨8, rfl, Nat.lt_of_lt_of_le h1 (by decide)⟩
  · exact ⟨16, rfl, Nat.lt_of_lt_of_le h1 (by decide)⟩
  · exact ⟨23, rfl, Nat.lt_of_lt_of_le h1 (by decide)⟩
  · exact ⟨31, rfl, Nat.lt_of_lt_of_le h1 (by decide)⟩
  · exact ⟨38, rfl, Nat.lt_of_lt_of_le h1 (by decide)⟩
  · exact ⟨46, rfl, Nat.lt_of_lt_of_le h1 (by decide)⟩
  · exact ⟨53, rfl, Nat.lt_of_lt_of_le h1 (by decide)⟩

set_option maxRecDepth 100000 in
set_option maxHeartbeats 1000000 in
theorem refRoot_at (V len : Nat) (s0 : Int) (p : Option Addr) (c : Nat) (w : World) (HV : Hid (Holds w (.slice p len c) V)) (hV : V < 19807040628566084398385987584) (hc : (s0 = 2 ∧ len = 0) ∨ (s0 = 256 ∧ len = 1) ∨ (s0 = 65536 ∧ len = 2) ∨ (s0 = 8388608 ∧ len = 3) ∨ (s0 = 2147483648 ∧ len = 4) ∨ (s0 = 274877906944 ∧ len = 5) ∨ (s0 = 70368744177664 ∧ len = 6) ∨ (s0 = 9007199254740992 ∧ len = 7)) (HF : Hid (∃ s : Nat, s0 = (s : Int) ∧ Seeks V 0 s)) :
    Calls Tryz.prog 127 #[.slice p len c] w fun e w' => e = .returned (.tuple #[.int .i64 (isq V : Int), .bool (decide (isq V * isq V = V))]) ∧ Below w.heap.size w w' := by
  have hlV : Hid ((parts V).length ≤ 100) := by
    have := parts_length 7 V (by have : (32768 : Nat) ^ 7 = 40564819207303340847894502572032 := by decide
                                 omega)
    show _ ≤ _
    omega
  have HVV := Lib.hid hV
  clear hV
  have hs0 : 0 ≤ s0 ∧ s0 ≤ 9007199254740992 := by omega
  rcases hc with ⟨rfl, rfl⟩ | ⟨rfl, rfl⟩ | ⟨rfl, rfl⟩ | ⟨rfl, rfl⟩ | ⟨rfl, rfl⟩ | ⟨rfl, rfl⟩ | ⟨rfl, rfl⟩ | ⟨rfl, rfl⟩
  all_goals
    go_enter Tryz.func127, Tryz.ntmps127
    go_wp2_with fail
    go_loopw [4, 5] (fun nv sv wr => ∃ (n s : Nat) (N S : Int), nv = .int .i64 N ∧ sv = .int .i64 S ∧ 0 ≤ N ∧ N ≤ 140737488355328 ∧ 0 ≤ S ∧ S ≤ 9007199254740992 ∧ Hid ((N = (n : Int) ∧ S = (s : Int)) ∧ Seeks V n s ∧ Below w.heap.size w wr)) (fun _ sv _ => (intOf sv).toNat)
    case atStart =>
      obtain ⟨s, hs, hk⟩ := HF.out
      exact ⟨0, s, 0, (s : Int), by go_num, congrArg (Value.int .i64) (by rw [← hs]; decide +kernel), by omega, by omega, by omega, by omega, ⟨⟨rfl, rfl⟩, hk, Below.refl _ _⟩⟩
    case round =>
      obtain ⟨n, s, N, S, rfl, rfl, hN0, hN1, hS0, hS1, hK⟩ := hrel
      clear HF hs0
      obtain ⟨⟨hNn, hSs⟩, hk, hBv⟩ := hK.out
      have HBv := Lib.hid hBv
      have HK := Lib.hid hk
      have HNn := Lib.hid hNn
      by_cases hS : 0 < S
      · obtain ⟨u, hu⟩ : ∃ u, n + s = u := ⟨_, rfl⟩
        obtain ⟨U, hU⟩ : ∃ U : Int, N + S = U := ⟨_, rfl⟩
        have hUu : (u : Int) = U := by omega
        have hu2 : u ≤ 18014398509481984 := by omega
        have CF := Lib.hid (fun W => refOf_any u U hUu (by omega) W)
        have lu := parts_length 4 u (by have : (32768 : Nat) ^ 4 = 1152921504606846976 := by decide
                                        omega)
        have luu := parts_mul_len u u
        have CT := Lib.hid (fun (va : Value) (W : World) (h : Holds W va u) => refTimes u u va va W h h (by omega) (by omega))
        have CO := Lib.hid (fun (va vb : Value) (W : World) (h1 : Holds W va (u * u)) (h2 : Holds W vb V) => order_any (u * u) V va vb W h1 h2 (by omega) (by have := hlV.out; omega))
        obtain ⟨S2, hS2⟩ : ∃ S2 : Int, S / 2 = S2 := ⟨_, rfl⟩
        have HS2 : Hid (S2 = ((s / 2 : Nat) : Int)) := by show _ = _; omega
        have hS2b : 0 ≤ S2 ∧ S2 ≤ 9007199254740992 ∧ S2 < S := by omega
        have hs : 0 < s := by omega
        clear hK hBv lu luu hNn
        by_cases hle : u * u ≤ V
        · have hk2 := hk.more hs (by rw [hu]; exact hle)
          have hk3 := hk2.le HVV.out
          rw [hu] at hk2 hk3
          have HK2 := Lib.hid hk2
          have hUb : 0 ≤ U ∧ U ≤ 140737488355328 := by omega
          have hos := ord_le hle
          obtain ⟨o2, ho2⟩ : ∃ o2, ordS (u * u) V = o2 := ⟨_, rfl⟩
          rw [ho2] at hos CO
          have HUu := Lib.hid hUu
          clear hk hk2 hk3 hUu hu hu2 hs hle ho2 hSs
          go_wp2_with (first | (go_at_call 50; refine (CF.out _).mono ?_; rintro e' z1 ⟨vo, rfl, ho, hz1⟩; have HO := Lib.hid ho; have HZ1 := Lib.hid hz1; clear ho hz1) | (go_at_call 49; refine (CT.out _ _ HO.out).mono ?_; rintro e' z2 ⟨vt, rfl, htv, hz2⟩; have HTv := Lib.hid htv; have HZ2 := Lib.hid hz2; clear htv hz2) | (go_at_call 91; refine (CO.out _ _ _ HTv.out (HV.out.later (kcb (kcb HBv.out HZ1.out) HZ2.out))).mono ?_; rintro e' y4 ⟨rfl, hy4⟩; have HY4 := Lib.hid hy4; clear hy4))
          go_roundw
          case rel => exact ⟨u, _, U, S2, by go_num, by go_num, hUb.1, hUb.2, hS2b.1, hS2b.2.1, ⟨⟨HUu.out.symm, HS2.out⟩, HK2.out, kcb (kcb (kcb HBv.out HZ1.out) HZ2.out) HY4.out⟩⟩
          case measure => simp [intOf]; omega
        · have hk2 := hk.less hs (by rw [hu]; exact hle)
          have HK2 := Lib.hid hk2
          have hos : ¬ ordS (u * u) V ≤ 0 := by rw [ord_gt hle]; decide
          obtain ⟨o2, ho2⟩ : ∃ o2, ordS (u * u) V = o2 := ⟨_, rfl⟩
          rw [ho2] at hos CO
          clear hk hk2 hUu hu hu2 hs hle ho2 hSs
          go_wp2_with (first | (go_at_call 50; refine (CF.out _).mono ?_; rintro e' z1 ⟨vo, rfl, ho, hz1⟩; have HO := Lib.hid ho; have HZ1 := Lib.hid hz1; clear ho hz1) | (go_at_call 49; refine (CT.out _ _ HO.out).mono ?_; rintro e' z2 ⟨vt, rfl, htv, hz2⟩; have HTv := Lib.hid htv; have HZ2 := Lib.hid hz2; clear htv hz2) | (go_at_call 91; refine (CO.out _ _ _ HTv.out (HV.out.later (kcb (kcb HBv.out HZ1.out) HZ2.out))).mono ?_; rintro e' y4 ⟨rfl, hy4⟩; have HY4 := Lib.hid hy4; clear hy4))
          go_roundw
          case rel => exact ⟨n, _, N, S2, by go_num, by go_num, hN0, hN1, hS2b.1, hS2b.2.1, ⟨⟨HNn.out, HS2.out⟩, HK2.out, kcb (kcb (kcb HBv.out HZ1.out) HZ2.out) HY4.out⟩⟩
          case measure => simp [intOf]; omega
      · have hs : s = 0 := by omega
        subst hs
        have hd := hk.done
        have CF := Lib.hid (fun W => refOf_any n N hNn.symm (by omega) W)
        have lu := parts_length 4 n (by have : (32768 : Nat) ^ 4 = 1152921504606846976 := by decide
                                        omega)
        have luu := parts_mul_len n n
        have CT := Lib.hid (fun (va : Value) (W : World) (h : Holds W va n) => refTimes n n va va W h h (by omega) (by omega))
        have CO := Lib.hid (fun (va vb : Value) (W : World) (h1 : Holds W va (n * n)) (h2 : Holds W vb V) => order_any (n * n) V va vb W h1 h2 (by omega) (by have := hlV.out; omega))
        have hoe : (ordS (n * n) V = 0) ↔ n * n = V := by
          unfold ordS
          split
          · omega
          · split <;> omega
        obtain ⟨o2, ho2⟩ : ∃ o2, ordS (n * n) V = o2 := ⟨_, rfl⟩
        rw [ho2] at hoe CO
        have HBe : Hid (decide (n * n = V) = decide (o2 = 0)) := decide_eq_decide.2 hoe.symm
        have HDn := Lib.hid hd
        clear hk hK hBv lu luu hNn hSs hd hoe ho2 HK
        go_wp2_with (first | (go_at_call 50; refine (CF.out _).mono ?_; rintro e' z1 ⟨vo, rfl, ho, hz1⟩; have HO := Lib.hid ho; have HZ1 := Lib.hid hz1; clear ho hz1) | (go_at_call 49; refine (CT.out _ _ HO.out).mono ?_; rintro e' z2 ⟨vt, rfl, htv, hz2⟩; have HTv := Lib.hid htv; have HZ2 := Lib.hid hz2; clear htv hz2) | (go_at_call 91; refine (CO.out _ _ _ HTv.out (HV.out.later (kcb (kcb HBv.out HZ1.out) HZ2.out))).mono ?_; rintro e' y4 ⟨rfl, hy4⟩; have HY4 := Lib.hid hy4; clear hy4))
        go_ret2
        exact ⟨by rw [HDn.out, HBe.out, ← HNn.out]; rfl, kcb (kcb (kcb HBv.out HZ1.out) HZ2.out) HY4.out⟩

theorem refRootN (V : Nat) (v : Value) (w : World) (h : Holds w v V) (hV : V < 19807040628566084398385987584) :
    Calls Tryz.prog 127 #[v] w fun e w' => e = .returned (.tuple #[.int .i64 (isq V : Int), .bool (decide (isq V * isq V = V))]) ∧ Below w.heap.size w w' := by
  have hl : (parts V).length ≤ 7 := parts_length 7 V (by have : (32768 : Nat) ^ 7 = 40564819207303340847894502572032 := by decide
                                                         omega)
  have hh := h
  obtain ⟨p, c, rfl, _, _⟩ := hh
  have hs := seeks_first V hl
  obtain ⟨len, hlen⟩ : ∃ len, (parts V).length = len := ⟨_, rfl⟩
  rw [hlen] at hl hs h ⊢
  have hc : (((firstStep len : Nat) : Int) = 2 ∧ len = 0) ∨ (((firstStep len : Nat) : Int) = 256 ∧ len = 1) ∨ (((firstStep len : Nat) : Int) = 65536 ∧ len = 2) ∨ (((firstStep len : Nat) : Int) = 8388608 ∧ len = 3) ∨ (((firstStep len : Nat) : Int) = 2147483648 ∧ len = 4) ∨ (((firstStep len : Nat) : Int) = 274877906944 ∧ len = 5) ∨ (((firstStep len : Nat) : Int) = 70368744177664 ∧ len = 6) ∨ (((firstStep len : Nat) : Int) = 9007199254740992 ∧ len = 7) := by
    rcases (by omega : len = 0 ∨ len = 1 ∨ len = 2 ∨ len = 3 ∨ len = 4 ∨ len = 5 ∨ len = 6 ∨ len = 7) with rfl | rfl | rfl | rfl | rfl | rfl | rfl | rfl <;> simp [firstStep]
  exact refRoot_at V len _ p c w h hV hc ⟨_, rfl, hs⟩

end Go.Proofs.YtebfhjndgfcijaaGreatDoor

namespace Go.Proofs.YtebfhjndgfcijaaGreatDoor
open Go Go.RowKit

set_option maxRecDepth 100000 in
set_option maxHeartbeats 1000000 in
theorem refUp2 (n : Nat) (v : Value) (w : World) (hv : Holds w v n) (hl : (parts n).length ≤ 300) :
    Calls Tryz.prog 53 #[v, .int .i64 2] w fun e w' => ∃ v', e = .returned v' ∧ Holds w' v' (n * 4) ∧ Below w.heap.size w w' := by
  have CO := Lib.hid (fun w => refOf_any 4 4 rfl (by omega) w)
  have l1 : (parts 4).length ≤ 4 := parts_length 4 _ (by decide)
  have CT := Lib.hid (fun vb W h1 h2 => refTimes n 4 v vb W h1 h2 (by omega) (by omega))
  have HV := Lib.hid hv
  clear hv hl l1
  go_enter Tryz.func53, Tryz.ntmps53
  go_wp2_with (first | (go_at_call 50; refine (CO.out _).mono ?_; rintro e w1 ⟨vo, rfl, ho, hb1⟩; have HO := Lib.hid ho; have HB1 := Lib.hid hb1; clear ho hb1) | (go_at_call 49; refine (CT.out _ _ (HV.out.later HB1.out) HO.out).mono ?_; rintro e w2 ⟨vt, rfl, ht, hb2⟩; have HT := Lib.hid ht; have HB2 := Lib.hid hb2; clear ht hb2))
  go_ret
  exact ⟨_, rfl, HT.out, kcb HB1.out HB2.out⟩

set_option maxRecDepth 100000 in
set_option maxHeartbeats 1000000 in
theorem rooted_0 (n : Int) (X : Bool) (v : Value) (w : World) (CR : Hid (Calls Tryz.prog 127 #[v] w fun e w' => e = .returned (.tuple #[.int .i64 n, .bool X]) ∧ Below w.heap.size w w')) :
    Calls Tryz.prog 82 #[v, .int .i64 0] w fun e w' => e = .returned (.tuple #[.int .i64 n, .bool true]) ∧ Below w.heap.size w w' := by
  go_enter Tryz.func82, Tryz.ntmps82
  go_wp2_with (go_at_call 127; refine CR.out.mono ?_; rintro e w1 ⟨rfl, hb1⟩; have HB1 := Lib.hid hb1; clear hb1)
  go_ret2
  exact ⟨rfl, HB1.out⟩

set_option maxRecDepth 100000 in
set_option maxHeartbeats 1000000 in
theorem rooted_1 (n : Int) (X : Bool) (v : Value) (w : World) (CR : Hid (Calls Tryz.prog 127 #[v] w fun e w' => e = .returned (.tuple #[.int .i64 n, .bool X]) ∧ Below w.heap.size w w')) :
    Calls Tryz.prog 82 #[v, .int .i64 1] w fun e w' => e = .returned (.tuple #[.int .i64 n, .bool true]) ∧ Below w.heap.size w w' := by
  go_enter Tryz.func82, Tryz.ntmps82
  go_wp2_with (go_at_call 127; refine CR.out.mono ?_; rintro e w1 ⟨rfl, hb1⟩; have HB1 := Lib.hid hb1; clear hb1)
  go_ret2
  exact ⟨rfl, HB1.out⟩

set_option maxRecDepth 100000 in
set_option maxHeartbeats 1000000 in
theorem rooted_2t (n : Int) (v : Value) (w : World) (_n0 : 0 ≤ n) (_n1 : n ≤ 140737488355328) (CR : Hid (Calls Tryz.prog 127 #[v] w fun e w' => e = .returned (.tuple #[.int .i64 n, .bool true]) ∧ Below w.heap.size w w')) :
    Calls Tryz.prog 82 #[v, .int .i64 2] w fun e w' => e = .returned (.tuple #[.int .i64 (n), .bool true]) ∧ Below w.heap.size w w' := by
  go_enter Tryz.func82, Tryz.ntmps82
  go_wp2_with (go_at_call 127; refine CR.out.mono ?_; rintro e w1 ⟨rfl, hb1⟩; have HB1 := Lib.hid hb1; clear hb1)
  go_ret2
  exact ⟨rfl, HB1.out⟩

set_option maxRecDepth 100000 in
set_option maxHeartbeats 1000000 in
theorem rooted_2f (n : Int) (v : Value) (w : World) (_n0 : 0 ≤ n) (_n1 : n ≤ 140737488355328) (CR : Hid (Calls Tryz.prog 127 #[v] w fun e w' => e = .returned (.tuple #[.int .i64 n, .bool false]) ∧ Below w.heap.size w w')) :
    Calls Tryz.prog 82 #[v, .int .i64 2] w fun e w' => e = .returned (.tuple #[.int .i64 (n + 1), .bool true]) ∧ Below w.heap.size w w' := by
  go_enter Tryz.func82, Tryz.ntmps82
  go_wp2_with (go_at_call 127; refine CR.out.mono ?_; rintro e w1 ⟨rfl, hb1⟩; have HB1 := Lib.hid hb1; clear hb1)
  go_ret2
  exact ⟨rfl, HB1.out⟩

set_option maxRecDepth 100000 in
set_option maxHeartbeats 1000000 in
theorem rooted_3g (n U o : Int) (X : Bool) (V u : Nat) (v : Value) (w : World) (_n0 : 0 ≤ n) (_n1 : n ≤ 140737488355328) (hU : 2 * n + 1 = U) (ho : 0 ≤ o) (HV : Hid (Holds w v V)) (CR : Hid (Calls Tryz.prog 127 #[v] w fun e w' => e = .returned (.tuple #[.int .i64 n, .bool X]) ∧ Below w.heap.size w w'))
    (CF : Hid (∀ w, Calls Tryz.prog 50 #[.int .i64 U] w fun e w' => ∃ v, e = .returned v ∧ Holds w' v u ∧ Below w.heap.size w w'))
    (CU : Hid (∀ w va, Holds w va V → Calls Tryz.prog 53 #[va, .int .i64 2] w fun e w' => ∃ v, e = .returned v ∧ Holds w' v (V * 4) ∧ Below w.heap.size w w'))
    (CT : Hid (∀ w va, Holds w va u → Calls Tryz.prog 49 #[va, va] w fun e w' => ∃ v, e = .returned v ∧ Holds w' v (u * u) ∧ Below w.heap.size w w'))
    (CO : Hid (∀ w va vb, Holds w va (V * 4) → Holds w vb (u * u) → Calls Tryz.prog 91 #[va, vb] w fun e w' => e = .returned (.int .i64 o) ∧ Below w.heap.size w w')) :
    Calls Tryz.prog 82 #[v, .int .i64 3] w fun e w' => e = .returned (.tuple #[.int .i64 (n + 1), .bool true]) ∧ Below w.heap.size w w' := by
  go_enter Tryz.func82, Tryz.ntmps82
  go_wp2_with (first | (go_at_call 127; refine CR.out.mono ?_; rintro e w1 ⟨rfl, hb1⟩; have HB1 := Lib.hid hb1; clear hb1) | (go_at_call 50; refine (CF.out _).mono ?_; rintro e w2 ⟨v2, rfl, h2, hb2⟩; have HH2 := Lib.hid h2; have HB2 := Lib.hid hb2; clear h2 hb2) | (go_at_call 53; refine (CU.out _ _ (HV.out.later (kcb HB1.out HB2.out))).mono ?_; rintro e w3 ⟨v3, rfl, h3, hb3⟩; have HH3 := Lib.hid h3; have HB3 := Lib.hid hb3; clear h3 hb3) | (go_at_call 49; refine (CT.out _ _ (HH2.out.later HB3.out)).mono ?_; rintro e w4 ⟨v4, rfl, h4, hb4⟩; have HH4 := Lib.hid h4; have HB4 := Lib.hid hb4; clear h4 hb4) | (go_at_call 91; refine (CO.out _ _ _ (HH3.out.later HB4.out) HH4.out).mono ?_; rintro e w5 ⟨rfl, hb5⟩; have HB5 := Lib.hid hb5; clear hb5))
  go_ret2
  exact ⟨rfl, kcb (kcb (kcb (kcb HB1.out HB2.out) HB3.out) HB4.out) HB5.out⟩

set_option maxRecDepth 100000 in
set_option maxHeartbeats 1000000 in
theorem rooted_3l (n U o : Int) (X : Bool) (V u : Nat) (v : Value) (w : World) (_n0 : 0 ≤ n) (_n1 : n ≤ 140737488355328) (hU : 2 * n + 1 = U) (ho : ¬ 0 ≤ o) (HV : Hid (Holds w v V)) (CR : Hid (Calls Tryz.prog 127 #[v] w fun e w' => e = .returned (.tuple #[.int .i64 n, .bool X]) ∧ Below w.heap.size w w'))
    (CF : Hid (∀ w, Calls Tryz.prog 50 #[.int .i64 U] w fun e w' => ∃ v, e = .returned v ∧ Holds w' v u ∧ Below w.heap.size w w'))
    (CU : Hid (∀ w va, Holds w va V → Calls Tryz.prog 53 #[va, .int .i64 2] w fun e w' => ∃ v, e = .returned v ∧ Holds w' v (V * 4) ∧ Below w.heap.size w w'))
    (CT : Hid (∀ w va, Holds w va u → Calls Tryz.prog 49 #[va, va] w fun e w' => ∃ v, e = .returned v ∧ Holds w' v (u * u) ∧ Below w.heap.size w w'))
    (CO : Hid (∀ w va vb, Holds w va (V * 4) → Holds w vb (u * u) → Calls Tryz.prog 91 #[va, vb] w fun e w' => e = .returned (.int .i64 o) ∧ Below w.heap.size w w')) :
    Calls Tryz.prog 82 #[v, .int .i64 3] w fun e w' => e = .returned (.tuple #[.int .i64 (n), .bool true]) ∧ Below w.heap.size w w' := by
  go_enter Tryz.func82, Tryz.ntmps82
  go_wp2_with (first | (go_at_call 127; refine CR.out.mono ?_; rintro e w1 ⟨rfl, hb1⟩; have HB1 := Lib.hid hb1; clear hb1) | (go_at_call 50; refine (CF.out _).mono ?_; rintro e w2 ⟨v2, rfl, h2, hb2⟩; have HH2 := Lib.hid h2; have HB2 := Lib.hid hb2; clear h2 hb2) | (go_at_call 53; refine (CU.out _ _ (HV.out.later (kcb HB1.out HB2.out))).mono ?_; rintro e w3 ⟨v3, rfl, h3, hb3⟩; have HH3 := Lib.hid h3; have HB3 := Lib.hid hb3; clear h3 hb3) | (go_at_call 49; refine (CT.out _ _ (HH2.out.later HB3.out)).mono ?_; rintro e w4 ⟨v4, rfl, h4, hb4⟩; have HH4 := Lib.hid h4; have HB4 := Lib.hid hb4; clear h4 hb4) | (go_at_call 91; refine (CO.out _ _ _ (HH3.out.later HB4.out) HH4.out).mono ?_; rintro e w5 ⟨rfl, hb5⟩; have HB5 := Lib.hid hb5; clear hb5))
  go_ret2
  exact ⟨rfl, kcb (kcb (kcb (kcb HB1.out HB2.out) HB3.out) HB4.out) HB5.out⟩

theorem refRooted (V : Nat) (how : Int) (v : Value) (w : World) (h0 : 0 ≤ how) (h1 : how ≤ 3) (h : Holds w v V) (hV : V < 19807040628566084398385987584) :
    Calls Tryz.prog 82 #[v, .int .i64 how] w fun e w' => e = .returned (.tuple #[.int .i64 (rootS how V), .bool true]) ∧ Below w.heap.size w w' := by
  have CR := refRootN V v w h hV
  have hn1 : isq V ≤ 140737488355328 := by
    have h1 := sq_lt (a := isq V) (b := 140737488355328) (Nat.lt_of_le_of_lt (isq_le V) (by rw [sq_great]; exact hV))
    omega
  have hle := isq_le V
  obtain ⟨r, hr⟩ : ∃ r, isq V = r := ⟨_, rfl⟩
  unfold rootS
  rw [hr] at CR hn1 hle ⊢
  obtain ⟨q, hq⟩ : ∃ q, r * r = q := ⟨_, rfl⟩
  have hqi : (r : Int) * (r : Int) = (q : Int) := by rw [← hq]; exact (Int.natCast_mul r r).symm
  rw [hqi]
  rw [hq] at CR hle
  rcases how_cases h0 h1 with rfl | rfl | rfl | rfl
  · have hu : upB 0 false ((V : Int) - (q : Int)) (2 * (r : Int) + 1) = false := rfl
    rw [hu]
    have := rooted_0 _ _ v w CR
    simpa using this
  · have hu : upB 1 false ((V : Int) - (q : Int)) (2 * (r : Int) + 1) = false := rfl
    rw [hu]
    have := rooted_1 _ _ v w CR
    simpa using this
  · by_cases hx : q = V
    · have hu : upB 2 false ((V : Int) - (q : Int)) (2 * (r : Int) + 1) = false := by simp [upB]; omega
      rw [hu]
      rw [decide_eq_true hx] at CR
      have := rooted_2t _ v w (by omega) (by omega) CR
      simpa using this
    · have hu : upB 2 false ((V : Int) - (q : Int)) (2 * (r : Int) + 1) = true := by simp [upB]; omega
      rw [hu]
      rw [decide_eq_false hx] at CR
      exact rooted_2f _ v w (by omega) (by omega) CR
  · have lV : (parts V).length ≤ 7 := parts_length 7 V (by have : (32768 : Nat) ^ 7 = 40564819207303340847894502572032 := by decide
                                                           omega)
    have lu := parts_length 4 (2 * r + 1) (by have : (32768 : Nat) ^ 4 = 1152921504606846976 := by decide
                                              omega)
    have luu := parts_mul_len (2 * r + 1) (2 * r + 1)
    have l4 := parts_small 4 (by omega)
    have lV4 := parts_mul_len V 4
    have euu : (2 * r + 1) * (2 * r + 1) = 4 * q + 4 * r + 1 := by
      rw [← hq, Nat.add_mul, Nat.mul_add, Nat.mul_assoc 2 r, Nat.mul_left_comm r 2 r]
      omega
    have CF := fun w => refOf_any (2 * r + 1) (2 * (r : Int) + 1) (by omega) (by omega) w
    have CU := fun w va (h : Holds w va V) => refUp2 V va w h (by omega)
    have CT := fun w va (h : Holds w va (2 * r + 1)) => refTimes (2 * r + 1) (2 * r + 1) va va w h h (by omega) (by omega)
    have CO := fun w va vb (h1 : Holds w va (V * 4)) (h2 : Holds w vb ((2 * r + 1) * (2 * r + 1))) => order_any (V * 4) ((2 * r + 1) * (2 * r + 1)) va vb w h1 h2 (by omega) (by omega)
    by_cases hg : V * 4 < (2 * r + 1) * (2 * r + 1)
    · have ho : ¬ 0 ≤ ordS (V * 4) ((2 * r + 1) * (2 * r + 1)) := by rw [ord_neg hg]; decide
      have hu : upB 3 false ((V : Int) - (q : Int)) (2 * (r : Int) + 1) = false := by simp [upB]; omega
      rw [hu]
      have := rooted_3l _ _ _ _ V (2 * r + 1) v w (by omega) (by omega) rfl ho h CR CF CU CT CO
      simpa using this
    · have ho := ord_nonneg hg
      have hu : upB 3 false ((V : Int) - (q : Int)) (2 * (r : Int) + 1) = true := by simp [upB]; omega
      rw [hu]
      exact rooted_3g _ _ _ _ V (2 * r + 1) v w (by omega) (by omega) rfl ho h CR CF CU CT CO

end Go.Proofs.YtebfhjndgfcijaaGreatDoor
