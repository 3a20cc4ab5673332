/- The document's own answers: root. -/
import Derived.Test.YtfpfpmacobkmhaaGreatDoorRefMul
import Derived.Test.YtfpfpmacobkmhaaGreatDoorIsq
namespace Go.Proofs.YtfpfpmacobkmhaaGreatDoor
open Go Go.RowKit

/-- Where the search for the root stands: the step is a power of 2, or 0. -/
def Seeks (V n s : Nat) : Prop := n * n ≤ V ∧ ((∃ k, s = 2 ^ k ∧ V < (n + 2 * s) * (n + 2 * s)) ∨ (s = 0 ∧ V < (n + 1) * (n + 1)))
theorem Seeks.more {V n s : Nat} (h : Seeks V n s) (hs : 0 < s) (hl : (n + s) * (n + s) ≤ V) : Seeks V (n + s) (s / 2) := by
  obtain ⟨_, ⟨k, rfl, h2⟩ | ⟨h0, _⟩⟩ := h
  · refine ⟨hl, ?_⟩
    rcases k with _ | k
    · exact .inr ⟨rfl, h2⟩
    · refine .inl ⟨k, ?_, ?_⟩
      · rw [Nat.pow_succ]; omega
      · have e : n + 2 ^ (k + 1) + 2 * (2 ^ (k + 1) / 2) = n + 2 * 2 ^ (k + 1) := by rw [Nat.pow_succ]; omega
        rw [e]
        exact h2
  · omega
theorem Seeks.less {V n s : Nat} (h : Seeks V n s) (hs : 0 < s) (hl : ¬ (n + s) * (n + s) ≤ V) : Seeks V n (s / 2) := by
  obtain ⟨h1, ⟨k, rfl, _⟩ | ⟨h0, _⟩⟩ := h
  · refine ⟨h1, ?_⟩
    rcases k with _ | k
    · exact .inr ⟨rfl, Nat.lt_of_not_le hl⟩
    · refine .inl ⟨k, ?_, ?_⟩
      · rw [Nat.pow_succ]; omega
      · have e : n + 2 * (2 ^ (k + 1) / 2) = n + 2 ^ (k + 1) := by rw [Nat.pow_succ]; omega
        rw [e]
        exact Nat.lt_of_not_le hl
  · omega
theorem Seeks.done {V n : Nat} (h : Seeks V n 0) : isq V = n := by
  obtain ⟨h1, ⟨k, h0, _⟩ | ⟨_, h2⟩⟩ := h
  · have := Nat.pow_pos (n := k) (show 0 < 2 by decide)
    omega
  · exact isq_is h1 h2
theorem Seeks.le {V n s : Nat} (h : Seeks V n s) (hV : V ≤ 4611686018427387904) : n ≤ 2147483648 := by
  have h1 := sq_lt (a := n) (b := 2147483649) (Nat.lt_of_le_of_lt h.1 (by omega))
  omega

/-- The step at the beginning, by the number of parts. -/
def firstStep (len : Nat) : Nat := if len = 0 then 2 else if len = 1 then 256 else if len = 2 then 65536 else if len = 3 then 8388608 else if len = 4 then 2147483648 else 274877906944
theorem seeks_first (V : Nat) (hl : (parts V).length ≤ 5) : Seeks V 0 (firstStep (parts V).length) := by
  have h1 := pv_lt (parts_fine V)
  rw [pv_parts] at h1
  refine ⟨Nat.zero_le _, .inl ?_⟩
  obtain ⟨len, hlen⟩ : ∃ len, (parts V).length = len := ⟨_, rfl⟩
  rw [hlen] at hl h1 ⊢
  rcases (by omega : len = 0 ∨ len = 1 ∨ len = 2 ∨ len = 3 ∨ len = 4 ∨ len = 5) with rfl | rfl | rfl | rfl | rfl | rfl
  · exact ⟨1, rfl, Nat.lt_of_lt_of_le h1 (by decide)⟩
  · exact ⟨8, rfl, Nat.lt_of_lt_of_le h1 (by decide)⟩
  · exact ⟨16, rfl, Nat.lt_of_lt_of_le h1 (by decide)⟩
  · exact ⟨23, rfl, Nat.lt_of_lt_of_le h1 (by decide)⟩
  · exact ⟨31, rfl, Nat.lt_of_lt_of_le h1 (by decide)⟩
  · exact ⟨38, rfl, Nat.lt_of_lt_of_le h1 (by decide)⟩

set_option maxRecDepth 100000 in
set_option maxHeartbeats 1000000 in
theorem refRoot_at (V len : Nat) (s0 : Int) (p : Option Addr) (c : Nat) (w : World) (HV : Hid (Holds w (.slice p len c) V)) (hV : V ≤ 4611686018427387904) (hc : (s0 = 2 ∧ len = 0) ∨ (s0 = 256 ∧ len = 1) ∨ (s0 = 65536 ∧ len = 2) ∨ (s0 = 8388608 ∧ len = 3) ∨ (s0 = 2147483648 ∧ len = 4) ∨ (s0 = 274877906944 ∧ len = 5)) (HF : Hid (∃ s : Nat, s0 = (s : Int) ∧ Seeks V 0 s)) :
    Calls Tryz.prog 83 #[.slice p len c] w fun e w' => e = .returned (.tuple #[.int .i64 (isq V : Int), .bool (decide (isq V * isq V = V))]) ∧ Below w.heap.size w w' := by
  have hlV : Hid ((parts V).length ≤ 100) := by
    have := parts_length 5 V (by have : (32768 : Nat) ^ 5 = 37778931862957161709568 := by decide
                                 omega)
    show _ ≤ _
    omega
  have HVV := Lib.hid hV
  clear hV
  have hs0 : 0 ≤ s0 ∧ s0 ≤ 274877906944 := by omega
  rcases hc with ⟨rfl, rfl⟩ | ⟨rfl, rfl⟩ | ⟨rfl, rfl⟩ | ⟨rfl, rfl⟩ | ⟨rfl, rfl⟩ | ⟨rfl, rfl⟩
  all_goals
    go_enter Tryz.func83, Tryz.ntmps83
    go_wp2_with fail
    go_loopw [4, 5] (fun nv sv wr => ∃ (n s : Nat) (N S : Int), nv = .int .i64 N ∧ sv = .int .i64 S ∧ 0 ≤ N ∧ N ≤ 2147483648 ∧ 0 ≤ S ∧ S ≤ 274877906944 ∧ Hid ((N = (n : Int) ∧ S = (s : Int)) ∧ Seeks V n s ∧ Below w.heap.size w wr)) (fun _ sv _ => (intOf sv).toNat)
    case atStart =>
      obtain ⟨s, hs, hk⟩ := HF.out
      exact ⟨0, s, 0, (s : Int), by go_num, congrArg (Value.int .i64) (by rw [← hs]; decide +kernel), by omega, by omega, by omega, by omega, ⟨⟨rfl, rfl⟩, hk, Below.refl _ _⟩⟩
    case round =>
      obtain ⟨n, s, N, S, rfl, rfl, hN0, hN1, hS0, hS1, hK⟩ := hrel
      clear HF hs0
      obtain ⟨⟨hNn, hSs⟩, hk, hBv⟩ := hK.out
      have HBv := Lib.hid hBv
      have HK := Lib.hid hk
      have HNn := Lib.hid hNn
      by_cases hS : 0 < S
      · obtain ⟨u, hu⟩ : ∃ u, n + s = u := ⟨_, rfl⟩
        obtain ⟨U, hU⟩ : ∃ U : Int, N + S = U := ⟨_, rfl⟩
        have hUu : (u : Int) = U := by omega
        have hu2 : u ≤ 1099511627776 := by omega
        have CF := Lib.hid (fun W => refOf_any u U hUu (by omega) W)
        have lu := parts_small u (by omega)
        have luu := parts_mul_len u u
        have CT := Lib.hid (fun (va : Value) (W : World) (h : Holds W va u) => refTimes u u va va W h h (by omega) (by omega))
        have CO := Lib.hid (fun (va vb : Value) (W : World) (h1 : Holds W va (u * u)) (h2 : Holds W vb V) => order_any (u * u) V va vb W h1 h2 (by omega) (by have := hlV.out; omega))
        obtain ⟨S2, hS2⟩ : ∃ S2 : Int, S / 2 = S2 := ⟨_, rfl⟩
        have HS2 : Hid (S2 = ((s / 2 : Nat) : Int)) := by show _ = _; omega
        have hS2b : 0 ≤ S2 ∧ S2 ≤ 274877906944 ∧ S2 < S := by omega
        have hs : 0 < s := by omega
        clear hK hBv lu luu hNn
        by_cases hle : u * u ≤ V
        · have hk2 := hk.more hs (by rw [hu]; exact hle)
          have hk3 := hk2.le HVV.out
          rw [hu] at hk2 hk3
          have HK2 := Lib.hid hk2
          have hUb : 0 ≤ U ∧ U ≤ 2147483648 := by omega
          have hos := ord_le hle
          obtain ⟨o2, ho2⟩ : ∃ o2, ordS (u * u) V = o2 := ⟨_, rfl⟩
          rw [ho2] at hos CO
          have HUu := Lib.hid hUu
          clear hk hk2 hk3 hUu hu hu2 hs hle ho2 hSs
          go_wp2_with (first | (go_at_call 35; refine (CF.out _).mono ?_; rintro e' z1 ⟨vo, rfl, ho, hz1⟩; have HO := Lib.hid ho; have HZ1 := Lib.hid hz1; clear ho hz1) | (go_at_call 45; refine (CT.out _ _ HO.out).mono ?_; rintro e' z2 ⟨vt, rfl, htv, hz2⟩; have HTv := Lib.hid htv; have HZ2 := Lib.hid hz2; clear htv hz2) | (go_at_call 66; refine (CO.out _ _ _ HTv.out (HV.out.later (kcb (kcb HBv.out HZ1.out) HZ2.out))).mono ?_; rintro e' y4 ⟨rfl, hy4⟩; have HY4 := Lib.hid hy4; clear hy4))
          go_roundw
          case rel => exact ⟨u, _, U, S2, by go_num, by go_num, hUb.1, hUb.2, hS2b.1, hS2b.2.1, ⟨⟨HUu.out.symm, HS2.out⟩, HK2.out, kcb (kcb (kcb HBv.out HZ1.out) HZ2.out) HY4.out⟩⟩
          case measure => simp [intOf]; omega
        · have hk2 := hk.less hs (by rw [hu]; exact hle)
          have HK2 := Lib.hid hk2
          have hos : ¬ ordS (u * u) V ≤ 0 := by rw [ord_gt hle]; decide
          obtain ⟨o2, ho2⟩ : ∃ o2, ordS (u * u) V = o2 := ⟨_, rfl⟩
          rw [ho2] at hos CO
          clear hk hk2 hUu hu hu2 hs hle ho2 hSs
          go_wp2_with (first | (go_at_call 35; refine (CF.out _).mono ?_; rintro e' z1 ⟨vo, rfl, ho, hz1⟩; have HO := Lib.hid ho; have HZ1 := Lib.hid hz1; clear ho hz1) | (go_at_call 45; refine (CT.out _ _ HO.out).mono ?_; rintro e' z2 ⟨vt, rfl, htv, hz2⟩; have HTv := Lib.hid htv; have HZ2 := Lib.hid hz2; clear htv hz2) | (go_at_call 66; refine (CO.out _ _ _ HTv.out (HV.out.later (kcb (kcb HBv.out HZ1.out) HZ2.out))).mono ?_; rintro e' y4 ⟨rfl, hy4⟩; have HY4 := Lib.hid hy4; clear hy4))
          go_roundw
          case rel => exact ⟨n, _, N, S2, by go_num, by go_num, hN0, hN1, hS2b.1, hS2b.2.1, ⟨⟨HNn.out, HS2.out⟩, HK2.out, kcb (kcb (kcb HBv.out HZ1.out) HZ2.out) HY4.out⟩⟩
          case measure => simp [intOf]; omega
      · have hs : s = 0 := by omega
        subst hs
        have hd := hk.done
        have CF := Lib.hid (fun W => refOf_any n N hNn.symm (by omega) W)
        have lu := parts_small n (by omega)
        have luu := parts_mul_len n n
        have CT := Lib.hid (fun (va : Value) (W : World) (h : Holds W va n) => refTimes n n va va W h h (by omega) (by omega))
        have CO := Lib.hid (fun (va vb : Value) (W : World) (h1 : Holds W va (n * n)) (h2 : Holds W vb V) => order_any (n * n) V va vb W h1 h2 (by omega) (by have := hlV.out; omega))
        have hoe : (ordS (n * n) V = 0) ↔ n * n = V := by
          unfold ordS
          split
          · omega
          · split <;> omega
        obtain ⟨o2, ho2⟩ : ∃ o2, ordS (n * n) V = o2 := ⟨_, rfl⟩
        rw [ho2] at hoe CO
        have HBe : Hid (decide (n * n = V) = decide (o2 = 0)) := decide_eq_decide.2 hoe.symm
        have HDn := Lib.hid hd
        clear hk hK hBv lu luu hNn hSs hd hoe ho2 HK
        go_wp2_with (first | (go_at_call 35; refine (CF.out _).mono ?_; rintro e' z1 ⟨vo, rfl, ho, hz1⟩; have HO := Lib.hid ho; have HZ1 := Lib.hid hz1; clear ho hz1) | (go_at_call 45; refine (CT.out _ _ HO.out).mono ?_; rintro e' z2 ⟨vt, rfl, htv, hz2⟩; have HTv := Lib.hid htv; have HZ2 := Lib.hid hz2; clear htv hz2) | (go_at_call 66; refine (CO.out _ _ _ HTv.out (HV.out.later (kcb (kcb HBv.out HZ1.out) HZ2.out))).mono ?_; rintro e' y4 ⟨rfl, hy4⟩; have HY4 := Lib.hid hy4; clear hy4))
        go_ret2
        exact ⟨by rw [HDn.out, HBe.out, ← HNn.out]; rfl, kcb (kcb (kcb HBv.out HZ1.out) HZ2.out) HY4.out⟩

theorem refRootN (V : Nat) (v : Value) (w : World) (h : Holds w v V) (hV : V ≤ 4611686018427387904) :
    Calls Tryz.prog 83 #[v] w fun e w' => e = .returned (.tuple #[.int .i64 (isq V : Int), .bool (decide (isq V * isq V = V))]) ∧ Below w.heap.size w w' := by
  have hl : (parts V).length ≤ 5 := parts_length 5 V (by have : (32768 : Nat) ^ 5 = 37778931862957161709568 := by decide
                                                         omega)
  have hh := h
  obtain ⟨p, c, rfl, _, _⟩ := hh
  have hs := seeks_first V hl
  obtain ⟨len, hlen⟩ : ∃ len, (parts V).length = len := ⟨_, rfl⟩
  rw [hlen] at hl hs h ⊢
  have hc : (((firstStep len : Nat) : Int) = 2 ∧ len = 0) ∨ (((firstStep len : Nat) : Int) = 256 ∧ len = 1) ∨ (((firstStep len : Nat) : Int) = 65536 ∧ len = 2) ∨ (((firstStep len : Nat) : Int) = 8388608 ∧ len = 3) ∨ (((firstStep len : Nat) : Int) = 2147483648 ∧ len = 4) ∨ (((firstStep len : Nat) : Int) = 274877906944 ∧ len = 5) := by
    rcases (by omega : len = 0 ∨ len = 1 ∨ len = 2 ∨ len = 3 ∨ len = 4 ∨ len = 5) with rfl | rfl | rfl | rfl | rfl | rfl <;> simp [firstStep]
  exact refRoot_at V len _ p c w h hV hc ⟨_, rfl, hs⟩

end Go.Proofs.YtfpfpmacobkmhaaGreatDoor
