/- The document's own answers: order and number. -/
import Derived.Test.YtebfhjndgfcijaaGreatDoorTrim
namespace Go.Proofs.YtebfhjndgfcijaaGreatDoor
open Go Go.RowKit

theorem bdn {n k : Nat} (w : World) : Below n w (w.drewN k) := ⟨rfl, rfl, rfl, Nat.le_refl _, fun _ _ => rfl⟩

/-- Which of two is greater. -/
def ordS (a b : Nat) : Int := if a < b then -1 else if b < a then 1 else 0

theorem list_split (l : List Nat) (m : Nat) (h : m < l.length) : l = l.take m ++ at' l m :: l.drop (m + 1) := by
  have e := List.take_append_drop m l
  rw [drop_at h] at e
  unfold at'
  rw [dif_pos h]
  exact e.symm

theorem order_at {a b m : Nat} (h1 : m < (parts a).length) (hlen : (parts a).length = (parts b).length) (hd : (parts a).drop (m + 1) = (parts b).drop (m + 1)) (hx : at' (parts a) m < at' (parts b) m) : a < b := by
  have e1 := list_split (parts a) m h1
  have e2 := list_split (parts b) m (by omega)
  rw [hd] at e1
  have h := pv_top (fine_take (parts_fine a) m) (by rw [List.length_take, List.length_take, hlen]) _ _ ((parts b).drop (m + 1)) hx (m := (parts b).take m)
  rw [← e1, ← e2, pv_parts, pv_parts] at h
  exact h

theorem order_eq {a b : Nat} (h : parts a = parts b) : a = b := by rw [← pv_parts a, h, pv_parts]

set_option maxRecDepth 100000 in
set_option maxHeartbeats 1000000 in
theorem order_lens (a b : Nat) (va vb : Value) (w : World) (ha : Holds w va a) (hb : Holds w vb b) (hla : (parts a).length ≤ 1000) (hlb : (parts b).length ≤ 1000) (hne : (parts a).length ≠ (parts b).length) :
    Calls Tryz.prog 91 #[va, vb] w fun e w' => e = .returned (.int .i64 (ordS a b)) ∧ Below w.heap.size w w' := by
  obtain ⟨p, c, rfl, _, _⟩ := ha
  obtain ⟨q, d, rfl, _, _⟩ := hb
  have hs : ordS a b = if (parts a).length < (parts b).length then -1 else 1 := by
    unfold ordS
    by_cases h : (parts a).length < (parts b).length
    · rw [if_pos h, if_pos (parts_len_lt h)]
    · have := parts_len_lt (show (parts b).length < (parts a).length by omega)
      rw [if_neg h, if_neg (by omega), if_pos this]
  rw [hs]
  obtain ⟨m, hm⟩ : ∃ m, (parts a).length = m := ⟨_, rfl⟩
  obtain ⟨n, hn⟩ : ∃ n, (parts b).length = n := ⟨_, rfl⟩
  rw [hm] at hla hne ⊢
  rw [hn] at hlb hne ⊢
  clear hs hm hn
  by_cases h : m < n
  · rw [if_pos h]
    have h' : (m : Int) < (n : Int) := by omega
    go_enter Tryz.func91, Tryz.ntmps91
    go_wp2_with fail
    go_ret
    exact ⟨rfl, Below.refl _ _⟩
  · rw [if_neg h]
    have h' : (n : Int) ≤ (m : Int) := by omega
    have h2 : (n : Int) < (m : Int) := by omega
    go_enter Tryz.func91, Tryz.ntmps91
    go_wp2_with fail
    go_ret
    exact ⟨rfl, Below.refl _ _⟩

set_option maxRecDepth 100000 in
set_option maxHeartbeats 2000000 in
theorem order_same (a b : Nat) (va vb : Value) (w : World) (ha : Holds w va a) (hb : Holds w vb b) (hla : (parts a).length ≤ 1000) (hlb : (parts a).length = (parts b).length) :
    Calls Tryz.prog 91 #[va, vb] w fun e w' => e = .returned (.int .i64 (ordS a b)) ∧ Below w.heap.size w w' := by
  obtain ⟨p, c, rfl, _, ha⟩ := ha
  obtain ⟨q, d, rfl, _, hb⟩ := hb
  obtain ⟨n, hn⟩ : ∃ n, (parts a).length = n := ⟨_, rfl⟩
  have HA : Hid (∀ j, j < n → ∃ g, p = some ⟨g, 0, none⟩ ∧ w.cell? ⟨g, j, none⟩ = some (.int .i64 (at' (parts a) j : Int))) := by rw [← hn]; exact ha
  have HB : Hid (∀ j, j < n → ∃ g, q = some ⟨g, 0, none⟩ ∧ w.cell? ⟨g, j, none⟩ = some (.int .i64 (at' (parts b) j : Int))) := by rw [← hn, hlb]; exact hb
  have HN : Hid ((parts a).length = n ∧ (parts b).length = n) := ⟨hn, by omega⟩
  rw [← hlb, hn]
  have hn1 : n ≤ 1000 := by omega
  obtain ⟨I0, hI0⟩ : ∃ I0 : Int, (n : Int) - 1 = I0 := ⟨_, rfl⟩
  have hS : Hid (n ≤ n ∧ I0 = (n : Int) - 1 ∧ (parts a).drop n = (parts b).drop n) :=
    ⟨Nat.le_refl _, hI0.symm, by rw [List.drop_of_length_le (by omega), List.drop_of_length_le (by omega)]⟩
  have hI1 : I0 ≤ 1000 ∧ -1 ≤ I0 := by omega
  clear ha hb hn hla hlb
  go_enter Tryz.func91, Tryz.ntmps91
  go_wp2_with fail
  go_loopw [5] (fun i wr => ∃ (k : Nat) (I : Int), i = .int .i64 I ∧ I ≤ 1000 ∧ -1 ≤ I ∧ Below w.heap.size w wr ∧ Hid (k ≤ n ∧ I = (k : Int) - 1 ∧ (parts a).drop k = (parts b).drop k)) (fun i _ => (intOf i + 1).toNat)
  case atStart => exact ⟨n, I0, by go_num, hI1.1, hI1.2, Below.refl _ _, hS⟩
  case round =>
    obtain ⟨k, I, rfl, hJ1, hJ2, hBw, hI⟩ := hrel
    clear hS
    by_cases hz : 0 ≤ I
    · obtain ⟨m, hm⟩ : ∃ m, k = m + 1 := ⟨k - 1, by have := hI.out; omega⟩
      obtain ⟨g, rfl, hx⟩ := HA.out m (by have := hI.out; omega)
      obtain ⟨g2, rfl, hy⟩ := HB.out m (by have := hI.out; omega)
      obtain ⟨X, hX⟩ : ∃ X : Int, (at' (parts a) m : Int) = X := ⟨_, rfl⟩
      obtain ⟨Y, hY⟩ : ∃ Y : Int, (at' (parts b) m : Int) = Y := ⟨_, rfl⟩
      rw [hX] at hx
      rw [hY] at hy
      have hx' := (hBw.cell (p := ⟨g, m, none⟩) (World.block_lt_of_cell? _ _ hx)).trans hx
      have hy' := (hBw.cell (p := ⟨g2, m, none⟩) (World.block_lt_of_cell? _ _ hy)).trans hy
      have hIm : I = (m : Int) := by have := hI.out; omega
      have hmn : (m : Int) < (n : Int) := by have := hI.out; omega
      subst hIm
      have HI := hI
      have hdrop : Hid ((parts a).drop (m + 1) = (parts b).drop (m + 1)) := by have := hI.out.2.2; rw [hm] at this; exact this
      clear hI hx hy
      rcases Int.lt_trichotomy X Y with hlt | heq | hgt
      · have hs : ordS a b = -1 := by unfold ordS; rw [if_pos (order_at (by have := HI.out; have := HN.out; omega) (by have := HN.out; omega) hdrop.out (by omega))]
        have HS := Lib.hid hs
        clear hs HI hdrop hX hY
        go_wp2_with fail
        go_quiet (fail)
        go_wp2_with fail
        go_ret
        exact ⟨ret_int HS.out.symm, by first | exact hBw.trans (bdn _) | exact (hBw.trans (bdn _)).trans (bdn _)⟩
      · subst heq
        have hne : ¬ X < X := Int.lt_irrefl X
        have hrel : Hid ((m : Int) - 1 = (m : Int) - 1 ∧ m ≤ n ∧ (parts a).drop m = (parts b).drop m) := by
          refine ⟨rfl, by omega, ?_⟩
          have h1 := HI.out
          have h2 := HN.out
          rw [drop_at (l := parts a) (by omega), drop_at (l := parts b) (by omega), hdrop.out]
          have e : at' (parts a) m = at' (parts b) m := by omega
          unfold at' at e
          rw [dif_pos (by omega), dif_pos (by omega)] at e
          rw [e]
        obtain ⟨J, hJ⟩ : ∃ J : Int, (m : Int) - 1 = J := ⟨_, rfl⟩
        have HR := Lib.hid hrel.out.2
        have HJ := Lib.hid hJ
        have hJb : J ≤ 1000 ∧ -1 ≤ J ∧ (J + 1).toNat < ((m : Int) + 1).toNat := by omega
        clear hrel HI hdrop hX hY
        go_wp2_with fail
        go_quiet (fail)
        go_wp2_with fail
        go_quiet (fail)
        go_wp2_with fail
        go_roundw
        case rel => exact ⟨m, J, by go_num, hJb.1, hJb.2.1, (by first | exact hBw.trans (bdn _) | exact (hBw.trans (bdn _)).trans (bdn _)), HR.out.1, by rw [HJ.out], HR.out.2⟩
        case measure => simp [intOf]; omega
      · have hs : ordS a b = 1 := by
          have h1 := HI.out
          have h2 := HN.out
          have := order_at (a := b) (b := a) (m := m) (by omega) (by omega) hdrop.out.symm (by omega)
          unfold ordS
          rw [if_neg (by omega), if_pos this]
        have HS := Lib.hid hs
        have hle : ¬ X < Y := by omega
        clear hs HI hdrop hX hY
        go_wp2_with fail
        go_quiet (fail)
        go_wp2_with fail
        go_quiet (fail)
        go_wp2_with fail
        go_ret
        exact ⟨ret_int HS.out.symm, by first | exact hBw.trans (bdn _) | exact (hBw.trans (bdn _)).trans (bdn _)⟩
    · have hs : ordS a b = 0 := by
        have h1 := hI.out
        have h3 := h1.2.2
        rw [show k = 0 by omega] at h3
        have e := order_eq (a := a) (b := b) h3
        unfold ordS
        rw [e, if_neg (Nat.lt_irrefl _), if_neg (Nat.lt_irrefl _)]
      have HS := Lib.hid hs
      clear hs hI
      go_wp2_with fail
      go_ret
      exact ⟨ret_int HS.out.symm, hBw⟩

theorem order_any (a b : Nat) (va vb : Value) (w : World) (ha : Holds w va a) (hb : Holds w vb b) (hla : (parts a).length ≤ 1000) (hlb : (parts b).length ≤ 1000) :
    Calls Tryz.prog 91 #[va, vb] w fun e w' => e = .returned (.int .i64 (ordS a b)) ∧ Below w.heap.size w w' := by
  by_cases h : (parts a).length = (parts b).length
  · exact order_same a b va vb w ha hb hla h
  · exact order_lens a b va vb w ha hb hla hlb h

end Go.Proofs.YtebfhjndgfcijaaGreatDoor
