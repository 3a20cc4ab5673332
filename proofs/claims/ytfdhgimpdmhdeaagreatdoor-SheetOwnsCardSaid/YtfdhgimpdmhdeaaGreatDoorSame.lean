/- Two rows that are the same: the document's Same, Ints and has. -/
import Derived.Test.YtfdhgimpdmhdeaaGreatDoorSorted
import Derived.Lib.QuietBelow
namespace Go.Proofs.YtfdhgimpdmhdeaaGreatDoor
open Go Go.RowKit Go.Sort

set_option maxRecDepth 100000 in
set_option maxHeartbeats 2000000 in
theorem same_in (L : List St) (n c g o c' g' o' : Nat) (w : World) (hn : n ≤ 1000000) (hc : n ≤ c) (hc' : n ≤ c') (HL : Hid (L.length = n)) (HR : Hid (∀ j (h : j < L.length), StAt w g (o + j * 4) L[j])) (HR' : Hid (∀ j (h : j < L.length), StAt w g' (o' + j * 4) L[j])) :
    Calls Tryz.prog 13 #[.slice (some ⟨g, o, none⟩) n c, .slice (some ⟨g', o', none⟩) n c'] w fun e w' => e = .returned (.bool true) ∧ Below w.heap.size w w' := by
  obtain ⟨N, hN⟩ : ∃ N : Int, (n : Int) = N := ⟨_, rfl⟩
  have hN0 : 0 ≤ N := by omega
  have hNb : N ≤ 1000000 := by omega
  go_enter Tryz.func13, Tryz.ntmps13
  go_wp2_with fail
  go_loopw [5] (fun iv wr => ∃ (i : Nat) (I : Int), iv = .int .i64 I ∧ 0 ≤ I ∧ I ≤ N ∧ Hid ((I = (i : Int)) ∧ Below w.heap.size w wr)) (fun iv _ => (N - intOf iv).toNat)
  case atStart => exact ⟨0, 0, rfl, by omega, by omega, ⟨rfl, Below.refl _ _⟩⟩
  case round =>
    obtain ⟨i, I, rfl, hI0, hI1, hK⟩ := hrel
    obtain ⟨hIi, hBv⟩ := hK.out
    have hLn := HL.out
    by_cases hI : I < N
    · have hil : i < L.length := by omega
      obtain ⟨s, hs⟩ : ∃ s, L[i] = s := ⟨_, rfl⟩
      have h1 := St.later hBv (HR.out i hil)
      have h2 := St.later hBv (HR'.out i hil)
      rw [hs] at h1 h2
      obtain ⟨st, sn, sx, sy⟩ := s
      obtain ⟨⟨a0, a1⟩, a2, a3⟩ := h1
      obtain ⟨⟨b0, b1⟩, b2, b3⟩ := h2
      dsimp only at a0 a1 a2 a3 b0 b1 b2 b3
      have k0 := cell_regrown a0
      have k1 := cell_regrown a1
      have k2 := cell_regrown a2
      have k3 := cell_regrown a3
      have l0 := cell_regrown b0
      have l1 := cell_regrown b1
      have l2 := cell_regrown b2
      have l3 := cell_regrown b3
      have hIn : I.toNat = i := by omega
      have HIi := Lib.hid hIi
      have HBv := Lib.hid hBv
      clear hK hIi hBv hLn hil hs a0 a1 a2 a3 b0 b1 b2 b3
      go_wp2_with fail
      refine wp_region_quiet_below (by kernel_rfl) (by kernel_rfl) ?_
      repeat (first | go_big_quiet_step (fail) | quiet_step (fail))
      refine wpQuiet_nil ?_
      intro _ hw'
      obtain ⟨⟨dq, osq⟩, hw''⟩ := hw'
      subst hw''
      have HQ := Lib.hid (kc HBv.out (below_regrown wr dq osq))
      clear k0 k1 k2 k3 l0 l1 l2 l3
      go_wp2_with fail
      go_roundw
      case rel => exact ⟨i + 1, I + 1, by go_num, by omega, by omega, ⟨by have := HIi.out; omega, HQ.out⟩⟩
      case measure => simp [intOf]; omega
    · have HBv := Lib.hid hBv
      clear hK hIi hBv hLn
      go_wp2_with fail
      go_ret
      exact ⟨rfl, HBv.out⟩

set_option maxRecDepth 100000 in
set_option maxHeartbeats 1000000 in
theorem same_nil (p p' : Option Addr) (c c' : Nat) (w : World) :
    Calls Tryz.prog 13 #[.slice p 0 c, .slice p' 0 c'] w fun e w' => e = .returned (.bool true) ∧ Below w.heap.size w w' := by
  go_enter Tryz.func13, Tryz.ntmps13
  go_wp2_with fail
  go_loopw [5] (fun iv wr => iv = .int .i64 0 ∧ Hid (Below w.heap.size w wr)) (fun _ _ => 0)
  case atStart => exact ⟨rfl, Below.refl _ _⟩
  case round =>
    obtain ⟨rfl, hB⟩ := hrel
    go_wp2_with fail
    go_ret
    exact ⟨rfl, hB.out⟩

set_option maxRecDepth 100000 in
set_option maxHeartbeats 2000000 in
theorem ints_in (Y : List Int) (n c g c' g' : Nat) (w : World) (hn : n ≤ 1000000) (hc : n ≤ c) (hc' : n ≤ c') (HL : Hid (Y.length = n)) (HR : Hid (RowI w g 0 Y)) (HR' : Hid (RowI w g' 0 Y)) :
    Calls Tryz.prog 12 #[.slice (some ⟨g, 0, none⟩) n c, .slice (some ⟨g', 0, none⟩) n c'] w fun e w' => e = .returned (.bool true) ∧ Below w.heap.size w w' := by
  obtain ⟨N, hN⟩ : ∃ N : Int, (n : Int) = N := ⟨_, rfl⟩
  have hN0 : 0 ≤ N := by omega
  have hNb : N ≤ 1000000 := by omega
  go_enter Tryz.func12, Tryz.ntmps12
  go_wp2_with fail
  go_loopw [5] (fun iv wr => ∃ (i : Nat) (I : Int), iv = .int .i64 I ∧ 0 ≤ I ∧ I ≤ N ∧ Hid ((I = (i : Int)) ∧ Below w.heap.size w wr)) (fun iv _ => (N - intOf iv).toNat)
  case atStart => exact ⟨0, 0, rfl, by omega, by omega, ⟨rfl, Below.refl _ _⟩⟩
  case round =>
    obtain ⟨i, I, rfl, hI0, hI1, hK⟩ := hrel
    obtain ⟨hIi, hBv⟩ := hK.out
    have hLn := HL.out
    by_cases hI : I < N
    · have hil : i < Y.length := by omega
      have h1 := cell_later hBv (HR.out i hil)
      have h2 := cell_later hBv (HR'.out i hil)
      obtain ⟨s, hs⟩ : ∃ s, Y[i] = s := ⟨_, rfl⟩
      rw [hs, Nat.zero_add] at h1 h2
      have k0 := cell_regrown h1
      have l0 := cell_regrown h2
      have hIn : I.toNat = i := by omega
      have HIi := Lib.hid hIi
      have HBv := Lib.hid hBv
      clear hK hIi hBv hLn hil hs h1 h2
      go_wp2_with fail
      refine wp_region_quiet_below (by kernel_rfl) (by kernel_rfl) ?_
      repeat (first | go_big_quiet_step (fail) | quiet_step (fail))
      refine wpQuiet_nil ?_
      intro _ hw'
      obtain ⟨⟨dq, osq⟩, hw''⟩ := hw'
      subst hw''
      have HQ := Lib.hid (kc HBv.out (below_regrown wr dq osq))
      clear k0 l0
      go_wp2_with fail
      go_roundw
      case rel => exact ⟨i + 1, I + 1, by go_num, by omega, by omega, ⟨by have := HIi.out; omega, HQ.out⟩⟩
      case measure => simp [intOf]; omega
    · have HBv := Lib.hid hBv
      clear hK hIi hBv hLn
      go_wp2_with fail
      go_ret
      exact ⟨rfl, HBv.out⟩

end Go.Proofs.YtfdhgimpdmhdeaaGreatDoor
