/- slices' stable sort of a small row. -/
import Derived.Test.YtfdhgimpdmhdeaaGreatDoorSorted
namespace Go.Proofs.YtfdhgimpdmhdeaaGreatDoor
open Go Go.RowKit

set_option maxRecDepth 100000 in
set_option maxHeartbeats 2000000 in
theorem stableCmp_in (K bl : Nat) (X : List Int) (N : Int) (n c g o : Nat) (w : World) (Dm : Int → Prop) (key : Int → Int) (Kp : World → Prop) (hN : (n : Int) = N) (hn1 : 1 ≤ N) (hn : N ≤ 19) (hc : n ≤ c) (hcf : ∀ args w, (callFunc K args).run Tryz.prog w = .ok (.enter K args) w)
    (HX : Hid (X.length = n ∧ X.Pairwise (· < ·) ∧ ∀ x ∈ X, Dm x)) (HR : Hid (RowI w g o X ∧ FreeI w g ∧ Kp w)) (HS : Hid (Stays Kp g))
    (CH : Hid (∀ p q W, Dm p → Dm q → Kp W → Calls Tryz.prog K #[.int .i64 p, .int .i64 q, .pointer (some ⟨bl, 0, none⟩)] W fun e w' => e = .returned (.int .i64 (cmpS (key p) (key q))) ∧ Below W.heap.size W w')) :
    Calls Tryz.prog 43 #[.slice (some ⟨g, o, none⟩) n c, .int .i64 N, .func (.func K) #[] #[.pointer (some ⟨bl, 0, none⟩)]] w fun e w' =>
      e = .returned (.tuple #[]) ∧ OutIt w' g o X key n ∧ Kp w' ∧ But g w w' := by
  have CI := Lib.hid (insSort_in K bl X N n c g o w Dm key Kp hN hn1 (by omega) hc hcf HX HR HS CH)
  have h20 : N < 20 := by omega
  have h0 : 0 ≤ N := by omega
  clear hn CH HS
  go_enter Tryz.func43, Tryz.ntmps43
  go_wp2_with fail
  go_loopw [7, 8] (fun av iv wr => av = .int .i64 0 ∧ iv = .int .i64 20 ∧ wr = w) (fun _ _ _ => 0)
  case atStart => exact ⟨rfl, rfl, rfl⟩
  case round =>
    obtain ⟨rfl, rfl, rfl⟩ := hrel
    go_wp2_with (first | (go_at_call 60; refine CI.out.mono ?_; rintro e w1 ⟨rfl, hr1⟩; have HR1 := Lib.hid hr1; clear hr1))
    go_loopw [6] (fun iv wr => iv = .int .i64 20 ∧ wr = w1) (fun _ _ => 0)
    case atStart => exact ⟨rfl, rfl⟩
    case round =>
      obtain ⟨rfl, rfl⟩ := hrel
      go_wp2_with fail
      exact bodyPost_end (v := .tuple #[]) (by simp [results, Tryz.results43, go_sem]) rfl ⟨rfl, HR1.out⟩

set_option maxRecDepth 100000 in
set_option maxHeartbeats 2000000 in
theorem sortStable_in (K bl : Nat) (X : List Int) (N : Int) (n c g o : Nat) (w : World) (Dm : Int → Prop) (key : Int → Int) (Kp : World → Prop) (hN : (n : Int) = N) (hn1 : 1 ≤ N) (hn : N ≤ 19) (hc : n ≤ c) (hcf : ∀ args w, (callFunc K args).run Tryz.prog w = .ok (.enter K args) w)
    (HX : Hid (X.length = n ∧ X.Pairwise (· < ·) ∧ ∀ x ∈ X, Dm x)) (HR : Hid (RowI w g o X ∧ FreeI w g ∧ Kp w)) (HS : Hid (Stays Kp g))
    (CH : Hid (∀ p q W, Dm p → Dm q → Kp W → Calls Tryz.prog K #[.int .i64 p, .int .i64 q, .pointer (some ⟨bl, 0, none⟩)] W fun e w' => e = .returned (.int .i64 (cmpS (key p) (key q))) ∧ Below W.heap.size W w')) :
    Calls Tryz.prog 21 #[.slice (some ⟨g, o, none⟩) n c, .func (.func K) #[] #[.pointer (some ⟨bl, 0, none⟩)]] w fun e w' =>
      e = .returned (.tuple #[]) ∧ OutIt w' g o X key n ∧ Kp w' ∧ But g w w' := by
  have CI := Lib.hid (stableCmp_in K bl X N n c g o w Dm key Kp hN hn1 hn hc hcf HX HR HS CH)
  clear hn CH HS
  go_enter Tryz.func21, Tryz.ntmps21
  go_wp2_with (first | (go_at_call 43; refine CI.out.mono ?_; rintro e w1 ⟨rfl, hr1⟩; have HR1 := Lib.hid hr1; clear hr1))
  exact bodyPost_end (v := .tuple #[]) (by simp [results, Tryz.results21, go_sem]) rfl ⟨rfl, HR1.out⟩

set_option maxRecDepth 100000 in
set_option maxHeartbeats 2000000 in
theorem insSort_nil (F : Value) (w : World) :
    Calls Tryz.prog 60 #[.slice none 0 0, .int .i64 0, .int .i64 0, F] w fun e w' => e = .returned (.tuple #[]) ∧ w' = w := by
  go_enter Tryz.func60, Tryz.ntmps60
  go_wp2_with fail
  go_loopw [8] (fun iv wr => iv = .int .i64 1 ∧ wr = w) (fun _ _ => 0)
  case atStart => exact ⟨rfl, rfl⟩
  case round =>
    obtain ⟨rfl, rfl⟩ := hrel
    go_wp2_with fail
    exact bodyPost_end (v := .tuple #[]) (by simp [results, Tryz.results60, go_sem]) rfl ⟨rfl, rfl⟩

set_option maxRecDepth 100000 in
set_option maxHeartbeats 2000000 in
theorem stableCmp_nil (F : Value) (w : World) :
    Calls Tryz.prog 43 #[.slice none 0 0, .int .i64 0, F] w fun e w' => e = .returned (.tuple #[]) ∧ w' = w := by
  have CI := Lib.hid (fun w => insSort_nil F w)
  go_enter Tryz.func43, Tryz.ntmps43
  go_wp2_with fail
  go_loopw [7, 8] (fun av iv wr => av = .int .i64 0 ∧ iv = .int .i64 20 ∧ wr = w) (fun _ _ _ => 0)
  case atStart => exact ⟨rfl, rfl, rfl⟩
  case round =>
    obtain ⟨rfl, rfl, rfl⟩ := hrel
    go_wp2_with (first | (go_at_call 60; refine (CI.out _).mono ?_; rintro e w1 ⟨rfl, rfl⟩))
    go_loopw [6] (fun iv wz => iv = .int .i64 20 ∧ wz = w1) (fun _ _ => 0)
    case atStart => exact ⟨rfl, rfl⟩
    case round =>
      obtain ⟨rfl, rfl⟩ := hrel
      go_wp2_with fail
      exact bodyPost_end (v := .tuple #[]) (by simp [results, Tryz.results43, go_sem]) rfl ⟨rfl, rfl⟩

set_option maxRecDepth 100000 in
set_option maxHeartbeats 2000000 in
theorem sortStable_nil (F : Value) (w : World) :
    Calls Tryz.prog 21 #[.slice none 0 0, F] w fun e w' => e = .returned (.tuple #[]) ∧ w' = w := by
  have CI := Lib.hid (fun w => stableCmp_nil F w)
  go_enter Tryz.func21, Tryz.ntmps21
  go_wp2_with (first | (go_at_call 43; refine (CI.out _).mono ?_; rintro e w1 ⟨rfl, rfl⟩))
  exact bodyPost_end (v := .tuple #[]) (by simp [results, Tryz.results21, go_sem]) rfl ⟨rfl, rfl⟩

end Go.Proofs.YtfdhgimpdmhdeaaGreatDoor
