/- besomlaw01.FixedTexts: true, whatever the input. -/
import Derived.Test.YtebfhjndgfcijaaGreatDoorRefReads
import Derived.Test.YtebfhjndgfcijaaGreatDoorRefText
import Derived.Test.YtebfhjndgfcijaaGreatDoorAlive
namespace Go.Proofs.YtebfhjndgfcijaaGreatDoor
open Go Go.RowKit

set_option maxHeartbeats 1000000 in
theorem same_txt (a e : Int) (w : World) : Calls Tryz.prog 11 #[.int .i64 a, .int .i64 e, .int .i64 a, .int .i64 e] w fun e' w' => e' = .returned (.bool true) ∧ w = w' := by
  go_enter Tryz.func11, Tryz.ntmps11
  go_wp2
  go_ret
  exact ⟨rfl, rfl⟩

set_option maxRecDepth 100000 in
set_option maxHeartbeats 1000000 in
theorem texts_long (a how z : Int) (S : ByteArray) (w : World) (hz : (S.size : Int) = z) (h200 : 200 < z)
    (CA : Hid (∀ w, Calls Tryz.prog 6 #[] w fun e' w' => e' = .returned (.bool true) ∧ Below w.heap.size w w')) :
    Calls Tryz.prog 3 #[.int .i64 a, .string S, .int .i64 how] w fun e' w' => e' = .returned (.bool true) ∧ Below w.heap.size w w' := by
  go_enter Tryz.func3, Tryz.ntmps3
  go_wp2_with (first | (go_at_call 6; refine (CA.out _).mono ?_; rintro e' w1 ⟨rfl, hb1⟩; have HB1 := Lib.hid hb1; clear hb1))
  go_ret
  exact ⟨rfl, HB1.out⟩

set_option maxRecDepth 100000 in
set_option maxHeartbeats 1000000 in
theorem texts_walk (a b e how z : Int) (S T : ByteArray) (w : World) (hz : (S.size : Int) = z) (h200 : z ≤ 200)
    (C1 : Hid (∀ w, Calls Tryz.prog 7 #[.string S, .int .i64 how] w fun e' w' => e' = .returned (.tuple #[.int .i64 b, .int .i64 e]) ∧ Below w.heap.size w w'))
    (C2 : Hid (∀ w, Calls Tryz.prog 8 #[.string S, .int .i64 how] w fun e' w' => e' = .returned (.tuple #[.int .i64 b, .int .i64 e]) ∧ Below w.heap.size w w'))
    (C3 : Hid (∀ W, Below w.heap.size w W → Calls Tryz.prog 9 #[.int .i64 a] W fun e' w' => e' = .returned (.string T) ∧ Below W.heap.size W w'))
    (C4 : Hid (∀ W, Below w.heap.size w W → Calls Tryz.prog 10 #[.int .i64 a] W fun e' w' => e' = .returned (.string T) ∧ Below W.heap.size W w'))
    (CS : Hid (∀ x y w, Calls Tryz.prog 11 #[.int .i64 x, .int .i64 y, .int .i64 x, .int .i64 y] w fun e' w' => e' = .returned (.bool true) ∧ w = w'))
    (CA : Hid (∀ w, Calls Tryz.prog 6 #[] w fun e' w' => e' = .returned (.bool true) ∧ Below w.heap.size w w')) :
    Calls Tryz.prog 3 #[.int .i64 a, .string S, .int .i64 how] w fun e' w' => e' = .returned (.bool true) ∧ Below w.heap.size w w' := by
  go_enter Tryz.func3, Tryz.ntmps3
  go_wp2_with (first | (go_at_call 7; refine (C1.out _).mono ?_; rintro e' w1 ⟨rfl, hb1⟩; have HB1 := Lib.hid hb1; clear hb1) | (go_at_call 8; refine (C2.out _).mono ?_; rintro e' w2 ⟨rfl, hb2⟩; have HB2 := Lib.hid hb2; clear hb2) | (go_at_call 9; refine (C3.out _ (kc HB1.out HB2.out)).mono ?_; rintro e' w3 ⟨rfl, hb3⟩; have HB3 := Lib.hid hb3; clear hb3) | (go_at_call 10; refine (C4.out _ (kc (kc HB1.out HB2.out) HB3.out)).mono ?_; rintro e' w4 ⟨rfl, hb4⟩; have HB4 := Lib.hid hb4; clear hb4) | (go_at_call 11; refine (CS.out _ _ _).mono ?_; rintro e' w' ⟨rfl, rfl⟩) | (go_at_call 6; refine (CA.out _).mono ?_; rintro e' w5 ⟨rfl, hb5⟩; have HB5 := Lib.hid hb5; clear hb5))
  go_ret
  exact ⟨rfl, kc (kc (kc (kc HB1.out HB2.out) HB3.out) HB4.out) HB5.out⟩

theorem texts_any (a : Int) (s : List UInt8) (how : Int) (w : World) (ht : TabHere w) :
    Calls Tryz.prog 3 #[.int .i64 a, .string ⟨s.toArray⟩, .int .i64 how] w fun e' w' => e' = .returned (.bool true) ∧ Below w.heap.size w w' := by
  by_cases h : ((⟨s.toArray⟩ : ByteArray).size : Int) ≤ 200
  · exact texts_walk a _ _ how _ _ _ w rfl h (fun w => read_any s how w) (fun w => refReadF s how w) (fun W hb => text_any a W (ht.on hb)) (fun W _ => refTextF a W) (fun x y w => same_txt x y w) (fun w => alive_any w)
  · exact texts_long a how _ _ w rfl (by omega) (fun w => alive_any w)

end Go.Proofs.YtebfhjndgfcijaaGreatDoor
