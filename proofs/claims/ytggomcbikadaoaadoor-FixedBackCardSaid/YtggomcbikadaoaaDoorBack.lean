/- besomlaw01.FixedBack: true, whatever the number and the way of rounding, as long as the table that strconv reads holds what its initialiser laid. -/
import Derived.Test.YtggomcbikadaoaaDoorBackm
import Derived.Test.YtggomcbikadaoaaDoorAlive
namespace Go.Proofs.YtggomcbikadaoaaDoor
open Go Go.RowKit

set_option maxRecDepth 100000 in
set_option maxHeartbeats 1000000 in
theorem back_walk (a h k : Int) (s : ByteArray) (w : World) (ht : TabHere w) (h0 : 0 ≤ h) (h1 : h ≤ 255) (hk : h % 4 = k) (hs : (s.size : Int) ≤ 60)
    (ct : ∀ w, TabHere w → Calls Tryd.prog 18 #[.int .i64 a] w fun e w' => e = .returned (.string s) ∧ Below w.heap.size w w')
    (cc : ∀ w, Calls Tryd.prog 19 #[.int .i64 a] w fun e w' => e = .returned (.int .i64 0) ∧ w = w')
    (cr : ∀ w, Calls Tryd.prog 20 #[.string s, .int .i64 k] w fun e w' => e = .returned (.tuple #[.int .i64 a, .int .i64 0]) ∧ Below w.heap.size w w') :
    Calls Tryd.prog 4 #[.int .i64 a, .int .u8 h] w fun e w' => e = .returned (.bool true) ∧ Below w.heap.size w w' := by
  have CA := Lib.hid (fun w => alive_any w)
  have CT := Lib.hid ct
  have CC := Lib.hid cc
  have CR := Lib.hid cr
  have HT := Lib.hid ht
  clear ct cc cr ht
  go_enter Tryd.func4, Tryd.ntmps4
  go_wp2_with (first | (go_at_call 5; refine (CA.out _).mono ?_; rintro e w1 ⟨rfl, hb1⟩) | (go_at_call 18; refine (CT.out _ (HT.out.on hb1)).mono ?_; rintro e w2 ⟨rfl, hb2⟩) | (go_at_call 19; refine (CC.out _).mono ?_; rintro e w' ⟨rfl, rfl⟩) | (go_at_call 20; refine (CR.out _).mono ?_; rintro e w3 ⟨rfl, hb3⟩))
  go_ret
  exact ⟨rfl, kc (kc hb1 hb2) hb3⟩

set_option maxRecDepth 100000 in
set_option maxHeartbeats 1000000 in
theorem back_none (a h : Int) (w : World) (ht : TabHere w) (h0 : 0 ≤ h) (h1 : h ≤ 255)
    (ct : ∀ w, TabHere w → Calls Tryd.prog 18 #[.int .i64 a] w fun e w' => e = .returned (.string ⟨#[]⟩) ∧ Below w.heap.size w w')
    (cc : ∀ w, Calls Tryd.prog 19 #[.int .i64 a] w fun e w' => e = .returned (.int .i64 2) ∧ w = w') :
    Calls Tryd.prog 4 #[.int .i64 a, .int .u8 h] w fun e w' => e = .returned (.bool true) ∧ Below w.heap.size w w' := by
  have CA := Lib.hid (fun w => alive_any w)
  have CT := Lib.hid ct
  have CC := Lib.hid cc
  have HT := Lib.hid ht
  clear ct cc ht
  go_enter Tryd.func4, Tryd.ntmps4
  go_wp2_with (first | (go_at_call 5; refine (CA.out _).mono ?_; rintro e w1 ⟨rfl, hb1⟩) | (go_at_call 18; refine (CT.out _ (HT.out.on hb1)).mono ?_; rintro e w2 ⟨rfl, hb2⟩) | (go_at_call 19; refine (CC.out _).mono ?_; rintro e w' ⟨rfl, rfl⟩))
  go_ret
  exact ⟨rfl, kc hb1 hb2⟩

theorem back_any (a h : Int) (w : World) (ht : TabHere w) (h0 : 0 ≤ h) (h1 : h ≤ 255) :
    Calls Tryd.prog 4 #[.int .i64 a, .int .u8 h] w fun e w' => e = .returned (.bool true) ∧ Below w.heap.size w w' := by
  have ct := fun w ht => text_any a w ht
  by_cases hv : Vld a
  · have cr := fun w => read_any (textL a) (h % 4) w
    rw [read_textL a (h % 4) hv (by omega) (by omega)] at cr
    exact back_walk a h _ _ w ht h0 h1 rfl (by have := textL_length a hv; rw [bs_size]; omega) ct (fun w => check_ok a w hv) cr
  · have e : textL a = [] := by unfold textL; rw [if_neg hv]
    rw [e] at ct
    exact back_none a h w ht h0 h1 ct (fun w => check_bad a w hv)

end Go.Proofs.YtggomcbikadaoaaDoor
