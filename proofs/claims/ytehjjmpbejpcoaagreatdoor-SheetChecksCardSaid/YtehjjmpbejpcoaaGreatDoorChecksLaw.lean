/- The law SheetChecks, but for its opening examples. -/
import Derived.Test.YtehjjmpbejpcoaaGreatDoorNils
namespace Go.Proofs.YtehjjmpbejpcoaaGreatDoor
open Go Go.RowKit Go.Sort

set_option maxRecDepth 100000 in
set_option maxHeartbeats 1000000 in
theorem checks_long (pt : Option Addr) (n c : Nat) (t k : Int) (w : World) (hn : 40 < (n : Int))
    (CA : Hid (∀ W, Below w.heap.size w W → Calls Tryz.prog 4 #[] W fun e w' => e = .returned (.bool true) ∧ Below W.heap.size W w')) :
    Calls Tryz.prog 3 #[.slice pt n c, .int .i64 t, .int .i64 k] w fun e w' => e = .returned (.bool true) ∧ Below w.heap.size w w' := by
  obtain ⟨N, hN⟩ : ∃ N : Int, (n : Int) = N := ⟨_, rfl⟩
  rw [hN] at hn
  go_enter Tryz.func3, Tryz.ntmps3
  go_wp2_with (first | (go_at_call 4; refine (CA.out _ (Below.refl _ _)).mono ?_; rintro e w1 ⟨rfl, hb1⟩; have HB1 := Lib.hid hb1; clear hb1))
  go_ret
  exact ⟨rfl, HB1.out⟩

set_option maxRecDepth 100000 in
set_option maxHeartbeats 2000000 in
theorem checks_short (L : List St) (pt : Option Addr) (n c : Nat) (t k : Int) (w : World) (hn : (n : Int) ≤ 40)
    (C1 : Hid (∀ W, Below w.heap.size w W → Calls Tryz.prog 5 #[.slice pt n c] W fun e w' => ∃ r : Int × Int, e = .returned (.tuple #[.int .i64 r.1, .int .i64 r.2]) ∧ PairAt ovS L r ∧ Below W.heap.size W w'))
    (C2 : Hid (∀ W, Below w.heap.size w W → Calls Tryz.prog 6 #[.slice pt n c] W fun e w' => ∃ r : Int × Int, e = .returned (.tuple #[.int .i64 r.1, .int .i64 r.2]) ∧ PairAt ovS L r ∧ Below W.heap.size W w'))
    (C3 : Hid (∀ W, Below w.heap.size w W → Calls Tryz.prog 7 #[.slice pt n c, .int .i64 t, .int .i64 k] W fun e w' => ∃ r, e = .returned (.tuple #[.int .i64 (findS r).1, .int .i64 (findS r).2]) ∧ FirstS (isS t k) L r ∧ Below W.heap.size W w'))
    (C4 : Hid (∀ W, Below w.heap.size w W → Calls Tryz.prog 8 #[.slice pt n c, .int .i64 t, .int .i64 k] W fun e w' => ∃ r, e = .returned (.tuple #[.int .i64 (findS r).1, .int .i64 (findS r).2]) ∧ FirstS (isS t k) L r ∧ Below W.heap.size W w'))
    (C5 : Hid (∀ W, Below w.heap.size w W → Calls Tryz.prog 9 #[.slice pt n c] W fun e w' => ∃ r : Bool, e = .returned (.bool r) ∧ (r = true ↔ Valid L) ∧ Below W.heap.size W w'))
    (C6 : Hid (∀ W, Below w.heap.size w W → Calls Tryz.prog 10 #[.slice pt n c] W fun e w' => ∃ r : Bool, e = .returned (.bool r) ∧ (r = true ↔ Valid L) ∧ Below W.heap.size W w'))
    (CA : Hid (∀ W, Below w.heap.size w W → Calls Tryz.prog 4 #[] W fun e w' => e = .returned (.bool true) ∧ Below W.heap.size W w')) :
    Calls Tryz.prog 3 #[.slice pt n c, .int .i64 t, .int .i64 k] w fun e w' => e = .returned (.bool true) ∧ Below w.heap.size w w' := by
  obtain ⟨N, hN⟩ : ∃ N : Int, (n : Int) = N := ⟨_, rfl⟩
  rw [hN] at hn
  go_enter Tryz.func3, Tryz.ntmps3
  go_wp2_with (first
    | (go_at_call 5; refine (C1.out _ (Below.refl _ _)).mono ?_; rintro e w1 ⟨⟨r1, r2⟩, rfl, hr, hb1⟩; have HR1 := Lib.hid hr; have HB1 := Lib.hid hb1; clear hr hb1)
    | (go_at_call 6; refine (C2.out _ HB1.out).mono ?_; rintro e w2 ⟨r, rfl, hr, hb2⟩; obtain rfl := pairAt_uniq HR1.out hr; have HB2 := Lib.hid (kc HB1.out hb2); clear hr hb2)
    | (go_at_call 7; refine (C3.out _ HB2.out).mono ?_; rintro e w3 ⟨q, rfl, hr, hb3⟩; have HR3 := Lib.hid hr; have HB3 := Lib.hid (kc HB2.out hb3); clear hr hb3)
    | (go_at_call 8; refine (C4.out _ HB3.out).mono ?_; rintro e w4 ⟨q', rfl, hr, hb4⟩; obtain rfl := firstS_uniq HR3.out hr; have HB4 := Lib.hid (kc HB3.out hb4); clear hr hb4)
    | (go_at_call 9; refine (C5.out _ HB4.out).mono ?_; rintro e w5 ⟨b, rfl, hr, hb5⟩; have HR5 := Lib.hid hr; have HB5 := Lib.hid (kc HB4.out hb5); clear hr hb5)
    | (go_at_call 10; refine (C6.out _ HB5.out).mono ?_; rintro e w6 ⟨b', rfl, hr, hb6⟩; obtain rfl : b = b' := Bool.eq_iff_iff.2 (HR5.out.trans hr.symm); have HB6 := Lib.hid (kc HB5.out hb6); clear hr hb6)
    | (go_at_call 4; refine (CA.out _ HB6.out).mono ?_; rintro e w7 ⟨rfl, hb7⟩; have HB7 := Lib.hid (kc HB6.out hb7); clear hb7))
  go_ret
  exact ⟨rfl, HB7.out⟩

theorem checks_nil (pt : Option Addr) (c : Nat) (t k : Int) (w : World)
    (CA : ∀ W, Below w.heap.size w W → Calls Tryz.prog 4 #[] W fun e w' => e = .returned (.bool true) ∧ Below W.heap.size W w') :
    Calls Tryz.prog 3 #[.slice pt 0 c, .int .i64 t, .int .i64 k] w fun e w' => e = .returned (.bool true) ∧ Below w.heap.size w w' :=
  checks_short [] pt 0 c t k w (by decide)
    (fun W _ => (overlap_nil pt c W).mono fun _ _ h => ⟨(-1, -1), h.1, pair_nil _, h.2⟩)
    (fun W _ => (refOverlap_nil pt c W).mono fun _ _ h => ⟨(-1, -1), h.1, pair_nil _, h.2⟩)
    (fun W _ => (find_nil t k pt c W).mono fun _ _ h => ⟨-1, h.1, first_nil _, h.2⟩)
    (fun W _ => (refFind_nil t k pt c W).mono fun _ _ h => ⟨-1, h.1, first_nil _, h.2⟩)
    (fun W _ => (check_nil pt c W).mono fun _ _ h => ⟨true, h.1, ⟨fun _ => valid_nil, fun _ => rfl⟩, h.2⟩)
    (fun W _ => (refCheck_nil pt c W).mono fun _ _ h => ⟨true, h.1, ⟨fun _ => valid_nil, fun _ => rfl⟩, h.2⟩)
    CA

theorem checks_list (L : List St) (c g o : Nat) (t k : Int) (w : World) (hc : L.length ≤ c) (HR : ∀ j (h : j < L.length), StAt w g (o + j * 4) L[j])
    (CA : ∀ W, Below w.heap.size w W → Calls Tryz.prog 4 #[] W fun e w' => e = .returned (.bool true) ∧ Below W.heap.size W w') :
    Calls Tryz.prog 3 #[.slice (some ⟨g, o, none⟩) L.length c, .int .i64 t, .int .i64 k] w fun e w' => e = .returned (.bool true) ∧ Below w.heap.size w w' := by
  by_cases h40 : 40 < (L.length : Int)
  · exact checks_long _ _ c t k w h40 CA
  · have hn : L.length ≤ 1000000 := by omega
    have HW : ∀ W, Below w.heap.size w W → Hid (∀ j (h : j < L.length), StAt W g (o + j * 4) L[j]) := fun W hW j h => St.later hW (HR j h)
    exact checks_short L _ _ c t k w (by omega)
      (fun W hW => overlap_in L _ c g o W hn hc rfl (HW W hW))
      (fun W hW => refOverlap_in L _ c g o W hn hc rfl (HW W hW))
      (fun W hW => find_in L t k _ c g o W hn hc rfl (HW W hW))
      (fun W hW => (refFind_in L t k _ c g o W hn hc rfl (HW W hW)).mono fun _ _ ⟨r, h1, h2, h3⟩ => ⟨r, h1, h2, by rw [h3]; exact Below.refl _ _⟩)
      (fun W hW => check_in L _ c g o W hn hc rfl (HW W hW))
      (fun W hW => refCheck_in L _ c g o W hn hc rfl (HW W hW))
      CA

/-- The law. -/
theorem checks_any (L : List St) (c : Nat) (v : Value) (t k : Int) (w : World) (hc : L.length ≤ c)
    (hv : (L = [] ∧ ∃ pt, v = .slice pt 0 c) ∨ ∃ g o, v = .slice (some ⟨g, o, none⟩) L.length c ∧ ∀ j (h : j < L.length), StAt w g (o + j * 4) L[j])
    (CA : ∀ W, Below w.heap.size w W → Calls Tryz.prog 4 #[] W fun e w' => e = .returned (.bool true) ∧ Below W.heap.size W w') :
    Calls Tryz.prog 3 #[v, .int .i64 t, .int .i64 k] w fun e w' => e = .returned (.bool true) ∧ Below w.heap.size w w' := by
  rcases hv with ⟨-, pt, rfl⟩ | ⟨g, o, rfl, HR⟩
  · exact checks_nil pt c t k w CA
  · exact checks_list L c g o t k w hc HR CA

end Go.Proofs.YtehjjmpbejpcoaaGreatDoor
