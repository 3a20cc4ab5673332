/- The document's own answers: both, Plus, Minus, Times, Left. -/
import Derived.Test.YtebfhjndgfcijaaGreatDoorRefUnit
import Derived.Test.YtebfhjndgfcijaaGreatDoorPlus
import Derived.Test.YtebfhjndgfcijaaGreatDoorMinus
import Derived.Test.YtebfhjndgfcijaaGreatDoorTimesf
namespace Go.Proofs.YtebfhjndgfcijaaGreatDoor
open Go Go.RowKit

theorem two_new (w : World) (a b : Int) :
    SpotAt ((w.alloc (.cells #[.int .i64 a, .int .i64 b] 33)).alloc (.cells #[.int .i64 0, .int .i64 0] 33)) w.heap.size a b ∧
    Zed ((w.alloc (.cells #[.int .i64 a, .int .i64 b] 33)).alloc (.cells #[.int .i64 0, .int .i64 0] 33)) (w.heap.size + 1) (.int .i64 0) (.int .i64 0) :=
  ⟨⟨by simp [go_sem], by simp [go_sem]⟩, ⟨by simp [go_sem], by simp [go_sem]⟩, by simp [go_sem], by simp [go_sem]⟩
theorem three_new (w : World) (a b c d : Int) :
    SpotAt (((w.alloc (.cells #[.int .i64 a, .int .i64 b] 33)).alloc (.cells #[.int .i64 c, .int .i64 d] 33)).alloc (.cells #[.int .i64 0, .int .i64 0] 33)) w.heap.size a b ∧
    SpotAt (((w.alloc (.cells #[.int .i64 a, .int .i64 b] 33)).alloc (.cells #[.int .i64 c, .int .i64 d] 33)).alloc (.cells #[.int .i64 0, .int .i64 0] 33)) (w.heap.size + 1) c d ∧
    Zed (((w.alloc (.cells #[.int .i64 a, .int .i64 b] 33)).alloc (.cells #[.int .i64 c, .int .i64 d] 33)).alloc (.cells #[.int .i64 0, .int .i64 0] 33)) (w.heap.size + 1 + 1) (.int .i64 0) (.int .i64 0) :=
  ⟨⟨by simp [go_sem], by simp [go_sem]⟩, ⟨by simp [go_sem], by simp [go_sem]⟩, ⟨by simp [go_sem], by simp [go_sem]⟩, by simp [go_sem], by simp [go_sem]⟩

/-- What both gives. -/
def bothS (x e y f : Int) : (Int × Int) × Int := if e = 0 ∧ f = 0 then ((x, y), 0) else ((0, 0), max e f)

set_option maxRecDepth 100000 in
set_option maxHeartbeats 1000000 in
theorem refBoth_ok (x y : Int) (w : World) :
    Calls Tryz.prog 67 #[.int .i64 x, .int .i64 0, .int .i64 y, .int .i64 0] w fun e' w' => e' = .returned (.tuple #[.agg #[.int .i64 x, .int .i64 y], .int .i64 0]) ∧ Below w.heap.size w w' := by
  go_enter Tryz.func67, Tryz.ntmps67
  go_wp2_with fail
  exact bodyPost_ret (v := .tuple #[.agg #[.int .i64 x, .int .i64 y], .int .i64 0]) (by simp [results, Tryz.results67, go_sem]) rfl
    ⟨rfl, by repeat' (first | assumption | exact Below.refl _ _ | (with_reducible refine Below.drew ?_) | (with_reducible refine ks ?_ _ (by first | exact Nat.le_refl _ | (simp; done) | (simp; omega))) | (with_reducible refine ka ?_ _) | (refine kc ?_ (by assumption)))⟩

set_option maxRecDepth 100000 in
set_option maxHeartbeats 1000000 in
theorem refBoth_bad (x e y f : Int) (w : World) (h : ¬ (e = 0 ∧ f = 0)) :
    Calls Tryz.prog 67 #[.int .i64 x, .int .i64 e, .int .i64 y, .int .i64 f] w fun e' w' => e' = .returned (.tuple #[.agg #[.int .i64 0, .int .i64 0], .int .i64 (max e f)]) ∧ Below w.heap.size w w' := by
  by_cases he : e = 0
  · subst he
    have hf : ¬ f = 0 := fun hf => h ⟨rfl, hf⟩
    clear h
    go_enter Tryz.func67, Tryz.ntmps67
    go_wp2_with fail
    exact bodyPost_ret (v := .tuple #[.agg #[.int .i64 0, .int .i64 0], .int .i64 (max 0 f)]) (by simp [results, Tryz.results67, go_sem]) rfl
      ⟨rfl, by repeat' (first | assumption | exact Below.refl _ _ | (with_reducible refine Below.drew ?_) | (with_reducible refine ks ?_ _ (by first | exact Nat.le_refl _ | (simp; done) | (simp; omega))) | (with_reducible refine ka ?_ _) | (refine kc ?_ (by assumption)))⟩
  · clear h
    go_enter Tryz.func67, Tryz.ntmps67
    go_wp2_with fail
    exact bodyPost_ret (v := .tuple #[.agg #[.int .i64 0, .int .i64 0], .int .i64 (max e f)]) (by simp [results, Tryz.results67, go_sem]) rfl
      ⟨rfl, by repeat' (first | assumption | exact Below.refl _ _ | (with_reducible refine Below.drew ?_) | (with_reducible refine ks ?_ _ (by first | exact Nat.le_refl _ | (simp; done) | (simp; omega))) | (with_reducible refine ka ?_ _) | (refine kc ?_ (by assumption)))⟩
theorem refBoth (x e y f : Int) (w : World) :
    Calls Tryz.prog 67 #[.int .i64 x, .int .i64 e, .int .i64 y, .int .i64 f] w fun e' w' => e' = .returned (.tuple #[.agg #[.int .i64 (bothS x e y f).1.1, .int .i64 (bothS x e y f).1.2], .int .i64 (bothS x e y f).2]) ∧ Below w.heap.size w w' := by
  unfold bothS
  by_cases h : e = 0 ∧ f = 0
  · rw [if_pos h]
    obtain ⟨rfl, rfl⟩ := h
    exact refBoth_ok x y w
  · rw [if_neg h]
    exact refBoth_bad x e y f w h

set_option maxRecDepth 100000 in
set_option maxHeartbeats 1000000 in
theorem refPlus_in (ax ay bx bz x e y f u v n : Int) (X Y : Int → Int → Int) (w : World) (hx : X ax bx = x) (he : Y ax bx = e) (hy : X ay bz = y) (hf : Y ay bz = f) (h1 : ¬ e = 2) (h2 : ¬ f = 2)
    (CA : Hid (∀ a b w, Calls Tryz.prog 66 #[.int .i64 a, .int .i64 b] w fun e' w' => e' = .returned (.tuple #[.int .i64 (X a b), .int .i64 (Y a b)]) ∧ Below w.heap.size w w'))
    (CB : Hid (∀ w, Calls Tryz.prog 67 #[.int .i64 x, .int .i64 e, .int .i64 y, .int .i64 f] w fun e' w' => e' = .returned (.tuple #[.agg #[.int .i64 u, .int .i64 v], .int .i64 n]) ∧ Below w.heap.size w w')) :
    Calls Tryz.prog 13 #[.agg #[.int .i64 ax, .int .i64 ay], .agg #[.int .i64 bx, .int .i64 bz]] w fun e' w' => e' = .returned (.tuple #[.agg #[.int .i64 u, .int .i64 v], .int .i64 n]) ∧ Below w.heap.size w w' := by
  have b1 : (Y ax bx == 2) = false := by rw [he]; exact beq_eq_false_iff_ne.2 h1
  have b2 : (Y ay bz == 2) = false := by rw [hf]; exact beq_eq_false_iff_ne.2 h2
  subst hx he hy hf
  go_enter Tryz.func13, Tryz.ntmps13
  go_wp2_with (first | (go_at_call 66; have HM := HB1; refine (CA.out _ _ _).mono ?_; clear HM; rintro e' w2 ⟨rfl, hb2⟩; obtain ⟨ax2, ay2⟩ := spot_later hb2 ⟨ax1, ay1⟩; have ag2 := World.block_lt_of_cell? _ _ ax2; obtain ⟨bx2, by2⟩ := spot_later hb2 ⟨bx1, by1⟩; have bg2 := World.block_lt_of_cell? _ _ bx2; have Z2 := Lib.hid (Zed.later Z1.out hb2); have hX := Z2.out; obtain ⟨⟨zx2, zy2⟩, zf2, zg2⟩ := hX; have HB2 := Lib.hid hb2; clear hb2) | (go_at_call 66; refine (CA.out _ _ _).mono ?_; rintro e' w1 ⟨rfl, hb1⟩; obtain ⟨ax1, ay1⟩ := spot_later hb1 (three_new w ax ay bx bz).1; have ag1 := World.block_lt_of_cell? _ _ ax1; obtain ⟨bx1, by1⟩ := spot_later hb1 (three_new w ax ay bx bz).2.1; have bg1 := World.block_lt_of_cell? _ _ bx1; have Z1 := Lib.hid (Zed.later (three_new w ax ay bx bz).2.2 hb1); have HB1 := Lib.hid hb1; clear hb1) | (go_at_call 67; refine (CB.out _).mono ?_; rintro e' w3 ⟨rfl, hb3⟩; obtain ⟨⟨zx3, zy3⟩, zf3, zg3⟩ := Zed.later Z2.out hb3; have HB3 := Lib.hid hb3; clear hb3))
  obtain ⟨k1, k2⟩ := set_pair (.int .i64 u) (.int .i64 v) zx3 zy3
  have q1 := HB1.out; have q2 := HB2.out; have q3 := HB3.out
  exact bodyPost_ret (v := .tuple #[.agg #[.int .i64 u, .int .i64 v], .int .i64 n]) (by simp [results, Tryz.results13, go_sem, k1, k2]) rfl
    ⟨rfl, by repeat' (first | assumption | exact Below.refl _ _ | (with_reducible refine Below.drew ?_) | (with_reducible refine ks ?_ _ (by first | exact Nat.le_refl _ | (simp; done) | (simp; omega))) | (with_reducible refine ka ?_ _) | (refine kc ?_ (by assumption)))⟩

set_option maxRecDepth 100000 in
set_option maxHeartbeats 1000000 in
theorem refPlus_arg (ax ay bx bz : Int) (X Y : Int → Int → Int) (w : World) (h : Y ax bx = 2 ∨ Y ay bz = 2)
    (CA : Hid (∀ a b w, Calls Tryz.prog 66 #[.int .i64 a, .int .i64 b] w fun e' w' => e' = .returned (.tuple #[.int .i64 (X a b), .int .i64 (Y a b)]) ∧ Below w.heap.size w w')) :
    Calls Tryz.prog 13 #[.agg #[.int .i64 ax, .int .i64 ay], .agg #[.int .i64 bx, .int .i64 bz]] w fun e' w' => e' = .returned (.tuple #[.agg #[.int .i64 0, .int .i64 0], .int .i64 2]) ∧ Below w.heap.size w w' := by
  by_cases h1 : Y ax bx = 2
  · clear h
    go_enter Tryz.func13, Tryz.ntmps13
    go_wp2_with (first | (go_at_call 66; have HM := HB1; refine (CA.out _ _ _).mono ?_; clear HM; rintro e' w2 ⟨rfl, hb2⟩; obtain ⟨ax2, ay2⟩ := spot_later hb2 ⟨ax1, ay1⟩; have ag2 := World.block_lt_of_cell? _ _ ax2; obtain ⟨bx2, by2⟩ := spot_later hb2 ⟨bx1, by1⟩; have bg2 := World.block_lt_of_cell? _ _ bx2; have Z2 := Lib.hid (Zed.later Z1.out hb2); have hX := Z2.out; obtain ⟨⟨zx2, zy2⟩, zf2, zg2⟩ := hX; have HB2 := Lib.hid hb2; clear hb2) | (go_at_call 66; refine (CA.out _ _ _).mono ?_; rintro e' w1 ⟨rfl, hb1⟩; obtain ⟨ax1, ay1⟩ := spot_later hb1 (three_new w ax ay bx bz).1; have ag1 := World.block_lt_of_cell? _ _ ax1; obtain ⟨bx1, by1⟩ := spot_later hb1 (three_new w ax ay bx bz).2.1; have bg1 := World.block_lt_of_cell? _ _ bx1; have Z1 := Lib.hid (Zed.later (three_new w ax ay bx bz).2.2 hb1); have HB1 := Lib.hid hb1; clear hb1))
    obtain ⟨k1, k2⟩ := set_pair (.int .i64 0) (.int .i64 0) zx2 zy2
    have q1 := HB1.out; have q2 := HB2.out
    exact bodyPost_ret (v := .tuple #[.agg #[.int .i64 0, .int .i64 0], .int .i64 2]) (by simp [results, Tryz.results13, go_sem, k1, k2]) rfl
      ⟨rfl, by repeat' (first | assumption | exact Below.refl _ _ | (with_reducible refine Below.drew ?_) | (with_reducible refine ks ?_ _ (by first | exact Nat.le_refl _ | (simp; done) | (simp; omega))) | (with_reducible refine ka ?_ _) | (refine kc ?_ (by assumption)))⟩
  · have h2 : Y ay bz = 2 := h.resolve_left h1
    clear h
    go_enter Tryz.func13, Tryz.ntmps13
    go_wp2_with (first | (go_at_call 66; have HM := HB1; refine (CA.out _ _ _).mono ?_; clear HM; rintro e' w2 ⟨rfl, hb2⟩; obtain ⟨ax2, ay2⟩ := spot_later hb2 ⟨ax1, ay1⟩; have ag2 := World.block_lt_of_cell? _ _ ax2; obtain ⟨bx2, by2⟩ := spot_later hb2 ⟨bx1, by1⟩; have bg2 := World.block_lt_of_cell? _ _ bx2; have Z2 := Lib.hid (Zed.later Z1.out hb2); have hX := Z2.out; obtain ⟨⟨zx2, zy2⟩, zf2, zg2⟩ := hX; have HB2 := Lib.hid hb2; clear hb2) | (go_at_call 66; refine (CA.out _ _ _).mono ?_; rintro e' w1 ⟨rfl, hb1⟩; obtain ⟨ax1, ay1⟩ := spot_later hb1 (three_new w ax ay bx bz).1; have ag1 := World.block_lt_of_cell? _ _ ax1; obtain ⟨bx1, by1⟩ := spot_later hb1 (three_new w ax ay bx bz).2.1; have bg1 := World.block_lt_of_cell? _ _ bx1; have Z1 := Lib.hid (Zed.later (three_new w ax ay bx bz).2.2 hb1); have HB1 := Lib.hid hb1; clear hb1))
    obtain ⟨k1, k2⟩ := set_pair (.int .i64 0) (.int .i64 0) zx2 zy2
    have q1 := HB1.out; have q2 := HB2.out
    exact bodyPost_ret (v := .tuple #[.agg #[.int .i64 0, .int .i64 0], .int .i64 2]) (by simp [results, Tryz.results13, go_sem, k1, k2]) rfl
      ⟨rfl, by repeat' (first | assumption | exact Below.refl _ _ | (with_reducible refine Below.drew ?_) | (with_reducible refine ks ?_ _ (by first | exact Nat.le_refl _ | (simp; done) | (simp; omega))) | (with_reducible refine ka ?_ _) | (refine kc ?_ (by assumption)))⟩

set_option maxRecDepth 100000 in
set_option maxHeartbeats 1000000 in
theorem refMinus_in (ax ay bx bz x e y f u v n : Int) (X Y : Int → Int → Int) (w : World) (hx : X ax bx = x) (he : Y ax bx = e) (hy : X ay bz = y) (hf : Y ay bz = f) (h1 : ¬ e = 2) (h2 : ¬ f = 2)
    (CA : Hid (∀ a b w, Calls Tryz.prog 70 #[.int .i64 a, .int .i64 b] w fun e' w' => e' = .returned (.tuple #[.int .i64 (X a b), .int .i64 (Y a b)]) ∧ Below w.heap.size w w'))
    (CB : Hid (∀ w, Calls Tryz.prog 67 #[.int .i64 x, .int .i64 e, .int .i64 y, .int .i64 f] w fun e' w' => e' = .returned (.tuple #[.agg #[.int .i64 u, .int .i64 v], .int .i64 n]) ∧ Below w.heap.size w w')) :
    Calls Tryz.prog 15 #[.agg #[.int .i64 ax, .int .i64 ay], .agg #[.int .i64 bx, .int .i64 bz]] w fun e' w' => e' = .returned (.tuple #[.agg #[.int .i64 u, .int .i64 v], .int .i64 n]) ∧ Below w.heap.size w w' := by
  have b1 : (Y ax bx == 2) = false := by rw [he]; exact beq_eq_false_iff_ne.2 h1
  have b2 : (Y ay bz == 2) = false := by rw [hf]; exact beq_eq_false_iff_ne.2 h2
  subst hx he hy hf
  go_enter Tryz.func15, Tryz.ntmps15
  go_wp2_with (first | (go_at_call 70; have HM := HB1; refine (CA.out _ _ _).mono ?_; clear HM; rintro e' w2 ⟨rfl, hb2⟩; obtain ⟨ax2, ay2⟩ := spot_later hb2 ⟨ax1, ay1⟩; have ag2 := World.block_lt_of_cell? _ _ ax2; obtain ⟨bx2, by2⟩ := spot_later hb2 ⟨bx1, by1⟩; have bg2 := World.block_lt_of_cell? _ _ bx2; have Z2 := Lib.hid (Zed.later Z1.out hb2); have hX := Z2.out; obtain ⟨⟨zx2, zy2⟩, zf2, zg2⟩ := hX; have HB2 := Lib.hid hb2; clear hb2) | (go_at_call 70; refine (CA.out _ _ _).mono ?_; rintro e' w1 ⟨rfl, hb1⟩; obtain ⟨ax1, ay1⟩ := spot_later hb1 (three_new w ax ay bx bz).1; have ag1 := World.block_lt_of_cell? _ _ ax1; obtain ⟨bx1, by1⟩ := spot_later hb1 (three_new w ax ay bx bz).2.1; have bg1 := World.block_lt_of_cell? _ _ bx1; have Z1 := Lib.hid (Zed.later (three_new w ax ay bx bz).2.2 hb1); have HB1 := Lib.hid hb1; clear hb1) | (go_at_call 67; refine (CB.out _).mono ?_; rintro e' w3 ⟨rfl, hb3⟩; obtain ⟨⟨zx3, zy3⟩, zf3, zg3⟩ := Zed.later Z2.out hb3; have HB3 := Lib.hid hb3; clear hb3))
  obtain ⟨k1, k2⟩ := set_pair (.int .i64 u) (.int .i64 v) zx3 zy3
  have q1 := HB1.out; have q2 := HB2.out; have q3 := HB3.out
  exact bodyPost_ret (v := .tuple #[.agg #[.int .i64 u, .int .i64 v], .int .i64 n]) (by simp [results, Tryz.results15, go_sem, k1, k2]) rfl
    ⟨rfl, by repeat' (first | assumption | exact Below.refl _ _ | (with_reducible refine Below.drew ?_) | (with_reducible refine ks ?_ _ (by first | exact Nat.le_refl _ | (simp; done) | (simp; omega))) | (with_reducible refine ka ?_ _) | (refine kc ?_ (by assumption)))⟩

set_option maxRecDepth 100000 in
set_option maxHeartbeats 1000000 in
theorem refMinus_arg (ax ay bx bz : Int) (X Y : Int → Int → Int) (w : World) (h : Y ax bx = 2 ∨ Y ay bz = 2)
    (CA : Hid (∀ a b w, Calls Tryz.prog 70 #[.int .i64 a, .int .i64 b] w fun e' w' => e' = .returned (.tuple #[.int .i64 (X a b), .int .i64 (Y a b)]) ∧ Below w.heap.size w w')) :
    Calls Tryz.prog 15 #[.agg #[.int .i64 ax, .int .i64 ay], .agg #[.int .i64 bx, .int .i64 bz]] w fun e' w' => e' = .returned (.tuple #[.agg #[.int .i64 0, .int .i64 0], .int .i64 2]) ∧ Below w.heap.size w w' := by
  by_cases h1 : Y ax bx = 2
  · clear h
    go_enter Tryz.func15, Tryz.ntmps15
    go_wp2_with (first | (go_at_call 70; have HM := HB1; refine (CA.out _ _ _).mono ?_; clear HM; rintro e' w2 ⟨rfl, hb2⟩; obtain ⟨ax2, ay2⟩ := spot_later hb2 ⟨ax1, ay1⟩; have ag2 := World.block_lt_of_cell? _ _ ax2; obtain ⟨bx2, by2⟩ := spot_later hb2 ⟨bx1, by1⟩; have bg2 := World.block_lt_of_cell? _ _ bx2; have Z2 := Lib.hid (Zed.later Z1.out hb2); have hX := Z2.out; obtain ⟨⟨zx2, zy2⟩, zf2, zg2⟩ := hX; have HB2 := Lib.hid hb2; clear hb2) | (go_at_call 70; refine (CA.out _ _ _).mono ?_; rintro e' w1 ⟨rfl, hb1⟩; obtain ⟨ax1, ay1⟩ := spot_later hb1 (three_new w ax ay bx bz).1; have ag1 := World.block_lt_of_cell? _ _ ax1; obtain ⟨bx1, by1⟩ := spot_later hb1 (three_new w ax ay bx bz).2.1; have bg1 := World.block_lt_of_cell? _ _ bx1; have Z1 := Lib.hid (Zed.later (three_new w ax ay bx bz).2.2 hb1); have HB1 := Lib.hid hb1; clear hb1))
    obtain ⟨k1, k2⟩ := set_pair (.int .i64 0) (.int .i64 0) zx2 zy2
    have q1 := HB1.out; have q2 := HB2.out
    exact bodyPost_ret (v := .tuple #[.agg #[.int .i64 0, .int .i64 0], .int .i64 2]) (by simp [results, Tryz.results15, go_sem, k1, k2]) rfl
      ⟨rfl, by repeat' (first | assumption | exact Below.refl _ _ | (with_reducible refine Below.drew ?_) | (with_reducible refine ks ?_ _ (by first | exact Nat.le_refl _ | (simp; done) | (simp; omega))) | (with_reducible refine ka ?_ _) | (refine kc ?_ (by assumption)))⟩
  · have h2 : Y ay bz = 2 := h.resolve_left h1
    clear h
    go_enter Tryz.func15, Tryz.ntmps15
    go_wp2_with (first | (go_at_call 70; have HM := HB1; refine (CA.out _ _ _).mono ?_; clear HM; rintro e' w2 ⟨rfl, hb2⟩; obtain ⟨ax2, ay2⟩ := spot_later hb2 ⟨ax1, ay1⟩; have ag2 := World.block_lt_of_cell? _ _ ax2; obtain ⟨bx2, by2⟩ := spot_later hb2 ⟨bx1, by1⟩; have bg2 := World.block_lt_of_cell? _ _ bx2; have Z2 := Lib.hid (Zed.later Z1.out hb2); have hX := Z2.out; obtain ⟨⟨zx2, zy2⟩, zf2, zg2⟩ := hX; have HB2 := Lib.hid hb2; clear hb2) | (go_at_call 70; refine (CA.out _ _ _).mono ?_; rintro e' w1 ⟨rfl, hb1⟩; obtain ⟨ax1, ay1⟩ := spot_later hb1 (three_new w ax ay bx bz).1; have ag1 := World.block_lt_of_cell? _ _ ax1; obtain ⟨bx1, by1⟩ := spot_later hb1 (three_new w ax ay bx bz).2.1; have bg1 := World.block_lt_of_cell? _ _ bx1; have Z1 := Lib.hid (Zed.later (three_new w ax ay bx bz).2.2 hb1); have HB1 := Lib.hid hb1; clear hb1))
    obtain ⟨k1, k2⟩ := set_pair (.int .i64 0) (.int .i64 0) zx2 zy2
    have q1 := HB1.out; have q2 := HB2.out
    exact bodyPost_ret (v := .tuple #[.agg #[.int .i64 0, .int .i64 0], .int .i64 2]) (by simp [results, Tryz.results15, go_sem, k1, k2]) rfl
      ⟨rfl, by repeat' (first | assumption | exact Below.refl _ _ | (with_reducible refine Below.drew ?_) | (with_reducible refine ks ?_ _ (by first | exact Nat.le_refl _ | (simp; done) | (simp; omega))) | (with_reducible refine ka ?_ _) | (refine kc ?_ (by assumption)))⟩

set_option maxRecDepth 100000 in
set_option maxHeartbeats 1000000 in
theorem refTimes_in (ax ay b how x e y f u v n : Int) (X Y : Int → Int) (w : World) (hx : X ax = x) (he : Y ax = e) (hy : X ay = y) (hf : Y ay = f) (h1 : ¬ e = 2) (h2 : ¬ f = 2)
    (CA : Hid (∀ a w, Calls Tryz.prog 74 #[.int .i64 a, .int .i64 b, .int .i64 how] w fun e' w' => e' = .returned (.tuple #[.int .i64 (X a), .int .i64 (Y a)]) ∧ Below w.heap.size w w'))
    (CB : Hid (∀ w, Calls Tryz.prog 67 #[.int .i64 x, .int .i64 e, .int .i64 y, .int .i64 f] w fun e' w' => e' = .returned (.tuple #[.agg #[.int .i64 u, .int .i64 v], .int .i64 n]) ∧ Below w.heap.size w w')) :
    Calls Tryz.prog 17 #[.agg #[.int .i64 ax, .int .i64 ay], .int .i64 b, .int .i64 how] w fun e' w' => e' = .returned (.tuple #[.agg #[.int .i64 u, .int .i64 v], .int .i64 n]) ∧ Below w.heap.size w w' := by
  have b1 : (Y ax == 2) = false := by rw [he]; exact beq_eq_false_iff_ne.2 h1
  have b2 : (Y ay == 2) = false := by rw [hf]; exact beq_eq_false_iff_ne.2 h2
  subst hx he hy hf
  go_enter Tryz.func17, Tryz.ntmps17
  go_wp2_with (first | (go_at_call 74; have HM := HB1; refine (CA.out _ _).mono ?_; clear HM; rintro e' w2 ⟨rfl, hb2⟩; obtain ⟨ax2, ay2⟩ := spot_later hb2 ⟨ax1, ay1⟩; have ag2 := World.block_lt_of_cell? _ _ ax2; have Z2 := Lib.hid (Zed.later Z1.out hb2); have hX := Z2.out; obtain ⟨⟨zx2, zy2⟩, zf2, zg2⟩ := hX; have HB2 := Lib.hid hb2; clear hb2) | (go_at_call 74; refine (CA.out _ _).mono ?_; rintro e' w1 ⟨rfl, hb1⟩; obtain ⟨ax1, ay1⟩ := spot_later hb1 (two_new w ax ay).1; have ag1 := World.block_lt_of_cell? _ _ ax1; have Z1 := Lib.hid (Zed.later (two_new w ax ay).2 hb1); have HB1 := Lib.hid hb1; clear hb1) | (go_at_call 67; refine (CB.out _).mono ?_; rintro e' w3 ⟨rfl, hb3⟩; obtain ⟨⟨zx3, zy3⟩, zf3, zg3⟩ := Zed.later Z2.out hb3; have HB3 := Lib.hid hb3; clear hb3))
  obtain ⟨k1, k2⟩ := set_pair (.int .i64 u) (.int .i64 v) zx3 zy3
  have q1 := HB1.out; have q2 := HB2.out; have q3 := HB3.out
  exact bodyPost_ret (v := .tuple #[.agg #[.int .i64 u, .int .i64 v], .int .i64 n]) (by simp [results, Tryz.results17, go_sem, k1, k2]) rfl
    ⟨rfl, by repeat' (first | assumption | exact Below.refl _ _ | (with_reducible refine Below.drew ?_) | (with_reducible refine ks ?_ _ (by first | exact Nat.le_refl _ | (simp; done) | (simp; omega))) | (with_reducible refine ka ?_ _) | (refine kc ?_ (by assumption)))⟩

set_option maxRecDepth 100000 in
set_option maxHeartbeats 1000000 in
theorem refTimes_arg (ax ay b how : Int) (X Y : Int → Int) (w : World) (h : Y ax = 2 ∨ Y ay = 2)
    (CA : Hid (∀ a w, Calls Tryz.prog 74 #[.int .i64 a, .int .i64 b, .int .i64 how] w fun e' w' => e' = .returned (.tuple #[.int .i64 (X a), .int .i64 (Y a)]) ∧ Below w.heap.size w w')) :
    Calls Tryz.prog 17 #[.agg #[.int .i64 ax, .int .i64 ay], .int .i64 b, .int .i64 how] w fun e' w' => e' = .returned (.tuple #[.agg #[.int .i64 0, .int .i64 0], .int .i64 2]) ∧ Below w.heap.size w w' := by
  by_cases h1 : Y ax = 2
  · clear h
    go_enter Tryz.func17, Tryz.ntmps17
    go_wp2_with (first | (go_at_call 74; have HM := HB1; refine (CA.out _ _).mono ?_; clear HM; rintro e' w2 ⟨rfl, hb2⟩; obtain ⟨ax2, ay2⟩ := spot_later hb2 ⟨ax1, ay1⟩; have ag2 := World.block_lt_of_cell? _ _ ax2; have Z2 := Lib.hid (Zed.later Z1.out hb2); have hX := Z2.out; obtain ⟨⟨zx2, zy2⟩, zf2, zg2⟩ := hX; have HB2 := Lib.hid hb2; clear hb2) | (go_at_call 74; refine (CA.out _ _).mono ?_; rintro e' w1 ⟨rfl, hb1⟩; obtain ⟨ax1, ay1⟩ := spot_later hb1 (two_new w ax ay).1; have ag1 := World.block_lt_of_cell? _ _ ax1; have Z1 := Lib.hid (Zed.later (two_new w ax ay).2 hb1); have HB1 := Lib.hid hb1; clear hb1))
    obtain ⟨k1, k2⟩ := set_pair (.int .i64 0) (.int .i64 0) zx2 zy2
    have q1 := HB1.out; have q2 := HB2.out
    exact bodyPost_ret (v := .tuple #[.agg #[.int .i64 0, .int .i64 0], .int .i64 2]) (by simp [results, Tryz.results17, go_sem, k1, k2]) rfl
      ⟨rfl, by repeat' (first | assumption | exact Below.refl _ _ | (with_reducible refine Below.drew ?_) | (with_reducible refine ks ?_ _ (by first | exact Nat.le_refl _ | (simp; done) | (simp; omega))) | (with_reducible refine ka ?_ _) | (refine kc ?_ (by assumption)))⟩
  · have h2 : Y ay = 2 := h.resolve_left h1
    clear h
    go_enter Tryz.func17, Tryz.ntmps17
    go_wp2_with (first | (go_at_call 74; have HM := HB1; refine (CA.out _ _).mono ?_; clear HM; rintro e' w2 ⟨rfl, hb2⟩; obtain ⟨ax2, ay2⟩ := spot_later hb2 ⟨ax1, ay1⟩; have ag2 := World.block_lt_of_cell? _ _ ax2; have Z2 := Lib.hid (Zed.later Z1.out hb2); have hX := Z2.out; obtain ⟨⟨zx2, zy2⟩, zf2, zg2⟩ := hX; have HB2 := Lib.hid hb2; clear hb2) | (go_at_call 74; refine (CA.out _ _).mono ?_; rintro e' w1 ⟨rfl, hb1⟩; obtain ⟨ax1, ay1⟩ := spot_later hb1 (two_new w ax ay).1; have ag1 := World.block_lt_of_cell? _ _ ax1; have Z1 := Lib.hid (Zed.later (two_new w ax ay).2 hb1); have HB1 := Lib.hid hb1; clear hb1))
    obtain ⟨k1, k2⟩ := set_pair (.int .i64 0) (.int .i64 0) zx2 zy2
    have q1 := HB1.out; have q2 := HB2.out
    exact bodyPost_ret (v := .tuple #[.agg #[.int .i64 0, .int .i64 0], .int .i64 2]) (by simp [results, Tryz.results17, go_sem, k1, k2]) rfl
      ⟨rfl, by repeat' (first | assumption | exact Below.refl _ _ | (with_reducible refine Below.drew ?_) | (with_reducible refine ks ?_ _ (by first | exact Nat.le_refl _ | (simp; done) | (simp; omega))) | (with_reducible refine ka ?_ _) | (refine kc ?_ (by assumption)))⟩

set_option maxRecDepth 100000 in
set_option maxHeartbeats 1000000 in
theorem refLeft_in (x y my : Int) (V : Int → Bool) (w : World) (W1 : wrap64 (-y) = my) (W2 : IntKind.i64.wrap (-y) = my) (h1 : V x = true) (h2 : V y = true)
    (CP : Hid (∀ x y w, Calls Tryz.prog 77 #[.agg #[.int .i64 x, .int .i64 y]] w fun e w' => e = .returned (.bool (V x && V y)) ∧ Below w.heap.size w w')) :
    Calls Tryz.prog 22 #[.agg #[.int .i64 x, .int .i64 y]] w fun e w' => e = .returned (.agg #[.int .i64 my, .int .i64 x]) ∧ Below w.heap.size w w' := by
  go_enter Tryz.func22, Tryz.ntmps22
  go_wp2_with (first | (go_at_call 77; refine (CP.out _ _ _).mono ?_; rintro e w1 ⟨rfl, hb1⟩; obtain ⟨ax1, ay1⟩ := spot_later hb1 (two_new w x y).1; have ag1 := World.block_lt_of_cell? _ _ ax1; obtain ⟨⟨zx1, zy1⟩, zf1, zg1⟩ := Zed.later (two_new w x y).2 hb1; have HB1 := Lib.hid hb1; clear hb1))
  obtain ⟨k1, k2⟩ := set_pair (.int .i64 my) (.int .i64 x) zx1 zy1
  have q1 := HB1.out
  exact bodyPost_ret (v := .agg #[.int .i64 my, .int .i64 x]) (by simp [results, Tryz.results22, go_sem, k1, k2]) rfl
    ⟨rfl, by repeat' (first | assumption | exact Below.refl _ _ | (with_reducible refine Below.drew ?_) | (with_reducible refine ks ?_ _ (by first | exact Nat.le_refl _ | (simp; done) | (simp; omega))) | (with_reducible refine ka ?_ _) | (refine kc ?_ (by assumption)))⟩

set_option maxRecDepth 100000 in
set_option maxHeartbeats 1000000 in
theorem refLeft_out (x y : Int) (V : Int → Bool) (t u : Bool) (w : World) (h : t = false ∨ u = false) (h1 : V x = t) (h2 : V y = u)
    (CP : Hid (∀ x y w, Calls Tryz.prog 77 #[.agg #[.int .i64 x, .int .i64 y]] w fun e w' => e = .returned (.bool (V x && V y)) ∧ Below w.heap.size w w')) :
    Calls Tryz.prog 22 #[.agg #[.int .i64 x, .int .i64 y]] w fun e w' => e = .returned (.agg #[.int .i64 0, .int .i64 0]) ∧ Below w.heap.size w w' := by
  cases t <;> cases u
  case true.true => rcases h with h | h <;> cases h
  all_goals
    clear h
    go_enter Tryz.func22, Tryz.ntmps22
    go_wp2_with (first | (go_at_call 77; refine (CP.out _ _ _).mono ?_; rintro e w1 ⟨rfl, hb1⟩; obtain ⟨ax1, ay1⟩ := spot_later hb1 (two_new w x y).1; have ag1 := World.block_lt_of_cell? _ _ ax1; obtain ⟨⟨zx1, zy1⟩, zf1, zg1⟩ := Zed.later (two_new w x y).2 hb1; have HB1 := Lib.hid hb1; clear hb1))
    obtain ⟨k1, k2⟩ := set_pair (.int .i64 0) (.int .i64 0) zx1 zy1
    have q1 := HB1.out
    exact bodyPost_ret (v := .agg #[.int .i64 0, .int .i64 0]) (by simp [results, Tryz.results22, go_sem, k1, k2]) rfl
      ⟨rfl, by repeat' (first | assumption | exact Below.refl _ _ | (with_reducible refine Below.drew ?_) | (with_reducible refine ks ?_ _ (by first | exact Nat.le_refl _ | (simp; done) | (simp; omega))) | (with_reducible refine ka ?_ _) | (refine kc ?_ (by assumption)))⟩

theorem refLeftF (x y : Int) (w : World) :
    Calls Tryz.prog 22 #[.agg #[.int .i64 x, .int .i64 y]] w fun e w' => e = .returned (.agg #[.int .i64 (leftS x y).1, .int .i64 (leftS x y).2]) ∧ Below w.heap.size w w' := by
  have CP := fun x y w => refSpot x y w
  unfold leftS
  by_cases h1 : Vld x
  · by_cases h2 : Vld y
    · rw [if_pos ⟨h1, h2⟩]
      have W1 := neg_vld h2
      have W2 : IntKind.i64.wrap (-y) = -y := by rw [IntKind.wrap_i64]; unfold wrap64 at W1; exact W1
      exact refLeft_in x y _ (fun x => decide (Vld x)) w W1 W2 (decide_eq_true h1) (decide_eq_true h2) CP
    · rw [if_neg (fun h => h2 h.2)]
      exact refLeft_out x y _ _ _ w (.inr (decide_eq_false h2)) rfl rfl CP
  · rw [if_neg (fun h => h1 h.1)]
    exact refLeft_out x y _ _ _ w (.inl (decide_eq_false h1)) rfl rfl CP

theorem addS_cases (a b : Int) : (¬ (Vld a ∧ Vld b) ∧ addS a b = (0, 2)) ∨ ((Vld a ∧ Vld b) ∧ Vld (a + b) ∧ addS a b = (a + b, 0)) ∨ ((Vld a ∧ Vld b) ∧ ¬ Vld (a + b) ∧ addS a b = (0, 4)) := by
  unfold addS
  by_cases h : Vld a ∧ Vld b
  · rw [if_pos h]
    by_cases h2 : Vld (a + b)
    · rw [if_pos h2]; exact .inr (.inl ⟨h, h2, rfl⟩)
    · rw [if_neg h2]; exact .inr (.inr ⟨h, h2, rfl⟩)
  · rw [if_neg h]; exact .inl ⟨h, rfl⟩
theorem subS_cases (a b : Int) : (¬ (Vld a ∧ Vld b) ∧ subS a b = (0, 2)) ∨ ((Vld a ∧ Vld b) ∧ Vld (a - b) ∧ subS a b = (a - b, 0)) ∨ ((Vld a ∧ Vld b) ∧ ¬ Vld (a - b) ∧ subS a b = (0, 4)) := by
  unfold subS
  by_cases h : Vld a ∧ Vld b
  · rw [if_pos h]
    by_cases h2 : Vld (a - b)
    · rw [if_pos h2]; exact .inr (.inl ⟨h, h2, rfl⟩)
    · rw [if_neg h2]; exact .inr (.inr ⟨h, h2, rfl⟩)
  · rw [if_neg h]; exact .inl ⟨h, rfl⟩
theorem mulS_cases (a b how : Int) : (¬ ((Vld a ∧ Vld b) ∧ 0 ≤ how ∧ how ≤ 3) ∧ mulS a b how = (0, 2)) ∨ (((Vld a ∧ Vld b) ∧ 0 ≤ how ∧ how ≤ 3) ∧ Vld (rnd how (a * b) 65536) ∧ mulS a b how = (rnd how (a * b) 65536, 0)) ∨ (((Vld a ∧ Vld b) ∧ 0 ≤ how ∧ how ≤ 3) ∧ ¬ Vld (rnd how (a * b) 65536) ∧ mulS a b how = (0, 4)) := by
  unfold mulS
  by_cases h : (Vld a ∧ Vld b) ∧ 0 ≤ how ∧ how ≤ 3
  · rw [if_pos h]
    by_cases h2 : Vld (rnd how (a * b) 65536)
    · rw [if_pos h2]; exact .inr (.inl ⟨h, h2, rfl⟩)
    · rw [if_neg h2]; exact .inr (.inr ⟨h, h2, rfl⟩)
  · rw [if_neg h]; exact .inl ⟨h, rfl⟩

theorem refPlusF (ax ay bx bz : Int) (w : World) :
    Calls Tryz.prog 13 #[.agg #[.int .i64 ax, .int .i64 ay], .agg #[.int .i64 bx, .int .i64 bz]] w fun e' w' => e' = .returned (.tuple #[.agg #[.int .i64 (plusS ax ay bx bz).1.1, .int .i64 (plusS ax ay bx bz).1.2], .int .i64 (plusS ax ay bx bz).2]) ∧ Below w.heap.size w w' := by
  unfold plusS
  rcases addS_cases ax bx with ⟨v1, e1⟩ | ⟨v1, g1, e1⟩ | ⟨v1, g1, e1⟩
  · rw [if_neg (fun h => v1 ⟨h.1, h.2.2.1⟩)]
    exact refPlus_arg ax ay bx bz (fun a b => (addS a b).1) (fun a b => (addS a b).2) w (.inl (by simp only [e1])) (fun a b w => refAddF a b w)
  · rcases addS_cases ay bz with ⟨v2, e2⟩ | ⟨v2, g2, e2⟩ | ⟨v2, g2, e2⟩
    · rw [if_neg (fun h => v2 ⟨h.2.1, h.2.2.2⟩)]
      exact refPlus_arg ax ay bx bz (fun a b => (addS a b).1) (fun a b => (addS a b).2) w (.inr (by simp only [e2])) (fun a b w => refAddF a b w)
    · rw [if_pos ⟨v1.1, v2.1, v1.2, v2.2⟩, if_pos ⟨g1, g2⟩]
      exact refPlus_in ax ay bx bz _ 0 _ 0 _ _ _ (fun a b => (addS a b).1) (fun a b => (addS a b).2) w (congrArg Prod.fst e1) (congrArg Prod.snd e1) (congrArg Prod.fst e2) (congrArg Prod.snd e2) (by decide) (by decide) (fun a b w => refAddF a b w) (fun w => refBoth _ 0 _ 0 w)
    · rw [if_pos ⟨v1.1, v2.1, v1.2, v2.2⟩, if_neg (fun h => g2 h.2)]
      exact refPlus_in ax ay bx bz _ 0 _ 4 _ _ _ (fun a b => (addS a b).1) (fun a b => (addS a b).2) w (congrArg Prod.fst e1) (congrArg Prod.snd e1) (congrArg Prod.fst e2) (congrArg Prod.snd e2) (by decide) (by decide) (fun a b w => refAddF a b w) (fun w => refBoth _ 0 _ 4 w)
  · rcases addS_cases ay bz with ⟨v2, e2⟩ | ⟨v2, g2, e2⟩ | ⟨v2, g2, e2⟩
    · rw [if_neg (fun h => v2 ⟨h.2.1, h.2.2.2⟩)]
      exact refPlus_arg ax ay bx bz (fun a b => (addS a b).1) (fun a b => (addS a b).2) w (.inr (by simp only [e2])) (fun a b w => refAddF a b w)
    · rw [if_pos ⟨v1.1, v2.1, v1.2, v2.2⟩, if_neg (fun h => g1 h.1)]
      exact refPlus_in ax ay bx bz _ 4 _ 0 _ _ _ (fun a b => (addS a b).1) (fun a b => (addS a b).2) w (congrArg Prod.fst e1) (congrArg Prod.snd e1) (congrArg Prod.fst e2) (congrArg Prod.snd e2) (by decide) (by decide) (fun a b w => refAddF a b w) (fun w => refBoth _ 4 _ 0 w)
    · rw [if_pos ⟨v1.1, v2.1, v1.2, v2.2⟩, if_neg (fun h => g1 h.1)]
      exact refPlus_in ax ay bx bz _ 4 _ 4 _ _ _ (fun a b => (addS a b).1) (fun a b => (addS a b).2) w (congrArg Prod.fst e1) (congrArg Prod.snd e1) (congrArg Prod.fst e2) (congrArg Prod.snd e2) (by decide) (by decide) (fun a b w => refAddF a b w) (fun w => refBoth _ 4 _ 4 w)

theorem refMinusF (ax ay bx bz : Int) (w : World) :
    Calls Tryz.prog 15 #[.agg #[.int .i64 ax, .int .i64 ay], .agg #[.int .i64 bx, .int .i64 bz]] w fun e' w' => e' = .returned (.tuple #[.agg #[.int .i64 (minusS ax ay bx bz).1.1, .int .i64 (minusS ax ay bx bz).1.2], .int .i64 (minusS ax ay bx bz).2]) ∧ Below w.heap.size w w' := by
  unfold minusS
  rcases subS_cases ax bx with ⟨v1, e1⟩ | ⟨v1, g1, e1⟩ | ⟨v1, g1, e1⟩
  · rw [if_neg (fun h => v1 ⟨h.1, h.2.2.1⟩)]
    exact refMinus_arg ax ay bx bz (fun a b => (subS a b).1) (fun a b => (subS a b).2) w (.inl (by simp only [e1])) (fun a b w => refSubF a b w)
  · rcases subS_cases ay bz with ⟨v2, e2⟩ | ⟨v2, g2, e2⟩ | ⟨v2, g2, e2⟩
    · rw [if_neg (fun h => v2 ⟨h.2.1, h.2.2.2⟩)]
      exact refMinus_arg ax ay bx bz (fun a b => (subS a b).1) (fun a b => (subS a b).2) w (.inr (by simp only [e2])) (fun a b w => refSubF a b w)
    · rw [if_pos ⟨v1.1, v2.1, v1.2, v2.2⟩, if_pos ⟨g1, g2⟩]
      exact refMinus_in ax ay bx bz _ 0 _ 0 _ _ _ (fun a b => (subS a b).1) (fun a b => (subS a b).2) w (congrArg Prod.fst e1) (congrArg Prod.snd e1) (congrArg Prod.fst e2) (congrArg Prod.snd e2) (by decide) (by decide) (fun a b w => refSubF a b w) (fun w => refBoth _ 0 _ 0 w)
    · rw [if_pos ⟨v1.1, v2.1, v1.2, v2.2⟩, if_neg (fun h => g2 h.2)]
      exact refMinus_in ax ay bx bz _ 0 _ 4 _ _ _ (fun a b => (subS a b).1) (fun a b => (subS a b).2) w (congrArg Prod.fst e1) (congrArg Prod.snd e1) (congrArg Prod.fst e2) (congrArg Prod.snd e2) (by decide) (by decide) (fun a b w => refSubF a b w) (fun w => refBoth _ 0 _ 4 w)
  · rcases subS_cases ay bz with ⟨v2, e2⟩ | ⟨v2, g2, e2⟩ | ⟨v2, g2, e2⟩
    · rw [if_neg (fun h => v2 ⟨h.2.1, h.2.2.2⟩)]
      exact refMinus_arg ax ay bx bz (fun a b => (subS a b).1) (fun a b => (subS a b).2) w (.inr (by simp only [e2])) (fun a b w => refSubF a b w)
    · rw [if_pos ⟨v1.1, v2.1, v1.2, v2.2⟩, if_neg (fun h => g1 h.1)]
      exact refMinus_in ax ay bx bz _ 4 _ 0 _ _ _ (fun a b => (subS a b).1) (fun a b => (subS a b).2) w (congrArg Prod.fst e1) (congrArg Prod.snd e1) (congrArg Prod.fst e2) (congrArg Prod.snd e2) (by decide) (by decide) (fun a b w => refSubF a b w) (fun w => refBoth _ 4 _ 0 w)
    · rw [if_pos ⟨v1.1, v2.1, v1.2, v2.2⟩, if_neg (fun h => g1 h.1)]
      exact refMinus_in ax ay bx bz _ 4 _ 4 _ _ _ (fun a b => (subS a b).1) (fun a b => (subS a b).2) w (congrArg Prod.fst e1) (congrArg Prod.snd e1) (congrArg Prod.fst e2) (congrArg Prod.snd e2) (by decide) (by decide) (fun a b w => refSubF a b w) (fun w => refBoth _ 4 _ 4 w)

theorem refTimesF (ax ay b how : Int) (w : World) :
    Calls Tryz.prog 17 #[.agg #[.int .i64 ax, .int .i64 ay], .int .i64 b, .int .i64 how] w fun e' w' => e' = .returned (.tuple #[.agg #[.int .i64 (timesS ax ay b how).1.1, .int .i64 (timesS ax ay b how).1.2], .int .i64 (timesS ax ay b how).2]) ∧ Below w.heap.size w w' := by
  unfold timesS
  rcases mulS_cases ax b how with ⟨v1, e1⟩ | ⟨v1, g1, e1⟩ | ⟨v1, g1, e1⟩
  · rw [if_neg (fun h => v1 ⟨⟨h.1.1, h.1.2.2⟩, h.2⟩)]
    exact refTimes_arg ax ay b how (fun a => (mulS a b how).1) (fun a => (mulS a b how).2) w (.inl (by simp only [e1])) (fun a w => refMulF a b how w)
  · rcases mulS_cases ay b how with ⟨v2, e2⟩ | ⟨v2, g2, e2⟩ | ⟨v2, g2, e2⟩
    · rw [if_neg (fun h => v2 ⟨⟨h.1.2.1, h.1.2.2⟩, h.2⟩)]
      exact refTimes_arg ax ay b how (fun a => (mulS a b how).1) (fun a => (mulS a b how).2) w (.inr (by simp only [e2])) (fun a w => refMulF a b how w)
    · rw [if_pos ⟨⟨v1.1.1, v2.1.1, v1.1.2⟩, v1.2⟩, if_pos ⟨g1, g2⟩]
      exact refTimes_in ax ay b how _ 0 _ 0 _ _ _ (fun a => (mulS a b how).1) (fun a => (mulS a b how).2) w (congrArg Prod.fst e1) (congrArg Prod.snd e1) (congrArg Prod.fst e2) (congrArg Prod.snd e2) (by decide) (by decide) (fun a w => refMulF a b how w) (fun w => refBoth _ 0 _ 0 w)
    · rw [if_pos ⟨⟨v1.1.1, v2.1.1, v1.1.2⟩, v1.2⟩, if_neg (fun h => g2 h.2)]
      exact refTimes_in ax ay b how _ 0 _ 4 _ _ _ (fun a => (mulS a b how).1) (fun a => (mulS a b how).2) w (congrArg Prod.fst e1) (congrArg Prod.snd e1) (congrArg Prod.fst e2) (congrArg Prod.snd e2) (by decide) (by decide) (fun a w => refMulF a b how w) (fun w => refBoth _ 0 _ 4 w)
  · rcases mulS_cases ay b how with ⟨v2, e2⟩ | ⟨v2, g2, e2⟩ | ⟨v2, g2, e2⟩
    · rw [if_neg (fun h => v2 ⟨⟨h.1.2.1, h.1.2.2⟩, h.2⟩)]
      exact refTimes_arg ax ay b how (fun a => (mulS a b how).1) (fun a => (mulS a b how).2) w (.inr (by simp only [e2])) (fun a w => refMulF a b how w)
    · rw [if_pos ⟨⟨v1.1.1, v2.1.1, v1.1.2⟩, v1.2⟩, if_neg (fun h => g1 h.1)]
      exact refTimes_in ax ay b how _ 4 _ 0 _ _ _ (fun a => (mulS a b how).1) (fun a => (mulS a b how).2) w (congrArg Prod.fst e1) (congrArg Prod.snd e1) (congrArg Prod.fst e2) (congrArg Prod.snd e2) (by decide) (by decide) (fun a w => refMulF a b how w) (fun w => refBoth _ 4 _ 0 w)
    · rw [if_pos ⟨⟨v1.1.1, v2.1.1, v1.1.2⟩, v1.2⟩, if_neg (fun h => g1 h.1)]
      exact refTimes_in ax ay b how _ 4 _ 4 _ _ _ (fun a => (mulS a b how).1) (fun a => (mulS a b how).2) w (congrArg Prod.fst e1) (congrArg Prod.snd e1) (congrArg Prod.fst e2) (congrArg Prod.snd e2) (by decide) (by decide) (fun a w => refMulF a b how w) (fun w => refBoth _ 4 _ 4 w)

end Go.Proofs.YtebfhjndgfcijaaGreatDoor
