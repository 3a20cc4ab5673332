/- The document's own answers: Dot. -/
import Derived.Test.YtebfhjndgfcijaaGreatDoorRefSide
import Derived.Test.YtebfhjndgfcijaaGreatDoorDotf
import Derived.Test.YtebfhjndgfcijaaGreatDoorPair
namespace Go.Proofs.YtebfhjndgfcijaaGreatDoor
open Go Go.RowKit

theorem spot_drew {W : World} {b : Nat} {x y : Int} (h : SpotAt W b x y) : SpotAt W.drew b x y := h
theorem spot_quad {W : World} {b c : Nat} {x y u v : Int} (h : SpotAt W b x y) (h' : SpotAt W c u v) : W.cell? ⟨b, 0, none⟩ = some (.int .i64 x) ∧ W.cell? ⟨b, 1, none⟩ = some (.int .i64 y) ∧ W.cell? ⟨c, 0, none⟩ = some (.int .i64 u) ∧ W.cell? ⟨c, 1, none⟩ = some (.int .i64 v) := ⟨h.1, h.2, h'.1, h'.2⟩

/-- A box that holds a number with a sign. -/
def SumAt (W : World) (g : Nat) (r : Bool) (K : Nat) : Prop := ∃ p l c, (W.cell? ⟨g, 0, none⟩ = some (.bool r) ∧ W.cell? ⟨g, 1, none⟩ = some (.slice p l c)) ∧ Holds W (.slice p l c) K
theorem sumAt_set {W : World} {g : Nat} {p : Option Addr} {l c K : Nat} (r : Bool) (hz : Zed W g (.bool false) (.slice none 0 0)) (h : Holds W (.slice p l c) K) :
    SumAt ((W.setCell ⟨g, 0, none⟩ (.bool r)).setCell ⟨g, 1, none⟩ (.slice p l c)) g r K := by
  obtain ⟨k1, k2⟩ := set_pair (.bool r) (.slice p l c) hz.1.1 hz.1.2
  exact ⟨p, l, c, ⟨(World.cell?_setCell_other _ _ _ _ (by simp)).trans k1, k2⟩, (h.set (x := .bool r) (k := 0) hz.1.1).set k1⟩
theorem sumAt_new {W : World} {p : Option Addr} {l c K : Nat} (r : Bool) (T : Nat) (h : Holds W (.slice p l c) K) :
    SumAt (W.alloc (.cells #[.bool r, .slice p l c] T)) W.heap.size r K :=
  ⟨p, l, c, ⟨by simp [go_sem], by simp [go_sem]⟩, h.later (ka (Below.refl _ _) _)⟩

set_option maxRecDepth 100000 in
set_option maxHeartbeats 1000000 in
theorem refDot_in (ax ay bx bz how R E : Int) (V : Int → Bool) (T : Int → Int → Bool) (N : Int → Int → Nat) (G : Int → Nat) (r H : Bool) (K : Nat) (w : World) (h1 : V ax = true) (h2 : V ay = true) (h3 : V bx = true) (h4 : V bz = true) (hH : H = true)
    (CP : Hid (∀ x y w, Calls Tryz.prog 77 #[.agg #[.int .i64 x, .int .i64 y]] w fun e w' => e = .returned (.bool (V x && V y)) ∧ Below w.heap.size w w'))
    (CH : Hid (∀ w, Calls Tryz.prog 46 #[.int .i64 how] w fun e w' => e = .returned (.bool H) ∧ w = w'))
    (CR : Hid (∀ x y w, V x = true → V y = true → Calls Tryz.prog 79 #[.int .i64 x, .int .i64 y] w fun e w' => ∃ v, e = .returned (.agg #[.bool (T x y), v]) ∧ Holds w' v (N x y) ∧ Below w.heap.size w w'))
    (CM : Hid (∀ w va vb, Holds w va (N ax bx) → Holds w vb (N ay bz) → Calls Tryz.prog 78 #[.agg #[.bool (T ax bx), va], .agg #[.bool (T ay bz), vb]] w fun e w' => ∃ v, e = .returned (.agg #[.bool r, v]) ∧ Holds w' v K ∧ Below w.heap.size w w'))
    (CO : Hid (∀ x w, 0 ≤ x → x ≤ 70368744177664 → Calls Tryz.prog 50 #[.int .i64 x] w fun e w' => ∃ v, e = .returned v ∧ Holds w' v (G x) ∧ Below w.heap.size w w'))
    (CN : Hid (∀ w va vb, Holds w va K → Holds w vb (G 65536) → Calls Tryz.prog 52 #[va, vb, .bool r, .int .i64 how] w fun e w' => ∃ z B, e = .returned (.tuple #[.int .i64 z, .bool B]) ∧ (∀ w, Calls Tryz.prog 51 #[.int .i64 z, .bool B] w fun e w' => e = .returned (.tuple #[.int .i64 R, .int .i64 E]) ∧ w = w') ∧ Below w.heap.size w w')) :
    Calls Tryz.prog 19 #[.agg #[.int .i64 ax, .int .i64 ay], .agg #[.int .i64 bx, .int .i64 bz], .int .i64 how] w fun e w' => e = .returned (.tuple #[.int .i64 R, .int .i64 E]) ∧ Below w.heap.size w w' := by
  subst hH
  go_enter Tryz.func19, Tryz.ntmps19
  go_wp2_with (first | (go_at_call 77; have HM := HB1; refine (CP.out _ _ _).mono ?_; clear HM; rintro e w2 ⟨rfl, hb2⟩; obtain ⟨ax2, ay2⟩ := spot_later hb2 ⟨ax1, ay1⟩; have ag2 := World.block_lt_of_cell? _ _ ax2; obtain ⟨bx2, by2⟩ := spot_later hb2 ⟨bx1, by1⟩; have bg2 := World.block_lt_of_cell? _ _ bx2; have HB2 := Lib.hid hb2; clear hb2) | (go_at_call 77; refine (CP.out _ _ _).mono ?_; rintro e w1 ⟨rfl, hb1⟩; obtain ⟨ax1, ay1⟩ := spot_later hb1 (spot_new2 w ax ay bx bz).1; have ag1 := World.block_lt_of_cell? _ _ ax1; obtain ⟨bx1, by1⟩ := spot_later hb1 (spot_new2 w ax ay bx bz).2; have bg1 := World.block_lt_of_cell? _ _ bx1; have HB1 := Lib.hid hb1; clear hb1) | (go_at_call 46; refine (CH.out _).mono ?_; rintro e w' ⟨rfl, rfl⟩))
  go_cut [10] (fun s wx => ∃ g : Nat, s = .pointer (some ⟨g, 0, none⟩) ∧ SumAt wx g r K ∧ Below w.heap.size w wx)
  case first =>
    have q1 := HB1.out
    have q2 := HB2.out
    have hB : Below w.heap.size w w2 := by repeat' (first | assumption | exact Below.refl _ _ | (with_reducible refine Below.drew ?_) | (with_reducible refine ka ?_ _) | (refine kc ?_ (by assumption)))
    have sa2 : SpotAt w2 w.heap.size ax ay := ⟨ax2, ay2⟩
    have sb2 : SpotAt w2 (w.heap.size + 1) bx bz := ⟨bx2, by2⟩
    have hle : w.heap.size + 1 < w2.heap.size := bg2
    clear HB1 HB2 CP CH CO CN q1 q2 ax1 ay1 bx1 by1
    go_region_held3 (fun w' => w'.cell? ⟨w.heap.size, 0, none⟩ = some (.int .i64 ax) ∧ w'.cell? ⟨w.heap.size, 1, none⟩ = some (.int .i64 ay) ∧ w'.cell? ⟨w.heap.size + 1, 0, none⟩ = some (.int .i64 bx) ∧ w'.cell? ⟨w.heap.size + 1, 1, none⟩ = some (.int .i64 bz))
      ((refine spot_quad ?_ ?_ <;> (repeat' (first | assumption | (with_reducible refine spot_drew ?_) | (with_reducible refine spot_alloc ?_ _) | (with_reducible refine spot_set ?_ _ (by (try simp only); omega))))))
      (first | (go_at_call 79; have HM := HH3; refine (CR.out _ _ _ (by assumption) (by assumption)).mono ?_; clear HM; rintro e w4 ⟨v4, rfl, h4, hb4⟩; obtain ⟨p4, l4, c4, rfl⟩ := h4.slice; have sa4 := spot_later hb4 (by first | exact ⟨ax3, ay3⟩ | exact spot_alloc ⟨ax3, ay3⟩ _); have hX := sa4; obtain ⟨ax4, ay4⟩ := hX; have ag4 := World.block_lt_of_cell? _ _ ax4; have sb4 := spot_later hb4 (by first | exact ⟨bx3, by3⟩ | exact spot_alloc ⟨bx3, by3⟩ _); have hX := sb4; obtain ⟨bx4, by4⟩ := hX; have bg4 := World.block_lt_of_cell? _ _ bx4; (try have z43 : Zed w4 w3.heap.size (.bool false) (.slice none 0 0) := Zed.later (zed_new w3 _ _ _) hb4); (try have z42 : Zed w4 w2.heap.size (.bool false) (.slice none 0 0) := Zed.later z32 hb4); have HH4 := Lib.hid h4; clear h4) | (go_at_call 79; refine (CR.out _ _ _ (by assumption) (by assumption)).mono ?_; rintro e w3 ⟨v3, rfl, h3, hb3⟩; obtain ⟨p3, l3, c3, rfl⟩ := h3.slice; have sa3 := spot_later hb3 (by first | exact ⟨ax2, ay2⟩ | exact spot_alloc ⟨ax2, ay2⟩ _); have hX := sa3; obtain ⟨ax3, ay3⟩ := hX; have ag3 := World.block_lt_of_cell? _ _ ax3; have sb3 := spot_later hb3 (by first | exact ⟨bx2, by2⟩ | exact spot_alloc ⟨bx2, by2⟩ _); have hX := sb3; obtain ⟨bx3, by3⟩ := hX; have bg3 := World.block_lt_of_cell? _ _ bx3; (try have z32 : Zed w3 w2.heap.size (.bool false) (.slice none 0 0) := Zed.later (zed_new w2.drew _ _ _) hb3); have HH3 := Lib.hid h3; clear h3) | (go_at_call 78; refine (CM.out _ _ _ (HH3.out.later (by repeat' (first | assumption | exact Below.refl _ _ | (with_reducible refine Below.drew ?_) | (with_reducible refine ka ?_ _) | (refine kc ?_ (by assumption))))) (HH4.out.later (by repeat' (first | assumption | exact Below.refl _ _ | (with_reducible refine Below.drew ?_) | (with_reducible refine ka ?_ _) | (refine kc ?_ (by assumption)))))).mono ?_; rintro e w5 ⟨v5, rfl, h5, hb5⟩; obtain ⟨p5, l5, c5, rfl⟩ := h5.slice; have sa5 := spot_later hb5 (by first | exact ⟨ax4, ay4⟩ | exact spot_alloc ⟨ax4, ay4⟩ _); have hX := sa5; obtain ⟨ax5, ay5⟩ := hX; have ag5 := World.block_lt_of_cell? _ _ ax5; have sb5 := spot_later hb5 (by first | exact ⟨bx4, by4⟩ | exact spot_alloc ⟨bx4, by4⟩ _); have hX := sb5; obtain ⟨bx5, by5⟩ := hX; have bg5 := World.block_lt_of_cell? _ _ bx5; (try (have n6 : Zed w5 w4.heap.size (.bool false) (.slice none 0 0) := Zed.later (zed_new w4 _ _ _) hb5; have nn := n6; obtain ⟨⟨k0, k1⟩, k2, k3⟩ := n6)); (try (have n6 : Zed w5 w3.heap.size (.bool false) (.slice none 0 0) := Zed.later z43 hb5; have nn := n6; obtain ⟨⟨k0, k1⟩, k2, k3⟩ := n6)); (try (have n6 : Zed w5 w2.heap.size (.bool false) (.slice none 0 0) := Zed.later z42 hb5; have nn := n6; obtain ⟨⟨k0, k1⟩, k2, k3⟩ := n6)); have HH5 := Lib.hid h5; clear h5))
    all_goals (go_wp2_with fail; go_meet)
    all_goals (first | exact ⟨_, rfl, sumAt_new r _ HH5.out, by repeat' (first | assumption | exact Below.refl _ _ | (with_reducible refine Below.drew ?_) | (with_reducible refine ka ?_ _) | (refine kc ?_ (by assumption)))⟩ | exact ⟨_, rfl, sumAt_set r nn HH5.out, by repeat' (first | assumption | exact Below.refl _ _ | (with_reducible refine Below.drew ?_) | (with_reducible refine ks ?_ _ (by (try simp only); omega)) | (with_reducible refine ka ?_ _) | (refine kc ?_ (by assumption)))⟩)
  case rest =>
    obtain ⟨g, rfl, ⟨p5, l5, c5, ⟨gx5, gy5⟩, hH5⟩, hB⟩ := hcut
    have HB0 := Lib.hid hB
    have HH5 := Lib.hid hH5
    clear hH5 hB
    go_wp2_with fail
    go_region_held3 (fun w' => w'.cell? ⟨g, 0, none⟩ = some (.bool r) ∧ w'.cell? ⟨g, 1, none⟩ = some (.slice p5 l5 c5))
      (first | exact ⟨gx5, gy5⟩ | exact ⟨gx6, gy6⟩ | exact ⟨gx7, gy7⟩)
      (first | (go_at_call 50; refine (CO.out _ _ (by omega) (by omega)).mono ?_; rintro e w6 ⟨v6, rfl, h6, hb6⟩; have gx6 := cell_later hb6 gx5; have gy6 := cell_later hb6 gy5; have HH6 := Lib.hid h6; have HB6 := Lib.hid hb6; clear h6 hb6) | (go_at_call 52; refine (CN.out _ _ _ ((HH5.out.later (Below.refl _ _).drew).later HB6.out) HH6.out).mono ?_; rintro e w7 ⟨z, B, rfl, hz, hb7⟩; have gx7 := cell_later hb7 gx6; have gy7 := cell_later hb7 gy6; have HZ := Lib.hid hz; have HB7 := Lib.hid hb7; clear hz hb7) | (go_at_call 51; refine (HZ.out _).mono ?_; rintro e w' ⟨rfl, rfl⟩))
    go_wp2
    go_ret2
    exact ⟨rfl, kc (kc (HB0.out.drew) HB6.out) HB7.out⟩

set_option maxRecDepth 100000 in
set_option maxHeartbeats 1000000 in
theorem refDot_out (ax ay bx bz how : Int) (V : Int → Bool) (t u p q H : Bool) (w : World) (h : t = false ∨ u = false ∨ p = false ∨ q = false ∨ H = false) (h1 : V ax = t) (h2 : V ay = u) (h3 : V bx = p) (h4 : V bz = q)
    (CP : Hid (∀ x y w, Calls Tryz.prog 77 #[.agg #[.int .i64 x, .int .i64 y]] w fun e w' => e = .returned (.bool (V x && V y)) ∧ Below w.heap.size w w'))
    (CH : Hid (∀ w, Calls Tryz.prog 46 #[.int .i64 how] w fun e w' => e = .returned (.bool H) ∧ w = w')) :
    Calls Tryz.prog 19 #[.agg #[.int .i64 ax, .int .i64 ay], .agg #[.int .i64 bx, .int .i64 bz], .int .i64 how] w fun e w' => e = .returned (.tuple #[.int .i64 0, .int .i64 2]) ∧ Below w.heap.size w w' := by
  cases t <;> cases u
  case true.true =>
    cases p <;> cases q <;> cases H
    case true.true.true => rcases h with h | h | h | h | h <;> cases h
    all_goals
      clear h
      go_enter Tryz.func19, Tryz.ntmps19
      go_wp2_with (first | (go_at_call 77; have HM := HB1; refine (CP.out _ _ _).mono ?_; clear HM; rintro e w2 ⟨rfl, hb2⟩; obtain ⟨ax2, ay2⟩ := spot_later hb2 ⟨ax1, ay1⟩; have ag2 := World.block_lt_of_cell? _ _ ax2; obtain ⟨bx2, by2⟩ := spot_later hb2 ⟨bx1, by1⟩; have bg2 := World.block_lt_of_cell? _ _ bx2; have HB2 := Lib.hid hb2; clear hb2) | (go_at_call 77; refine (CP.out _ _ _).mono ?_; rintro e w1 ⟨rfl, hb1⟩; obtain ⟨ax1, ay1⟩ := spot_later hb1 (spot_new2 w ax ay bx bz).1; have ag1 := World.block_lt_of_cell? _ _ ax1; obtain ⟨bx1, by1⟩ := spot_later hb1 (spot_new2 w ax ay bx bz).2; have bg1 := World.block_lt_of_cell? _ _ bx1; have HB1 := Lib.hid hb1; clear hb1) | (go_at_call 46; refine (CH.out _).mono ?_; rintro e w' ⟨rfl, rfl⟩))
      go_ret2
      have q1 := HB1.out; have q2 := HB2.out
      exact ⟨rfl, by repeat' (first | assumption | exact Below.refl _ _ | (with_reducible refine Below.drew ?_) | (with_reducible refine ka ?_ _) | (refine kc ?_ (by assumption)))⟩
  all_goals
    clear h
    go_enter Tryz.func19, Tryz.ntmps19
    go_wp2_with (first | (go_at_call 77; have HM := HB1; refine (CP.out _ _ _).mono ?_; clear HM; rintro e w2 ⟨rfl, hb2⟩; obtain ⟨ax2, ay2⟩ := spot_later hb2 ⟨ax1, ay1⟩; have ag2 := World.block_lt_of_cell? _ _ ax2; obtain ⟨bx2, by2⟩ := spot_later hb2 ⟨bx1, by1⟩; have bg2 := World.block_lt_of_cell? _ _ bx2; have HB2 := Lib.hid hb2; clear hb2) | (go_at_call 77; refine (CP.out _ _ _).mono ?_; rintro e w1 ⟨rfl, hb1⟩; obtain ⟨ax1, ay1⟩ := spot_later hb1 (spot_new2 w ax ay bx bz).1; have ag1 := World.block_lt_of_cell? _ _ ax1; obtain ⟨bx1, by1⟩ := spot_later hb1 (spot_new2 w ax ay bx bz).2; have bg1 := World.block_lt_of_cell? _ _ bx1; have HB1 := Lib.hid hb1; clear hb1) | (go_at_call 46; refine (CH.out _).mono ?_; rintro e w' ⟨rfl, rfl⟩))
    go_ret2
    have q1 := HB1.out
    exact ⟨rfl, by repeat' (first | assumption | exact Below.refl _ _ | (with_reducible refine Below.drew ?_) | (with_reducible refine ka ?_ _) | (refine kc ?_ (by assumption)))⟩

theorem refDotF (ax ay bx bz how : Int) (w : World) :
    Calls Tryz.prog 19 #[.agg #[.int .i64 ax, .int .i64 ay], .agg #[.int .i64 bx, .int .i64 bz], .int .i64 how] w fun e w' => e = .returned (.tuple #[.int .i64 (dotS ax ay bx bz how).1, .int .i64 (dotS ax ay bx bz how).2]) ∧ Below w.heap.size w w' := by
  have CP := fun x y w => refSpot x y w
  have CH := fun w => refHow how w
  unfold dotS
  by_cases hv : Vld ax ∧ Vld ay ∧ Vld bx ∧ Vld bz
  · by_cases hh : 0 ≤ how ∧ how ≤ 3
    · rw [if_pos ⟨hv, hh⟩]
      obtain ⟨h1, h2, h3, h4⟩ := hv
      obtain ⟨l1, l2⟩ := sumK_len ax bx ay bz h1 h3 h2 h4
      have CR := fun x y w (hx : decide (Vld x) = true) (hy : decide (Vld y) = true) => refProduct x y w (of_decide_eq_true hx) (of_decide_eq_true hy)
      have CM := fun w va vb ha hb => refSum (decide (ax < 0) != decide (bx < 0)) (decide (ay < 0) != decide (bz < 0)) (ax.natAbs * bx.natAbs) (ay.natAbs * bz.natAbs) va vb w ha hb (by omega) (by omega)
      have hs := sv_sum (decide (ax < 0) != decide (bx < 0)) (decide (ay < 0) != decide (bz < 0)) (ax.natAbs * bx.natAbs) (ay.natAbs * bz.natAbs)
      have hkle := sumK_le (decide (ax < 0) != decide (bx < 0)) (decide (ay < 0) != decide (bz < 0)) (ax.natAbs * bx.natAbs) (ay.natAbs * bz.natAbs)
      rw [sv_mul, sv_mul] at hs
      obtain ⟨K, hK⟩ : ∃ K, sumK (decide (ax < 0) != decide (bx < 0)) (decide (ay < 0) != decide (bz < 0)) (ax.natAbs * bx.natAbs) (ay.natAbs * bz.natAbs) = K := ⟨_, rfl⟩
      obtain ⟨r, hr⟩ : ∃ r, sumR (decide (ax < 0) != decide (bx < 0)) (decide (ay < 0) != decide (bz < 0)) (ax.natAbs * bx.natAbs) (ay.natAbs * bz.natAbs) = r := ⟨_, rfl⟩
      rw [hK, hr] at hs CM
      rw [hK] at hkle
      obtain ⟨D, hD⟩ : ∃ D, ax * bx + ay * bz = D := ⟨_, rfl⟩
      rw [hD] at hs ⊢
      have hDK : D.natAbs = K := by unfold sv at hs; split at hs <;> omega
      have hsg : D ≠ 0 → (decide (D < 0) != decide ((65536 : Int) < 0)) = r := by
        intro h0
        cases r <;> simp [sv] at hs <;> simp <;> omega
      have lK : (parts K).length ≤ 9 := by
        have h5 := Nat.mul_le_mul (refSizeOf ax h1) (refSizeOf bx h3)
        have h6 := Nat.mul_le_mul (refSizeOf ay h2) (refSizeOf bz h4)
        exact parts_length 9 _ (by
          have : (32768 : Nat) ^ 9 = 43556142965880123323311949751266331066368 := by decide
          omega)
      have ld : (parts 65536).length ≤ 4 := parts_small _ (by omega)
      have e : rnd how D 65536 = rndS how r K 65536 := by
        rw [rnd_signs how D 65536 r (by omega) hsg, hDK]
        rfl
      rw [e]
      refine refDot_in ax ay bx bz how _ _ (fun x => decide (Vld x)) (fun x y => decide (x < 0) != decide (y < 0)) (fun x y => x.natAbs * y.natAbs) Int.toNat r _ K w (decide_eq_true h1) (decide_eq_true h2) (decide_eq_true h3) (decide_eq_true h4) (decide_eq_true hh) CP CH CR CM ofC (fun w va vb h1 h2 => ?_)
      exact (refRoundFit _ 65536 _ how va vb w hh.1 hh.2 (by omega) h1 h2 (by omega) (by omega)).mono (fun e w' h => by obtain ⟨z, B, h1, h2, h3⟩ := h; exact ⟨z, B, h1, h2, h3⟩)
    · rw [if_neg (fun h => hh h.2)]
      exact refDot_out ax ay bx bz how _ _ _ _ _ _ w (.inr (.inr (.inr (.inr (decide_eq_false hh))))) rfl rfl rfl rfl CP CH
  · rw [if_neg (fun h => hv h.1)]
    refine refDot_out ax ay bx bz how _ _ _ _ _ _ w ?_ rfl rfl rfl rfl CP CH
    rcases vld_out hv with h | h | h | h
    · exact .inl h
    · exact .inr (.inl h)
    · exact .inr (.inr (.inl h))
    · exact .inr (.inr (.inr (.inl h)))

end Go.Proofs.YtebfhjndgfcijaaGreatDoor
