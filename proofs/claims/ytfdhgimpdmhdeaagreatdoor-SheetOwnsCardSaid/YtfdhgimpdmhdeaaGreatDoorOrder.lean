/- By distance: what package sheet's Nearest sorts with. -/
import Derived.Test.YtfdhgimpdmhdeaaGreatDoorCheck
namespace Go.Proofs.YtfdhgimpdmhdeaaGreatDoor
open Go Go.RowKit

/-- How numbers compare. -/
def cmpS (a b : Int) : Int := if a < b then -1 else if b < a then 1 else 0

set_option maxRecDepth 100000 in
set_option maxHeartbeats 1000000 in
theorem isNaN_any (x : Int) (w : World) :
    Calls Tryz.prog 44 #[.int .i64 x] w fun e w' => e = .returned (.bool false) ∧ Below w.heap.size w w' := by
  go_enter Tryz.func44, Tryz.ntmps44
  go_wp2_with fail
  go_ret
  exact ⟨by first | rfl | simp, Below.refl _ _⟩

set_option maxRecDepth 100000 in
set_option maxHeartbeats 1000000 in
theorem compare_any (a b : Int) (w : World) :
    Calls Tryz.prog 23 #[.int .i64 a, .int .i64 b] w fun e w' => e = .returned (.int .i64 (cmpS a b)) ∧ Below w.heap.size w w' := by
  have CN := Lib.hid (fun x w => isNaN_any x w)
  unfold cmpS
  by_cases h1 : a < b
  · rw [if_pos h1]
    go_enter Tryz.func23, Tryz.ntmps23
    go_wp2_with (first | (go_at_call 44; have HM := HB1; refine (CN.out _ _).mono ?_; clear HM; rintro e w2 ⟨rfl, hb2⟩; have HB2 := Lib.hid hb2; clear hb2) | (go_at_call 44; refine (CN.out _ _).mono ?_; rintro e w1 ⟨rfl, hb1⟩; have HB1 := Lib.hid hb1; clear hb1))
    go_ret
    exact ⟨rfl, kc HB1.out HB2.out⟩
  · rw [if_neg h1]
    by_cases h2 : b < a
    · rw [if_pos h2]
      go_enter Tryz.func23, Tryz.ntmps23
      go_wp2_with (first | (go_at_call 44; have HM := HB1; refine (CN.out _ _).mono ?_; clear HM; rintro e w2 ⟨rfl, hb2⟩; have HB2 := Lib.hid hb2; clear hb2) | (go_at_call 44; refine (CN.out _ _).mono ?_; rintro e w1 ⟨rfl, hb1⟩; have HB1 := Lib.hid hb1; clear hb1))
      go_ret
      exact ⟨rfl, kc HB1.out HB2.out⟩
    · rw [if_neg h2]
      go_enter Tryz.func23, Tryz.ntmps23
      go_wp2_with (first | (go_at_call 44; have HM := HB1; refine (CN.out _ _).mono ?_; clear HM; rintro e w2 ⟨rfl, hb2⟩; have HB2 := Lib.hid hb2; clear hb2) | (go_at_call 44; refine (CN.out _ _).mono ?_; rintro e w1 ⟨rfl, hb1⟩; have HB1 := Lib.hid hb1; clear hb1))
      go_ret
      exact ⟨rfl, kc HB1.out HB2.out⟩

/-- The square of a stone's distance. -/
def sqS (s : St) : Int := s.x * s.x + s.y * s.y

set_option maxRecDepth 100000 in
theorem square_st (s : St) (w : World) (h : ¬ OutP s.x s.y) :
    Calls Tryz.prog 24 #[.agg #[.int .i64 s.x, .int .i64 s.y]] w fun e w' => e = .returned (.int .i64 (sqS s)) ∧ Below w.heap.size w w' := by
  obtain ⟨⟨x0, x1⟩, y0, y1⟩ := play_small h
  obtain ⟨p0, p1⟩ := sq_small x0 x1
  obtain ⟨q0, q1⟩ := sq_small y0 y1
  exact square_sh s.x s.y _ _ w rfl rfl p0 p1 q0 q1

set_option maxRecDepth 100000 in
set_option maxHeartbeats 2000000 in
/-- The closure that Nearest sorts with: which of two stones of the row is nearer. -/
theorem nearer_any (L : List St) (n c g o bl i k : Nat) (I K : Int) (w : World) (hI : (i : Int) = I) (hK : (k : Int) = K) (hi : i < n) (hk : k < n) (hc : n ≤ c) (HL : Hid (L.length = n)) (HR : Hid (∀ j (h : j < L.length), StAt w g (o + j * 4) L[j]))
    (hcell : w.cell? ⟨bl, 0, none⟩ = some (.slice (some ⟨g, o, none⟩) n c)) (hp : Hid (∀ j, j < L.length → ¬ OutP (el L j).x (el L j).y)) :
    Calls Tryz.prog 22 #[.int .i64 I, .int .i64 K, .pointer (some ⟨bl, 0, none⟩)] w fun e w' => e = .returned (.int .i64 (cmpS (sqS (el L i)) (sqS (el L k)))) ∧ Below w.heap.size w w' := by
  have hLn := HL.out
  have hI0 : 0 ≤ I := by omega
  have hK0 : 0 ≤ K := by omega
  have hIn : I.toNat = i := by omega
  have hKn : K.toNat = k := by omega
  have hi' : i < L.length := by omega
  have hk' : k < L.length := by omega
  obtain ⟨a, ha⟩ : ∃ a, el L i = a := ⟨_, rfl⟩
  obtain ⟨b, hb⟩ : ∃ b, el L k = b := ⟨_, rfl⟩
  have C1 := Lib.hid (fun w => square_st a w (by have := hp.out i hi'; rwa [ha] at this))
  have C2 := Lib.hid (fun w => square_st b w (by have := hp.out k hk'; rwa [hb] at this))
  have CC := Lib.hid (fun w => compare_any (sqS a) (sqS b) w)
  have h1 := HR.out i hi'
  have h2 := HR.out k hk'
  rw [← el_get hi', ha] at h1
  rw [← el_get hk', hb] at h2
  obtain ⟨⟨u0, u1⟩, u2, u3⟩ := h1
  obtain ⟨⟨v0, v1⟩, v2, v3⟩ := h2
  have HC := Lib.hid hcell
  clear hLn hi' hk' u0 u1 v0 v1
  obtain ⟨N, hN⟩ : ∃ N : Int, (n : Int) = N := ⟨_, rfl⟩
  have gI : I < N := by omega
  have gK : K < N := by omega
  rw [ha, hb]
  go_enter Tryz.func22, Tryz.ntmps22
  go_wp2_with fail
  go_region_held3 (fun w' => w'.cell? ⟨bl, 0, none⟩ = some (.slice (some ⟨g, o, none⟩) n c) ∧ (w'.cell? ⟨g, o + i * 4 + 2, none⟩ = some (.int .i64 a.x) ∧ w'.cell? ⟨g, o + i * 4 + 3, none⟩ = some (.int .i64 a.y)) ∧ w'.cell? ⟨g, o + k * 4 + 2, none⟩ = some (.int .i64 b.x) ∧ w'.cell? ⟨g, o + k * 4 + 3, none⟩ = some (.int .i64 b.y))
    (first | exact ⟨hcell, ⟨u2, u3⟩, v2, v3⟩ | exact ⟨p0, ⟨p1, p2⟩, p3, p4⟩ | exact ⟨q0, ⟨q1, q2⟩, q3, q4⟩ | exact ⟨r0, ⟨r1, r2⟩, r3, r4⟩)
    (first | (go_at_call 24; have HM := HB1; refine (C2.out _).mono ?_; clear HM; rintro e w2 ⟨rfl, hb2⟩; have q0 := cell_later hb2 p0; have q1 := cell_later hb2 p1; have q2 := cell_later hb2 p2; have q3 := cell_later hb2 p3; have q4 := cell_later hb2 p4; have HB2 := Lib.hid hb2; clear hb2) | (go_at_call 24; refine (C1.out _).mono ?_; rintro e w1 ⟨rfl, hb1⟩; have p0 := cell_later hb1 hcell; have p1 := cell_later hb1 u2; have p2 := cell_later hb1 u3; have p3 := cell_later hb1 v2; have p4 := cell_later hb1 v3; have HB1 := Lib.hid hb1; clear hb1) | (go_at_call 23; refine (CC.out _).mono ?_; rintro e w3 ⟨rfl, hb3⟩; have r0 := cell_later hb3 q0; have r1 := cell_later hb3 q1; have r2 := cell_later hb3 q2; have r3 := cell_later hb3 q3; have r4 := cell_later hb3 q4; have HB3 := Lib.hid hb3; clear hb3))
  all_goals
    go_wp2_with fail
    go_ret
    exact ⟨rfl, kc (kc (kc (Below.refl _ _).drew HB1.out) HB2.out) HB3.out⟩

end Go.Proofs.YtfdhgimpdmhdeaaGreatDoor
