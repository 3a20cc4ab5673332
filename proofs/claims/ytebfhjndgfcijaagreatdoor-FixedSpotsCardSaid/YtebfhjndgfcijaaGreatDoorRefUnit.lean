/- The document's own answers: share. -/
import Derived.Test.YtebfhjndgfcijaaGreatDoorRefSpot
import Derived.Test.YtebfhjndgfcijaaGreatDoorRefSide
import Derived.Test.YtebfhjndgfcijaaGreatDoorUnit
namespace Go.Proofs.YtebfhjndgfcijaaGreatDoor
open Go Go.RowKit

theorem refUp32 (n : Nat) (v : Value) (w : World) (hv : Holds w v n) (hl : (parts n).length ≤ 300) :
    Calls Tryz.prog 53 #[v, .int .i64 32] w fun e w' => ∃ v', e = .returned v' ∧ Holds w' v' (n * 4294967296) ∧ Below w.heap.size w w' := by
  have CO := Lib.hid (fun w => refOf_any 4294967296 4294967296 rfl (by omega) w)
  have l1 : (parts 4294967296).length ≤ 4 := parts_length 4 _ (by decide)
  have CT := Lib.hid (fun vb W h1 h2 => refTimes n 4294967296 v vb W h1 h2 (by omega) (by omega))
  have HV := Lib.hid hv
  clear hv hl l1
  go_enter Tryz.func53, Tryz.ntmps53
  go_wp2_with (first | (go_at_call 50; refine (CO.out _).mono ?_; rintro e w1 ⟨vo, rfl, ho, hb1⟩; have HO := Lib.hid ho; have HB1 := Lib.hid hb1; clear ho hb1) | (go_at_call 49; refine (CT.out _ _ (HV.out.later HB1.out) HO.out).mono ?_; rintro e w2 ⟨vt, rfl, ht, hb2⟩; have HT := Lib.hid ht; have HB2 := Lib.hid hb2; clear ht hb2))
  go_ret
  exact ⟨_, rfl, HT.out, kcb HB1.out HB2.out⟩

theorem pow_half (j : Nat) : 2 ^ (j + 1) / 2 = 2 ^ j := by rw [Nat.pow_succ]; omega

set_option maxRecDepth 100000 in
set_option maxHeartbeats 1000000 in
theorem refShare_at (a : Int) (N M : Nat) (vs : Value) (V : Int → Bool) (S : Int → Int) (G : Int → Nat) (P : Nat) (w : World) (hVa : V a = true) (sa0 : 0 ≤ S a) (sa1 : S a ≤ 70368744177664)
    (HVs : Hid (Holds w vs N)) (HL : Hid ((parts N).length ≤ 9 ∧ (parts M).length ≤ 20)) (HM' : Hid (M = a.natAbs * a.natAbs * 4294967296)) (a2 : -70368744177664 ≤ a)
    (CS : Hid (∀ x w, V x = true → Calls Tryz.prog 58 #[.int .i64 x] w fun e w' => e = .returned (.int .i64 (S x)) ∧ w = w'))
    (CK : Hid (∀ x w, 0 ≤ x → x ≤ 70368744177664 → Calls Tryz.prog 50 #[.int .i64 x] w fun e w' => ∃ v, e = .returned v ∧ Holds w' v (G x) ∧ Below w.heap.size w w'))
    (CX : Hid (∀ w va, Holds w va (G (S a)) → Calls Tryz.prog 49 #[va, va] w fun e w' => ∃ v, e = .returned v ∧ Holds w' v P ∧ Below w.heap.size w w'))
    (CU : Hid (∀ w va, Holds w va P → Calls Tryz.prog 53 #[va, .int .i64 32] w fun e w' => ∃ v, e = .returned v ∧ Holds w' v M ∧ Below w.heap.size w w')) :
    Calls Tryz.prog 87 #[.int .i64 a, vs] w fun e w' => e = .returned (.int .i64 (shareS a N)) ∧ Below w.heap.size w w' := by
  go_enter Tryz.func87, Tryz.ntmps87
  go_wp2_with (first | (go_at_call 58; refine (CS.out _ _ (by assumption)).mono ?_; rintro e w' ⟨rfl, rfl⟩) | (go_at_call 50; refine (CK.out _ _ (by omega) (by omega)).mono ?_; rintro e w1 ⟨v1, rfl, h1, hb1⟩; have HH1 := Lib.hid h1; have HB1 := Lib.hid hb1; clear h1 hb1) | (go_at_call 49; refine (CX.out _ _ HH1.out).mono ?_; rintro e w2 ⟨v2, rfl, h2, hb2⟩; have HH2 := Lib.hid h2; have HB2 := Lib.hid hb2; clear h2 hb2) | (go_at_call 53; refine (CU.out _ _ HH2.out).mono ?_; rintro e w3 ⟨v3, rfl, h3, hb3⟩; have HH3 := Lib.hid h3; have HB3 := Lib.hid hb3; clear h3 hb3))
  have HB0 : Hid (Below w.heap.size w w3) := kcb (kcb HB1.out HB2.out) HB3.out
  have HV : Hid (Holds w3 vs N) := HVs.out.later HB0.out
  have HG : Hid (Holds w3 v3 M) := HH3.out
  clear HB1 HB2 HB3 HH1 HH2 HH3 CS CK CX CU HVs
  go_loopw [7, 8] (fun nv sv wr => ∃ (k n s : Nat) (Nn T : Int), nv = .int .i64 Nn ∧ sv = .int .i64 T ∧ 0 ≤ Nn ∧ Nn ≤ 131072 ∧ 0 ≤ T ∧ T ≤ 65536 ∧ Hid (((Nn = (n : Int) ∧ T = (s : Int)) ∧ s = 2 ^ k / 2 ∧ shAux N M k n = shr a.natAbs N ∧ n + 2 ^ k ≤ 131072) ∧ Below w3.heap.size w3 wr)) (fun _ sv _ => (intOf sv).toNat)
  case atStart => exact ⟨17, 0, 65536, 0, 65536, by go_num, by go_num, by omega, by omega, by omega, by omega, ⟨⟨⟨rfl, rfl⟩, by decide, by rw [HM'.out]; rfl, by decide⟩, Below.refl _ _⟩⟩
  case round =>
    obtain ⟨k, n, s, Nn, T, rfl, rfl, hN0, hN1, hS0, hS1, hK⟩ := hrel
    obtain ⟨⟨⟨hNn, hSs⟩, hsk, hsh, hnk⟩, hBv⟩ := hK.out
    have HBv := Lib.hid hBv
    have HNn := Lib.hid hNn
    by_cases hS : 0 < T
    · cases k with
      | zero => exact absurd hsk (by omega)
      | succ j =>
        rw [pow_half] at hsk
        have hpj : 2 ^ (j + 1) = 2 ^ j + 2 ^ j := by rw [Nat.pow_succ]; omega
        obtain ⟨u, hu⟩ : ∃ u, n + s = u := ⟨_, rfl⟩
        obtain ⟨U, hU⟩ : ∃ U : Int, Nn + T = U := ⟨_, rfl⟩
        have hUu : (u : Int) = U := by omega
        have hu2 : u ≤ 131072 := by omega
        have CF := Lib.hid (fun W => refOf_any u U hUu (by omega) W)
        have lu := parts_length 2 u (by have : (32768 : Nat) ^ 2 = 1073741824 := by decide
                                        omega)
        have luu := parts_mul_len u u
        have luN := parts_mul_len (u * u) N
        have hlN := HL.out
        have CT := Lib.hid (fun (va : Value) (W : World) (h : Holds W va u) => refTimes u u va va W h h (by omega) (by omega))
        have CT2 := Lib.hid (fun (va vb : Value) (W : World) (h1 : Holds W va (u * u)) (h2 : Holds W vb N) => refTimes (u * u) N va vb W h1 h2 (by omega) (by omega))
        have CO := Lib.hid (fun (va vb : Value) (W : World) (h1 : Holds W va (u * u * N)) (h2 : Holds W vb M) => order_any (u * u * N) M va vb W h1 h2 (by omega) (by omega))
        obtain ⟨S2, hS2⟩ : ∃ S2 : Int, T / 2 = S2 := ⟨_, rfl⟩
        have HS2 : Hid (S2 = ((s / 2 : Nat) : Int)) := by show _ = _; omega
        have HS3 : Hid (s / 2 = 2 ^ j / 2) := by show _ = _; rw [hsk]
        have hS2b : 0 ≤ S2 ∧ S2 ≤ 65536 ∧ S2 < T := by omega
        have hst : shAux N M (j + 1) n = if N * (u * u) ≤ M then shAux N M j u else shAux N M j n := by rw [shAux, ← hsk, hu]
        rw [Nat.mul_comm N (u * u)] at hst
        clear hK hBv lu luu luN hlN hNn
        by_cases hle : u * u * N ≤ M
        · rw [if_pos hle, hsh] at hst
          have HK2 : Hid (shAux N M j u = shr a.natAbs N ∧ u + 2 ^ j ≤ 131072) := ⟨hst.symm, by omega⟩
          have hUb : 0 ≤ U ∧ U ≤ 131072 := by omega
          have hos := ord_le hle
          obtain ⟨o2, ho2⟩ : ∃ o2, ordS (u * u * N) M = o2 := ⟨_, rfl⟩
          rw [ho2] at hos CO
          have HUu := Lib.hid hUu
          clear hst hsh hUu hu hu2 hle ho2 hSs hsk hpj hnk
          go_wp2_with (first | (go_at_call 50; refine (CF.out _).mono ?_; rintro e' z1 ⟨vo, rfl, ho, hz1⟩; have HO := Lib.hid ho; have HZ1 := Lib.hid hz1; clear ho hz1) | (go_at_call 49; have HM := HT1; refine (CT2.out _ _ _ HT1.out (HV.out.later (kcb (kcb HBv.out HZ1.out) HZ2.out))).mono ?_; clear HM; rintro e' z3 ⟨vu, rfl, htu, hz3⟩; have HT2 := Lib.hid htu; have HZ3 := Lib.hid hz3; clear htu hz3) | (go_at_call 49; refine (CT.out _ _ HO.out).mono ?_; rintro e' z2 ⟨vt, rfl, htv, hz2⟩; have HT1 := Lib.hid htv; have HZ2 := Lib.hid hz2; clear htv hz2) | (go_at_call 91; refine (CO.out _ _ _ HT2.out (HG.out.later (kcb (kcb (kcb HBv.out HZ1.out) HZ2.out) HZ3.out))).mono ?_; rintro e' y4 ⟨rfl, hy4⟩; have HY4 := Lib.hid hy4; clear hy4))
          go_roundw
          case rel => exact ⟨j, u, _, U, S2, by go_num, by go_num, hUb.1, hUb.2, hS2b.1, hS2b.2.1, ⟨⟨⟨HUu.out.symm, HS2.out⟩, HS3.out, HK2.out.1, HK2.out.2⟩, kcb (kcb (kcb (kcb HBv.out HZ1.out) HZ2.out) HZ3.out) HY4.out⟩⟩
          case measure => simp [intOf]; omega
        · rw [if_neg hle, hsh] at hst
          have HK2 : Hid (shAux N M j n = shr a.natAbs N ∧ n + 2 ^ j ≤ 131072) := ⟨hst.symm, by omega⟩
          have hos : ¬ ordS (u * u * N) M ≤ 0 := by rw [ord_gt hle]; decide
          obtain ⟨o2, ho2⟩ : ∃ o2, ordS (u * u * N) M = o2 := ⟨_, rfl⟩
          rw [ho2] at hos CO
          clear hst hsh hUu hu hu2 hle ho2 hSs hsk hpj hnk
          go_wp2_with (first | (go_at_call 50; refine (CF.out _).mono ?_; rintro e' z1 ⟨vo, rfl, ho, hz1⟩; have HO := Lib.hid ho; have HZ1 := Lib.hid hz1; clear ho hz1) | (go_at_call 49; have HM := HT1; refine (CT2.out _ _ _ HT1.out (HV.out.later (kcb (kcb HBv.out HZ1.out) HZ2.out))).mono ?_; clear HM; rintro e' z3 ⟨vu, rfl, htu, hz3⟩; have HT2 := Lib.hid htu; have HZ3 := Lib.hid hz3; clear htu hz3) | (go_at_call 49; refine (CT.out _ _ HO.out).mono ?_; rintro e' z2 ⟨vt, rfl, htv, hz2⟩; have HT1 := Lib.hid htv; have HZ2 := Lib.hid hz2; clear htv hz2) | (go_at_call 91; refine (CO.out _ _ _ HT2.out (HG.out.later (kcb (kcb (kcb HBv.out HZ1.out) HZ2.out) HZ3.out))).mono ?_; rintro e' y4 ⟨rfl, hy4⟩; have HY4 := Lib.hid hy4; clear hy4))
          go_roundw
          case rel => exact ⟨j, n, _, Nn, S2, by go_num, by go_num, hN0, hN1, hS2b.1, hS2b.2.1, ⟨⟨⟨HNn.out, HS2.out⟩, HS3.out, HK2.out.1, HK2.out.2⟩, kcb (kcb (kcb (kcb HBv.out HZ1.out) HZ2.out) HZ3.out) HY4.out⟩⟩
          case measure => simp [intOf]; omega
    · have hs : s = 0 := by omega
      have hk0 : k = 0 := by
        cases k with
        | zero => rfl
        | succ j =>
          rw [pow_half] at hsk
          have := Nat.two_pow_pos j
          omega
      subst hk0
      have HU : Hid ((shr a.natAbs N : Int) = Nn) := by show _ = _; rw [← hsh, hNn]; rfl
      clear hK hBv hNn hSs hsk hsh hnk hs
      by_cases hs : a < 0
      · have HR : Hid (shareS a N = -Nn) := by show _ = _; unfold shareS; rw [if_pos hs, HU.out]
        go_wp2_with fail
        go_ret
        exact ⟨ret_int (by rw [HR.out]), kcb HB0.out HBv.out⟩
      · have HR : Hid (shareS a N = Nn) := by show _ = _; unfold shareS; rw [if_neg hs, HU.out]
        go_wp2_with fail
        go_ret
        exact ⟨ret_int (by rw [HR.out]), kcb HB0.out HBv.out⟩

theorem refShare (a : Int) (N : Nat) (vs : Value) (w : World) (ha : Vld a) (hN : Holds w vs N) (hl : (parts N).length ≤ 9) :
    Calls Tryz.prog 87 #[.int .i64 a, vs] w fun e w' => e = .returned (.int .i64 (shareS a N)) ∧ Below w.heap.size w w' := by
  have na := refSizeOf a ha
  have la := parts_small _ na
  have lp := parts_mul_len a.natAbs a.natAbs
  have l1 : (parts 4294967296).length ≤ 4 := parts_length 4 _ (by decide)
  have lm := parts_mul_len (a.natAbs * a.natAbs) 4294967296
  exact refShare_at a N _ vs (fun x => decide (Vld x)) (fun x => (x.natAbs : Int)) Int.toNat (a.natAbs * a.natAbs) w (decide_eq_true ha) (by omega) (by omega) hN ⟨hl, by omega⟩ rfl (by omega) sizeC ofC
    (fun w va h => refTimes _ _ va va w h h (by omega) (by omega)) (fun w va h => refUp32 _ va w h (by omega))

end Go.Proofs.YtebfhjndgfcijaaGreatDoor

namespace Go.Proofs.YtebfhjndgfcijaaGreatDoor
open Go Go.RowKit

theorem res_new (w : World) (x y : Int) :
    Zed ((w.alloc (.cells #[.int .i64 x, .int .i64 y] 33)).alloc (.cells #[.int .i64 0, .int .i64 0] 33)) (w.heap.size + 1) (.int .i64 0) (.int .i64 0) :=
  ⟨⟨by simp [go_sem], by simp [go_sem]⟩, by simp [go_sem], by simp [go_sem]⟩

set_option maxRecDepth 100000 in
set_option maxHeartbeats 1000000 in
theorem refUnit_in (x y : Int) (N : Nat) (Sh : Int → Int) (V : Int → Bool) (w : World) (h1 : V x = true) (h2 : V y = true) (hN : ¬ N = 0)
    (CP : Hid (∀ x y w, Calls Tryz.prog 77 #[.agg #[.int .i64 x, .int .i64 y]] w fun e w' => e = .returned (.bool (V x && V y)) ∧ Below w.heap.size w w'))
    (CQ : Hid (∀ w, Calls Tryz.prog 83 #[.agg #[.int .i64 x, .int .i64 y]] w fun e w' => ∃ v, e = .returned v ∧ Holds w' v N ∧ Below w.heap.size w w'))
    (CH : Hid (∀ x w va, V x = true → Holds w va N → Calls Tryz.prog 87 #[.int .i64 x, va] w fun e w' => e = .returned (.int .i64 (Sh x)) ∧ Below w.heap.size w w')) :
    Calls Tryz.prog 26 #[.agg #[.int .i64 x, .int .i64 y]] w fun e w' => e = .returned (.tuple #[.agg #[.int .i64 (Sh x), .int .i64 (Sh y)], .int .i64 0]) ∧ Below w.heap.size w w' := by
  have hZ := Lib.hid (res_new w x y)
  go_enter Tryz.func26, Tryz.ntmps26
  go_wp2_with (first | (go_at_call 77; refine (CP.out _ _ _).mono ?_; rintro e w1 ⟨rfl, hb1⟩; obtain ⟨ax1, ay1⟩ := spot_later hb1 (spot_new2 w x y 0 0).1; have ag1 := World.block_lt_of_cell? _ _ ax1; have ZZ1 := Lib.hid (Zed.later hZ.out hb1); have HB1 := Lib.hid hb1; clear hb1) | (go_at_call 83; refine (CQ.out _).mono ?_; rintro e w2 ⟨v2, rfl, h2, hb2⟩; obtain ⟨p2, l2, c2, rfl⟩ := h2.slice; obtain ⟨ax2, ay2⟩ := spot_later hb2 ⟨ax1, ay1⟩; have ag2 := World.block_lt_of_cell? _ _ ax2; have ZZ2 := Lib.hid (Zed.later ZZ1.out hb2); have hl2 := h2.len; have hl6 : ¬ l2 = 0 := fun e => hN ((parts_len0 N).1 (hl2.symm.trans e)); have hl7 : ¬ (l2 : Int) = 0 := (by omega); clear hl2; have HH2 := Lib.hid h2; have HB2 := Lib.hid hb2; clear h2 hb2))
  go_region_held3 (fun w' => w'.cell? ⟨w.heap.size, 0, none⟩ = some (.int .i64 x) ∧ w'.cell? ⟨w.heap.size, 1, none⟩ = some (.int .i64 y))
    (first | exact ⟨ax2, ay2⟩ | exact ⟨ax3, ay3⟩ | exact ⟨ax4, ay4⟩ | exact ⟨cell_set (cell_set ax4 _ (by simp only; omega)) _ (by simp only; omega), cell_set (cell_set ay4 _ (by simp only; omega)) _ (by simp only; omega)⟩)
    ((first | (go_at_call 87; have HM := HB3; refine (CH.out _ _ _ (by assumption) ((HH2.out.later (Below.refl w2.heap.size w2).drew).later HB3.out)).mono ?_; clear HM; rintro e w4 ⟨rfl, hb4⟩; obtain ⟨ax4, ay4⟩ := spot_later hb4 ⟨ax3, ay3⟩; have ag4 := World.block_lt_of_cell? _ _ ax4; have ZZ4 := Zed.later ZZ3.out hb4; have hX := ZZ4; obtain ⟨⟨zx4, zy4⟩, zf4, zg4⟩ := hX; have HB4 := Lib.hid hb4; clear hb4) | (go_at_call 87; refine (CH.out _ _ _ (by assumption) (HH2.out.later (Below.refl w2.heap.size w2).drew)).mono ?_; rintro e w3 ⟨rfl, hb3⟩; obtain ⟨ax3, ay3⟩ := spot_later hb3 ⟨ax2, ay2⟩; have ag3 := World.block_lt_of_cell? _ _ ax3; have ZZ3 := Lib.hid (Zed.later (Zed.later ZZ2.out (Below.refl w2.heap.size w2).drew) hb3); have HB3 := Lib.hid hb3; clear hb3)))
  go_wp2
  obtain ⟨k1, k2⟩ := set_pair (.int .i64 (Sh x)) (.int .i64 (Sh y)) zx4 zy4
  have q1 := HB1.out; have q2 := HB2.out
  have q3 : Below w2.heap.size w2 w3 := kc (Below.refl w2.heap.size w2).drew HB3.out
  have q4 := HB4.out
  exact bodyPost_ret (v := .tuple #[.agg #[.int .i64 (Sh x), .int .i64 (Sh y)], .int .i64 0]) (by simp [results, Tryz.results26, go_sem, k1, k2]) rfl
    ⟨rfl, by repeat' (first | assumption | exact Below.refl _ _ | (with_reducible refine Below.drew ?_) | (with_reducible refine ks ?_ _ (by first | exact Nat.le_refl _ | (simp; done) | (simp; omega))) | (with_reducible refine ka ?_ _) | (refine kc ?_ (by assumption)))⟩

set_option maxRecDepth 100000 in
set_option maxHeartbeats 1000000 in
theorem refUnit_zero (x y : Int) (N : Nat) (V : Int → Bool) (w : World) (h1 : V x = true) (h2 : V y = true) (hN : N = 0)
    (CP : Hid (∀ x y w, Calls Tryz.prog 77 #[.agg #[.int .i64 x, .int .i64 y]] w fun e w' => e = .returned (.bool (V x && V y)) ∧ Below w.heap.size w w'))
    (CQ : Hid (∀ w, Calls Tryz.prog 83 #[.agg #[.int .i64 x, .int .i64 y]] w fun e w' => ∃ v, e = .returned v ∧ Holds w' v N ∧ Below w.heap.size w w')) :
    Calls Tryz.prog 26 #[.agg #[.int .i64 x, .int .i64 y]] w fun e w' => e = .returned (.tuple #[.agg #[.int .i64 0, .int .i64 0], .int .i64 10]) ∧ Below w.heap.size w w' := by
  have hZ := Lib.hid (res_new w x y)
  go_enter Tryz.func26, Tryz.ntmps26
  go_wp2_with (first | (go_at_call 77; refine (CP.out _ _ _).mono ?_; rintro e w1 ⟨rfl, hb1⟩; obtain ⟨ax1, ay1⟩ := spot_later hb1 (spot_new2 w x y 0 0).1; have ag1 := World.block_lt_of_cell? _ _ ax1; have ZZ1 := Lib.hid (Zed.later hZ.out hb1); have HB1 := Lib.hid hb1; clear hb1) | (go_at_call 83; refine (CQ.out _).mono ?_; rintro e w2 ⟨v2, rfl, h2, hb2⟩; obtain ⟨p2, l2, c2, rfl⟩ := h2.slice; obtain ⟨ax2, ay2⟩ := spot_later hb2 ⟨ax1, ay1⟩; have ag2 := World.block_lt_of_cell? _ _ ax2; have ZZ2 := Lib.hid (Zed.later ZZ1.out hb2); have hl2 := (h2.len).trans (show (parts N).length = 0 by rw [hN, parts_len_zero]); subst hl2; obtain ⟨⟨zx2, zy2⟩, zf2, zg2⟩ := Zed.later ZZ1.out hb2; have HH2 := Lib.hid h2; have HB2 := Lib.hid hb2; clear h2 hb2))
  obtain ⟨k1, k2⟩ := set_pair (.int .i64 0) (.int .i64 0) zx2 zy2
  have q1 := HB1.out; have q2 := HB2.out
  exact bodyPost_ret (v := .tuple #[.agg #[.int .i64 0, .int .i64 0], .int .i64 10]) (by simp [results, Tryz.results26, go_sem, k1, k2]) rfl
    ⟨rfl, by repeat' (first | assumption | exact Below.refl _ _ | (with_reducible refine Below.drew ?_) | (with_reducible refine ks ?_ _ (by first | exact Nat.le_refl _ | (simp; done) | (simp; omega))) | (with_reducible refine ka ?_ _) | (refine kc ?_ (by assumption)))⟩

set_option maxRecDepth 100000 in
set_option maxHeartbeats 1000000 in
theorem refUnit_out (x y : Int) (V : Int → Bool) (t u : Bool) (w : World) (h : t = false ∨ u = false) (h1 : V x = t) (h2 : V y = u)
    (CP : Hid (∀ x y w, Calls Tryz.prog 77 #[.agg #[.int .i64 x, .int .i64 y]] w fun e w' => e = .returned (.bool (V x && V y)) ∧ Below w.heap.size w w')) :
    Calls Tryz.prog 26 #[.agg #[.int .i64 x, .int .i64 y]] w fun e w' => e = .returned (.tuple #[.agg #[.int .i64 0, .int .i64 0], .int .i64 2]) ∧ Below w.heap.size w w' := by
  have hZ := Lib.hid (res_new w x y)
  cases t <;> cases u
  case true.true => rcases h with h | h <;> cases h
  all_goals
    clear h
    go_enter Tryz.func26, Tryz.ntmps26
    go_wp2_with (first | (go_at_call 77; refine (CP.out _ _ _).mono ?_; rintro e w1 ⟨rfl, hb1⟩; obtain ⟨ax1, ay1⟩ := spot_later hb1 (spot_new2 w x y 0 0).1; have ag1 := World.block_lt_of_cell? _ _ ax1; have ZZ1 := Lib.hid (Zed.later hZ.out hb1); obtain ⟨⟨zx1, zy1⟩, zf1, zg1⟩ := Zed.later hZ.out hb1; have HB1 := Lib.hid hb1; clear hb1))
    obtain ⟨k1, k2⟩ := set_pair (.int .i64 0) (.int .i64 0) zx1 zy1
    have q1 := HB1.out
    exact bodyPost_ret (v := .tuple #[.agg #[.int .i64 0, .int .i64 0], .int .i64 2]) (by simp [results, Tryz.results26, go_sem, k1, k2]) rfl
      ⟨rfl, by repeat' (first | assumption | exact Below.refl _ _ | (with_reducible refine Below.drew ?_) | (with_reducible refine ks ?_ _ (by first | exact Nat.le_refl _ | (simp; done) | (simp; omega))) | (with_reducible refine ka ?_ _) | (refine kc ?_ (by assumption)))⟩

theorem refUnitF (x y : Int) (w : World) :
    Calls Tryz.prog 26 #[.agg #[.int .i64 x, .int .i64 y]] w fun e w' => e = .returned (.tuple #[.agg #[.int .i64 (unitS x y).1.1, .int .i64 (unitS x y).1.2], .int .i64 (unitS x y).2]) ∧ Below w.heap.size w w' := by
  have CP := fun x y w => refSpot x y w
  unfold unitS
  by_cases h1 : Vld x
  · by_cases h2 : Vld y
    · rw [if_pos ⟨h1, h2⟩]
      have hl := sq_len x y h1 h2
      by_cases hz : x = 0 ∧ y = 0
      · rw [if_pos hz]
        exact refUnit_zero x y _ (fun x => decide (Vld x)) w (decide_eq_true h1) (decide_eq_true h2) (by rw [hz.1, hz.2]; rfl) CP (fun w => refSquare x y w h1 h2)
      · rw [if_neg hz]
        have hN : ¬ x.natAbs * x.natAbs + y.natAbs * y.natAbs = 0 := fun h => by
          have hx : x.natAbs * x.natAbs = 0 := by omega
          have hy : y.natAbs * y.natAbs = 0 := by omega
          have := Nat.mul_eq_zero.1 hx
          have := Nat.mul_eq_zero.1 hy
          omega
        exact refUnit_in x y _ (fun a => shareS a (x.natAbs * x.natAbs + y.natAbs * y.natAbs)) (fun x => decide (Vld x)) w (decide_eq_true h1) (decide_eq_true h2) hN CP (fun w => refSquare x y w h1 h2)
          (fun a w va ha h => refShare a _ va w (of_decide_eq_true ha) h hl)
    · rw [if_neg (fun h => h2 h.2)]
      exact refUnit_out x y _ _ _ w (.inr (decide_eq_false h2)) rfl rfl CP
  · rw [if_neg (fun h => h1 h.1)]
    exact refUnit_out x y _ _ _ w (.inl (decide_eq_false h1)) rfl rfl CP

end Go.Proofs.YtebfhjndgfcijaaGreatDoor
