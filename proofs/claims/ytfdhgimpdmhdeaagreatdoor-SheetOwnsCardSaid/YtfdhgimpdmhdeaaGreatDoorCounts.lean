/- Who counts, where stones are in the house. -/
import Derived.Test.YtfdhgimpdmhdeaaGreatDoorCount
namespace Go.Proofs.YtfdhgimpdmhdeaaGreatDoor
open Go Go.RowKit

/-- Who counts, and how many, by the order. -/
def CntR (L : List St) (Y : List Int) (t p : Int) : Prop :=
  (Y = [] ∧ t = -1 ∧ p = 0) ∨
  (Y ≠ [] ∧ (∀ j, j < Y.length → (el L (Y.getD j 0).toNat).t = (el L (Y.getD 0 0).toNat).t) ∧ t = (el L (Y.getD 0 0).toNat).t ∧ p = (Y.length : Int)) ∨
  ∃ k q : Nat, (k < Y.length ∧ (el L (Y.getD k 0).toNat).t ≠ (el L (Y.getD 0 0).toNat).t ∧ ∀ j, j < k → (el L (Y.getD j 0).toNat).t = (el L (Y.getD 0 0).toNat).t) ∧
    (q ≤ k ∧ (∀ j, q ≤ j → j < k → farK L (Y.getD j 0) = farK L (Y.getD k 0)) ∧ (q = 0 ∨ farK L (Y.getD (q - 1) 0) ≠ farK L (Y.getD k 0))) ∧ p = (q : Int) ∧ t = if q = 0 then -1 else (el L (Y.getD 0 0).toNat).t

/-- The way with a limit. -/
theorem cntR_mid {L : List St} {t Q R : Int} {k q m i : Nat} {a : St} {y : Int} {Y' : List Int} (hY : (y :: Y').length = m) (ht : (el L i).t = t) (hi : y.toNat = i) (hF : FirstAt (fun p => decide ((el L p.toNat).t ≠ t)) (y :: Y') (k : Int))
    (hR : sqS a = R) (hFa : farK L ((y :: Y').getD k 0) = sqS a) (hQ : Q = (q : Int)) (hq : q ≤ k) (hall : ∀ j, q ≤ j → j < k → farK L ((y :: Y').getD j 0) = R) (hend : q = 0 ∨ farK L ((y :: Y').getD (q - 1) 0) ≠ R) :
    CntR L (y :: Y') (if q = 0 then -1 else t) Q := by
  have h0 : t = (el L ((y :: Y').getD 0 0).toNat).t := by rw [← ht, ← hi]; rfl
  rcases hF with ⟨k', ⟨hk, hkk⟩, hFk, hFj⟩ | ⟨h, _⟩
  · have : k' = k := by omega
    subst this
    refine .inr (.inr ⟨k', q, ⟨hk, ?_, fun j hj => ?_⟩, ⟨hq, fun j h1 h2 => ?_, ?_⟩, hQ, by rw [h0]⟩)
    · rw [← h0]; simpa using hFk
    · rw [← h0]; simpa using hFj j hj
    · rw [hFa, hR]; exact hall j h1 h2
    · rw [hFa, hR]; exact hend
  · omega

set_option maxRecDepth 100000 in
set_option maxHeartbeats 4000000 in
theorem count_in (L : List St) (n c g o : Nat) (w : World) (hn : n ≤ 1000000) (hc : n ≤ c) (HL : Hid (L.length = n)) (HR : Hid (∀ j (h : j < L.length), StAt w g (o + j * 4) L[j])) (HV : Hid (Valid L)) (HH : Hid (houseI L n ≠ [])) :
    Calls Tryz.prog 8 #[.slice (some ⟨g, o, none⟩) n c] w fun e w' => ∃ (Y : List Int) (t p : Int), e = .returned (.tuple #[.int .i64 t, .int .i64 p, .int .i64 0]) ∧ (Y.Perm (houseI L n) ∧ Y.Pairwise (lexB (farK L))) ∧ CntR L Y t p ∧ Below w.heap.size w w' := by
  have CK := Lib.hid (fun wz (hz : Below w.heap.size w wz) => nearest_in L n c g o wz hn hc HL (fun j h => St.later hz (HR.out j h)) HV)
  have hi1 : (0 : Int).toNat = 0 := rfl
  obtain ⟨N, hN⟩ : ∃ N : Int, (n : Int) = N := ⟨_, rfl⟩
  go_enter Tryz.func8, Tryz.ntmps8
  go_wp2_with (first | (go_at_call 6; go_loud (refine (CK.out _ (ka (ka (Below.refl _ _) _) _)).mono ?_; rintro e w1 ⟨Y, v, rfl, ⟨hp, hs⟩, ho, hb1⟩; have hY : Y ≠ [] := (fun h => HH.out (by rw [h] at hp; exact List.nil_perm.1 hp)); obtain ⟨y, Y', rfl⟩ := List.exists_cons_of_ne_nil hY; obtain ⟨G, cap, rfl, hcap, hG, hl1, hrow⟩ := ho.resolve_left (fun h => hY h.1); obtain ⟨m, hm⟩ : ∃ m, (y :: Y').length = m := ⟨_, rfl⟩; rw [hm] at hcap hl1; obtain ⟨M, hM⟩ : ∃ M : Int, (m : Int) = M := ⟨_, rfl⟩; have hM1 : 1 ≤ M := (by omega); have hM0 : 0 < M := (by omega); have hMn : M ≠ 0 := (by omega); have c0 : w1.cell? ⟨G, 0, none⟩ = some (.int .i64 y) := hrow 0 (by simp); have hy := houseI_lt L n y (hp.subset (List.mem_cons_self ..)); obtain ⟨i, hi⟩ : ∃ i, y.toNat = i := ⟨_, rfl⟩; have hyn : y < N := (by omega); have hy0 : 0 ≤ y := hy.1; have Hi : Hid (i < n) := (by show i < n; omega); have hiL : i < L.length := (by have := HL.out; omega); have st := St.later (kc (ka (ka (Below.refl _ _) _) _) hb1) (HR.out i hiL); rw [← el_get hiL] at st; obtain ⟨⟨t0, _⟩, _, _⟩ := st; obtain ⟨t, ht⟩ : ∃ t, (el L i).t = t := ⟨_, rfl⟩; rw [ht] at t0; have Ht := Lib.hid ht; have v0 : w1.cell? ⟨w.heap.size, 0, none⟩ = some (.slice (some ⟨g, o, none⟩) n c) := cell_later hb1 (by simp [go_sem]); have v1 : w1.cell? ⟨w.heap.size + 1, 0, none⟩ = some (.int .i64 0) := cell_later hb1 (by simp [go_sem]); have vf : w1.frozen? ⟨w.heap.size + 1, 0, none⟩ = false := (hb1.frozen (by simp)).trans (by simp [go_sem]); have HB1 := Lib.hid hb1; have HRow := Lib.hid hrow; have HG := Lib.hid hG; have HPS : Hid ((y :: Y').Perm (houseI L n) ∧ (y :: Y').Pairwise (lexB (farK L)) ∧ (y :: Y').length = m) := ⟨hp, hs, hm⟩; rw [hm]; clear hb1 hp hs ho hY hy hrow hG hm hiL ht)))
  go_region
  all_goals go_wp2_with fail
  obtain ⟨W, hW⟩ : ∃ W, (w1.setCell ⟨w.heap.size + 1, 0, none⟩ (.int .i64 t)).drew = W := ⟨_, rfl⟩
  have hBW : Below w.heap.size w W := by rw [← hW]; exact (ks (kc (ka (ka (Below.refl _ _) _) _) HB1.out) _ (Nat.le_succ _)).drew
  have hG2 : w.heap.size + 2 ≤ G := by have := HG.out; simpa using this
  have k1 : RowI W G 0 (y :: Y') := by
    rw [← hW]
    intro j hj
    show (w1.setCell _ _).cell? _ = _
    rw [World.cell?_setCell_other _ _ _ _ (by simp; try omega)]
    exact HRow.out j hj
  have k2 : ∀ j (h : j < L.length), StAt W g (o + j * 4) L[j] := fun j h => St.later hBW (HR.out j h)
  have k3 : W.cell? ⟨w.heap.size, 0, none⟩ = some (.slice (some ⟨g, o, none⟩) n c) := by
    rw [← hW]
    show (w1.setCell _ _).cell? _ = _
    rw [World.cell?_setCell_other _ _ _ _ (by simp; try omega)]
    exact v0
  have k4 : W.cell? ⟨w.heap.size + 1, 0, none⟩ = some (.int .i64 t) := by rw [← hW]; exact set_one _ v1
  have k5 : W.frozen? ⟨w.heap.size + 1, 0, none⟩ = false := by rw [← hW]; show (w1.setCell _ _).frozen? _ = _; simpa using vf
  rw [hW]
  have hF := indexFunc_in 30 w.heap.size (w.heap.size + 1) (fun p => decide ((el L p.toNat).t ≠ t)) (y :: Y') M m cap G 0 W hM (by have := HPS.out.1.length_eq; have h1 := houseI_len L n; have h2 := HPS.out.2.2; omega) hcap (fun args w => by simp [go_sem]) HPS.out.2.2 k1
    (fun k hk W' hb => by
      have hmem : (y :: Y').getD k 0 ∈ houseI L n := HPS.out.1.subset (by rw [List.getD_eq_getElem?_getD, List.getElem?_eq_getElem (by rw [HPS.out.2.2]; exact hk)]; exact List.getElem_mem _)
      have hlt := houseI_lt L n _ hmem
      exact other_any L n c g o w.heap.size (w.heap.size + 1) ((y :: Y').getD k 0).toNat _ t W' (by omega) (by omega) hc HL (fun j h => St.later hb (k2 j h)) (cell_later hb k3) (cell_later hb k4))
  refine hF.mono ?_
  clear hF
  rintro e w2 ⟨r, rfl, hr, hb2⟩
  have u4 := cell_later hb2 k4
  have u5 : w2.frozen? ⟨w.heap.size + 1, 0, none⟩ = false := (hb2.frozen (World.block_lt_of_cell? _ _ k4)).trans k5
  have us := set_one (.int .i64 t) u4
  have hB2 : Below w.heap.size w w2 := kc hBW hb2
  rcases hr with ⟨k, ⟨hk, rfl⟩, hFk, hFj⟩ | ⟨rfl, hall⟩
  · have hlen := HPS.out.2.2
    have hkm : k < m := by rw [← hlen]; exact hk
    have mem : ∀ j, j < m → (y :: Y').getD j 0 ∈ houseI L n := fun j hj => HPS.out.1.subset (by rw [List.getD_eq_getElem?_getD, List.getElem?_eq_getElem (by rw [hlen]; exact hj)]; exact List.getElem_mem _)
    have row2 : ∀ j, j < m → w2.cell? ⟨G, j, none⟩ = some (.int .i64 ((y :: Y').getD j 0)) := fun j hj => by
      have := (k1.later hb2) j (by rw [hlen]; exact hj)
      rw [Nat.zero_add] at this
      rw [this, List.getD_eq_getElem?_getD, List.getElem?_eq_getElem (by rw [hlen]; exact hj)]; rfl
    have sto2 : ∀ j, j < m → StAt w2 g (o + ((y :: Y').getD j 0).toNat * 4) (el L ((y :: Y').getD j 0).toNat) := fun j hj => by
      have h1 := houseI_lt L n _ (mem j hj)
      have h2 : ((y :: Y').getD j 0).toNat < L.length := by have := HL.out; omega
      rw [el_get h2]
      exact St.later hb2 (k2 _ h2)
    have inp2 : ∀ j, j < m → ¬ OutP (el L ((y :: Y').getD j 0).toNat).x (el L ((y :: Y').getD j 0).toNat).y := fun j hj => by
      have h1 := houseI_lt L n _ (mem j hj)
      exact (HV.out.2.1 _ (by have := HL.out; omega)).2.2.2
    have HRow2 := Lib.hid row2
    have HSto2 := Lib.hid sto2
    have HInp2 := Lib.hid inp2
    have HMem := Lib.hid mem
    have v3 : w2.cell? ⟨w.heap.size, 0, none⟩ = some (.slice (some ⟨g, o, none⟩) n c) := cell_later hb2 k3
    obtain ⟨P, hP⟩ : ∃ P : Int, (k : Int) = P := ⟨_, rfl⟩
    have hP0 : 0 ≤ P := by omega
    have hPM : P < M := by omega
    have hPn : P.toNat = k := by omega
    have hMm : M ≤ 1000000 := by have := HPS.out.1.length_eq; have h1 := houseI_len L n; omega
    rw [hP]
    obtain ⟨z, hz⟩ : ∃ z, (y :: Y').getD k 0 = z := ⟨_, rfl⟩
    have cz := row2 k hkm
    have sz := sto2 k hkm
    have iz := inp2 k hkm
    have hzl := houseI_lt L n _ (mem k hkm)
    rw [hz] at cz sz iz hzl
    obtain ⟨i2, hi2⟩ : ∃ i2, z.toNat = i2 := ⟨_, rfl⟩
    rw [hi2] at sz iz
    obtain ⟨a, ha⟩ : ∃ a, el L i2 = a := ⟨_, rfl⟩
    rw [ha] at sz iz
    obtain ⟨-, x2, x3⟩ := sz
    have hz0 : 0 ≤ z := hzl.1
    have hzN : z < N := by omega
    have Hi2 : Hid (i2 < n) := by show i2 < n; omega
    have hfar : farK L z = sqS a := by unfold farK; rw [hi2, ha]
    have HFar : Hid (farK L ((y :: Y').getD k 0) = sqS a) := by show farK L _ = _; rw [hz]; exact hfar
    have CS := Lib.hid (fun w => square_st a w iz)
    obtain ⟨R, hR⟩ : ∃ R, sqS a = R := ⟨_, rfl⟩
    rw [hR] at CS
    have HK : Hid ((k : Int) = P ∧ k < m ∧ FirstAt (fun p => decide ((el L p.toNat).t ≠ t)) (y :: Y') k) := ⟨hP, hkm, .inl ⟨k, ⟨hk, rfl⟩, hFk, hFj⟩⟩
    have HRa := Lib.hid hR
    have HFr := Lib.hid u5
    have HU4 := Lib.hid u4
    have HUs := Lib.hid us
    have HB2 := Lib.hid hB2
    have HBb := Lib.hid hb2
    clear hlen hkm mem row2 sto2 inp2 hP hz ha iz hzl hfar hR hk hFk hFj u5 us hB2 hb2 u4 k1 k2 k3 k4 k5 hBW hG2
    go_wp2_with fail
    go_region_held3 (fun w' => w'.cell? ⟨w.heap.size, 0, none⟩ = some (.slice (some ⟨g, o, none⟩) n c) ∧ w'.cell? ⟨G, k, none⟩ = some (.int .i64 z) ∧ w'.cell? ⟨g, o + i2 * 4 + 2, none⟩ = some (.int .i64 a.x) ∧ w'.cell? ⟨g, o + i2 * 4 + 3, none⟩ = some (.int .i64 a.y))
      (first | exact ⟨v3, cz, x2, x3⟩ | exact ⟨p0, p1, p2, p3⟩)
      (first | ((with_reducible refine (CS.out _).mono ?_); rintro e w3 ⟨rfl, hb3⟩; have p0 := cell_later hb3 v3; have p1 := cell_later hb3 cz; have p2 := cell_later hb3 x2; have p3 := cell_later hb3 x3; have HB3 := Lib.hid hb3; clear hb3))
    all_goals go_wp2_with fail
    go_loopw [3] (fun pv wr => ∃ (q : Nat) (Q : Int), pv = .int .i64 Q ∧ 0 ≤ Q ∧ Q ≤ P ∧ Hid (Q = (q : Int) ∧ (∀ j, q ≤ j → j < k → farK L ((y :: Y').getD j 0) = R) ∧ Below w2.heap.size w2 wr)) (fun pv _ => (intOf pv).toNat)
    case atStart => exact ⟨k, P, rfl, by omega, by omega, ⟨HK.out.1.symm, fun j h1 h2 => by omega, kc (Below.refl _ _).drew HB3.out⟩⟩
    case round =>
      obtain ⟨q, Q, rfl, hQ0, hQ1, hKK⟩ := hrel
      obtain ⟨hQq, hall, hbr⟩ := hKK.out
      have r3 := cell_later hbr v3
      clear cz x2 x3 v3 p0 p1 p2 p3 hKK
      by_cases hQ : 0 < Q
      · obtain ⟨l, rfl⟩ : ∃ l, q = l + 1 := ⟨q - 1, by omega⟩
        have hlm : l < m := by omega
        have cz := cell_later hbr (HRow2.out l hlm)
        have sz := St.later hbr (HSto2.out l hlm)
        have iz := HInp2.out l hlm
        have hzl := houseI_lt L n _ (HMem.out l hlm)
        obtain ⟨z1, hz⟩ : ∃ z1, (y :: Y').getD l 0 = z1 := ⟨_, rfl⟩
        rw [hz] at cz sz iz hzl
        obtain ⟨i3, hi3⟩ : ∃ i3, z1.toNat = i3 := ⟨_, rfl⟩
        rw [hi3] at sz iz
        obtain ⟨b, hb⟩ : ∃ b, el L i3 = b := ⟨_, rfl⟩
        rw [hb] at sz iz
        obtain ⟨-, x2, x3⟩ := sz
        have hz10 : 0 ≤ z1 := hzl.1
        have hz1N : z1 < N := by omega
        have hfar : farK L ((y :: Y').getD l 0) = sqS b := by rw [hz]; unfold farK; rw [hi3, hb]
        have CT := Lib.hid (fun w => square_st b w iz)
        obtain ⟨R1, hR1⟩ : ∃ R1, sqS b = R1 := ⟨_, rfl⟩
        rw [hR1] at CT hfar
        have hJw : IntKind.i64.wrap (Q - 1) = Q - 1 := by simp [IntKind.wrap, IntKind.bits, IntKind.signed]; omega
        have hJ1n : (Q - 1).toNat = l := by omega
        have hJ10 : 0 ≤ Q - 1 := by omega
        have hJ11 : 1 ≤ Q := by omega
        have hJ1M : Q - 1 < M := by omega
        have hJM : Q ≤ M := by omega
        have HQ : Hid (Q = ((l + 1 : Nat) : Int) ∧ l + 1 ≤ k) := ⟨hQq, by have := HK.out.1; omega⟩
        have HFl := Lib.hid hfar
        have HAl := Lib.hid hall
        have HBr := Lib.hid hbr
        by_cases hRR : R1 = R
        · subst hRR
          clear hall hbr hfar hR1 hz hb iz hzl hlm hQq
          go_wp2_with fail
          go_region_held3 (fun w' => w'.cell? ⟨w.heap.size, 0, none⟩ = some (.slice (some ⟨g, o, none⟩) n c) ∧ w'.cell? ⟨G, l, none⟩ = some (.int .i64 z1) ∧ w'.cell? ⟨g, o + i3 * 4 + 2, none⟩ = some (.int .i64 b.x) ∧ w'.cell? ⟨g, o + i3 * 4 + 3, none⟩ = some (.int .i64 b.y))
            (first | exact ⟨r3, cz, x2, x3⟩ | exact ⟨q0, q1, q2, q3⟩)
            (first | ((with_reducible refine (CT.out _).mono ?_); rintro e w4 ⟨rfl, hb4⟩; have q0 := cell_later hb4 r3; have q1 := cell_later hb4 cz; have q2 := cell_later hb4 x2; have q3 := cell_later hb4 x3; have HB4 := Lib.hid hb4; clear hb4))
          all_goals
            go_wp2_with fail
            go_roundw
            case rel => exact ⟨l, Q - 1, by go_num, by omega, by omega, ⟨by have := HQ.out.1; omega, fun j h1 h2 => (by rcases Nat.eq_or_lt_of_le h1 with h | h; exact (by rw [← h]; exact HFl.out); exact HAl.out j h h2), kc (kc HBr.out (Below.refl _ _).drew) HB4.out⟩⟩
            case measure => simp [intOf]; omega
        · have hRb : (R1 == R) = false := beq_eq_false_iff_ne.2 hRR
          have HNe := Lib.hid hRR
          have hQb : (Q == 0) = false := beq_eq_false_iff_ne.2 (by omega)
          clear hall hbr hfar hR1 hz hb iz hzl hlm hQq hRR
          go_wp2_with fail
          go_region_held3 (fun w' => w'.cell? ⟨w.heap.size, 0, none⟩ = some (.slice (some ⟨g, o, none⟩) n c) ∧ w'.cell? ⟨G, l, none⟩ = some (.int .i64 z1) ∧ w'.cell? ⟨g, o + i3 * 4 + 2, none⟩ = some (.int .i64 b.x) ∧ w'.cell? ⟨g, o + i3 * 4 + 3, none⟩ = some (.int .i64 b.y))
            (first | exact ⟨r3, cz, x2, x3⟩ | exact ⟨q0, q1, q2, q3⟩)
            (first | ((with_reducible refine (CT.out _).mono ?_); rintro e w4 ⟨rfl, hb4⟩; have q0 := cell_later hb4 r3; have q1 := cell_later hb4 cz; have q2 := cell_later hb4 x2; have q3 := cell_later hb4 x3; have HB4 := Lib.hid hb4; clear hb4))
          all_goals
            have HX4 : Hid (Below w2.heap.size w2 w4) := kc (kc HBr.out (Below.refl _ _).drew) HB4.out
            have v4 : w4.cell? ⟨w.heap.size + 1, 0, none⟩ = some (.int .i64 t) := cell_later HX4.out HU4.out
            have vf4 : w4.frozen? ⟨w.heap.size + 1, 0, none⟩ = false := (HX4.out.frozen (World.block_lt_of_cell? _ _ HU4.out)).trans HFr.out
            go_wp2_with fail
            have vs := set_one (.int .i64 t) v4
            exact bodyPost_ret (v := .tuple #[.int .i64 t, .int .i64 Q, .int .i64 0]) (by simp [results, Tryz.results8, go_sem, vs]) rfl
              ⟨y :: Y', t, Q, rfl, ⟨HPS.out.1, HPS.out.2.1⟩, (by have := cntR_mid HPS.out.2.2 Ht.out hi HK.out.2.2 HRa.out HFar.out HQ.out.1 HQ.out.2 HAl.out (.inr (by rw [Nat.add_sub_cancel, HFl.out]; exact HNe.out)); rw [if_neg (by omega)] at this; exact this), ks (kc HB2.out HX4.out) _ (Nat.le_succ _)⟩
      · have hQ00 : Q = 0 := by omega
        subst hQ00
        have hq0 : q = 0 := by omega
        subst hq0
        have HAl := Lib.hid hall
        have HBr := Lib.hid hbr
        clear hall hbr hQq hQ
        go_wp2_with fail
        go_quiet (fail)
        all_goals
          have v4 : wr.cell? ⟨w.heap.size + 1, 0, none⟩ = some (.int .i64 t) := cell_later HBr.out HU4.out
          have vf4 : wr.frozen? ⟨w.heap.size + 1, 0, none⟩ = false := (HBr.out.frozen (World.block_lt_of_cell? _ _ HU4.out)).trans HFr.out
          have vs := set_one (.int .i64 (-1)) v4
          go_wp2_with fail
          have vs2 := set_one (.int .i64 (-1)) (set_one (.int .i64 (-1)) (cell_later (below_drewN wr nq) v4))
          exact bodyPost_ret (v := .tuple #[.int .i64 (-1), .int .i64 0, .int .i64 0]) (by simp [results, Tryz.results8, go_sem, vs, vs2]) rfl
            ⟨y :: Y', -1, 0, rfl, ⟨HPS.out.1, HPS.out.2.1⟩, cntR_mid (q := 0) HPS.out.2.2 Ht.out hi HK.out.2.2 HRa.out HFar.out rfl (Nat.zero_le _) HAl.out (.inl rfl), ks (ks (kc HB2.out (kc HBr.out (below_drewN wr nq))) _ (Nat.le_succ _)) _ (Nat.le_succ _)⟩
  · have HT : Hid (t = (el L ((y :: Y').getD 0 0).toNat).t) := by show _ = _; rw [← Ht.out, ← hi]; rfl
    have HAll : Hid (∀ j, j < (y :: Y').length → (el L ((y :: Y').getD j 0).toNat).t = (el L ((y :: Y').getD 0 0).toNat).t) := fun j hj => by have := hall j hj; rw [← HT.out]; simpa using this
    clear hall
    go_wp2_with fail
    exact bodyPost_ret (v := .tuple #[.int .i64 t, .int .i64 M, .int .i64 0]) (by simp [results, Tryz.results8, go_sem, us]) rfl (by exact ⟨y :: Y', t, M, rfl, ⟨HPS.out.1, HPS.out.2.1⟩, .inr (.inl ⟨by simp, HAll.out, HT.out, by rw [HPS.out.2.2, hM]⟩), ks hB2 _ (Nat.le_succ _)⟩)

end Go.Proofs.YtfdhgimpdmhdeaaGreatDoor
