/- The document's Check: is a position valid? -/
import Derived.Test.YtfdhgimpdmhdeaaGreatDoorCheck
import Derived.Test.YtfdhgimpdmhdeaaGreatDoorRefOverlap
namespace Go.Proofs.YtfdhgimpdmhdeaaGreatDoor
open Go Go.RowKit Go.Sort

/-- Is it within? -/
def inR (x a b : Int) : Bool := decide (a ≤ x) && decide (x ≤ b)

set_option maxRecDepth 100000 in
set_option maxHeartbeats 1000000 in
theorem refIn_any (x a b : Int) (w : World) :
    Calls Tryz.prog 45 #[.int .i64 x, .int .i64 a, .int .i64 b] w fun e w' => e = .returned (.bool (inR x a b)) ∧ Below w.heap.size w w' := by
  unfold inR
  by_cases h1 : a ≤ x
  · by_cases h2 : x ≤ b
    all_goals
      go_enter Tryz.func45, Tryz.ntmps45
      go_wp2_with fail
      go_ret
      exact ⟨by first | (simp [h1, h2]; done) | (simp [h1, h2]; intros; omega), by repeat' (first | assumption | exact Below.refl _ _ | (with_reducible refine Below.drew ?_) | (with_reducible refine ka ?_ _) | (refine kc ?_ (by assumption)))⟩
  · go_enter Tryz.func45, Tryz.ntmps45
    go_wp2_with fail
    go_ret
    exact ⟨by first | (simp [h1]; done) | (simp [h1]; intros; omega), by repeat' (first | assumption | exact Below.refl _ _ | (with_reducible refine Below.drew ?_) | (with_reducible refine ka ?_ _) | (refine kc ?_ (by assumption)))⟩

theorem named_in (s : St) : namedS s = (inR s.t 0 1 && inR s.n 0 7) := by
  unfold namedS inR
  rw [Bool.eq_iff_iff]
  simp only [Bool.and_eq_true, Bool.or_eq_true, decide_eq_true_eq]
  omega

theorem mem_names {L : List St} {i : Nat} {p : Int × Int} (h : p ∈ names L i) : ∃ j, (j < i ∧ j < L.length) ∧ ((el L j).t, (el L j).n) = p := by
  unfold names at h
  obtain ⟨s, hs, rfl⟩ := List.mem_map.1 h
  obtain ⟨j, hj, rfl⟩ := List.mem_iff_getElem.1 hs
  have h1 : j < i ∧ j < L.length := by have := hj; rw [List.length_take] at this; omega
  refine ⟨j, h1, ?_⟩
  rw [el_get h1.2, List.getElem_take]
theorem names_mem {L : List St} {i j : Nat} (h : j < i) (hl : j < L.length) : ((el L j).t, (el L j).n) ∈ names L i := by
  unfold names
  refine List.mem_map.2 ⟨el L j, ?_, rfl⟩
  rw [el_get hl]
  exact List.mem_iff_getElem.2 ⟨j, by rw [List.length_take]; omega, List.getElem_take⟩

set_option maxRecDepth 100000 in
set_option maxHeartbeats 4000000 in
theorem refCheck_in (L : List St) (n c g o : Nat) (w : World) (hn : n ≤ 1000000) (hc : n ≤ c) (HL : Hid (L.length = n)) (HR : Hid (∀ j (h : j < L.length), StAt w g (o + j * 4) L[j])) :
    Calls Tryz.prog 25 #[.slice (some ⟨g, o, none⟩) n c] w fun e w' => ∃ r : Bool, e = .returned (.bool r) ∧ (r = true ↔ Valid L) ∧ Below w.heap.size w w' := by
  obtain ⟨N, hN⟩ : ∃ N : Int, (n : Int) = N := ⟨_, rfl⟩
  have hN0 : 0 ≤ N := by omega
  by_cases h16 : 16 < N
  · have HV : Hid (¬ Valid L) := fun h => by have h1 := h.1; have h2 := HL.out; omega
    go_enter Tryz.func25, Tryz.ntmps25
    go_wp2_with fail
    go_ret
    exact ⟨false, rfl, ⟨fun h => (by cases h), fun h => absurd h HV.out⟩, Below.refl _ _⟩
  · have CO := Lib.hid (fun wz (hz : Below w.heap.size w wz) => refOverlap_in L n c g o wz hn hc HL (fun j h => St.later hz (HR.out j h)))
    go_enter Tryz.func25, Tryz.ntmps25
    go_wp2_with fail
    go_loopw [3] (fun iv wr => ∃ (i : Nat) (I : Int), iv = .int .i64 I ∧ 0 ≤ I ∧ I ≤ N ∧ Hid ((I = (i : Int)) ∧ (∀ j, j < i → GoodAt L j) ∧ Below w.heap.size w wr)) (fun iv _ => (N - intOf iv).toNat)
    case atStart => exact ⟨0, 0, rfl, by omega, by omega, ⟨rfl, fun j h => by omega, Below.refl _ _⟩⟩
    case round =>
      obtain ⟨i, I, rfl, hI0, hI1, hK⟩ := hrel
      obtain ⟨hIi, hgd, hBv⟩ := hK.out
      have hLn := HL.out
      by_cases hI : I < N
      · have hil : i < L.length := by omega
        obtain ⟨s, hs⟩ : ∃ s, L[i] = s := ⟨_, rfl⟩
        obtain ⟨st, sn, sx, sy⟩ := s
        have hst := St.later hBv (HR.out i hil)
        rw [hs] at hst
        obtain ⟨⟨t0, t1⟩, t2, t3⟩ := hst
        dsimp only at t0 t1 t2 t3
        have HIi := Lib.hid hIi
        have Hgd := Lib.hid hgd
        have HBv := Lib.hid hBv
        have Hil := Lib.hid hil
        have Hs : Hid (el L i = ⟨st, sn, sx, sy⟩) := by show _ = _; rw [el_get hil, hs]
        have hIn : I.toNat = i := by omega
        obtain ⟨X, hX⟩ : ∃ X, wr.heap.size = X := ⟨_, rfl⟩
        have HB0 : Hid (StAt (wr.alloc (.cells #[.int .i64 st, .int .i64 sn, .int .i64 sx, .int .i64 sy] 39)) X 0 ⟨st, sn, sx, sy⟩ ∧ Below w.heap.size w (wr.alloc (.cells #[.int .i64 st, .int .i64 sn, .int .i64 sx, .int .i64 sy] 39))) := by
          show _ ∧ _
          rw [← hX]
          exact ⟨stAt_new wr ⟨st, sn, sx, sy⟩, ka hBv _⟩
        have C1 : Hid (∀ w, Calls Tryz.prog 45 #[.int .i64 st, .int .i64 0, .int .i64 1] w fun e w' => e = .returned (.bool (inR st 0 1)) ∧ Below w.heap.size w w') := fun w => refIn_any _ _ _ w
        have C2 : Hid (∀ w, Calls Tryz.prog 45 #[.int .i64 sn, .int .i64 0, .int .i64 7] w fun e w' => e = .returned (.bool (inR sn 0 7)) ∧ Below w.heap.size w w') := fun w => refIn_any _ _ _ w
        have C3 : Hid (∀ w, Calls Tryz.prog 46 #[.agg #[.int .i64 sx, .int .i64 sy]] w fun e w' => e = .returned (.bool (decide (Plc sx sy))) ∧ Below w.heap.size w w') := fun w => refCheckSpot_any _ _ w
        have HNm : Hid (namedS (el L i) = (inR st 0 1 && inR sn 0 7)) := by show _ = _; rw [Hs.out, named_in]
        clear hK hIi hgd hBv hs hil hLn
        cases hA : inR st 0 1
        · have HV : Hid (¬ Valid L) := valid_named Hil.out (by rw [HNm.out, hA]; rfl)
          rw [hA] at C1
          clear hA
          go_wp2_with (first | (go_at_call 45; refine (C1.out _).mono ?_; rintro e w2 ⟨rfl, hb2⟩; have HB2 := Lib.hid hb2; clear hb2))
          go_ret
          exact ⟨false, rfl, ⟨fun h => (by cases h), fun h => absurd h HV.out⟩, kc HB0.out.2 HB2.out⟩
        · rw [hA] at C1
          cases hB : inR sn 0 7
          · have HV : Hid (¬ Valid L) := valid_named Hil.out (by rw [HNm.out, hA, hB]; rfl)
            rw [hB] at C2
            clear hA hB
            go_wp2_with (first | (go_at_call 45; have HX := HB2; clear HX; refine (C2.out _).mono ?_; rintro e w3 ⟨rfl, hb3⟩; have HB3 := Lib.hid hb3; clear hb3) | (go_at_call 45; refine (C1.out _).mono ?_; rintro e w2 ⟨rfl, hb2⟩; obtain ⟨⟨s2a, s2b⟩, s2c, s2d⟩ := St.later hb2 HB0.out.1; have sg2 := World.block_lt_of_cell? _ _ s2a; have HB2 := Lib.hid hb2; clear hb2))
            go_ret
            exact ⟨false, rfl, ⟨fun h => (by cases h), fun h => absurd h HV.out⟩, kc (kc HB0.out.2 HB2.out) HB3.out⟩
          · rw [hB] at C2
            have HNt : Hid (namedS (el L i) = true) := by show _ = _; rw [HNm.out, hA, hB]; rfl
            clear hA hB
            by_cases hP : Plc sx sy
            · have HPt := Lib.hid (decide_eq_true hP)
              rw [HPt.out] at C3
              have C4 : Hid (∀ w, Calls Tryz.prog 47 #[.agg #[.int .i64 sx, .int .i64 sy]] w fun e w' => e = .returned (.bool (!decide (OutP sx sy))) ∧ Below w.heap.size w w') := fun w => playing_any _ _ w hP
              by_cases hO : OutP sx sy
              · have HV : Hid (¬ Valid L) := valid_play Hil.out (by rw [Hs.out]; exact fun h => h.2 hO)
                have HOt : Hid ((!decide (OutP sx sy)) = false) := by show _ = _; rw [decide_eq_true hO]; rfl
                rw [HOt.out] at C4
                clear hP hO
                go_wp2_with (first | (go_at_call 45; have HX := HB2; clear HX; refine (C2.out _).mono ?_; rintro e w3 ⟨rfl, hb3⟩; obtain ⟨⟨s3a, s3b⟩, s3c, s3d⟩ := St.later hb3 HT2.out; have sg3 := World.block_lt_of_cell? _ _ s3a; have HT3 := Lib.hid (St.later hb3 HT2.out); have HB3 := Lib.hid hb3; clear hb3) | (go_at_call 45; refine (C1.out _).mono ?_; rintro e w2 ⟨rfl, hb2⟩; obtain ⟨⟨s2a, s2b⟩, s2c, s2d⟩ := St.later hb2 HB0.out.1; have sg2 := World.block_lt_of_cell? _ _ s2a; have HT2 := Lib.hid (St.later hb2 HB0.out.1); have HB2 := Lib.hid hb2; clear hb2) | (go_at_call 46; refine (C3.out _).mono ?_; rintro e w4 ⟨rfl, hb4⟩; obtain ⟨⟨s4a, s4b⟩, s4c, s4d⟩ := St.later hb4 HT3.out; have sg4 := World.block_lt_of_cell? _ _ s4a; have HB4 := Lib.hid hb4; clear hb4) | (go_at_call 47; refine (C4.out _).mono ?_; rintro e w5 ⟨rfl, hb5⟩; have HB5 := Lib.hid hb5; clear hb5))
                go_ret
                exact ⟨false, rfl, ⟨fun h => (by cases h), fun h => absurd h HV.out⟩, kc (kc (kc (kc HB0.out.2 HB2.out) HB3.out) HB4.out) HB5.out⟩
              · have HOt : Hid ((!decide (OutP sx sy)) = true) := by show _ = _; rw [decide_eq_false hO]; rfl
                rw [HOt.out] at C4
                have HPO := Lib.hid (And.intro hP hO)
                clear hP hO
                go_wp2_with (first | (go_at_call 45; have HX := HB2; clear HX; refine (C2.out _).mono ?_; rintro e w3 ⟨rfl, hb3⟩; obtain ⟨⟨s3a, s3b⟩, s3c, s3d⟩ := St.later hb3 HT2.out; have sg3 := World.block_lt_of_cell? _ _ s3a; have HT3 := Lib.hid (St.later hb3 HT2.out); have HB3 := Lib.hid hb3; clear hb3) | (go_at_call 45; refine (C1.out _).mono ?_; rintro e w2 ⟨rfl, hb2⟩; obtain ⟨⟨s2a, s2b⟩, s2c, s2d⟩ := St.later hb2 HB0.out.1; have sg2 := World.block_lt_of_cell? _ _ s2a; have HT2 := Lib.hid (St.later hb2 HB0.out.1); have HB2 := Lib.hid hb2; clear hb2) | (go_at_call 46; refine (C3.out _).mono ?_; rintro e w4 ⟨rfl, hb4⟩; obtain ⟨⟨s4a, s4b⟩, s4c, s4d⟩ := St.later hb4 HT3.out; have sg4 := World.block_lt_of_cell? _ _ s4a; have HT4 := Lib.hid (St.later hb4 HT3.out); have HB4 := Lib.hid hb4; clear hb4) | (go_at_call 47; refine (C4.out _).mono ?_; rintro e w5 ⟨rfl, hb5⟩; have HT5 := Lib.hid (St.later hb5 HT4.out); have HB5 := Lib.hid (kc (kc (kc (kc HB0.out.2 HB2.out) HB3.out) HB4.out) hb5); clear hb5 HB2 HB3 HB4 HT2 HT3 HT4 s2a s2b s2c s2d sg2 s3a s3b s3c s3d sg3 s4a s4b s4c s4d sg4))
                clear C1 C2 C3 C4 t0 t1 t2 t3
                go_loopw [5] (fun jv wz => ∃ (j : Nat) (J : Int), jv = .int .i64 J ∧ 0 ≤ J ∧ J ≤ I ∧ Hid ((J = (j : Int)) ∧ (∀ k, k < j → ((el L k).t, (el L k).n) ≠ (st, sn)) ∧ Below w5.heap.size w5 wz)) (fun jv _ => (I - intOf jv).toNat)
                case atStart => exact ⟨0, 0, rfl, by omega, by omega, ⟨rfl, fun k h => by omega, Below.refl _ _⟩⟩
                case round =>
                  obtain ⟨j, J, rfl, hJ0, hJ1, hK⟩ := hrel
                  obtain ⟨hJj, hno, hBz⟩ := hK.out
                  by_cases hJ : J < I
                  · have hIi := HIi.out
                    have hil := Hil.out
                    have hjl : j < L.length := by omega
                    obtain ⟨b, hb⟩ : ∃ b, el L j = b := ⟨_, rfl⟩
                    have h1 := St.later (kc HB5.out hBz) (HR.out j hjl)
                    rw [← el_get hjl, hb] at h1
                    obtain ⟨bt, bn, bx, byy⟩ := b
                    obtain ⟨⟨b0, b1⟩, -, -⟩ := h1
                    obtain ⟨⟨a0, a1⟩, -, -⟩ := St.later hBz HT5.out
                    dsimp only at a0 a1 b0 b1
                    have k0 := cell_regrown a0
                    have k1 := cell_regrown a1
                    have l0 := cell_regrown b0
                    have l1 := cell_regrown b1
                    have hJn : J.toNat = j := by omega
                    have hJN : J < N := by omega
                    have HJ : Hid (J = (j : Int) ∧ j < i ∧ j < L.length) := ⟨hJj, by omega, hjl⟩
                    have HNo := Lib.hid hno
                    have HBz := Lib.hid hBz
                    have Hb := Lib.hid hb
                    clear hK hJj hno hBz hIi hil hjl hb a0 a1 b0 b1
                    by_cases e1 : st = bt
                    · by_cases e2 : sn = bn
                      · have HV : Hid (¬ Valid L) := valid_new Hil.out (by rw [Hs.out]; show (st, sn) ∈ _; have := names_mem HJ.out.2.1 HJ.out.2.2; rw [Hb.out] at this; rw [e1, e2]; exact this)
                        subst e1 e2
                        go_wp2_with fail
                        refine wp_region_quiet_below (by kernel_rfl) (by kernel_rfl) ?_
                        repeat (first | go_big_quiet_step (fail) | quiet_step (fail))
                        refine wpQuiet_nil ?_
                        intro _ hw'
                        obtain ⟨⟨dq, osq⟩, hw''⟩ := hw'
                        subst hw''
                        have HQ := Lib.hid (kc HBz.out (below_regrown wr dq osq))
                        clear k0 k1 l0 l1
                        go_wp2_with fail
                        go_ret
                        exact ⟨false, rfl, ⟨fun h => (by cases h), fun h => absurd h HV.out⟩, kc HB5.out HQ.out⟩
                      · have HF : Hid (((el L j).t, (el L j).n) ≠ (st, sn)) := by show _ ≠ _; rw [Hb.out]; exact fun h => e2 (Prod.mk.inj h).2.symm
                        have hb2 : (bn == sn) = false := beq_eq_false_iff_ne.2 (fun h => e2 h.symm)
                        subst e1
                        go_wp2_with fail
                        refine wp_region_quiet_below (by kernel_rfl) (by kernel_rfl) ?_
                        repeat (first | go_big_quiet_step (fail) | quiet_step (fail))
                        refine wpQuiet_nil ?_
                        intro _ hw'
                        obtain ⟨⟨dq, osq⟩, hw''⟩ := hw'
                        subst hw''
                        have HQ := Lib.hid (kc HBz.out (below_regrown wr dq osq))
                        clear k0 k1 l0 l1
                        go_wp2_with fail
                        go_roundw
                        case rel => exact ⟨j + 1, J + 1, by go_num, by omega, by omega, ⟨by have := HJ.out.1; omega, fun k hk => (by rcases Nat.lt_succ_iff_lt_or_eq.1 hk with h | h; exact HNo.out k h; rw [h]; exact HF.out), HQ.out⟩⟩
                        case measure => simp [intOf]; omega
                    · have HF : Hid (((el L j).t, (el L j).n) ≠ (st, sn)) := by show _ ≠ _; rw [Hb.out]; exact fun h => e1 (Prod.mk.inj h).1.symm
                      have hb1 : (bt == st) = false := beq_eq_false_iff_ne.2 (fun h => e1 h.symm)
                      go_wp2_with fail
                      refine wp_region_quiet_below (by kernel_rfl) (by kernel_rfl) ?_
                      repeat (first | go_big_quiet_step (fail) | quiet_step (fail))
                      refine wpQuiet_nil ?_
                      intro _ hw'
                      obtain ⟨⟨dq, osq⟩, hw''⟩ := hw'
                      subst hw''
                      have HQ := Lib.hid (kc HBz.out (below_regrown wr dq osq))
                      clear k0 k1 l0 l1
                      go_wp2_with fail
                      go_roundw
                      case rel => exact ⟨j + 1, J + 1, by go_num, by omega, by omega, ⟨by have := HJ.out.1; omega, fun k hk => (by rcases Nat.lt_succ_iff_lt_or_eq.1 hk with h | h; exact HNo.out k h; rw [h]; exact HF.out), HQ.out⟩⟩
                      case measure => simp [intOf]; omega
                  · have HG : Hid (GoodAt L i) := by
                      refine ⟨HNt.out, fun h => ?_, by rw [Hs.out]; exact HPO.out⟩
                      obtain ⟨k, ⟨hk, -⟩, he⟩ := mem_names h
                      rw [Hs.out] at he
                      exact hno k (by have := HIi.out; omega) he
                    have HQ := Lib.hid (kc HB5.out hBz)
                    clear hK hJj hno hBz
                    go_wp2_with fail
                    go_roundw
                    case rel =>
                      have HX : ∃ (i' : Nat) (I' : Int), Value.int .i64 (I + 1) = .int .i64 I' ∧ 0 ≤ I' ∧ I' ≤ N ∧ Hid ((I' = (i' : Int)) ∧ (∀ j, j < i' → GoodAt L j) ∧ Below w.heap.size w wr) := ⟨i + 1, I + 1, rfl, by omega, by omega, ⟨by have := HIi.out; omega, good_more Hgd.out HG.out, HQ.out⟩⟩
                      first
                      | exact HX
                      | exact ⟨_, _, _, _, _, _, _, HX, rfl, rfl, rfl, rfl, rfl, rfl, rfl⟩
                    case measure => simp [intOf]; omega
            · have HPf := Lib.hid (decide_eq_false hP)
              rw [HPf.out] at C3
              have HV : Hid (¬ Valid L) := valid_play Hil.out (by rw [Hs.out]; exact fun h => hP h.1)
              clear hP
              go_wp2_with (first | (go_at_call 45; have HX := HB2; clear HX; refine (C2.out _).mono ?_; rintro e w3 ⟨rfl, hb3⟩; obtain ⟨⟨s3a, s3b⟩, s3c, s3d⟩ := St.later hb3 HT2.out; have sg3 := World.block_lt_of_cell? _ _ s3a; have HB3 := Lib.hid hb3; clear hb3) | (go_at_call 45; refine (C1.out _).mono ?_; rintro e w2 ⟨rfl, hb2⟩; obtain ⟨⟨s2a, s2b⟩, s2c, s2d⟩ := St.later hb2 HB0.out.1; have sg2 := World.block_lt_of_cell? _ _ s2a; have HT2 := Lib.hid (St.later hb2 HB0.out.1); have HB2 := Lib.hid hb2; clear hb2) | (go_at_call 46; refine (C3.out _).mono ?_; rintro e w4 ⟨rfl, hb4⟩; have HB4 := Lib.hid hb4; clear hb4))
              go_ret
              exact ⟨false, rfl, ⟨fun h => (by cases h), fun h => absurd h HV.out⟩, kc (kc (kc HB0.out.2 HB2.out) HB3.out) HB4.out⟩
      · have hil : i = n := by omega
        have h16' : L.length ≤ 16 := by omega
        have Hg : Hid (∀ j, j < L.length → GoodAt L j) := fun j hj => hgd j (by omega)
        have HBv := Lib.hid hBv
        have H16 := Lib.hid h16'
        clear hK hIi hgd hBv hil hLn h16'
        go_wp2_with (first | (go_at_call 48; refine (CO.out _ HBv.out).mono ?_; rintro e w7 ⟨⟨r1, r2⟩, rfl, hr, hb7⟩; have HRr := Lib.hid hr; have HB7 := Lib.hid hb7; clear hr hb7))
        go_ret
        exact ⟨decide (r1 < 0), rfl, valid_end H16.out Hg.out HRr.out, kc HBv.out HB7.out⟩

end Go.Proofs.YtfdhgimpdmhdeaaGreatDoor
