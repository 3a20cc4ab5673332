/- The document's Overlap: the first stones that overlap. -/
import Derived.Test.YtfdhgimpdmhdeaaGreatDoorOverlap
import Derived.Lib.QuietBelow
namespace Go.Proofs.YtfdhgimpdmhdeaaGreatDoor
open Go Go.RowKit Go.Sort

theorem con_three (x y : Int) : conS x y = -1 ∨ conS x y = 0 ∨ conS x y = 1 := by
  unfold conS
  split
  · split
    · exact .inl rfl
    · split
      · exact .inr (.inl rfl)
      · exact .inr (.inr rfl)
  · exact .inr (.inr rfl)

set_option maxRecDepth 100000 in
set_option maxHeartbeats 4000000 in
theorem refOverlap_in (L : List St) (n c g o : Nat) (w : World) (hn : n ≤ 1000000) (hc : n ≤ c) (HL : Hid (L.length = n)) (HR : Hid (∀ j (h : j < L.length), StAt w g (o + j * 4) L[j])) :
    Calls Tryz.prog 48 #[.slice (some ⟨g, o, none⟩) n c] w fun e w' => ∃ r : Int × Int, e = .returned (.tuple #[.int .i64 r.1, .int .i64 r.2]) ∧ PairAt ovS L r ∧ Below w.heap.size w w' := by
  obtain ⟨N, hN⟩ : ∃ N : Int, (n : Int) = N := ⟨_, rfl⟩
  have hN0 : 0 ≤ N := by omega
  have hNb : N ≤ 1000000 := by omega
  go_enter Tryz.func48, Tryz.ntmps48
  go_wp2_with fail
  go_loopw [4] (fun iv wr => ∃ (i : Nat) (I : Int), iv = .int .i64 I ∧ 0 ≤ I ∧ I ≤ N ∧ Hid ((I = (i : Int)) ∧ NoPair ovS L i 0 ∧ Below w.heap.size w wr)) (fun iv _ => (N - intOf iv).toNat)
  case atStart => exact ⟨0, 0, rfl, by omega, by omega, ⟨rfl, noPair_zero ovS L, Below.refl _ _⟩⟩
  case round =>
    obtain ⟨i, I, rfl, hI0, hI1, hK⟩ := hrel
    obtain ⟨hIi, hno, hBv⟩ := hK.out
    have hLn := HL.out
    by_cases hI : I < N
    · have HIi := Lib.hid hIi
      have HNo := Lib.hid (noPair_start hno)
      have HBv := Lib.hid hBv
      have hIn : I.toNat = i := by omega
      clear hK hIi hno hBv hLn
      go_wp2_with fail
      go_loopw [5] (fun jv wz => ∃ (j : Nat) (J : Int), jv = .int .i64 J ∧ I < J ∧ J ≤ N ∧ Hid ((J = (j : Int)) ∧ NoPair ovS L i j ∧ Below w.heap.size w wz)) (fun jv _ => (N - intOf jv).toNat)
      case atStart => exact ⟨i + 1, I + 1, rfl, by omega, by omega, ⟨by have := HIi.out; omega, HNo.out, HBv.out⟩⟩
      case round =>
        obtain ⟨j, J, rfl, hJ0, hJ1, hK⟩ := hrel
        obtain ⟨hJj, hno, hBz⟩ := hK.out
        have hLn := HL.out
        have hIi := HIi.out
        by_cases hJ : J < N
        · obtain ⟨a, ha⟩ : ∃ a, el L i = a := ⟨_, rfl⟩
          obtain ⟨b, hb⟩ : ∃ b, el L j = b := ⟨_, rfl⟩
          have h1 := St.later hBz (HR.out i (by omega))
          have h2 := St.later hBz (HR.out j (by omega))
          rw [← el_get (by omega), ha] at h1
          rw [← el_get (by omega), hb] at h2
          obtain ⟨-, a2, a3⟩ := h1
          obtain ⟨-, b2, b3⟩ := h2
          have k2 := cell_regrown a2
          have k3 := cell_regrown a3
          have l2 := cell_regrown b2
          have l3 := cell_regrown b3
          have hJn : J.toNat = j := by omega
          have hJ00 : 0 ≤ J := by omega
          have HJ := Lib.hid hJj
          have HNz := Lib.hid hno
          have HBz := Lib.hid hBz
          have HAB : Hid ((el L i = a ∧ el L j = b) ∧ (i < j ∧ j < L.length)) := ⟨⟨ha, hb⟩, by omega, by omega⟩
          have c1 : ∀ d os, Calls Tryz.prog 46 #[.agg #[.int .i64 a.x, .int .i64 a.y]] (grow (redrawn wr d) os) fun e w'' => e = .returned (.bool (decide (Plc a.x a.y))) ∧ ∃ p : Regrown, w'' = grow (redrawn wr p.d) p.os := fun d os => Calls.regrown_of (refCheckSpot_any _ _ _)
          have c2 : ∀ d os, Calls Tryz.prog 46 #[.agg #[.int .i64 b.x, .int .i64 b.y]] (grow (redrawn wr d) os) fun e w'' => e = .returned (.bool (decide (Plc b.x b.y))) ∧ ∃ p : Regrown, w'' = grow (redrawn wr p.d) p.os := fun d os => Calls.regrown_of (refCheckSpot_any _ _ _)
          clear hK hJj hno hBz hLn hIi ha hb a2 a3 b2 b3
          by_cases pa : Plc a.x a.y
          · by_cases pb : Plc b.x b.y
            · have c3 : ∀ d os, Calls Tryz.prog 63 #[.agg #[.int .i64 a.x, .int .i64 a.y], .agg #[.int .i64 b.x, .int .i64 b.y]] (grow (redrawn wr d) os) fun e w'' => e = .returned (.int .i64 (conS (a.x - b.x) (a.y - b.y))) ∧ ∃ p : Regrown, w'' = grow (redrawn wr p.d) p.os := fun d os => Calls.regrown_of (refContact_one _ _ _ _ _ pa pb)
              have HOv : Hid (ovS a b = decide (conS (a.x - b.x) (a.y - b.y) = -1)) := by show _ = _; unfold ovS; rw [decide_eq_true pa, decide_eq_true pb]; simp
              have h3 := con_three (a.x - b.x) (a.y - b.y)
              simp only [decide_eq_true pa] at c1
              simp only [decide_eq_true pb] at c2
              obtain ⟨R, hR⟩ : ∃ R, conS (a.x - b.x) (a.y - b.y) = R := ⟨_, rfl⟩
              rw [hR] at HOv h3
              simp only [hR] at c3
              clear hR pa pb
              by_cases hr : R < 0
              · have HF : Hid (ovS a b = true) := by show _ = _; rw [HOv.out]; simp; omega
                clear h3 HOv
                go_wp2_with fail
                refine wp_region_quiet_below (by kernel_rfl) (by kernel_rfl) ?_
                repeat (first | go_big_quiet_step (first | (with_reducible exact c1 _ _) | (with_reducible exact c2 _ _) | (with_reducible exact c3 _ _)) | quiet_step (first | (with_reducible exact c1 _ _) | (with_reducible exact c2 _ _) | (with_reducible exact c3 _ _)))
                refine wpQuiet_nil ?_
                intro _ hw'
                obtain ⟨⟨dq, osq⟩, hw''⟩ := hw'
                subst hw''
                have HQ := Lib.hid (kc HBz.out (below_regrown wr dq osq))
                clear k2 k3 l2 l3 c1 c2
                go_wp2_with fail
                go_ret2
                exact ⟨(I, J), rfl, .inl ⟨i, j, HAB.out.2, by rw [HAB.out.1.1, HAB.out.1.2]; exact HF.out, HNz.out, by have := HIi.out; have := HJ.out; rw [Prod.mk.injEq]; omega⟩, HQ.out⟩
              · have HF : Hid (ovS a b = false) := by show _ = _; rw [HOv.out]; simp; omega
                clear h3 HOv
                go_wp2_with fail
                refine wp_region_quiet_below (by kernel_rfl) (by kernel_rfl) ?_
                repeat (first | go_big_quiet_step (first | (with_reducible exact c1 _ _) | (with_reducible exact c2 _ _) | (with_reducible exact c3 _ _)) | quiet_step (first | (with_reducible exact c1 _ _) | (with_reducible exact c2 _ _) | (with_reducible exact c3 _ _)))
                refine wpQuiet_nil ?_
                intro _ hw'
                obtain ⟨⟨dq, osq⟩, hw''⟩ := hw'
                subst hw''
                have HQ := Lib.hid (kc HBz.out (below_regrown wr dq osq))
                clear k2 k3 l2 l3 c1 c2
                go_wp2_with fail
                go_roundw
                case rel => exact ⟨j + 1, J + 1, by go_num, by omega, by omega, ⟨by have := HJ.out; omega, noPair_more HNz.out (by rw [HAB.out.1.1, HAB.out.1.2]; exact HF.out), HQ.out⟩⟩
                case measure => simp [intOf]; omega
            · have HF : Hid (ovS a b = false) := by show _ = _; unfold ovS; rw [decide_eq_false pb]; simp
              simp only [decide_eq_true pa] at c1
              simp only [decide_eq_false pb] at c2
              clear pa pb
              go_wp2_with fail
              refine wp_region_quiet_below (by kernel_rfl) (by kernel_rfl) ?_
              repeat (first | go_big_quiet_step (first | (with_reducible exact c1 _ _) | (with_reducible exact c2 _ _)) | quiet_step (first | (with_reducible exact c1 _ _) | (with_reducible exact c2 _ _)))
              refine wpQuiet_nil ?_
              intro _ hw'
              obtain ⟨⟨dq, osq⟩, hw''⟩ := hw'
              subst hw''
              have HQ := Lib.hid (kc HBz.out (below_regrown wr dq osq))
              clear k2 k3 l2 l3 c1 c2
              go_wp2_with fail
              go_roundw
              case rel => exact ⟨j + 1, J + 1, by go_num, by omega, by omega, ⟨by have := HJ.out; omega, noPair_more HNz.out (by rw [HAB.out.1.1, HAB.out.1.2]; exact HF.out), HQ.out⟩⟩
              case measure => simp [intOf]; omega
          · have HF : Hid (ovS a b = false) := by show _ = _; unfold ovS; rw [decide_eq_false pa]; simp
            simp only [decide_eq_false pa] at c1
            clear pa
            go_wp2_with fail
            refine wp_region_quiet_below (by kernel_rfl) (by kernel_rfl) ?_
            repeat (first | go_big_quiet_step (first | (with_reducible exact c1 _ _) | (with_reducible exact c2 _ _)) | quiet_step (first | (with_reducible exact c1 _ _) | (with_reducible exact c2 _ _)))
            refine wpQuiet_nil ?_
            intro _ hw'
            obtain ⟨⟨dq, osq⟩, hw''⟩ := hw'
            subst hw''
            have HQ := Lib.hid (kc HBz.out (below_regrown wr dq osq))
            clear k2 k3 l2 l3 c1 c2
            go_wp2_with fail
            go_roundw
            case rel => exact ⟨j + 1, J + 1, by go_num, by omega, by omega, ⟨by have := HJ.out; omega, noPair_more HNz.out (by rw [HAB.out.1.1, HAB.out.1.2]; exact HF.out), HQ.out⟩⟩
            case measure => simp [intOf]; omega
        · have HE : Hid (NoPair ovS L (i + 1) 0) := noPair_row hno (by omega)
          have HBz := Lib.hid hBz
          clear hK hJj hno hBz hLn hIi
          go_wp2_with fail
          go_roundw
          case rel =>
            have HX : ∃ (i' : Nat) (I' : Int), Value.int .i64 (I + 1) = .int .i64 I' ∧ 0 ≤ I' ∧ I' ≤ N ∧ Hid ((I' = (i' : Int)) ∧ NoPair ovS L i' 0 ∧ Below w.heap.size w wr) := ⟨i + 1, I + 1, rfl, by omega, by omega, ⟨by have := HIi.out; omega, HE.out, HBz.out⟩⟩
            first
            | exact HX
            | exact ⟨_, _, _, _, _, _, _, HX, rfl, rfl, rfl, rfl, rfl, rfl, rfl⟩
          case measure => simp [intOf]; omega
    · have hil : i = n := by omega
      have HE : Hid (NoPair ovS L L.length 0) := by rw [hLn, ← hil]; exact hno
      have HBv := Lib.hid hBv
      clear hK hIi hno hBv hil hLn
      go_wp2_with fail
      go_ret2
      exact ⟨-1, -1, rfl, .inr ⟨HE.out, rfl⟩, HBv.out⟩

end Go.Proofs.YtfdhgimpdmhdeaaGreatDoor
