/- Package sheet's Nearest, and that the row that it returns may be written. -/
import Derived.Test.YtfdhgimpdmhdeaaGreatDoorNearest
namespace Go.Proofs.YtfdhgimpdmhdeaaGreatDoor
open Go Go.RowKit

/-- A row of integers that may be written, or nil. -/
def FreeV (W : World) (v : Value) : Prop := v = .slice none 0 0 ∨ ∃ g m cap, v = .slice (some ⟨g, 0, none⟩) m cap ∧ FreeI W g
theorem nearF_stays (L : List St) (g o bl n c h : Nat) (h1 : g ≠ h) (h2 : bl ≠ h) : Stays (fun W => NearK L g o bl n c W ∧ FreeI W h) h :=
  ⟨fun W W' hb hk => ⟨(nearK_stays L g o bl n c h h1 h2).1 W W' hb hk.1, hk.2.later hb⟩, fun W j u hk => ⟨(nearK_stays L g o bl n c h h1 h2).2 W j u hk.1, hk.2.set _ u⟩⟩

set_option maxRecDepth 100000 in
set_option maxHeartbeats 4000000 in
theorem nearest_full (L : List St) (n c g o : Nat) (w : World) (hn : n ≤ 1000000) (hc : n ≤ c) (HL : Hid (L.length = n)) (HR : Hid (∀ j (h : j < L.length), StAt w g (o + j * 4) L[j])) (HV : Hid (Valid L)) :
    Calls Tryz.prog 6 #[.slice (some ⟨g, o, none⟩) n c] w fun e w' => ∃ (Y : List Int) (v : Value), e = .returned (.tuple #[v, .int .i64 0]) ∧ (Y.Perm (houseI L n) ∧ Y.Pairwise (lexB (farK L))) ∧ OrdR w' w.heap.size v Y ∧ FreeV w' v ∧ Below w.heap.size w w' := by
  have CK := Lib.hid (fun wz (hz : Below w.heap.size w wz) => check_in L n c g o wz hn hc HL (fun j h => St.later hz (HR.out j h)))
  obtain ⟨N, hN⟩ : ∃ N : Int, (n : Int) = N := ⟨_, rfl⟩
  have hN0 : 0 ≤ N := by omega
  go_enter Tryz.func6, Tryz.ntmps6
  go_wp2_with (first | (go_at_call 19; refine (CK.out _ (ka (Below.refl _ _) _)).mono ?_; rintro e w1 ⟨r, rfl, hr, hb1⟩; have hrf : r = true := hr.2 HV.out; subst hrf; have vc : w1.cell? ⟨w.heap.size, 0, none⟩ = some (.slice (some ⟨g, o, none⟩) n c) := cell_later hb1 (by simp [go_sem]); have HB1 := Lib.hid hb1; clear hb1 hr))
  obtain ⟨B, hB⟩ : ∃ B, w1.heap.size = B := ⟨_, rfl⟩
  have HBB := Lib.hid hB
  clear hB
  obtain ⟨i0, hi, hz0, hz1, hz2⟩ := info_parts int_info
  go_loopw [4, 12] (fun v iv wr => ∃ (i : Nat) (I : Int), iv = .int .i64 I ∧ 0 ≤ I ∧ I ≤ N ∧ Hid ((I = (i : Int)) ∧ OwnI wr B v (houseI L i) ∧ Below w1.heap.size w1 wr ∧ (houseI L i = [] → v = .slice none 0 0))) (fun _ iv _ => (N - intOf iv).toNat)
  case atStart => exact ⟨0, 0, rfl, by omega, by omega, ⟨rfl, World.ownsRow_nil _ _ _ _, Below.refl _ _, fun _ => rfl⟩⟩
  case round =>
    obtain ⟨i, I, rfl, hI0, hI1, hK⟩ := hrel
    obtain ⟨hIi, hown, hBv, hnil⟩ := hK.out
    have HNil := Lib.hid hnil
    have hLn := HL.out
    have hB0 : Below w.heap.size w wr := kc (kc (ka (Below.refl _ _) _) HB1.out) hBv
    by_cases hI : I < N
    · have hil : i < L.length := by omega
      obtain ⟨s, hs⟩ : ∃ s, L[i] = s := ⟨_, rfl⟩
      have hst := St.later hB0 (HR.out i hil)
      rw [hs] at hst
      obtain ⟨⟨t0, t1⟩, t2, t3⟩ := hst
      have hel : el L i = s := by rw [el_get hil, hs]
      have hout : ¬ OutP s.x s.y := by have := (HV.out.2.1 i hil).2.2.2; rwa [hel] at this
      have CI := Lib.hid (fun w => isInHouse_any s.x s.y w hout)
      have HIi := Lib.hid hIi
      have hIn : I.toNat = i := by omega
      have HO : Hid (OwnI (wr.alloc (.cells #[.int .i64 s.t, .int .i64 s.n, .int .i64 s.x, .int .i64 s.y] 39)) B u4 (houseI L i) ∧ Below w1.heap.size w1 (wr.alloc (.cells #[.int .i64 s.t, .int .i64 s.n, .int .i64 s.x, .int .i64 s.y] 39))) := ⟨hown.later (ka (Below.refl _ _) _), ka hBv _⟩
      have hlen := houseI_len L i
      by_cases hh : HouP s.x s.y
      · have HD : Hid (houseI L (i + 1) = houseI L i ++ [I]) := by show houseI L i ++ _ = _; rw [hel, if_pos hh, hIi]
        rw [decide_eq_true hh] at CI
        clear hnil hK hIi hown hBv hs hil hLn hout hh hel hB0
        go_wp2_with (first | (go_at_call 20; refine (CI.out _).mono ?_; rintro e w2 ⟨rfl, hb2⟩; have HO2 := Lib.hid (OwnI.later hb2 HO.out.1); have HB2 := Lib.hid (kc HO.out.2 hb2); have HSz : Hid (B ≤ w2.heap.size) := (by have h1 := HBB.out; have h2 := HB2.out.size; show B ≤ _; omega); clear hb2) | (at_builtin; refine wpList_append_own _ rfl _ _ 24 rfl B 3 i0 (.int .i64 0) 1 8 ints_under hi hz0 hz1 hz2 rfl (by decide) _ _ _ rfl (World.ownsRow.alloc HO2.out _) ⟨w2.heap.size, 0, none⟩ 1 1 [.int .i64 I] rfl rfl (one_new _ _ _) (by simp [Value.oneCell']) (by unfold maxLen; omega) (by omega) (Nat.le_trans HSz.out (by simp)) ?_; intro v' w3 hown3 hgrow3 hnil3; have HO3 := Lib.hid hown3; have HG3 := Lib.hid hgrow3; clear hown3 hgrow3 hnil3))
        go_roundw
        case rel => exact ⟨i + 1, I + 1, by go_num, by omega, by omega, ⟨by have := HIi.out; omega, OwnI.snoc HD.out HO3.out, own_grown _ HBB.out HO2.out HB2.out HG3.out, fun h => (by rw [HD.out] at h; simp at h)⟩⟩
        case measure => simp [intOf]; omega
      · have HD : Hid (houseI L (i + 1) = houseI L i) := by show houseI L i ++ _ = _; rw [hel, if_neg hh]; simp
        rw [decide_eq_false hh] at CI
        clear hnil hK hIi hown hBv hs hil hLn hout hh hel hB0
        go_wp2_with (first | (go_at_call 20; refine (CI.out _).mono ?_; rintro e w2 ⟨rfl, hb2⟩; have HO2 := Lib.hid (OwnI.later hb2 HO.out.1); have HB2 := Lib.hid (kc HO.out.2 hb2); clear hb2))
        go_roundw
        case rel => exact ⟨i + 1, I + 1, by go_num, by omega, by omega, ⟨by have := HIi.out; omega, by rw [HD.out]; exact HO2.out, HB2.out, fun h => HNil.out (by rw [← HD.out]; exact h)⟩⟩
        case measure => simp [intOf]; omega
    · have hin : i = n := by omega
      have hB0' := Lib.hid hB0
      have HBv := Lib.hid hBv
      by_cases hX : houseI L n = []
      · have hv := hnil (by rw [hin]; exact hX)
        subst hv
        have CS := Lib.hid (fun F w => sortStable_nil F w)
        clear hnil hK hIi hown hBv hLn hB0 hin
        go_wp2_with (first | (go_at_call 21; refine (CS.out _ _).mono ?_; rintro e w3 ⟨rfl, rfl⟩))
        go_ret2
        exact ⟨[], _, rfl, ⟨by rw [hX], List.Pairwise.nil⟩, .inl ⟨rfl, rfl⟩, .inl rfl, hB0'.out⟩
      · rw [hin] at hown
        obtain ⟨G, cap, hv, hcap, hG, hrow, hfree⟩ := own_row hown hX
        subst hv
        obtain ⟨m, hm⟩ : ∃ m, (houseI L n).length = m := ⟨_, rfl⟩
        obtain ⟨M, hM⟩ : ∃ M : Int, (m : Int) = M := ⟨_, rfl⟩
        have hm1 : 1 ≤ m := by
          rcases Nat.eq_zero_or_pos m with h | h
          · exact absurd (List.length_eq_zero_iff.1 (hm.trans h)) hX
          · exact h
        have hmn := houseI_len L n
        have h16 := HV.out.1
        have hgw : g < w.heap.size := World.block_lt_of_cell? _ _ (HR.out 0 (by omega)).1.1
        have hw1 : w.heap.size + 1 ≤ w1.heap.size := by have := HB1.out.size; simpa using this
        have hBe := HBB.out
        rw [hm] at hcap
        have CS := Lib.hid (sortStable_in 22 w.heap.size (houseI L n) M m cap G 0 wr (fun p => 0 ≤ p ∧ p < (n : Int)) (farK L) (fun W => NearK L g o w.heap.size n c W ∧ FreeI W G) hM (by omega) (by omega) hcap (fun args w => by simp [go_sem])
          ⟨hm, houseI_rising L n, houseI_lt L n⟩ ⟨hrow, hfree, ⟨fun j h => St.later hB0 (HR.out j h), cell_later hBv vc⟩, hfree⟩ (nearF_stays L g o w.heap.size n c G (by omega) (by omega))
          (fun p q W hp hq hk => nearer_any L n c g o w.heap.size p.toNat q.toNat p q W (by omega) (by omega) (by omega) (by omega) hc HL hk.1.1 hk.1.2 (fun j hj => (HV.out.2.1 j hj).2.2.2)))
        rw [hm]
        have HF : Hid (w.heap.size ≤ G ∧ m ≤ cap ∧ 1 ≤ m ∧ (houseI L n).length = m) := ⟨by omega, hcap, hm1, hm⟩
        clear hnil hK hIi hown hBv hLn hB0 hin hrow hfree hm hm1 hmn h16 hgw hw1 hBe hG hX
        go_wp2_with (first | (go_at_call 21; refine CS.out.mono ?_; rintro e w3 ⟨rfl, hr3⟩; have HR3 := Lib.hid hr3; clear hr3))
        go_ret2
        obtain ⟨⟨T, ⟨k1, k2, k3⟩, k4⟩, k5, k6⟩ := HR3.out
        obtain ⟨f1, f2, f3, f4⟩ := HF.out
        rw [List.take_of_length_le (by omega)] at k3
        rw [List.drop_eq_nil_of_le (by omega), List.append_nil] at k4
        exact ⟨T, _, rfl, ⟨k3, k2⟩, .inr ⟨G, cap, by rw [k1]; rfl, by omega, f1, by omega, k4⟩, .inr ⟨G, _, _, rfl, k5.2⟩, k6 w f1 hB0'.out⟩

end Go.Proofs.YtfdhgimpdmhdeaaGreatDoor
