/- The mirrored position: package sheet's Mirror. -/
import Derived.Test.YtfdhgimpdmhdeaaGreatDoorMirror
import Derived.Lib.SliceRun
namespace Go.Proofs.YtfdhgimpdmhdeaaGreatDoor
open Go Go.RowKit Go.Sort

theorem row_flat {w : World} {g o : Nat} {L : List St} (h : ∀ j (h : j < L.length), StAt w g (o + j * 4) L[j]) : ∀ j u, (flatS L)[j]? = some u → w.cell? ((⟨g, o, none⟩ : Addr).add j) = some u := by
  intro j u hj
  have hlt := (List.getElem?_eq_some_iff.1 hj).1
  rw [flatS_len] at hlt
  have h1 : j / 4 < L.length := by omega
  have h2 : j % 4 < 4 := Nat.mod_lt _ (by decide)
  have e : j = j / 4 * 4 + j % 4 := by omega
  have h3 := flatS_at L (j / 4) h1 (j % 4) h2
  rw [← e, hj] at h3
  obtain ⟨⟨a0, a1⟩, a2, a3⟩ := h (j / 4) h1
  have h4 : ∀ k, k = j % 4 → w.cell? ⟨g, o + j / 4 * 4 + k, none⟩ = some u → w.cell? ((⟨g, o, none⟩ : Addr).add j) = some u := fun k hk hc => by
    rw [hk, show o + j / 4 * 4 + j % 4 = o + j by omega] at hc
    rw [Addr.add_lit]
    exact hc
  obtain ⟨k, hk⟩ : ∃ k, j % 4 = k := ⟨_, rfl⟩
  rw [hk] at h3 h2
  match k, h2, h3 with
  | 0, _, h3 => refine h4 0 hk.symm ?_; rw [Nat.add_zero, a0]; simpa [cellS] using h3.symm
  | 1, _, h3 => refine h4 1 hk.symm ?_; rw [a1]; simpa [cellS] using h3.symm
  | 2, _, h3 => refine h4 2 hk.symm ?_; rw [a2]; simpa [cellS] using h3.symm
  | 3, _, h3 => refine h4 3 hk.symm ?_; rw [a3]; simpa [cellS] using h3.symm

theorem flatS_set : ∀ (Y : List St) (j : Nat) (h : j < Y.length) (x : Int), (flatS Y).set (j * 4 + 2) (.int .i64 x) = flatS (Y.set j ⟨Y[j].t, Y[j].n, x, Y[j].y⟩)
  | s :: Y, 0, _, x => rfl
  | s :: Y, j + 1, h, x => by
    show (cellS s ++ flatS Y).set ((j + 1) * 4 + 2) _ = cellS s ++ flatS (Y.set j _)
    rw [List.set_append_right _ _ (by simp [cellS]; omega), show (j + 1) * 4 + 2 - (cellS s).length = j * 4 + 2 by simp [cellS]; omega, flatS_set Y j (by simpa using h) x]
    rfl
/-- The position, its first stones mirrored. -/
def mirT (L : List St) (i : Nat) : List St := mirL L i ++ L.drop i
theorem mirT_zero (L : List St) : mirT L 0 = L := by unfold mirT; rw [mirL_zero]; rfl
theorem mirT_end {L : List St} {n : Nat} (h : L.length = n) : mirT L n = mirL L n := by unfold mirT; rw [List.drop_of_length_le (by omega), List.append_nil]
theorem mirT_len {L : List St} {i : Nat} (h : i ≤ L.length) : (mirT L i).length = L.length := by unfold mirT; rw [List.length_append, mirL_len h, List.length_drop]; omega
theorem mirT_at {L : List St} {i : Nat} (h : i < L.length) : (mirT L i)[i]'(by rw [mirT_len (by omega)]; exact h) = L[i] := by
  unfold mirT
  rw [List.getElem_append_right (by rw [mirL_len (by omega)]; exact Nat.le_refl _)]
  simp [mirL_len (Nat.le_of_lt h)]
theorem mirT_more {L : List St} {i : Nat} {s : St} (h : i < L.length) (hs : el L i = s) : (mirT L i).set i (mirS s) = mirT L (i + 1) := by
  have hL : L[i] = s := by rw [← el_get h, hs]
  unfold mirT
  rw [List.set_append_right _ _ (by rw [mirL_len (by omega)]; exact Nat.le_refl _), mirL_len (by omega), Nat.sub_self, List.drop_eq_getElem_cons h, mirL_more h hs, List.append_assoc]
  rfl

set_option maxRecDepth 100000 in
set_option maxHeartbeats 2000000 in
theorem clone_in (L : List St) (n c g o : Nat) (w : World) (hn : n ≤ 1000000) (HL : Hid (L.length = n)) (HR : Hid (∀ j (h : j < L.length), StAt w g (o + j * 4) L[j])) :
    Calls Tryz.prog 32 #[.slice (some ⟨g, o, none⟩) n c] w fun e w' => ∃ v, e = .returned v ∧ OwnS w' w.heap.size v L ∧ v ≠ .slice none 0 0 ∧ Below w.heap.size w w' := by
  obtain ⟨i0, hi, hz0, hz1, hz2⟩ := info_parts stone_info
  have HF : Hid (∀ j u, (flatS L)[j]? = some u → (w.alloc (.cells #[] 39)).cell? ((⟨g, o, none⟩ : Addr).add j) = some u) := fun j u h => Lib.cell?_alloc_some _ (row_flat HR.out j u h)
  have H1 : Hid (∀ u ∈ flatS L, u.oneCell' = true) := by
    show ∀ u ∈ flatS L, _
    clear HF HR HL
    induction L with
    | nil => intro u hu; cases hu
    | cons s Y ih =>
      intro u hu
      rcases List.mem_append.1 hu with h | h
      · simp only [cellS, List.mem_cons, List.mem_nil_iff, or_false] at h
        rcases h with rfl | rfl | rfl | rfl <;> rfl
      · exact ih u h
  have q22 : ∀ (w : World) (a : Option Addr) (n c n' c' : Nat), (binOp .eql 22 (.slice a n c) (.slice none n' c')).run Tryz.prog w = .ok (.bool a.isNone) w := fun w a n c n' c' => Lib.run_eql_slice_nil w _ _ a n c n' c' stones_under
  have HLn : Hid ((flatS L).length = n * 4) := by show _ = _; rw [flatS_len, HL.out]
  go_enter Tryz.func32, Tryz.ntmps32
  go_wp2_with (at_builtin; refine wpList_append_own _ rfl _ _ 22 rfl w.heap.size 39 i0 (.agg #[.int .i64 0, .int .i64 0, .int .i64 0, .int .i64 0]) 4 32 stones_under hi hz0 hz1 hz2 rfl (by decide) _ _ _ rfl (World.ownsRow_made w #[] 0 (Nat.le_refl _) (Nat.zero_le _) rfl) ⟨g, o, none⟩ n c (flatS L) rfl HLn.out HF.out H1.out (by unfold maxLen; omega) (by omega) (by simp) ?_; intro v' w1 hown hgrow hnil; have HO := Lib.hid hown; have HG := Lib.hid hgrow; have HN := Lib.hid hnil; clear hown hgrow hnil)
  all_goals go_wp2
  all_goals go_ret
  refine ⟨v', rfl, ?_, fun h => ?_, ?_⟩
  · show World.ownsRow _ _ _ 4 _ L.length _
    rw [HL.out]
    simpa using HO.out
  · have := (HN.out.1 h).1
    cases this
  · exact ((Below.refl _ w).alloc (Nat.le_refl _) _).grown HG.out (by simp) (by intro k hk; have h0 : (some w.heap.size : Option Nat) = some k := hk; have h1 := Option.some.inj h0; omega)

set_option maxRecDepth 100000 in
set_option maxHeartbeats 4000000 in
theorem mirror_in (L : List St) (n c g o : Nat) (w : World) (hn : n ≤ 1000000) (hc : n ≤ c) (HL : Hid (L.length = n)) (HR : Hid (∀ j (h : j < L.length), StAt w g (o + j * 4) L[j])) (HV : Hid (Valid L)) :
    Calls Tryz.prog 10 #[.slice (some ⟨g, o, none⟩) n c] w fun e w' => ∃ v, e = .returned (.tuple #[v, .int .i64 0]) ∧ OwnS w' w.heap.size v (mirL L n) ∧ Below w.heap.size w w' := by
  have CK := Lib.hid (check_in L n c g o w hn hc HL HR)
  have CC := Lib.hid (fun w1 (hb : Below w.heap.size w w1) => clone_in L n c g o w1 hn HL (fun j h => St.later hb (HR.out j h)))
  obtain ⟨N, hN⟩ : ∃ N : Int, (n : Int) = N := ⟨_, rfl⟩
  have hN0 : 0 ≤ N := by omega
  go_enter Tryz.func10, Tryz.ntmps10
  go_wp2_with (first | (go_at_call 19; refine CK.out.mono ?_; rintro e w1 ⟨r, rfl, hr, hb1⟩; have hrf : r = true := hr.2 HV.out; subst hrf; have HB1 := Lib.hid hb1; clear hr hb1) | (go_at_call 32; refine (CC.out _ HB1.out).mono ?_; rintro e w2 ⟨v, rfl, ho, hne, hb2⟩; obtain ⟨G, cap, rfl, hcap, hGl, hG2, -⟩ := (own_stones ho).resolve_left (fun h => hne h.2); have HO := Lib.hid ho; have HB2 := Lib.hid hb2; have HG := Lib.hid hGl; have hLn := HL.out; rw [hLn] at hcap; rw [hLn]; clear ho hne hb2 hGl hG2 hLn))
  go_loopw [13] (fun iv wr => ∃ (i : Nat) (I : Int), iv = .int .i64 I ∧ 0 ≤ I ∧ I ≤ N ∧ Hid ((I = (i : Int)) ∧ OwnS wr w1.heap.size (.slice (some ⟨G, 0, none⟩) n cap) (mirT L i) ∧ Below w1.heap.size w1 wr)) (fun iv _ => (N - intOf iv).toNat)
  case atStart => exact ⟨0, 0, rfl, by omega, by omega, ⟨rfl, by rw [mirT_zero]; have := HO.out; rw [HL.out] at this; exact this, HB2.out⟩⟩
  case round =>
    obtain ⟨i, I, rfl, hI0, hI1, hK⟩ := hrel
    obtain ⟨hIi, hown, hBv⟩ := hK.out
    have hLn := HL.out
    by_cases hI : I < N
    · have hil : i < L.length := by omega
      have hTl := mirT_len (Nat.le_of_lt hil)
      obtain ⟨s, hs⟩ : ∃ s, L[i] = s := ⟨_, rfl⟩
      have hel : el L i = s := by rw [el_get hil, hs]
      have hown' : World.ownsRow wr w1.heap.size 39 4 (.slice (some ⟨G, 0, none⟩) n cap) n (flatS (mirT L i)) := by have := hown; unfold OwnS at this; rw [hTl, hLn] at this; exact this
      have hce := World.ownsRow.cellAt hown' (i * 4 + 2) (by omega)
      rw [flatS_at _ i (by omega) 2 (by decide), mirT_at hil, hs] at hce
      obtain ⟨st, sn, sx, sy⟩ := s
      have t2 : wr.cell? ⟨G, i * 4 + 2, none⟩ = some (.int .i64 sx) := hce
      have tf := World.ownsRow.frozenAt hown' (i * 4 + 2)
      have hout : ¬ OutP sx sy := by have := (HV.out.2.1 i hil).2.2.2; rwa [hel] at this
      obtain ⟨nx, hnx⟩ : ∃ nx, -sx = nx := ⟨_, rfl⟩
      have hw1 : IntKind.i64.wrap (-sx) = nx := by rw [← hnx]; have := out_small hout; unfold IntKind.wrap; simp [IntKind.bits, IntKind.signed]; omega
      have hIn : I.toNat = i := by omega
      have hst := World.ownsRow.stored hown' (i * 4 + 2) (.int .i64 nx)
      rw [flatS_set _ i (by omega), mirT_at hil, hs] at hst
      have hmm := mirT_more hil hel
      rw [show mirS ⟨st, sn, sx, sy⟩ = ⟨st, sn, nx, sy⟩ by rw [← hnx]; rfl] at hmm
      dsimp only at hst
      rw [hmm] at hst
      have HO2 : Hid (OwnS (wr.setCell ⟨G, i * 4 + 2, none⟩ (.int .i64 nx)) w1.heap.size (.slice (some ⟨G, 0, none⟩) n cap) (mirT L (i + 1))) := by show World.ownsRow _ _ _ 4 _ (mirT L (i + 1)).length _; rw [mirT_len (by omega), hLn]; exact hst.1
      have HB3 : Hid (Below w1.heap.size w1 (wr.setCell ⟨G, i * 4 + 2, none⟩ (.int .i64 nx))) := ks hBv _ HG.out
      have HIi := Lib.hid hIi
      have Hnx := Lib.hid hnx
      clear hK hIi hown hown' hBv hs hil hLn hout hel hnx hce hst hmm hTl
      go_wp2_with fail
      go_roundw
      case rel => exact ⟨i + 1, I + 1, by go_num, by omega, by omega, ⟨by have := HIi.out; omega, HO2.out, HB3.out⟩⟩
      case measure => simp [intOf]; omega
    · have hin : i = n := by omega
      have HOw : Hid (OwnS wr w.heap.size (.slice (some ⟨G, 0, none⟩) n cap) (mirL L n)) := by rw [← (show mirT L i = mirL L n by rw [hin]; exact mirT_end hLn)]; exact OwnS.base HB1.out.size hown
      have HBv := Lib.hid (kc HB1.out hBv)
      clear hK hIi hown hBv hLn hin
      go_wp2_with fail
      go_ret2
      exact ⟨_, rfl, HOw.out, HBv.out⟩

set_option maxRecDepth 100000 in
set_option maxHeartbeats 1000000 in
theorem mirror_bad (L : List St) (n c g o : Nat) (w : World) (hn : n ≤ 1000000) (hc : n ≤ c) (HL : Hid (L.length = n)) (HR : Hid (∀ j (h : j < L.length), StAt w g (o + j * 4) L[j])) (HV : Hid (¬ Valid L)) :
    Calls Tryz.prog 10 #[.slice (some ⟨g, o, none⟩) n c] w fun e w' => e = .returned (.tuple #[.slice none 0 0, .int .i64 2]) ∧ Below w.heap.size w w' := by
  have CK := Lib.hid (check_in L n c g o w hn hc HL HR)
  go_enter Tryz.func10, Tryz.ntmps10
  go_wp2_with (first | (go_at_call 19; refine CK.out.mono ?_; rintro e w1 ⟨r, rfl, hr, hb1⟩; have hrf : r = false := (by cases r; rfl; exact absurd (hr.1 rfl) HV.out); subst hrf; have HB1 := Lib.hid hb1; clear hr hb1))
  go_ret2
  exact ⟨rfl, HB1.out⟩

end Go.Proofs.YtfdhgimpdmhdeaaGreatDoor
