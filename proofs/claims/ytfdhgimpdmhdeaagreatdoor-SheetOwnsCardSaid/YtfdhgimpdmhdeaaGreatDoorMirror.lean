/- The mirrored position: package sheet's Mirror, and the document's. -/
import Derived.Test.YtfdhgimpdmhdeaaGreatDoorNearest
import Derived.Test.YtfdhgimpdmhdeaaGreatDoorRefCheck
namespace Go.Proofs.YtfdhgimpdmhdeaaGreatDoor
open Go Go.RowKit Go.Sort

/-- A stone mirrored. -/
def mirS (s : St) : St := ⟨s.t, s.n, -s.x, s.y⟩
/-- A stone's cells. -/
def cellS (s : St) : List Value := [.int .i64 s.t, .int .i64 s.n, .int .i64 s.x, .int .i64 s.y]
def flatS : List St → List Value
  | [] => []
  | s :: Y => cellS s ++ flatS Y
theorem flatS_len : ∀ Y : List St, (flatS Y).length = Y.length * 4
  | [] => rfl
  | s :: Y => by unfold flatS cellS; rw [List.length_append, flatS_len Y]; simp; omega
theorem flatS_app : ∀ Y Z : List St, flatS (Y ++ Z) = flatS Y ++ flatS Z
  | [], Z => rfl
  | s :: Y, Z => by show cellS s ++ flatS (Y ++ Z) = (cellS s ++ flatS Y) ++ flatS Z; rw [flatS_app Y Z, List.append_assoc]
/-- A row of stones that the call made. -/
def OwnS (W : World) (B : Nat) (v : Value) (Y : List St) : Prop := W.ownsRow B 39 4 v Y.length (flatS Y)
theorem OwnS.later {W W' : World} {B : Nat} {v : Value} {Y : List St} (hb : Below W.heap.size W W') (h : OwnS W B v Y) : OwnS W' B v Y :=
  World.ownsRow.kept (row := none) h ⟨hb.os, hb.tape, hb.output, hb.size, fun k hk _ => hb.block k hk⟩ (by by_cases h : v.ownBlock = none; exact .inl h; exact .inr h)
theorem OwnS.base {W : World} {B B' : Nat} {v : Value} {Y : List St} (hb : B' ≤ B) (h : OwnS W B v Y) : OwnS W B' v Y := by
  obtain ⟨h0, h1 | ⟨g, cap, cur, e, hB, hr⟩⟩ := h
  · exact ⟨h0, .inl h1⟩
  · exact ⟨h0, .inr ⟨g, cap, cur, e, Nat.le_trans hb hB, hr⟩⟩
theorem own_grownS {W1 W2 W3 : World} {B : Nat} {v : Value} {Z : List St} (o : Obj) (hB : W1.heap.size = B) (h : OwnS W2 B v Z) (hb : Below W1.heap.size W1 W2) (hg : (W2.alloc o).grownBy W3 v.ownBlock) : Below W1.heap.size W1 W3 :=
  (ka hb o).grown hg (ka hb o).size (fun k hk => by rw [hB]; exact (World.ownsRow.lt h k hk).1)
theorem OwnS.snoc {W : World} {B : Nat} {v : Value} {Z Y : List St} {s : St} (hY : Y = Z ++ [s]) (h : W.ownsRow B 39 4 v (Z.length + 1) (flatS Z ++ cellS s)) : OwnS W B v Y := by
  subst hY
  unfold OwnS
  rw [List.length_append, flatS_app]
  simpa [flatS] using h
theorem flatS_at : ∀ (Y : List St) (j : Nat) (h : j < Y.length) (k : Nat), k < 4 → (flatS Y)[j * 4 + k]? = (cellS Y[j])[k]?
  | s :: Y, 0, _, k, hk => by
    show (cellS s ++ flatS Y)[0 * 4 + k]? = _
    rw [Nat.zero_mul, Nat.zero_add, List.getElem?_append_left (by simp [cellS]; omega)]
    rfl
  | s :: Y, j + 1, h, k, hk => by
    show (cellS s ++ flatS Y)[(j + 1) * 4 + k]? = _
    rw [List.getElem?_append_right (by simp [cellS]; omega)]
    have := flatS_at Y j (by simpa using h) k hk
    rw [show (j + 1) * 4 + k - (cellS s).length = j * 4 + k by simp [cellS]; omega]
    simpa using this
theorem stones_under : Tryz.prog.underlying 22 = some (.slice 39) := by kernel_rfl
theorem stone_info : (Tryz.prog.info? 39).map (fun i => (i.zero, i.size, i.bytes)) = some (some (.agg #[.int .i64 0, .int .i64 0, .int .i64 0, .int .i64 0]), 4, 32) := by kernel_rfl
/-- Such a row, read. -/
theorem own_stones {W : World} {B : Nat} {v : Value} {Y : List St} (h : OwnS W B v Y) : (Y = [] ∧ v = .slice none 0 0) ∨ ∃ g cap, v = .slice (some ⟨g, 0, none⟩) Y.length cap ∧ Y.length ≤ cap ∧ B ≤ g ∧ g < W.heap.size ∧ ∀ j (h : j < Y.length), StAt W g (0 + j * 4) Y[j] := by
  have h' := h
  obtain ⟨_, ⟨hv, h0⟩ | ⟨g, cap, cur, rfl, hB, _, hc, _⟩⟩ := h
  · exact .inl ⟨List.length_eq_zero_iff.1 h0, hv⟩
  · refine .inr ⟨g, cap, rfl, hc, hB, (World.ownsRow.lt h' g rfl).2, fun j hj => ?_⟩
    have e : ∀ k, k < 4 → W.cell? ⟨g, 0 + j * 4 + k, none⟩ = (cellS Y[j])[k]? := fun k hk => by
      have := World.ownsRow.cellAt h' (j * 4 + k) (by omega)
      rw [Nat.zero_add, this, flatS_at Y j hj k hk]
    exact ⟨⟨e 0 (by decide), e 1 (by decide)⟩, e 2 (by decide), e 3 (by decide)⟩

/-- The first stones mirrored. -/
def mirL (L : List St) (i : Nat) : List St := (L.take i).map mirS
theorem mirL_zero (L : List St) : mirL L 0 = [] := rfl
theorem mirL_more {L : List St} {i : Nat} {s : St} (h : i < L.length) (hs : el L i = s) : mirL L (i + 1) = mirL L i ++ [mirS s] := by
  unfold mirL
  rw [List.take_add_one, List.getElem?_eq_getElem h, ← hs, el_get h, List.map_append]
  rfl
theorem mirL_len {L : List St} {i : Nat} (h : i ≤ L.length) : (mirL L i).length = i := by unfold mirL; rw [List.length_map, List.length_take]; omega

theorem out_small {x y : Int} (h : ¬ OutP x y) : -1000000000 ≤ x ∧ x ≤ 1000000000 := (play_small h).1
theorem stone4_new (W : World) (st sn nx sy : Int) (X : Nat) (hX : W.heap.size = X) : ∀ j u, (cellS ⟨st, sn, nx, sy⟩)[j]? = some u → (W.alloc (.cells #[.int .i64 st, .int .i64 sn, .int .i64 nx, .int .i64 sy] 39)).cell? ((⟨X, 0, none⟩ : Addr).add j) = some u := by
  subst hX
  have h := stAt_new W ⟨st, sn, nx, sy⟩
  intro j u hj
  match j, hj with
  | 0, hj => cases hj; exact h.1.1
  | 1, hj => cases hj; exact h.1.2
  | 2, hj => cases hj; exact h.2.1
  | 3, hj => cases hj; exact h.2.2
  | j + 4, hj => simp [cellS] at hj

set_option maxRecDepth 100000 in
set_option maxHeartbeats 4000000 in
theorem refMirror_in (L : List St) (n c g o : Nat) (w : World) (hn : n ≤ 1000000) (hc : n ≤ c) (HL : Hid (L.length = n)) (HR : Hid (∀ j (h : j < L.length), StAt w g (o + j * 4) L[j])) (HV : Hid (Valid L)) :
    Calls Tryz.prog 11 #[.slice (some ⟨g, o, none⟩) n c] w fun e w' => ∃ v, e = .returned (.tuple #[v, .int .i64 0]) ∧ OwnS w' w.heap.size v (mirL L n) ∧ Below w.heap.size w w' := by
  have CK := Lib.hid (refCheck_in L n c g o w hn hc HL HR)
  obtain ⟨N, hN⟩ : ∃ N : Int, (n : Int) = N := ⟨_, rfl⟩
  have hN0 : 0 ≤ N := by omega
  go_enter Tryz.func11, Tryz.ntmps11
  go_wp2_with (first | (go_at_call 25; refine CK.out.mono ?_; rintro e w1 ⟨r, rfl, hr, hb1⟩; have hrf : r = true := hr.2 HV.out; subst hrf; have HB1 := Lib.hid hb1; clear hr hb1))
  obtain ⟨B, hB⟩ : ∃ B, w1.heap.size = B := ⟨_, rfl⟩
  have HBB := Lib.hid hB
  clear hB
  obtain ⟨i0, hi, hz0, hz1, hz2⟩ := info_parts stone_info
  go_loopw [4, 5] (fun v iv wr => ∃ (i : Nat) (I : Int), iv = .int .i64 I ∧ 0 ≤ I ∧ I ≤ N ∧ Hid ((I = (i : Int)) ∧ OwnS wr B v (mirL L i) ∧ Below w1.heap.size w1 wr)) (fun _ iv _ => (N - intOf iv).toNat)
  case atStart => exact ⟨0, 0, rfl, by omega, by omega, ⟨rfl, World.ownsRow_nil _ _ _ _, Below.refl _ _⟩⟩
  case round =>
    obtain ⟨i, I, rfl, hI0, hI1, hK⟩ := hrel
    obtain ⟨hIi, hown, hBv⟩ := hK.out
    have hLn := HL.out
    by_cases hI : I < N
    · have hil : i < L.length := by omega
      obtain ⟨s, hs⟩ : ∃ s, L[i] = s := ⟨_, rfl⟩
      have hst := St.later (kc HB1.out hBv) (HR.out i hil)
      rw [hs] at hst
      have hel : el L i = s := by rw [el_get hil, hs]
      obtain ⟨st, sn, sx, sy⟩ := s
      obtain ⟨⟨t0, t1⟩, t2, t3⟩ := hst
      dsimp only at t0 t1 t2 t3
      have hout : ¬ OutP sx sy := by have := (HV.out.2.1 i hil).2.2.2; rwa [hel] at this
      obtain ⟨nx, hnx⟩ : ∃ nx, -sx = nx := ⟨_, rfl⟩
      have hw1 : IntKind.i64.wrap (-sx) = nx := by rw [← hnx]; have := out_small hout; unfold IntKind.wrap; simp [IntKind.bits, IntKind.signed]; omega
      have hIn : I.toNat = i := by omega
      obtain ⟨X, hX⟩ : ∃ X, wr.heap.size = X := ⟨_, rfl⟩
      have HIi := Lib.hid hIi
      have hln := mirL_len (L := L) (i := i) (by omega)
      have HD : Hid (mirL L (i + 1) = mirL L i ++ [⟨st, sn, nx, sy⟩]) := by show _ = _; rw [mirL_more hil hel, ← hnx]; rfl
      have HO2 : Hid (OwnS (wr.alloc (.cells #[.int .i64 st, .int .i64 sn, .int .i64 nx, .int .i64 sy] 39)) B u4 (mirL L i)) := World.ownsRow.alloc hown _
      have HB2 : Hid (Below w1.heap.size w1 (wr.alloc (.cells #[.int .i64 st, .int .i64 sn, .int .i64 nx, .int .i64 sy] 39))) := ka hBv _
      have HBX : Hid (B ≤ X) := by have h1 := HBB.out; have h2 := hBv.size; show B ≤ X; omega
      have HF : Hid (∀ j u, (cellS ⟨st, sn, nx, sy⟩)[j]? = some u → ((wr.alloc (.cells #[.int .i64 st, .int .i64 sn, .int .i64 nx, .int .i64 sy] 39)).alloc (.cells #[.int .i64 st, .int .i64 sn, .int .i64 nx, .int .i64 sy] 39)).cell? ((⟨X + 1, 0, none⟩ : Addr).add j) = some u) := stone4_new _ st sn nx sy (X + 1) (by simp; omega)
      have Hnx := Lib.hid hnx
      clear hK hIi hown hBv hs hil hLn hout hel hnx
      go_wp2_with (first | (at_builtin; refine wpList_append_own _ rfl _ _ 22 rfl B 39 i0 (.agg #[.int .i64 0, .int .i64 0, .int .i64 0, .int .i64 0]) 4 32 stones_under hi hz0 hz1 hz2 rfl (by decide) _ _ _ rfl (World.ownsRow.alloc HO2.out _) ⟨X + 1, 0, none⟩ 1 1 (cellS ⟨st, sn, nx, sy⟩) rfl rfl HF.out (by simp [cellS, Value.oneCell']) (by unfold maxLen; omega) (by omega) (by have := HBX.out; simp; omega) ?_; intro v' w3 hown3 hgrow3 hnil3; have HO3 := Lib.hid hown3; have HG3 := Lib.hid hgrow3; clear hown3 hgrow3 hnil3))
      go_roundw
      case rel => exact ⟨i + 1, I + 1, by go_num, by omega, by omega, ⟨by have := HIi.out; omega, OwnS.snoc HD.out HO3.out, own_grownS _ HBB.out HO2.out HB2.out HG3.out⟩⟩
      case measure => simp [intOf]; omega
    · have hin : i = n := by omega
      have HOw : Hid (OwnS wr w.heap.size u4 (mirL L n)) := by rw [← hin]; exact OwnS.base (by have h1 := HBB.out; have h2 := HB1.out.size; omega) hown
      have HBv := Lib.hid (kc HB1.out hBv)
      clear hK hIi hown hBv hLn hin
      go_wp2_with fail
      go_ret2
      exact ⟨_, rfl, HOw.out, HBv.out⟩

set_option maxRecDepth 100000 in
set_option maxHeartbeats 1000000 in
theorem refMirror_bad (L : List St) (n c g o : Nat) (w : World) (hn : n ≤ 1000000) (hc : n ≤ c) (HL : Hid (L.length = n)) (HR : Hid (∀ j (h : j < L.length), StAt w g (o + j * 4) L[j])) (HV : Hid (¬ Valid L)) :
    Calls Tryz.prog 11 #[.slice (some ⟨g, o, none⟩) n c] w fun e w' => e = .returned (.tuple #[.slice none 0 0, .int .i64 2]) ∧ Below w.heap.size w w' := by
  have CK := Lib.hid (refCheck_in L n c g o w hn hc HL HR)
  go_enter Tryz.func11, Tryz.ntmps11
  go_wp2_with (first | (go_at_call 25; refine CK.out.mono ?_; rintro e w1 ⟨r, rfl, hr, hb1⟩; have hrf : r = false := (by cases r; rfl; exact absurd (hr.1 rfl) HV.out); subst hrf; have HB1 := Lib.hid hb1; clear hr hb1))
  go_ret2
  exact ⟨rfl, HB1.out⟩

end Go.Proofs.YtfdhgimpdmhdeaaGreatDoor
