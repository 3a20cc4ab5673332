/- Who counts: package sheet's Count. -/
import Derived.Test.YtfdhgimpdmhdeaaGreatDoorNearest
namespace Go.Proofs.YtfdhgimpdmhdeaaGreatDoor
open Go Go.RowKit

set_option maxRecDepth 100000 in
set_option maxHeartbeats 2000000 in
/-- The closure that Count looks for the other team with. -/
theorem other_any (L : List St) (n c g o bl tb i : Nat) (I t : Int) (w : World) (hI : (i : Int) = I) (hi : i < n) (hc : n ≤ c) (HL : Hid (L.length = n)) (HR : Hid (∀ j (h : j < L.length), StAt w g (o + j * 4) L[j]))
    (hcell : w.cell? ⟨bl, 0, none⟩ = some (.slice (some ⟨g, o, none⟩) n c)) (ht : w.cell? ⟨tb, 0, none⟩ = some (.int .i64 t)) :
    Calls Tryz.prog 30 #[.int .i64 I, .pointer (some ⟨bl, 0, none⟩), .pointer (some ⟨tb, 0, none⟩)] w fun e w' => e = .returned (.bool (decide ((el L i).t ≠ t))) ∧ Below w.heap.size w w' := by
  have hLn := HL.out
  have hI0 : 0 ≤ I := by omega
  have hIn : I.toNat = i := by omega
  have hi' : i < L.length := by omega
  obtain ⟨a, ha⟩ : ∃ a, el L i = a := ⟨_, rfl⟩
  have h1 := HR.out i hi'
  rw [← el_get hi', ha] at h1
  obtain ⟨⟨u0, u1⟩, u2, u3⟩ := h1
  clear hLn hi' u1 u2 u3
  obtain ⟨N, hN⟩ : ∃ N : Int, (n : Int) = N := ⟨_, rfl⟩
  have gI : I < N := by omega
  rw [ha]
  by_cases h : a.t = t
  · have hd : decide (a.t ≠ t) = false := decide_eq_false (fun hh => hh h)
    rw [hd]
    rw [h] at u0
    clear h hd ha
    go_enter Tryz.func30, Tryz.ntmps30
    go_wp2_with fail
    go_quiet (fail)
    all_goals
      go_wp2_with fail
      go_ret
      exact ⟨by first | rfl | simp, by first | exact below_drewN _ _ | exact Below.refl _ _⟩
  · have hd : decide (a.t ≠ t) = true := decide_eq_true h
    have hb : (a.t == t) = false := beq_eq_false_iff_ne.2 h
    rw [hd]
    clear hd ha
    go_enter Tryz.func30, Tryz.ntmps30
    go_wp2_with fail
    go_quiet (fail)
    all_goals
      go_wp2_with fail
      go_ret
      exact ⟨by first | rfl | simp [h], by first | exact below_drewN _ _ | exact Below.refl _ _⟩

/-- The first integer of a row that is so. -/
def FirstAt (F : Int → Bool) (Y : List Int) (r : Int) : Prop := (∃ k : Nat, (k < Y.length ∧ r = (k : Int)) ∧ F (Y.getD k 0) = true ∧ ∀ j, j < k → F (Y.getD j 0) = false) ∨ (r = -1 ∧ ∀ j, j < Y.length → F (Y.getD j 0) = false)

set_option maxRecDepth 100000 in
set_option maxHeartbeats 2000000 in
theorem indexFunc_in (K b1 b2 : Nat) (F : Int → Bool) (Y : List Int) (N : Int) (n c g o : Nat) (w : World) (hN : (n : Int) = N) (hn : N ≤ 1000000) (hc : n ≤ c) (hcf : ∀ args w, (callFunc K args).run Tryz.prog w = .ok (.enter K args) w)
    (HL : Hid (Y.length = n)) (HR : Hid (RowI w g o Y))
    (CH : Hid (∀ k, k < n → ∀ W, Below w.heap.size w W → Calls Tryz.prog K #[.int .i64 (Y.getD k 0), .pointer (some ⟨b1, 0, none⟩), .pointer (some ⟨b2, 0, none⟩)] W fun e w' => e = .returned (.bool (F (Y.getD k 0))) ∧ Below W.heap.size W w')) :
    Calls Tryz.prog 29 #[.slice (some ⟨g, o, none⟩) n c, .func (.func K) #[] #[.pointer (some ⟨b1, 0, none⟩), .pointer (some ⟨b2, 0, none⟩)]] w fun e w' => ∃ r, e = .returned (.int .i64 r) ∧ FirstAt F Y r ∧ Below w.heap.size w w' := by
  have hN0 : 0 ≤ N := by omega
  go_enter Tryz.func29, Tryz.ntmps29
  go_wp2_with fail
  go_loopw [8] (fun iv wr => ∃ (i : Nat) (I : Int), iv = .int .i64 I ∧ 0 ≤ I ∧ I ≤ N ∧ Hid ((I = (i : Int)) ∧ (∀ j, j < i → F (Y.getD j 0) = false) ∧ Below w.heap.size w wr)) (fun iv _ => (N - intOf iv).toNat)
  case atStart => exact ⟨0, 0, rfl, by omega, by omega, ⟨rfl, fun j h => by omega, Below.refl _ _⟩⟩
  case round =>
    obtain ⟨i, I, rfl, hI0, hI1, hK⟩ := hrel
    obtain ⟨hIi, hno, hBv⟩ := hK.out
    have hLn := HL.out
    by_cases hI : I < N
    · have hil : i < n := by omega
      have c0 := cell_later hBv (HR.out i (by omega))
      have hy : Y[i]'(by omega) = Y.getD i 0 := by rw [List.getD_eq_getElem?_getD, List.getElem?_eq_getElem (by omega)]; rfl
      rw [hy] at c0
      have CF := Lib.hid (fun W (h : Below wr.heap.size wr W) => CH.out i hil W (kc hBv h))
      obtain ⟨y, hY⟩ : ∃ y, Y.getD i 0 = y := ⟨_, rfl⟩
      rw [hY] at c0 CF
      have hIn : I.toNat = i := by omega
      have HI : Hid (I = (i : Int) ∧ i < Y.length ∧ Y.getD i 0 = y) := ⟨hIi, by omega, hY⟩
      have HNo := Lib.hid hno
      have HBv := Lib.hid hBv
      clear hK hIi hno hBv hLn hil hy hY
      cases hF : F y
      · rw [hF] at CF
        have HF := Lib.hid hF
        clear hF
        go_wp2_with ((with_reducible refine (CF.out _ (Below.refl _ _)).mono ?_); rintro e w1 ⟨rfl, hb1⟩; have HB1 := Lib.hid hb1; clear hb1)
        go_roundw
        case rel => exact ⟨i + 1, I + 1, by go_num, by omega, by omega, ⟨by have := HI.out.1; omega, fun j hj => (by rcases Nat.lt_succ_iff_lt_or_eq.1 hj with h | h; exact HNo.out j h; rw [h, HI.out.2.2]; exact HF.out), kc HBv.out HB1.out⟩⟩
        case measure => simp [intOf]; omega
      · rw [hF] at CF
        have HF := Lib.hid hF
        clear hF
        go_wp2_with ((with_reducible refine (CF.out _ (Below.refl _ _)).mono ?_); rintro e w1 ⟨rfl, hb1⟩; have HB1 := Lib.hid hb1; clear hb1)
        go_ret
        exact ⟨I, rfl, .inl ⟨i, ⟨HI.out.2.1, HI.out.1⟩, by rw [HI.out.2.2]; exact HF.out, HNo.out⟩, kc HBv.out HB1.out⟩
    · have HE : Hid (∀ j, j < Y.length → F (Y.getD j 0) = false) := fun j hj => hno j (by omega)
      have HBv := Lib.hid hBv
      clear hK hIi hno hBv hLn
      go_wp2_with fail
      go_ret
      exact ⟨-1, rfl, .inr ⟨rfl, HE.out⟩, HBv.out⟩

set_option maxRecDepth 100000 in
set_option maxHeartbeats 4000000 in
theorem count_bad (L : List St) (n c g o : Nat) (w : World) (hn : n ≤ 1000000) (hc : n ≤ c) (HL : Hid (L.length = n)) (HR : Hid (∀ j (h : j < L.length), StAt w g (o + j * 4) L[j])) (HV : Hid (¬ Valid L)) :
    Calls Tryz.prog 8 #[.slice (some ⟨g, o, none⟩) n c] w fun e w' => e = .returned (.tuple #[.int .i64 0, .int .i64 0, .int .i64 2]) ∧ Below w.heap.size w w' := by
  have CK := Lib.hid (fun wz (hz : Below w.heap.size w wz) => nearest_bad L n c g o wz hn hc HL (fun j h => St.later hz (HR.out j h)) HV)
  go_enter Tryz.func8, Tryz.ntmps8
  go_wp2_with (first | (go_at_call 6; refine (CK.out _ (ka (ka (Below.refl _ _) _) _)).mono ?_; rintro e w1 ⟨rfl, hb1⟩; have v1 : w1.cell? ⟨w.heap.size + 1, 0, none⟩ = some (.int .i64 0) := cell_later hb1 (by simp [go_sem]); have vf : w1.frozen? ⟨w.heap.size + 1, 0, none⟩ = false := (hb1.frozen (by simp)).trans (by simp [go_sem]); have HB1 := Lib.hid hb1; clear hb1))
  have vs := set_one (.int .i64 0) v1
  exact bodyPost_ret (v := .tuple #[.int .i64 0, .int .i64 0, .int .i64 2]) (by simp [results, Tryz.results8, go_sem, vs]) rfl
    ⟨rfl, ks (kc (ka (ka (Below.refl _ _) _) _) HB1.out) _ (Nat.le_succ _)⟩

set_option maxRecDepth 100000 in
set_option maxHeartbeats 4000000 in
theorem count_none (L : List St) (n c g o : Nat) (w : World) (hn : n ≤ 1000000) (hc : n ≤ c) (HL : Hid (L.length = n)) (HR : Hid (∀ j (h : j < L.length), StAt w g (o + j * 4) L[j])) (HV : Hid (Valid L)) (HH : Hid (houseI L n = [])) :
    Calls Tryz.prog 8 #[.slice (some ⟨g, o, none⟩) n c] w fun e w' => e = .returned (.tuple #[.int .i64 (-1), .int .i64 0, .int .i64 0]) ∧ Below w.heap.size w w' := by
  have CK := Lib.hid (fun wz (hz : Below w.heap.size w wz) => nearest_in L n c g o wz hn hc HL (fun j h => St.later hz (HR.out j h)) HV)
  go_enter Tryz.func8, Tryz.ntmps8
  go_wp2_with (first | (go_at_call 6; refine (CK.out _ (ka (ka (Below.refl _ _) _) _)).mono ?_; rintro e w1 ⟨Y, v, rfl, ⟨hp, -⟩, ho, hb1⟩; have hY : Y = [] := (by have := hp; rw [HH.out] at this; exact List.perm_nil.1 this); have hv : v = .slice none 0 0 := (by rcases ho with ⟨_, h⟩ | ⟨_, _, _, _, _, h, _⟩; exact h; rw [hY] at h; simp at h); subst hv; have v1 : w1.cell? ⟨w.heap.size + 1, 0, none⟩ = some (.int .i64 0) := cell_later hb1 (by simp [go_sem]); have vf : w1.frozen? ⟨w.heap.size + 1, 0, none⟩ = false := (hb1.frozen (by simp)).trans (by simp [go_sem]); have HB1 := Lib.hid hb1; clear hb1 hp ho hY))
  have vs := set_one (.int .i64 (-1)) v1
  exact bodyPost_ret (v := .tuple #[.int .i64 (-1), .int .i64 0, .int .i64 0]) (by simp [results, Tryz.results8, go_sem, vs]) rfl
    ⟨rfl, ks (kc (ka (ka (Below.refl _ _) _) _) HB1.out) _ (Nat.le_succ _)⟩

end Go.Proofs.YtfdhgimpdmhdeaaGreatDoor
