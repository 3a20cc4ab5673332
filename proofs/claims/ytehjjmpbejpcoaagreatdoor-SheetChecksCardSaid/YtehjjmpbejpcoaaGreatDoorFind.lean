/- Where a stone is: package sheet's Find, and the document's. -/
import Derived.Test.YtehjjmpbejpcoaaGreatDoorCount
import Derived.Test.YtehjjmpbejpcoaaGreatDoorRefOverlap
namespace Go.Proofs.YtehjjmpbejpcoaaGreatDoor
open Go Go.RowKit Go.Sort

/-- Is it that stone? -/
def isS (t n : Int) (s : St) : Bool := decide (s.t = t) && decide (s.n = n)
/-- The first stone that is so. -/
def FirstS (F : St → Bool) (L : List St) (r : Int) : Prop := (∃ k : Nat, (k < L.length ∧ r = (k : Int)) ∧ F (el L k) = true ∧ ∀ j, j < k → F (el L j) = false) ∨ (r = -1 ∧ ∀ j, j < L.length → F (el L j) = false)
theorem firstS_uniq {F : St → Bool} {L : List St} {r r' : Int} (h : FirstS F L r) (h' : FirstS F L r') : r = r' := by
  rcases h with ⟨k, ⟨h1, rfl⟩, h2, h3⟩ | ⟨rfl, h3⟩ <;> rcases h' with ⟨k', ⟨g1, rfl⟩, g2, g3⟩ | ⟨rfl, g3⟩
  · have a : ¬ k < k' := fun h => by have := g3 k h; rw [h2] at this; cases this
    have b : ¬ k' < k := fun h => by have := h3 k' h; rw [g2] at this; cases this
    omega
  · have := g3 k h1; rw [h2] at this; cases this
  · have := h3 k' g1; rw [g2] at this; cases this
  · rfl

set_option maxRecDepth 100000 in
set_option maxHeartbeats 2000000 in
theorem find1_any (s : St) (t n : Int) (bt bn : Nat) (w : World) (ht : w.cell? ⟨bt, 0, none⟩ = some (.int .i64 t)) (hn : w.cell? ⟨bn, 0, none⟩ = some (.int .i64 n)) :
    Calls Tryz.prog 24 #[St.val s, .pointer (some ⟨bt, 0, none⟩), .pointer (some ⟨bn, 0, none⟩)] w fun e w' => e = .returned (.bool (isS t n s)) ∧ Below w.heap.size w w' := by
  obtain ⟨st, sn, sx, sy⟩ := s
  have CN := Lib.hid (fun w => nameOf_any st sn sx sy w)
  have HN := name_eq (st, sn) (t, n)
  have HF : Hid (decide ((st, sn) = (t, n)) = isS t n ⟨st, sn, sx, sy⟩) := by show _ = _; unfold isS; by_cases h1 : st = t <;> by_cases h2 : sn = n <;> simp [h1, h2]
  have a0 := alloc_cell (o := .cells #[.int .i64 st, .int .i64 sn, .int .i64 sx, .int .i64 sy] 38) ht
  have a1 := alloc_cell (o := .cells #[.int .i64 st, .int .i64 sn, .int .i64 sx, .int .i64 sy] 38) hn
  obtain ⟨W, hW⟩ : ∃ W, w.alloc (.cells #[.int .i64 st, .int .i64 sn, .int .i64 sx, .int .i64 sy] 38) = W := ⟨_, rfl⟩
  have HB : Hid (Below w.heap.size w W) := by show Below _ _ _; rw [← hW]; exact ka (Below.refl _ _) _
  have hst : StAt W w.heap.size 0 ⟨st, sn, sx, sy⟩ := by rw [← hW]; exact stAt_new w ⟨st, sn, sx, sy⟩
  obtain ⟨⟨b0, b1⟩, b2, b3⟩ := hst
  rw [hW] at a0 a1
  have k0 := cell_regrown a0
  have k1 := cell_regrown a1
  have l0 := cell_regrown b0
  have l1 := cell_regrown b1
  have l2 := cell_regrown b2
  have l3 := cell_regrown b3
  have HW := Lib.hid hW
  have c1 : ∀ d os, Calls Tryz.prog 25 #[.agg #[.int .i64 st, .int .i64 sn, .int .i64 sx, .int .i64 sy]] (grow (redrawn W d) os) fun e w'' => e = .returned (.agg #[.int .i64 st, .int .i64 sn]) ∧ ∃ p : Regrown, w'' = grow (redrawn W p.d) p.os := fun d os => Calls.regrown_of (CN.out _)
  clear ht hn a0 a1 b0 b1 b2 b3 hW
  clear HN HF
  by_cases h1 : st = t
  · by_cases h2 : sn = n
    · have HF : Hid (isS t n ⟨st, sn, sx, sy⟩ = true) := by show _ = _; unfold isS; simp [h1, h2]
      subst h1 h2
      go_enter Tryz.func24, Tryz.ntmps24
      go_wp2_with fail
      rw [HW.out]
      refine wp_region_quiet_below (by kernel_rfl) (by kernel_rfl) ?_
      repeat (first | go_big_quiet_step (first | (with_reducible exact c1 _ _)) | quiet_step (first | (with_reducible exact c1 _ _)))
      refine wpQuiet_nil ?_
      intro _ hw'
      obtain ⟨⟨dq, osq⟩, hw''⟩ := hw'
      subst hw''
      have HQ := Lib.hid (kc HB.out (below_regrown W dq osq))
      clear k0 k1 l0 l1 l2 l3 c1
      go_wp2_with fail
      go_ret
      exact ⟨by rw [HF.out]; rfl, HQ.out⟩
    · have HF : Hid (isS t n ⟨st, sn, sx, sy⟩ = false) := by show _ = _; unfold isS; simp [h2]
      have hb2 : (sn == n) = false := beq_eq_false_iff_ne.2 h2
      subst h1
      go_enter Tryz.func24, Tryz.ntmps24
      go_wp2_with fail
      rw [HW.out]
      refine wp_region_quiet_below (by kernel_rfl) (by kernel_rfl) ?_
      repeat (first | go_big_quiet_step (first | (with_reducible exact c1 _ _)) | quiet_step (first | (with_reducible exact c1 _ _)))
      refine wpQuiet_nil ?_
      intro _ hw'
      obtain ⟨⟨dq, osq⟩, hw''⟩ := hw'
      subst hw''
      have HQ := Lib.hid (kc HB.out (below_regrown W dq osq))
      clear k0 k1 l0 l1 l2 l3 c1
      go_wp2_with fail
      go_ret
      exact ⟨by rw [HF.out]; rfl, HQ.out⟩
  · have HF : Hid (isS t n ⟨st, sn, sx, sy⟩ = false) := by show _ = _; unfold isS; simp [h1]
    have hb1 : (st == t) = false := beq_eq_false_iff_ne.2 h1
    go_enter Tryz.func24, Tryz.ntmps24
    go_wp2_with fail
    rw [HW.out]
    refine wp_region_quiet_below (by kernel_rfl) (by kernel_rfl) ?_
    repeat (first | go_big_quiet_step (first | (with_reducible exact c1 _ _)) | quiet_step (first | (with_reducible exact c1 _ _)))
    refine wpQuiet_nil ?_
    intro _ hw'
    obtain ⟨⟨dq, osq⟩, hw''⟩ := hw'
    subst hw''
    have HQ := Lib.hid (kc HB.out (below_regrown W dq osq))
    clear k0 k1 l0 l1 l2 l3 c1
    go_wp2_with fail
    go_ret
    exact ⟨by rw [HF.out]; rfl, HQ.out⟩

set_option maxRecDepth 100000 in
set_option maxHeartbeats 2000000 in
theorem indexStone_in (K b1 b2 : Nat) (F : St → Bool) (L : List St) (n c g o : Nat) (w : World) (hn : n ≤ 1000000) (hc : n ≤ c) (hcf : ∀ args w, (callFunc K args).run Tryz.prog w = .ok (.enter K args) w)
    (HL : Hid (L.length = n)) (HR : Hid (∀ j (h : j < L.length), StAt w g (o + j * 4) L[j]))
    (CH : Hid (∀ s W, Below w.heap.size w W → Calls Tryz.prog K #[St.val s, .pointer (some ⟨b1, 0, none⟩), .pointer (some ⟨b2, 0, none⟩)] W fun e w' => e = .returned (.bool (F s)) ∧ Below W.heap.size W w')) :
    Calls Tryz.prog 23 #[.slice (some ⟨g, o, none⟩) n c, .func (.func K) #[] #[.pointer (some ⟨b1, 0, none⟩), .pointer (some ⟨b2, 0, none⟩)]] w fun e w' => ∃ r, e = .returned (.int .i64 r) ∧ FirstS F L r ∧ Below w.heap.size w w' := by
  obtain ⟨N, hN⟩ : ∃ N : Int, (n : Int) = N := ⟨_, rfl⟩
  have hN0 : 0 ≤ N := by omega
  have hNb : N ≤ 1000000 := by omega
  go_enter Tryz.func23, Tryz.ntmps23
  go_wp2_with fail
  go_loopw [8] (fun iv wr => ∃ (i : Nat) (I : Int), iv = .int .i64 I ∧ 0 ≤ I ∧ I ≤ N ∧ Hid ((I = (i : Int)) ∧ (∀ j, j < i → F (el L j) = false) ∧ Below w.heap.size w wr)) (fun iv _ => (N - intOf iv).toNat)
  case atStart => exact ⟨0, 0, rfl, by omega, by omega, ⟨rfl, fun j h => by omega, Below.refl _ _⟩⟩
  case round =>
    obtain ⟨i, I, rfl, hI0, hI1, hK⟩ := hrel
    obtain ⟨hIi, hno, hBv⟩ := hK.out
    have hLn := HL.out
    by_cases hI : I < N
    · have hil : i < L.length := by omega
      obtain ⟨s, hs⟩ : ∃ s, el L i = s := ⟨_, rfl⟩
      have hst := St.later hBv (HR.out i hil)
      rw [← el_get hil, hs] at hst
      obtain ⟨⟨t0, t1⟩, t2, t3⟩ := hst
      have CF := Lib.hid (fun W (h : Below wr.heap.size wr W) => CH.out s W (kc hBv h))
      have hIn : I.toNat = i := by omega
      have HI : Hid (I = (i : Int) ∧ i < L.length ∧ el L i = s) := ⟨hIi, hil, hs⟩
      have HNo := Lib.hid hno
      have HBv := Lib.hid hBv
      clear hK hIi hno hBv hLn hil hs
      cases hF : F s
      · rw [hF] at CF
        have HF := Lib.hid hF
        clear hF
        go_wp2_with ((with_reducible refine (CF.out _ (Below.refl _ _)).mono ?_); rintro e w1 ⟨rfl, hb1⟩; have HB1 := Lib.hid hb1; clear hb1)
        go_roundw
        case rel => exact ⟨i + 1, I + 1, by go_num, by omega, by omega, ⟨by have := HI.out.1; omega, fun j hj => (by rcases Nat.lt_succ_iff_lt_or_eq.1 hj with h | h; exact HNo.out j h; rw [h, HI.out.2.2]; exact HF.out), kc HBv.out HB1.out⟩⟩
        case measure => simp [intOf]; omega
      · rw [hF] at CF
        have HF := Lib.hid hF
        clear hF
        go_wp2_with ((with_reducible refine (CF.out _ (Below.refl _ _)).mono ?_); rintro e w1 ⟨rfl, hb1⟩; have HB1 := Lib.hid hb1; clear hb1)
        go_ret
        exact ⟨I, rfl, .inl ⟨i, ⟨HI.out.2.1, HI.out.1⟩, by rw [HI.out.2.2]; exact HF.out, HNo.out⟩, kc HBv.out HB1.out⟩
    · have HE : Hid (∀ j, j < L.length → F (el L j) = false) := fun j hj => hno j (by omega)
      have HBv := Lib.hid hBv
      clear hK hIi hno hBv hLn
      go_wp2_with fail
      go_ret
      exact ⟨-1, rfl, .inr ⟨rfl, HE.out⟩, HBv.out⟩

/-- What Find says of an index. -/
def findS (r : Int) : Int × Int := if r < 0 then (0, 7) else (r, 0)

set_option maxRecDepth 100000 in
set_option maxHeartbeats 2000000 in
theorem find_in (L : List St) (t k : Int) (n c g o : Nat) (w : World) (hn : n ≤ 1000000) (hc : n ≤ c) (HL : Hid (L.length = n)) (HR : Hid (∀ j (h : j < L.length), StAt w g (o + j * 4) L[j])) :
    Calls Tryz.prog 7 #[.slice (some ⟨g, o, none⟩) n c, .int .i64 t, .int .i64 k] w fun e w' => ∃ r, e = .returned (.tuple #[.int .i64 (findS r).1, .int .i64 (findS r).2]) ∧ FirstS (isS t k) L r ∧ Below w.heap.size w w' := by
  have hbW : Below w.heap.size w ((w.alloc (.cells #[.int .i64 t] 3)).alloc (.cells #[.int .i64 k] 3)) := ka (ka (Below.refl _ _) _) _
  have CI := Lib.hid (indexStone_in 24 w.heap.size (w.heap.size + 1) (isS t k) L n c g o ((w.alloc (.cells #[.int .i64 t] 3)).alloc (.cells #[.int .i64 k] 3)) hn hc (fun args w => by simp [go_sem]) HL (fun j h => St.later hbW (HR.out j h))
    (fun s W hb => find1_any s t k w.heap.size (w.heap.size + 1) W (cell_later hb (by simp [go_sem])) (cell_later hb (by simp [go_sem]))))
  have HbW := Lib.hid hbW
  clear hbW
  go_enter Tryz.func7, Tryz.ntmps7
  go_wp2_with (first | ((with_reducible refine CI.out.mono ?_); rintro e w1 ⟨r, rfl, hr, hb1⟩; have HRr := Lib.hid hr; have HB1 := Lib.hid (kc HbW.out hb1); clear hb1 hr; by_cases hr0 : r < 0))
  all_goals
    go_ret2
    refine ⟨r, ?_, HRr.out, HB1.out⟩
    unfold findS
    first
    | (rw [if_pos (by assumption)]; rfl)
    | (rw [if_neg (by omega)]; rfl)

set_option maxRecDepth 100000 in
set_option maxHeartbeats 2000000 in
theorem refFind_in (L : List St) (t k : Int) (n c g o : Nat) (w : World) (hn : n ≤ 1000000) (hc : n ≤ c) (HL : Hid (L.length = n)) (HR : Hid (∀ j (h : j < L.length), StAt w g (o + j * 4) L[j])) :
    Calls Tryz.prog 8 #[.slice (some ⟨g, o, none⟩) n c, .int .i64 t, .int .i64 k] w fun e w' => ∃ r, e = .returned (.tuple #[.int .i64 (findS r).1, .int .i64 (findS r).2]) ∧ FirstS (isS t k) L r ∧ w' = w := by
  obtain ⟨N, hN⟩ : ∃ N : Int, (n : Int) = N := ⟨_, rfl⟩
  have hN0 : 0 ≤ N := by omega
  have hNb : N ≤ 1000000 := by omega
  go_enter Tryz.func8, Tryz.ntmps8
  go_wp2_with fail
  go_loop [8] (fun iv => ∃ (i : Nat) (I : Int), iv = .int .i64 I ∧ 0 ≤ I ∧ I ≤ N ∧ Hid ((I = (i : Int)) ∧ (∀ j, j < i → isS t k (el L j) = false))) (fun iv => (N - intOf iv).toNat)
  case atStart => exact ⟨0, 0, rfl, by omega, by omega, ⟨rfl, fun j h => by omega⟩⟩
  case round =>
    obtain ⟨i, I, rfl, hI0, hI1, hK⟩ := hrel
    obtain ⟨hIi, hno⟩ := hK.out
    have hLn := HL.out
    by_cases hI : I < N
    · have hil : i < L.length := by omega
      obtain ⟨s, hs⟩ : ∃ s, el L i = s := ⟨_, rfl⟩
      have hst := HR.out i hil
      rw [← el_get hil, hs] at hst
      obtain ⟨⟨t0, t1⟩, -, -⟩ := hst
      have hIn : I.toNat = i := by omega
      have HI : Hid (I = (i : Int) ∧ i < L.length ∧ el L i = s) := ⟨hIi, hil, hs⟩
      have HNo := Lib.hid hno
      obtain ⟨st, sn, sx, sy⟩ := s
      dsimp only at t0 t1
      clear hK hIi hno hLn hil hs
      by_cases h1 : st = t
      · by_cases h2 : sn = k
        · have HF : Hid (isS t k (el L i) = true) := by show _ = _; rw [HI.out.2.2]; unfold isS; simp [h1, h2]
          subst h1 h2
          go_wp2_with fail
          go_ret2
          exact ⟨I, by unfold findS; rw [if_neg (by omega)]; rfl, .inl ⟨i, ⟨HI.out.2.1, HI.out.1⟩, HF.out, HNo.out⟩, rfl⟩
        · have HF : Hid (isS t k (el L i) = false) := by show _ = _; rw [HI.out.2.2]; unfold isS; simp [h2]
          have hb2 : (sn == k) = false := beq_eq_false_iff_ne.2 h2
          subst h1
          go_wp2_with fail
          go_round
          case rel => exact ⟨i + 1, I + 1, by go_num, by omega, by omega, ⟨by have := HI.out.1; omega, fun j hj => (by rcases Nat.lt_succ_iff_lt_or_eq.1 hj with h | h; exact HNo.out j h; rw [h]; exact HF.out)⟩⟩
          case measure => simp [intOf]; omega
      · have HF : Hid (isS t k (el L i) = false) := by show _ = _; rw [HI.out.2.2]; unfold isS; simp [h1]
        have hb1 : (st == t) = false := beq_eq_false_iff_ne.2 h1
        go_wp2_with fail
        go_round
        case rel => exact ⟨i + 1, I + 1, by go_num, by omega, by omega, ⟨by have := HI.out.1; omega, fun j hj => (by rcases Nat.lt_succ_iff_lt_or_eq.1 hj with h | h; exact HNo.out j h; rw [h]; exact HF.out)⟩⟩
        case measure => simp [intOf]; omega
    · have HE : Hid (∀ j, j < L.length → isS t k (el L j) = false) := fun j hj => hno j (by omega)
      clear hK hIi hno hLn
      go_wp2_with fail
      go_ret2
      exact ⟨-1, rfl, .inr ⟨rfl, HE.out⟩, rfl⟩

end Go.Proofs.YtehjjmpbejpcoaaGreatDoor
