/- Is a position valid? Package sheet's Check. -/
import Derived.Test.YtfdhgimpdmhdeaaGreatDoorSeen
namespace Go.Proofs.YtfdhgimpdmhdeaaGreatDoor
open Go Go.RowKit

/-- The names of the first stones. -/
def names (L : List St) (i : Nat) : List (Int × Int) := (L.take i).map (fun s => (s.t, s.n))
theorem names_zero (L : List St) : names L 0 = [] := rfl
theorem names_more {L : List St} {i : Nat} {s : St} (h : i < L.length) (hs : el L i = s) : names L (i + 1) = names L i ++ [(s.t, s.n)] := by
  unfold names
  rw [List.take_add_one, List.getElem?_eq_getElem h, ← hs, el_get h, List.map_append]
  rfl
/-- Is this stone fit behind the ones ahead of it? -/
def GoodAt (L : List St) (i : Nat) : Prop := namedS (el L i) = true ∧ ((el L i).t, (el L i).n) ∉ names L i ∧ (Plc (el L i).x (el L i).y ∧ ¬ OutP (el L i).x (el L i).y)
/-- Is a position valid? -/
def Valid (L : List St) : Prop := L.length ≤ 16 ∧ (∀ i, i < L.length → GoodAt L i) ∧ NoPair ovS L L.length 0

theorem good_more {L : List St} {i : Nat} (h : ∀ j, j < i → GoodAt L j) (hi : GoodAt L i) : ∀ j, j < i + 1 → GoodAt L j := fun j hj => by
  rcases Nat.lt_succ_iff_lt_or_eq.1 hj with h1 | h1
  · exact h j h1
  · rw [h1]; exact hi
theorem valid_named {L : List St} {i : Nat} (hi : i < L.length) (h : namedS (el L i) = false) : ¬ Valid L := fun hv => by have := (hv.2.1 i hi).1; rw [h] at this; cases this
theorem valid_new {L : List St} {i : Nat} (hi : i < L.length) (h : ((el L i).t, (el L i).n) ∈ names L i) : ¬ Valid L := fun hv => (hv.2.1 i hi).2.1 h
theorem valid_play {L : List St} {i : Nat} (hi : i < L.length) (h : ¬ (Plc (el L i).x (el L i).y ∧ ¬ OutP (el L i).x (el L i).y)) : ¬ Valid L := fun hv => h (hv.2.1 i hi).2.2
theorem valid_end {L : List St} {r1 r2 : Int} (h16 : L.length ≤ 16) (hg : ∀ j, j < L.length → GoodAt L j) (h : PairAt ovS L (r1, r2)) : (decide (r1 < 0) = true ↔ Valid L) := by
  rcases h with ⟨i, k, ⟨h1, h2⟩, h3, h4, e⟩ | ⟨h4, e⟩
  · rw [Prod.mk.injEq] at e
    have hd : decide (r1 < 0) = false := decide_eq_false (by omega)
    rw [hd]
    exact ⟨fun h => (by cases h), fun hv => (by have := hv.2.2 i k h1 h2 (.inl (by omega)); rw [h3] at this; cases this)⟩
  · rw [Prod.mk.injEq] at e
    have hd : decide (r1 < 0) = true := decide_eq_true (by omega)
    rw [hd]
    exact ⟨fun _ => ⟨h16, hg, h4⟩, fun _ => rfl⟩

set_option maxRecDepth 100000 in
set_option maxHeartbeats 4000000 in
theorem check_in (L : List St) (n c g o : Nat) (w : World) (hn : n ≤ 1000000) (hc : n ≤ c) (HL : Hid (L.length = n)) (HR : Hid (∀ j (h : j < L.length), StAt w g (o + j * 4) L[j])) :
    Calls Tryz.prog 19 #[.slice (some ⟨g, o, none⟩) n c] w fun e w' => ∃ r : Bool, e = .returned (.bool r) ∧ (r = true ↔ Valid L) ∧ Below w.heap.size w w' := by
  obtain ⟨N, hN⟩ : ∃ N : Int, (n : Int) = N := ⟨_, rfl⟩
  have hN0 : 0 ≤ N := by omega
  by_cases h16 : 16 < N
  · have HV : Hid (¬ Valid L) := fun h => by have h1 := h.1; have h2 := HL.out; omega
    go_enter Tryz.func19, Tryz.ntmps19
    go_wp2_with fail
    go_ret
    exact ⟨false, rfl, ⟨fun h => (by cases h), fun h => absurd h HV.out⟩, Below.refl _ _⟩
  · have hmm := @run_makeMap Tryz.prog
    obtain ⟨B, hB⟩ : ∃ B, w.heap.size = B := ⟨_, rfl⟩
    have HS0 : Hid (SeenAt (w.alloc (.map #[] 0)) B (names L 0)) := by show SeenAt _ _ _; rw [← hB]; exact seen_new w
    have CO := Lib.hid (fun wz (hz : Below w.heap.size w wz) => overlap_in L n c g o wz hn hc HL (fun j h => St.later hz (HR.out j h)))
    go_enter Tryz.func19, Tryz.ntmps19
    go_wp2_with fail
    go_loopw [14] (fun iv wr => ∃ (i : Nat) (I : Int), iv = .int .i64 I ∧ 0 ≤ I ∧ I ≤ N ∧ Hid ((I = (i : Int)) ∧ (∀ j, j < i → GoodAt L j) ∧ SeenAt wr B (names L i) ∧ Below w.heap.size w wr)) (fun iv _ => (N - intOf iv).toNat)
    case atStart => exact ⟨0, 0, rfl, by omega, by omega, ⟨rfl, fun j h => by omega, HS0.out, ka (Below.refl _ _) _⟩⟩
    case round =>
      obtain ⟨i, I, rfl, hI0, hI1, hK⟩ := hrel
      obtain ⟨hIi, hgd, hsn, hBv⟩ := hK.out
      have hLn := HL.out
      by_cases hI : I < N
      · have hil : i < L.length := by omega
        obtain ⟨s, hs⟩ : ∃ s, L[i] = s := ⟨_, rfl⟩
        have hst := St.later hBv (HR.out i hil)
        rw [hs] at hst
        obtain ⟨⟨t0, t1⟩, t2, t3⟩ := hst
        have HIi := Lib.hid hIi
        have Hgd := Lib.hid hgd
        have HBv := Lib.hid hBv
        have Hil := Lib.hid hil
        have Hs : Hid (el L i = s) := by show _ = _; rw [el_get hil, hs]
        have hIn : I.toNat = i := by omega
        obtain ⟨X, hX⟩ : ∃ X, wr.heap.size = X := ⟨_, rfl⟩
        have HB0 : Hid (StAt (wr.alloc (.cells #[.int .i64 s.t, .int .i64 s.n, .int .i64 s.x, .int .i64 s.y] 39)) X 0 s ∧ SeenAt (wr.alloc (.cells #[.int .i64 s.t, .int .i64 s.n, .int .i64 s.x, .int .i64 s.y] 39)) B (names L i) ∧ Below w.heap.size w (wr.alloc (.cells #[.int .i64 s.t, .int .i64 s.n, .int .i64 s.x, .int .i64 s.y] 39))) := by
          show _ ∧ _
          rw [← hX]
          exact ⟨stAt_new wr s, hsn.later (ka (Below.refl _ _) _), ka hBv _⟩
        have CN : Hid (∀ w, Calls Tryz.prog 39 #[s.val] w fun e w' => e = .returned (.bool (namedS s)) ∧ Below w.heap.size w w') := fun w => isNamed_any s.t s.n s.x s.y w
        have CM : Hid (∀ w, Calls Tryz.prog 40 #[s.val] w fun e w' => e = .returned (.agg #[.int .i64 s.t, .int .i64 s.n]) ∧ Below w.heap.size w w') := fun w => nameOf_any s.t s.n s.x s.y w
        have CP : Hid (∀ w, Calls Tryz.prog 41 #[.agg #[.int .i64 s.x, .int .i64 s.y]] w fun e w' => e = .returned (.bool (decide (Plc s.x s.y ∧ ¬ OutP s.x s.y))) ∧ Below w.heap.size w w') := fun w => isInPlay_any s.x s.y w
        have hHB : w.heap.size ≤ B := by omega
        clear hK hIi hgd hsn hBv hs hil hLn hB
        cases hN : namedS s
        · have HV : Hid (¬ Valid L) := valid_named Hil.out (by rw [Hs.out]; exact hN)
          rw [hN] at CN
          clear hN
          go_wp2_with (first | (go_at_call 39; refine (CN.out _).mono ?_; rintro e w2 ⟨rfl, hb2⟩; have HB2 := Lib.hid hb2; clear hb2))
          go_ret
          exact ⟨false, rfl, ⟨fun h => (by cases h), fun h => absurd h HV.out⟩, kc HB0.out.2.2 HB2.out⟩
        · rw [hN] at CN
          have h4' : namedS (el L i) = true := by rw [Hs.out]; exact hN
          clear hN
          by_cases hS : (s.t, s.n) ∈ names L i
          · have HV : Hid (¬ Valid L) := valid_new Hil.out (by rw [Hs.out]; exact hS)
            have HD : Hid (decide ((s.t, s.n) ∈ names L i) = true) := decide_eq_true hS
            clear hS h4'
            go_wp2_with (first | (go_at_call 39; refine (CN.out _).mono ?_; rintro e w2 ⟨rfl, hb2⟩; obtain ⟨⟨s2a, s2b⟩, s2c, s2d⟩ := St.later hb2 HB0.out.1; have sg2 := World.block_lt_of_cell? _ _ s2a; have HT2 := Lib.hid (St.later hb2 HB0.out.1); have HM2 := Lib.hid (SeenAt.later hb2 HB0.out.2.1); have HB2 := Lib.hid hb2; clear hb2) | (go_at_call 40; refine (CM.out _).mono ?_; rintro e w3 ⟨rfl, hb3⟩; obtain ⟨⟨s3a, s3b⟩, s3c, s3d⟩ := St.later hb3 HT2.out; have sg3 := World.block_lt_of_cell? _ _ s3a; have HT3 := Lib.hid (St.later hb3 HT2.out); have HM3 := Lib.hid (SeenAt.later hb3 HM2.out); have HB3 := Lib.hid hb3; clear hb3) | (at_lookup; refine wp_seen_look _ rfl _ _ rfl B (names L i) (s.t, s.n) rfl rfl HM3.out ?_; rw [HD.out]))
            go_ret
            exact ⟨false, rfl, ⟨fun h => (by cases h), fun h => absurd h HV.out⟩, kc (kc HB0.out.2.2 HB2.out) HB3.out⟩
          · have HD : Hid (decide ((s.t, s.n) ∈ names L i) = false) := decide_eq_false hS
            have HSn := Lib.hid hS
            by_cases hP : Plc s.x s.y ∧ ¬ OutP s.x s.y
            · have HE := Lib.hid (decide_eq_true hP)
              have HG : Hid (GoodAt L i) := by show GoodAt L i; refine ⟨h4', ?_⟩; rw [Hs.out]; exact ⟨hS, hP⟩
              rw [HE.out] at CP
              have HNm : Hid (names L (i + 1) = names L i ++ [(s.t, s.n)]) := names_more Hil.out Hs.out
              clear hS hP h4'
              go_wp2_with (first | (go_at_call 39; refine (CN.out _).mono ?_; rintro e w2 ⟨rfl, hb2⟩; obtain ⟨⟨s2a, s2b⟩, s2c, s2d⟩ := St.later hb2 HB0.out.1; have sg2 := World.block_lt_of_cell? _ _ s2a; have HT2 := Lib.hid (St.later hb2 HB0.out.1); have HM2 := Lib.hid (SeenAt.later hb2 HB0.out.2.1); have HB2 := Lib.hid hb2; clear hb2) | (go_at_call 40; have HX := HB4; clear HX; refine (CM.out _).mono ?_; rintro e w5 ⟨rfl, hb5⟩; have HM5 := Lib.hid (SeenAt.later hb5 HM4.out); have HB5 := Lib.hid hb5; clear hb5) | (go_at_call 40; refine (CM.out _).mono ?_; rintro e w3 ⟨rfl, hb3⟩; obtain ⟨⟨s3a, s3b⟩, s3c, s3d⟩ := St.later hb3 HT2.out; have sg3 := World.block_lt_of_cell? _ _ s3a; have HT3 := Lib.hid (St.later hb3 HT2.out); have HM3 := Lib.hid (SeenAt.later hb3 HM2.out); have HB3 := Lib.hid hb3; clear hb3) | (at_lookup; refine wp_seen_look _ rfl _ _ rfl B (names L i) (s.t, s.n) rfl rfl HM3.out ?_; rw [HD.out]) | (go_at_call 41; refine (CP.out _).mono ?_; rintro e w4 ⟨rfl, hb4⟩; obtain ⟨⟨s4a, s4b⟩, s4c, s4d⟩ := St.later hb4 HT3.out; have sg4 := World.block_lt_of_cell? _ _ s4a; have HT4 := Lib.hid (St.later hb4 HT3.out); have HM4 := Lib.hid (SeenAt.later hb4 HM3.out); have HB4 := Lib.hid hb4; clear hb4) | (at_mapUpdate; refine wp_seen_keep _ rfl _ _ _ rfl B (names L i) (s.t, s.n) rfl rfl rfl HM5.out HSn.out ?_; intro w6 hm6 hk6; have HM6 := Lib.hid hm6; have HB6 := Lib.hid (hk6 hHB (kc (kc (kc (kc HB0.out.2.2 HB2.out) HB3.out) HB4.out) HB5.out)); clear hm6 hk6))
              go_roundw
              case rel => exact ⟨i + 1, I + 1, by go_num, by omega, by omega, ⟨by have := HIi.out; omega, good_more Hgd.out HG.out, by rw [HNm.out]; exact HM6.out, HB6.out⟩⟩
              case measure => simp [intOf]; omega
            · have HE := Lib.hid (decide_eq_false hP)
              have HV : Hid (¬ Valid L) := valid_play Hil.out (by rw [Hs.out]; exact hP)
              rw [HE.out] at CP
              clear hS hP h4'
              go_wp2_with (first | (go_at_call 39; refine (CN.out _).mono ?_; rintro e w2 ⟨rfl, hb2⟩; obtain ⟨⟨s2a, s2b⟩, s2c, s2d⟩ := St.later hb2 HB0.out.1; have sg2 := World.block_lt_of_cell? _ _ s2a; have HT2 := Lib.hid (St.later hb2 HB0.out.1); have HM2 := Lib.hid (SeenAt.later hb2 HB0.out.2.1); have HB2 := Lib.hid hb2; clear hb2) | (go_at_call 40; refine (CM.out _).mono ?_; rintro e w3 ⟨rfl, hb3⟩; obtain ⟨⟨s3a, s3b⟩, s3c, s3d⟩ := St.later hb3 HT2.out; have sg3 := World.block_lt_of_cell? _ _ s3a; have HT3 := Lib.hid (St.later hb3 HT2.out); have HM3 := Lib.hid (SeenAt.later hb3 HM2.out); have HB3 := Lib.hid hb3; clear hb3) | (at_lookup; refine wp_seen_look _ rfl _ _ rfl B (names L i) (s.t, s.n) rfl rfl HM3.out ?_; rw [HD.out]) | (go_at_call 41; refine (CP.out _).mono ?_; rintro e w4 ⟨rfl, hb4⟩; obtain ⟨⟨s4a, s4b⟩, s4c, s4d⟩ := St.later hb4 HT3.out; have sg4 := World.block_lt_of_cell? _ _ s4a; have HT4 := Lib.hid (St.later hb4 HT3.out); have HM4 := Lib.hid (SeenAt.later hb4 HM3.out); have HB4 := Lib.hid hb4; clear hb4))
              go_ret
              exact ⟨false, rfl, ⟨fun h => (by cases h), fun h => absurd h HV.out⟩, kc (kc (kc HB0.out.2.2 HB2.out) HB3.out) HB4.out⟩
      · have hil : i = n := by omega
        have h16' : L.length ≤ 16 := by omega
        have Hg : Hid (∀ j, j < L.length → GoodAt L j) := fun j hj => hgd j (by omega)
        have HBv := Lib.hid hBv
        have H16 := Lib.hid h16'
        clear hK hIi hgd hsn hBv hil hLn h16'
        go_wp2_with (first | (go_at_call 42; refine (CO.out _ HBv.out).mono ?_; rintro e w7 ⟨⟨r1, r2⟩, rfl, hr, hb7⟩; have HRr := Lib.hid hr; have HB7 := Lib.hid hb7; clear hr hb7))
        go_ret
        exact ⟨decide (r1 < 0), rfl, valid_end H16.out Hg.out HRr.out, kc HBv.out HB7.out⟩

end Go.Proofs.YtfdhgimpdmhdeaaGreatDoor
