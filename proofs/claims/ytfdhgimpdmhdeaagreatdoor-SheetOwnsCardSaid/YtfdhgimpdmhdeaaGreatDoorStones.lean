/- Stones: as values, in boxes, in rows; what package sheet asks of one, and of two. -/
import Derived.Test.YtfdhgimpdmhdeaaGreatDoorContacts
namespace Go.Proofs.YtfdhgimpdmhdeaaGreatDoor
open Go Go.RowKit

/-- A stone. -/
structure St where
  t : Int
  n : Int
  x : Int
  y : Int
abbrev St.val (s : St) : Value := .agg #[.int .i64 s.t, .int .i64 s.n, .int .i64 s.x, .int .i64 s.y]
/-- A stone in a box. -/
def StAt (W : World) (b o : Nat) (s : St) : Prop :=
  (W.cell? ⟨b, o, none⟩ = some (.int .i64 s.t) ∧ W.cell? ⟨b, o + 1, none⟩ = some (.int .i64 s.n)) ∧ W.cell? ⟨b, o + 2, none⟩ = some (.int .i64 s.x) ∧ W.cell? ⟨b, o + 3, none⟩ = some (.int .i64 s.y)
theorem St.later {W W' : World} {b o : Nat} {s : St} (hb : Below W.heap.size W W') (h : StAt W b o s) : StAt W' b o s := ⟨⟨cell_later hb h.1.1, cell_later hb h.1.2⟩, cell_later hb h.2.1, cell_later hb h.2.2⟩
/-- Stones in a row. -/
def StRow (W : World) (v : Value) (L : List St) : Prop :=
  ∃ p cap, v = .slice p L.length cap ∧ L.length ≤ cap ∧ ∀ j (h : j < L.length), ∃ g o, p = some ⟨g, o, none⟩ ∧ StAt W g (o + j * 4) L[j]
theorem StRow.later {W W' : World} {v : Value} {L : List St} (hb : Below W.heap.size W W') (h : StRow W v L) : StRow W' v L := by
  obtain ⟨p, cap, rfl, hc, h⟩ := h
  exact ⟨p, cap, rfl, hc, fun j hj => by obtain ⟨g, o, hp, hs⟩ := h j hj; exact ⟨g, o, hp, St.later hb hs⟩⟩

/-- Is there a stone with this team and number? -/
def namedS (s : St) : Bool := (decide (s.t = 0) || decide (s.t = 1)) && decide (0 ≤ s.n) && decide (s.n < 8)

set_option maxRecDepth 100000 in
set_option maxHeartbeats 1000000 in
theorem isNamed_any (t n x y : Int) (w : World) :
    Calls Tryz.prog 39 #[(St.mk t n x y).val] w fun e w' => e = .returned (.bool (namedS ⟨t, n, x, y⟩)) ∧ Below w.heap.size w w' := by
  have HN : Hid (namedS ⟨t, n, x, y⟩ = ((decide (t = 0) || decide (t = 1)) && decide (0 ≤ n) && decide (n < 8))) := rfl
  by_cases h1 : t = 0
  · by_cases h2 : 0 ≤ n
    all_goals
      subst h1
      go_enter Tryz.func39, Tryz.ntmps39
      go_wp2_with fail
      go_ret
      exact ⟨by rw [HN.out]; first | (simp [h2]; done) | (simp; omega), by repeat' (first | exact Below.refl _ _ | (refine ka ?_ _))⟩
  · have b0 : (t == 0) = false := beq_eq_false_iff_ne.2 h1
    by_cases h3 : t = 1
    · by_cases h2 : 0 ≤ n
      all_goals
        subst h3
        go_enter Tryz.func39, Tryz.ntmps39
        go_wp2_with fail
        go_ret
        exact ⟨by rw [HN.out]; first | (simp [h2]; done) | (simp; omega), by repeat' (first | exact Below.refl _ _ | (refine ka ?_ _))⟩
    · have b1 : (t == 1) = false := beq_eq_false_iff_ne.2 h3
      go_enter Tryz.func39, Tryz.ntmps39
      go_wp2_with fail
      go_ret
      exact ⟨by rw [HN.out]; first | (simp [h1, h3]; done) | rfl, by repeat' (first | exact Below.refl _ _ | (refine ka ?_ _))⟩

set_option maxRecDepth 100000 in
set_option maxHeartbeats 1000000 in
theorem nameOf_any (t n x y : Int) (w : World) :
    Calls Tryz.prog 40 #[(St.mk t n x y).val] w fun e w' => e = .returned (.agg #[.int .i64 t, .int .i64 n]) ∧ Below w.heap.size w w' := by
  go_enter Tryz.func40, Tryz.ntmps40
  go_wp2_with fail
  exact bodyPost_ret (v := .agg #[.int .i64 t, .int .i64 n]) (by simp [results, Tryz.results40, go_sem]) rfl
    ⟨rfl, by repeat' (first | exact Below.refl _ _ | (refine ka ?_ _))⟩

set_option maxRecDepth 100000 in
set_option maxHeartbeats 1000000 in
theorem isInPlay_any (x y : Int) (w : World) :
    Calls Tryz.prog 41 #[.agg #[.int .i64 x, .int .i64 y]] w fun e w' => e = .returned (.bool (decide (Plc x y ∧ ¬ OutP x y))) ∧ Below w.heap.size w w' := by
  have CK := Lib.hid (fun w => checkSpot_any x y w)
  by_cases hp : Plc x y
  · have CO := Lib.hid (fun w => isOut_any x y w hp)
    have HP : Hid (decide (Plc x y) = true) := decide_eq_true hp
    rw [HP.out] at CK
    by_cases ho : OutP x y
    · have HO : Hid (decide (OutP x y) = true) := decide_eq_true ho
      have HR : Hid (decide (Plc x y ∧ ¬ OutP x y) = false) := decide_eq_false (fun h => h.2 ho)
      rw [HO.out] at CO
      rw [HR.out]
      clear ho hp
      go_enter Tryz.func41, Tryz.ntmps41
      go_wp2_with (first | (go_at_call 33; refine (CK.out _).mono ?_; rintro e w1 ⟨rfl, hb1⟩; obtain ⟨ax1, ay1⟩ := spot_later hb1 (spot_new w x y); have ag1 := World.block_lt_of_cell? _ _ ax1; have HB1 := Lib.hid hb1; clear hb1) | (go_at_call 34; refine (CO.out _).mono ?_; rintro e w2 ⟨rfl, hb2⟩; have HB2 := Lib.hid hb2; clear hb2))
      go_ret
      have q1 := HB1.out
      have q2 := HB2.out
      exact ⟨rfl, by repeat' (first | assumption | exact Below.refl _ _ | (with_reducible refine Below.drew ?_) | (with_reducible refine ka ?_ _) | (refine kc ?_ (by assumption)))⟩
    · have HO : Hid (decide (OutP x y) = false) := decide_eq_false ho
      have HR : Hid (decide (Plc x y ∧ ¬ OutP x y) = true) := decide_eq_true ⟨hp, ho⟩
      rw [HO.out] at CO
      rw [HR.out]
      clear ho hp
      go_enter Tryz.func41, Tryz.ntmps41
      go_wp2_with (first | (go_at_call 33; refine (CK.out _).mono ?_; rintro e w1 ⟨rfl, hb1⟩; obtain ⟨ax1, ay1⟩ := spot_later hb1 (spot_new w x y); have ag1 := World.block_lt_of_cell? _ _ ax1; have HB1 := Lib.hid hb1; clear hb1) | (go_at_call 34; refine (CO.out _).mono ?_; rintro e w2 ⟨rfl, hb2⟩; have HB2 := Lib.hid hb2; clear hb2))
      go_ret
      have q1 := HB1.out
      have q2 := HB2.out
      exact ⟨rfl, by repeat' (first | assumption | exact Below.refl _ _ | (with_reducible refine Below.drew ?_) | (with_reducible refine ka ?_ _) | (refine kc ?_ (by assumption)))⟩
  · have HP : Hid (decide (Plc x y) = false) := decide_eq_false hp
    have HR : Hid (decide (Plc x y ∧ ¬ OutP x y) = false) := decide_eq_false (fun h => hp h.1)
    rw [HP.out] at CK
    rw [HR.out]
    clear hp
    go_enter Tryz.func41, Tryz.ntmps41
    go_wp2_with (first | (go_at_call 33; refine (CK.out _).mono ?_; rintro e w1 ⟨rfl, hb1⟩; have HB1 := Lib.hid hb1; clear hb1))
    go_ret
    have q1 := HB1.out
    exact ⟨rfl, by repeat' (first | assumption | exact Below.refl _ _ | (with_reducible refine Below.drew ?_) | (with_reducible refine ka ?_ _) | (refine kc ?_ (by assumption)))⟩

/-- A stone of a row. -/
def el (L : List St) (i : Nat) : St := L.getD i ⟨0, 0, 0, 0⟩
theorem el_get {L : List St} {i : Nat} (h : i < L.length) : el L i = L[i] := by unfold el; rw [List.getD_eq_getElem?_getD, List.getElem?_eq_getElem h]; rfl
/-- No two stones ahead of a pair hold together. -/
def NoPair (F : St → St → Bool) (L : List St) (i k : Nat) : Prop := ∀ a b, a < b → b < L.length → (a < i ∨ (a = i ∧ b < k)) → F (el L a) (el L b) = false
/-- The first stones that hold together. -/
def PairAt (F : St → St → Bool) (L : List St) (r : Int × Int) : Prop :=
  (∃ i k : Nat, (i < k ∧ k < L.length) ∧ F (el L i) (el L k) = true ∧ NoPair F L i k ∧ r = ((i : Int), (k : Int))) ∨ (NoPair F L L.length 0 ∧ r = (-1, -1))
theorem pairAt_uniq {F : St → St → Bool} {L : List St} {r r' : Int × Int} (h : PairAt F L r) (h' : PairAt F L r') : r = r' := by
  rcases h with ⟨i, k, ⟨h1, h2⟩, h3, h4, rfl⟩ | ⟨h4, rfl⟩ <;> rcases h' with ⟨i', k', ⟨g1, g2⟩, g3, g4, rfl⟩ | ⟨g4, rfl⟩
  · have a1 : ¬ (i < i' ∨ (i = i' ∧ k < k')) := fun h => by have := g4 i k h1 h2 h; rw [h3] at this; cases this
    have a2 : ¬ (i' < i ∨ (i' = i ∧ k' < k)) := fun h => by have := h4 i' k' g1 g2 h; rw [g3] at this; cases this
    have e1 : i = i' := by omega
    have e2 : k = k' := by omega
    rw [e1, e2]
  · have := g4 i k h1 h2 (.inl (by omega)); rw [h3] at this; cases this
  · have := h4 i' k' g1 g2 (.inl (by omega)); rw [g3] at this; cases this
  · rfl
theorem noPair_zero (F : St → St → Bool) (L : List St) : NoPair F L 0 0 := fun a b _ _ h => by omega
theorem noPair_more {F : St → St → Bool} {L : List St} {i k : Nat} (h : NoPair F L i k) (hf : F (el L i) (el L k) = false) : NoPair F L i (k + 1) := fun a b h1 h2 h3 => by
  by_cases e : a = i ∧ b = k
  · rw [e.1, e.2]; exact hf
  · exact h a b h1 h2 (by omega)
theorem noPair_row {F : St → St → Bool} {L : List St} {i k : Nat} (h : NoPair F L i k) (hk : L.length ≤ k) : NoPair F L (i + 1) 0 := fun a b h1 h2 h3 => h a b h1 h2 (by omega)
theorem noPair_start {F : St → St → Bool} {L : List St} {i : Nat} (h : NoPair F L i 0) : NoPair F L i (i + 1) := fun a b h1 h2 h3 => h a b h1 h2 (by omega)

/-- A stone in a new box. -/
theorem stAt_new (W : World) (s : St) : StAt (W.alloc (.cells #[.int .i64 s.t, .int .i64 s.n, .int .i64 s.x, .int .i64 s.y] 39)) W.heap.size 0 s :=
  ⟨⟨by simp [go_sem], by simp [go_sem]⟩, by simp [go_sem], by simp [go_sem]⟩

set_option maxRecDepth 100000 in
set_option maxHeartbeats 2000000 in
theorem firstPair_in (K : Nat) (L : List St) (N : Int) (n c g o : Nat) (w : World) (F : St → St → Bool) (hN : (n : Int) = N) (hn : N ≤ 1000000) (hc : n ≤ c) (hcf : ∀ args w, (callFunc K args).run Tryz.prog w = .ok (.enter K args) w) (HL : Hid (L.length = n)) (HR : Hid (∀ j (h : j < L.length), StAt w g (o + j * 4) L[j]))
    (CH : Hid (∀ a b w, Calls Tryz.prog K #[St.val a, St.val b] w fun e w' => e = .returned (.bool (F a b)) ∧ Below w.heap.size w w')) :
    Calls Tryz.prog 58 #[.slice (some ⟨g, o, none⟩) n c, .func (.func K) #[] #[]] w fun e w' => ∃ r : Int × Int, e = .returned (.tuple #[.int .i64 r.1, .int .i64 r.2]) ∧ PairAt F L r ∧ Below w.heap.size w w' := by
  have hN0 : 0 ≤ N := by omega
  go_enter Tryz.func58, Tryz.ntmps58
  go_wp2_with fail
  go_loopw [12] (fun iv wr => ∃ (i : Nat) (I : Int), iv = .int .i64 I ∧ 0 ≤ I ∧ I ≤ N ∧ Hid ((I = (i : Int)) ∧ NoPair F L i 0 ∧ Below w.heap.size w wr)) (fun iv _ => (N - intOf iv).toNat)
  case atStart => exact ⟨0, 0, rfl, by omega, by omega, ⟨rfl, noPair_zero F L, Below.refl _ _⟩⟩
  case round =>
    obtain ⟨i, I, rfl, hI0, hI1, hK⟩ := hrel
    obtain ⟨hIi, hno, hBv⟩ := hK.out
    have hLn := HL.out
    by_cases hI : I < N
    · have hil : i < L.length := by omega
      obtain ⟨s, hs⟩ : ∃ s, L[i] = s := ⟨_, rfl⟩
      have hst := St.later hBv (HR.out i hil)
      rw [hs] at hst
      obtain ⟨⟨t0, t1⟩, t2, t3⟩ := hst
      have HIi := Lib.hid hIi
      have HNo := Lib.hid hno
      have HBv := Lib.hid hBv
      have Hs : Hid (el L i = s) := by show _ = _; rw [el_get hil, hs]
      have hIn : I.toNat = i := by omega
      have hIn1 : (I + 1).toNat = i + 1 := by omega
      obtain ⟨m, hm⟩ : ∃ m, n - (i + 1) = m := ⟨_, rfl⟩
      obtain ⟨M, hM⟩ : ∃ M : Int, (m : Int) = M := ⟨_, rfl⟩
      have HM : Hid (n = i + 1 + m ∧ (m : Int) = M ∧ L.length = n) := ⟨by omega, hM, hLn⟩
      have hMb : 0 ≤ M ∧ M ≤ 1000000 := by omega
      have HNI : Hid (N = I + 1 + M) := by show _ = _; omega
      have HN1 := Lib.hid stAt_new
      obtain ⟨B, hB⟩ : ∃ B, wr.heap.size = B := ⟨_, rfl⟩
      have HB0 : Hid (StAt (wr.alloc (.cells #[.int .i64 s.t, .int .i64 s.n, .int .i64 s.x, .int .i64 s.y] 39)) B 0 s ∧ Below w.heap.size w (wr.alloc (.cells #[.int .i64 s.t, .int .i64 s.n, .int .i64 s.x, .int .i64 s.y] 39))) := by
        show _ ∧ _
        rw [← hB]
        exact ⟨stAt_new wr s, ka hBv _⟩
      clear hK hIi hno hBv hs hil hLn HN1
      go_wp2_with fail
      all_goals
        go_loopw [22] (fun jv wz => ∃ (j : Nat) (J : Int), jv = .int .i64 J ∧ 0 ≤ J ∧ J ≤ M ∧ Hid ((J = (j : Int)) ∧ NoPair F L i (i + 1 + j) ∧ StAt wz B 0 s ∧ Below w.heap.size w wz)) (fun jv _ => (M - intOf jv).toNat)
        case atStart => exact ⟨0, 0, rfl, by omega, by omega, ⟨rfl, noPair_start HNo.out, HB0.out.1, HB0.out.2⟩⟩
        case round =>
          obtain ⟨j, J, rfl, hJ0, hJ1, hK⟩ := hrel
          obtain ⟨hJj, hno, hsa, hBz⟩ := hK.out
          have HJj := Lib.hid hJj
          have HNz := Lib.hid hno
          have HSa := Lib.hid hsa
          have HBz := Lib.hid hBz
          clear t0 t1 t2 t3 HB0
          by_cases hJ : J < M
          · have hM' := HM.out
            by_cases hc1 : c = i + 1
            · exfalso
              omega
            · have hjl : i + 1 + j < L.length := by omega
              obtain ⟨b, hb⟩ : ∃ b, L[i + 1 + j] = b := ⟨_, rfl⟩
              have hst := St.later hBz (HR.out (i + 1 + j) hjl)
              rw [hb, show o + (i + 1 + j) * 4 = o + (i + 1) * 4 + j * 4 by omega] at hst
              obtain ⟨⟨t0, t1⟩, t2, t3⟩ := hst
              obtain ⟨⟨a0, a1⟩, a2, a3⟩ := hsa
              have ag := World.block_lt_of_cell? _ _ a0
              have hJn : J.toNat = j := by omega
              have Hb : Hid (el L (i + 1 + j) = b) := by show _ = _; rw [el_get hjl, hb]
              clear hK hJj hno hBz hM' hjl hb
              cases hF : F s b
              · have HF : Hid (F (el L i) (el L (i + 1 + j)) = false) := by show _ = _; rw [Hs.out, Hb.out]; exact hF
                have CF := Lib.hid (fun w => CH.out s b w)
                rw [hF] at CF
                clear hF
                go_wp2_with ((with_reducible refine (CF.out _).mono ?_); rintro e w1 ⟨rfl, hb1⟩; have HSb := Lib.hid (St.later hb1 (St.later (ka (Below.refl _ _) _) HSa.out)); have HB1 := Lib.hid hb1; clear hb1)
                all_goals
                  go_roundw
                  case rel => exact ⟨j + 1, J + 1, by go_num, by omega, by omega, ⟨by have := HJj.out; omega, noPair_more HNz.out HF.out, HSb.out, kc (ka HBz.out _) HB1.out⟩⟩
                  case measure => simp [intOf]; omega
              · have HF : Hid (F (el L i) (el L (i + 1 + j)) = true) := by show _ = _; rw [Hs.out, Hb.out]; exact hF
                have CF := Lib.hid (fun w => CH.out s b w)
                rw [hF] at CF
                clear hF
                go_wp2_with ((with_reducible refine (CF.out _).mono ?_); rintro e w1 ⟨rfl, hb1⟩; have HB1 := Lib.hid hb1; clear hb1)
                all_goals
                  go_ret2
                  exact ⟨(I, I + 1 + J), rfl, .inl ⟨i, i + 1 + j, ⟨by omega, by have := HM.out; have := HJj.out; omega⟩, HF.out, HNz.out, by have h1 := HIi.out; have h2 := HJj.out; rw [Prod.mk.injEq]; omega⟩, kc (ka HBz.out _) HB1.out⟩
          · have hM' := HM.out
            have HE := Lib.hid (noPair_row (i := i) hno (by omega))
            clear hK hJj hno hsa hBz hM'
            go_wp2_with fail
            go_roundw
            case rel =>
              have HX : ∃ (i' : Nat) (I' : Int), Value.int .i64 (I + 1) = .int .i64 I' ∧ 0 ≤ I' ∧ I' ≤ N ∧ Hid ((I' = (i' : Int)) ∧ NoPair F L i' 0 ∧ Below w.heap.size w wr) := ⟨i + 1, I + 1, rfl, by omega, by omega, ⟨by have := HIi.out; omega, HE.out, HBz.out⟩⟩
              first
              | exact HX
              | exact ⟨_, _, _, _, _, _, _, HX, rfl, rfl, rfl, rfl, rfl, rfl, rfl⟩
            case measure => simp [intOf]; omega
    · have hil : i = n := by omega
      have HE : Hid (NoPair F L L.length 0) := by rw [hLn, ← hil]; exact hno
      have HBv := Lib.hid hBv
      clear hK hIi hno hBv hil hLn
      go_wp2_with fail
      go_ret2
      exact ⟨-1, -1, rfl, .inr ⟨HE.out, rfl⟩, HBv.out⟩

end Go.Proofs.YtfdhgimpdmhdeaaGreatDoor
