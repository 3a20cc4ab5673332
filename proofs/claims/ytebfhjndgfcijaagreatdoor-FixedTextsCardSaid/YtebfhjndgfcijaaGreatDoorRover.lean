/- The document's own answers: over, the long division. -/
import Derived.Test.YtebfhjndgfcijaaGreatDoorTimes
import Derived.Deep.Cut
namespace Go.Proofs.YtebfhjndgfcijaaGreatDoor
open Go Go.RowKit

theorem refTimes (a b : Nat) (va vb : Value) (w : World) (ha : Holds w va a) (hb : Holds w vb b) (hla : (parts a).length ≤ 400) (hlb : (parts b).length ≤ 400) :
    Calls Tryz.prog 49 #[va, vb] w fun e w' => ∃ v, e = .returned v ∧ Holds w' v (a * b) ∧ Below w.heap.size w w' := by
  have h := refTimes_big (parts a) (parts b) va vb (parts_fine a) (parts_fine b) w ha hb hla hlb
  rw [pv_parts, pv_parts] at h
  exact h
theorem refPlus (a b : Nat) (va vb : Value) (w : World) (ha : Holds w va a) (hb : Holds w vb b) (hla : (parts a).length ≤ 1000) (hlb : (parts b).length ≤ 1000) :
    Calls Tryz.prog 48 #[va, vb] w fun e w' => ∃ v, e = .returned v ∧ Holds w' v (a + b) ∧ Below w.heap.size w w' := by
  have h := refPlus_big (parts a) (parts b) va vb (parts_fine a) (parts_fine b) (parts_last a) (parts_last b) w ha hb hla hlb
  rw [pv_parts, pv_parts] at h
  exact h
theorem parts_len_le {a b : Nat} (h : b ≤ a) : (parts b).length ≤ (parts a).length := by
  rcases Nat.lt_or_ge (parts a).length (parts b).length with h1 | h1
  · have := parts_len_lt h1
    omega
  · exact h1
theorem refMinus (a b : Nat) (va vb : Value) (w : World) (hle : b ≤ a) (ha : Holds w va a) (hb : Holds w vb b) (hla : (parts a).length ≤ 1000) :
    Calls Tryz.prog 125 #[va, vb] w fun e w' => ∃ v, e = .returned v ∧ Holds w' v (a - b) ∧ Below w.heap.size w w' := by
  have hl := parts_len_le hle
  have h := refMinus_big (parts a) (parts b) va vb (parts_fine a) (parts_fine b) (by rw [pv_parts, pv_parts]; exact hle) hl w ha hb hla (by omega)
  rw [pv_parts, pv_parts] at h
  exact h

theorem parts_mul_len (a b : Nat) : (parts (a * b)).length ≤ (parts a).length + (parts b).length := by
  apply parts_length
  have h1 := pv_lt (parts_fine a)
  have h2 := pv_lt (parts_fine b)
  rw [pv_parts] at h1 h2
  rw [Nat.pow_add]
  exact Nat.lt_of_le_of_lt (Nat.mul_le_mul_left a (Nat.le_of_lt h2)) (Nat.mul_lt_mul_of_pos_right h1 (Nat.pow_pos (by decide)))

theorem Row.later {W W' : World} {g : Nat} {l : List Nat} (h : Row W g l) (hb : Below W.heap.size W W') : Row W' g l := fun j hj =>
  ⟨(hb.cell (p := ⟨g, j, none⟩) (World.block_lt_of_cell? _ _ (h j hj).1)).trans (h j hj).1, (hb.frozen (p := ⟨g, j, none⟩) (World.block_lt_of_cell? _ _ (h j hj).1)).trans (h j hj).2⟩

/-- How far a division has been carried out: the parts of a from k on are done; r is the rest. -/
structure Divided (a : List Nat) (D : Nat) (q : List Nat) (k r : Nat) : Prop where
  len : q.length = a.length
  fine : Fine q
  low : ∀ j, j < k → at' q j = 0
  quo : pv (q.drop k) = pv (a.drop k) / D
  rest : r = pv (a.drop k) % D

theorem Divided.start (a : List Nat) (D : Nat) : Divided a D (List.replicate a.length 0) a.length 0 := by
  have e : pv (a.drop a.length) = 0 := pv_drop_end (Nat.le_refl _)
  refine ⟨List.length_replicate .., (fun x hx => by rw [(List.mem_replicate.1 hx).2]; decide), (fun j _ => at_zeros _ j), ?_, ?_⟩
  · rw [e, Nat.zero_div]
    exact pv_drop_end (by rw [List.length_replicate]; exact Nat.le_refl _)
  · rw [e, Nat.zero_mod]

theorem Divided.step {a q : List Nat} {D k r p : Nat} (h : Divided a D q (k + 1) r) (hk : k < a.length) (hD : 0 < D) (h1 : D * p ≤ at' a k + 32768 * r) (h2 : at' a k + 32768 * r < D * (p + 1)) (hp : p < 32768) :
    Divided a D (q.set k p) k (at' a k + 32768 * r - D * p) := by
  obtain ⟨g1, g2, g3, g4, g5⟩ := h
  obtain ⟨A, hA⟩ : ∃ A, pv (a.drop (k + 1)) = A := ⟨_, rfl⟩
  rw [hA] at g4 g5
  have hm := Nat.div_add_mod A D
  rw [← g5] at hm
  have hs : pv (a.drop k) = D * (32768 * (A / D) + p) + (at' a k + 32768 * r - D * p) := by
    rw [pv_step a k, hA]
    have e : D * (32768 * (A / D) + p) = 32768 * (D * (A / D)) + D * p := by rw [Nat.mul_add, Nat.mul_left_comm]
    rw [e]
    omega
  have hlt : at' a k + 32768 * r - D * p < D := by rw [Nat.mul_add] at h2; omega
  refine ⟨by rw [List.length_set]; exact g1, fine_set g2 hp, ?_, ?_, ?_⟩
  · intro j hj
    rw [at_set_other _ (by omega)]
    exact g3 j (by omega)
  · rw [pv_step (q.set k p) k, at_set_same _ (by omega), List.drop_set_of_lt (by omega), g4, hs, Nat.mul_add_div hD, Nat.div_eq_of_lt hlt]
    omega
  · rw [hs, Nat.mul_add_mod, Nat.mod_eq_of_lt hlt]

theorem Divided.done {a q : List Nat} {D r : Nat} (h : Divided a D q 0 r) : pv q = pv a / D ∧ r = pv a % D := ⟨h.quo, h.rest⟩

/-- The search for a part of the quotient. -/
theorem search_step {D R p e : Nat} (he : 0 < e) (h1 : D * p ≤ R) (h2 : R < D * (p + 2 ^ e)) (h3 : p + 2 ^ e ≤ 32768) :
    2 ^ e / 2 = 2 ^ (e - 1) ∧ (D * (p + 2 ^ e / 2) ≤ R → D * (p + 2 ^ e / 2) ≤ R ∧ R < D * (p + 2 ^ e / 2 + 2 ^ (e - 1)) ∧ p + 2 ^ e / 2 + 2 ^ (e - 1) ≤ 32768) ∧
    (¬ D * (p + 2 ^ e / 2) ≤ R → R < D * (p + 2 ^ (e - 1)) ∧ p + 2 ^ (e - 1) ≤ 32768) := by
  obtain ⟨f, rfl⟩ : ∃ f, e = f + 1 := ⟨e - 1, by omega⟩
  have hh : 2 ^ (f + 1) / 2 = 2 ^ f := by rw [Nat.pow_succ]; exact Nat.mul_div_cancel _ (by decide)
  rw [hh, Nat.add_sub_cancel]
  rw [Nat.pow_succ] at h2 h3
  refine ⟨rfl, fun h => ⟨h, ?_, by omega⟩, fun h => ⟨by omega, by omega⟩⟩
  rw [Nat.add_assoc, ← Nat.mul_two]
  exact h2

theorem app_nil (w : World) (ty : TypeId) (g : Addr) (p : Option Addr) (c : Nat) :
    (Builtin.append_ #[80, 80] ty #[.slice (some g) 1 1, .slice p 0 c]).run Tryz.prog w = .ok (.slice (some g) 1 1) w := by
  obtain ⟨i0, hi, hz0, hz1, hz2⟩ := info_parts infoInt
  cases p <;> simp [Builtin.append_, run_underlying Tryz.underlying80, sizeOf, typeInfo, hi, Builtin.lenOf, Builtin.firstCells, loadCells, loadCellsFrom, storeCells]

/-- Nothing is appended. -/
theorem wpList_app_nil (w : World) {ops : Array Oper} {rest : List Oper} {o : Oper} {a : Act} {Q : Exit → Act → World → Prop} (hgd : o.guard = none) (s x : Operand)
    (ho : o.op = .call { callee := .builtin .append, args := #[s, x], argTypes := #[80, 80] }) (g : Addr) (p : Option Addr) (c : Nat) (hs : a.eval s = .slice (some g) 1 1) (hx : a.eval x = .slice p 0 c)
    (h : wpList Tryz.prog ops Q rest (a.put o.dst (.slice (some g) 1 1)) w) : wpList Tryz.prog ops Q (o :: rest) a w :=
  wpList_plain hgd fun _ hK => by
    unfold Oper.wp execOp
    simp only [ho, resolve, invoke, builtin, Sem.run_bind, Sem.run_pure, Result.andThen_ok, List.map_toArray, List.map_cons, List.map_nil, hs, hx, app_nil]
    exact hK _ _ h

theorem big_of_rowp {W : World} {base : Nat} {v : Value} {l : List Nat} (h : W.ownsRow base 3 1 v l.length (cellsN l)) : ∃ p, BigP W p v l ∧ ∀ g, p = some ⟨g, 0, none⟩ → base ≤ g := by
  obtain ⟨p, hp⟩ := big_of_row h
  refine ⟨p, hp, fun g hg => ?_⟩
  obtain ⟨cap, rfl, _⟩ := hp
  subst hg
  exact (h.lt g rfl).1

theorem kcb {w W W' : World} (h : Below w.heap.size w W) (h' : Below W.heap.size W W') : Below w.heap.size w W' := h.trans (h'.mono h.size)

theorem ord_neg {a b : Nat} (h : a < b) : ordS a b = -1 := by unfold ordS; rw [if_pos h]
theorem ord_nonneg {a b : Nat} (h : ¬ a < b) : 0 ≤ ordS a b := by unfold ordS; rw [if_neg h]; split <;> decide
theorem ord_le {a b : Nat} (h : a ≤ b) : ordS a b ≤ 0 := by
  unfold ordS
  split
  · decide
  · rw [if_neg (by omega)]; decide
theorem ord_gt {a b : Nat} (h : ¬ a ≤ b) : ordS a b = 1 := by
  unfold ordS
  rw [if_neg (by omega), if_pos (by omega)]
theorem ord_int (a b : Nat) : -1 ≤ ordS a b ∧ ordS a b ≤ 1 := by
  unfold ordS
  split
  · decide
  · split <;> decide

set_option maxRecDepth 100000 in
set_option maxHeartbeats 2000000 in
theorem refOver (n D : Nat) (va vb : Value) (w : World) (ha : Holds w va n) (hb : Holds w vb D) (hD : 0 < D) (hla : (parts n).length ≤ 100) (hlb : (parts D).length ≤ 100) :
    Calls Tryz.prog 120 #[va, vb] w fun e w' => ∃ v v', e = .returned (.tuple #[v, v']) ∧ Holds w' v (n / D) ∧ Holds w' v' (n % D) ∧ Below w.heap.size w w' := by
  obtain ⟨i0, hi, hz0, hz1, hz2⟩ := info_parts infoInt
  obtain ⟨p, ca, rfl, _, ha⟩ := ha
  obtain ⟨a, hav⟩ : ∃ a, parts n = a := ⟨_, rfl⟩
  have HFa : Hid (Fine a) := by rw [← hav]; exact parts_fine n
  have HPa : Hid (pv a = n) := by rw [← hav]; exact pv_parts n
  rw [hav] at ha hla ⊢
  obtain ⟨m, hm⟩ : ∃ m, a.length = m := ⟨_, rfl⟩
  have HA : Hid (∀ j, j < m → ∃ g, p = some ⟨g, 0, none⟩ ∧ w.cell? ⟨g, j, none⟩ = some (.int .i64 (at' a j : Int))) := by rw [← hm]; exact ha
  have HM : Hid (a.length = m) := hm
  rw [hm] at hla ⊢
  have HVb := Lib.hid hb
  have HD := Lib.hid hD
  have HLb := Lib.hid hlb
  obtain ⟨H, hH⟩ : ∃ H, w.heap.size = H := ⟨_, rfl⟩
  clear ha hm hav hb hD hlb
  go_enter Tryz.func120, Tryz.ntmps120
  go_wp2_with (at_make; refine wpList_make_full _ rfl _ _ 80 rfl H 3 i0 (.int .i64 0) 1 Tryz.underlying80 hi hz0 hz1 .i64 .i64 _ _ m rfl rfl rfl rfl (by rw [hz2]; omega) (by simp only [maxLen]; omega) (by omega) ?_; intro w1 hown hgrow)
  rw [hH] at hown
  have hrow0 := row_made hown
  have hB1 : Below w.heap.size w w1 := (Below.refl _ w).grown hgrow (by omega) (fun j hj => by cases hj)
  obtain ⟨I0, hI0⟩ : ∃ I0 : Int, (m : Int) - 1 = I0 := ⟨_, rfl⟩
  have hS : Hid (m ≤ m ∧ Divided a D (List.replicate m 0) m 0 ∧ Row w1 H (List.replicate m 0) ∧ Holds w1 (.slice none 0 0) 0 ∧ Below w.heap.size w w1) :=
    ⟨Nat.le_refl _, by rw [← HM.out]; exact Divided.start a D, hrow0, ⟨none, 0, by rw [parts_zero]; rfl, by rw [parts_zero]; exact Nat.le_refl _, fun j hj => by rw [parts_zero] at hj; cases hj⟩, hB1⟩
  have hIb : -1 ≤ I0 ∧ I0 ≤ 1000 := by omega
  have HI0 := Lib.hid hI0
  clear hown hgrow hrow0 hB1
  go_wp2_with fail
  go_loopw [7, 8] (fun rv i wr => ∃ (k r : Nat) (I : Int) (q : List Nat), i = .int .i64 I ∧ -1 ≤ I ∧ I ≤ 1000 ∧ Hid ((k ≤ m ∧ I = (k : Int) - 1) ∧ Divided a D q k r ∧ Row wr H q ∧ Holds wr rv r ∧ Below w.heap.size w wr)) (fun _ i _ => (intOf i + 1).toNat)
  case atStart => exact ⟨m, 0, I0, _, by go_num, hIb.1, hIb.2, ⟨⟨Nat.le_refl _, HI0.out.symm⟩, hS.out.2.1, hS.out.2.2.1, hS.out.2.2.2.1, hS.out.2.2.2.2⟩⟩
  case round =>
    obtain ⟨k, r, I, q, rfl, hJ1, hJ2, hI⟩ := hrel
    clear hS HI0 hI0 hIb
    by_cases hz : 0 ≤ I
    · obtain ⟨j, hj⟩ : ∃ j, k = j + 1 := ⟨k - 1, by have := hI.out; omega⟩
      subst hj
      have hIj : I = (j : Int) := by have := hI.out; omega
      subst hIj
      obtain ⟨⟨hk1, -⟩, hdv, hro, hrv, hB⟩ := hI.out
      have hjm : j < m := by omega
      have hjm' : (j : Int) < (m : Int) := by omega
      obtain ⟨g, rfl, hx0⟩ := HA.out j hjm
      obtain ⟨X, eX⟩ : ∃ X : Int, (at' a j : Int) = X := ⟨_, rfl⟩
      rw [eX] at hx0
      have hx := (hB.cell (p := ⟨g, j, none⟩) (World.block_lt_of_cell? _ _ hx0)).trans hx0
      have hle : H ≤ wr.heap.size := by have := hB.size; omega
      have hHlt : H < wr.heap.size := by have h0 := (hro j (by have h1 := hdv.len; have h2 := HM.out; omega)).1; exact World.block_lt_of_cell? _ _ h0
      have hrD : r < D := by rw [hdv.rest]; exact Nat.mod_lt _ HD.out
      have hlr : (parts r).length ≤ 100 := Nat.le_trans (parts_len_le (Nat.le_of_lt hrD)) HLb.out
      obtain ⟨R, hR⟩ : ∃ R, at' a j + 32768 * r = R := ⟨_, rfl⟩
      have hRD : R < D * 32768 := by have := at_lt HFa.out j; rw [← hR]; omega
      have hlR : (parts R).length ≤ 101 := by
        rw [← hR]
        exact parts_length 101 _ (by
          have h1 := pv_lt (parts_fine r)
          rw [pv_parts] at h1
          have h2 : 32768 ^ (parts r).length ≤ 32768 ^ 100 := Nat.pow_le_pow_right (by decide) hlr
          have h3 : (32768 : Nat) ^ 101 = 32768 ^ 100 * 32768 := Nat.pow_succ ..
          have h4 := at_lt HFa.out j
          rw [h3]
          omega)
      have HDv := Lib.hid hdv
      have HRo := Lib.hid hro
      have HR := Lib.hid hR
      have HRD := Lib.hid hRD
      have HlR := Lib.hid hlR
      have HeX := Lib.hid eX
      have HB0 := Lib.hid hB
      have bX : 0 ≤ X ∧ X < 32768 := by have := at_lt HFa.out j; omega
      obtain ⟨pr, cr, rfl, hcr, hrc⟩ := hrv
      clear hI hdv hro hR hRD hlR eX hx0
      by_cases hr0 : r = 0
      · have e0 : (parts r).length = 0 := by rw [hr0, parts_zero]; rfl
        rw [e0]
        have hbg : BigP (wr.alloc (.cells #[.int .i64 X] 3)) (some ⟨wr.heap.size, 0, none⟩) (.slice (some ⟨wr.heap.size, 0, none⟩) 1 1) [at' a j] := by
          refine ⟨1, rfl, Nat.le_refl _, fun i hi => ?_⟩
          obtain rfl : i = 0 := by simp at hi; exact hi
          exact ⟨wr.heap.size, rfl, by rw [show (at' [at' a j] 0 : Nat) = at' a j from rfl, HeX.out]; simp [go_sem]⟩
        have CT := Lib.hid (trim_p [at' a j] _ (some ⟨wr.heap.size, 0, none⟩) (fun y hy => by rw [List.mem_singleton.1 hy]; exact at_lt HFa.out j) _ hbg (show 1 ≤ 1000 by decide))
        have hBt : Below wr.heap.size wr (wr.alloc (.cells #[.int .i64 X] 3)) := (Below.refl _ _).alloc (Nat.le_refl _) _
        have epv : pv [at' a j] = R := by rw [← HR.out, hr0]; rfl
        rw [epv] at CT
        clear e0 hbg epv hrc hcr
        go_upto_region 8 with (first | (at_builtin; refine wpList_app_nil _ rfl _ _ rfl ⟨wr.heap.size, 0, none⟩ pr cr rfl rfl ?_) | (go_at_call 119; refine CT.out.mono ?_; rintro e w2 ⟨v1, rfl, hv1, hb2⟩))
        have hb12 : Below wr.heap.size wr w2 := kcb hBt hb2
        have hv1' : ∃ p1, BigP w2 p1 v1 (parts R) ∧ ∀ g, p1 = some ⟨g, 0, none⟩ → g ≠ H := ⟨_, hv1, fun g hg => by cases hg; have := HB0.out.size; have := HRo.out; have := hHlt; omega⟩
        clear CT hBt hb2 hv1
        have HV1 := Lib.hid hv1'
        have HB2 : Hid (Below w.heap.size w w2) := kcb HB0.out hb12
        have HRo2 : Hid (Row w2 H q) := HRo.out.later hb12
        have hE : Hid ((((0 : Int) = ((0 : Nat) : Int)) ∧ (16384 : Int) = ((2 ^ 15 / 2 : Nat) : Int) ∧ 15 ≤ 15) ∧ (D * 0 ≤ R ∧ R < D * (0 + 2 ^ 15) ∧ 0 + 2 ^ 15 ≤ 32768) ∧ Below w2.heap.size w2 w2) :=
          ⟨⟨rfl, by decide, Nat.le_refl _⟩, ⟨by rw [Nat.mul_zero]; exact Nat.zero_le _, by rw [show 0 + 2 ^ 15 = 32768 by decide]; exact HRD.out, by decide⟩, Below.refl _ _⟩
        clear hv1' hb12
        go_wp2_with fail
        go_loopw [9, 10] (fun pt st wv => ∃ (e pp : Nat) (S P : Int), pt = .int .i64 P ∧ st = .int .i64 S ∧ 0 ≤ P ∧ P ≤ 32768 ∧ 0 ≤ S ∧ S ≤ 16384 ∧ Hid ((P = (pp : Int) ∧ S = ((2 ^ e / 2 : Nat) : Int) ∧ e ≤ 15) ∧ (D * pp ≤ R ∧ R < D * (pp + 2 ^ e) ∧ pp + 2 ^ e ≤ 32768) ∧ Below w2.heap.size w2 wv)) (fun _ st _ => (intOf st).toNat)
        case atStart => exact ⟨15, 0, 16384, 0, rfl, rfl, by omega, by omega, by omega, by omega, hE⟩
        case round =>
          obtain ⟨e, pp, S, P, rfl, rfl, hP0, hP1, hS0, hS1, hK⟩ := hrel
          clear hE
          obtain ⟨⟨hPe, hSe, he⟩, ⟨h1, h2, h3⟩, hBv⟩ := hK.out
          have HPe := Lib.hid hPe
          have HSe := Lib.hid hSe
          have HH1 := Lib.hid h1
          have HH2 := Lib.hid h2
          have HH3 := Lib.hid h3
          have HBv := Lib.hid hBv
          have hV1v : Holds wr v1 R := by
            obtain ⟨p1, hp1, _⟩ := HV1.out
            exact ⟨p1, hp1.later hBv⟩
          have CO1 := Lib.hid (order_any R D v1 vb wr hV1v (HVb.out.later (kcb HB2.out hBv)) (by have := HlR.out; omega) (by have := HLb.out; omega))
          clear hK h1 h2 h3 hBv hV1v hPe hSe
          by_cases hS : 0 < S
          · by_cases hRd : R < D
            · rw [ord_neg hRd] at CO1
              go_upto_region 13 with (go_at_call 91; refine CO1.out.mono ?_; rintro e y1 ⟨rfl, hy1⟩)
              have HY1 := Lib.hid hy1
              clear hy1
              have hPe := HPe.out
              have hSe := HSe.out
              have hfin : D * pp ≤ R ∧ R < D * (pp + 1) ∧ pp < 32768 := by
                have h0 : pp = 0 := by
                  rcases Nat.eq_zero_or_pos pp with h | h
                  · exact h
                  · have := Nat.le_mul_of_pos_right D h
                    have := HH1.out
                    omega
                rw [h0, Nat.mul_zero]
                exact ⟨Nat.zero_le _, by omega, by decide⟩
              have HF := Lib.hid hfin
              have hby : Below w.heap.size w y1 := kcb (kcb HB2.out HBv.out) HY1.out
              have hrow : Row y1 H q := (HRo2.out.later HBv.out).later HY1.out
              obtain ⟨hc, hf⟩ := hrow j (by have h1 := HDv.out.len; have h2 := HM.out; omega)
              have hbz : Below w.heap.size w (y1.setCell ⟨H, j, none⟩ (.int .i64 P)) := hby.setCell (show w.heap.size ≤ H by omega) _
              have hrz : Row (y1.setCell ⟨H, j, none⟩ (.int .i64 P)) H (q.set j pp) := by rw [hPe]; exact hrow.set j pp (by have h1 := HDv.out.len; have h2 := HM.out; omega)
              have hvz : Holds (y1.setCell ⟨H, j, none⟩ (.int .i64 P)) v1 R := by
                obtain ⟨p1, hp1, hne⟩ := HV1.out
                exact ⟨p1, (hp1.later (kcb HBv.out HY1.out)).set hne _⟩
              have HBz := Lib.hid hbz
              have HRz := Lib.hid hrz
              have HVz := Lib.hid hvz
              have hst := HDv.out.step (p := pp) (by have h2 := HM.out; omega) HD.out (by rw [HR.out]; exact hfin.1) (by rw [HR.out]; exact hfin.2.1) hfin.2.2
              rw [HR.out] at hst
              have HSt := Lib.hid hst
              have CF := Lib.hid (fun W => refOf_any pp P hPe.symm (by omega) W)
              have hlp : (parts pp).length ≤ 2 := parts_length 2 pp (by have : (32768 : Nat) ^ 2 = 1073741824 := by decide
                                                                        omega)
              have HLp := Lib.hid hlp
              obtain ⟨J, hJ⟩ : ∃ J : Int, (j : Int) - 1 = J := ⟨_, rfl⟩
              have HJ := Lib.hid hJ
              have hJb : -1 ≤ J ∧ J ≤ 1000 ∧ (J + 1).toNat < ((j : Int) + 1).toNat := by omega
              have hPe' := Lib.hid hPe
              clear hfin hby hrow hbz hrz hvz hst hlp hPe hSe
              go_wp2_with (first | (go_at_call 50; refine (CF.out _).mono ?_; rintro e z1 ⟨vo, rfl, ho, hz1⟩; have HO := Lib.hid ho; have HZ1 := Lib.hid hz1; clear ho hz1) | (go_at_call 49; refine (refTimes D pp vb vo _ (HVb.out.later (kcb HBz.out HZ1.out)) HO.out (by have := HLb.out; omega) (by have := HLp.out; omega)).mono ?_; rintro e z2 ⟨vt, rfl, htv, hz2⟩; have HTv := Lib.hid htv; have HZ2 := Lib.hid hz2; clear htv hz2) | (go_at_call 125; refine (refMinus R (D * pp) v1 vt _ HF.out.1 (HVz.out.later (kcb HZ1.out HZ2.out)) HTv.out (by have := HlR.out; omega)).mono ?_; rintro e z3 ⟨v3, rfl, hv3, hz3⟩; have HV3 := Lib.hid hv3; have HZ3 := Lib.hid hz3; clear hv3 hz3))
              go_roundw
              case rel => exact ⟨j, _, J, q.set j pp, by go_num, hJb.1, hJb.2.1, ⟨⟨by omega, HJ.out.symm⟩, HSt.out, HRz.out.later (kcb (kcb HZ1.out HZ2.out) HZ3.out), HV3.out, kcb (kcb (kcb HBz.out HZ1.out) HZ2.out) HZ3.out⟩⟩
              case measure => simp [intOf]; omega
            · have ho0 := ord_nonneg hRd
              obtain ⟨o1, ho1⟩ : ∃ o1, ordS R D = o1 := ⟨_, rfl⟩
              rw [ho1] at ho0 CO1
              obtain ⟨u, hu⟩ : ∃ u, pp + 2 ^ e / 2 = u := ⟨_, rfl⟩
              obtain ⟨U, hU⟩ : ∃ U : Int, P + S = U := ⟨_, rfl⟩
              have hUu : (u : Int) = U := by have h1 := HPe.out; have h2 := HSe.out; omega
              have heps : 0 < e := by
                rcases Nat.eq_zero_or_pos e with h | h
                · have h2 := HSe.out
                  rw [h] at h2
                  have : ((2 ^ 0 / 2 : Nat) : Int) = 0 := rfl
                  omega
                · exact h
              obtain ⟨g1, g2, g3⟩ := search_step (D := D) (R := R) (p := pp) heps HH1.out HH2.out HH3.out
              rw [hu] at g2 g3
              obtain ⟨S2, hS2⟩ : ∃ S2 : Int, S / 2 = S2 := ⟨_, rfl⟩
              have HS2 : Hid (S2 = ((2 ^ (e - 1) / 2 : Nat) : Int)) := by show _ = _; rw [← hS2, HSe.out, g1]; rfl
              have hS2b : 0 ≤ S2 ∧ S2 ≤ 16384 ∧ S2 < S := by omega
              have hu2 : u ≤ 65536 := by have := HH3.out; omega
              have CF := Lib.hid (fun W => refOf_any u U hUu (by omega) W)
              have hlu : (parts u).length ≤ 2 := parts_length 2 u (by have : (32768 : Nat) ^ 2 = 1073741824 := by decide
                                                                      omega)
              have HLu := Lib.hid hlu
              have HV1x : Hid (Holds wr v1 R) := by
                obtain ⟨p1, hp1, _⟩ := HV1.out
                exact ⟨p1, hp1.later HBv.out⟩
              clear hlu hu hu2 ho1
              by_cases hle : D * u ≤ R
              · have hos := ord_le hle
                obtain ⟨o2, ho2⟩ : ∃ o2, ordS (D * u) R = o2 := ⟨_, rfl⟩
                rw [ho2] at hos
                have gg := g2 hle
                have GG := Lib.hid gg
                have hUb : U ≤ 32768 ∧ 0 ≤ U := by have h9 := gg.2.2; have h8 : 0 < 2 ^ (e - 1) := Nat.pow_pos (by decide); obtain ⟨t9, ht9⟩ : ∃ t9, 2 ^ (e - 1) = t9 := ⟨_, rfl⟩; rw [ht9] at h9 h8; omega
                have HO2 := Lib.hid ho2
                have HUu := Lib.hid hUu
                have hneg : o2 ≤ 0 := by exact hos
                clear gg ho2 hUu g1 g2 g3 hos hle
                go_wp2_with (first | (go_at_call 91; (with_reducible (refine CO1.out.mono ?_)); rintro e' y1 ⟨rfl, hy1⟩; have HY1 := Lib.hid hy1; clear hy1) | (go_at_call 50; refine (CF.out _).mono ?_; rintro e' z1 ⟨vo, rfl, ho, hz1⟩; have HO := Lib.hid ho; have HZ1 := Lib.hid hz1; clear ho hz1) | (go_at_call 49; refine (refTimes D u vb vo _ (HVb.out.later (kcb (kcb (kcb HB2.out HBv.out) HY1.out) HZ1.out)) HO.out (by have := HLb.out; omega) (by have := HLu.out; omega)).mono ?_; rintro e' z2 ⟨vt, rfl, htv, hz2⟩; have HTv := Lib.hid htv; have HZ2 := Lib.hid hz2; clear htv hz2) | (go_at_call 91; refine (order_any (D * u) R vt v1 _ HTv.out (HV1x.out.later (kcb (kcb HY1.out HZ1.out) HZ2.out)) (by have := parts_mul_len D u; have := HLb.out; have := HLu.out; omega) (by have := HlR.out; omega)).mono ?_; rintro e' y4 ⟨rfl, hy4⟩; rw [HO2.out]; have HY4 := Lib.hid hy4; clear hy4))
                go_roundw
                case rel => exact ⟨e - 1, u, S2, U, by go_num, by go_num, hUb.2, hUb.1, by omega, by omega, ⟨⟨HUu.out.symm, HS2.out, by omega⟩, ⟨GG.out.1, GG.out.2.1, GG.out.2.2⟩, kcb (kcb (kcb (kcb HBv.out HY1.out) HZ1.out) HZ2.out) HY4.out⟩⟩
                case measure => simp [intOf]; omega
              · have hos := ord_gt hle
                obtain ⟨o2, ho2⟩ : ∃ o2, ordS (D * u) R = o2 := ⟨_, rfl⟩
                rw [ho2] at hos
                have gg := g3 hle
                have GG := Lib.hid gg
                have hUb : P ≤ 32768 ∧ 0 ≤ P := by have := gg; exact ⟨hP1, hP0⟩
                have HO2 := Lib.hid ho2
                have HUu := Lib.hid hUu
                have hneg : ¬ o2 ≤ 0 := by omega
                clear gg ho2 hUu g1 g2 g3 hos hle
                go_wp2_with (first | (go_at_call 91; (with_reducible (refine CO1.out.mono ?_)); rintro e' y1 ⟨rfl, hy1⟩; have HY1 := Lib.hid hy1; clear hy1) | (go_at_call 50; refine (CF.out _).mono ?_; rintro e' z1 ⟨vo, rfl, ho, hz1⟩; have HO := Lib.hid ho; have HZ1 := Lib.hid hz1; clear ho hz1) | (go_at_call 49; refine (refTimes D u vb vo _ (HVb.out.later (kcb (kcb (kcb HB2.out HBv.out) HY1.out) HZ1.out)) HO.out (by have := HLb.out; omega) (by have := HLu.out; omega)).mono ?_; rintro e' z2 ⟨vt, rfl, htv, hz2⟩; have HTv := Lib.hid htv; have HZ2 := Lib.hid hz2; clear htv hz2) | (go_at_call 91; refine (order_any (D * u) R vt v1 _ HTv.out (HV1x.out.later (kcb (kcb HY1.out HZ1.out) HZ2.out)) (by have := parts_mul_len D u; have := HLb.out; have := HLu.out; omega) (by have := HlR.out; omega)).mono ?_; rintro e' y4 ⟨rfl, hy4⟩; rw [HO2.out]; have HY4 := Lib.hid hy4; clear hy4))
                go_roundw
                case rel => exact ⟨e - 1, pp, S2, P, by go_num, by go_num, hUb.2, hUb.1, by omega, by omega, ⟨⟨HPe.out, HS2.out, by omega⟩, ⟨HH1.out, GG.out.1, GG.out.2⟩, kcb (kcb (kcb (kcb HBv.out HY1.out) HZ1.out) HZ2.out) HY4.out⟩⟩
                case measure => simp [intOf]; omega
          · skip
            have hPe := HPe.out
            have hSe := HSe.out
            have hfin : D * pp ≤ R ∧ R < D * (pp + 1) ∧ pp < 32768 := by
              have he0 : e = 0 := by
                rcases Nat.eq_zero_or_pos e with h | h
                · exact h
                · have := (search_step (D := D) (R := R) (p := pp) h HH1.out HH2.out HH3.out).1
                  have := Nat.pow_pos (n := e - 1) (show 0 < 2 by decide)
                  omega
              have g1 := HH1.out
              have g2 := HH2.out
              have g3 := HH3.out
              rw [he0, Nat.pow_zero] at g2 g3
              exact ⟨g1, g2, by omega⟩
            have HF := Lib.hid hfin
            have hby : Below w.heap.size w wr := kcb HB2.out HBv.out
            have hrow : Row wr H q := HRo2.out.later HBv.out
            obtain ⟨hc, hf⟩ := hrow j (by have h1 := HDv.out.len; have h2 := HM.out; omega)
            have hbz : Below w.heap.size w (wr.setCell ⟨H, j, none⟩ (.int .i64 P)) := hby.setCell (show w.heap.size ≤ H by omega) _
            have hrz : Row (wr.setCell ⟨H, j, none⟩ (.int .i64 P)) H (q.set j pp) := by rw [hPe]; exact hrow.set j pp (by have h1 := HDv.out.len; have h2 := HM.out; omega)
            have hvz : Holds (wr.setCell ⟨H, j, none⟩ (.int .i64 P)) v1 R := by
              obtain ⟨p1, hp1, hne⟩ := HV1.out
              exact ⟨p1, (hp1.later HBv.out).set hne _⟩
            have HBz := Lib.hid hbz
            have HRz := Lib.hid hrz
            have HVz := Lib.hid hvz
            have hst := HDv.out.step (p := pp) (by have h2 := HM.out; omega) HD.out (by rw [HR.out]; exact hfin.1) (by rw [HR.out]; exact hfin.2.1) hfin.2.2
            rw [HR.out] at hst
            have HSt := Lib.hid hst
            have CF := Lib.hid (fun W => refOf_any pp P hPe.symm (by omega) W)
            have hlp : (parts pp).length ≤ 2 := parts_length 2 pp (by have : (32768 : Nat) ^ 2 = 1073741824 := by decide
                                                                      omega)
            have HLp := Lib.hid hlp
            obtain ⟨J, hJ⟩ : ∃ J : Int, (j : Int) - 1 = J := ⟨_, rfl⟩
            have HJ := Lib.hid hJ
            have hJb : -1 ≤ J ∧ J ≤ 1000 ∧ (J + 1).toNat < ((j : Int) + 1).toNat := by omega
            have hPe' := Lib.hid hPe
            clear hfin hby hrow hbz hrz hvz hst hlp hPe hSe
            go_wp2_with (first | (go_at_call 50; refine (CF.out _).mono ?_; rintro e z1 ⟨vo, rfl, ho, hz1⟩; have HO := Lib.hid ho; have HZ1 := Lib.hid hz1; clear ho hz1) | (go_at_call 49; refine (refTimes D pp vb vo _ (HVb.out.later (kcb HBz.out HZ1.out)) HO.out (by have := HLb.out; omega) (by have := HLp.out; omega)).mono ?_; rintro e z2 ⟨vt, rfl, htv, hz2⟩; have HTv := Lib.hid htv; have HZ2 := Lib.hid hz2; clear htv hz2) | (go_at_call 125; refine (refMinus R (D * pp) v1 vt _ HF.out.1 (HVz.out.later (kcb HZ1.out HZ2.out)) HTv.out (by have := HlR.out; omega)).mono ?_; rintro e z3 ⟨v3, rfl, hv3, hz3⟩; have HV3 := Lib.hid hv3; have HZ3 := Lib.hid hz3; clear hv3 hz3))
            go_roundw
            case rel => exact ⟨j, _, J, q.set j pp, by go_num, hJb.1, hJb.2.1, ⟨⟨by omega, HJ.out.symm⟩, HSt.out, HRz.out.later (kcb (kcb HZ1.out HZ2.out) HZ3.out), HV3.out, kcb (kcb (kcb HBz.out HZ1.out) HZ2.out) HZ3.out⟩⟩
            case measure => simp [intOf]; omega
      · obtain ⟨len, hlen⟩ : ∃ len, (parts r).length = len := ⟨_, rfl⟩
        rw [hlen] at hrc hlr hcr ⊢
        have hl0 : 0 < len := by rw [← hlen, parts_pos hr0]; exact Nat.succ_pos _
        obtain ⟨gr, rfl, _⟩ := hrc 0 hl0
        have hnews : ∀ j u, (cellsN (parts r))[j]? = some u → (wr.alloc (.cells #[.int .i64 X] 3)).cell? ((⟨gr, 0, none⟩ : Addr).add j) = some u := by
          intro j u hu
          have hj : j < len := by
            rcases Nat.lt_or_ge j len with h | h
            · exact h
            · rw [List.getElem?_eq_none (by rw [cellsN_length, hlen]; exact h)] at hu; cases hu
          obtain ⟨g', e', hc'⟩ := hrc j hj
          cases e'
          have e : (⟨gr, 0, none⟩ : Addr).add j = ⟨gr, j, none⟩ := by by_cases h0 : j = 0 <;> simp [Addr.add, h0]
          rw [e]
          have hu' : u = .int .i64 (at' (parts r) j : Int) := by
            unfold cellsN at hu
            rw [List.getElem?_map, List.getElem?_eq_getElem (by rw [hlen]; exact hj)] at hu
            unfold at'
            rw [dif_pos (by rw [hlen]; exact hj)]
            exact (Option.some.inj hu).symm
          rw [hu']
          exact (World.grownBy_alloc wr _ none).cell hc' (by simp)
        have hlit : (wr.alloc (.cells #[.int .i64 X] 3)).ownsRow wr.heap.size 3 1 (.slice (some ⟨wr.heap.size, 0, none⟩) 1 1) 1 [Value.int .i64 X] := World.ownsRow_lit wr #[.int .i64 X] 1 (Nat.le_refl _) (by simp [maxLen]) rfl
        have hnl : (cellsN (parts r)).length = len * 1 := by rw [cellsN_length, hlen, Nat.mul_one]
        have hone : ∀ u ∈ cellsN (parts r), u.oneCell' = true := by
          intro u hu
          unfold cellsN at hu
          obtain ⟨y, _, rfl⟩ := List.mem_map.1 hu
          rfl
        have HHl := Lib.hid hlen
        have HNews := Lib.hid hnews
        have HOne := Lib.hid hone
        have HNl := Lib.hid hnl
        clear hnews hone hnl hrc hcr hlen
        have CT := Lib.hid (fun W v p1 h => trim_p (at' a j :: parts r) v p1 (fun y hy => by rcases List.mem_cons.1 hy with rfl | hy; exact at_lt HFa.out j; exact parts_fine r y hy) W h (by rw [List.length_cons, HHl.out]; omega))
        rw [show pv (at' a j :: parts r) = R by rw [← HR.out]; show _ + 32768 * pv (parts r) = _; rw [pv_parts]] at CT
        go_upto_region 8 with (first | (at_builtin; refine wpList_append_own _ rfl _ _ 80 rfl wr.heap.size 3 i0 (.int .i64 0) 1 8 Tryz.underlying80 hi hz0 hz1 hz2 rfl (by decide) _ _ _ rfl hlit ⟨gr, 0, none⟩ len cr (cellsN (parts r)) rfl HNl.out HNews.out HOne.out (by simp only [maxLen]; omega) (by omega) (by simp <;> omega) ?_; intro v' w1' hown' hgrow' _; have hbg' : ∃ p1, BigP w1' p1 v' (at' a j :: parts r) ∧ ∀ g, p1 = some ⟨g, 0, none⟩ → wr.heap.size ≤ g := big_of_rowp (by rw [List.length_cons, HHl.out, Nat.add_comm, show cellsN (at' a j :: parts r) = [Value.int .i64 X] ++ cellsN (parts r) by rw [← HeX.out]; rfl]; exact hown'); obtain ⟨p1, hbg1, hp1⟩ := hbg'; have HBg := Lib.hid hbg1; have HP1 := Lib.hid hp1; clear hbg1 hp1) | (go_at_call 119; refine (CT.out _ _ _ HBg.out).mono ?_; rintro e w2 ⟨v1, rfl, hv1, hb2⟩))
        have hb1' : Below wr.heap.size wr w1' := ((Below.refl wr.heap.size wr).alloc (Nat.le_refl _) _).grown hgrow' (by simp) (fun j hj => by cases hj; exact Nat.le_refl _)
        have hb12 : Below wr.heap.size wr w2 := kcb hb1' hb2
        have hv1' : ∃ p1, BigP w2 p1 v1 (parts R) ∧ ∀ g, p1 = some ⟨g, 0, none⟩ → g ≠ H := ⟨_, hv1, fun g hg => by have := HP1.out g hg; have := hHlt; omega⟩
        clear hv1 CT hb1' hb2 hgrow' hown' HBg HNews HOne HNl hlit
        have HV1 := Lib.hid hv1'
        have HB2 : Hid (Below w.heap.size w w2) := kcb HB0.out hb12
        have HRo2 : Hid (Row w2 H q) := HRo.out.later hb12
        have hE : Hid ((((0 : Int) = ((0 : Nat) : Int)) ∧ (16384 : Int) = ((2 ^ 15 / 2 : Nat) : Int) ∧ 15 ≤ 15) ∧ (D * 0 ≤ R ∧ R < D * (0 + 2 ^ 15) ∧ 0 + 2 ^ 15 ≤ 32768) ∧ Below w2.heap.size w2 w2) :=
          ⟨⟨rfl, by decide, Nat.le_refl _⟩, ⟨by rw [Nat.mul_zero]; exact Nat.zero_le _, by rw [show 0 + 2 ^ 15 = 32768 by decide]; exact HRD.out, by decide⟩, Below.refl _ _⟩
        clear hv1' hb12
        go_wp2_with fail
        go_loopw [9, 10] (fun pt st wv => ∃ (e pp : Nat) (S P : Int), pt = .int .i64 P ∧ st = .int .i64 S ∧ 0 ≤ P ∧ P ≤ 32768 ∧ 0 ≤ S ∧ S ≤ 16384 ∧ Hid ((P = (pp : Int) ∧ S = ((2 ^ e / 2 : Nat) : Int) ∧ e ≤ 15) ∧ (D * pp ≤ R ∧ R < D * (pp + 2 ^ e) ∧ pp + 2 ^ e ≤ 32768) ∧ Below w2.heap.size w2 wv)) (fun _ st _ => (intOf st).toNat)
        case atStart => exact ⟨15, 0, 16384, 0, rfl, rfl, by omega, by omega, by omega, by omega, hE⟩
        case round =>
          obtain ⟨e, pp, S, P, rfl, rfl, hP0, hP1, hS0, hS1, hK⟩ := hrel
          clear hE
          obtain ⟨⟨hPe, hSe, he⟩, ⟨h1, h2, h3⟩, hBv⟩ := hK.out
          have HPe := Lib.hid hPe
          have HSe := Lib.hid hSe
          have HH1 := Lib.hid h1
          have HH2 := Lib.hid h2
          have HH3 := Lib.hid h3
          have HBv := Lib.hid hBv
          have hV1v : Holds wr v1 R := by
            obtain ⟨p1, hp1, _⟩ := HV1.out
            exact ⟨p1, hp1.later hBv⟩
          have CO1 := Lib.hid (order_any R D v1 vb wr hV1v (HVb.out.later (kcb HB2.out hBv)) (by have := HlR.out; omega) (by have := HLb.out; omega))
          clear hK h1 h2 h3 hBv hV1v hPe hSe
          by_cases hS : 0 < S
          · by_cases hRd : R < D
            · rw [ord_neg hRd] at CO1
              go_upto_region 13 with (go_at_call 91; refine CO1.out.mono ?_; rintro e y1 ⟨rfl, hy1⟩)
              have HY1 := Lib.hid hy1
              clear hy1
              have hPe := HPe.out
              have hSe := HSe.out
              have hfin : D * pp ≤ R ∧ R < D * (pp + 1) ∧ pp < 32768 := by
                have h0 : pp = 0 := by
                  rcases Nat.eq_zero_or_pos pp with h | h
                  · exact h
                  · have := Nat.le_mul_of_pos_right D h
                    have := HH1.out
                    omega
                rw [h0, Nat.mul_zero]
                exact ⟨Nat.zero_le _, by omega, by decide⟩
              have HF := Lib.hid hfin
              have hby : Below w.heap.size w y1 := kcb (kcb HB2.out HBv.out) HY1.out
              have hrow : Row y1 H q := (HRo2.out.later HBv.out).later HY1.out
              obtain ⟨hc, hf⟩ := hrow j (by have h1 := HDv.out.len; have h2 := HM.out; omega)
              have hbz : Below w.heap.size w (y1.setCell ⟨H, j, none⟩ (.int .i64 P)) := hby.setCell (show w.heap.size ≤ H by omega) _
              have hrz : Row (y1.setCell ⟨H, j, none⟩ (.int .i64 P)) H (q.set j pp) := by rw [hPe]; exact hrow.set j pp (by have h1 := HDv.out.len; have h2 := HM.out; omega)
              have hvz : Holds (y1.setCell ⟨H, j, none⟩ (.int .i64 P)) v1 R := by
                obtain ⟨p1, hp1, hne⟩ := HV1.out
                exact ⟨p1, (hp1.later (kcb HBv.out HY1.out)).set hne _⟩
              have HBz := Lib.hid hbz
              have HRz := Lib.hid hrz
              have HVz := Lib.hid hvz
              have hst := HDv.out.step (p := pp) (by have h2 := HM.out; omega) HD.out (by rw [HR.out]; exact hfin.1) (by rw [HR.out]; exact hfin.2.1) hfin.2.2
              rw [HR.out] at hst
              have HSt := Lib.hid hst
              have CF := Lib.hid (fun W => refOf_any pp P hPe.symm (by omega) W)
              have hlp : (parts pp).length ≤ 2 := parts_length 2 pp (by have : (32768 : Nat) ^ 2 = 1073741824 := by decide
                                                                        omega)
              have HLp := Lib.hid hlp
              obtain ⟨J, hJ⟩ : ∃ J : Int, (j : Int) - 1 = J := ⟨_, rfl⟩
              have HJ := Lib.hid hJ
              have hJb : -1 ≤ J ∧ J ≤ 1000 ∧ (J + 1).toNat < ((j : Int) + 1).toNat := by omega
              have hPe' := Lib.hid hPe
              clear hfin hby hrow hbz hrz hvz hst hlp hPe hSe
              go_wp2_with (first | (go_at_call 50; refine (CF.out _).mono ?_; rintro e z1 ⟨vo, rfl, ho, hz1⟩; have HO := Lib.hid ho; have HZ1 := Lib.hid hz1; clear ho hz1) | (go_at_call 49; refine (refTimes D pp vb vo _ (HVb.out.later (kcb HBz.out HZ1.out)) HO.out (by have := HLb.out; omega) (by have := HLp.out; omega)).mono ?_; rintro e z2 ⟨vt, rfl, htv, hz2⟩; have HTv := Lib.hid htv; have HZ2 := Lib.hid hz2; clear htv hz2) | (go_at_call 125; refine (refMinus R (D * pp) v1 vt _ HF.out.1 (HVz.out.later (kcb HZ1.out HZ2.out)) HTv.out (by have := HlR.out; omega)).mono ?_; rintro e z3 ⟨v3, rfl, hv3, hz3⟩; have HV3 := Lib.hid hv3; have HZ3 := Lib.hid hz3; clear hv3 hz3))
              go_roundw
              case rel => exact ⟨j, _, J, q.set j pp, by go_num, hJb.1, hJb.2.1, ⟨⟨by omega, HJ.out.symm⟩, HSt.out, HRz.out.later (kcb (kcb HZ1.out HZ2.out) HZ3.out), HV3.out, kcb (kcb (kcb HBz.out HZ1.out) HZ2.out) HZ3.out⟩⟩
              case measure => simp [intOf]; omega
            · have ho0 := ord_nonneg hRd
              obtain ⟨o1, ho1⟩ : ∃ o1, ordS R D = o1 := ⟨_, rfl⟩
              rw [ho1] at ho0 CO1
              obtain ⟨u, hu⟩ : ∃ u, pp + 2 ^ e / 2 = u := ⟨_, rfl⟩
              obtain ⟨U, hU⟩ : ∃ U : Int, P + S = U := ⟨_, rfl⟩
              have hUu : (u : Int) = U := by have h1 := HPe.out; have h2 := HSe.out; omega
              have heps : 0 < e := by
                rcases Nat.eq_zero_or_pos e with h | h
                · have h2 := HSe.out
                  rw [h] at h2
                  have : ((2 ^ 0 / 2 : Nat) : Int) = 0 := rfl
                  omega
                · exact h
              obtain ⟨g1, g2, g3⟩ := search_step (D := D) (R := R) (p := pp) heps HH1.out HH2.out HH3.out
              rw [hu] at g2 g3
              obtain ⟨S2, hS2⟩ : ∃ S2 : Int, S / 2 = S2 := ⟨_, rfl⟩
              have HS2 : Hid (S2 = ((2 ^ (e - 1) / 2 : Nat) : Int)) := by show _ = _; rw [← hS2, HSe.out, g1]; rfl
              have hS2b : 0 ≤ S2 ∧ S2 ≤ 16384 ∧ S2 < S := by omega
              have hu2 : u ≤ 65536 := by have := HH3.out; omega
              have CF := Lib.hid (fun W => refOf_any u U hUu (by omega) W)
              have hlu : (parts u).length ≤ 2 := parts_length 2 u (by have : (32768 : Nat) ^ 2 = 1073741824 := by decide
                                                                      omega)
              have HLu := Lib.hid hlu
              have HV1x : Hid (Holds wr v1 R) := by
                obtain ⟨p1, hp1, _⟩ := HV1.out
                exact ⟨p1, hp1.later HBv.out⟩
              clear hlu hu hu2 ho1
              by_cases hle : D * u ≤ R
              · have hos := ord_le hle
                obtain ⟨o2, ho2⟩ : ∃ o2, ordS (D * u) R = o2 := ⟨_, rfl⟩
                rw [ho2] at hos
                have gg := g2 hle
                have GG := Lib.hid gg
                have hUb : U ≤ 32768 ∧ 0 ≤ U := by have h9 := gg.2.2; have h8 : 0 < 2 ^ (e - 1) := Nat.pow_pos (by decide); obtain ⟨t9, ht9⟩ : ∃ t9, 2 ^ (e - 1) = t9 := ⟨_, rfl⟩; rw [ht9] at h9 h8; omega
                have HO2 := Lib.hid ho2
                have HUu := Lib.hid hUu
                have hneg : o2 ≤ 0 := by exact hos
                clear gg ho2 hUu g1 g2 g3 hos hle
                go_wp2_with (first | (go_at_call 91; (with_reducible (refine CO1.out.mono ?_)); rintro e' y1 ⟨rfl, hy1⟩; have HY1 := Lib.hid hy1; clear hy1) | (go_at_call 50; refine (CF.out _).mono ?_; rintro e' z1 ⟨vo, rfl, ho, hz1⟩; have HO := Lib.hid ho; have HZ1 := Lib.hid hz1; clear ho hz1) | (go_at_call 49; refine (refTimes D u vb vo _ (HVb.out.later (kcb (kcb (kcb HB2.out HBv.out) HY1.out) HZ1.out)) HO.out (by have := HLb.out; omega) (by have := HLu.out; omega)).mono ?_; rintro e' z2 ⟨vt, rfl, htv, hz2⟩; have HTv := Lib.hid htv; have HZ2 := Lib.hid hz2; clear htv hz2) | (go_at_call 91; refine (order_any (D * u) R vt v1 _ HTv.out (HV1x.out.later (kcb (kcb HY1.out HZ1.out) HZ2.out)) (by have := parts_mul_len D u; have := HLb.out; have := HLu.out; omega) (by have := HlR.out; omega)).mono ?_; rintro e' y4 ⟨rfl, hy4⟩; rw [HO2.out]; have HY4 := Lib.hid hy4; clear hy4))
                go_roundw
                case rel => exact ⟨e - 1, u, S2, U, by go_num, by go_num, hUb.2, hUb.1, by omega, by omega, ⟨⟨HUu.out.symm, HS2.out, by omega⟩, ⟨GG.out.1, GG.out.2.1, GG.out.2.2⟩, kcb (kcb (kcb (kcb HBv.out HY1.out) HZ1.out) HZ2.out) HY4.out⟩⟩
                case measure => simp [intOf]; omega
              · have hos := ord_gt hle
                obtain ⟨o2, ho2⟩ : ∃ o2, ordS (D * u) R = o2 := ⟨_, rfl⟩
                rw [ho2] at hos
                have gg := g3 hle
                have GG := Lib.hid gg
                have hUb : P ≤ 32768 ∧ 0 ≤ P := by have := gg; exact ⟨hP1, hP0⟩
                have HO2 := Lib.hid ho2
                have HUu := Lib.hid hUu
                have hneg : ¬ o2 ≤ 0 := by omega
                clear gg ho2 hUu g1 g2 g3 hos hle
                go_wp2_with (first | (go_at_call 91; (with_reducible (refine CO1.out.mono ?_)); rintro e' y1 ⟨rfl, hy1⟩; have HY1 := Lib.hid hy1; clear hy1) | (go_at_call 50; refine (CF.out _).mono ?_; rintro e' z1 ⟨vo, rfl, ho, hz1⟩; have HO := Lib.hid ho; have HZ1 := Lib.hid hz1; clear ho hz1) | (go_at_call 49; refine (refTimes D u vb vo _ (HVb.out.later (kcb (kcb (kcb HB2.out HBv.out) HY1.out) HZ1.out)) HO.out (by have := HLb.out; omega) (by have := HLu.out; omega)).mono ?_; rintro e' z2 ⟨vt, rfl, htv, hz2⟩; have HTv := Lib.hid htv; have HZ2 := Lib.hid hz2; clear htv hz2) | (go_at_call 91; refine (order_any (D * u) R vt v1 _ HTv.out (HV1x.out.later (kcb (kcb HY1.out HZ1.out) HZ2.out)) (by have := parts_mul_len D u; have := HLb.out; have := HLu.out; omega) (by have := HlR.out; omega)).mono ?_; rintro e' y4 ⟨rfl, hy4⟩; rw [HO2.out]; have HY4 := Lib.hid hy4; clear hy4))
                go_roundw
                case rel => exact ⟨e - 1, pp, S2, P, by go_num, by go_num, hUb.2, hUb.1, by omega, by omega, ⟨⟨HPe.out, HS2.out, by omega⟩, ⟨HH1.out, GG.out.1, GG.out.2⟩, kcb (kcb (kcb (kcb HBv.out HY1.out) HZ1.out) HZ2.out) HY4.out⟩⟩
                case measure => simp [intOf]; omega
          · skip
            have hPe := HPe.out
            have hSe := HSe.out
            have hfin : D * pp ≤ R ∧ R < D * (pp + 1) ∧ pp < 32768 := by
              have he0 : e = 0 := by
                rcases Nat.eq_zero_or_pos e with h | h
                · exact h
                · have := (search_step (D := D) (R := R) (p := pp) h HH1.out HH2.out HH3.out).1
                  have := Nat.pow_pos (n := e - 1) (show 0 < 2 by decide)
                  omega
              have g1 := HH1.out
              have g2 := HH2.out
              have g3 := HH3.out
              rw [he0, Nat.pow_zero] at g2 g3
              exact ⟨g1, g2, by omega⟩
            have HF := Lib.hid hfin
            have hby : Below w.heap.size w wr := kcb HB2.out HBv.out
            have hrow : Row wr H q := HRo2.out.later HBv.out
            obtain ⟨hc, hf⟩ := hrow j (by have h1 := HDv.out.len; have h2 := HM.out; omega)
            have hbz : Below w.heap.size w (wr.setCell ⟨H, j, none⟩ (.int .i64 P)) := hby.setCell (show w.heap.size ≤ H by omega) _
            have hrz : Row (wr.setCell ⟨H, j, none⟩ (.int .i64 P)) H (q.set j pp) := by rw [hPe]; exact hrow.set j pp (by have h1 := HDv.out.len; have h2 := HM.out; omega)
            have hvz : Holds (wr.setCell ⟨H, j, none⟩ (.int .i64 P)) v1 R := by
              obtain ⟨p1, hp1, hne⟩ := HV1.out
              exact ⟨p1, (hp1.later HBv.out).set hne _⟩
            have HBz := Lib.hid hbz
            have HRz := Lib.hid hrz
            have HVz := Lib.hid hvz
            have hst := HDv.out.step (p := pp) (by have h2 := HM.out; omega) HD.out (by rw [HR.out]; exact hfin.1) (by rw [HR.out]; exact hfin.2.1) hfin.2.2
            rw [HR.out] at hst
            have HSt := Lib.hid hst
            have CF := Lib.hid (fun W => refOf_any pp P hPe.symm (by omega) W)
            have hlp : (parts pp).length ≤ 2 := parts_length 2 pp (by have : (32768 : Nat) ^ 2 = 1073741824 := by decide
                                                                      omega)
            have HLp := Lib.hid hlp
            obtain ⟨J, hJ⟩ : ∃ J : Int, (j : Int) - 1 = J := ⟨_, rfl⟩
            have HJ := Lib.hid hJ
            have hJb : -1 ≤ J ∧ J ≤ 1000 ∧ (J + 1).toNat < ((j : Int) + 1).toNat := by omega
            have hPe' := Lib.hid hPe
            clear hfin hby hrow hbz hrz hvz hst hlp hPe hSe
            go_wp2_with (first | (go_at_call 50; refine (CF.out _).mono ?_; rintro e z1 ⟨vo, rfl, ho, hz1⟩; have HO := Lib.hid ho; have HZ1 := Lib.hid hz1; clear ho hz1) | (go_at_call 49; refine (refTimes D pp vb vo _ (HVb.out.later (kcb HBz.out HZ1.out)) HO.out (by have := HLb.out; omega) (by have := HLp.out; omega)).mono ?_; rintro e z2 ⟨vt, rfl, htv, hz2⟩; have HTv := Lib.hid htv; have HZ2 := Lib.hid hz2; clear htv hz2) | (go_at_call 125; refine (refMinus R (D * pp) v1 vt _ HF.out.1 (HVz.out.later (kcb HZ1.out HZ2.out)) HTv.out (by have := HlR.out; omega)).mono ?_; rintro e z3 ⟨v3, rfl, hv3, hz3⟩; have HV3 := Lib.hid hv3; have HZ3 := Lib.hid hz3; clear hv3 hz3))
            go_roundw
            case rel => exact ⟨j, _, J, q.set j pp, by go_num, hJb.1, hJb.2.1, ⟨⟨by omega, HJ.out.symm⟩, HSt.out, HRz.out.later (kcb (kcb HZ1.out HZ2.out) HZ3.out), HV3.out, kcb (kcb (kcb HBz.out HZ1.out) HZ2.out) HZ3.out⟩⟩
            case measure => simp [intOf]; omega
    · obtain ⟨⟨hk1, hIk⟩, hdv, hro, hrv, hB⟩ := hI.out
      have hk0 : k = 0 := by omega
      subst hk0
      obtain ⟨hq, hr⟩ := hdv.done
      have hql : q.length = m := by rw [hdv.len]; exact HM.out
      have hbq : Big wr (.slice (some ⟨H, 0, none⟩) m m) q := by
        have := hro.big (cap := m) (by omega)
        rw [hql] at this
        exact this
      have CT := Lib.hid (trim_any q _ hdv.fine wr hbq (by omega))
      rw [hq, HPa.out] at CT
      rw [HPa.out] at hr
      have HRv := Lib.hid hrv
      have HBB := Lib.hid hB
      have HRr := Lib.hid hr
      clear hI hdv hro hrv hB hbq hq hr hIk
      go_wp2_with (go_at_call 119; refine CT.out.mono ?_; rintro e w2 ⟨v1, rfl, hv1, hb2⟩)
      go_ret2
      exact ⟨v1, _, rfl, hv1, by rw [← HRr.out]; exact HRv.out.later hb2, kcb HBB.out hb2⟩

end Go.Proofs.YtebfhjndgfcijaaGreatDoor
