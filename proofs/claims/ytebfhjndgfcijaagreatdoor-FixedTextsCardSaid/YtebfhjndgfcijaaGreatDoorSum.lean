/- The document's own answers: plus and minus. -/
import Derived.Test.YtebfhjndgfcijaaGreatDoorOrder
namespace Go.Proofs.YtebfhjndgfcijaaGreatDoor
open Go Go.RowKit

set_option maxRecDepth 100000 in
set_option maxHeartbeats 2000000 in
theorem refPlus_big (a b : List Nat) (va vb : Value) (fa : Fine a) (fb : Fine b) (ta : a.getLast? ≠ some 0) (tb : b.getLast? ≠ some 0) (w : World) (ha : Big w va a) (hb : Big w vb b) (hla : a.length ≤ 1000) (hlb : b.length ≤ 1000) :
    Calls Tryz.prog 48 #[va, vb] w fun e w' => ∃ v, e = .returned v ∧ Holds w' v (pv a + pv b) ∧ Below w.heap.size w w' := by
  obtain ⟨i0, hi, hz0, hz1, hz2⟩ := info_parts infoInt
  obtain ⟨p, ca, rfl, _, ha⟩ := ha
  obtain ⟨q, cb, rfl, _, hb⟩ := hb
  obtain ⟨m, hm⟩ : ∃ m, a.length = m := ⟨_, rfl⟩
  obtain ⟨n, hn⟩ : ∃ n, b.length = n := ⟨_, rfl⟩
  have HA : Hid (∀ j, j < m → ∃ g, p = some ⟨g, 0, none⟩ ∧ w.cell? ⟨g, j, none⟩ = some (.int .i64 (at' a j : Int))) := by rw [← hm]; exact ha
  have HB : Hid (∀ j, j < n → ∃ g, q = some ⟨g, 0, none⟩ ∧ w.cell? ⟨g, j, none⟩ = some (.int .i64 (at' b j : Int))) := by rw [← hn]; exact hb
  have HM : Hid (a.length = m) := hm
  have HN : Hid (b.length = n) := hn
  have HFa := Lib.hid fa
  have HFb := Lib.hid fb
  rw [hm] at hla ⊢
  rw [hn] at hlb ⊢
  obtain ⟨H, hH⟩ : ∃ H, w.heap.size = H := ⟨_, rfl⟩
  have HTa := Lib.hid ta
  have HTb := Lib.hid tb
  have hS : Hid ((Summed a b [] 0 0 ∧ (0 ≤ m ∨ 0 ≤ n ∨ False)) ∧ w.ownsRow H 3 1 (.slice none 0 0) ([] : List Nat).length (cellsN []) ∧ Below H w w) :=
    ⟨⟨Summed.start a b, .inl (Nat.zero_le _)⟩, World.ownsRow_nil _ _ _ _, Below.refl _ _⟩
  clear ha hb hm hn fa fb ta tb
  go_enter Tryz.func48, Tryz.ntmps48
  go_wp2_with fail
  go_loopw [5, 6, 7] (fun o c i wr => ∃ (i' c' : Nat) (C : Int) (l : List Nat), c = .int .i64 C ∧ i = .int .i64 (i' : Int) ∧ 0 ≤ C ∧ C ≤ 1 ∧ (i' : Int) ≤ 1001 ∧ Hid ((C = (c' : Int) ∧ Summed a b l i' c' ∧ (i' ≤ m ∨ i' ≤ n ∨ c' = 0)) ∧ wr.ownsRow H 3 1 o l.length (cellsN l) ∧ Below H w wr)) (fun _ c i _ => 2 * (1002 - (intOf i).toNat) + 0 * (intOf c).toNat)
  case atStart => exact ⟨0, 0, 0, [], rfl, by go_num, by omega, by omega, by omega, ⟨⟨rfl, hS.out.1.1, .inl (Nat.zero_le _)⟩, hS.out.2.1, hS.out.2.2⟩⟩
  case round =>
    obtain ⟨i, c, C, l, rfl, rfl, hC0, hC1, hi1, hI⟩ := hrel
    clear hS
    obtain ⟨⟨hc, hsum, hmax⟩, hrow, hB⟩ := hI.out
    have hB0 : Below w.heap.size w wr := by rw [hH]; exact hB
    have hle : H ≤ wr.heap.size := by have := hB.size; omega
    have hll : l.length = i := hsum.len
    have HSum := Lib.hid hsum
    have HC := Lib.hid hc
    have HMax := Lib.hid hmax
    clear hsum hI hc hmax
    by_cases hA : i < m
    · have hA' : (i : Int) < (m : Int) := by omega
      by_cases hN : i < n
      · have hN' : (i : Int) < (n : Int) := by omega
        obtain ⟨g, rfl, hX0⟩ := HA.out i (by omega)
        obtain ⟨X, eX⟩ : ∃ X : Int, (at' a i : Int) = X := ⟨_, rfl⟩
        rw [eX] at hX0
        have hX := (hB0.cell (p := ⟨g, i, none⟩) (World.block_lt_of_cell? _ _ hX0)).trans hX0
        have bX : 0 ≤ X ∧ X < 32768 := by have := at_lt HFa.out i; omega
        obtain ⟨g2, rfl, hY0⟩ := HB.out i (by omega)
        obtain ⟨Y, eY⟩ : ∃ Y : Int, (at' b i : Int) = Y := ⟨_, rfl⟩
        rw [eY] at hY0
        have hY := (hB0.cell (p := ⟨g2, i, none⟩) (World.block_lt_of_cell? _ _ hY0)).trans hY0
        have bY : 0 ≤ Y ∧ Y < 32768 := by have := at_lt HFb.out i; omega
        obtain ⟨S, hSv⟩ : ∃ S : Int, C + X + Y = S := ⟨_, rfl⟩
        obtain ⟨D, hD⟩ : ∃ D : Int, S % 32768 = D := ⟨_, rfl⟩
        obtain ⟨C2, hC2⟩ : ∃ C2 : Int, S / 32768 = C2 := ⟨_, rfl⟩
        have hsb : 0 ≤ S ∧ S ≤ 65536 := by omega
        have hst := HSum.out.step HFa.out HFb.out HTa.out HTb.out (by have h1 := HM.out; have h2 := HN.out; have h3 := HC.out; omega)
        have eS : ((c + at' a i + at' b i : Nat) : Int) = S := by
          have h1 := HM.out; have h2 := HN.out; have h3 := HC.out
          omega
        have HST := Lib.hid hst
        have HES := Lib.hid eS
        have HX := Lib.hid eX
        have HY := Lib.hid eY
        clear hst eS eX hX0 eY hY0
        go_wp2_with (at_builtin; refine wpList_append_own _ rfl _ _ 80 rfl H 3 i0 (.int .i64 0) 1 8 Tryz.underlying80 hi hz0 hz1 hz2 rfl (by decide) _ _ _ rfl (hrow.alloc _) ⟨wr.heap.size, 0, none⟩ 1 1 [Value.int .i64 D] rfl rfl (cell_one_new _ _ _) (by simp [Value.oneCell']) (by simp only [maxLen]; omega) (by omega) (by simp <;> omega) ?_; intro v' w1 hown' hgrow _)
        have hrel : Hid ((C2 = (((c + at' a i + at' b i) / 32768 : Nat) : Int) ∧ Summed a b (l ++ [(c + at' a i + at' b i) % 32768]) (i + 1) ((c + at' a i + at' b i) / 32768) ∧ (i + 1 ≤ m ∨ i + 1 ≤ n ∨ (c + at' a i + at' b i) / 32768 = 0)) ∧ w1.ownsRow H 3 1 v' (l ++ [(c + at' a i + at' b i) % 32768]).length (cellsN (l ++ [(c + at' a i + at' b i) % 32768])) ∧ Below H w w1) := by
          have e := HES.out
          refine ⟨⟨by omega, HST.out, ?_⟩, ?_, ?_⟩
          · omega
          · rw [cellsN_snoc, List.length_append, show (((c + at' a i + at' b i) % 32768 : Nat) : Int) = D by omega]
            exact hown'
          · exact (hB.alloc hle _).grown hgrow (by simp; omega) (fun j hj => (hrow.lt j hj).1)
        have hb2 : 0 ≤ C2 ∧ C2 ≤ 1 := by have := HST.out.carry; have := HES.out; omega
        go_roundw
        case rel => exact ⟨i + 1, _, C2, _, by go_num, by go_num, hb2.1, hb2.2, by omega, hrel⟩
        case measure => simp [intOf]; omega
      · have hN' : ¬ (i : Int) < (n : Int) := by omega
        obtain ⟨g, rfl, hX0⟩ := HA.out i (by omega)
        obtain ⟨X, eX⟩ : ∃ X : Int, (at' a i : Int) = X := ⟨_, rfl⟩
        rw [eX] at hX0
        have hX := (hB0.cell (p := ⟨g, i, none⟩) (World.block_lt_of_cell? _ _ hX0)).trans hX0
        have bX : 0 ≤ X ∧ X < 32768 := by have := at_lt HFa.out i; omega
        obtain ⟨S, hSv⟩ : ∃ S : Int, C + X = S := ⟨_, rfl⟩
        obtain ⟨D, hD⟩ : ∃ D : Int, S % 32768 = D := ⟨_, rfl⟩
        obtain ⟨C2, hC2⟩ : ∃ C2 : Int, S / 32768 = C2 := ⟨_, rfl⟩
        have hsb : 0 ≤ S ∧ S ≤ 65536 := by omega
        have hst := HSum.out.step HFa.out HFb.out HTa.out HTb.out (by have h1 := HM.out; have h2 := HN.out; have h3 := HC.out; omega)
        have eS : ((c + at' a i + at' b i : Nat) : Int) = S := by
          have h1 := HM.out; have h2 := HN.out; have h3 := HC.out
          have : at' b i = 0 := by unfold at'; rw [dif_neg (by omega)]
          omega
        have HST := Lib.hid hst
        have HES := Lib.hid eS
        have HX := Lib.hid eX
        clear hst eS eX hX0
        go_wp2_with (at_builtin; refine wpList_append_own _ rfl _ _ 80 rfl H 3 i0 (.int .i64 0) 1 8 Tryz.underlying80 hi hz0 hz1 hz2 rfl (by decide) _ _ _ rfl (hrow.alloc _) ⟨wr.heap.size, 0, none⟩ 1 1 [Value.int .i64 D] rfl rfl (cell_one_new _ _ _) (by simp [Value.oneCell']) (by simp only [maxLen]; omega) (by omega) (by simp <;> omega) ?_; intro v' w1 hown' hgrow _)
        have hrel : Hid ((C2 = (((c + at' a i + at' b i) / 32768 : Nat) : Int) ∧ Summed a b (l ++ [(c + at' a i + at' b i) % 32768]) (i + 1) ((c + at' a i + at' b i) / 32768) ∧ (i + 1 ≤ m ∨ i + 1 ≤ n ∨ (c + at' a i + at' b i) / 32768 = 0)) ∧ w1.ownsRow H 3 1 v' (l ++ [(c + at' a i + at' b i) % 32768]).length (cellsN (l ++ [(c + at' a i + at' b i) % 32768])) ∧ Below H w w1) := by
          have e := HES.out
          refine ⟨⟨by omega, HST.out, ?_⟩, ?_, ?_⟩
          · omega
          · rw [cellsN_snoc, List.length_append, show (((c + at' a i + at' b i) % 32768 : Nat) : Int) = D by omega]
            exact hown'
          · exact (hB.alloc hle _).grown hgrow (by simp; omega) (fun j hj => (hrow.lt j hj).1)
        have hb2 : 0 ≤ C2 ∧ C2 ≤ 1 := by have := HST.out.carry; have := HES.out; omega
        go_roundw
        case rel => exact ⟨i + 1, _, C2, _, by go_num, by go_num, hb2.1, hb2.2, by omega, hrel⟩
        case measure => simp [intOf]; omega
    · have hA' : ¬ (i : Int) < (m : Int) := by omega
      by_cases hN : i < n
      · have hN' : (i : Int) < (n : Int) := by omega
        obtain ⟨g2, rfl, hY0⟩ := HB.out i (by omega)
        obtain ⟨Y, eY⟩ : ∃ Y : Int, (at' b i : Int) = Y := ⟨_, rfl⟩
        rw [eY] at hY0
        have hY := (hB0.cell (p := ⟨g2, i, none⟩) (World.block_lt_of_cell? _ _ hY0)).trans hY0
        have bY : 0 ≤ Y ∧ Y < 32768 := by have := at_lt HFb.out i; omega
        obtain ⟨S, hSv⟩ : ∃ S : Int, C + Y = S := ⟨_, rfl⟩
        obtain ⟨D, hD⟩ : ∃ D : Int, S % 32768 = D := ⟨_, rfl⟩
        obtain ⟨C2, hC2⟩ : ∃ C2 : Int, S / 32768 = C2 := ⟨_, rfl⟩
        have hsb : 0 ≤ S ∧ S ≤ 65536 := by omega
        have hst := HSum.out.step HFa.out HFb.out HTa.out HTb.out (by have h1 := HM.out; have h2 := HN.out; have h3 := HC.out; omega)
        have eS : ((c + at' a i + at' b i : Nat) : Int) = S := by
          have h1 := HM.out; have h2 := HN.out; have h3 := HC.out
          have : at' a i = 0 := by unfold at'; rw [dif_neg (by omega)]
          omega
        have HST := Lib.hid hst
        have HES := Lib.hid eS
        have HY := Lib.hid eY
        clear hst eS eY hY0
        go_wp2_with (at_builtin; refine wpList_append_own _ rfl _ _ 80 rfl H 3 i0 (.int .i64 0) 1 8 Tryz.underlying80 hi hz0 hz1 hz2 rfl (by decide) _ _ _ rfl (hrow.alloc _) ⟨wr.heap.size, 0, none⟩ 1 1 [Value.int .i64 D] rfl rfl (cell_one_new _ _ _) (by simp [Value.oneCell']) (by simp only [maxLen]; omega) (by omega) (by simp <;> omega) ?_; intro v' w1 hown' hgrow _)
        have hrel : Hid ((C2 = (((c + at' a i + at' b i) / 32768 : Nat) : Int) ∧ Summed a b (l ++ [(c + at' a i + at' b i) % 32768]) (i + 1) ((c + at' a i + at' b i) / 32768) ∧ (i + 1 ≤ m ∨ i + 1 ≤ n ∨ (c + at' a i + at' b i) / 32768 = 0)) ∧ w1.ownsRow H 3 1 v' (l ++ [(c + at' a i + at' b i) % 32768]).length (cellsN (l ++ [(c + at' a i + at' b i) % 32768])) ∧ Below H w w1) := by
          have e := HES.out
          refine ⟨⟨by omega, HST.out, ?_⟩, ?_, ?_⟩
          · omega
          · rw [cellsN_snoc, List.length_append, show (((c + at' a i + at' b i) % 32768 : Nat) : Int) = D by omega]
            exact hown'
          · exact (hB.alloc hle _).grown hgrow (by simp; omega) (fun j hj => (hrow.lt j hj).1)
        have hb2 : 0 ≤ C2 ∧ C2 ≤ 1 := by have := HST.out.carry; have := HES.out; omega
        go_roundw
        case rel => exact ⟨i + 1, _, C2, _, by go_num, by go_num, hb2.1, hb2.2, by omega, hrel⟩
        case measure => simp [intOf]; omega
      · have hN' : ¬ (i : Int) < (n : Int) := by omega
        by_cases hc : 0 < C
        · have hii : (i : Int) ≤ 1000 := by have := HMax.out; have := HC.out; omega
          obtain ⟨S, hSv⟩ : ∃ S : Int, C = S := ⟨_, rfl⟩
          obtain ⟨D, hD⟩ : ∃ D : Int, S % 32768 = D := ⟨_, rfl⟩
          obtain ⟨C2, hC2⟩ : ∃ C2 : Int, S / 32768 = C2 := ⟨_, rfl⟩
          have hsb : 0 ≤ S ∧ S ≤ 65536 := by omega
          have hst := HSum.out.step HFa.out HFb.out HTa.out HTb.out (by have h1 := HM.out; have h2 := HN.out; have h3 := HC.out; omega)
          have eS : ((c + at' a i + at' b i : Nat) : Int) = S := by
            have h1 := HM.out; have h2 := HN.out; have h3 := HC.out
            have : at' a i = 0 := by unfold at'; rw [dif_neg (by omega)]
            have : at' b i = 0 := by unfold at'; rw [dif_neg (by omega)]
            omega
          have HST := Lib.hid hst
          have HES := Lib.hid eS
          clear hst eS
          go_wp2_with (at_builtin; refine wpList_append_own _ rfl _ _ 80 rfl H 3 i0 (.int .i64 0) 1 8 Tryz.underlying80 hi hz0 hz1 hz2 rfl (by decide) _ _ _ rfl (hrow.alloc _) ⟨wr.heap.size, 0, none⟩ 1 1 [Value.int .i64 D] rfl rfl (cell_one_new _ _ _) (by simp [Value.oneCell']) (by simp only [maxLen]; omega) (by omega) (by simp <;> omega) ?_; intro v' w1 hown' hgrow _)
          have hrel : Hid ((C2 = (((c + at' a i + at' b i) / 32768 : Nat) : Int) ∧ Summed a b (l ++ [(c + at' a i + at' b i) % 32768]) (i + 1) ((c + at' a i + at' b i) / 32768) ∧ (i + 1 ≤ m ∨ i + 1 ≤ n ∨ (c + at' a i + at' b i) / 32768 = 0)) ∧ w1.ownsRow H 3 1 v' (l ++ [(c + at' a i + at' b i) % 32768]).length (cellsN (l ++ [(c + at' a i + at' b i) % 32768])) ∧ Below H w w1) := by
            have e := HES.out
            refine ⟨⟨by omega, HST.out, ?_⟩, ?_, ?_⟩
            · right; right; omega
            · rw [cellsN_snoc, List.length_append, show (((c + at' a i + at' b i) % 32768 : Nat) : Int) = D by omega]
              exact hown'
            · exact (hB.alloc hle _).grown hgrow (by simp; omega) (fun j hj => (hrow.lt j hj).1)
          have hb2 : 0 ≤ C2 ∧ C2 ≤ 1 := by have := HST.out.carry; have := HES.out; omega
          go_roundw
          case rel => exact ⟨i + 1, _, C2, _, by go_num, by go_num, hb2.1, hb2.2, by omega, hrel⟩
          case measure => simp [intOf]; omega
        · have hd := HSum.out.done (by rw [HM.out]; exact hA) (by rw [HN.out]; exact hN) (by have := HC.out; omega)
          have hBg := big_of_row hrow
          rw [hd] at hBg
          have HG := Lib.hid hBg
          clear hrow hBg hd
          go_wp2_with fail
          go_ret
          exact ⟨_, rfl, HG.out, hB⟩

set_option maxRecDepth 100000 in
set_option maxHeartbeats 2000000 in
theorem refMinus_big (a b : List Nat) (va vb : Value) (fa : Fine a) (fb : Fine b) (hle0 : pv b ≤ pv a) (hlen : b.length ≤ a.length) (w : World) (ha : Big w va a) (hb : Big w vb b) (hla : a.length ≤ 1000) (hlb : b.length ≤ 1000) :
    Calls Tryz.prog 125 #[va, vb] w fun e w' => ∃ v, e = .returned v ∧ Holds w' v (pv a - pv b) ∧ Below w.heap.size w w' := by
  obtain ⟨i0, hi, hz0, hz1, hz2⟩ := info_parts infoInt
  obtain ⟨p, ca, rfl, _, ha⟩ := ha
  obtain ⟨q, cb, rfl, _, hb⟩ := hb
  obtain ⟨m, hm⟩ : ∃ m, a.length = m := ⟨_, rfl⟩
  obtain ⟨n, hn⟩ : ∃ n, b.length = n := ⟨_, rfl⟩
  have HA : Hid (∀ j, j < m → ∃ g, p = some ⟨g, 0, none⟩ ∧ w.cell? ⟨g, j, none⟩ = some (.int .i64 (at' a j : Int))) := by rw [← hm]; exact ha
  have HB : Hid (∀ j, j < n → ∃ g, q = some ⟨g, 0, none⟩ ∧ w.cell? ⟨g, j, none⟩ = some (.int .i64 (at' b j : Int))) := by rw [← hn]; exact hb
  have HM : Hid (a.length = m) := hm
  have HN : Hid (b.length = n) := hn
  have HFa := Lib.hid fa
  have HFb := Lib.hid fb
  rw [hm] at hla ⊢
  rw [hn] at hlb ⊢
  obtain ⟨H, hH⟩ : ∃ H, w.heap.size = H := ⟨_, rfl⟩
  have HLen := Lib.hid hlen
  have HLe := Lib.hid hle0
  have hS : Hid (Subbed a b [] 0 0 ∧ w.ownsRow H 3 1 (.slice none 0 0) ([] : List Nat).length (cellsN []) ∧ Below H w w) :=
    ⟨Subbed.start a b, World.ownsRow_nil _ _ _ _, Below.refl _ _⟩
  clear ha hb hm hn fa fb hlen hle0
  go_enter Tryz.func125, Tryz.ntmps125
  go_wp2_with fail
  go_loopw [5, 6, 7] (fun o c i wr => ∃ (i' c' : Nat) (C : Int) (l : List Nat), c = .int .i64 C ∧ i = .int .i64 (i' : Int) ∧ 0 ≤ C ∧ C ≤ 1 ∧ (i' : Int) ≤ (m : Int) ∧ Hid ((C = (c' : Int) ∧ Subbed a b l i' c') ∧ wr.ownsRow H 3 1 o l.length (cellsN l) ∧ Below H w wr)) (fun _ c i _ => 2 * (1002 - (intOf i).toNat) + 0 * (intOf c).toNat)
  case atStart => exact ⟨0, 0, 0, [], rfl, by go_num, by omega, by omega, by omega, ⟨⟨rfl, hS.out.1⟩, hS.out.2.1, hS.out.2.2⟩⟩
  case round =>
    obtain ⟨i, c, C, l, rfl, rfl, hC0, hC1, hi1, hI⟩ := hrel
    clear hS
    obtain ⟨⟨hc, hsum⟩, hrow, hB⟩ := hI.out
    have hB0 : Below w.heap.size w wr := by rw [hH]; exact hB
    have hle : H ≤ wr.heap.size := by have := hB.size; omega
    have hll : l.length = i := hsum.len
    have HSum := Lib.hid hsum
    have HC := Lib.hid hc
    clear hsum hI hc
    by_cases hA : i < m
    · have hA' : (i : Int) < (m : Int) := by omega
      by_cases hN : i < n
      · have hN' : (i : Int) < (n : Int) := by omega
        obtain ⟨g, rfl, hX0⟩ := HA.out i (by omega)
        obtain ⟨X, eX⟩ : ∃ X : Int, (at' a i : Int) = X := ⟨_, rfl⟩
        rw [eX] at hX0
        have hX := (hB0.cell (p := ⟨g, i, none⟩) (World.block_lt_of_cell? _ _ hX0)).trans hX0
        have bX : 0 ≤ X ∧ X < 32768 := by have := at_lt HFa.out i; omega
        obtain ⟨g2, rfl, hY0⟩ := HB.out i (by omega)
        obtain ⟨Y, eY⟩ : ∃ Y : Int, (at' b i : Int) = Y := ⟨_, rfl⟩
        rw [eY] at hY0
        have hY := (hB0.cell (p := ⟨g2, i, none⟩) (World.block_lt_of_cell? _ _ hY0)).trans hY0
        have bY : 0 ≤ Y ∧ Y < 32768 := by have := at_lt HFb.out i; omega
        obtain ⟨S, hSv⟩ : ∃ S : Int, X - C - Y = S := ⟨_, rfl⟩
        have hsb : -65536 ≤ S ∧ S ≤ 65536 := by omega
        by_cases hneg : S < 0
        · skip
          obtain ⟨D, hD⟩ : ∃ D : Int, S + 32768 = D := ⟨_, rfl⟩
          obtain ⟨d, hd⟩ : ∃ d : Nat, (D : Int) = (d : Int) := ⟨(D).toNat, by omega⟩
          have hst := HSum.out.step (d := d) (c' := 1) (by omega) (by decide) (by
            have h1 := HM.out; have h2 := HN.out; have h3 := HC.out
            omega)
          have HST := Lib.hid hst
          have HD := Lib.hid hd
          have HX := Lib.hid eX
          have HY := Lib.hid eY
          clear hst hd eX hX0 eY hY0
          go_wp2_with (at_builtin; refine wpList_append_own _ rfl _ _ 80 rfl H 3 i0 (.int .i64 0) 1 8 Tryz.underlying80 hi hz0 hz1 hz2 rfl (by decide) _ _ _ rfl (hrow.alloc _) ⟨wr.heap.size, 0, none⟩ 1 1 [Value.int .i64 D] rfl rfl (cell_one_new _ _ _) (by simp [Value.oneCell']) (by simp only [maxLen]; omega) (by omega) (by simp <;> omega) ?_; intro v' w1 hown' hgrow _)
          have hrel : Hid (((1 : Int) = ((1 : Nat) : Int) ∧ Subbed a b (l ++ [d]) (i + 1) 1) ∧ w1.ownsRow H 3 1 v' (l ++ [d]).length (cellsN (l ++ [d])) ∧ Below H w w1) := by
            refine ⟨⟨rfl, HST.out⟩, ?_, ?_⟩
            · rw [cellsN_snoc, List.length_append, ← HD.out]
              exact hown'
            · exact (hB.alloc hle _).grown hgrow (by simp; omega) (fun j hj => (hrow.lt j hj).1)
          go_roundw
          case rel => exact ⟨i + 1, 1, 1, l ++ [d], by go_num, by go_num, by omega, by omega, by omega, hrel⟩
          case measure => simp [intOf]; omega
        · skip
          obtain ⟨D, hD⟩ : ∃ D : Int, S = D := ⟨_, rfl⟩
          subst hD
          obtain ⟨d, hd⟩ : ∃ d : Nat, (S : Int) = (d : Int) := ⟨(S).toNat, by omega⟩
          have hst := HSum.out.step (d := d) (c' := 0) (by omega) (by decide) (by
            have h1 := HM.out; have h2 := HN.out; have h3 := HC.out
            omega)
          have HST := Lib.hid hst
          have HD := Lib.hid hd
          have HX := Lib.hid eX
          have HY := Lib.hid eY
          clear hst hd eX hX0 eY hY0
          go_wp2_with (at_builtin; refine wpList_append_own _ rfl _ _ 80 rfl H 3 i0 (.int .i64 0) 1 8 Tryz.underlying80 hi hz0 hz1 hz2 rfl (by decide) _ _ _ rfl (hrow.alloc _) ⟨wr.heap.size, 0, none⟩ 1 1 [Value.int .i64 S] rfl rfl (cell_one_new _ _ _) (by simp [Value.oneCell']) (by simp only [maxLen]; omega) (by omega) (by simp <;> omega) ?_; intro v' w1 hown' hgrow _)
          have hrel : Hid (((0 : Int) = ((0 : Nat) : Int) ∧ Subbed a b (l ++ [d]) (i + 1) 0) ∧ w1.ownsRow H 3 1 v' (l ++ [d]).length (cellsN (l ++ [d])) ∧ Below H w w1) := by
            refine ⟨⟨rfl, HST.out⟩, ?_, ?_⟩
            · rw [cellsN_snoc, List.length_append, ← HD.out]
              exact hown'
            · exact (hB.alloc hle _).grown hgrow (by simp; omega) (fun j hj => (hrow.lt j hj).1)
          go_roundw
          case rel => exact ⟨i + 1, 0, 0, l ++ [d], by go_num, by go_num, by omega, by omega, by omega, hrel⟩
          case measure => simp [intOf]; omega
      · have hN' : ¬ (i : Int) < (n : Int) := by omega
        obtain ⟨g, rfl, hX0⟩ := HA.out i (by omega)
        obtain ⟨X, eX⟩ : ∃ X : Int, (at' a i : Int) = X := ⟨_, rfl⟩
        rw [eX] at hX0
        have hX := (hB0.cell (p := ⟨g, i, none⟩) (World.block_lt_of_cell? _ _ hX0)).trans hX0
        have bX : 0 ≤ X ∧ X < 32768 := by have := at_lt HFa.out i; omega
        obtain ⟨S, hSv⟩ : ∃ S : Int, X - C = S := ⟨_, rfl⟩
        have hsb : -65536 ≤ S ∧ S ≤ 65536 := by omega
        by_cases hneg : S < 0
        · skip
          obtain ⟨D, hD⟩ : ∃ D : Int, S + 32768 = D := ⟨_, rfl⟩
          obtain ⟨d, hd⟩ : ∃ d : Nat, (D : Int) = (d : Int) := ⟨(D).toNat, by omega⟩
          have hst := HSum.out.step (d := d) (c' := 1) (by omega) (by decide) (by
            have h1 := HM.out; have h2 := HN.out; have h3 := HC.out
            have : at' b i = 0 := by unfold at'; rw [dif_neg (by omega)]
            omega)
          have HST := Lib.hid hst
          have HD := Lib.hid hd
          have HX := Lib.hid eX
          clear hst hd eX hX0
          go_wp2_with (at_builtin; refine wpList_append_own _ rfl _ _ 80 rfl H 3 i0 (.int .i64 0) 1 8 Tryz.underlying80 hi hz0 hz1 hz2 rfl (by decide) _ _ _ rfl (hrow.alloc _) ⟨wr.heap.size, 0, none⟩ 1 1 [Value.int .i64 D] rfl rfl (cell_one_new _ _ _) (by simp [Value.oneCell']) (by simp only [maxLen]; omega) (by omega) (by simp <;> omega) ?_; intro v' w1 hown' hgrow _)
          have hrel : Hid (((1 : Int) = ((1 : Nat) : Int) ∧ Subbed a b (l ++ [d]) (i + 1) 1) ∧ w1.ownsRow H 3 1 v' (l ++ [d]).length (cellsN (l ++ [d])) ∧ Below H w w1) := by
            refine ⟨⟨rfl, HST.out⟩, ?_, ?_⟩
            · rw [cellsN_snoc, List.length_append, ← HD.out]
              exact hown'
            · exact (hB.alloc hle _).grown hgrow (by simp; omega) (fun j hj => (hrow.lt j hj).1)
          go_roundw
          case rel => exact ⟨i + 1, 1, 1, l ++ [d], by go_num, by go_num, by omega, by omega, by omega, hrel⟩
          case measure => simp [intOf]; omega
        · skip
          obtain ⟨D, hD⟩ : ∃ D : Int, S = D := ⟨_, rfl⟩
          subst hD
          obtain ⟨d, hd⟩ : ∃ d : Nat, (S : Int) = (d : Int) := ⟨(S).toNat, by omega⟩
          have hst := HSum.out.step (d := d) (c' := 0) (by omega) (by decide) (by
            have h1 := HM.out; have h2 := HN.out; have h3 := HC.out
            have : at' b i = 0 := by unfold at'; rw [dif_neg (by omega)]
            omega)
          have HST := Lib.hid hst
          have HD := Lib.hid hd
          have HX := Lib.hid eX
          clear hst hd eX hX0
          go_wp2_with (at_builtin; refine wpList_append_own _ rfl _ _ 80 rfl H 3 i0 (.int .i64 0) 1 8 Tryz.underlying80 hi hz0 hz1 hz2 rfl (by decide) _ _ _ rfl (hrow.alloc _) ⟨wr.heap.size, 0, none⟩ 1 1 [Value.int .i64 S] rfl rfl (cell_one_new _ _ _) (by simp [Value.oneCell']) (by simp only [maxLen]; omega) (by omega) (by simp <;> omega) ?_; intro v' w1 hown' hgrow _)
          have hrel : Hid (((0 : Int) = ((0 : Nat) : Int) ∧ Subbed a b (l ++ [d]) (i + 1) 0) ∧ w1.ownsRow H 3 1 v' (l ++ [d]).length (cellsN (l ++ [d])) ∧ Below H w w1) := by
            refine ⟨⟨rfl, HST.out⟩, ?_, ?_⟩
            · rw [cellsN_snoc, List.length_append, ← HD.out]
              exact hown'
            · exact (hB.alloc hle _).grown hgrow (by simp; omega) (fun j hj => (hrow.lt j hj).1)
          go_roundw
          case rel => exact ⟨i + 1, 0, 0, l ++ [d], by go_num, by go_num, by omega, by omega, by omega, hrel⟩
          case measure => simp [intOf]; omega
    · have hA' : ¬ (i : Int) < (m : Int) := by omega
      have hd := HSum.out.done (by rw [HM.out]; omega) HLen.out HLe.out
      have hBg := big_of_row hrow
      have CT := Lib.hid (fun W v h => trim_any l v HSum.out.fine W h (by omega))
      rw [hd] at CT
      have HG := Lib.hid hBg
      clear hrow hBg hd
      go_wp2_with (go_at_call 119; refine (CT.out _ _ HG.out).mono ?_; rintro e w1 ⟨v1, rfl, hv1, hb1⟩)
      go_ret
      exact ⟨v1, rfl, hv1, by first | exact hB.trans (hb1.mono hle) | (rw [hH]; exact hB.trans (hb1.mono hle))⟩

end Go.Proofs.YtebfhjndgfcijaaGreatDoor
