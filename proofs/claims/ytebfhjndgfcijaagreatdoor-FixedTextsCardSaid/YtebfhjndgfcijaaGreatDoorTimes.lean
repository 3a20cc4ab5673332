/- The document's own answers: times. -/
import Derived.Test.YtebfhjndgfcijaaGreatDoorSum
namespace Go.Proofs.YtebfhjndgfcijaaGreatDoor
open Go Go.RowKit

/-- A row of cells that the call has made and writes: the parts. -/
def Row (W : World) (g : Nat) (l : List Nat) : Prop := ∀ j, j < l.length → W.cell? ⟨g, j, none⟩ = some (.int .i64 (at' l j : Int)) ∧ W.frozen? ⟨g, j, none⟩ = false
theorem Row.set {W : World} {g : Nat} {l : List Nat} (h : Row W g l) (j x : Nat) (hj : j < l.length) : Row (W.setCell ⟨g, j, none⟩ (.int .i64 (x : Int))) g (l.set j x) := fun k hk => by
  rw [List.length_set] at hk
  rw [World.frozen?_setCell]
  refine ⟨?_, (h k hk).2⟩
  by_cases e : k = j
  · subst e
    rw [at_set_same _ hj]
    obtain ⟨y, hy⟩ : ∃ y, W.cell? ⟨g, k, none⟩ = some y := ⟨_, (h k hk).1⟩
    exact World.cell?_setCell_same _ _ _ hy
  · rw [at_set_other _ (fun h => e h.symm)]
    exact (World.cell?_setCell_other _ _ _ _ (by simp [e])).trans (h k hk).1
theorem Row.drew {W : World} {g k : Nat} {l : List Nat} (h : Row W g l) : Row (W.drewN k) g l := h
theorem Row.big {W : World} {g cap : Nat} {l : List Nat} (h : Row W g l) (hc : l.length ≤ cap) : Big W (.slice (some ⟨g, 0, none⟩) l.length cap) l :=
  ⟨some ⟨g, 0, none⟩, cap, rfl, hc, fun j hj => ⟨g, rfl, (h j hj).1⟩⟩

theorem row_made {W : World} {base g n : Nat} (h : W.ownsRow base 3 1 (.slice (some ⟨g, 0, none⟩) n n) n (madeCells (Value.int .i64 0).cells (n * 1)).toList) : Row W g (List.replicate n 0) := fun j hj => by
  rw [List.length_replicate] at hj
  refine ⟨?_, h.frozenAt j⟩
  rw [h.cellAt j (by omega), at_zeros, show (Value.int .i64 0).cells = #[Value.int .i64 0] from rfl, toList_madeCells_one, List.getElem?_replicate, if_pos (by omega)]
  rfl

set_option maxRecDepth 100000 in
set_option maxHeartbeats 2000000 in
theorem refTimes_big (a b : List Nat) (va vb : Value) (fa : Fine a) (fb : Fine b) (w : World) (ha : Big w va a) (hb : Big w vb b) (hla : a.length ≤ 400) (hlb : b.length ≤ 400) :
    Calls Tryz.prog 49 #[va, vb] w fun e w' => ∃ v, e = .returned v ∧ Holds w' v (pv a * pv b) ∧ Below w.heap.size w w' := by
  obtain ⟨i0, hi, hz0, hz1, hz2⟩ := info_parts infoInt
  obtain ⟨p, ca, rfl, _, ha⟩ := ha
  obtain ⟨q, cb, rfl, _, hb⟩ := hb
  obtain ⟨m, hm⟩ : ∃ m, a.length = m := ⟨_, rfl⟩
  obtain ⟨n, hn⟩ : ∃ n, b.length = n := ⟨_, rfl⟩
  have HA : Hid (∀ j, j < m → ∃ g, p = some ⟨g, 0, none⟩ ∧ w.cell? ⟨g, j, none⟩ = some (.int .i64 (at' a j : Int))) := by rw [← hm]; exact ha
  have HB : Hid (∀ j, j < n → ∃ g, q = some ⟨g, 0, none⟩ ∧ w.cell? ⟨g, j, none⟩ = some (.int .i64 (at' b j : Int))) := by rw [← hn]; exact hb
  have HM : Hid (a.length = m) := hm
  have HN : Hid (b.length = n) := hn
  have HFa := Lib.hid fa
  have HFb := Lib.hid fb
  rw [hm] at hla ⊢
  rw [hn] at hlb ⊢
  obtain ⟨H, hH⟩ : ∃ H, w.heap.size = H := ⟨_, rfl⟩
  clear ha hb hm hn fa fb
  go_enter Tryz.func49, Tryz.ntmps49
  go_wp2_with (at_make; refine wpList_make_full _ rfl _ _ 80 rfl H 3 i0 (.int .i64 0) 1 Tryz.underlying80 hi hz0 hz1 .i64 .i64 _ _ (m + n) rfl rfl (by omega) (by omega) (by rw [hz2]; omega) (by simp only [maxLen]; omega) (by omega) ?_; intro w1 hown hgrow)
  rw [hH] at hown
  have hrow0 := row_made hown
  have hB1 : Below H w w1 := (Below.refl H w).grown hgrow (by omega) (fun j hj => by cases hj)
  obtain ⟨t, ht⟩ : ∃ t, m + n = t := ⟨_, rfl⟩
  rw [ht] at hrow0 ⊢
  have hS : Hid (Timed a b (List.replicate t 0) 0 ∧ Row w1 H (List.replicate t 0) ∧ Below H w w1) :=
    ⟨by rw [← ht, ← HM.out, ← HN.out]; exact Timed.start a b, hrow0, hB1⟩
  have ht1 : (m : Int) + (n : Int) = (t : Int) := by omega
  clear hown hgrow hrow0 hB1
  go_loopw [6] (fun i wr => ∃ (i' : Nat) (l : List Nat), i = .int .i64 (i' : Int) ∧ (i' : Int) ≤ (m : Int) ∧ Hid (Timed a b l i' ∧ Row wr H l ∧ Below H w wr)) (fun i _ => 1002 - (intOf i).toNat)
  case atStart => exact ⟨0, _, by go_num, by omega, hS⟩
  case round =>
    obtain ⟨i, l, rfl, hi1, hI⟩ := hrel
    clear hS
    by_cases hA : i < m
    · have hA' : (i : Int) < (m : Int) := by omega
      have hlen : Hid (l.length = t) := by have := hI.out.1.len; have h1 := HM.out; have h2 := HN.out; show _ = _; omega
      have hS2 : Hid (Timing a b l l i 0 0 ∧ Row wr H l ∧ Below H w wr) := ⟨hI.out.1.enter, hI.out.2.1, hI.out.2.2⟩
      have HT := Lib.hid hI.out.1
      clear hI
      go_wp2_with fail
      go_loopw [7, 8] (fun c k wr => ∃ (k' c' : Nat) (C : Int) (o : List Nat), c = .int .i64 C ∧ k = .int .i64 (k' : Int) ∧ 0 ≤ C ∧ C < 32768 ∧ (k' : Int) ≤ (n : Int) ∧ Hid (C = (c' : Int) ∧ Timing a b l o i k' c' ∧ Row wr H o ∧ Below H w wr)) (fun c k _ => 2 * (1002 - (intOf k).toNat) + 0 * (intOf c).toNat)
      case atStart => exact ⟨0, 0, 0, l, rfl, by go_num, by omega, by omega, by omega, ⟨rfl, hS2.out.1, hS2.out.2.1, hS2.out.2.2⟩⟩
      case round =>
        obtain ⟨k, c, C, o, rfl, rfl, hC0, hC1, hk1, hI⟩ := hrel
        clear hS2
        obtain ⟨hc, htim, hro, hB⟩ := hI.out
        have hB0 : Below w.heap.size w wr := by rw [hH]; exact hB
        have hlo : o.length = t := by have h1 := htim.len; have h2 := HM.out; have h3 := HN.out; omega
        clear hI
        by_cases hN : k < n
        · have hN' : (k : Int) < (n : Int) := by omega
          obtain ⟨g, rfl, hx0⟩ := HA.out i (by omega)
          obtain ⟨X, eX⟩ : ∃ X : Int, (at' a i : Int) = X := ⟨_, rfl⟩
          rw [eX] at hx0
          have hx := (hB0.cell (p := ⟨g, i, none⟩) (World.block_lt_of_cell? _ _ hx0)).trans hx0
          obtain ⟨g2, rfl, hy0⟩ := HB.out k (by omega)
          obtain ⟨Y, eY⟩ : ∃ Y : Int, (at' b k : Int) = Y := ⟨_, rfl⟩
          rw [eY] at hy0
          have hy := (hB0.cell (p := ⟨g2, k, none⟩) (World.block_lt_of_cell? _ _ hy0)).trans hy0
          obtain ⟨J, hJ⟩ : ∃ J : Nat, i + k = J := ⟨_, rfl⟩
          have hJ1 : (i : Int) + (k : Int) = (J : Int) := by omega
          have hJ2 : (J : Int) < (t : Int) := by omega
          obtain ⟨O, eO⟩ : ∃ O : Int, (at' o J : Int) = O := ⟨_, rfl⟩
          obtain ⟨ho, hof⟩ := hro J (by omega)
          rw [eO] at ho
          have bX : 0 ≤ X ∧ X < 32768 := by have := at_lt HFa.out i; omega
          have bY : 0 ≤ Y ∧ Y < 32768 := by have := at_lt HFb.out k; omega
          have bO : 0 ≤ O ∧ O < 32768 := by have := at_lt htim.fine J; omega
          obtain ⟨Z, hZ⟩ : ∃ Z : Int, X * Y = Z := ⟨_, rfl⟩
          have bZ : 0 ≤ Z ∧ Z ≤ 1073676289 := by
            have h1 : at' a i * at' b k ≤ 32767 * 32767 := Nat.mul_le_mul (by omega) (by omega)
            have h2 : ((at' a i * at' b k : Nat) : Int) = Z := by rw [Int.natCast_mul, eX, eY, hZ]
            omega
          obtain ⟨S, hSv⟩ : ∃ S : Int, C + O + Z = S := ⟨_, rfl⟩
          obtain ⟨D, hD⟩ : ∃ D : Int, S % 32768 = D := ⟨_, rfl⟩
          obtain ⟨C2, hC2⟩ : ∃ C2 : Int, S / 32768 = C2 := ⟨_, rfl⟩
          have hst := htim.step HFa.out HFb.out (by have := HM.out; omega) (by have := HN.out; omega)
          rw [hJ] at hst
          obtain ⟨d, hd⟩ : ∃ d, (c + at' o J + at' a i * at' b k) % 32768 = d := ⟨_, rfl⟩
          obtain ⟨c2, hc2⟩ : ∃ c2, (c + at' o J + at' a i * at' b k) / 32768 = c2 := ⟨_, rfl⟩
          rw [hd, hc2] at hst
          have hsum : ((c + at' o J + at' a i * at' b k : Nat) : Int) = S := by
            rw [Int.natCast_add, Int.natCast_add, Int.natCast_mul, eX, eY, eO, hZ, ← hc]
            exact hSv
          have eD : D = (d : Int) := by omega
          have eC : C2 = (c2 : Int) := by omega
          have hb2 : 0 ≤ C2 ∧ C2 < 32768 := by have := hst.carry; omega
          have hrs : Row (wr.setCell ⟨H, J, none⟩ (.int .i64 D)) H (o.set J d) := by rw [eD]; exact hro.set J d (by omega)
          have hBs : Below H w (wr.setCell ⟨H, J, none⟩ (.int .i64 D)) := hB.setCell (Nat.le_refl _) _
          have HST := Lib.hid hst
          have HRS := Lib.hid hrs
          have HBS := Lib.hid hBs
          have HEC := Lib.hid eC
          clear hst hrs hBs eD eC hsum hd hc2 htim hro hB hc eX eY eO hx0 hy0 hlo
          go_wp2_with fail
          go_quiet (fail)
          go_wp2_with fail
          go_roundw
          case rel => exact ⟨k + 1, c2, C2, o.set J d, by go_num, by go_num, hb2.1, hb2.2, by omega, ⟨HEC.out, HST.out, HRS.out, HBS.out.trans (bdn _)⟩⟩
          case measure => simp [intOf]; omega
        · have hN' : ¬ (k : Int) < (n : Int) := by omega
          obtain ⟨J, hJ⟩ : ∃ J : Nat, i + n = J := ⟨_, rfl⟩
          have hJ1 : (i : Int) + (n : Int) = (J : Int) := by omega
          have hJ2 : (J : Int) < (t : Int) := by omega
          obtain ⟨O, eO⟩ : ∃ O : Int, (at' o J : Int) = O := ⟨_, rfl⟩
          obtain ⟨ho, hof⟩ := hro J (by omega)
          rw [eO] at ho
          have hkn : k = b.length := by have := HN.out; omega
          have hlv := (show Timing a b l o i b.length c by rw [← hkn]; exact htim).leave HT.out (by have := HM.out; omega)
          rw [show i + b.length = J by have := HN.out; omega] at hlv
          have hrs : Row (wr.setCell ⟨H, J, none⟩ (.int .i64 C)) H (o.set J c) := by rw [hc]; exact hro.set J c (by omega)
          have hBs : Below H w (wr.setCell ⟨H, J, none⟩ (.int .i64 C)) := hB.setCell (Nat.le_refl _) _
          have HLV := Lib.hid hlv
          have HRS := Lib.hid hrs
          have HBS := Lib.hid hBs
          clear hlv hrs hBs htim hro hB hc eO hlo hkn
          go_wp2_with fail
          go_roundw
          case rel => exact ⟨i + 1, o.set J c, by go_num, by omega, ⟨HLV.out, HRS.out, HBS.out⟩⟩
          case measure => simp [intOf]; omega
    · have hA' : ¬ (i : Int) < (m : Int) := by omega
      obtain ⟨htm, hro, hB⟩ := hI.out
      have hd := htm.done (by have := HM.out; omega)
      have hlt : l.length = t := by have := htm.len; have h1 := HM.out; have h2 := HN.out; omega
      have hBg : Big wr (.slice (some ⟨H, 0, none⟩) t t) l := by
        have := hro.big (cap := t) (by omega)
        rw [hlt] at this
        exact this
      have CT := Lib.hid (fun W v h => trim_any l v htm.fine W h (by omega))
      rw [hd] at CT
      have HG := Lib.hid hBg
      clear hI htm hro hBg hd
      go_wp2_with (go_at_call 119; refine (CT.out _ _ HG.out).mono ?_; rintro e w2 ⟨v1, rfl, hv1, hb1⟩)
      go_ret
      exact ⟨v1, rfl, hv1, by first | exact hB.trans (hb1.mono hB.size) | (rw [hH]; exact hB.trans (hb1.mono (by have := hB.size; omega)))⟩

end Go.Proofs.YtebfhjndgfcijaaGreatDoor
