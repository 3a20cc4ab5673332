/- The document's own answers: numbers as slices of parts in memory; the contract of of. -/
import Derived.Test.YtebfhjndgfcijaaGreatDoorParts
import Derived.Test.YtebfhjndgfcijaaGreatDoorCore
import Derived.Laws.AppendOwn
import Derived.Maps.AppendAt
import Derived.RangeFuncBox
import Derived.OwnWalk
import Derived.WalkKit
import Derived.BigQuiet
import Derived.Deep.QuietTactic
import Derived.Lib.Hide
namespace Go.Proofs.YtebfhjndgfcijaaGreatDoor
open Go Go.RowKit

theorem infoInt : (Tryz.prog.info? 3).map (fun i => (i.zero, i.size, i.bytes)) = some (some (.int .i64 0), 1, 8) := by kernel_rfl

/-- Parts as cells. -/
def cellsN (l : List Nat) : List Value := l.map fun x : Nat => Value.int .i64 (x : Int)
theorem cellsN_length (l : List Nat) : (cellsN l).length = l.length := List.length_map ..
theorem cellsN_snoc (l : List Nat) (x : Nat) : cellsN (l ++ [x]) = cellsN l ++ [Value.int .i64 (x : Int)] := List.map_append ..

/-- A slice that holds parts. -/
def Big (W : World) (v : Value) (l : List Nat) : Prop :=
  ∃ p cap, v = .slice p l.length cap ∧ l.length ≤ cap ∧ ∀ j, j < l.length → ∃ g, p = some ⟨g, 0, none⟩ ∧ W.cell? ⟨g, j, none⟩ = some (.int .i64 (at' l j : Int))

theorem Big.later {W W' : World} {v : Value} {l : List Nat} (h : Big W v l) (hb : Below W.heap.size W W') : Big W' v l := by
  obtain ⟨p, cap, rfl, hc, h⟩ := h
  refine ⟨p, cap, rfl, hc, fun j hj => ?_⟩
  obtain ⟨g, hg, hx⟩ := h j hj
  exact ⟨g, hg, (hb.cell (p := ⟨g, j, none⟩) (World.block_lt_of_cell? _ _ hx)).trans hx⟩

theorem big_of_row {W : World} {base : Nat} {v : Value} {l : List Nat} (h : W.ownsRow base 3 1 v l.length (cellsN l)) : Big W v l := by
  have h2 := h
  rcases h2.2 with ⟨rfl, h0⟩ | ⟨g, cap, cur, rfl, _, _, hn, _⟩
  · exact ⟨none, 0, by rw [h0], by omega, fun j hj => by omega⟩
  · refine ⟨some ⟨g, 0, none⟩, cap, rfl, hn, fun j hj => ⟨g, rfl, ?_⟩⟩
    have hx := h.cells (g := g) rfl j (Value.int .i64 (at' l j : Int)) (by unfold at'; rw [dif_pos hj]; simp [cellsN, hj])
    have e : (⟨g, 0, none⟩ : Addr).add j = ⟨g, j, none⟩ := by by_cases h0 : j = 0 <;> simp [Addr.add, h0]
    rw [e] at hx
    exact hx

/-- A slice that holds a number. -/
def Holds (W : World) (v : Value) (n : Nat) : Prop := Big W v (parts n)
theorem Holds.later {W W' : World} {v : Value} {n : Nat} (h : Holds W v n) (hb : Below W.heap.size W W') : Holds W' v n := Big.later h hb

set_option maxRecDepth 100000 in
set_option maxHeartbeats 1000000 in
theorem refOf_any (n : Nat) (N : Int) (hN : (n : Int) = N) (hN1 : N ≤ 4611686018427387904) (w : World) :
    Calls Tryz.prog 50 #[.int .i64 N] w fun e w' => ∃ v, e = .returned v ∧ Holds w' v n ∧ Below w.heap.size w w' := by
  obtain ⟨i0, hi, hz0, hz1, hz2⟩ := info_parts infoInt
  have hlen : (parts n).length ≤ 5 := parts_length 5 n (by have : (32768 : Nat) ^ 5 = 37778931862957161709568 := by decide
                                                           omega)
  have HL := Lib.hid hlen
  have hN0 : 0 ≤ N := by omega
  obtain ⟨H, hH⟩ : ∃ H, w.heap.size = H := ⟨_, rfl⟩
  have hS : Hid ((N = ((n : Nat) : Int) ∧ [] ++ parts n = parts n) ∧ w.ownsRow H 3 1 (.slice none 0 0) ([] : List Nat).length (cellsN []) ∧ Below H w w) :=
    ⟨⟨hN.symm, rfl⟩, World.ownsRow_nil _ _ _ _, Below.refl _ _⟩
  clear hN hlen
  go_enter Tryz.func50, Tryz.ntmps50
  go_wp2_with fail
  go_loopw [0, 3] (fun m o wr => ∃ (k : Nat) (M : Int) (l : List Nat), m = .int .i64 M ∧ 0 ≤ M ∧ M ≤ 4611686018427387904 ∧ Hid ((M = (k : Int) ∧ l ++ parts k = parts n) ∧ wr.ownsRow H 3 1 o l.length (cellsN l) ∧ Below H w wr)) (fun m _ _ => (intOf m).toNat)
  case atStart => exact ⟨n, N, [], rfl, hN0, hN1, hS⟩
  case round =>
    obtain ⟨k, M, l, rfl, hM0, hM1, hI⟩ := hrel
    clear hS
    obtain ⟨⟨hk, hp⟩, hrow, hB⟩ := hI.out
    by_cases hz : 0 < M
    · obtain ⟨X, hX⟩ : ∃ X : Int, M % 32768 = X := ⟨_, rfl⟩
      obtain ⟨M2, hM2⟩ : ∃ M2 : Int, M / 32768 = M2 := ⟨_, rfl⟩
      have hll : l.length ≤ 5 := by have := HL.out; rw [← hp, List.length_append] at this; omega
      have hle : H ≤ wr.heap.size := by have := hB.size; omega
      have HK := Lib.hid hk
      have HP := Lib.hid hp
      clear hk hp hI
      go_wp2_with (at_builtin; refine wpList_append_own _ rfl _ _ 80 rfl H 3 i0 (.int .i64 0) 1 8 Tryz.underlying80 hi hz0 hz1 hz2 rfl (by decide) _ _ _ rfl (hrow.alloc _) ⟨wr.heap.size, 0, none⟩ 1 1 [Value.int .i64 X] rfl rfl (cell_one_new _ _ _) (by simp [Value.oneCell']) (by simp only [maxLen]; omega) (by omega) (by simp <;> omega) ?_; intro v' w1 hown' hgrow _)
      have hk1 := HK.out
      have hne : k ≠ 0 := by omega
      have hrel : Hid ((M2 = ((k / 32768 : Nat) : Int) ∧ (l ++ [k % 32768]) ++ parts (k / 32768) = parts n) ∧ w1.ownsRow H 3 1 v' (l ++ [k % 32768]).length (cellsN (l ++ [k % 32768])) ∧ Below H w w1) := by
        refine ⟨⟨by omega, ?_⟩, ?_, ?_⟩
        · rw [List.append_assoc, ← HP.out, parts_pos hne]
          rfl
        · rw [cellsN_snoc, List.length_append, show ((k % 32768 : Nat) : Int) = X by omega]
          exact hown'
        · exact (hB.alloc hle _).grown hgrow (by simp; omega) (fun j hj => (hrow.lt j hj).1)
      have hM2b : 0 ≤ M2 ∧ M2 ≤ 4611686018427387904 := by omega
      have hlt : M2.toNat < M.toNat := by omega
      go_roundw
      case rel => exact ⟨k / 32768, M2, l ++ [k % 32768], by go_num, hM2b.1, hM2b.2, hrel⟩
      case measure => simp [intOf]; omega
    · have hk0 : k = 0 := by omega
      have hlp : l = parts n := by rw [hk0, parts_zero, List.append_nil] at hp; exact hp
      have hBg := big_of_row hrow
      rw [hlp] at hBg
      have HG := Lib.hid hBg
      clear hrow hp hI hBg hlp
      go_wp2_with fail
      go_ret
      exact ⟨_, rfl, HG.out, hB⟩

end Go.Proofs.YtebfhjndgfcijaaGreatDoor

namespace Go.Proofs.YtebfhjndgfcijaaGreatDoor
open Go Go.RowKit

theorem fine_take {l : List Nat} (h : Fine l) (k : Nat) : Fine (l.take k) := fun x hx => h x (List.mem_of_mem_take hx)
theorem at_take {l : List Nat} {k j : Nat} (h : j < k) : at' (l.take k) j = at' l j := by
  unfold at'
  by_cases hj : j < l.length
  · rw [dif_pos hj, dif_pos (by rw [List.length_take]; omega), List.getElem_take]
  · rw [dif_neg hj, dif_neg (by rw [List.length_take]; omega)]
theorem take_snoc {l : List Nat} {k : Nat} (h : k < l.length) : l.take (k + 1) = l.take k ++ [at' l k] := by
  unfold at'
  rw [dif_pos h, List.take_succ_eq_append_getElem h]
/-- A slice that holds parts, at an address that is known. -/
def BigP (W : World) (p : Option Addr) (v : Value) (l : List Nat) : Prop :=
  ∃ cap, v = .slice p l.length cap ∧ l.length ≤ cap ∧ ∀ j, j < l.length → ∃ g, p = some ⟨g, 0, none⟩ ∧ W.cell? ⟨g, j, none⟩ = some (.int .i64 (at' l j : Int))
theorem BigP.big {W : World} {p : Option Addr} {v : Value} {l : List Nat} (h : BigP W p v l) : Big W v l := ⟨p, h⟩
theorem BigP.later {W W' : World} {p : Option Addr} {v : Value} {l : List Nat} (h : BigP W p v l) (hb : Below W.heap.size W W') : BigP W' p v l := by
  obtain ⟨cap, rfl, hc, h⟩ := h
  refine ⟨cap, rfl, hc, fun j hj => ?_⟩
  obtain ⟨g, hg, hx⟩ := h j hj
  exact ⟨g, hg, (hb.cell (p := ⟨g, j, none⟩) (World.block_lt_of_cell? _ _ hx)).trans hx⟩
theorem BigP.set {W : World} {p : Option Addr} {v : Value} {l : List Nat} {H k : Nat} (h : BigP W p v l) (hne : ∀ g, p = some ⟨g, 0, none⟩ → g ≠ H) (x : Value) : BigP (W.setCell ⟨H, k, none⟩ x) p v l := by
  obtain ⟨cap, rfl, hc, h⟩ := h
  refine ⟨cap, rfl, hc, fun j hj => ?_⟩
  obtain ⟨g, hg, hx⟩ := h j hj
  exact ⟨g, hg, (World.cell?_setCell_other _ _ _ _ (by have h2 := hne g hg; first | (simp; done) | (simp; omega) | (simp [h2]; done) | (simp [h2, Ne.symm h2]; done))).trans hx⟩

/-- A shorter slice over the same cells. -/
theorem BigP.take {W : World} {p : Option Addr} {l : List Nat} {cap k : Nat} (hk : k ≤ l.length) (hc : l.length ≤ cap) (h : ∀ j, j < l.length → ∃ g, p = some ⟨g, 0, none⟩ ∧ W.cell? ⟨g, j, none⟩ = some (.int .i64 (at' l j : Int))) :
    BigP W p (.slice p k cap) (l.take k) :=
  ⟨cap, by rw [List.length_take, Nat.min_eq_left hk], by rw [List.length_take]; omega, fun j hj => by
    rw [List.length_take] at hj
    rw [at_take (by omega)]
    exact h j (by omega)⟩

set_option maxRecDepth 100000 in
set_option maxHeartbeats 1000000 in
theorem trim_p (l : List Nat) (v : Value) (p : Option Addr) (hf : Fine l) (w : World) (hv : BigP w p v l) (hl : l.length ≤ 1000) :
    Calls Tryz.prog 119 #[v] w fun e w' => ∃ v', e = .returned v' ∧ BigP w' p v' (parts (pv l)) ∧ Below w.heap.size w w' := by
  obtain ⟨cap, rfl, hc, hx⟩ := hv
  obtain ⟨n, hn⟩ : ∃ n, l.length = n := ⟨_, rfl⟩
  have HX := Lib.hid hx
  have HF := Lib.hid hf
  rw [hn]
  have hcap : (n : Nat) ≤ cap := by omega
  have hS : Hid (n ≤ l.length ∧ pv (l.take n) = pv l) := ⟨by omega, by rw [← hn, List.take_length]⟩
  have hn1 : n ≤ 1000 := by omega
  have HC := Lib.hid hc
  clear hx hf hc hn hl
  go_enter Tryz.func119, Tryz.ntmps119
  go_wp2_with fail
  go_loopw [0] (fun s wr => ∃ k : Nat, s = .slice p k cap ∧ k ≤ cap ∧ k ≤ 1000 ∧ wr = w ∧ Hid (k ≤ l.length ∧ pv (l.take k) = pv l)) (fun s _ => match s with | .slice _ k _ => k | _ => 0)
  case atStart => exact ⟨n, rfl, hcap, hn1, rfl, hS⟩
  case round =>
    obtain ⟨k, rfl, hkc, hk1, rfl, hI⟩ := hrel
    clear hS hcap hn1
    by_cases hz : k = 0
    · subst hz
      have hp0 : pv l = 0 := by rw [← hI.out.2]; rfl
      have hB : BigP wr p (.slice p 0 cap) (parts (pv l)) := by
        rw [hp0, parts_zero]
        exact BigP.take (Nat.zero_le _) HC.out HX.out
      have HB := Lib.hid hB
      clear hB hp0 hI
      go_wp2_with fail
      go_ret
      exact ⟨_, rfl, HB.out, Below.refl _ _⟩
    · obtain ⟨m, rfl⟩ : ∃ m, k = m + 1 := ⟨k - 1, by omega⟩
      have hm : ((m + 1 : Nat) : Int) - 1 = (m : Int) := by omega
      have hm0 : (0 : Int) < ((m + 1 : Nat) : Int) := by omega
      obtain ⟨g, rfl, hcell⟩ := HX.out m (by have := hI.out.1; omega)
      obtain ⟨X, hX⟩ : ∃ X : Int, (at' l m : Int) = X := ⟨_, rfl⟩
      rw [hX] at hcell
      obtain ⟨K, hK⟩ : ∃ K, m + 1 = K := ⟨_, rfl⟩
      have HK := Lib.hid hK
      rw [hK] at hm hm0 hkc hk1 hI ⊢
      clear hK
      by_cases h0 : X = 0
      · subst h0
        go_wp2_with fail
        go_roundw
        case rel =>
          refine ⟨m, by go_num, by have := HK.out; omega, by have := HK.out; omega, by trivial, by have := HK.out; have := hI.out.1; omega, ?_⟩
          have h1 := hI.out.2
          rw [← HK.out, take_snoc (by have := HK.out; have := hI.out.1; omega), show at' l m = 0 by omega, pv_snoc_zero] at h1
          exact h1
        case measure => have := HK.out; simp; omega
      · have hB : BigP wr (some ⟨g, 0, none⟩) (.slice (some ⟨g, 0, none⟩) K cap) (parts (pv l)) := by
          have hle := hI.out.1
          rw [← hI.out.2, parts_pv _ (fine_take HF.out K)]
          · exact BigP.take hle HC.out HX.out
          · rw [← HK.out, take_snoc (by have := HK.out; omega), List.getLast?_append, List.getLast?_singleton]
            intro e
            have := Option.some.inj e
            omega
        have HB := Lib.hid hB
        clear hB hI
        go_wp2_with fail
        go_ret
        exact ⟨_, rfl, HB.out, Below.refl _ _⟩

theorem trim_any (l : List Nat) (v : Value) (hf : Fine l) (w : World) (hv : Big w v l) (hl : l.length ≤ 1000) :
    Calls Tryz.prog 119 #[v] w fun e w' => ∃ v', e = .returned v' ∧ Holds w' v' (pv l) ∧ Below w.heap.size w w' := by
  obtain ⟨p, hp⟩ := hv
  refine (trim_p l v p hf w hp hl).mono ?_
  rintro e w' ⟨v', rfl, hv', hb⟩
  exact ⟨v', rfl, ⟨p, hv'⟩, hb⟩

end Go.Proofs.YtebfhjndgfcijaaGreatDoor
