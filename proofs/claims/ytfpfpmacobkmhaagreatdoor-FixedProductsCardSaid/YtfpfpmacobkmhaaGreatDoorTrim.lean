/- The document's own answers: trim, order and number. -/
import Derived.Test.YtfpfpmacobkmhaaGreatDoorBig
namespace Go.Proofs.YtfpfpmacobkmhaaGreatDoor
open Go Go.RowKit

theorem fine_take {l : List Nat} (h : Fine l) (k : Nat) : Fine (l.take k) := fun x hx => h x (List.mem_of_mem_take hx)
theorem at_take {l : List Nat} {k j : Nat} (h : j < k) : at' (l.take k) j = at' l j := by
  unfold at'
  by_cases hj : j < l.length
  · rw [dif_pos hj, dif_pos (by rw [List.length_take]; omega), List.getElem_take]
  · rw [dif_neg hj, dif_neg (by rw [List.length_take]; omega)]
theorem take_snoc {l : List Nat} {k : Nat} (h : k < l.length) : l.take (k + 1) = l.take k ++ [at' l k] := by
  unfold at'
  rw [dif_pos h, List.take_succ_eq_append_getElem h]
/-- A slice that holds parts, at an address that is known. -/
def BigP (W : World) (p : Option Addr) (v : Value) (l : List Nat) : Prop :=
  ∃ cap, v = .slice p l.length cap ∧ l.length ≤ cap ∧ ∀ j, j < l.length → ∃ g, p = some ⟨g, 0, none⟩ ∧ W.cell? ⟨g, j, none⟩ = some (.int .i64 (at' l j : Int))
theorem BigP.big {W : World} {p : Option Addr} {v : Value} {l : List Nat} (h : BigP W p v l) : Big W v l := ⟨p, h⟩
theorem BigP.later {W W' : World} {p : Option Addr} {v : Value} {l : List Nat} (h : BigP W p v l) (hb : Below W.heap.size W W') : BigP W' p v l := by
  obtain ⟨cap, rfl, hc, h⟩ := h
  refine ⟨cap, rfl, hc, fun j hj => ?_⟩
  obtain ⟨g, hg, hx⟩ := h j hj
  exact ⟨g, hg, (hb.cell (p := ⟨g, j, none⟩) (World.block_lt_of_cell? _ _ hx)).trans hx⟩
theorem BigP.set {W : World} {p : Option Addr} {v : Value} {l : List Nat} {H k : Nat} (h : BigP W p v l) (hne : ∀ g, p = some ⟨g, 0, none⟩ → g ≠ H) (x : Value) : BigP (W.setCell ⟨H, k, none⟩ x) p v l := by
  obtain ⟨cap, rfl, hc, h⟩ := h
  refine ⟨cap, rfl, hc, fun j hj => ?_⟩
  obtain ⟨g, hg, hx⟩ := h j hj
  exact ⟨g, hg, (World.cell?_setCell_other _ _ _ _ (by have h2 := hne g hg; first | (simp; done) | (simp; omega) | (simp [h2]; done) | (simp [h2, Ne.symm h2]; done))).trans hx⟩

/-- A shorter slice over the same cells. -/
theorem BigP.take {W : World} {p : Option Addr} {l : List Nat} {cap k : Nat} (hk : k ≤ l.length) (hc : l.length ≤ cap) (h : ∀ j, j < l.length → ∃ g, p = some ⟨g, 0, none⟩ ∧ W.cell? ⟨g, j, none⟩ = some (.int .i64 (at' l j : Int))) :
    BigP W p (.slice p k cap) (l.take k) :=
  ⟨cap, by rw [List.length_take, Nat.min_eq_left hk], by rw [List.length_take]; omega, fun j hj => by
    rw [List.length_take] at hj
    rw [at_take (by omega)]
    exact h j (by omega)⟩

set_option maxRecDepth 100000 in
set_option maxHeartbeats 1000000 in
theorem trim_p (l : List Nat) (v : Value) (p : Option Addr) (hf : Fine l) (w : World) (hv : BigP w p v l) (hl : l.length ≤ 1000) :
    Calls Tryz.prog 81 #[v] w fun e w' => ∃ v', e = .returned v' ∧ BigP w' p v' (parts (pv l)) ∧ Below w.heap.size w w' := by
  obtain ⟨cap, rfl, hc, hx⟩ := hv
  obtain ⟨n, hn⟩ : ∃ n, l.length = n := ⟨_, rfl⟩
  have HX := Lib.hid hx
  have HF := Lib.hid hf
  rw [hn]
  have hcap : (n : Nat) ≤ cap := by omega
  have hS : Hid (n ≤ l.length ∧ pv (l.take n) = pv l) := ⟨by omega, by rw [← hn, List.take_length]⟩
  have hn1 : n ≤ 1000 := by omega
  have HC := Lib.hid hc
  clear hx hf hc hn hl
  go_enter Tryz.func81, Tryz.ntmps81
  go_wp2_with fail
  go_loopw [0] (fun s wr => ∃ k : Nat, s = .slice p k cap ∧ k ≤ cap ∧ k ≤ 1000 ∧ wr = w ∧ Hid (k ≤ l.length ∧ pv (l.take k) = pv l)) (fun s _ => match s with | .slice _ k _ => k | _ => 0)
  case atStart => exact ⟨n, rfl, hcap, hn1, rfl, hS⟩
  case round =>
    obtain ⟨k, rfl, hkc, hk1, rfl, hI⟩ := hrel
    clear hS hcap hn1
    by_cases hz : k = 0
    · subst hz
      have hp0 : pv l = 0 := by rw [← hI.out.2]; rfl
      have hB : BigP wr p (.slice p 0 cap) (parts (pv l)) := by
        rw [hp0, parts_zero]
        exact BigP.take (Nat.zero_le _) HC.out HX.out
      have HB := Lib.hid hB
      clear hB hp0 hI
      go_wp2_with fail
      go_ret
      exact ⟨_, rfl, HB.out, Below.refl _ _⟩
    · obtain ⟨m, rfl⟩ : ∃ m, k = m + 1 := ⟨k - 1, by omega⟩
      have hm : ((m + 1 : Nat) : Int) - 1 = (m : Int) := by omega
      have hm0 : (0 : Int) < ((m + 1 : Nat) : Int) := by omega
      obtain ⟨g, rfl, hcell⟩ := HX.out m (by have := hI.out.1; omega)
      obtain ⟨X, hX⟩ : ∃ X : Int, (at' l m : Int) = X := ⟨_, rfl⟩
      rw [hX] at hcell
      obtain ⟨K, hK⟩ : ∃ K, m + 1 = K := ⟨_, rfl⟩
      have HK := Lib.hid hK
      rw [hK] at hm hm0 hkc hk1 hI ⊢
      clear hK
      by_cases h0 : X = 0
      · subst h0
        go_wp2_with fail
        go_roundw
        case rel =>
          refine ⟨m, by go_num, by have := HK.out; omega, by have := HK.out; omega, by trivial, by have := HK.out; have := hI.out.1; omega, ?_⟩
          have h1 := hI.out.2
          rw [← HK.out, take_snoc (by have := HK.out; have := hI.out.1; omega), show at' l m = 0 by omega, pv_snoc_zero] at h1
          exact h1
        case measure => have := HK.out; simp; omega
      · have hB : BigP wr (some ⟨g, 0, none⟩) (.slice (some ⟨g, 0, none⟩) K cap) (parts (pv l)) := by
          have hle := hI.out.1
          rw [← hI.out.2, parts_pv _ (fine_take HF.out K)]
          · exact BigP.take hle HC.out HX.out
          · rw [← HK.out, take_snoc (by have := HK.out; omega), List.getLast?_append, List.getLast?_singleton]
            intro e
            have := Option.some.inj e
            omega
        have HB := Lib.hid hB
        clear hB hI
        go_wp2_with fail
        go_ret
        exact ⟨_, rfl, HB.out, Below.refl _ _⟩

theorem trim_any (l : List Nat) (v : Value) (hf : Fine l) (w : World) (hv : Big w v l) (hl : l.length ≤ 1000) :
    Calls Tryz.prog 81 #[v] w fun e w' => ∃ v', e = .returned v' ∧ Holds w' v' (pv l) ∧ Below w.heap.size w w' := by
  obtain ⟨p, hp⟩ := hv
  refine (trim_p l v p hf w hp hl).mono ?_
  rintro e w' ⟨v', rfl, hv', hb⟩
  exact ⟨v', rfl, ⟨p, hv'⟩, hb⟩

end Go.Proofs.YtfpfpmacobkmhaaGreatDoor
