/- The law SheetOwns over any list, but for its opening examples. -/
import Derived.Test.YtfdhgimpdmhdeaaGreatDoorOwnsLaw
import Derived.Test.YtfdhgimpdmhdeaaGreatDoorNils
namespace Go.Proofs.YtfdhgimpdmhdeaaGreatDoor
open Go Go.RowKit Go.Sort

set_option maxRecDepth 100000 in
set_option maxHeartbeats 2000000 in
theorem clone_nil (pt : Option Addr) (c : Nat) (w : World) :
    Calls Tryz.prog 32 #[.slice pt 0 c] w fun e w' => ∃ p k, e = .returned (.slice p 0 k) ∧ OwnS w' w.heap.size (.slice p 0 k) [] ∧ Below w.heap.size w w' := by
  have q22 : ∀ (w : World) (a : Option Addr) (n c n' c' : Nat), (binOp .eql 22 (.slice a n c) (.slice none n' c')).run Tryz.prog w = .ok (.bool a.isNone) w := fun w a n c n' c' => Lib.run_eql_slice_nil w _ _ a n c n' c' stones_under
  obtain ⟨i0, hi, hz0, hz1, hz2⟩ := info_parts stone_info
  rcases pt with _ | ad
  · go_enter Tryz.func32, Tryz.ntmps32
    go_wp2_with fail
    go_ret
    exact ⟨none, 0, rfl, World.ownsRow_nil _ _ _ _, Below.refl _ _⟩
  · go_enter Tryz.func32, Tryz.ntmps32
    go_wp2_with (at_builtin; refine wpList_append_own _ rfl _ _ 22 rfl w.heap.size 39 i0 (.agg #[.int .i64 0, .int .i64 0, .int .i64 0, .int .i64 0]) 4 32 stones_under hi hz0 hz1 hz2 rfl (by decide) _ _ _ rfl (World.ownsRow_made w #[] 0 (Nat.le_refl _) (Nat.zero_le _) rfl) ad 0 c [] rfl rfl (fun j u h => by simp at h) (fun u hu => by simp at hu) (by unfold maxLen; omega) (by omega) (by simp) ?_; intro v' w1 hown hgrow hnil; obtain ⟨G, cap, rfl, hcap, HC, hb1⟩ := made_some (L := []) rfl hown hgrow hnil; have HO := Lib.hid hown; have HB1 := Lib.hid hb1; clear hown hgrow hnil hb1)
    all_goals go_wp2
    all_goals go_ret
    exact ⟨_, _, rfl, HO.out, HB1.out⟩

set_option maxRecDepth 100000 in
set_option maxHeartbeats 1000000 in
theorem mirror_nil (pt : Option Addr) (c : Nat) (w : World) :
    Calls Tryz.prog 10 #[.slice pt 0 c] w fun e w' => ∃ v, e = .returned (.tuple #[v, .int .i64 0]) ∧ OwnS w' 0 v [] ∧ Below w.heap.size w w' := by
  have CK := Lib.hid (fun w => check_nil pt c w)
  have CC := Lib.hid (fun w => clone_nil pt c w)
  go_enter Tryz.func10, Tryz.ntmps10
  go_wp2_with (first | (go_at_call 19; refine (CK.out _).mono ?_; rintro e w1 ⟨rfl, hb1⟩; have HB1 := Lib.hid hb1; clear hb1) | (go_at_call 32; refine (CC.out _).mono ?_; rintro e w2 ⟨p, k, rfl, ho, hb2⟩; have HO := Lib.hid ho; have HB2 := Lib.hid (kc HB1.out hb2); clear ho hb2))
  go_loopw [13] (fun iv wr => iv = .int .i64 0 ∧ Hid (OwnS wr w1.heap.size (.slice p 0 k) [] ∧ Below w.heap.size w wr)) (fun _ _ => 0)
  case atStart => exact ⟨rfl, HO.out, HB2.out⟩
  case round =>
    obtain ⟨rfl, hB⟩ := hrel
    go_wp2_with fail
    go_ret2
    exact ⟨_, rfl, OwnS.base (Nat.zero_le _) hB.out.1, hB.out.2⟩

set_option maxRecDepth 100000 in
set_option maxHeartbeats 1000000 in
theorem refMirror_nil (pt : Option Addr) (c : Nat) (w : World) :
    Calls Tryz.prog 11 #[.slice pt 0 c] w fun e w' => ∃ v, e = .returned (.tuple #[v, .int .i64 0]) ∧ OwnS w' 0 v [] ∧ Below w.heap.size w w' := by
  have CK := Lib.hid (fun w => refCheck_nil pt c w)
  go_enter Tryz.func11, Tryz.ntmps11
  go_wp2_with (first | (go_at_call 25; refine (CK.out _).mono ?_; rintro e w1 ⟨rfl, hb1⟩; have HB1 := Lib.hid hb1; clear hb1))
  go_loopw [4, 5] (fun v iv wr => v = .slice none 0 0 ∧ iv = .int .i64 0 ∧ Hid (Below w.heap.size w wr)) (fun _ _ _ => 0)
  case atStart => exact ⟨rfl, rfl, HB1.out⟩
  case round =>
    obtain ⟨rfl, rfl, hB⟩ := hrel
    go_wp2_with fail
    go_ret2
    exact ⟨_, rfl, World.ownsRow_nil _ _ _ _, hB.out⟩

set_option maxRecDepth 100000 in
set_option maxHeartbeats 1000000 in
theorem owns_long (pt : Option Addr) (n c : Nat) (w : World) (hn : 40 < (n : Int))
    (CA : Hid (∀ W, Below w.heap.size w W → Calls Tryz.prog 5 #[] W fun e w' => e = .returned (.bool true) ∧ Below W.heap.size W w')) :
    Calls Tryz.prog 4 #[.slice pt n c] w fun e w' => e = .returned (.bool true) ∧ Below w.heap.size w w' := by
  obtain ⟨N, hN⟩ : ∃ N : Int, (n : Int) = N := ⟨_, rfl⟩
  rw [hN] at hn
  go_enter Tryz.func4, Tryz.ntmps4
  go_wp2_with (first | (go_at_call 5; refine (CA.out _ (Below.refl _ _)).mono ?_; rintro e w1 ⟨rfl, hb1⟩; have HB1 := Lib.hid hb1; clear hb1))
  go_ret
  exact ⟨rfl, HB1.out⟩

theorem mg_in (L : List St) (n : Nat) (h40 : n ≤ 40) (HL : L.length = n) : ∀ G cap W, n ≤ cap → (∀ j (h : j < L.length), StAt W G (0 + j * 4) L[j]) → Calls Tryz.prog 10 #[.slice (some ⟨G, 0, none⟩) n cap] W fun e w' => ∃ p m k E, e = .returned (.tuple #[.slice p m k, .int .i64 E]) ∧ (m : Int) ≤ 40 ∧ Wr w' W.heap.size 4 p m k ∧ Below W.heap.size W w' := by
  intro G cap W hc HR
  by_cases hV : Valid L
  · refine (mirror_in L n cap G 0 W (by omega) hc HL HR hV).mono fun e w' h => ?_
    obtain ⟨v, h1, h2, h3⟩ := h
    obtain ⟨p, m, k, rfl, hm, hw⟩ := h2.wr
    have hl := mirL_len (L := L) (i := n) (by omega)
    exact ⟨p, m, k, 0, h1, by omega, hw, h3⟩
  · exact (mirror_bad L n cap G 0 W (by omega) hc HL HR hV).mono fun e w' h => ⟨none, 0, 0, 2, h.1, by decide, .inl rfl, h.2⟩

theorem ng_in (L : List St) (n : Nat) (h40 : n ≤ 40) (HL : L.length = n) : ∀ G cap W, n ≤ cap → (∀ j (h : j < L.length), StAt W G (0 + j * 4) L[j]) → Calls Tryz.prog 6 #[.slice (some ⟨G, 0, none⟩) n cap] W fun e w' => ∃ p m k E, e = .returned (.tuple #[.slice p m k, .int .i64 E]) ∧ (m : Int) ≤ 40 ∧ Wr w' W.heap.size 1 p m k ∧ Below W.heap.size W w' := by
  intro G cap W hc HR
  by_cases hV : Valid L
  · refine (nearest_full L n cap G 0 W (by omega) hc HL HR hV).mono fun e w' h => ?_
    obtain ⟨Y, v, h1, ⟨h2, -⟩, h3, h4, h5⟩ := h
    have hlen := h2.length_eq
    have hh := houseI_len L n
    rcases h3 with ⟨rfl, rfl⟩ | ⟨g, k, rfl, k1, k2, k3, k4⟩
    · exact ⟨none, 0, 0, 0, h1, by decide, .inl rfl, h5⟩
    · rcases h4 with h4 | ⟨g', m', k', h4, h6⟩
      · simp at h4
      · simp only [Value.slice.injEq, Option.some.injEq, Addr.mk.injEq, and_true, true_and] at h4
        obtain ⟨rfl, rfl, rfl⟩ := h4
        exact ⟨_, _, _, 0, h1, by omega, .inr ⟨g, rfl, ⟨k1, k2, h6.1⟩, fun j hj => ⟨⟨_, by have := k4 j (by omega); rw [Nat.zero_add] at this; exact this⟩, h6.2 j⟩⟩, h5⟩
  · exact (nearest_bad L n cap G 0 W (by omega) hc HL HR hV).mono fun e w' h => ⟨none, 0, 0, 2, h.1, by decide, .inl rfl, h.2⟩

theorem cg_in (L : List St) (n : Nat) (h40 : n ≤ 40) (HL : L.length = n) : ∀ G cap W, n ≤ cap → (∀ j (h : j < L.length), StAt W G (0 + j * 4) L[j]) → Calls Tryz.prog 8 #[.slice (some ⟨G, 0, none⟩) n cap] W fun e w' => ∃ t p E, e = .returned (.tuple #[.int .i64 t, .int .i64 p, .int .i64 E]) ∧ Below W.heap.size W w' := by
  intro G cap W hc HR
  by_cases hV : Valid L
  · by_cases hH : houseI L n = []
    · exact (count_none L n cap G 0 W (by omega) hc HL HR hV hH).mono fun e w' h => ⟨-1, 0, 0, h.1, h.2⟩
    · refine (count_in L n cap G 0 W (by omega) hc HL HR hV hH).mono fun e w' h => ?_
      obtain ⟨Y, t, p, h1, -, -, h2⟩ := h
      exact ⟨t, p, 0, h1, h2⟩
  · exact (count_bad L n cap G 0 W (by omega) hc HL HR hV).mono fun e w' h => ⟨0, 0, 2, h.1, h.2⟩

theorem owns_list (L : List St) (c g o : Nat) (w : World) (hc : L.length ≤ c) (HR : ∀ j (h : j < L.length), StAt w g (o + j * 4) L[j])
    (CA : ∀ W, Below w.heap.size w W → Calls Tryz.prog 5 #[] W fun e w' => e = .returned (.bool true) ∧ Below W.heap.size W w') :
    Calls Tryz.prog 4 #[.slice (some ⟨g, o, none⟩) L.length c] w fun e w' => e = .returned (.bool true) ∧ Below w.heap.size w w' := by
  by_cases h40 : 40 < (L.length : Int)
  · exact owns_long _ _ c w h40 CA
  · have h40' : L.length ≤ 40 := by omega
    have hn : L.length ≤ 1000000 := by omega
    have HW : ∀ W, Below w.heap.size w W → ∀ j (h : j < L.length), StAt W g (o + j * 4) L[j] := fun W hW j h => St.later hW (HR j h)
    refine owns_some L ⟨g, o, none⟩ L.length c w (by omega) rfl (fun j u h => Lib.cell?_alloc_some _ (row_flat HR j u h)) (mg_in L _ h40' rfl) (ng_in L _ h40' rfl) (cg_in L _ h40' rfl) (fun W hW => ?_) (fun W hW => ?_)
      (fun G cap W hW hcap HG => same_in L _ cap G 0 c g o W hn hcap hc rfl HG (HW W hW)) CA
    · by_cases hV : Valid L
      · refine (mirror_in L _ c g o W hn hc rfl (HW W hW) hV).mono fun e w' h => ?_
        obtain ⟨v, h1, h2, h3⟩ := h
        exact ⟨v, 0, h1, .inl ⟨hV, rfl, OwnS.base (Nat.zero_le _) h2⟩, h3⟩
      · exact (mirror_bad L _ c g o W hn hc rfl (HW W hW) hV).mono fun e w' h => ⟨_, 2, h.1, .inr ⟨hV, rfl, rfl⟩, h.2⟩
    · by_cases hV : Valid L
      · refine (refMirror_in L _ c g o W hn hc rfl (HW W hW) hV).mono fun e w' h => ?_
        obtain ⟨v, h1, h2, h3⟩ := h
        exact ⟨v, 0, h1, .inl ⟨hV, rfl, OwnS.base (Nat.zero_le _) h2⟩, h3⟩
      · exact (refMirror_bad L _ c g o W hn hc rfl (HW W hW) hV).mono fun e w' h => ⟨_, 2, h.1, .inr ⟨hV, rfl, rfl⟩, h.2⟩

theorem ml_nil (pt : Option Addr) (c : Nat) (W : World) : Calls Tryz.prog 10 #[.slice pt 0 c] W fun e w' => ∃ v E, e = .returned (.tuple #[v, .int .i64 E]) ∧ MirO [] w' v E ∧ Below W.heap.size W w' :=
  (mirror_nil pt c W).mono fun e w' h => by obtain ⟨v, h1, h2, h3⟩ := h; exact ⟨v, 0, h1, .inl ⟨valid_nil, rfl, h2⟩, h3⟩
theorem rl_nil (pt : Option Addr) (c : Nat) (W : World) : Calls Tryz.prog 11 #[.slice pt 0 c] W fun e w' => ∃ v E, e = .returned (.tuple #[v, .int .i64 E]) ∧ MirO [] w' v E ∧ Below W.heap.size W w' :=
  (refMirror_nil pt c W).mono fun e w' h => by obtain ⟨v, h1, h2, h3⟩ := h; exact ⟨v, 0, h1, .inl ⟨valid_nil, rfl, h2⟩, h3⟩

/-- The law. -/
theorem owns_any (L : List St) (c : Nat) (v : Value) (w : World) (hc : L.length ≤ c)
    (hv : (L = [] ∧ (v = .slice none 0 0 ∨ ∃ ad, v = .slice (some ad) 0 c)) ∨ ∃ g o, v = .slice (some ⟨g, o, none⟩) L.length c ∧ ∀ j (h : j < L.length), StAt w g (o + j * 4) L[j])
    (CA : ∀ W, Below w.heap.size w W → Calls Tryz.prog 5 #[] W fun e w' => e = .returned (.bool true) ∧ Below W.heap.size W w') :
    Calls Tryz.prog 4 #[v] w fun e w' => e = .returned (.bool true) ∧ Below w.heap.size w w' := by
  rcases hv with ⟨rfl, rfl | ⟨ad, rfl⟩⟩ | ⟨g, o, rfl, HR⟩
  · exact owns_none [] 0 rfl w (by decide) rfl (mg_in [] 0 (by decide) rfl) (ng_in [] 0 (by decide) rfl) (cg_in [] 0 (by decide) rfl) (fun W _ => ml_nil none 0 W) (fun W _ => rl_nil none 0 W) (fun G cap W _ _ _ => same_nil _ _ _ _ W) CA
  · exact owns_some [] ad 0 c w (by decide) rfl (fun j u h => by simp [flatS] at h) (mg_in [] 0 (by decide) rfl) (ng_in [] 0 (by decide) rfl) (cg_in [] 0 (by decide) rfl) (fun W _ => ml_nil _ c W) (fun W _ => rl_nil _ c W) (fun G cap W _ _ _ => same_nil _ _ _ _ W) CA
  · exact owns_list L c g o w hc HR CA

end Go.Proofs.YtfdhgimpdmhdeaaGreatDoor
