/- The law SheetOwns, but for its opening examples. -/
import Derived.Test.YtfdhgimpdmhdeaaGreatDoorNearFree
import Derived.Test.YtfdhgimpdmhdeaaGreatDoorMirrors
import Derived.Test.YtfdhgimpdmhdeaaGreatDoorSame
import Derived.Test.YtfdhgimpdmhdeaaGreatDoorCounts
import Derived.Laws.AppendOwnNone
namespace Go.Proofs.YtfdhgimpdmhdeaaGreatDoor
open Go Go.RowKit Go.Sort

/-- A row that may be written, from block B on; k cells an element. -/
def Wr (W : World) (B k : Nat) (p : Option Addr) (n c : Nat) : Prop := n = 0 ∨ ∃ g, p = some ⟨g, 0, none⟩ ∧ (n ≤ c ∧ B ≤ g ∧ g < W.heap.size) ∧ ∀ j, j < n * k → (∃ x, W.cell? ⟨g, j, none⟩ = some x) ∧ W.frozen? ⟨g, j, none⟩ = false
theorem Wr.later {W W' : World} {B k : Nat} {p : Option Addr} {n c : Nat} (hb : Below W.heap.size W W') (h : Wr W B k p n c) : Wr W' B k p n c := by
  rcases h with h | ⟨g, h1, ⟨h2, h3, h4⟩, h5⟩
  · exact .inl h
  · exact .inr ⟨g, h1, ⟨h2, h3, Nat.lt_of_lt_of_le h4 hb.size⟩, fun j hj => ⟨by obtain ⟨x, hx⟩ := (h5 j hj).1; exact ⟨x, cell_later hb hx⟩, (hb.frozen (p := ⟨g, j, none⟩) h4).trans (h5 j hj).2⟩⟩
theorem Wr.set {W : World} {B k : Nat} {p : Option Addr} {n c : Nat} (a : Addr) (u : Value) (h : Wr W B k p n c) : Wr (W.setCell a u) B k p n c := by
  rcases h with h | ⟨g, h1, ⟨h2, h3, h4⟩, h5⟩
  · exact .inl h
  · refine .inr ⟨g, h1, ⟨h2, h3, by simpa using h4⟩, fun j hj => ⟨?_, by simpa using (h5 j hj).2⟩⟩
    obtain ⟨x, hx⟩ := (h5 j hj).1
    by_cases e : a = ⟨g, j, none⟩
    · subst e; exact ⟨u, set_one u hx⟩
    · exact ⟨x, (World.cell?_setCell_other _ _ _ _ (by first | exact e | exact fun h => e h.symm)).trans hx⟩
theorem OwnS.wr {W : World} {B : Nat} {v : Value} {Y : List St} (h : OwnS W B v Y) : ∃ p n c, v = .slice p n c ∧ n = Y.length ∧ Wr W B 4 p n c := by
  rcases own_stones h with ⟨rfl, rfl⟩ | ⟨g, c, rfl, h1, h2, h3, h4⟩
  · exact ⟨none, 0, 0, rfl, rfl, .inl rfl⟩
  · refine ⟨_, _, c, rfl, rfl, .inr ⟨g, rfl, ⟨h1, h2, h3⟩, fun j hj => ⟨?_, World.ownsRow.frozenAt h j⟩⟩⟩
    rw [World.ownsRow.cellAt h j hj]
    exact ⟨_, List.getElem?_eq_getElem (by rw [flatS_len]; exact hj)⟩
/-- What the two Mirrors return. -/
def MirO (L : List St) (W : World) (v : Value) (E : Int) : Prop := (Valid L ∧ E = 0 ∧ OwnS W 0 v (mirL L L.length)) ∨ (¬ Valid L ∧ E = 2 ∧ v = .slice none 0 0)
theorem MirO.code {L : List St} {W W' : World} {v v' : Value} {E E' : Int} (h : MirO L W v E) (h' : MirO L W' v' E') : E = E' := by
  rcases h with ⟨h1, rfl, -⟩ | ⟨h1, rfl, -⟩ <;> rcases h' with ⟨h2, rfl, -⟩ | ⟨h2, rfl, -⟩
  · rfl
  · exact absurd h1 h2
  · exact absurd h2 h1
  · rfl
theorem MirO.later {L : List St} {W W' : World} {v : Value} {E : Int} (hb : Below W.heap.size W W') (h : MirO L W v E) : MirO L W' v E := by
  rcases h with ⟨h1, h2, h3⟩ | h
  · exact .inl ⟨h1, h2, h3.later hb⟩
  · exact .inr h
theorem mirO_same {L : List St} {W : World} {v v' : Value} {E E' : Int} (hl : L.length ≤ 1000000) (h : MirO L W v E) (h' : MirO L W v' E') :
    Calls Tryz.prog 13 #[v, v'] W fun e w' => e = .returned (.bool true) ∧ Below W.heap.size W w' := by
  rcases h with ⟨h1, -, h3⟩ | ⟨h1, -, rfl⟩ <;> rcases h' with ⟨h2, -, h4⟩ | ⟨h2, -, rfl⟩
  · have hm := mirL_len (Nat.le_refl L.length)
    rcases own_stones h3 with ⟨e1, rfl⟩ | ⟨g, c, rfl, k1, -, -, k4⟩ <;> rcases own_stones h4 with ⟨e2, rfl⟩ | ⟨g', c', rfl, l1, -, -, l4⟩
    · exact same_nil _ _ _ _ W
    · rw [e1]; exact same_nil _ _ _ _ W
    · rw [e2]; exact same_nil _ _ _ _ W
    · exact same_in (mirL L L.length) _ c g 0 c' g' 0 W (by rw [hm]; exact hl) k1 l1 rfl k4 l4
  · exact absurd h1 h2
  · exact absurd h2 h1
  · exact same_nil _ _ _ _ W

theorem flatS_one : ∀ (L : List St), ∀ u ∈ flatS L, u.oneCell' = true
  | [], u, hu => by cases hu
  | s :: Y, u, hu => by
    rcases List.mem_append.1 hu with h | h
    · simp only [cellS, List.mem_cons, List.mem_nil_iff, or_false] at h
      rcases h with rfl | rfl | rfl | rfl <;> rfl
    · exact flatS_one Y u h
theorem Wr.base {W : World} {B B' k : Nat} {p : Option Addr} {n c : Nat} (hb : B' ≤ B) (h : Wr W B k p n c) : Wr W B' k p n c := by
  rcases h with h | ⟨g, h1, ⟨h2, h3, h4⟩, h5⟩
  · exact .inl h
  · exact .inr ⟨g, h1, ⟨h2, Nat.le_trans hb h3, h4⟩, h5⟩
theorem made_some {L : List St} {n : Nat} {w w1 : World} {v1 : Value} (HL : L.length = n) (hown : w1.ownsRow w.heap.size 39 4 v1 (0 + n) ([] ++ flatS L)) (hgrow : (w.alloc (.cells #[] 39)).grownBy w1 (some w.heap.size)) (hnil : v1 = .slice none 0 0 ↔ (Value.slice (some ⟨w.heap.size, 0, none⟩) 0 0 = .slice none 0 0 ∧ n = 0)) :
    ∃ G cap, v1 = .slice (some ⟨G, 0, none⟩) n cap ∧ n ≤ cap ∧ (∀ j (h : j < L.length), StAt w1 G (0 + j * 4) L[j]) ∧ Below w.heap.size w w1 := by
  have ho : OwnS w1 w.heap.size v1 L := by unfold OwnS; rw [HL]; simpa using hown
  have hne : v1 ≠ .slice none 0 0 := fun h => by have := (hnil.1 h).1; cases this
  obtain ⟨G, cap, rfl, hcap, -, -, hc⟩ := (own_stones ho).resolve_left (fun h => hne h.2)
  refine ⟨G, cap, by rw [HL], by omega, hc, ?_⟩
  exact ((Below.refl _ w).alloc (Nat.le_refl _) _).grown hgrow (by simp) (by intro k hk; have h1 := Option.some.inj hk; omega)

set_option maxRecDepth 100000 in
set_option maxHeartbeats 4000000 in
theorem owns_none (L : List St) (n : Nat) (hz : n = 0) (w : World) (hn : (n : Int) ≤ 40) (HL : Hid (L.length = n))
    (MG : Hid (∀ G cap W, n ≤ cap → (∀ j (h : j < L.length), StAt W G (0 + j * 4) L[j]) → Calls Tryz.prog 10 #[.slice (some ⟨G, 0, none⟩) n cap] W fun e w' => ∃ p m k E, e = .returned (.tuple #[.slice p m k, .int .i64 E]) ∧ (m : Int) ≤ 40 ∧ Wr w' W.heap.size 4 p m k ∧ Below W.heap.size W w'))
    (NG : Hid (∀ G cap W, n ≤ cap → (∀ j (h : j < L.length), StAt W G (0 + j * 4) L[j]) → Calls Tryz.prog 6 #[.slice (some ⟨G, 0, none⟩) n cap] W fun e w' => ∃ p m k E, e = .returned (.tuple #[.slice p m k, .int .i64 E]) ∧ (m : Int) ≤ 40 ∧ Wr w' W.heap.size 1 p m k ∧ Below W.heap.size W w'))
    (CG : Hid (∀ G cap W, n ≤ cap → (∀ j (h : j < L.length), StAt W G (0 + j * 4) L[j]) → Calls Tryz.prog 8 #[.slice (some ⟨G, 0, none⟩) n cap] W fun e w' => ∃ t p E, e = .returned (.tuple #[.int .i64 t, .int .i64 p, .int .i64 E]) ∧ Below W.heap.size W w'))
    (ML : Hid (∀ W, Below w.heap.size w W → Calls Tryz.prog 10 #[.slice none 0 0] W fun e w' => ∃ v E, e = .returned (.tuple #[v, .int .i64 E]) ∧ MirO L w' v E ∧ Below W.heap.size W w'))
    (RL : Hid (∀ W, Below w.heap.size w W → Calls Tryz.prog 11 #[.slice none 0 0] W fun e w' => ∃ v E, e = .returned (.tuple #[v, .int .i64 E]) ∧ MirO L w' v E ∧ Below W.heap.size W w'))
    (SG : Hid (∀ G cap W, Below w.heap.size w W → n ≤ cap → (∀ j (h : j < L.length), StAt W G (0 + j * 4) L[j]) → Calls Tryz.prog 13 #[.slice (some ⟨G, 0, none⟩) n cap, .slice none 0 0] W fun e w' => e = .returned (.bool true) ∧ Below W.heap.size W w'))
    (CA : Hid (∀ W, Below w.heap.size w W → Calls Tryz.prog 5 #[] W fun e w' => e = .returned (.bool true) ∧ Below W.heap.size W w')) :
    Calls Tryz.prog 4 #[.slice none 0 0] w fun e w' => e = .returned (.bool true) ∧ Below w.heap.size w w' := by
  obtain ⟨i0, hi, hz0, hz1, hz2⟩ := info_parts stone_info
  obtain ⟨N, hN⟩ : ∃ N : Int, (n : Int) = N := ⟨_, rfl⟩
  have hnb : n ≤ 40 := by omega
  rw [hN] at hn
  have SM := Lib.hid (fun W v v' E E' => mirO_same (L := L) (W := W) (v := v) (v' := v') (E := E) (E' := E') (by have := HL.out; omega))
  subst hz
  have hcap : 0 ≤ 0 := Nat.le_refl 0
  go_enter Tryz.func4, Tryz.ntmps4
  go_wp2_with (first
    | (at_builtin; go_loud (refine wpList_append_own_none rfl _ _ 22 rfl w.heap.size 39 i0 4 stones_under hi _ _ _ rfl (World.ownsRow_made w #[] 0 (Nat.le_refl _) (Nat.zero_le _) rfl) rfl ?_; obtain ⟨w1, hw1⟩ : ∃ w1, w.alloc (.cells #[] 39) = w1 := ⟨_, rfl⟩; have HB1 : Hid (Below w.heap.size w w1) := (by show Below _ _ _; rw [← hw1]; exact ka (Below.refl _ _) _); have HC : Hid (∀ j (h : j < L.length), StAt w1 w.heap.size (0 + j * 4) L[j]) := (fun j h => by have := HL.out; omega); rw [hw1]; clear hw1))
    | (go_at_call 10; refine (MG.out _ _ _ hcap HC.out).mono ?_; rintro e w2 ⟨p2, m2, k2, E2, rfl, hm2, hw2, hb2⟩; have HC2 : Hid (∀ j (h : j < L.length), StAt w2 w.heap.size (0 + j * 4) L[j]) := (fun j h => St.later hb2 (HC.out j h)); have HW2 := Lib.hid hw2; have HB2 := Lib.hid hb2; clear hw2 hb2)
    | (go_at_call 6; refine (NG.out _ _ _ hcap HC2.out).mono ?_; rintro e w3 ⟨p3, m3, k3, E3, rfl, hm3, hw3, hb3⟩; have HC3 : Hid (∀ j (h : j < L.length), StAt w3 w.heap.size (0 + j * 4) L[j]) := (fun j h => St.later hb3 (HC2.out j h)); have HW3 := Lib.hid hw3; have HB3 := Lib.hid hb3; clear hw3 hb3)
    | (go_at_call 8; refine (CG.out _ _ _ hcap HC3.out).mono ?_; rintro e w4 ⟨t4, q4, E4, rfl, hb4⟩; have HB4 := Lib.hid hb4; clear hb4))
  obtain ⟨A, hA⟩ : ∃ A : Int, (m2 : Int) = A := ⟨_, rfl⟩
  obtain ⟨Q, hQ⟩ : ∃ Q : Int, (m3 : Int) = Q := ⟨_, rfl⟩
  rw [hA] at hm2
  rw [hQ] at hm3
  have hA0 : 0 ≤ A := by omega
  have hQ0 : 0 ≤ Q := by omega
  go_loopw [8] (fun iv wr => ∃ (i : Nat) (I : Int), iv = .int .i64 I ∧ 0 ≤ I ∧ I ≤ A ∧ Hid ((I = (i : Int)) ∧ Wr wr w1.heap.size 4 p2 m2 k2 ∧ Wr wr w1.heap.size 1 p3 m3 k3 ∧ Below w1.heap.size w1 wr)) (fun iv _ => (A - intOf iv).toNat)
  case atStart => exact ⟨0, 0, rfl, by omega, by omega, ⟨rfl, Wr.later (kc HB3.out HB4.out) HW2.out, Wr.later HB4.out (Wr.base HB2.out.size HW3.out), kc (kc HB2.out HB3.out) HB4.out⟩⟩
  case round =>
    obtain ⟨i, I, rfl, hI0, hI1, hK⟩ := hrel
    obtain ⟨hIi, hw2, hw3, hBv⟩ := hK.out
    by_cases hI : I < A
    · obtain ⟨ga, rfl, ⟨hga, hgb, hgc⟩, hge⟩ := hw2.resolve_left (by omega)
      obtain ⟨⟨x0, c0⟩, f0⟩ := hge (i * 4) (by omega)
      obtain ⟨⟨x1, c1⟩, f1⟩ := hge (i * 4 + 1) (by omega)
      obtain ⟨⟨x2, c2⟩, f2⟩ := hge (i * 4 + 2) (by omega)
      obtain ⟨⟨x3, c3⟩, f3⟩ := hge (i * 4 + 3) (by omega)
      have hIn : I.toNat = i := by omega
      have HIi := Lib.hid hIi
      have HX := Lib.hid (And.intro hw2 (And.intro hw3 hBv))
      have HG := Lib.hid hgb
      clear hK hIi hw2 hw3 hBv hge hgb hgc
      go_wp2_with fail
      go_roundw
      case rel => exact ⟨i + 1, I + 1, by go_num, by omega, by omega, ⟨by have := HIi.out; omega, (((HX.out.1.set _ _).set _ _).set _ _).set _ _, (((HX.out.2.1.set _ _).set _ _).set _ _).set _ _, ks (ks (ks (ks HX.out.2.2 _ HG.out) _ HG.out) _ HG.out) _ HG.out⟩⟩
      case measure => simp [intOf]; omega
    · have HX := Lib.hid (And.intro hw3 hBv)
      clear hK hIi hw2 hw3 hBv
      go_wp2_with fail
      go_loopw [9] (fun iv wz => ∃ (i : Nat) (I : Int), iv = .int .i64 I ∧ 0 ≤ I ∧ I ≤ Q ∧ Hid ((I = (i : Int)) ∧ Wr wz w1.heap.size 1 p3 m3 k3 ∧ Below w1.heap.size w1 wz)) (fun iv _ => (Q - intOf iv).toNat)
      case atStart => exact ⟨0, 0, rfl, by omega, by omega, ⟨rfl, HX.out.1, HX.out.2⟩⟩
      case round =>
        obtain ⟨j, J, rfl, hJ0, hJ1, hK⟩ := hrel
        obtain ⟨hJj, hw3, hBv⟩ := hK.out
        by_cases hJ : J < Q
        · obtain ⟨gb, rfl, ⟨hga, hgb, hgc⟩, hge⟩ := hw3.resolve_left (by omega)
          obtain ⟨⟨x0, c0⟩, f0⟩ := hge j (by omega)
          have hJn : J.toNat = j := by omega
          have HJj := Lib.hid hJj
          have HX := Lib.hid (And.intro hw3 hBv)
          have HG := Lib.hid hgb
          clear hK hJj hw3 hBv hge hgb hgc
          go_wp2_with fail
          go_roundw
          case rel => exact ⟨j + 1, J + 1, by go_num, by omega, by omega, ⟨by have := HJj.out; omega, HX.out.1.set _ _, ks HX.out.2 _ HG.out⟩⟩
          case measure => simp [intOf]; omega
        · have HBw := Lib.hid (kc HB1.out hBv)
          have HCw : Hid (∀ j (h : j < L.length), StAt wr w.heap.size (0 + j * 4) L[j]) := fun j h => St.later hBv (HC.out j h)
          clear hK hJj hw3 hBv
          go_wp2_with (first
            | (go_at_call 10; refine (ML.out _ HBw.out).mono ?_; rintro e w5 ⟨v5, E5, rfl, ho5, hb5⟩; have HC5 : Hid (∀ j (h : j < L.length), StAt w5 w.heap.size (0 + j * 4) L[j]) := (fun j h => St.later hb5 (HCw.out j h)); have HM5 := Lib.hid ho5; have HB5 := Lib.hid (kc HBw.out hb5); clear ho5 hb5)
            | (go_at_call 11; refine (RL.out _ HB5.out).mono ?_; rintro e w6 ⟨v6, E6, rfl, ho6, hb6⟩; obtain rfl := MirO.code HM5.out ho6; have HC6 : Hid (∀ j (h : j < L.length), StAt w6 w.heap.size (0 + j * 4) L[j]) := (fun j h => St.later hb6 (HC5.out j h)); have HM6 := Lib.hid ho6; have HN6 := Lib.hid (HM5.out.later hb6); have HB6 := Lib.hid (kc HB5.out hb6); clear ho6 hb6)
            | (go_at_call 13; have HT := HB7; clear HT; refine (SM.out _ _ _ _ _ (HN6.out.later HL7.out) (HM6.out.later HL7.out)).mono ?_; rintro e w8 ⟨rfl, hb8⟩; have HB8 := Lib.hid (kc HB7.out hb8); clear hb8)
            | (go_at_call 13; refine (SG.out _ _ _ HB6.out hcap HC6.out).mono ?_; rintro e w7 ⟨rfl, hb7⟩; have HL7 := Lib.hid hb7; have HB7 := Lib.hid (kc HB6.out hb7); clear hb7)
            | (go_at_call 5; refine (CA.out _ HB8.out).mono ?_; rintro e w9 ⟨rfl, hb9⟩; have HB9 := Lib.hid (kc HB8.out hb9); clear hb9))
          go_ret
          exact ⟨rfl, HB9.out⟩

set_option maxRecDepth 100000 in
set_option maxHeartbeats 4000000 in
theorem owns_some (L : List St) (ad : Addr) (n c : Nat) (w : World) (hn : (n : Int) ≤ 40) (HL : Hid (L.length = n)) (HF : Hid (∀ j u, (flatS L)[j]? = some u → (w.alloc (.cells #[] 39)).cell? (ad.add j) = some u))
    (MG : Hid (∀ G cap W, n ≤ cap → (∀ j (h : j < L.length), StAt W G (0 + j * 4) L[j]) → Calls Tryz.prog 10 #[.slice (some ⟨G, 0, none⟩) n cap] W fun e w' => ∃ p m k E, e = .returned (.tuple #[.slice p m k, .int .i64 E]) ∧ (m : Int) ≤ 40 ∧ Wr w' W.heap.size 4 p m k ∧ Below W.heap.size W w'))
    (NG : Hid (∀ G cap W, n ≤ cap → (∀ j (h : j < L.length), StAt W G (0 + j * 4) L[j]) → Calls Tryz.prog 6 #[.slice (some ⟨G, 0, none⟩) n cap] W fun e w' => ∃ p m k E, e = .returned (.tuple #[.slice p m k, .int .i64 E]) ∧ (m : Int) ≤ 40 ∧ Wr w' W.heap.size 1 p m k ∧ Below W.heap.size W w'))
    (CG : Hid (∀ G cap W, n ≤ cap → (∀ j (h : j < L.length), StAt W G (0 + j * 4) L[j]) → Calls Tryz.prog 8 #[.slice (some ⟨G, 0, none⟩) n cap] W fun e w' => ∃ t p E, e = .returned (.tuple #[.int .i64 t, .int .i64 p, .int .i64 E]) ∧ Below W.heap.size W w'))
    (ML : Hid (∀ W, Below w.heap.size w W → Calls Tryz.prog 10 #[.slice (some ad) n c] W fun e w' => ∃ v E, e = .returned (.tuple #[v, .int .i64 E]) ∧ MirO L w' v E ∧ Below W.heap.size W w'))
    (RL : Hid (∀ W, Below w.heap.size w W → Calls Tryz.prog 11 #[.slice (some ad) n c] W fun e w' => ∃ v E, e = .returned (.tuple #[v, .int .i64 E]) ∧ MirO L w' v E ∧ Below W.heap.size W w'))
    (SG : Hid (∀ G cap W, Below w.heap.size w W → n ≤ cap → (∀ j (h : j < L.length), StAt W G (0 + j * 4) L[j]) → Calls Tryz.prog 13 #[.slice (some ⟨G, 0, none⟩) n cap, .slice (some ad) n c] W fun e w' => e = .returned (.bool true) ∧ Below W.heap.size W w'))
    (CA : Hid (∀ W, Below w.heap.size w W → Calls Tryz.prog 5 #[] W fun e w' => e = .returned (.bool true) ∧ Below W.heap.size W w')) :
    Calls Tryz.prog 4 #[.slice (some ad) n c] w fun e w' => e = .returned (.bool true) ∧ Below w.heap.size w w' := by
  obtain ⟨i0, hi, hz0, hz1, hz2⟩ := info_parts stone_info
  obtain ⟨N, hN⟩ : ∃ N : Int, (n : Int) = N := ⟨_, rfl⟩
  have hnb : n ≤ 40 := by omega
  rw [hN] at hn
  have SM := Lib.hid (fun W v v' E E' => mirO_same (L := L) (W := W) (v := v) (v' := v') (E := E) (E' := E') (by have := HL.out; omega))
  have H1 : Hid (∀ u ∈ flatS L, u.oneCell' = true) := flatS_one L
  have HLn : Hid ((flatS L).length = n * 4) := by show _ = _; rw [flatS_len, HL.out]
  go_enter Tryz.func4, Tryz.ntmps4
  go_wp2_with (first
    | (at_builtin; refine wpList_append_own _ rfl _ _ 22 rfl w.heap.size 39 i0 (.agg #[.int .i64 0, .int .i64 0, .int .i64 0, .int .i64 0]) 4 32 stones_under hi hz0 hz1 hz2 rfl (by decide) _ _ _ rfl (World.ownsRow_made w #[] 0 (Nat.le_refl _) (Nat.zero_le _) rfl) ad n c (flatS L) rfl HLn.out HF.out H1.out (by unfold maxLen; omega) (by omega) (by simp) ?_; intro v1 w1 hown hgrow hnil; obtain ⟨G, cap, rfl, hcap, HC, hb1⟩ := made_some HL.out hown hgrow hnil; have HC := Lib.hid HC; have HB1 := Lib.hid hb1; clear hown hgrow hnil hb1)
    | (go_at_call 10; refine (MG.out _ _ _ hcap HC.out).mono ?_; rintro e w2 ⟨p2, m2, k2, E2, rfl, hm2, hw2, hb2⟩; have HC2 : Hid (∀ j (h : j < L.length), StAt w2 G (0 + j * 4) L[j]) := (fun j h => St.later hb2 (HC.out j h)); have HW2 := Lib.hid hw2; have HB2 := Lib.hid hb2; clear hw2 hb2)
    | (go_at_call 6; refine (NG.out _ _ _ hcap HC2.out).mono ?_; rintro e w3 ⟨p3, m3, k3, E3, rfl, hm3, hw3, hb3⟩; have HC3 : Hid (∀ j (h : j < L.length), StAt w3 G (0 + j * 4) L[j]) := (fun j h => St.later hb3 (HC2.out j h)); have HW3 := Lib.hid hw3; have HB3 := Lib.hid hb3; clear hw3 hb3)
    | (go_at_call 8; refine (CG.out _ _ _ hcap HC3.out).mono ?_; rintro e w4 ⟨t4, q4, E4, rfl, hb4⟩; have HB4 := Lib.hid hb4; clear hb4))
  obtain ⟨A, hA⟩ : ∃ A : Int, (m2 : Int) = A := ⟨_, rfl⟩
  obtain ⟨Q, hQ⟩ : ∃ Q : Int, (m3 : Int) = Q := ⟨_, rfl⟩
  rw [hA] at hm2
  rw [hQ] at hm3
  have hA0 : 0 ≤ A := by omega
  have hQ0 : 0 ≤ Q := by omega
  go_loopw [8] (fun iv wr => ∃ (i : Nat) (I : Int), iv = .int .i64 I ∧ 0 ≤ I ∧ I ≤ A ∧ Hid ((I = (i : Int)) ∧ Wr wr w1.heap.size 4 p2 m2 k2 ∧ Wr wr w1.heap.size 1 p3 m3 k3 ∧ Below w1.heap.size w1 wr)) (fun iv _ => (A - intOf iv).toNat)
  case atStart => exact ⟨0, 0, rfl, by omega, by omega, ⟨rfl, Wr.later (kc HB3.out HB4.out) HW2.out, Wr.later HB4.out (Wr.base HB2.out.size HW3.out), kc (kc HB2.out HB3.out) HB4.out⟩⟩
  case round =>
    obtain ⟨i, I, rfl, hI0, hI1, hK⟩ := hrel
    obtain ⟨hIi, hw2, hw3, hBv⟩ := hK.out
    by_cases hI : I < A
    · obtain ⟨ga, rfl, ⟨hga, hgb, hgc⟩, hge⟩ := hw2.resolve_left (by omega)
      obtain ⟨⟨x0, c0⟩, f0⟩ := hge (i * 4) (by omega)
      obtain ⟨⟨x1, c1⟩, f1⟩ := hge (i * 4 + 1) (by omega)
      obtain ⟨⟨x2, c2⟩, f2⟩ := hge (i * 4 + 2) (by omega)
      obtain ⟨⟨x3, c3⟩, f3⟩ := hge (i * 4 + 3) (by omega)
      have hIn : I.toNat = i := by omega
      have HIi := Lib.hid hIi
      have HX := Lib.hid (And.intro hw2 (And.intro hw3 hBv))
      have HG := Lib.hid hgb
      clear hK hIi hw2 hw3 hBv hge hgb hgc
      go_wp2_with fail
      go_roundw
      case rel => exact ⟨i + 1, I + 1, by go_num, by omega, by omega, ⟨by have := HIi.out; omega, (((HX.out.1.set _ _).set _ _).set _ _).set _ _, (((HX.out.2.1.set _ _).set _ _).set _ _).set _ _, ks (ks (ks (ks HX.out.2.2 _ HG.out) _ HG.out) _ HG.out) _ HG.out⟩⟩
      case measure => simp [intOf]; omega
    · have HX := Lib.hid (And.intro hw3 hBv)
      clear hK hIi hw2 hw3 hBv
      go_wp2_with fail
      go_loopw [9] (fun iv wz => ∃ (i : Nat) (I : Int), iv = .int .i64 I ∧ 0 ≤ I ∧ I ≤ Q ∧ Hid ((I = (i : Int)) ∧ Wr wz w1.heap.size 1 p3 m3 k3 ∧ Below w1.heap.size w1 wz)) (fun iv _ => (Q - intOf iv).toNat)
      case atStart => exact ⟨0, 0, rfl, by omega, by omega, ⟨rfl, HX.out.1, HX.out.2⟩⟩
      case round =>
        obtain ⟨j, J, rfl, hJ0, hJ1, hK⟩ := hrel
        obtain ⟨hJj, hw3, hBv⟩ := hK.out
        by_cases hJ : J < Q
        · obtain ⟨gb, rfl, ⟨hga, hgb, hgc⟩, hge⟩ := hw3.resolve_left (by omega)
          obtain ⟨⟨x0, c0⟩, f0⟩ := hge j (by omega)
          have hJn : J.toNat = j := by omega
          have HJj := Lib.hid hJj
          have HX := Lib.hid (And.intro hw3 hBv)
          have HG := Lib.hid hgb
          clear hK hJj hw3 hBv hge hgb hgc
          go_wp2_with fail
          go_roundw
          case rel => exact ⟨j + 1, J + 1, by go_num, by omega, by omega, ⟨by have := HJj.out; omega, HX.out.1.set _ _, ks HX.out.2 _ HG.out⟩⟩
          case measure => simp [intOf]; omega
        · have HBw := Lib.hid (kc HB1.out hBv)
          have HCw : Hid (∀ j (h : j < L.length), StAt wr G (0 + j * 4) L[j]) := fun j h => St.later hBv (HC.out j h)
          clear hK hJj hw3 hBv
          go_wp2_with (first
            | (go_at_call 10; refine (ML.out _ HBw.out).mono ?_; rintro e w5 ⟨v5, E5, rfl, ho5, hb5⟩; have HC5 : Hid (∀ j (h : j < L.length), StAt w5 G (0 + j * 4) L[j]) := (fun j h => St.later hb5 (HCw.out j h)); have HM5 := Lib.hid ho5; have HB5 := Lib.hid (kc HBw.out hb5); clear ho5 hb5)
            | (go_at_call 11; refine (RL.out _ HB5.out).mono ?_; rintro e w6 ⟨v6, E6, rfl, ho6, hb6⟩; obtain rfl := MirO.code HM5.out ho6; have HC6 : Hid (∀ j (h : j < L.length), StAt w6 G (0 + j * 4) L[j]) := (fun j h => St.later hb6 (HC5.out j h)); have HM6 := Lib.hid ho6; have HN6 := Lib.hid (HM5.out.later hb6); have HB6 := Lib.hid (kc HB5.out hb6); clear ho6 hb6)
            | (go_at_call 13; have HT := HB7; clear HT; refine (SM.out _ _ _ _ _ (HN6.out.later HL7.out) (HM6.out.later HL7.out)).mono ?_; rintro e w8 ⟨rfl, hb8⟩; have HB8 := Lib.hid (kc HB7.out hb8); clear hb8)
            | (go_at_call 13; refine (SG.out _ _ _ HB6.out hcap HC6.out).mono ?_; rintro e w7 ⟨rfl, hb7⟩; have HL7 := Lib.hid hb7; have HB7 := Lib.hid (kc HB6.out hb7); clear hb7)
            | (go_at_call 5; refine (CA.out _ HB8.out).mono ?_; rintro e w9 ⟨rfl, hb9⟩; have HB9 := Lib.hid (kc HB8.out hb9); clear hb9))
          go_ret
          exact ⟨rfl, HB9.out⟩

end Go.Proofs.YtfdhgimpdmhdeaaGreatDoor
