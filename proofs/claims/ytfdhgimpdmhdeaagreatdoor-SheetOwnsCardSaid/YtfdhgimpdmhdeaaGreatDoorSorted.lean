/- A small row sorted: slices' insertion sort, which keeps equals in their order. -/
import Derived.Test.YtfdhgimpdmhdeaaGreatDoorOrder
import Derived.BigQuiet
import Derived.Deep.QuietTactic
namespace Go.Proofs.YtfdhgimpdmhdeaaGreatDoor
open Go Go.RowKit

/-- Integers in a row. -/
def RowI (W : World) (g o : Nat) (Z : List Int) : Prop := ∀ j (h : j < Z.length), W.cell? ⟨g, o + j, none⟩ = some (.int .i64 Z[j])
theorem RowI.later {W W' : World} {g o : Nat} {Z : List Int} (hb : Below W.heap.size W W') (h : RowI W g o Z) : RowI W' g o Z := fun j hj => cell_later hb (h j hj)
theorem RowI.at {W : World} {g o : Nat} {P Q : List Int} {a : Int} (h : RowI W g o (P ++ a :: Q)) : W.cell? ⟨g, o + P.length, none⟩ = some (.int .i64 a) := by
  have := h P.length (by simp)
  simpa using this
theorem RowI.at1 {W : World} {g o : Nat} {P Q : List Int} {a b : Int} (h : RowI W g o (P ++ a :: b :: Q)) : W.cell? ⟨g, o + (P.length + 1), none⟩ = some (.int .i64 b) := by
  have := h (P.length + 1) (by simp)
  simpa using this
theorem RowI.swap {W : World} {g o : Nat} {P Q : List Int} {y x : Int} (h : RowI W g o (P ++ y :: x :: Q)) :
    RowI ((W.setCell ⟨g, o + (P.length + 1), none⟩ (.int .i64 y)).setCell ⟨g, o + P.length, none⟩ (.int .i64 x)) g o (P ++ x :: y :: Q) := by
  have h0 := h.at
  have h1 := h.at1
  have k1 : (W.setCell ⟨g, o + (P.length + 1), none⟩ (.int .i64 y)).cell? ⟨g, o + P.length, none⟩ = some (.int .i64 y) := by
    rw [World.cell?_setCell_other _ _ _ _ (by simp)]; exact h0
  intro j hj
  by_cases e0 : j = P.length
  · subst e0
    rw [set_one _ k1]; simp
  · by_cases e1 : j = P.length + 1
    · subst e1
      rw [World.cell?_setCell_other _ _ _ _ (by simp), set_one _ h1]; simp
    · rw [World.cell?_setCell_other _ _ _ _ (by simp; try omega), World.cell?_setCell_other _ _ _ _ (by simp; try omega)]
      have hl : j < (P ++ y :: x :: Q).length := by simpa using hj
      rw [h j hl]
      congr 2
      by_cases hp : j < P.length
      · simp [List.getElem_append_left hp]
      · rw [List.getElem_append_right (by omega), List.getElem_append_right (by omega)]
        obtain ⟨m, hm⟩ : ∃ m, j - P.length = m + 2 := ⟨j - P.length - 2, by omega⟩
        simp [hm]

/-- Nearer, or as near and ahead. -/
def lexB (key : Int → Int) (p q : Int) : Prop := key p < key q ∨ (key p = key q ∧ p < q)
theorem ins_sorted {key : Int → Int} {P Q : List Int} {x : Int} (h : (P ++ Q).Pairwise (lexB key)) (hQ : ∀ q ∈ Q, key x < key q) (hP : ∀ p ∈ P, key p ≤ key x ∧ p < x) : (P ++ x :: Q).Pairwise (lexB key) := by
  rw [List.pairwise_append] at h ⊢
  obtain ⟨h1, h2, h3⟩ := h
  refine ⟨h1, List.pairwise_cons.2 ⟨fun q hq => .inl (hQ q hq), h2⟩, fun p hp q hq => ?_⟩
  rcases List.mem_cons.1 hq with rfl | hq
  · obtain ⟨a, b⟩ := hP p hp
    rcases Int.lt_or_eq_of_le a with a | a
    · exact .inl a
    · exact .inr ⟨a, b⟩
  · exact h3 p hp q hq
theorem last_max {key : Int → Int} {P : List Int} {y x : Int} (h : (P ++ [y]).Pairwise (lexB key)) (hy : key y ≤ key x) : ∀ p ∈ P ++ [y], key p ≤ key x := by
  intro p hp
  rcases List.mem_append.1 hp with hp | hp
  · rcases (List.pairwise_append.1 h).2.2 p hp y (by simp) with a | ⟨a, _⟩ <;> omega
  · rw [List.mem_singleton.1 hp]; exact hy
/-- Two rows sorted so of the same integers are the same. -/
theorem lex_uniq {key : Int → Int} : ∀ {Y Z : List Int}, Y.Pairwise (lexB key) → Z.Pairwise (lexB key) → Y.Perm Z → Y = Z := by
  intro Y Z h1 h2 hp
  exact hp.eq_of_pairwise (fun a b _ _ ha hb => by unfold lexB at ha hb; omega) h1 h2

/-- A block that may be written. -/
def FreeI (W : World) (g : Nat) : Prop := g < W.heap.size ∧ ∀ j, W.frozen? ⟨g, j, none⟩ = false
theorem FreeI.later {W W' : World} {g : Nat} (hb : Below W.heap.size W W') (h : FreeI W g) : FreeI W' g := ⟨Nat.lt_of_lt_of_le h.1 hb.size, fun j => (hb.frozen h.1).trans (h.2 j)⟩
theorem FreeI.set {W : World} {g : Nat} (h : FreeI W g) (a : Addr) (u : Value) : FreeI (W.setCell a u) g := ⟨by simpa using h.1, fun j => by simpa using h.2 j⟩
/-- All but block g is as it was below. -/
def But (g : Nat) (W W' : World) : Prop := ∀ v : World, v.heap.size ≤ g → Below v.heap.size v W → Below v.heap.size v W'
theorem But.refl (g : Nat) (W : World) : But g W W := fun _ _ h => h
theorem But.later {g : Nat} {W W' W'' : World} (h : But g W W') (hb : Below W'.heap.size W' W'') : But g W W'' := fun v hv hB => kc (h v hv hB) hb
theorem But.set {g : Nat} {W W' : World} (h : But g W W') (j : Nat) (u : Value) : But g W (W'.setCell ⟨g, j, none⟩ u) := fun v hv hB => ks (h v hv hB) u hv

/-- What a comparison wants to stay. -/
def Stays (Kp : World → Prop) (g : Nat) : Prop := (∀ W W' : World, Below W.heap.size W W' → Kp W → Kp W') ∧ ∀ (W : World) (j : Nat) (u : Value), Kp W → Kp (W.setCell ⟨g, j, none⟩ u)

/-- Between the rounds. -/
def OutIt (W : World) (g o : Nat) (X : List Int) (key : Int → Int) (i : Nat) : Prop := ∃ T : List Int, (T.length = i ∧ T.Pairwise (lexB key) ∧ T.Perm (X.take i)) ∧ RowI W g o (T ++ X.drop i)
/-- Within a round: x goes ahead. -/
def InIt (W : World) (g o : Nat) (X : List Int) (key : Int → Int) (i : Nat) (x : Int) (j : Nat) : Prop :=
  ∃ P Q : List Int, (P.length = j ∧ (P ++ Q).Pairwise (lexB key) ∧ (P ++ Q).Perm (X.take i)) ∧ (∀ q ∈ Q, key x < key q) ∧ RowI W g o (P ++ x :: (Q ++ X.drop (i + 1)))
theorem OutIt.later {W W' : World} {g o i : Nat} {X : List Int} {key : Int → Int} (hb : Below W.heap.size W W') (h : OutIt W g o X key i) : OutIt W' g o X key i := by
  obtain ⟨T, h1, h2⟩ := h
  exact ⟨T, h1, h2.later hb⟩
theorem below_drewN (W : World) (q : Nat) : Below W.heap.size W (W.drewN q) := ⟨rfl, rfl, rfl, Nat.le_refl _, fun _ _ => rfl⟩
theorem inIt_start {W : World} {g o i : Nat} {X : List Int} {key : Int → Int} {x : Int} (h : OutIt W g o X key i) (hi : i < X.length) (hx : X[i] = x) : InIt W g o X key i x i := by
  obtain ⟨T, ⟨h1, h2, h3⟩, h4⟩ := h
  refine ⟨T, [], ⟨h1, by simpa using h2, by simpa using h3⟩, fun q hq => (by simp at hq), ?_⟩
  rw [List.drop_eq_getElem_cons hi, hx] at h4
  exact h4
theorem ahead_less {X : List Int} {i : Nat} {x p : Int} (hi : i < X.length) (hx : X[i] = x) (hX : X.Pairwise (· < ·)) (h : p ∈ X.take i) : p < x := by
  obtain ⟨j, hj, rfl⟩ := List.mem_iff_getElem.1 h
  rw [List.length_take] at hj
  rw [← hx, List.getElem_take]
  exact List.pairwise_iff_getElem.1 hX j i (by omega) hi (by omega)
theorem inIt_end {W : World} {g o i : Nat} {X P Q : List Int} {key : Int → Int} {x : Int} (h1 : (P ++ Q).Pairwise (lexB key)) (h2 : (P ++ Q).Perm (X.take i)) (hQ : ∀ q ∈ Q, key x < key q) (hr : RowI W g o (P ++ x :: (Q ++ X.drop (i + 1))))
    (hi : i < X.length) (hx : X[i] = x) (hX : X.Pairwise (· < ·)) (hP : ∀ p ∈ P, key p ≤ key x) : OutIt W g o X key (i + 1) := by
  refine ⟨P ++ x :: Q, ⟨?_, ins_sorted h1 hQ (fun p hp => ⟨hP p hp, ahead_less hi hx hX (h2.subset (List.mem_append_left _ hp))⟩), ?_⟩, ?_⟩
  · have := h2.length_eq
    rw [List.length_append, List.length_take] at this
    rw [List.length_append, List.length_cons]
    omega
  · rw [List.take_add_one, List.getElem?_eq_getElem hi, hx]
    exact List.perm_middle.trans ((h2.cons x).trans (List.perm_append_singleton x _).symm)
  · rw [List.append_assoc]; exact hr

set_option maxRecDepth 100000 in
set_option maxHeartbeats 4000000 in
theorem insSort_in (K bl : Nat) (X : List Int) (N : Int) (n c g o : Nat) (w : World) (Dm : Int → Prop) (key : Int → Int) (Kp : World → Prop) (hN : (n : Int) = N) (hn1 : 1 ≤ N) (hn : N ≤ 1000000) (hc : n ≤ c) (hcf : ∀ args w, (callFunc K args).run Tryz.prog w = .ok (.enter K args) w)
    (HX : Hid (X.length = n ∧ X.Pairwise (· < ·) ∧ ∀ x ∈ X, Dm x)) (HR : Hid (RowI w g o X ∧ FreeI w g ∧ Kp w)) (HS : Hid (Stays Kp g))
    (CH : Hid (∀ p q W, Dm p → Dm q → Kp W → Calls Tryz.prog K #[.int .i64 p, .int .i64 q, .pointer (some ⟨bl, 0, none⟩)] W fun e w' => e = .returned (.int .i64 (cmpS (key p) (key q))) ∧ Below W.heap.size W w')) :
    Calls Tryz.prog 60 #[.slice (some ⟨g, o, none⟩) n c, .int .i64 0, .int .i64 N, .func (.func K) #[] #[.pointer (some ⟨bl, 0, none⟩)]] w fun e w' =>
      e = .returned (.tuple #[]) ∧ OutIt w' g o X key n ∧ Kp w' ∧ But g w w' := by
  have hN0 : 0 ≤ N := by omega
  have H0 : Hid (OutIt w g o X key 1) := by
    obtain ⟨h1, h2, h3⟩ := HX.out
    have hl : 0 < X.length := by omega
    refine ⟨[X[0]], ⟨rfl, by simp, ?_⟩, ?_⟩
    · rw [List.take_add_one, List.getElem?_eq_getElem hl]; exact List.Perm.refl _
    · rw [List.singleton_append, ← List.drop_eq_getElem_cons hl]; exact HR.out.1
  go_enter Tryz.func60, Tryz.ntmps60
  go_wp2_with fail
  go_loopw [8] (fun iv wr => ∃ (i : Nat) (I : Int), iv = .int .i64 I ∧ 1 ≤ I ∧ I ≤ N ∧ Hid ((I = (i : Int)) ∧ OutIt wr g o X key i ∧ FreeI wr g ∧ Kp wr ∧ But g w wr)) (fun iv _ => (N - intOf iv).toNat)
  case atStart => exact ⟨1, 1, rfl, by omega, by omega, ⟨rfl, H0.out, HR.out.2.1, HR.out.2.2, But.refl _ _⟩⟩
  case round =>
    obtain ⟨i, I, rfl, hI0, hI1, hK⟩ := hrel
    by_cases hI : I < N
    · obtain ⟨hIi, hO, hF, hP, hB⟩ := hK.out
      obtain ⟨hl, hX, hD⟩ := HX.out
      have hil : i < X.length := by omega
      obtain ⟨x, hx⟩ : ∃ x, X[i] = x := ⟨_, rfl⟩
      have HI := Lib.hid hIi
      have Hx : Hid (∃ h : i < X.length, X[i] = x) := ⟨hil, hx⟩
      have HSt := Lib.hid (inIt_start hO hil hx)
      have HW : Hid (FreeI wr g ∧ Kp wr ∧ But g w wr) := ⟨hF, hP, hB⟩
      clear hK hIi hO hF hP hB hl hX hD hil hx H0 HR
      go_wp2_with fail
      go_loopw [9] (fun jv wz => ∃ (j : Nat) (J : Int), jv = .int .i64 J ∧ 0 ≤ J ∧ J ≤ I ∧ Hid ((J = (j : Int)) ∧ InIt wz g o X key i x j ∧ FreeI wz g ∧ Kp wz ∧ But g w wz)) (fun jv _ => (intOf jv).toNat)
      case atStart => exact ⟨i, I, rfl, by omega, by omega, ⟨HI.out, HSt.out, HW.out⟩⟩
      case round =>
        obtain ⟨j, J, rfl, hJ0, hJ1, hK⟩ := hrel
        clear HSt HW
        by_cases hJ : 0 < J
        · obtain ⟨hJj, ⟨P, Q, ⟨k1, k2, k3⟩, k4, k5⟩, hF, hP, hB⟩ := hK.out
          obtain ⟨hl, hX, hD⟩ := HX.out
          obtain ⟨hil, hx⟩ := Hx.out
          obtain ⟨P', y, rfl⟩ : ∃ P' y, P = P' ++ [y] := by
            rcases List.eq_nil_or_concat P with h | ⟨P', y, h⟩
            · subst h; simp at k1; omega
            · exact ⟨P', y, by simpa using h⟩
          have kl : P'.length + 1 = j := by simpa using k1
          have hDx : Dm x := by rw [← hx]; exact hD _ (List.getElem_mem hil)
          have hDy : Dm y := hD y (List.mem_of_mem_take (k3.subset (by simp)))
          have k5' : RowI wr g o (P' ++ y :: x :: (Q ++ X.drop (i + 1))) := by simpa using k5
          have c0 := k5'.at
          have c1 := k5'.at1
          obtain ⟨l, hl'⟩ : ∃ l, P'.length = l := ⟨_, rfl⟩
          rw [hl'] at c0 c1
          have hJw : IntKind.i64.wrap (J - 1) = J - 1 := by simp [IntKind.wrap, IntKind.bits, IntKind.signed]; omega
          have hJn : J.toNat = l + 1 := by omega
          have hJ1n : (J - 1).toNat = l := by omega
          have hJN : J < N := by omega
          have hJN' : J ≤ N := by omega
          have hJ10 : 0 ≤ J - 1 := by omega
          have hJ11 : 1 ≤ J := by omega
          have hJ1N : J - 1 < N := by omega
          have C1 := Lib.hid (fun W (h : Below wr.heap.size wr W) => CH.out x y W hDx hDy (HS.out.1 _ _ h hP))
          by_cases hlt : key x < key y
          · have hv : cmpS (key x) (key y) = -1 := if_pos hlt
            rw [hv] at C1
            have HKl : Hid (J = (j : Int) ∧ P'.length = l) := ⟨hJj, hl'⟩
            clear hK hX hD hx hDx hDy hv hJj k1 kl hl' hl hil
            go_wp2_with fail
            go_region_held3 (fun w' => w'.cell? ⟨g, o + (l + 1), none⟩ = some (.int .i64 x) ∧ w'.cell? ⟨g, o + l, none⟩ = some (.int .i64 y))
              (first | exact ⟨c1, c0⟩ | exact ⟨d1, d0⟩)
              (first | ((with_reducible refine (C1.out _ (Below.refl _ _).drew).mono ?_); rintro e w1 ⟨rfl, hb1⟩; have d0 := cell_later hb1 c0; have d1 := cell_later hb1 c1; have HB1 := Lib.hid hb1; clear hb1))
            all_goals (go_wp2_with fail)
            have HF1 : Hid (FreeI w1 g ∧ Kp w1 ∧ But g w w1) := ⟨hF.later (kc (Below.refl _ _).drew HB1.out), HS.out.1 _ _ (kc (Below.refl _ _).drew HB1.out) hP, hB.later (kc (Below.refl _ _).drew HB1.out)⟩
            have HR1 : Hid (RowI w1 g o (P' ++ y :: x :: (Q ++ X.drop (i + 1)))) := k5'.later (kc (Below.refl _ _).drew HB1.out)
            have z0 : w1.frozen? ⟨g, o + l, none⟩ = false := HF1.out.1.2 _
            have z1 : w1.frozen? ⟨g, o + (l + 1), none⟩ = false := HF1.out.1.2 _
            have H2 : Hid ((P' ++ [y] ++ Q).Pairwise (lexB key) ∧ (P' ++ [y] ++ Q).Perm (X.take i)) := ⟨k2, k3⟩
            have H4 : Hid (∀ q ∈ y :: Q, key x < key q) := fun q hq => by rcases List.mem_cons.1 hq with h | h; exact (by rw [h]; exact hlt); exact k4 q h
            clear hF hP hB k5' k5 k4 k2 k3 c0 c1 hlt C1 HB1
            go_region
            all_goals
              go_wp2_with fail
              go_roundw
              case rel => exact ⟨l, J - 1, by go_num, by omega, by omega, ⟨by have := HKl.out; omega, ⟨P', y :: Q, ⟨HKl.out.2, by simpa using H2.out.1, by simpa using H2.out.2⟩, H4.out, by have := HR1.out.swap; rw [HKl.out.2] at this; exact this⟩, ((HF1.out.1.set _ _).set _ _).later (Below.refl _ _).drew, HS.out.1 _ _ (Below.refl _ _).drew (HS.out.2 _ _ _ (HS.out.2 _ _ _ HF1.out.2.1)), ((HF1.out.2.2.set _ _).set _ _).later (Below.refl _ _).drew⟩⟩
              case measure => simp [intOf]; omega
          · have hv : ∃ r : Int, cmpS (key x) (key y) = r ∧ 0 ≤ r := ⟨_, rfl, by unfold cmpS; rw [if_neg hlt]; split <;> omega⟩
            obtain ⟨r, hr, hr0⟩ := hv
            rw [hr] at C1
            have HE : Hid (OutIt wr g o X key (i + 1)) := inIt_end k2 k3 k4 k5 hil hx hX (last_max (List.pairwise_append.1 k2).1 (by omega))
            have HW : Hid (FreeI wr g ∧ Kp wr ∧ But g w wr) := ⟨hF, hP, hB⟩
            clear hK hX hD hx hDx hDy hr hJj k1 kl hl' hl hil k2 k3 k4 k5 k5' hF hP hB hlt
            go_wp2_with fail
            go_region_held3 (fun w' => w'.cell? ⟨g, o + (l + 1), none⟩ = some (.int .i64 x) ∧ w'.cell? ⟨g, o + l, none⟩ = some (.int .i64 y))
              (first | exact ⟨c1, c0⟩ | exact ⟨d1, d0⟩)
              (first | ((with_reducible refine (C1.out _ (Below.refl _ _).drew).mono ?_); rintro e w1 ⟨rfl, hb1⟩; have d0 := cell_later hb1 c0; have d1 := cell_later hb1 c1; have HB1 := Lib.hid hb1; clear hb1))
            all_goals
              go_wp2_with fail
              go_roundw
              case rel => exact ⟨i + 1, I + 1, by go_num, by omega, by omega, ⟨by have := HI.out; omega, HE.out.later (kc (Below.refl _ _).drew HB1.out), HW.out.1.later (kc (Below.refl _ _).drew HB1.out), HS.out.1 _ _ (kc (Below.refl _ _).drew HB1.out) HW.out.2.1, HW.out.2.2.later (kc (Below.refl _ _).drew HB1.out)⟩⟩
              case measure => simp [intOf]; omega
        · obtain ⟨hJj, ⟨P, Q, ⟨k1, k2, k3⟩, k4, k5⟩, hF, hP, hB⟩ := hK.out
          have hP0 : P = [] := List.length_eq_zero_iff.1 (by omega)
          subst hP0
          have HE : Hid (OutIt wr g o X key (i + 1)) := by
            obtain ⟨hl, hX, hD⟩ := HX.out
            obtain ⟨hil, hx⟩ := Hx.out
            exact inIt_end k2 k3 k4 k5 hil hx hX (fun p hp => (by simp at hp))
          have HW : Hid (FreeI wr g ∧ Kp wr ∧ But g w wr) := ⟨hF, hP, hB⟩
          have hJ00 : J = 0 := by omega
          clear hK hJj k1 k2 k3 k4 k5 hF hP hB hJ
          subst hJ00
          go_wp2_with fail
          go_quiet (fail)
          all_goals
            go_wp2_with fail
            go_roundw
            case rel => exact ⟨i + 1, I + 1, by go_num, by omega, by omega, ⟨by have := HI.out; omega, HE.out.later (below_drewN _ _), HW.out.1.later (below_drewN _ _), HS.out.1 _ _ (below_drewN _ _) HW.out.2.1, HW.out.2.2.later (below_drewN _ _)⟩⟩
            case measure => simp [intOf]; omega
    · obtain ⟨hIi, hO, hF, hP, hB⟩ := hK.out
      have hin : i = n := by omega
      have HE : Hid (OutIt wr g o X key n) := by show OutIt _ _ _ _ _ _; rw [← hin]; exact hO
      have HW : Hid (Kp wr ∧ But g w wr) := ⟨hP, hB⟩
      clear hK hIi hO hF hP hB hin
      go_wp2_with fail
      exact bodyPost_end (v := .tuple #[]) (by simp [results, Tryz.results60, go_sem]) rfl ⟨rfl, HE.out, HW.out⟩

end Go.Proofs.YtfdhgimpdmhdeaaGreatDoor
