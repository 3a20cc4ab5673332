/- Natural numbers as parts of 15 bits, as the document's own answers have them: pure facts. -/
import Derived.Test.YtebfhjndgfcijaaGreatDoorNum
namespace Go.Proofs.YtebfhjndgfcijaaGreatDoor
open Go

/-- The value of parts of 15 bits, the lowest first. -/
def pv : List Nat → Nat
  | [] => 0
  | x :: l => x + 32768 * pv l

/-- The parts of a number. -/
def parts (n : Nat) : List Nat := if h : n = 0 then [] else n % 32768 :: parts (n / 32768)
termination_by n
decreasing_by omega

theorem parts_zero : parts 0 = [] := by rw [parts, dif_pos rfl]
theorem parts_pos {n : Nat} (h : n ≠ 0) : parts n = n % 32768 :: parts (n / 32768) := by rw [parts, dif_neg h]

theorem pv_parts : ∀ n : Nat, pv (parts n) = n := by
  intro n
  induction n using Nat.strongRecOn with
  | _ n ih =>
    by_cases h : n = 0
    · subst h; rw [parts_zero]; rfl
    · rw [parts_pos h]
      show n % 32768 + 32768 * pv (parts (n / 32768)) = n
      rw [ih (n / 32768) (by omega)]
      omega

/-- Parts: each below 2^15. -/
def Fine (l : List Nat) : Prop := ∀ x ∈ l, x < 32768

theorem parts_fine : ∀ n : Nat, Fine (parts n) := by
  intro n
  induction n using Nat.strongRecOn with
  | _ n ih =>
    by_cases h : n = 0
    · subst h; rw [parts_zero]; exact fun x hx => by cases hx
    · rw [parts_pos h]
      intro x hx
      rcases List.mem_cons.1 hx with rfl | hx
      · exact Nat.mod_lt _ (by decide)
      · exact ih (n / 32768) (by omega) x hx

theorem fine_cons {x : Nat} {l : List Nat} (h : Fine (x :: l)) : x < 32768 ∧ Fine l :=
  ⟨h x (List.mem_cons_self ..), fun y hy => h y (List.mem_cons_of_mem _ hy)⟩

theorem pv_append (l m : List Nat) : pv (l ++ m) = pv l + 32768 ^ l.length * pv m := by
  induction l with
  | nil => show pv m = 0 + 1 * pv m; omega
  | cons x l ih =>
    show x + 32768 * pv (l ++ m) = x + 32768 * pv l + 32768 ^ (l.length + 1) * pv m
    rw [ih, Nat.pow_succ, Nat.mul_add, Nat.mul_comm (32768 ^ l.length) 32768, Nat.mul_assoc]
    omega

theorem pv_lt {l : List Nat} (h : Fine l) : pv l < 32768 ^ l.length := by
  induction l with
  | nil => exact Nat.zero_lt_one
  | cons x l ih =>
    obtain ⟨h1, h2⟩ := fine_cons h
    have := ih h2
    show x + 32768 * pv l < 32768 ^ (l.length + 1)
    rw [Nat.pow_succ]
    omega

/-- Parts without zeros at the end are the parts of their value. -/
theorem parts_pv : ∀ l : List Nat, Fine l → l.getLast? ≠ some 0 → parts (pv l) = l := by
  intro l
  induction l with
  | nil => intro _ _; exact parts_zero
  | cons x l ih =>
    intro hf hl
    obtain ⟨h1, h2⟩ := fine_cons hf
    have hv : pv (x :: l) = x + 32768 * pv l := rfl
    by_cases e : l = []
    · subst e
      have hx : x ≠ 0 := by rintro rfl; exact hl rfl
      rw [hv, show pv [] = 0 from rfl, parts_pos (by omega), show (x + 32768 * 0) / 32768 = 0 by omega, parts_zero, show (x + 32768 * 0) % 32768 = x by omega]
    · have hl' : l.getLast? ≠ some 0 := by
        cases l with
        | nil => exact absurd rfl e
        | cons y m => rw [List.getLast?_cons_cons] at hl; exact hl
      have ih' := ih h2 hl'
      have hp : pv l ≠ 0 := by
        intro h0
        rw [h0, parts_zero] at ih'
        exact e ih'.symm
      rw [hv, parts_pos (by omega), show (x + 32768 * pv l) / 32768 = pv l by omega, show (x + 32768 * pv l) % 32768 = x by omega, ih']

theorem parts_last (n : Nat) : (parts n).getLast? ≠ some 0 := by
  induction n using Nat.strongRecOn with
  | _ n ih =>
    by_cases h : n = 0
    · subst h; rw [parts_zero]; exact fun h => by cases h
    · rw [parts_pos h]
      by_cases h2 : n / 32768 = 0
      · rw [h2, parts_zero]
        show some (n % 32768) ≠ some 0
        intro e
        have := Option.some.inj e
        omega
      · rw [parts_pos h2, List.getLast?_cons_cons, ← parts_pos h2]
        exact ih (n / 32768) (by omega)

theorem parts_length (k n : Nat) (h : n < 32768 ^ k) : (parts n).length ≤ k := by
  induction k generalizing n with
  | zero => rw [show n = 0 by simpa using h, parts_zero]; exact Nat.le_refl _
  | succ k ih =>
    by_cases h0 : n = 0
    · subst h0; rw [parts_zero]; exact Nat.zero_le _
    · rw [parts_pos h0, List.length_cons]
      have := ih (n / 32768) (by rw [Nat.pow_succ] at h; exact Nat.div_lt_of_lt_mul (by omega))
      omega

theorem pv_snoc_zero (l : List Nat) : pv (l ++ [0]) = pv l := by
  rw [pv_append]
  show pv l + _ * (0 + 32768 * 0) = pv l
  omega

/-- Which of two is greater is told by the highest part in which they differ. -/
theorem pv_top {l m : List Nat} (hl : Fine l) (hlen : l.length = m.length) (x y : Nat) (t : List Nat) (h : x < y) : pv (l ++ x :: t) < pv (m ++ y :: t) := by
  rw [pv_append, pv_append, hlen]
  have h1 := pv_lt hl
  rw [hlen] at h1
  show pv l + 32768 ^ m.length * (x + 32768 * pv t) < pv m + 32768 ^ m.length * (y + 32768 * pv t)
  have h2 : 32768 ^ m.length * (x + 32768 * pv t + 1) ≤ 32768 ^ m.length * (y + 32768 * pv t) := Nat.mul_le_mul_left _ (by omega)
  rw [Nat.mul_add (32768 ^ m.length) (x + 32768 * pv t) 1] at h2
  omega

theorem parts_len_lt {a b : Nat} (h : (parts a).length < (parts b).length) : a < b := by
  have h1 := pv_lt (parts_fine a)
  rw [pv_parts] at h1
  rcases Nat.lt_or_ge a b with h2 | h2
  · exact h2
  · have := parts_length (parts a).length b (Nat.lt_of_le_of_lt h2 h1)
    omega

theorem drop_at {l : List Nat} {i : Nat} (h : i < l.length) : l.drop i = l[i] :: l.drop (i + 1) := List.drop_eq_getElem_cons h
theorem pv_drop {l : List Nat} {i : Nat} (h : i < l.length) : pv (l.drop i) = l[i] + 32768 * pv (l.drop (i + 1)) := by
  rw [drop_at h]
  rfl
theorem pv_drop_end {l : List Nat} {i : Nat} (h : l.length ≤ i) : pv (l.drop i) = 0 := by
  rw [List.drop_of_length_le h]
  rfl
/-- The part at a place, 0 behind the last one. -/
def at' (l : List Nat) (i : Nat) : Nat := if h : i < l.length then l[i] else 0
theorem at_lt {l : List Nat} (hf : Fine l) (i : Nat) : at' l i < 32768 := by
  unfold at'
  split
  · exact hf _ (List.getElem_mem _)
  · decide
theorem pv_step (l : List Nat) (i : Nat) : pv (l.drop i) = at' l i + 32768 * pv (l.drop (i + 1)) := by
  unfold at'
  by_cases h : i < l.length
  · rw [dif_pos h]; exact pv_drop h
  · rw [dif_neg h, pv_drop_end (by omega), pv_drop_end (by omega)]
theorem pv_snoc (l : List Nat) (x : Nat) : pv (l ++ [x]) = pv l + 32768 ^ l.length * x := by
  rw [pv_append]
  show pv l + _ * (x + 32768 * 0) = _
  rw [show x + 32768 * 0 = x by omega]
theorem fine_snoc {l : List Nat} {x : Nat} (h : Fine l) (hx : x < 32768) : Fine (l ++ [x]) := fun y hy => by
  rcases List.mem_append.1 hy with hy | hy
  · exact h y hy
  · rw [List.mem_singleton.1 hy]; exact hx
theorem last_at {l : List Nat} (h : l.getLast? ≠ some 0) (h0 : 0 < l.length) : at' l (l.length - 1) ≠ 0 := by
  unfold at'
  rw [dif_pos (by omega)]
  intro e
  apply h
  rw [List.getLast?_eq_getElem?, List.getElem?_eq_getElem (by omega), e]

/-- How far a sum has been carried out: i parts are written, c is carried. -/
structure Summed (a b out : List Nat) (i c : Nat) : Prop where
  len : out.length = i
  fine : Fine out
  carry : c ≤ 1
  val : pv out + 32768 ^ i * (c + pv (a.drop i) + pv (b.drop i)) = pv a + pv b
  top : i < a.length ∨ i < b.length ∨ 0 < c ∨ out.getLast? ≠ some 0

theorem Summed.start (a b : List Nat) : Summed a b [] 0 0 :=
  ⟨rfl, (fun x hx => by cases hx), by decide, (by show 0 + 1 * (0 + pv a + pv b) = _; omega), .inr (.inr (.inr (fun h => by cases h)))⟩

theorem Summed.step {a b out : List Nat} {i c : Nat} (h : Summed a b out i c) (ha : Fine a) (hb : Fine b) (ta : a.getLast? ≠ some 0) (tb : b.getLast? ≠ some 0) (hi : i < a.length ∨ i < b.length ∨ 0 < c) :
    Summed a b (out ++ [(c + at' a i + at' b i) % 32768]) (i + 1) ((c + at' a i + at' b i) / 32768) := by
  obtain ⟨h1, h2, h3, h4, h5⟩ := h
  have g1 := at_lt ha i
  have g2 := at_lt hb i
  refine ⟨by rw [List.length_append, h1]; rfl, fine_snoc h2 (Nat.mod_lt _ (by decide)), by omega, ?_, ?_⟩
  · rw [pv_snoc, h1, ← h4, pv_step a i, pv_step b i, Nat.pow_succ]
    obtain ⟨T, hT⟩ : ∃ T, 32768 ^ i = T := ⟨_, rfl⟩
    obtain ⟨X, hX⟩ : ∃ X, pv (a.drop (i + 1)) = X := ⟨_, rfl⟩
    obtain ⟨Y, hY⟩ : ∃ Y, pv (b.drop (i + 1)) = Y := ⟨_, rfl⟩
    obtain ⟨s, hs⟩ : ∃ s, c + at' a i + at' b i = s := ⟨_, rfl⟩
    rw [hT, hX, hY, hs]
    have e : T * (c + (at' a i + 32768 * X) + (at' b i + 32768 * Y)) = T * (s % 32768 + 32768 * (s / 32768 + X + Y)) := by
      congr 1
      omega
    rw [e]
    grind
  · by_cases q1 : i + 1 < a.length
    · exact .inl q1
    by_cases q2 : i + 1 < b.length
    · exact .inr (.inl q2)
    by_cases q3 : 0 < (c + at' a i + at' b i) / 32768
    · exact .inr (.inr (.inl q3))
    refine .inr (.inr (.inr ?_))
    have hs : 0 < c + at' a i + at' b i := by
      rcases hi with h | h | h
      · have := last_at ta (by omega)
        rw [show a.length - 1 = i by omega] at this
        omega
      · have := last_at tb (by omega)
        rw [show b.length - 1 = i by omega] at this
        omega
      · omega
    rw [List.getLast?_append, List.getLast?_singleton]
    show some _ ≠ some 0
    intro e
    have := Option.some.inj e
    omega

theorem Summed.done {a b out : List Nat} {i c : Nat} (h : Summed a b out i c) (h1 : ¬ i < a.length) (h2 : ¬ i < b.length) (h3 : ¬ 0 < c) : out = parts (pv a + pv b) := by
  have hv := h.val
  rw [pv_drop_end (by omega), pv_drop_end (by omega), show c = 0 by omega] at hv
  have ht : out.getLast? ≠ some 0 := by
    rcases h.top with h | h | h | h
    · exact absurd h h1
    · exact absurd h h2
    · exact absurd h h3
    · exact h
  rw [← hv, show pv out + 32768 ^ i * (0 + 0 + 0) = pv out by omega, parts_pv out h.fine ht]

/-- How far a difference has been carried out: i parts are written, c is borrowed. -/
structure Subbed (a b out : List Nat) (i c : Nat) : Prop where
  len : out.length = i
  fine : Fine out
  carry : c ≤ 1
  val : (pv out : Int) + (32768 ^ i : Nat) * ((pv (a.drop i) : Int) - pv (b.drop i) - c) = pv a - pv b

theorem Subbed.start (a b : List Nat) : Subbed a b [] 0 0 :=
  ⟨rfl, (fun x hx => by cases hx), by decide, (by show (0 : Int) + (1 : Nat) * ((pv a : Int) - pv b - (0 : Nat)) = _; omega)⟩

theorem Subbed.step {a b out : List Nat} {i c d c' : Nat} (h : Subbed a b out i c) (hd : d < 32768) (hc : c' ≤ 1) (e : (at' a i : Int) - c - at' b i + 32768 * c' = d) : Subbed a b (out ++ [d]) (i + 1) c' := by
  obtain ⟨h1, h2, h3, h4⟩ := h
  refine ⟨by rw [List.length_append, h1]; rfl, fine_snoc h2 hd, hc, ?_⟩
  rw [pv_snoc, h1, ← h4, pv_step a i, pv_step b i, Nat.pow_succ]
  obtain ⟨T, hT⟩ : ∃ T : Nat, 32768 ^ i = T := ⟨_, rfl⟩
  obtain ⟨X, hX⟩ : ∃ X, pv (a.drop (i + 1)) = X := ⟨_, rfl⟩
  obtain ⟨Y, hY⟩ : ∃ Y, pv (b.drop (i + 1)) = Y := ⟨_, rfl⟩
  rw [hT, hX, hY]
  have ea : (at' a i : Int) = d + c + at' b i - 32768 * c' := by omega
  simp only [Int.natCast_add, Int.natCast_mul, show ((32768 : Nat) : Int) = 32768 from rfl]
  rw [ea]
  grind

theorem Subbed.done {a b out : List Nat} {i c : Nat} (h : Subbed a b out i c) (hi : i = a.length) (hlen : b.length ≤ a.length) (hle : pv b ≤ pv a) : pv out = pv a - pv b := by
  have hv := h.val
  have ho := pv_lt h.fine
  rw [h.len] at ho
  rw [pv_drop_end (l := a) (by omega), pv_drop_end (l := b) (by omega)] at hv
  obtain ⟨T, hT⟩ : ∃ T : Nat, 32768 ^ i = T := ⟨_, rfl⟩
  rw [hT] at hv ho
  rcases (show c = 0 ∨ c = 1 by have := h.carry; omega) with rfl | rfl
  · rw [show (((0 : Nat) : Int) - ((0 : Nat) : Int) - ((0 : Nat) : Int)) = 0 from rfl, Int.mul_zero] at hv
    omega
  · rw [show (((0 : Nat) : Int) - ((0 : Nat) : Int) - ((1 : Nat) : Int)) = -1 from rfl, Int.mul_neg_one] at hv
    omega

theorem set_length {l : List Nat} (j x : Nat) : (l.set j x).length = l.length := List.length_set ..
theorem at_set_same {l : List Nat} {j : Nat} (x : Nat) (h : j < l.length) : at' (l.set j x) j = x := by
  unfold at'
  rw [dif_pos (by rw [List.length_set]; exact h), List.getElem_set_self]
theorem at_set_other {l : List Nat} {j k : Nat} (x : Nat) (h : j ≠ k) : at' (l.set j x) k = at' l k := by
  unfold at'
  by_cases hk : k < l.length
  · rw [dif_pos hk, dif_pos (by rw [List.length_set]; exact hk), List.getElem_set_ne h]
  · rw [dif_neg hk, dif_neg (by rw [List.length_set]; exact hk)]
theorem pv_set : ∀ (l : List Nat) (j x : Nat), j < l.length → pv (l.set j x) + 32768 ^ j * at' l j = pv l + 32768 ^ j * x := by
  intro l
  induction l with
  | nil => intro j x h; cases h
  | cons y l ih =>
    intro j x h
    cases j with
    | zero =>
      show x + 32768 * pv l + 1 * y = y + 32768 * pv l + 1 * x
      omega
    | succ j =>
      have hj : j < l.length := by rw [List.length_cons] at h; omega
      have e : at' (y :: l) (j + 1) = at' l j := by
        unfold at'
        rw [dif_pos h, dif_pos hj]
        rfl
      show y + 32768 * pv (l.set j x) + 32768 ^ (j + 1) * at' (y :: l) (j + 1) = y + 32768 * pv l + 32768 ^ (j + 1) * x
      have h2 := ih j x hj
      rw [e, Nat.pow_succ]
      grind
theorem fine_set {l : List Nat} {j x : Nat} (h : Fine l) (hx : x < 32768) : Fine (l.set j x) := fun y hy => by
  rcases List.mem_or_eq_of_mem_set hy with hy | hy
  · exact h y hy
  · rw [hy]; exact hx

/-- How far a product has been carried out: i parts of a are done. -/
structure Timed (a b out : List Nat) (i : Nat) : Prop where
  len : out.length = a.length + b.length
  fine : Fine out
  free : ∀ j, i + b.length ≤ j → at' out j = 0
  val : pv out + 32768 ^ i * (pv (a.drop i) * pv b) = pv a * pv b

/-- Inside a round: k parts of b are done, c is carried. -/
structure Timing (a b out0 out : List Nat) (i k c : Nat) : Prop where
  len : out.length = a.length + b.length
  fine : Fine out
  carry : c < 32768
  free : ∀ j, i + b.length ≤ j → at' out j = 0
  val : pv out + 32768 ^ i * (32768 ^ k * (c + at' a i * pv (b.drop k))) = pv out0 + 32768 ^ i * (at' a i * pv b)

theorem pv_zeros (n : Nat) : pv (List.replicate n 0) = 0 := by
  induction n with
  | zero => rfl
  | succ n ih => rw [List.replicate_succ]; show 0 + 32768 * pv (List.replicate n 0) = 0; rw [ih]
theorem at_zeros (n j : Nat) : at' (List.replicate n 0) j = 0 := by
  unfold at'
  split
  · exact List.getElem_replicate ..
  · rfl

theorem Timed.start (a b : List Nat) : Timed a b (List.replicate (a.length + b.length) 0) 0 :=
  ⟨List.length_replicate .., (fun x hx => by rw [(List.mem_replicate.1 hx).2]; decide), (fun j _ => at_zeros _ j), (by rw [pv_zeros, Nat.pow_zero, List.drop_zero]; omega)⟩

theorem Timed.enter {a b out : List Nat} {i : Nat} (h : Timed a b out i) : Timing a b out out i 0 0 :=
  ⟨h.len, h.fine, by decide, h.free, (by rw [Nat.pow_zero, Nat.one_mul, Nat.zero_add, List.drop_zero])⟩

theorem Timing.step {a b out0 out : List Nat} {i k c : Nat} (h : Timing a b out0 out i k c) (ha : Fine a) (hb : Fine b) (hi : i < a.length) (hk : k < b.length) :
    Timing a b out0 (out.set (i + k) ((c + at' out (i + k) + at' a i * at' b k) % 32768)) i (k + 1) ((c + at' out (i + k) + at' a i * at' b k) / 32768) := by
  obtain ⟨h1, h2, h3, h4, h5⟩ := h
  have g1 := at_lt ha i
  have g2 := at_lt hb k
  have g3 := at_lt h2 (i + k)
  have hm : at' a i * at' b k ≤ 32767 * 32767 := Nat.mul_le_mul (by omega) (by omega)
  have hs := pv_set out (i + k) ((c + at' out (i + k) + at' a i * at' b k) % 32768) (by omega)
  refine ⟨by rw [List.length_set]; exact h1, fine_set h2 (Nat.mod_lt _ (by decide)), by omega, ?_, ?_⟩
  · intro j hj
    rw [at_set_other _ (by omega)]
    exact h4 j hj
  · rw [← h5, pv_step b k]
    rw [Nat.pow_add] at hs
    rw [Nat.pow_succ]
    obtain ⟨T, hT⟩ : ∃ T, 32768 ^ i = T := ⟨_, rfl⟩
    obtain ⟨S, hS⟩ : ∃ S, 32768 ^ k = S := ⟨_, rfl⟩
    obtain ⟨X, hX⟩ : ∃ X, pv (b.drop (k + 1)) = X := ⟨_, rfl⟩
    obtain ⟨p, hp⟩ : ∃ p, at' a i = p := ⟨_, rfl⟩
    obtain ⟨q, hq⟩ : ∃ q, at' b k = q := ⟨_, rfl⟩
    obtain ⟨o, ho⟩ : ∃ o, at' out (i + k) = o := ⟨_, rfl⟩
    rw [hT, hS, hp, hq, ho] at hs
    rw [hT, hS, hX, hp, hq, ho]
    obtain ⟨t, ht⟩ : ∃ t, c + o + p * q = t := ⟨_, rfl⟩
    rw [ht] at hs ⊢
    obtain ⟨m, hm'⟩ : ∃ m, t % 32768 = m := ⟨_, rfl⟩
    obtain ⟨u, hu⟩ : ∃ u, t / 32768 = u := ⟨_, rfl⟩
    have e : c + o + p * q = m + 32768 * u := by omega
    rw [hm'] at hs ⊢
    rw [hu]
    obtain ⟨V, hV⟩ : ∃ V, pv (out.set (i + k) m) = V := ⟨_, rfl⟩
    rw [hV] at hs ⊢
    have e2 : T * S * (c + o + p * q) = T * S * (m + 32768 * u) := by rw [e]
    grind

theorem Timing.leave {a b out0 out : List Nat} {i c : Nat} (h : Timing a b out0 out i b.length c) (h0 : Timed a b out0 i) (hi : i < a.length) : Timed a b (out.set (i + b.length) c) (i + 1) := by
  obtain ⟨h1, h2, h3, h4, h5⟩ := h
  have hs := pv_set out (i + b.length) c (by omega)
  rw [h4 _ (Nat.le_refl _)] at hs
  refine ⟨by rw [List.length_set]; exact h1, fine_set h2 h3, ?_, ?_⟩
  · intro j hj
    rw [at_set_other _ (by omega)]
    exact h4 j (by omega)
  · have hv := h0.val
    rw [pv_step a i] at hv
    rw [pv_drop_end (Nat.le_refl _)] at h5
    rw [Nat.pow_add] at hs
    rw [Nat.pow_succ]
    obtain ⟨T, hT⟩ : ∃ T, 32768 ^ i = T := ⟨_, rfl⟩
    obtain ⟨S, hS⟩ : ∃ S, 32768 ^ b.length = S := ⟨_, rfl⟩
    obtain ⟨X, hX⟩ : ∃ X, pv (a.drop (i + 1)) = X := ⟨_, rfl⟩
    rw [hT, hS] at hs h5
    rw [hT] at hv
    rw [hX] at hv
    rw [hT, hX]
    grind

theorem Timed.done {a b out : List Nat} {i : Nat} (h : Timed a b out i) (hi : a.length ≤ i) : pv out = pv a * pv b := by
  have hv := h.val
  rw [pv_drop_end hi, Nat.zero_mul, Nat.mul_zero] at hv
  exact hv


end Go.Proofs.YtebfhjndgfcijaaGreatDoor
