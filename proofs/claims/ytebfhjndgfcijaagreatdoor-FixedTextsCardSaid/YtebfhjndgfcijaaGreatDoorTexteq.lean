/- The number of a text: the document's own reckoning, with all digits, and the one with seventeen and a rest, round alike. -/
import Derived.Test.YtebfhjndgfcijaaGreatDoorRead
import Derived.Test.YtebfhjndgfcijaaGreatDoorRefMul
namespace Go.Proofs.YtebfhjndgfcijaaGreatDoor
open Go Go.RowKit

theorem rndS_like (how : Int) (t : Bool) {N D N' D' : Nat} (hq : N / D = N' / D') (h0 : 0 < N % D ↔ 0 < N' % D') (h1 : D ≤ 2 * (N % D) ↔ D' ≤ 2 * (N' % D')) : rndS how t N D = rndS how t N' D' := by
  have e : upB how t ((N % D : Nat) : Int) (D : Int) = upB how t ((N' % D' : Nat) : Int) (D' : Int) := by
    have e0 : decide ((0 : Int) < ((N % D : Nat) : Int)) = decide ((0 : Int) < ((N' % D' : Nat) : Int)) := decide_eq_decide.2 (by omega)
    have e1 : decide ((D : Int) - ((N % D : Nat) : Int) ≤ ((N % D : Nat) : Int)) = decide ((D' : Int) - ((N' % D' : Nat) : Int) ≤ ((N' % D' : Nat) : Int)) := decide_eq_decide.2 (by omega)
    unfold upB
    rw [e0, e1]
  unfold rndS
  rw [e, hq]

theorem rndS_scale (how : Int) (t : Bool) (N D m : Nat) (hm : 0 < m) : rndS how t (N * m) (D * m) = rndS how t N D := by
  refine rndS_like how t (Nat.mul_div_mul_right _ _ hm) ?_ ?_
  · rw [Nat.mul_mod_mul_right]
    exact ⟨fun h => Nat.pos_of_mul_pos_right h, fun h => Nat.mul_pos h hm⟩
  · rw [Nat.mul_mod_mul_right, ← Nat.mul_assoc]
    exact ⟨fun h => Nat.le_of_mul_le_mul_right h hm, fun h => Nat.mul_le_mul_right m h⟩

theorem div_mod_of {N D q r : Nat} (h : N = q * D + r) (hr : r < D) : N / D = q ∧ N % D = r := by
  subst h
  have hD : 0 < D := by omega
  constructor
  · rw [Nat.add_comm, Nat.add_mul_div_right _ _ hD, Nat.div_eq_of_lt hr, Nat.zero_add]
  · rw [Nat.add_comm, Nat.add_mul_mod_self_right, Nat.mod_eq_of_lt hr]

theorem sticky_ours (A D E q ρ s : Nat) (hA : A = q * E + ρ) (hD : D = 65536 * E) : A * 65536 + s = q * D + (ρ * 65536 + s) := by
  subst hA hD
  rw [Nat.mul_left_comm q 65536 E, Nat.add_mul, Nat.mul_comm (q * E) 65536, Nat.add_assoc]

set_option maxRecDepth 100000 in
theorem sticky_gen (how : Int) (t : Bool) (A τ c F E D s : Nat) (hE : E = 2 * F) (hD : D = 65536 * E) (hF : 0 < F) (hc : 0 < c) (hτ : τ < c) (hs : (τ = 0 ∧ s = 0) ∨ (0 < τ ∧ s = 1)) :
    rndS how t ((A * c + τ) * 65536) (D * c) = rndS how t (A * 65536 + s) D := by
  obtain ⟨q, hq⟩ : ∃ q, A / E = q := ⟨_, rfl⟩
  obtain ⟨ρ, hρ⟩ : ∃ ρ, A % E = ρ := ⟨_, rfl⟩
  have hA : A = q * E + ρ := by rw [← hq, ← hρ, Nat.mul_comm]; exact (Nat.div_add_mod A E).symm
  have hρE : ρ < E := by rw [← hρ]; exact Nat.mod_lt _ (by omega)
  have hρc : (ρ + 1) * c ≤ E * c := Nat.mul_le_mul_right c hρE
  rw [Nat.add_mul, Nat.one_mul] at hρc
  obtain ⟨x, hx⟩ : ∃ x, ρ * c = x := ⟨_, rfl⟩
  obtain ⟨y, hy⟩ : ∃ y, E * c = y := ⟨_, rfl⟩
  rw [hx, hy] at hρc
  have hDc : D * c = 65536 * y := by rw [hD, Nat.mul_assoc, hy]
  have hz1 : A * c = q * y + x := by rw [hA, Nat.add_mul, Nat.mul_assoc, hy, hx]
  have hz2 : q * (D * c) = 65536 * (q * y) := by rw [hDc, Nat.mul_left_comm]
  have e1 : (A * c + τ) * 65536 = q * (D * c) + (x + τ) * 65536 := by
    rw [hz2, hz1]
    omega
  have e2 := sticky_ours A D E q ρ s hA hD
  obtain ⟨d1, m1⟩ := div_mod_of e1 (by omega)
  obtain ⟨d2, m2⟩ := div_mod_of e2 (by omega)
  have hx0 : x = 0 ↔ ρ = 0 := by
    rw [← hx]
    constructor
    · intro h
      rcases Nat.mul_eq_zero.1 h with h | h
      · exact h
      · omega
    · intro h; rw [h, Nat.zero_mul]
  obtain ⟨z, hz⟩ : ∃ z, F * c = z := ⟨_, rfl⟩
  have hyz : y = 2 * z := by rw [← hy, ← hz, hE, Nat.mul_assoc]
  have hF2 : z ≤ x + τ ↔ F ≤ ρ := by
    constructor
    · intro h
      rcases Nat.lt_or_ge ρ F with hlt | hge
      · have h2 : (ρ + 1) * c ≤ F * c := Nat.mul_le_mul_right c hlt
        rw [Nat.add_mul, Nat.one_mul, hx, hz] at h2
        omega
      · exact hge
    · intro h
      have h2 : F * c ≤ ρ * c := Nat.mul_le_mul_right c h
      omega
  refine rndS_like how t (d1.trans d2.symm) ?_ ?_
  · rw [m1, m2]; omega
  · rw [m1, m2, hDc, hyz]; omega

theorem text_scaled (u x y τ : Nat) (h : x * 100000000000000000 = y + τ) : (u + x) * 65536 * 100000000000000000 = (u * 100000000000000000 + y + τ) * 65536 := by
  rw [Nat.mul_right_comm, Nat.add_mul u x, h, Nat.add_assoc]

/-- The number of a row of digits. -/
def numV (l : List UInt8) : Nat := l.foldl (fun n c => 10 * n + (c.toNat - 48)) 0
theorem numV_snoc (l : List UInt8) (c : UInt8) : numV (l ++ [c]) = 10 * numV l + (c.toNat - 48) := by
  unfold numV
  rw [List.foldl_append]
  rfl
theorem numV_from (l : List UInt8) : ∀ n, l.foldl (fun n c => 10 * n + (c.toNat - 48)) n = n * 10 ^ l.length + numV l := by
  induction l with
  | nil => intro n; simp [numV]
  | cons c l ih =>
    intro n
    have h1 := ih (10 * n + (c.toNat - 48))
    have h2 := ih (10 * 0 + (c.toNat - 48))
    unfold numV
    rw [List.foldl_cons, List.foldl_cons, h1, h2, List.length_cons, Nat.pow_succ, Nat.add_mul, Nat.add_mul]
    have : 10 * n * 10 ^ l.length = n * (10 ^ l.length * 10) := by rw [Nat.mul_comm 10 n, Nat.mul_assoc, Nat.mul_comm 10]
    omega
theorem numV_append (a b : List UInt8) : numV (a ++ b) = numV a * 10 ^ b.length + numV b := by
  show List.foldl _ _ _ = _
  rw [List.foldl_append]
  exact numV_from b _
theorem numV_zeros (k : Nat) : numV (List.replicate k 48) = 0 := by
  induction k with
  | zero => rfl
  | succ k ih =>
    rw [List.replicate_succ', numV_snoc, ih]
    rfl
theorem numV_lt (l : List UInt8) (h : ∀ c ∈ l, c.toNat ≤ 57) : numV l < 10 ^ l.length := by
  induction l with
  | nil => decide
  | cons c l ih =>
    have h1 := ih (fun x hx => h x (List.mem_cons_of_mem _ hx))
    have h2 := h c (List.mem_cons_self ..)
    have e := numV_append [c] l
    have e2 : numV [c] = c.toNat - 48 := by show 10 * 0 + (c.toNat - 48) = _; omega
    rw [e2] at e
    rw [show c :: l = [c] ++ l from rfl, e, List.length_append, List.length_singleton, Nat.pow_add, Nat.pow_one]
    have h3 : (c.toNat - 48) * 10 ^ l.length ≤ 9 * 10 ^ l.length := Nat.mul_le_mul_right _ (by omega)
    omega
theorem numV_zero (l : List UInt8) (h : ∀ c ∈ l, 48 ≤ c.toNat) : numV l = 0 ↔ ∀ c ∈ l, c = 48 := by
  induction l with
  | nil => simp [numV]
  | cons c l ih =>
    have h1 := ih (fun x hx => h x (List.mem_cons_of_mem _ hx))
    have h2 := h c (List.mem_cons_self ..)
    have e := numV_append [c] l
    have e2 : numV [c] = c.toNat - 48 := by show 10 * 0 + (c.toNat - 48) = _; omega
    rw [e2] at e
    rw [show c :: l = [c] ++ l from rfl, e]
    have hp : 0 < 10 ^ l.length := Nat.pow_pos (by decide)
    constructor
    · intro h3
      have h4 : (c.toNat - 48) * 10 ^ l.length = 0 := by omega
      have h5 : c.toNat - 48 = 0 := by
        rcases Nat.mul_eq_zero.1 h4 with h | h
        · exact h
        · omega
      have h6 := h1.1 (by omega)
      intro x hx
      rcases List.mem_append.1 hx with hx | hx
      · rw [List.mem_singleton.1 hx]
        exact UInt8.toNat_inj.1 (by show c.toNat = 48; omega)
      · exact h6 x hx
    · intro h3
      have h4 : c = 48 := h3 c (List.mem_append_left _ (List.mem_singleton.2 rfl))
      have h6 := h1.2 (fun x hx => h3 x (List.mem_append_right _ hx))
      rw [h6, h4]
      show (48 - 48) * _ + 0 = 0
      rw [Nat.zero_mul]

theorem drop_some (l : List UInt8) (c : UInt8) (h : ∃ b ∈ l, b ≠ c) : ∃ b ∈ l.dropWhile (· == c), b ≠ c := by
  induction l with
  | nil => obtain ⟨b, hb, _⟩ := h; cases hb
  | cons x l ih =>
    rw [List.dropWhile_cons]
    by_cases hx : x = c
    · rw [if_pos (beq_iff_eq.2 hx)]
      refine ih ?_
      obtain ⟨b, hb, hn⟩ := h
      rcases List.mem_cons.1 hb with rfl | hb
      · exact absurd hx hn
      · exact ⟨b, hb, hn⟩
    · rw [if_neg (fun h => hx (beq_iff_eq.1 h))]
      exact ⟨x, List.mem_cons_self .., hx⟩
theorem drop_none (l : List UInt8) (c : UInt8) (h : ∀ b ∈ l, b = c) : l.dropWhile (· == c) = [] := by
  induction l with
  | nil => rfl
  | cons x l ih =>
    rw [List.dropWhile_cons, if_pos (beq_iff_eq.2 (h x (List.mem_cons_self ..)))]
    exact ih (fun y hy => h y (List.mem_cons_of_mem _ hy))
theorem trim_empty (l : List UInt8) (c : UInt8) : Lib.trimB l c = [] ↔ ∀ b ∈ l, b = c := by
  unfold Lib.trimB Lib.trimRightB Lib.trimLeftB
  constructor
  · intro h b hb
    by_cases hbc : b = c
    · exact hbc
    · obtain ⟨x, hx, hn⟩ := drop_some l.reverse c ⟨b, List.mem_reverse.2 hb, hbc⟩
      obtain ⟨y, hy, _⟩ := drop_some _ c ⟨x, List.mem_reverse.2 hx, hn⟩
      rw [h] at hy
      cases hy
  · intro h
    rw [drop_none l.reverse c (fun b hb => h b (List.mem_reverse.1 hb))]
    rfl

/-- Digits and nothing else. -/
def AllN (l : List UInt8) : Prop := ∀ c ∈ l, 48 ≤ c.toNat ∧ c.toNat ≤ 57
theorem dig_one (c : UInt8) : (dig c).1 = (c.toNat : Int) - 48 := rfl
theorem valOf_num (l : List UInt8) (h : AllN l) : valOf (l.map dig) = min ((numV l : Nat) : Int) 100000000000000000 := by
  obtain ⟨k, hk⟩ : ∃ k, l.length = k := ⟨_, rfl⟩
  induction k generalizing l with
  | zero =>
    rw [List.eq_nil_of_length_eq_zero hk]
    decide
  | succ k ih =>
    have hne : l ≠ [] := fun e => by rw [e] at hk; cases hk
    obtain ⟨m, c, rfl⟩ : ∃ m c, l = m ++ [c] := ⟨l.dropLast, l.getLast hne, (List.dropLast_concat_getLast hne).symm⟩
    have hm : m.length = k := by rw [List.length_append, List.length_singleton] at hk; omega
    have h1 := ih m (fun c hc => h c (List.mem_append_left _ hc)) hm
    have h2 := h c (List.mem_append_right _ (List.mem_singleton.2 rfl))
    rw [List.map_append, List.map_singleton, valOf_snoc, h1, numV_snoc, dig_one]
    omega

set_option maxRecDepth 100000 in
/-- The document's own number of a text's digits, its denominator, and ours. -/
theorem text_round (how : Int) (t : Bool) (a b : List UInt8) (ha : AllN a) (hb : AllN b) (hw : numV a ≤ 1073741824) :
    rndS how t (numV (a ++ b) * 65536) (10 ^ b.length) = rndS how t (((valOf (a.map dig) * 100000000000000000 + valOf (((b ++ zs).take 17).map dig)) * 65536 + (if (!(Lib.trimB ((b ++ zs).drop 17) 48).isEmpty) = true then 1 else 0)).natAbs) 100000000000000000 := by
  obtain ⟨B, hB⟩ : ∃ B, b ++ zs = B := ⟨_, rfl⟩
  have hBl : B.length = b.length + 17 := by rw [← hB, List.length_append]; rfl
  have hz : AllN zs := by intro c hc; simp [zs] at hc; rw [hc]; decide
  have hBa : AllN B := by
    intro c hc
    rw [← hB] at hc
    rcases List.mem_append.1 hc with h | h
    · exact hb c h
    · exact hz c h
  have hBn : numV B = numV b * 100000000000000000 := by
    have ez : (10 : Nat) ^ zs.length = 100000000000000000 := by decide
    rw [← hB, numV_append, show numV zs = 0 from numV_zeros 17, ez, Nat.add_zero]
  have h1 : AllN (B.take 17) := fun c hc => hBa c (List.mem_of_mem_take hc)
  have h2 : AllN (B.drop 17) := fun c hc => hBa c (List.mem_of_mem_drop hc)
  have l1 : (B.take 17).length = 17 := by rw [List.length_take]; omega
  have l2 : (B.drop 17).length = b.length := by rw [List.length_drop]; omega
  have hv := numV_lt _ (fun c hc => (h1 c hc).2)
  have hτ := numV_lt _ (fun c hc => (h2 c hc).2)
  have hs := numV_zero _ (fun c hc => (h2 c hc).1)
  have hsum : numV B = numV (B.take 17) * 10 ^ b.length + numV (B.drop 17) := by
    rw [← l2, ← numV_append, List.take_append_drop]
  rw [l1] at hv
  rw [l2] at hτ
  have e1 := valOf_num a ha
  have e2 := valOf_num _ h1
  rw [hB, e1, e2]
  obtain ⟨c, hc⟩ : ∃ c, 10 ^ b.length = c := ⟨_, rfl⟩
  have hcp : 0 < c := by rw [← hc]; exact Nat.pow_pos (by decide)
  rw [hc] at hsum hτ
  rw [numV_append, hc]
  obtain ⟨v, hvv⟩ : ∃ v, numV (B.take 17) = v := ⟨_, rfl⟩
  obtain ⟨τ, hττ⟩ : ∃ τ, numV (B.drop 17) = τ := ⟨_, rfl⟩
  obtain ⟨n, hn⟩ : ∃ n, numV a = n := ⟨_, rfl⟩
  obtain ⟨x, hx⟩ : ∃ x, numV b = x := ⟨_, rfl⟩
  rw [hvv] at hv hsum ⊢
  rw [hττ] at hτ hsum hs
  rw [hn] at hw ⊢
  rw [hx] at hBn ⊢
  have hv2 : v < 100000000000000000 := hv
  have hst : ((τ = 0 ∧ (if (!(Lib.trimB (B.drop 17) 48).isEmpty) = true then 1 else 0 : Nat) = 0) ∨ (0 < τ ∧ (if (!(Lib.trimB (B.drop 17) 48).isEmpty) = true then 1 else 0 : Nat) = 1)) := by
    by_cases h : τ = 0
    · refine .inl ⟨h, ?_⟩
      rw [(trim_empty _ _).2 (hs.1 h)]
      rfl
    · refine .inr ⟨by omega, ?_⟩
      have : Lib.trimB (B.drop 17) 48 ≠ [] := fun e => h (hs.2 ((trim_empty _ _).1 e))
      rw [if_pos]
      cases hT : Lib.trimB (B.drop 17) 48 with
      | nil => exact absurd hT this
      | cons _ _ => rfl
  have hcast : ((if (!(Lib.trimB (B.drop 17) 48).isEmpty) = true then 1 else 0 : Int)) = ((if (!(Lib.trimB (B.drop 17) 48).isEmpty) = true then 1 else 0 : Nat) : Int) := by split <;> rfl
  rw [hcast]
  obtain ⟨s, hss⟩ : ∃ s, (if (!(Lib.trimB (B.drop 17) 48).isEmpty) = true then 1 else 0 : Nat) = s := ⟨_, rfl⟩
  rw [hss] at hst ⊢
  have hg := sticky_gen how t (n * 100000000000000000 + v) τ c 762939453125 1525878906250 100000000000000000 s (by decide) (by decide) (by decide) hcp hτ hst
  have e3 : ((min ((n : Nat) : Int) 100000000000000000 * 100000000000000000 + min ((v : Nat) : Int) 100000000000000000) * 65536 + (s : Int)).natAbs = (n * 100000000000000000 + v) * 65536 + s := by omega
  rw [e3, ← hg, ← rndS_scale how t ((n * c + x) * 65536) c 100000000000000000 (by decide)]
  have hz4 : (n * 100000000000000000 + v) * c = n * c * 100000000000000000 + v * c := by rw [Nat.add_mul, Nat.mul_right_comm]
  have e4 : (n * c + x) * 65536 * 100000000000000000 = ((n * 100000000000000000 + v) * c + τ) * 65536 := by
    rw [hz4]
    exact text_scaled (n * c) x (v * c) τ (hBn.symm.trans hsum)
  rw [e4, Nat.mul_comm c]

end Go.Proofs.YtebfhjndgfcijaaGreatDoor
