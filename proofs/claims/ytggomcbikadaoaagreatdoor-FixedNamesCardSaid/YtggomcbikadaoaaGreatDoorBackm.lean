/- What Read makes of what Text gives: pure facts. -/
import Derived.Test.YtggomcbikadaoaaGreatDoorText
import Derived.Test.YtggomcbikadaoaaGreatDoorReads
import Derived.Test.YtggomcbikadaoaaGreatDoorRndAll
namespace Go.Proofs.YtggomcbikadaoaaGreatDoor
open Go Go.RowKit

/-- A byte that is a decimal digit. -/
def isD (c : UInt8) : Prop := 48 ≤ c.toNat ∧ c.toNat ≤ 57

theorem ofNat_d {k : Nat} (h : k < 10) : (UInt8.ofNat (48 + k)).toNat = 48 + k := by rw [UInt8.toNat_ofNat']; omega
theorem isD_ofNat {k : Nat} (h : k < 10) : isD (UInt8.ofNat (48 + k)) := by unfold isD; rw [ofNat_d h]; omega
theorem isD_ne {c d : UInt8} (h : isD c) (hd : d.toNat < 48) : c ≠ d := by
  rintro rfl
  unfold isD at h
  omega
theorem dig_val (c : UInt8) : (dig c).1 = (c.toNat : Int) - 48 := rfl

theorem decDigits_small {q : Nat} (h : q < 10) : Lib.decDigits q = [UInt8.ofNat (48 + q)] := by rw [Lib.decDigits, dif_pos h]
theorem decDigits_great {q : Nat} (h : ¬ q < 10) : Lib.decDigits q = Lib.decDigits (q / 10) ++ [UInt8.ofNat (48 + q % 10)] := by rw [Lib.decDigits, dif_neg h]

theorem decDigits_isD : ∀ q : Nat, ∀ c ∈ Lib.decDigits q, isD c := by
  intro q
  induction q using Nat.strongRecOn with
  | _ q ih =>
    intro c hc
    by_cases h : q < 10
    · rw [decDigits_small h] at hc
      obtain rfl := List.mem_singleton.1 hc
      exact isD_ofNat h
    · rw [decDigits_great h] at hc
      rcases List.mem_append.1 hc with hc | hc
      · exact ih (q / 10) (by omega) c hc
      · obtain rfl := List.mem_singleton.1 hc
        exact isD_ofNat (Nat.mod_lt _ (by decide))

theorem valOf_one (l : List Dig) (c : UInt8) (n : Nat) (k : Nat) (hk : k < 10) (hn : valOf l = n) (hb : 10 * n + k ≤ 100000000000000000) : valOf (l ++ [dig (UInt8.ofNat (48 + k))]) = ((10 * n + k : Nat) : Int) := by
  rw [valOf_snoc, hn, dig_val, ofNat_d hk]
  omega

theorem decDigits_val : ∀ q : Nat, q ≤ 1073741824 → valOf ((Lib.decDigits q).map dig) = q := by
  intro q
  induction q using Nat.strongRecOn with
  | _ q ih =>
    intro hq
    by_cases h : q < 10
    · rw [decDigits_small h]
      have := valOf_one [] 0 0 q h rfl (by omega)
      rw [List.nil_append] at this
      rw [List.map_cons, List.map_nil, this]
      omega
    · rw [decDigits_great h, List.map_append, List.map_cons, List.map_nil, valOf_one _ 0 (q / 10) (q % 10) (Nat.mod_lt _ (by decide)) (ih (q / 10) (by omega) (by omega)) (by omega)]
      omega

theorem decDigits_cons (q : Nat) : ∃ x r, Lib.decDigits q = x :: r ∧ isD x := by
  cases h : Lib.decDigits q with
  | nil => have := decDigits_pos q; rw [h] at this; exact absurd this (by decide)
  | cons x r => exact ⟨x, r, rfl, decDigits_isD q x (by rw [h]; exact List.mem_cons_self ..)⟩

theorem decDigits_head : ∀ q : Nat, 0 < q → (Lib.decDigits q).head? ≠ some 48 := by
  intro q
  induction q using Nat.strongRecOn with
  | _ q ih =>
    intro hq
    by_cases h : q < 10
    · rw [decDigits_small h]
      intro e
      have e1 : UInt8.ofNat (48 + q) = 48 := Option.some.inj e
      have e2 := ofNat_d h
      rw [e1] at e2
      have : (48 : UInt8).toNat = 48 := rfl
      omega
    · rw [decDigits_great h]
      have hA := ih (q / 10) (by omega) (by omega)
      obtain ⟨x, r, hx, _⟩ := decDigits_cons (q / 10)
      rw [hx] at hA ⊢
      exact hA

theorem decDigits_zero : Lib.decDigits 0 = [48] := decDigits_small (by decide)

theorem index_none : ∀ l : List UInt8, (∀ c ∈ l, c ≠ 46) → Lib.indexByte l 46 = -1 := by
  intro l
  induction l with
  | nil => intro _; rfl
  | cons b l ih =>
    intro h
    have hb : (b == 46) = false := beq_eq_false_iff_ne.2 (h b (List.mem_cons_self ..))
    have hl := ih (fun c hc => h c (List.mem_cons_of_mem _ hc))
    show (if b == 46 then (0 : Int) else if Lib.indexByte l 46 == -1 then -1 else Lib.indexByte l 46 + 1) = -1
    rw [hb, hl]
    rfl

theorem index_dot : ∀ (A B : List UInt8), (∀ c ∈ A, c ≠ 46) → Lib.indexByte (A ++ 46 :: B) 46 = A.length := by
  intro A B
  induction A with
  | nil => intro _; rfl
  | cons b l ih =>
    intro h
    have hb : (b == 46) = false := beq_eq_false_iff_ne.2 (h b (List.mem_cons_self ..))
    have hl := ih (fun c hc => h c (List.mem_cons_of_mem _ hc))
    show (if b == 46 then (0 : Int) else if Lib.indexByte (l ++ 46 :: B) 46 == -1 then -1 else Lib.indexByte (l ++ 46 :: B) 46 + 1) = ((l.length + 1 : Nat) : Int)
    have hn : (((l.length : Nat) : Int) == -1) = false := beq_eq_false_iff_ne.2 (by omega)
    rw [hb, hl, hn]
    rfl

theorem cut_none_l (A : List UInt8) (h : ∀ c ∈ A, c ≠ 46) : cutL A = (A, [], false) := by
  unfold cutL
  rw [if_pos (index_none A h)]

theorem cut_dot_l (A B : List UInt8) (h : ∀ c ∈ A, c ≠ 46) : cutL (A ++ 46 :: B) = (A, B, true) := by
  unfold cutL
  rw [index_dot A B h, if_neg (by omega), Int.toNat_natCast]
  have e1 : (A ++ 46 :: B).take A.length = A := List.take_left
  have e2 : (A ++ 46 :: B).drop (A.length + 1) = B := by
    rw [← List.drop_drop, List.drop_left]
    rfl
  rw [e1, e2]

theorem d8_isD (x : D10) : isD (d8 x) := isD_ofNat x.2
theorem d8_dig (x : D10) : (dig (d8 x)).1 = x.1 := by
  rw [dig_val]
  unfold d8
  rw [ofNat_d x.2]
  omega

/-- The digits, filled up with zeros. -/
def pad (f r : Nat) : List UInt8 := (decs f r).map d8 ++ List.replicate (f - (decs f r).length) 48

theorem decs_zero (f : Nat) : decs f 0 = [] := by cases f <;> rfl

theorem pad_succ (f r : Nat) : pad (f + 1) r = d8 ⟨r * 10 / 65536 % 10, Nat.mod_lt _ (by decide)⟩ :: pad f (r * 10 % 65536) := by
  by_cases h : r = 0
  · subst h
    show (decs (f + 1) 0).map d8 ++ List.replicate (f + 1 - (decs (f + 1) 0).length) 48 = d8 ⟨0, by decide⟩ :: ((decs f 0).map d8 ++ List.replicate (f - (decs f 0).length) 48)
    rw [decs_zero (f + 1), decs_zero f]
    rfl
  · have e : decs (f + 1) r = ⟨r * 10 / 65536 % 10, Nat.mod_lt _ (by decide)⟩ :: decs f (r * 10 % 65536) := by
      show (if r = 0 then [] else _) = _
      rw [if_neg h]
    unfold pad
    rw [e, List.map_cons, List.length_cons, Nat.add_sub_add_right]
    rfl

theorem fold_digits : ∀ (f r n j : Nat), r < 65536 → r * 2 ^ f % 65536 = 0 → n < 10 ^ j → j + f ≤ 17 →
    ∃ v : Nat, 65536 * v = 65536 * n * 10 ^ f + r * 10 ^ f ∧ ((pad f r).map dig).foldl (fun (n : Int) d => min (10 * n + d.1) 100000000000000000) (n : Int) = v := by
  intro f
  induction f with
  | zero =>
    intro r n j h0 h1 _ _
    have : r = 0 := by rw [Nat.pow_zero, Nat.mul_one] at h1; omega
    subst this
    exact ⟨n, by omega, rfl⟩
  | succ f ih =>
    intro r n j h0 h1 h2 h3
    obtain ⟨x, hx⟩ : ∃ x : D10, (⟨r * 10 / 65536 % 10, Nat.mod_lt _ (by decide)⟩ : D10) = x := ⟨_, rfl⟩
    have hxv : x.1 = r * 10 / 65536 := by rw [← hx]; show r * 10 / 65536 % 10 = _; omega
    have hx9 := x.2
    have hp : 10 ^ (j + 1) ≤ 10 ^ 17 := Nat.pow_le_pow_right (by decide) (by omega)
    have hp1 : 10 ^ (j + 1) = 10 ^ j * 10 := Nat.pow_succ ..
    have hp2 : (10 : Nat) ^ 17 = 100000000000000000 := rfl
    have hn : 10 * n + x.1 < 10 ^ (j + 1) := by omega
    obtain ⟨v, hv, hf⟩ := ih (r * 10 % 65536) (10 * n + x.1) (j + 1) (Nat.mod_lt _ (by decide)) (by
      rw [Nat.mod_mul_mod, show r * 10 * 2 ^ f = r * 2 ^ (f + 1) * 5 by rw [Nat.pow_succ]; grind, Nat.mul_mod, h1, Nat.zero_mul]) hn (by omega)
    refine ⟨v, ?_, ?_⟩
    · obtain ⟨T, hT⟩ : ∃ T, 10 ^ f = T := ⟨_, rfl⟩
      rw [hT] at hv
      rw [Nat.pow_succ, hT, hv]
      have e : 65536 * x.1 + r * 10 % 65536 = 10 * r := by rw [hxv]; omega
      have e2 : (65536 * x.1 + r * 10 % 65536) * T = 10 * r * T := by rw [e]
      grind
    · rw [pad_succ, hx, List.map_cons, List.foldl_cons, d8_dig]
      have hm : min (10 * (n : Int) + (x.1 : Int)) 100000000000000000 = ((10 * n + x.1 : Nat) : Int) := by omega
      rw [hm]
      exact hf

theorem zs_eq : zs = List.replicate 17 48 := rfl

theorem take_pad (r : Nat) : ((dL r).map d8 ++ zs).take 17 = pad 17 r := by
  have hl : ((dL r).map d8).length ≤ 17 := by rw [List.length_map]; exact dL_length r
  rw [zs_eq, List.take_append, List.take_of_length_le hl, List.take_replicate]
  unfold pad
  rw [List.length_map]
  show _ ++ List.replicate (min (17 - (dL r).length) 17) 48 = _ ++ List.replicate (17 - (dL r).length) 48
  rw [Nat.min_eq_left (by omega)]
  rfl

theorem pow_facts (r : Nat) : r * 2 ^ 17 % 65536 = 0 ∧ (10 : Nat) ^ 17 = 100000000000000000 := by
  have e : (2 : Nat) ^ 17 = 2 ^ 16 * 2 := Nat.pow_succ ..
  have e2 : (2 : Nat) ^ 16 = 65536 := by decide
  rw [e, e2]
  exact ⟨by omega, by decide⟩

theorem frac_at (f r : Nat) (hf : f = 17) (h : r < 65536) : ∃ v : Nat, 65536 * v = r * 10 ^ f ∧ valOf ((pad f r).map dig) = v := by
  have h1 : r * 2 ^ f % 65536 = 0 := by rw [hf]; exact (pow_facts r).1
  obtain ⟨v, hv, hx⟩ := fold_digits f r 0 0 h h1 (Nat.lt_of_lt_of_le Nat.zero_lt_one (Nat.le_refl _)) (by omega)
  refine ⟨v, ?_, hx⟩
  rw [Nat.mul_zero, Nat.zero_mul, Nat.zero_add] at hv
  exact hv

theorem frac_val (r : Nat) (h : r < 65536) : ∃ v : Nat, 65536 * v = r * 100000000000000000 ∧ valOf ((((dL r).map d8 ++ zs).take 17).map dig) = v := by
  obtain ⟨f, hf⟩ : ∃ f, f = 17 := ⟨_, rfl⟩
  obtain ⟨v, hv, hx⟩ := frac_at f r hf h
  refine ⟨v, by rw [hf, (pow_facts r).2] at hv; exact hv, ?_⟩
  rw [take_pad, ← hf]
  exact hx

theorem drop_zeros (r : Nat) : ∃ k, ((dL r).map d8 ++ zs).drop 17 = List.replicate k 48 := by
  have hl : ((dL r).map d8).length ≤ 17 := by rw [List.length_map]; exact dL_length r
  rw [zs_eq, List.drop_append, List.drop_of_length_le hl, List.nil_append, List.drop_replicate]
  exact ⟨_, rfl⟩

theorem dropWhile_all (l : List UInt8) (c : UInt8) (h : ∀ b ∈ l, b = c) : l.dropWhile (· == c) = [] := by
  induction l with
  | nil => rfl
  | cons b l ih =>
    rw [List.dropWhile_cons, if_pos (beq_iff_eq.2 (h b (List.mem_cons_self ..)))]
    exact ih (fun x hx => h x (List.mem_cons_of_mem _ hx))

theorem trim_zeros (k : Nat) : Lib.trimB (List.replicate k 48) 48 = [] := by
  have h1 : (List.replicate k (48 : UInt8)).reverse.dropWhile (· == 48) = [] := dropWhile_all _ _ (fun b hb => by rw [List.mem_reverse] at hb; exact (List.mem_replicate.1 hb).2)
  unfold Lib.trimB Lib.trimRightB Lib.trimLeftB
  rw [h1]
  rfl

theorem isDig_of {l : List UInt8} (h0 : l ≠ []) (h : ∀ c ∈ l, isD c) : isDig (l.map dig) = true := by
  unfold isDig
  rw [Bool.and_eq_true]
  constructor
  · cases l with
    | nil => exact absurd rfl h0
    | cons b l => rfl
  · rw [List.all_eq_true]
    intro d hd
    obtain ⟨c, hc, rfl⟩ := List.mem_map.1 hd
    have := h c hc
    unfold isD at this
    rw [decide_eq_true_eq, dig_val]
    omega

theorem rnd_exact (how a : Int) (h0 : 0 ≤ how) (h1 : how ≤ 3) : rnd how (a * 100000000000000000) 100000000000000000 = a := by
  have e1 : (a * 100000000000000000).natAbs = a.natAbs * 100000000000000000 := Int.natAbs_mul ..
  have e2 : (100000000000000000 : Int).natAbs = 100000000000000000 := rfl
  have hu : ∀ t, upB how t 0 100000000000000000 = false := by
    intro t
    rcases how_cases h0 h1 with rfl | rfl | rfl | rfl <;> cases t <;> rfl
  rw [rnd_sign how _ _ _ rfl, e1, e2, Nat.mul_div_cancel _ (by decide), Nat.mul_mod_left]
  show (if _ then -((a.natAbs : Int) + if upB how _ 0 100000000000000000 then 1 else 0) else ((a.natAbs : Int) + if upB how _ 0 100000000000000000 then 1 else 0)) = a
  rw [hu]
  have ht : (decide (a * 100000000000000000 < 0) != decide ((100000000000000000 : Int) < 0)) = decide (a < 0) := by
    by_cases h : a < 0
    · rw [decide_eq_true h, decide_eq_true (show a * 100000000000000000 < 0 by omega)]; rfl
    · rw [decide_eq_false h, decide_eq_false (show ¬ a * 100000000000000000 < 0 by omega)]; rfl
  rw [ht]
  by_cases h : a < 0
  · rw [decide_eq_true h]
    simp
    omega
  · rw [decide_eq_false h]
    simp
    omega

theorem textL_form (a : Int) (hv : Vld a) : textL a = (if a < 0 then [45] else []) ++ (Lib.decDigits (a.natAbs / 65536) ++ ((if 0 < a.natAbs % 65536 then [46] else []) ++ (dL (a.natAbs % 65536)).map d8)) := by
  unfold textL
  rw [if_pos hv, List.append_assoc]

theorem rest_textL (a : Int) (hv : Vld a) : minusL (textL a) = decide (a < 0) ∧ restL (textL a) = Lib.decDigits (a.natAbs / 65536) ++ ((if 0 < a.natAbs % 65536 then [46] else []) ++ (dL (a.natAbs % 65536)).map d8) := by
  rw [textL_form a hv]
  obtain ⟨R, hR⟩ : ∃ R, (if 0 < a.natAbs % 65536 then [46] else []) ++ (dL (a.natAbs % 65536)).map d8 = R := ⟨_, rfl⟩
  rw [hR]
  unfold minusL restL Lib.trimPrefix Lib.hasPrefix
  by_cases h : a < 0
  · rw [if_pos h, decide_eq_true h]
    exact ⟨rfl, rfl⟩
  · rw [if_neg h, decide_eq_false h, List.nil_append]
    obtain ⟨x, r, hx, hd⟩ := decDigits_cons (a.natAbs / 65536)
    have hp : List.isPrefixOf [45] (Lib.decDigits (a.natAbs / 65536) ++ R) = false := by
      rw [hx]
      show ((45 : UInt8) == x && _) = false
      rw [beq_eq_false_iff_ne.2 (isD_ne hd (by decide)).symm]
      rfl
    rw [hp]
    exact ⟨rfl, rfl⟩

theorem cut_textL (a : Int) (hv : Vld a) : cutL (restL (textL a)) = (Lib.decDigits (a.natAbs / 65536), (dL (a.natAbs % 65536)).map d8, decide (0 < a.natAbs % 65536)) := by
  rw [(rest_textL a hv).2]
  have hn : ∀ c ∈ Lib.decDigits (a.natAbs / 65536), c ≠ 46 := fun c hc => isD_ne (decDigits_isD _ c hc) (by decide)
  by_cases h : 0 < a.natAbs % 65536
  · rw [if_pos h, decide_eq_true h]
    exact cut_dot_l _ _ hn
  · rw [if_neg h, decide_eq_false h, show a.natAbs % 65536 = 0 by omega]
    show cutL (Lib.decDigits (a.natAbs / 65536) ++ []) = _
    rw [List.append_nil]
    exact cut_none_l _ hn

theorem fine_textL (a : Int) (hv : Vld a) : fineL (textL a) := by
  unfold fineL formOk
  rw [cut_textL a hv]
  obtain ⟨x, r, hx, hd⟩ := decDigits_cons (a.natAbs / 65536)
  refine ⟨isDig_of (by rw [hx]; exact List.cons_ne_nil _ _) (decDigits_isD _), ?_, ?_⟩
  · rintro ⟨e1, e2⟩
    by_cases h : 0 < a.natAbs / 65536
    · exact decDigits_head _ h e1
    · rw [show a.natAbs / 65536 = 0 by omega] at e2
      exact e2 decDigits_zero
  · by_cases h : 0 < a.natAbs % 65536
    · right
      refine isDig_of ?_ ?_
      · obtain ⟨y, _, hy⟩ := dL_cons (a.natAbs % 65536) (Nat.mod_lt _ (by decide)) (by omega)
        show (dL (a.natAbs % 65536)).map d8 ≠ []
        rw [hy]
        exact List.cons_ne_nil _ _
      · intro c hc
        obtain ⟨y, _, rfl⟩ := List.mem_map.1 hc
        exact d8_isD y
    · exact .inl (decide_eq_false h)

theorem textV_textL (a : Int) (hv : Vld a) : textV (textL a) = a * 100000000000000000 ∧ valOf ((aheadL (textL a)).map dig) ≤ 1073741824 := by
  have hv' := hv
  unfold Vld at hv'
  have hA : aheadL (textL a) = Lib.decDigits (a.natAbs / 65536) := by unfold aheadL; rw [cut_textL a hv]
  have hB : behindL (textL a) = (dL (a.natAbs % 65536)).map d8 ++ zs := by unfold behindL; rw [cut_textL a hv]
  have hq : valOf ((aheadL (textL a)).map dig) = ((a.natAbs / 65536 : Nat) : Int) := by rw [hA]; exact decDigits_val _ (by omega)
  obtain ⟨v, hv1, hv2⟩ := frac_val (a.natAbs % 65536) (Nat.mod_lt _ (by decide))
  obtain ⟨k, hk⟩ := drop_zeros (a.natAbs % 65536)
  refine ⟨?_, by rw [hq]; omega⟩
  unfold textV
  rw [hq, hB, hv2, hk, trim_zeros, (rest_textL a hv).1]
  unfold wholeV
  by_cases h : a < 0
  · rw [decide_eq_true h]
    simp
    omega
  · rw [decide_eq_false h]
    simp
    omega

theorem textL_length (a : Int) (hv : Vld a) : (textL a).length ≤ 60 := by
  have hv' := hv
  unfold Vld at hv'
  have h1 := decDigits_le (a.natAbs / 65536) (by omega)
  have h2 := dL_length (a.natAbs % 65536)
  rw [textL_form a hv, List.length_append, List.length_append, List.length_append, List.length_map]
  have h3 : (if a < 0 then ([45] : List UInt8) else []).length ≤ 1 := by split <;> decide
  have h4 : (if 0 < a.natAbs % 65536 then ([46] : List UInt8) else []).length ≤ 1 := by split <;> decide
  omega

/-- A number is read from its text as it was, whatever the rounding. -/
theorem read_textL (a how : Int) (hv : Vld a) (h0 : 0 ≤ how) (h1 : how ≤ 3) : readS (textL a) how = (a, 0) := by
  obtain ⟨e1, e2⟩ := textV_textL a hv
  unfold readS
  rw [if_pos ⟨h0, h1⟩, if_pos (textL_length a hv), if_pos (fine_textL a hv), if_pos e2, e1, rnd_exact how a h0 h1, if_pos hv]

end Go.Proofs.YtggomcbikadaoaaGreatDoor
