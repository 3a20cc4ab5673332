/- The document's own answers: Read, whatever the text. -/
import Derived.Test.YtebfhjndgfcijaaGreatDoorRefRead
namespace Go.Proofs.YtebfhjndgfcijaaGreatDoor
open Go Go.RowKit

set_option maxRecDepth 100000 in
set_option maxHeartbeats 1000000 in
theorem refRead_how (s : ByteArray) (how : Int) (H : Bool) (w : World) (hH : H = false)
    (CH : Hid (∀ w, Calls Tryz.prog 46 #[.int .i64 how] w fun e w' => e = .returned (.bool H) ∧ w = w')) :
    Calls Tryz.prog 8 #[.string s, .int .i64 how] w fun e w' => e = .returned (.tuple #[.int .i64 0, .int .i64 2]) ∧ Below w.heap.size w w' := by
  subst hH
  go_enter Tryz.func8, Tryz.ntmps8
  go_wp2_with (go_at_call 46; refine (CH.out _).mono ?_; rintro e w' ⟨rfl, rfl⟩)
  go_ret2
  exact ⟨rfl, Below.refl _ _⟩

set_option maxRecDepth 100000 in
set_option maxHeartbeats 1000000 in
theorem refRead_long (s : ByteArray) (z how : Int) (H : Bool) (w : World) (hH : H = true) (hz : (s.size : Int) = z) (h60 : 60 < z)
    (CH : Hid (∀ w, Calls Tryz.prog 46 #[.int .i64 how] w fun e w' => e = .returned (.bool H) ∧ w = w')) :
    Calls Tryz.prog 8 #[.string s, .int .i64 how] w fun e w' => e = .returned (.tuple #[.int .i64 0, .int .i64 3]) ∧ Below w.heap.size w w' := by
  subst hH
  go_enter Tryz.func8, Tryz.ntmps8
  go_wp2_with (go_at_call 46; refine (CH.out _).mono ?_; rintro e w' ⟨rfl, rfl⟩)
  go_ret2
  exact ⟨rfl, Below.refl _ _⟩

set_option maxRecDepth 100000 in
set_option maxHeartbeats 1000000 in
theorem refRead_form (s t : ByteArray) (z how : Int) (m H : Bool) (w : World) (hH : H = true)
    (hz : (s.size : Int) = z) (hz60 : z ≤ 60)
    (hm : (m = true ∧ ∃ hp : 0 < s.size, (((s[0]'hp).toNat : Nat) : Int) = 45 ∧ t = s.extract 1 s.size) ∨ (m = false ∧ t = s ∧ (z = 0 ∨ ∃ hp : 0 < s.size, ¬ (((s[0]'hp).toNat : Nat) : Int) = 45)))
    (CH : Hid (∀ w, Calls Tryz.prog 46 #[.int .i64 how] w fun e w' => e = .returned (.bool H) ∧ w = w'))
    (CF : Hid (∀ w, Calls Tryz.prog 47 #[.string t] w fun e w' => e = .returned (.tuple #[.int .i64 0, .bool false]) ∧ Below w.heap.size w w')) :
    Calls Tryz.prog 8 #[.string s, .int .i64 how] w fun e w' => e = .returned (.tuple #[.int .i64 0, .int .i64 5]) ∧ Below w.heap.size w w' := by
  subst hH
  have hz0 : 0 ≤ z := by omega
  rcases hm with ⟨rfl, hp, h45, hext⟩ | ⟨rfl, hext, h45⟩
  case inl =>
    have hext' := hext.symm
    have h45' : (((s[(0 : Int).toNat]'hp).toNat : Nat) : Int) = 45 := h45
    have hzp : 0 < z := by omega
    clear hext
    go_enter Tryz.func8, Tryz.ntmps8
    go_wp2_with (first | (go_at_call 46; refine (CH.out _).mono ?_; rintro e w' ⟨rfl, rfl⟩) | (go_at_call 47; refine (CF.out _).mono ?_; rintro e w9 ⟨rfl, hb9⟩; have HB9 := Lib.hid hb9; clear hb9))
    go_ret2
    exact ⟨rfl, HB9.out⟩
  case inr =>
    subst hext
    rcases h45 with h0 | ⟨hp, h45⟩
    case inl =>
      go_enter Tryz.func8, Tryz.ntmps8
      go_wp2_with (first | (go_at_call 46; refine (CH.out _).mono ?_; rintro e w' ⟨rfl, rfl⟩) | (go_at_call 47; refine (CF.out _).mono ?_; rintro e w9 ⟨rfl, hb9⟩; have HB9 := Lib.hid hb9; clear hb9))
      go_ret2
      exact ⟨rfl, HB9.out⟩
    case inr =>
      have h45' : ¬ (((t[(0 : Int).toNat]'hp).toNat : Nat) : Int) = 45 := h45
      have hzp : 0 < z := by omega
      go_enter Tryz.func8, Tryz.ntmps8
      go_wp2_with (first | (go_at_call 46; refine (CH.out _).mono ?_; rintro e w' ⟨rfl, rfl⟩) | (go_at_call 47; refine (CF.out _).mono ?_; rintro e w9 ⟨rfl, hb9⟩; have HB9 := Lib.hid hb9; clear hb9))
      go_ret2
      exact ⟨rfl, HB9.out⟩

theorem isDig_iff (x : List UInt8) : isDig (x.map dig) = true ↔ x ≠ [] ∧ AllN x := by
  constructor
  · intro h
    obtain ⟨h1, h2⟩ := isDig_pos h
    refine ⟨fun e => h1 (by rw [e]; rfl), fun c hc => ?_⟩
    have := h2 (dig c) (List.mem_map.2 ⟨c, hc, rfl⟩)
    rw [dig_one] at this
    omega
  · rintro ⟨h1, h2⟩
    unfold isDig
    rw [Bool.and_eq_true]
    constructor
    · cases x with
      | nil => exact absurd rfl h1
      | cons b l => rfl
    · rw [List.all_eq_true]
      intro d hd
      obtain ⟨c, hc, rfl⟩ := List.mem_map.1 hd
      have := h2 c hc
      rw [decide_eq_true_eq, dig_one]
      omega

theorem byteAt_some {l : List UInt8} {i : Nat} {c : UInt8} (h : l[i]? = some c) : byteAt l i = c.toNat := by unfold byteAt; rw [h]; rfl
theorem byteAt_46 {l : List UInt8} {i : Nat} (h : byteAt l i = 46) : l[i]? = some 46 := by
  unfold byteAt at h
  cases e : l[i]? with
  | none => rw [e] at h; cases h
  | some c =>
    rw [e] at h
    exact congrArg some (UInt8.toNat_inj.1 h)
theorem head_byte {l : List UInt8} (h : l.head? = some 48) : byteAt l 0 = 48 := by
  cases l with
  | nil => cases h
  | cons c r => cases h; rfl
theorem byte_head {l : List UInt8} (h : byteAt l 0 = 48) : l.head? = some 48 := by
  cases l with
  | nil => cases h
  | cons c r => exact congrArg some (UInt8.toNat_inj.1 h)
theorem allN_iff (l : List UInt8) : AllN l ↔ ∀ j, j < l.length → isDg (byteAt l j) := by
  constructor
  · intro h j hj
    rw [byteAt_get hj]
    exact h _ (List.getElem_mem hj)
  · intro h c hc
    obtain ⟨j, hj, rfl⟩ := List.mem_iff_getElem.1 hc
    have := h j hj
    rw [byteAt_get hj] at this
    exact this
theorem byteAt_take {l : List UInt8} {k j : Nat} (h : j < k) : byteAt (l.take k) j = byteAt l j := by unfold byteAt; rw [List.getElem?_take_of_lt h]
theorem byteAt_drop (l : List UInt8) (k j : Nat) : byteAt (l.drop k) j = byteAt l (k + j) := by unfold byteAt; rw [List.getElem?_drop]

/-- What form finds is what the cut at the point finds. -/
theorem form_cut (l : List UInt8) : (formOk (cutL l).1 (cutL l).2.1 (cutL l).2.2 → ∃ p, okTo l l.length p ∧ goodP l p) ∧
    ∀ p, okTo l l.length p → goodP l p → formOk (cutL l).1 (cutL l).2.1 (cutL l).2.2 ∧ rd l p l.length = (cutL l).1 ++ (cutL l).2.1 ∧ dn p l.length = 10 ^ (cutL l).2.1.length := by
  unfold cutL
  by_cases hx : Lib.indexByte l 46 = -1
  · rw [if_pos hx]
    dsimp only
    have hno := Lib.indexByte_none hx
    constructor
    · rintro ⟨h1, h2, _⟩
      obtain ⟨hne, hall⟩ := (isDig_iff l).1 h1
      have hpos : 0 < l.length := List.length_pos_iff.2 hne
      refine ⟨l.length, ⟨.inl rfl, fun j hj _ => (allN_iff l).1 hall j hj⟩, ?_⟩
      rintro (h | ⟨h, h0⟩ | h)
      · omega
      · refine h2 ⟨byte_head h0, fun e => ?_⟩
        rw [e] at h
        exact absurd h (by decide)
      · omega
    · rintro p ⟨h1, h2⟩ hg
      have hp : p = l.length := by
        rcases h1 with h1 | h1
        · exact h1
        · exact absurd (byteAt_46 h1.2) (hno p)
      subst hp
      have hall : AllN l := (allN_iff l).2 (fun j hj => h2 j hj (by omega))
      have hne : l ≠ [] := fun e => hg (.inl (by rw [e]; rfl))
      have hpos : 0 < l.length := List.length_pos_iff.2 hne
      refine ⟨⟨(isDig_iff l).2 ⟨hne, hall⟩, ?_, .inl rfl⟩, ?_, ?_⟩
      · rintro ⟨k1, k2⟩
        refine hg (.inr (.inl ⟨?_, head_byte k1⟩))
        by_cases e : l.length = 1
        · obtain ⟨c, rfl⟩ := List.length_eq_one_iff.1 e
          cases k1
          exact absurd rfl k2
        · omega
      · unfold rd
        rw [if_pos (Nat.le_refl _), List.take_length, List.append_nil]
      · exact dn_low (by omega)
  · rw [if_neg hx]
    have hg0 := Lib.indexByte_ge l 46
    obtain ⟨k, hk⟩ : ∃ k : Nat, Lib.indexByte l 46 = k := ⟨(Lib.indexByte l 46).toNat, by omega⟩
    obtain ⟨hk1, hk2⟩ := Lib.indexByte_some hk
    have hkl : k < l.length := (List.getElem?_eq_some_iff.1 hk1).1
    have hbk : byteAt l k = 46 := byteAt_some hk1
    have hkt : (Lib.indexByte l 46).toNat = k := by omega
    rw [hkt]
    dsimp only
    have lt1 : (l.take k).length = k := by rw [List.length_take]; omega
    have ld1 : (l.drop (k + 1)).length = l.length - (k + 1) := List.length_drop
    constructor
    · rintro ⟨h1, h2, h3⟩
      obtain ⟨hne, hall⟩ := (isDig_iff _).1 h1
      obtain ⟨hne2, hall2⟩ := (isDig_iff _).1 (h3.resolve_left (by simp))
      have hpos : 0 < k := by rw [← lt1]; exact List.length_pos_iff.2 hne
      have hpos2 : 0 < l.length - (k + 1) := by rw [← ld1]; exact List.length_pos_iff.2 hne2
      refine ⟨k, ⟨.inr ⟨hkl, hbk⟩, fun j hj hjk => ?_⟩, ?_⟩
      · by_cases hlt : j < k
        · have := (allN_iff _).1 hall j (by omega)
          rw [byteAt_take hlt] at this
          exact this
        · have := (allN_iff _).1 hall2 (j - (k + 1)) (by omega)
          rw [byteAt_drop, show k + 1 + (j - (k + 1)) = j by omega] at this
          exact this
      · rintro (h | ⟨h, h0⟩ | h)
        · omega
        · refine h2 ⟨byte_head (by rw [byteAt_take (by omega)]; exact h0), fun e => ?_⟩
          rw [e] at lt1
          simp at lt1
          omega
        · omega
    · rintro p ⟨h1, h2⟩ hg
      have hp : p = k := by
        by_cases e : k = p
        · exact e.symm
        · have := h2 k hkl e
          rw [hbk] at this
          unfold isDg at this
          omega
      subst hp
      have hp0 : ¬ p = 0 := fun e => hg (.inl e)
      have hp2 : ¬ p + 1 = l.length := fun e => hg (.inr (.inr e))
      refine ⟨⟨(isDig_iff _).2 ⟨fun e => by rw [e] at lt1; exact hp0 lt1.symm, (allN_iff _).2 (fun j hj => by rw [byteAt_take (by omega)]; exact h2 j (by omega) (by omega))⟩, ?_, .inr ((isDig_iff _).2 ⟨fun e => by rw [e] at ld1; simp at ld1; omega, (allN_iff _).2 (fun j hj => by rw [byteAt_drop]; exact h2 (p + 1 + j) (by omega) (by omega))⟩)⟩, ?_, ?_⟩
      · rintro ⟨k1, k2⟩
        have hb := head_byte k1
        rw [byteAt_take (by omega)] at hb
        by_cases e : p = 1
        · rw [e] at k1 k2 lt1
          obtain ⟨c, hc⟩ := List.length_eq_one_iff.1 lt1
          rw [hc] at k1 k2
          cases k1
          exact absurd rfl k2
        · exact hg (.inr (.inl ⟨by omega, hb⟩))
      · unfold rd
        rw [if_neg (by omega), List.take_length]
      · unfold dn
        rw [ld1]

theorem rnd_big (how : Int) (t : Bool) (n x c : Nat) (hc : 0 < c) (hn : 1073741824 < n) : ¬ Vld (rndS how t ((n * c + x) * 65536) c) := by
  have hq : n * 65536 ≤ (n * c + x) * 65536 / c := by
    rw [Nat.le_div_iff_mul_le hc, Nat.mul_right_comm]
    exact Nat.mul_le_mul_right _ (Nat.le_add_right _ _)
  obtain ⟨q, hqq⟩ : ∃ q, (n * c + x) * 65536 / c = q := ⟨_, rfl⟩
  unfold rndS Vld
  rw [hqq] at hq ⊢
  have : (70368744177664 : Int) < (q : Int) := by omega
  split <;> split <;> omega

theorem minus_cons (l : List UInt8) : minusL (45 :: l) = true ∧ restL (45 :: l) = l := ⟨by simp [minusL, Lib.hasPrefix], by simp [restL, Lib.trimPrefix, Lib.hasPrefix]⟩
theorem minus_other (c : UInt8) (l : List UInt8) (h : c ≠ 45) : minusL (c :: l) = false ∧ restL (c :: l) = c :: l := by
  have e : Lib.hasPrefix (c :: l) [45] = false := by simp [Lib.hasPrefix, List.isPrefixOf]; exact fun h' => h h'.symm
  exact ⟨e, by unfold restL Lib.trimPrefix; rw [e]; rfl⟩

/-- How a text begins, for the walk. -/
theorem begins (l : List UInt8) : (minusL l = true ∧ ∃ hp : 0 < (bs l).size, ((((bs l)[0]'hp).toNat : Nat) : Int) = 45 ∧ bs (restL l) = (bs l).extract 1 (bs l).size) ∨ (minusL l = false ∧ bs (restL l) = bs l ∧ (((bs l).size : Int) = 0 ∨ ∃ hp : 0 < (bs l).size, ¬ ((((bs l)[0]'hp).toNat : Nat) : Int) = 45)) := by
  cases l with
  | nil => exact .inr ⟨rfl, rfl, .inl rfl⟩
  | cons c r =>
    have hp : 0 < (bs (c :: r)).size := by rw [bs_size]; simp
    by_cases hc : c = 45
    · subst hc
      obtain ⟨h1, h2⟩ := minus_cons r
      exact .inl ⟨h1, hp, rfl, by rw [h2, bs_drop]; rfl⟩
    · obtain ⟨h1, h2⟩ := minus_other c r hc
      refine .inr ⟨h1, by rw [h2], .inr ⟨hp, fun h => hc ?_⟩⟩
      refine UInt8.toNat_inj.1 ?_
      have : (((bs (c :: r))[0]'hp).toNat : Int) = 45 := h
      show c.toNat = 45
      have e : ((bs (c :: r))[0]'hp) = c := rfl
      rw [e] at this
      omega

theorem refReadF (l : List UInt8) (how : Int) (w : World) :
    Calls Tryz.prog 8 #[.string (bs l), .int .i64 how] w fun e w' => e = .returned (.tuple #[.int .i64 (readS l how).1, .int .i64 (readS l how).2]) ∧ Below w.heap.size w w' := by
  have CH := fun w => refHow how w
  unfold readS
  by_cases hh : 0 ≤ how ∧ how ≤ 3
  · rw [if_pos hh]
    by_cases hl : l.length ≤ 60
    · rw [if_pos hl]
      have hb := begins l
      have hrl := rest_length l
      have hfm := fun w => refForm (restL l) (bs (restL l)) ((restL l).length : Int) rfl (by rw [bs_size]) rfl (by omega) w
      obtain ⟨hc1, hc2⟩ := form_cut (restL l)
      by_cases hf : fineL l
      · rw [if_pos hf]
        obtain ⟨p, hok, hg⟩ := hc1 hf
        obtain ⟨_, hrd, hdn⟩ := hc2 p hok hg
        have hple : p ≤ (restL l).length := by rcases hok.1 with h | h <;> omega
        have CF : ∀ w, Calls Tryz.prog 47 #[.string (bs (restL l))] w fun e w' => e = .returned (.tuple #[.int .i64 (p : Int), .bool true]) ∧ Below w.heap.size w w' := fun w => (hfm w).mono fun e w' ⟨h, hb⟩ => by
          refine ⟨?_, hb⟩
          rcases h with ⟨q, ⟨h1, _⟩, h2⟩ | ⟨h1, _⟩
          · rw [h2, okTo_uniq hok h1]
          · exact absurd ⟨p, hok, hg⟩ h1
        have hall := rd_all (restL l) p (restL l).length hok.2 (Nat.le_refl _)
        have hlen := rd_len (restL l) p (restL l).length (Nat.le_refl _)
        have hlt := numV_lt _ (fun c hc => (hall c hc).2)
        have l1 := pow_parts _ _ (by omega : (rd (restL l) p (restL l).length).length ≤ 60) (Nat.le_of_lt hlt)
        have l2 := parts_mul_len (numV (rd (restL l) p (restL l).length)) 65536
        have l3 : (parts 65536).length ≤ 4 := parts_small _ (by omega)
        have l4 := pow_parts (dn p (restL l).length) ((restL l).length - (p + 1)) (by omega) (Nat.le_refl _)
        have hd0 : 0 < dn p (restL l).length := Nat.pow_pos (by decide)
        have ha : AllN (cutL (restL l)).1 := ((isDig_iff _).1 hf.1).2
        have hbN : AllN (cutL (restL l)).2.1 := fun c hc => hall c (by rw [hrd]; exact List.mem_append_right _ hc)
        have hwalk := fun RR E (hRE : (RR, E) = fitS (rndS how (minusL l) (numV (rd (restL l) p (restL l).length) * 65536) (dn p (restL l).length))) => refRead_in (bs l) (bs (restL l)) (restL l) ((bs l).size : Int) ((restL l).length : Int) (p : Int) how RR E p (minusL l) _ w (decide_eq_true hh) rfl (by rw [bs_size]; omega) hb rfl (by rw [bs_size]) rfl (by omega) rfl hok CH CF ofC
          (fun a b va vb w h1 h2 h3 h4 => refTimes a b va vb w h1 h2 h3 h4) (fun a b va vb w h1 h2 h3 h4 => refPlus a b va vb w h1 h2 (by omega) (by omega)) (fun w va h => refUp16 _ va w h (by omega))
          (fun w va vb h1 h2 => (refRoundFit _ _ (minusL l) how va vb w hh.1 hh.2 hd0 h1 h2 (by omega) (by omega)).mono (fun e w' h => by
            obtain ⟨z, B, h1, h2, h3⟩ := h
            unfold RoundFit at h2
            rw [← hRE] at h2
            exact ⟨z, B, h1, h2, h3⟩))
        rw [hrd, hdn] at hwalk
        have hnum := valOf_num _ ha
        by_cases hn : valOf ((aheadL l).map dig) ≤ 1073741824
        · rw [if_pos hn]
          have hw : numV (cutL (restL l)).1 ≤ 1073741824 := by
            have : valOf ((cutL (restL l)).1.map dig) ≤ 1073741824 := hn
            omega
          have ht := text_round how (minusL l) _ _ ha hbN hw
          obtain ⟨X, hX⟩ : ∃ X : Int, (valOf ((cutL (restL l)).1.map dig) * 100000000000000000 + valOf ((((cutL (restL l)).2.1 ++ zs).take 17).map dig)) * 65536 + (if (!(Lib.trimB (((cutL (restL l)).2.1 ++ zs).drop 17) 48).isEmpty) = true then 1 else 0) = X := ⟨_, rfl⟩
          have hv0 : 0 ≤ valOf ((cutL (restL l)).1.map dig) := by rw [hnum]; omega
          have hv1 := (valOf_bd _ (behind_dig hf)).1
          have hX0 : 0 ≤ X := by
            have : (0 : Int) ≤ (if (!(Lib.trimB (((cutL (restL l)).2.1 ++ zs).drop 17) 48).isEmpty) = true then 1 else 0) := by split <;> decide
            have hv2 : 0 ≤ valOf ((((cutL (restL l)).2.1 ++ zs).take 17).map dig) := hv1
            omega
          have htv : textV l = (if minusL l = true then -1 else 1) * X := by rw [← hX]; rfl
          have hr : rnd how (textV l) 100000000000000000 = rndS how (minusL l) X.natAbs 100000000000000000 := by
            rw [rnd_signs how (textV l) 100000000000000000 (minusL l) (by decide) (fun h0 => by
              rw [htv] at h0 ⊢
              cases hmm : minusL l
              · rw [hmm] at h0
                simp at h0 ⊢
                omega
              · rw [hmm] at h0
                simp at h0 ⊢
                omega)]
            have : (textV l).natAbs = X.natAbs := by rw [htv]; split <;> simp
            rw [this]
            rfl
          rw [hX] at ht
          rw [hr, ← ht]
          have h2 := fun RR E h => hwalk RR E h
          by_cases hz : Vld (rndS how (minusL l) (numV ((cutL (restL l)).1 ++ (cutL (restL l)).2.1) * 65536) (10 ^ (cutL (restL l)).2.1.length))
          · rw [if_pos hz]
            exact hwalk _ _ (by unfold fitS; rw [if_pos hz])
          · rw [if_neg hz]
            exact hwalk _ _ (by unfold fitS; rw [if_neg hz])
        · rw [if_neg hn]
          refine hwalk _ _ ?_
          unfold fitS
          have hw : 1073741824 < numV (cutL (restL l)).1 := by
            have : ¬ valOf ((cutL (restL l)).1.map dig) ≤ 1073741824 := hn
            omega
          rw [numV_append, if_neg (rnd_big how _ _ _ _ (Nat.pow_pos (by decide)) hw)]
      · rw [if_neg hf]
        have hno : ¬ ∃ p, okTo (restL l) (restL l).length p ∧ goodP (restL l) p := fun ⟨p, h1, h2⟩ => hf (hc2 p h1 h2).1
        refine refRead_form (bs l) (bs (restL l)) _ how (minusL l) _ w (decide_eq_true hh) rfl (by rw [bs_size]; omega) hb CH (fun w => (hfm w).mono fun e w' ⟨h, hb⟩ => ⟨?_, hb⟩)
        rcases h with ⟨q, h1, _⟩ | ⟨_, h2⟩
        · exact absurd ⟨q, h1⟩ hno
        · exact h2
    · rw [if_neg hl]
      exact refRead_long (bs l) _ how _ w (decide_eq_true hh) rfl (by rw [bs_size]; omega) CH
  · rw [if_neg hh]
    exact refRead_how (bs l) how _ w (decide_eq_false hh) CH

end Go.Proofs.YtebfhjndgfcijaaGreatDoor
