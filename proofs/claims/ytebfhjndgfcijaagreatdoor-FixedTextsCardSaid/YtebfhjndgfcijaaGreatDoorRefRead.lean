/- The document's own answers: Read. -/
import Derived.Test.YtebfhjndgfcijaaGreatDoorRefForm
import Derived.Test.YtebfhjndgfcijaaGreatDoorTexteq
namespace Go.Proofs.YtebfhjndgfcijaaGreatDoor
open Go Go.RowKit

/-- The digits that have been read, without the point. -/
def rd (l : List UInt8) (p i : Nat) : List UInt8 := if i ≤ p then l.take i else l.take p ++ (l.take i).drop (p + 1)
def dn (p i : Nat) : Nat := 10 ^ (i - (p + 1))
theorem rd_zero (l : List UInt8) (p : Nat) : rd l p 0 = [] := by unfold rd; rw [if_pos (Nat.zero_le _)]; rfl
theorem byteAt_get {l : List UInt8} {i : Nat} (hi : i < l.length) : byteAt l i = (l[i]).toNat := by unfold byteAt; rw [List.getElem?_eq_getElem hi]; rfl
theorem rd_point (l : List UInt8) (p : Nat) : rd l p (p + 1) = rd l p p := by
  unfold rd
  rw [if_neg (by omega), if_pos (Nat.le_refl _), List.drop_eq_nil_of_le (by rw [List.length_take]; omega), List.append_nil]
theorem rd_more (l : List UInt8) (p i : Nat) (hi : i < l.length) (hp : i ≠ p) : rd l p (i + 1) = rd l p i ++ [l[i]] := by
  unfold rd
  by_cases h : i < p
  · rw [if_pos (by omega), if_pos (by omega), List.take_succ_eq_append_getElem hi]
  · rw [if_neg (by omega), if_neg (by omega), List.take_succ_eq_append_getElem hi, List.drop_append_of_le_length (by rw [List.length_take]; omega), List.append_assoc]
theorem dn_low {p i : Nat} (h : i ≤ p + 1) : dn p i = 1 := by unfold dn; rw [show i - (p + 1) = 0 by omega]
theorem dn_more {p i : Nat} (h : p < i) : dn p (i + 1) = dn p i * 10 := by unfold dn; rw [show i + 1 - (p + 1) = i - (p + 1) + 1 by omega, Nat.pow_succ]
theorem rd_all (l : List UInt8) (p i : Nat) (h : ∀ j, j < l.length → j ≠ p → isDg (byteAt l j)) (hi : i ≤ l.length) : AllN (rd l p i) := by
  induction i with
  | zero => rw [rd_zero]; intro c hc; cases hc
  | succ i ih =>
    by_cases e : i = p
    · subst e; rw [rd_point]; exact ih (by omega)
    · rw [rd_more l p i (by omega) e]
      intro c hc
      rcases List.mem_append.1 hc with hc | hc
      · exact ih (by omega) c hc
      · rw [List.mem_singleton.1 hc]
        have := h i (by omega) e
        rw [byteAt_get (by omega)] at this
        exact this
theorem rd_len (l : List UInt8) (p i : Nat) (hi : i ≤ l.length) : (rd l p i).length ≤ i := by
  unfold rd
  split
  · rw [List.length_take]; omega
  · rw [List.length_append, List.length_drop, List.length_take, List.length_take]; omega
theorem pow_parts (n k : Nat) (hk : k ≤ 60) (h : n ≤ 10 ^ k) : (parts n).length ≤ 20 := parts_length 20 _ (by
  have h1 : 10 ^ k ≤ 10 ^ 60 := Nat.pow_le_pow_right (by decide) hk
  have h2 : (10 : Nat) ^ 60 < 32768 ^ 20 := by decide +kernel
  omega)

theorem holds_nil (W : World) : Holds W (.slice none 0 0) 0 := by
  refine ⟨none, 0, ?_, ?_, fun j hj => ?_⟩
  · rw [parts_zero]; rfl
  · rw [parts_zero]; exact Nat.le_refl _
  · rw [parts_zero] at hj; cases hj
theorem holds_one (W : World) : Holds (W.alloc (.cells #[.int .i64 1] 3)) (.slice (some ⟨W.heap.size, 0, none⟩) 1 1) 1 := by
  have e : parts 1 = [1] := by rw [parts_pos (by decide), show 1 / 32768 = 0 by decide, parts_zero]
  refine ⟨some ⟨W.heap.size, 0, none⟩, 1, ?_, ?_, fun j hj => ?_⟩
  · rw [e]; rfl
  · rw [e]; exact Nat.le_refl _
  · rw [e] at hj ⊢
    have hj0 : j = 0 := by simpa using hj
    subst hj0
    exact ⟨W.heap.size, rfl, by simp [go_sem, at']⟩
theorem lt10 : (parts 10).length ≤ 20 := parts_length 20 _ (by decide +kernel)

set_option maxRecDepth 100000 in
set_option maxHeartbeats 1000000 in
theorem refRead_in (s t : ByteArray) (l : List UInt8) (z n P how RR E : Int) (p : Nat) (m H : Bool) (w : World) (hH : H = true)
    (hz : (s.size : Int) = z) (hz60 : z ≤ 60)
    (hm : (m = true ∧ ∃ hp : 0 < s.size, (((s[0]'hp).toNat : Nat) : Int) = 45 ∧ t = s.extract 1 s.size) ∨ (m = false ∧ t = s ∧ (z = 0 ∨ ∃ hp : 0 < s.size, ¬ (((s[0]'hp).toNat : Nat) : Int) = 45)))
    (ht : t = ⟨l.toArray⟩) (htz : (t.size : Int) = n) (hn : (l.length : Int) = n) (hn60 : n ≤ 60) (hP : P = (p : Int)) (hok : okTo l l.length p)
    (CH : Hid (∀ w, Calls Tryz.prog 46 #[.int .i64 how] w fun e w' => e = .returned (.bool H) ∧ w = w'))
    (CF : Hid (∀ w, Calls Tryz.prog 47 #[.string t] w fun e w' => e = .returned (.tuple #[.int .i64 P, .bool true]) ∧ Below w.heap.size w w'))
    (CO : Hid (∀ x w, 0 ≤ x → x ≤ 70368744177664 → Calls Tryz.prog 50 #[.int .i64 x] w fun e w' => ∃ v, e = .returned v ∧ Holds w' v (Int.toNat x) ∧ Below w.heap.size w w'))
    (CT : Hid (∀ a b va vb w, Holds w va a → Holds w vb b → (parts a).length ≤ 400 → (parts b).length ≤ 400 → Calls Tryz.prog 49 #[va, vb] w fun e w' => ∃ v, e = .returned v ∧ Holds w' v (a * b) ∧ Below w.heap.size w w'))
    (CQ : Hid (∀ a b va vb w, Holds w va a → Holds w vb b → (parts a).length ≤ 400 → (parts b).length ≤ 400 → Calls Tryz.prog 48 #[va, vb] w fun e w' => ∃ v, e = .returned v ∧ Holds w' v (a + b) ∧ Below w.heap.size w w'))
    (CU : Hid (∀ w va, Holds w va (numV (rd l p l.length)) → Calls Tryz.prog 53 #[va, .int .i64 16] w fun e w' => ∃ v, e = .returned v ∧ Holds w' v (numV (rd l p l.length) * 65536) ∧ Below w.heap.size w w'))
    (CN : Hid (∀ w va vb, Holds w va (numV (rd l p l.length) * 65536) → Holds w vb (dn p l.length) → Calls Tryz.prog 52 #[va, vb, .bool m, .int .i64 how] w fun e w' => ∃ z B, e = .returned (.tuple #[.int .i64 z, .bool B]) ∧ (∀ w, Calls Tryz.prog 51 #[.int .i64 z, .bool B] w fun e w' => e = .returned (.tuple #[.int .i64 RR, .int .i64 E]) ∧ w = w') ∧ Below w.heap.size w w')) :
    Calls Tryz.prog 8 #[.string s, .int .i64 how] w fun e w' => e = .returned (.tuple #[.int .i64 RR, .int .i64 E]) ∧ Below w.heap.size w w' := by
  subst hH
  have HT := Lib.hid ht
  have HNl := Lib.hid hn
  have HPp := Lib.hid hP
  have HOK := Lib.hid hok
  have hn0 : 0 ≤ n := by omega
  have hP0 : 0 ≤ P := by omega
  have hz0 : 0 ≤ z := by omega
  clear ht hn hP hok
  have lt10c : (parts (Int.toNat 10)).length ≤ 400 := by have := lt10; show (parts 10).length ≤ 400; omega
  rcases hm with ⟨rfl, hp, h45, hext⟩ | ⟨rfl, hext, h45⟩
  case inl =>
    have hext' := hext.symm
    have h45' : (((s[(0 : Int).toNat]'hp).toNat : Nat) : Int) = 45 := h45
    have hzp : 0 < z := by omega
    clear hext
    go_enter Tryz.func8, Tryz.ntmps8
    go_wp2_with (first | (go_at_call 46; refine (CH.out _).mono ?_; rintro e w' ⟨rfl, rfl⟩) | (go_at_call 47; refine (CF.out _).mono ?_; rintro e w9 ⟨rfl, hb9⟩; have HB9 := Lib.hid hb9; clear hb9))
    go_loopw [10, 11, 12] (fun nv dv iv wr => ∃ (i : Nat) (I : Int), iv = .int .i64 I ∧ 0 ≤ I ∧ I ≤ n ∧ Hid ((I = (i : Int)) ∧ (Holds wr nv (numV (rd l p i)) ∧ Holds wr dv (dn p i)) ∧ Below w.heap.size w wr)) (fun _ _ iv _ => (n - intOf iv).toNat)
    case atStart => exact ⟨0, 0, rfl, by omega, by omega, ⟨rfl, ⟨by rw [rd_zero]; exact holds_nil _, by rw [dn_low (by omega)]; exact holds_one _⟩, ka HB9.out _⟩⟩
    case round =>
      obtain ⟨i, I, rfl, hI0, hI1, hK⟩ := hrel
      obtain ⟨hIi, ⟨hN, hD⟩, hBv⟩ := hK.out
      have HBv := Lib.hid hBv
      have HN := Lib.hid hN
      have HD := Lib.hid hD
      have hNl := HNl.out
      have hPp := HPp.out
      have hok := HOK.out
      clear HB9 CF CH
      by_cases hI : I < n
      · have hsz : I < (t.size : Int) := by omega
        have hpf : I.toNat < t.size := by omega
        have hil : i < l.length := by omega
        obtain ⟨I2, hI2⟩ : ∃ I2 : Int, I + 1 = I2 := ⟨_, rfl⟩
        have hI2b : 0 ≤ I2 ∧ I2 ≤ n ∧ I < I2 := by omega
        have HI2 : Hid (I2 = ((i + 1 : Nat) : Int)) := by show _ = _; omega
        by_cases hIP : I = P
        · have hip : i = p := by omega
          have HK2 : Hid (Holds wr u10 (numV (rd l p (i + 1))) ∧ Holds wr u11 (dn p (i + 1))) := by
            refine ⟨?_, ?_⟩
            · have h1 := hN
              rw [hip] at h1
              rw [hip, rd_point]
              exact h1
            · rw [hip] at hD ⊢
              rw [dn_low (by omega)] at hD ⊢
              exact hD
          clear hK hN hD hBv hIi hNl hPp hok hip HN HD CO CT CQ CU CN
          go_wp2_with fail
          go_roundw
          case rel => exact ⟨i + 1, I2, by go_num, hI2b.1, hI2b.2.1, ⟨HI2.out, HK2.out, HBv.out⟩⟩
          case measure => simp [intOf]; omega
        · have hip : i ≠ p := by omega
          obtain ⟨C, hC⟩ : ∃ C : Int, (((t[I.toNat]'hpf).toNat : Nat) : Int) = C := ⟨_, rfl⟩
          have hCb : C = (byteAt l I.toNat : Int) := by rw [← hC]; exact byte_of HT.out I hI0 (by omega) hpf
          have hIn : I.toNat = i := by omega
          rw [hIn] at hCb
          have hdg := hok.2 i hil hip
          have hby := byteAt_get hil
          unfold isDg at hdg
          obtain ⟨D, hDD⟩ : ∃ D : Int, C - 48 = D := ⟨_, rfl⟩
          have hD9 : 0 ≤ D ∧ D ≤ 9 := by omega
          have hDw : IntKind.u8.wrap D = D := by rw [IntKind.wrap_u8]; omega
          have hDi : IntKind.i64.wrap D = D := by rw [IntKind.wrap_i64]; omega
          have hDt : D.toNat = (l[i]).toNat - 48 := by omega
          have hall := rd_all l p i hok.2 (by omega)
          have hlen := rd_len l p i (by omega)
          have hlt := numV_lt _ (fun c hc => (hall c hc).2)
          have hp60 : (rd l p i).length ≤ 60 := by omega
          have HLN : Hid ((parts (numV (rd l p i))).length ≤ 400) := by
            have := pow_parts _ _ hp60 (Nat.le_of_lt hlt)
            show _ ≤ _
            omega
          have hmul := parts_mul_len (numV (rd l p i)) (Int.toNat 10)
          have HLM : Hid ((parts (numV (rd l p i) * Int.toNat 10)).length ≤ 400) := by
            have h1 := pow_parts _ _ hp60 (Nat.le_of_lt hlt)
            have h2 := lt10
            show _ ≤ _
            have h3 : (parts (Int.toNat 10)).length ≤ 20 := h2
            omega
          have HLC : Hid ((parts D.toNat).length ≤ 400) := by
            have := parts_small D.toNat (by omega)
            show _ ≤ _
            omega
          have HLD : Hid ((parts (dn p i)).length ≤ 400) := by
            have := pow_parts (dn p i) (i - (p + 1)) (by omega) (Nat.le_refl _)
            show _ ≤ _
            omega
          have HNX : Hid (numV (rd l p i) * Int.toNat 10 + D.toNat = numV (rd l p (i + 1))) := by
            show _ = _
            rw [rd_more l p i hil hip, numV_snoc, hDt, Nat.mul_comm]
            rfl
          by_cases hgt : P < I
          · have HDX : Hid (dn p i * Int.toNat 10 = dn p (i + 1)) := by
              show _ = _
              rw [dn_more (by omega)]
              rfl
            clear hK hN hD hBv hIi hNl hPp hok hip hIn hCb hdg hby hDt hall hlen hlt hp60 hmul CU CN
            go_wp2_with fail
            go_region_held3 (fun _ => True) (trivial) (first | (go_at_call 50; have HM := HH2; refine (CO.out _ _ (by omega) (by omega)).mono ?_; clear HM; rintro e w3 ⟨v3, rfl, h3, hb3⟩; have HH3 := Lib.hid h3; have HB3 := Lib.hid hb3; clear h3 hb3) | (go_at_call 50; refine (CO.out _ _ (by omega) (by omega)).mono ?_; rintro e w1 ⟨v1, rfl, h1, hb1⟩; have HH1 := Lib.hid h1; have HB1 := Lib.hid hb1; clear h1 hb1) | (go_at_call 49; refine (CT.out _ _ _ _ _ ((HN.out.later (Below.refl _ _).drew).later HB1.out) HH1.out HLN.out lt10c).mono ?_; rintro e w2 ⟨v2, rfl, h2, hb2⟩; have HH2 := Lib.hid h2; have HB2 := Lib.hid hb2; clear h2 hb2) | (go_at_call 48; refine (CQ.out _ _ _ _ _ (HH2.out.later HB3.out) HH3.out HLM.out HLC.out).mono ?_; rintro e w4 ⟨v4, rfl, h4, hb4⟩; have HH4 := Lib.hid h4; have HB4 := Lib.hid hb4; clear h4 hb4))
            all_goals
              go_wp2_with (first | (go_at_call 50; have HM := HH4; refine (CO.out _ _ (by omega) (by omega)).mono ?_; clear HM; rintro e w5 ⟨v5, rfl, h5, hb5⟩; have HH5 := Lib.hid h5; have HB5 := Lib.hid hb5; clear h5 hb5) | (go_at_call 49; have HM := HH5; refine (CT.out _ _ _ _ _ ((((((HD.out.later (Below.refl _ _).drew).later HB1.out).later HB2.out).later HB3.out).later HB4.out).later HB5.out) HH5.out HLD.out lt10c).mono ?_; clear HM; rintro e w6 ⟨v6, rfl, h6, hb6⟩; have HH6 := Lib.hid h6; have HB6 := Lib.hid hb6; clear h6 hb6))
              go_roundw
              case rel => exact ⟨i + 1, I2, by go_num, hI2b.1, hI2b.2.1, ⟨HI2.out, ⟨HNX.out ▸ (HH4.out.later HB5.out).later HB6.out, HDX.out ▸ HH6.out⟩, kc (kc (kc (kc (kc (kc HBv.out.drew HB1.out) HB2.out) HB3.out) HB4.out) HB5.out) HB6.out⟩⟩
              case measure => simp [intOf]; omega
          · have HDX : Hid (dn p (i + 1) = dn p i) := by
              show _ = _
              rw [dn_low (by omega), dn_low (by omega)]
            clear hK hN hD hBv hIi hNl hPp hok hip hIn hCb hdg hby hDt hall hlen hlt hp60 hmul CU CN
            go_wp2_with fail
            go_region_held3 (fun _ => True) (trivial) (first | (go_at_call 50; have HM := HH2; refine (CO.out _ _ (by omega) (by omega)).mono ?_; clear HM; rintro e w3 ⟨v3, rfl, h3, hb3⟩; have HH3 := Lib.hid h3; have HB3 := Lib.hid hb3; clear h3 hb3) | (go_at_call 50; refine (CO.out _ _ (by omega) (by omega)).mono ?_; rintro e w1 ⟨v1, rfl, h1, hb1⟩; have HH1 := Lib.hid h1; have HB1 := Lib.hid hb1; clear h1 hb1) | (go_at_call 49; refine (CT.out _ _ _ _ _ ((HN.out.later (Below.refl _ _).drew).later HB1.out) HH1.out HLN.out lt10c).mono ?_; rintro e w2 ⟨v2, rfl, h2, hb2⟩; have HH2 := Lib.hid h2; have HB2 := Lib.hid hb2; clear h2 hb2) | (go_at_call 48; refine (CQ.out _ _ _ _ _ (HH2.out.later HB3.out) HH3.out HLM.out HLC.out).mono ?_; rintro e w4 ⟨v4, rfl, h4, hb4⟩; have HH4 := Lib.hid h4; have HB4 := Lib.hid hb4; clear h4 hb4))
            all_goals
              go_wp2_with fail
              go_roundw
              case rel => exact ⟨i + 1, I2, by go_num, hI2b.1, hI2b.2.1, ⟨HI2.out, ⟨HNX.out ▸ HH4.out, by rw [HDX.out]; exact ((((HD.out.later (Below.refl _ _).drew).later HB1.out).later HB2.out).later HB3.out).later HB4.out⟩, kc (kc (kc (kc HBv.out.drew HB1.out) HB2.out) HB3.out) HB4.out⟩⟩
              case measure => simp [intOf]; omega
      · have hil : i = l.length := by omega
        rw [hil] at hN hD
        have HN := Lib.hid hN
        have HD := Lib.hid hD
        clear hK hN hD hBv hIi hNl hPp hok hil CO CT CQ
        go_wp2_with (first | (go_at_call 53; refine (CU.out _ _ HN.out).mono ?_; rintro e w7 ⟨v7, rfl, h7, hb7⟩; have HH7 := Lib.hid h7; have HB7 := Lib.hid hb7; clear h7 hb7) | (go_at_call 52; refine (CN.out _ _ _ HH7.out (HD.out.later HB7.out)).mono ?_; rintro e w8 ⟨z', B, rfl, hz', hb8⟩; have HZ := Lib.hid hz'; have HB8 := Lib.hid hb8; clear hz' hb8) | (go_at_call 51; refine (HZ.out _).mono ?_; rintro e w' ⟨rfl, rfl⟩))
        go_ret2
        exact ⟨rfl, kc (kc HBv.out HB7.out) HB8.out⟩
  case inr =>
    subst hext
    rcases h45 with h0 | ⟨hp, h45⟩
    case inl =>
      go_enter Tryz.func8, Tryz.ntmps8
      go_wp2_with (first | (go_at_call 46; refine (CH.out _).mono ?_; rintro e w' ⟨rfl, rfl⟩) | (go_at_call 47; refine (CF.out _).mono ?_; rintro e w9 ⟨rfl, hb9⟩; have HB9 := Lib.hid hb9; clear hb9))
      go_loopw [10, 11, 12] (fun nv dv iv wr => ∃ (i : Nat) (I : Int), iv = .int .i64 I ∧ 0 ≤ I ∧ I ≤ n ∧ Hid ((I = (i : Int)) ∧ (Holds wr nv (numV (rd l p i)) ∧ Holds wr dv (dn p i)) ∧ Below w.heap.size w wr)) (fun _ _ iv _ => (n - intOf iv).toNat)
      case atStart => exact ⟨0, 0, rfl, by omega, by omega, ⟨rfl, ⟨by rw [rd_zero]; exact holds_nil _, by rw [dn_low (by omega)]; exact holds_one _⟩, ka HB9.out _⟩⟩
      case round =>
        obtain ⟨i, I, rfl, hI0, hI1, hK⟩ := hrel
        obtain ⟨hIi, ⟨hN, hD⟩, hBv⟩ := hK.out
        have HBv := Lib.hid hBv
        have HN := Lib.hid hN
        have HD := Lib.hid hD
        have hNl := HNl.out
        have hPp := HPp.out
        have hok := HOK.out
        clear HB9 CF CH
        by_cases hI : I < n
        · exact absurd hI (by omega)
        · have hil : i = l.length := by omega
          rw [hil] at hN hD
          have HN := Lib.hid hN
          have HD := Lib.hid hD
          clear hK hN hD hBv hIi hNl hPp hok hil CO CT CQ
          go_wp2_with (first | (go_at_call 53; refine (CU.out _ _ HN.out).mono ?_; rintro e w7 ⟨v7, rfl, h7, hb7⟩; have HH7 := Lib.hid h7; have HB7 := Lib.hid hb7; clear h7 hb7) | (go_at_call 52; refine (CN.out _ _ _ HH7.out (HD.out.later HB7.out)).mono ?_; rintro e w8 ⟨z', B, rfl, hz', hb8⟩; have HZ := Lib.hid hz'; have HB8 := Lib.hid hb8; clear hz' hb8) | (go_at_call 51; refine (HZ.out _).mono ?_; rintro e w' ⟨rfl, rfl⟩))
          go_ret2
          exact ⟨rfl, kc (kc HBv.out HB7.out) HB8.out⟩
    case inr =>
      have h45' : ¬ (((t[(0 : Int).toNat]'hp).toNat : Nat) : Int) = 45 := h45
      have hzp : 0 < z := by omega
      go_enter Tryz.func8, Tryz.ntmps8
      go_wp2_with (first | (go_at_call 46; refine (CH.out _).mono ?_; rintro e w' ⟨rfl, rfl⟩) | (go_at_call 47; refine (CF.out _).mono ?_; rintro e w9 ⟨rfl, hb9⟩; have HB9 := Lib.hid hb9; clear hb9))
      go_loopw [10, 11, 12] (fun nv dv iv wr => ∃ (i : Nat) (I : Int), iv = .int .i64 I ∧ 0 ≤ I ∧ I ≤ n ∧ Hid ((I = (i : Int)) ∧ (Holds wr nv (numV (rd l p i)) ∧ Holds wr dv (dn p i)) ∧ Below w.heap.size w wr)) (fun _ _ iv _ => (n - intOf iv).toNat)
      case atStart => exact ⟨0, 0, rfl, by omega, by omega, ⟨rfl, ⟨by rw [rd_zero]; exact holds_nil _, by rw [dn_low (by omega)]; exact holds_one _⟩, ka HB9.out _⟩⟩
      case round =>
        obtain ⟨i, I, rfl, hI0, hI1, hK⟩ := hrel
        obtain ⟨hIi, ⟨hN, hD⟩, hBv⟩ := hK.out
        have HBv := Lib.hid hBv
        have HN := Lib.hid hN
        have HD := Lib.hid hD
        have hNl := HNl.out
        have hPp := HPp.out
        have hok := HOK.out
        clear HB9 CF CH
        by_cases hI : I < n
        · have hsz : I < (t.size : Int) := by omega
          have hpf : I.toNat < t.size := by omega
          have hil : i < l.length := by omega
          obtain ⟨I2, hI2⟩ : ∃ I2 : Int, I + 1 = I2 := ⟨_, rfl⟩
          have hI2b : 0 ≤ I2 ∧ I2 ≤ n ∧ I < I2 := by omega
          have HI2 : Hid (I2 = ((i + 1 : Nat) : Int)) := by show _ = _; omega
          by_cases hIP : I = P
          · have hip : i = p := by omega
            have HK2 : Hid (Holds wr u10 (numV (rd l p (i + 1))) ∧ Holds wr u11 (dn p (i + 1))) := by
              refine ⟨?_, ?_⟩
              · have h1 := hN
                rw [hip] at h1
                rw [hip, rd_point]
                exact h1
              · rw [hip] at hD ⊢
                rw [dn_low (by omega)] at hD ⊢
                exact hD
            clear hK hN hD hBv hIi hNl hPp hok hip HN HD CO CT CQ CU CN
            go_wp2_with fail
            go_roundw
            case rel => exact ⟨i + 1, I2, by go_num, hI2b.1, hI2b.2.1, ⟨HI2.out, HK2.out, HBv.out⟩⟩
            case measure => simp [intOf]; omega
          · have hip : i ≠ p := by omega
            obtain ⟨C, hC⟩ : ∃ C : Int, (((t[I.toNat]'hpf).toNat : Nat) : Int) = C := ⟨_, rfl⟩
            have hCb : C = (byteAt l I.toNat : Int) := by rw [← hC]; exact byte_of HT.out I hI0 (by omega) hpf
            have hIn : I.toNat = i := by omega
            rw [hIn] at hCb
            have hdg := hok.2 i hil hip
            have hby := byteAt_get hil
            unfold isDg at hdg
            obtain ⟨D, hDD⟩ : ∃ D : Int, C - 48 = D := ⟨_, rfl⟩
            have hD9 : 0 ≤ D ∧ D ≤ 9 := by omega
            have hDw : IntKind.u8.wrap D = D := by rw [IntKind.wrap_u8]; omega
            have hDi : IntKind.i64.wrap D = D := by rw [IntKind.wrap_i64]; omega
            have hDt : D.toNat = (l[i]).toNat - 48 := by omega
            have hall := rd_all l p i hok.2 (by omega)
            have hlen := rd_len l p i (by omega)
            have hlt := numV_lt _ (fun c hc => (hall c hc).2)
            have hp60 : (rd l p i).length ≤ 60 := by omega
            have HLN : Hid ((parts (numV (rd l p i))).length ≤ 400) := by
              have := pow_parts _ _ hp60 (Nat.le_of_lt hlt)
              show _ ≤ _
              omega
            have hmul := parts_mul_len (numV (rd l p i)) (Int.toNat 10)
            have HLM : Hid ((parts (numV (rd l p i) * Int.toNat 10)).length ≤ 400) := by
              have h1 := pow_parts _ _ hp60 (Nat.le_of_lt hlt)
              have h2 := lt10
              show _ ≤ _
              have h3 : (parts (Int.toNat 10)).length ≤ 20 := h2
              omega
            have HLC : Hid ((parts D.toNat).length ≤ 400) := by
              have := parts_small D.toNat (by omega)
              show _ ≤ _
              omega
            have HLD : Hid ((parts (dn p i)).length ≤ 400) := by
              have := pow_parts (dn p i) (i - (p + 1)) (by omega) (Nat.le_refl _)
              show _ ≤ _
              omega
            have HNX : Hid (numV (rd l p i) * Int.toNat 10 + D.toNat = numV (rd l p (i + 1))) := by
              show _ = _
              rw [rd_more l p i hil hip, numV_snoc, hDt, Nat.mul_comm]
              rfl
            by_cases hgt : P < I
            · have HDX : Hid (dn p i * Int.toNat 10 = dn p (i + 1)) := by
                show _ = _
                rw [dn_more (by omega)]
                rfl
              clear hK hN hD hBv hIi hNl hPp hok hip hIn hCb hdg hby hDt hall hlen hlt hp60 hmul CU CN
              go_wp2_with fail
              go_region_held3 (fun _ => True) (trivial) (first | (go_at_call 50; have HM := HH2; refine (CO.out _ _ (by omega) (by omega)).mono ?_; clear HM; rintro e w3 ⟨v3, rfl, h3, hb3⟩; have HH3 := Lib.hid h3; have HB3 := Lib.hid hb3; clear h3 hb3) | (go_at_call 50; refine (CO.out _ _ (by omega) (by omega)).mono ?_; rintro e w1 ⟨v1, rfl, h1, hb1⟩; have HH1 := Lib.hid h1; have HB1 := Lib.hid hb1; clear h1 hb1) | (go_at_call 49; refine (CT.out _ _ _ _ _ ((HN.out.later (Below.refl _ _).drew).later HB1.out) HH1.out HLN.out lt10c).mono ?_; rintro e w2 ⟨v2, rfl, h2, hb2⟩; have HH2 := Lib.hid h2; have HB2 := Lib.hid hb2; clear h2 hb2) | (go_at_call 48; refine (CQ.out _ _ _ _ _ (HH2.out.later HB3.out) HH3.out HLM.out HLC.out).mono ?_; rintro e w4 ⟨v4, rfl, h4, hb4⟩; have HH4 := Lib.hid h4; have HB4 := Lib.hid hb4; clear h4 hb4))
              all_goals
                go_wp2_with (first | (go_at_call 50; have HM := HH4; refine (CO.out _ _ (by omega) (by omega)).mono ?_; clear HM; rintro e w5 ⟨v5, rfl, h5, hb5⟩; have HH5 := Lib.hid h5; have HB5 := Lib.hid hb5; clear h5 hb5) | (go_at_call 49; have HM := HH5; refine (CT.out _ _ _ _ _ ((((((HD.out.later (Below.refl _ _).drew).later HB1.out).later HB2.out).later HB3.out).later HB4.out).later HB5.out) HH5.out HLD.out lt10c).mono ?_; clear HM; rintro e w6 ⟨v6, rfl, h6, hb6⟩; have HH6 := Lib.hid h6; have HB6 := Lib.hid hb6; clear h6 hb6))
                go_roundw
                case rel => exact ⟨i + 1, I2, by go_num, hI2b.1, hI2b.2.1, ⟨HI2.out, ⟨HNX.out ▸ (HH4.out.later HB5.out).later HB6.out, HDX.out ▸ HH6.out⟩, kc (kc (kc (kc (kc (kc HBv.out.drew HB1.out) HB2.out) HB3.out) HB4.out) HB5.out) HB6.out⟩⟩
                case measure => simp [intOf]; omega
            · have HDX : Hid (dn p (i + 1) = dn p i) := by
                show _ = _
                rw [dn_low (by omega), dn_low (by omega)]
              clear hK hN hD hBv hIi hNl hPp hok hip hIn hCb hdg hby hDt hall hlen hlt hp60 hmul CU CN
              go_wp2_with fail
              go_region_held3 (fun _ => True) (trivial) (first | (go_at_call 50; have HM := HH2; refine (CO.out _ _ (by omega) (by omega)).mono ?_; clear HM; rintro e w3 ⟨v3, rfl, h3, hb3⟩; have HH3 := Lib.hid h3; have HB3 := Lib.hid hb3; clear h3 hb3) | (go_at_call 50; refine (CO.out _ _ (by omega) (by omega)).mono ?_; rintro e w1 ⟨v1, rfl, h1, hb1⟩; have HH1 := Lib.hid h1; have HB1 := Lib.hid hb1; clear h1 hb1) | (go_at_call 49; refine (CT.out _ _ _ _ _ ((HN.out.later (Below.refl _ _).drew).later HB1.out) HH1.out HLN.out lt10c).mono ?_; rintro e w2 ⟨v2, rfl, h2, hb2⟩; have HH2 := Lib.hid h2; have HB2 := Lib.hid hb2; clear h2 hb2) | (go_at_call 48; refine (CQ.out _ _ _ _ _ (HH2.out.later HB3.out) HH3.out HLM.out HLC.out).mono ?_; rintro e w4 ⟨v4, rfl, h4, hb4⟩; have HH4 := Lib.hid h4; have HB4 := Lib.hid hb4; clear h4 hb4))
              all_goals
                go_wp2_with fail
                go_roundw
                case rel => exact ⟨i + 1, I2, by go_num, hI2b.1, hI2b.2.1, ⟨HI2.out, ⟨HNX.out ▸ HH4.out, by rw [HDX.out]; exact ((((HD.out.later (Below.refl _ _).drew).later HB1.out).later HB2.out).later HB3.out).later HB4.out⟩, kc (kc (kc (kc HBv.out.drew HB1.out) HB2.out) HB3.out) HB4.out⟩⟩
                case measure => simp [intOf]; omega
        · have hil : i = l.length := by omega
          rw [hil] at hN hD
          have HN := Lib.hid hN
          have HD := Lib.hid hD
          clear hK hN hD hBv hIi hNl hPp hok hil CO CT CQ
          go_wp2_with (first | (go_at_call 53; refine (CU.out _ _ HN.out).mono ?_; rintro e w7 ⟨v7, rfl, h7, hb7⟩; have HH7 := Lib.hid h7; have HB7 := Lib.hid hb7; clear h7 hb7) | (go_at_call 52; refine (CN.out _ _ _ HH7.out (HD.out.later HB7.out)).mono ?_; rintro e w8 ⟨z', B, rfl, hz', hb8⟩; have HZ := Lib.hid hz'; have HB8 := Lib.hid hb8; clear hz' hb8) | (go_at_call 51; refine (HZ.out _).mono ?_; rintro e w' ⟨rfl, rfl⟩))
          go_ret2
          exact ⟨rfl, kc (kc HBv.out HB7.out) HB8.out⟩

end Go.Proofs.YtebfhjndgfcijaaGreatDoor
