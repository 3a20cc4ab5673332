/- The document's own answers: digits, Text. -/
import Derived.Test.YtebfhjndgfcijaaGreatDoorRefMul
import Derived.Test.YtebfhjndgfcijaaGreatDoorText
import Derived.Laws.IdiomStrings
import Derived.Laws.BitsLemmas
namespace Go.Proofs.YtebfhjndgfcijaaGreatDoor
open Go Go.RowKit

theorem bs_add (a b : List UInt8) : (⟨a.toArray⟩ : ByteArray) ++ ⟨b.toArray⟩ = ⟨(a ++ b).toArray⟩ := by
  apply ByteArray.ext
  simp
theorem bs_len (l : List UInt8) : (⟨l.toArray⟩ : ByteArray).size = l.length := by simp [ByteArray.size]

/-- What stands ahead of a digit. -/
def preD (k : Nat) : List UInt8 := if k = 0 then [] else Lib.decDigits k
theorem decDigits_pre (k : Nat) : Lib.decDigits k = preD (k / 10) ++ [UInt8.ofNat (48 + k % 10)] := by
  unfold preD
  rw [Lib.decDigits]
  by_cases h : k < 10
  · rw [dif_pos h, if_pos (by omega), List.nil_append, Nat.mod_eq_of_lt h]
  · rw [dif_neg h, if_neg (by omega)]
theorem preD_step {k : Nat} (h : k ≠ 0) : preD k = preD (k / 10) ++ [UInt8.ofNat (48 + k % 10)] := by
  rw [← decDigits_pre]
  unfold preD
  rw [if_neg h]

theorem conv_one (X : Int) (d : UInt8) (hd : (d.toNat : Int) = X) (W : World) :
    (convert 87 9 (.slice (some ⟨W.heap.size, 0, none⟩) 1 1)).run Tryz.prog (W.alloc (.cells #[.int .u8 X] 5)) = .ok (.string ⟨[d].toArray⟩) (W.alloc (.cells #[.int .u8 X] 5)) := by
  refine run_convert_bytes_back (P := Tryz.prog) _ 87 9 5 ⟨W.heap.size, 0, none⟩ 1 [d] Tryz.underlying87 Tryz.underlying5 Tryz.underlying9 (fun j hj => ?_)
  have hj0 : j = 0 := by simp at hj; omega
  subst hj0
  subst hd
  simp [go_sem, Addr.add]

set_option maxRecDepth 100000 in
set_option maxHeartbeats 1000000 in
theorem refDigits (n : Nat) (N : Int) (hN : (n : Int) = N) (hn : N ≤ 1073741824) (w : World) :
    Calls Tryz.prog 59 #[.int .i64 N] w fun e w' => e = .returned (.string ⟨(Lib.decDigits n).toArray⟩) ∧ Below w.heap.size w w' := by
  have HL := Lib.hid (decDigits_le n (by omega))
  have hN0 : 0 ≤ N := by omega
  obtain ⟨X, hX⟩ : ∃ X : Int, 48 + N % 10 = X := ⟨_, rfl⟩
  have hXw : IntKind.u8.wrap X = X := by rw [IntKind.wrap_u8]; omega
  obtain ⟨d, hd⟩ : ∃ d : UInt8, UInt8.ofNat (48 + n % 10) = d := ⟨_, rfl⟩
  have hcv := conv_one X d (by rw [← hd, UInt8.toNat_ofNat']; omega)
  have hS0 : Hid ((((n / 10 : Nat) : Int) = N / 10) ∧ preD (n / 10) ++ [d] = Lib.decDigits n) := ⟨by omega, by rw [decDigits_pre n, hd]⟩
  have hb2 : 0 ≤ N / 10 ∧ N / 10 ≤ 1073741824 := by omega
  have HB0 : Hid (Below w.heap.size w (w.alloc (.cells #[.int .u8 X] 5))) := ka (Below.refl _ _) _
  clear hN hd
  go_enter Tryz.func59, Tryz.ntmps59
  go_wp2_with fail
  go_loopw [0, 3] (fun m sv wr => ∃ (k : Nat) (M : Int) (S : ByteArray) (l : List UInt8), m = .int .i64 M ∧ sv = .string S ∧ 0 ≤ M ∧ M ≤ 1073741824 ∧ Hid (((k : Int) = M ∧ S = ⟨l.toArray⟩) ∧ preD k ++ l = Lib.decDigits n ∧ Below w.heap.size w wr)) (fun m _ _ => (intOf m).toNat)
  case atStart => exact ⟨n / 10, N / 10, ⟨#[d]⟩, [d], rfl, rfl, hb2.1, hb2.2, ⟨⟨hS0.out.1, rfl⟩, hS0.out.2, HB0.out⟩⟩
  case round =>
    obtain ⟨k, M, S, l, rfl, rfl, hM0, hM1, hK⟩ := hrel
    obtain ⟨⟨hkM, hSl⟩, hp, hBv⟩ := hK.out
    have HBv := Lib.hid hBv
    clear hS0 HB0 hcv hX hXw hb2
    by_cases hM : 0 < M
    · obtain ⟨Y, hY⟩ : ∃ Y : Int, 48 + M % 10 = Y := ⟨_, rfl⟩
      have hYw : IntKind.u8.wrap Y = Y := by rw [IntKind.wrap_u8]; omega
      obtain ⟨c, hc⟩ : ∃ c : UInt8, UInt8.ofNat (48 + k % 10) = c := ⟨_, rfl⟩
      have hcv := conv_one Y c (by rw [← hc, UInt8.toNat_ofNat']; omega)
      have hk0 : k ≠ 0 := by omega
      rw [preD_step hk0, hc, List.append_assoc] at hp
      have hll : l.length ≤ 21 := by have h1 := HL.out; rw [← hp, List.length_append, List.length_append] at h1; omega
      have hS21 : S.size ≤ 21 := by rw [hSl, bs_len]; exact hll
      have hsz : ¬ (9223372036854775807 < 1 + S.size) := by omega
      have HK2 : Hid ((((k / 10 : Nat) : Int) = M / 10 ∧ (⟨#[c]⟩ : ByteArray) ++ S = ⟨(([c] ++ l).toArray)⟩) ∧ preD (k / 10) ++ ([c] ++ l) = Lib.decDigits n) := ⟨⟨by omega, by rw [hSl]; exact bs_add [c] l⟩, hp⟩
      have hb2 : 0 ≤ M / 10 ∧ M / 10 ≤ 1073741824 := by omega
      clear hK hBv hkM hSl hp hc hk0 hll
      go_wp2_with fail
      go_roundw
      case rel => exact ⟨k / 10, M / 10, _, [c] ++ l, rfl, rfl, hb2.1, hb2.2, ⟨⟨HK2.out.1.1, HK2.out.1.2⟩, HK2.out.2, ka HBv.out _⟩⟩
      case measure => simp [intOf]; omega
    · have hk0 : k = 0 := by omega
      have HS : Hid (S = ⟨(Lib.decDigits n).toArray⟩) := by
        show _ = _
        rw [hSl, ← hp, hk0]
        rfl
      clear hK hBv hkM hSl hp
      go_wp2_with fail
      go_ret
      exact ⟨by rw [HS.out]; rfl, HBv.out⟩

theorem dL_digit (r : Nat) (h0 : r < 65536) (h1 : r ≠ 0) : ∃ c : UInt8, Lib.decDigits (r * 10 / 65536) = [c] ∧ (dL r).map d8 = c :: (dL (r * 10 % 65536)).map d8 := by
  have hlt : r * 10 / 65536 < 10 := by omega
  refine ⟨UInt8.ofNat (48 + r * 10 / 65536), Lib.decDigits_one hlt, ?_⟩
  rw [dL_step r h0, if_neg h1, List.map_cons]
  have : r * 10 / 65536 % 10 = r * 10 / 65536 := Nat.mod_eq_of_lt hlt
  simp only [d8, this]

set_option maxRecDepth 100000 in
set_option maxHeartbeats 2000000 in
theorem refText_in (a A Q r0 : Int) (q r : Nat) (sg pt : List UInt8) (w : World) (V : Int → Bool) (S : Int → Int) (hVa : V a = true) (hA : S a = A) (hA0 : 0 ≤ A) (hQ : A / 65536 = Q) (hr0 : A % 65536 = r0) (hq : (q : Int) = Q) (hr : (r : Int) = r0) (hq1 : Q ≤ 1073741824)
    (hsg : (a < 0 ∧ sg = [45]) ∨ (¬ a < 0 ∧ sg = [])) (hpt : (0 < r0 ∧ pt = [46]) ∨ (¬ 0 < r0 ∧ pt = []))
    (CV : Hid (∀ x w, Calls Tryz.prog 57 #[.int .i64 x] w fun e w' => e = .returned (.bool (V x)) ∧ w = w'))
    (CS : Hid (∀ x w, V x = true → Calls Tryz.prog 58 #[.int .i64 x] w fun e w' => e = .returned (.int .i64 (S x)) ∧ w = w')) :
    Calls Tryz.prog 10 #[.int .i64 a] w fun e w' => e = .returned (.string ⟨((sg ++ Lib.decDigits q) ++ (pt ++ (dL r).map d8)).toArray⟩) ∧ Below w.heap.size w w' := by
  obtain ⟨D, hD⟩ : ∃ D : ByteArray, (⟨(Lib.decDigits q).toArray⟩ : ByteArray) = D := ⟨_, rfl⟩
  have hDl : D.size ≤ 21 := by rw [← hD, bs_len]; exact decDigits_le q (by omega)
  have CD := Lib.hid (fun w => refDigits q Q hq hq1 w)
  rw [hD] at CD
  have HD := Lib.hid hD
  have hr1 : 0 ≤ r0 ∧ r0 < 65536 := by omega
  have Hr := Lib.hid hr
  have hdl := dL_length r
  have HT : Hid (((sg ++ Lib.decDigits q) ++ pt).length ≤ 25) := by
    have h1 := decDigits_le q (by omega)
    have h2 : sg.length ≤ 1 := by rcases hsg with ⟨_, h⟩ | ⟨_, h⟩ <;> rw [h] <;> decide
    have h3 : pt.length ≤ 1 := by rcases hpt with ⟨_, h⟩ | ⟨_, h⟩ <;> rw [h] <;> decide
    show _ ≤ _
    rw [List.length_append, List.length_append]
    omega
  have HX : Hid ((sg = [] ∨ sg = [45]) ∧ (pt = [] ∨ pt = [46])) := ⟨by rcases hsg with ⟨_, h⟩ | ⟨_, h⟩ <;> simp [h], by rcases hpt with ⟨_, h⟩ | ⟨_, h⟩ <;> simp [h]⟩
  have hs1 : ¬ (9223372036854775807 < 1 + D.size) := by omega
  have hs0 : ¬ (9223372036854775807 < 0 + D.size) := by omega
  have hs2 : ¬ (9223372036854775807 < D.size) := by omega
  obtain ⟨TT, hTT⟩ : ∃ TT, (sg ++ Lib.decDigits q) ++ (pt ++ (dL r).map d8) = TT := ⟨_, rfl⟩
  have HTL : Hid (TT.length ≤ 50) := by
    have h1 := HT.out
    show _ ≤ _
    rw [← hTT, ← List.append_assoc, List.length_append, List.length_map]
    omega
  rw [hTT]
  have HTT := Lib.hid hTT
  clear hD hq hr hdl hTT HT HX
  rcases hsg with ⟨hn, he⟩ | ⟨hn, he⟩ <;> rcases hpt with ⟨hp, hf⟩ | ⟨hp, hf⟩
  all_goals
    have HE := Lib.hid (And.intro he hf)
    clear he hf
    go_enter Tryz.func10, Tryz.ntmps10
    go_wp2_with (first | (go_at_call 57; refine (CV.out _ _).mono ?_; rintro e w' ⟨rfl, rfl⟩) | (go_at_call 58; refine (CS.out _ _ (by assumption)).mono ?_; rintro e w' ⟨rfl, rfl⟩) | (go_at_call 59; refine (CD.out _).mono ?_; rintro e w1 ⟨rfl, hb1⟩; have HB1 := Lib.hid hb1; clear hb1))
    go_loopw [4, 6] (fun sv m wr => ∃ (k : Nat) (M : Int) (S : ByteArray) (l : List UInt8), sv = .string S ∧ m = .int .i64 M ∧ 0 ≤ M ∧ M ≤ 65535 ∧ Hid (((k : Int) = M ∧ S = ⟨l.toArray⟩) ∧ l ++ (dL k).map d8 = TT ∧ Below w.heap.size w wr)) (fun _ m _ => (dL (intOf m).toNat).length)
    case atStart => exact ⟨r, A % 65536, _, (sg ++ Lib.decDigits q) ++ pt, rfl, rfl, by omega, by omega, ⟨⟨by have := Hr.out; omega, by rw [HE.out.1, HE.out.2, ← HD.out]; apply ByteArray.ext; simp⟩, by rw [← HTT.out, List.append_assoc], HB1.out⟩⟩
    case round =>
      obtain ⟨k, M, S, l, rfl, rfl, hM0, hM1, hK⟩ := hrel
      obtain ⟨⟨hkM, hSl⟩, hp', hBv⟩ := hK.out
      have HBv := Lib.hid hBv
      have HTl := HTL.out
      clear CD CV CS HB1 HD Hr hr0 hQ hA hVa hq1 hA0 hr1 hs0 hs1 hs2 hDl
      by_cases hM : 0 < M
      · have hk0 : k ≠ 0 := by omega
        obtain ⟨c, hc1, hc2⟩ := dL_digit k (by omega) hk0
        obtain ⟨Y, hY⟩ : ∃ Y : Int, 10 * M / 65536 = Y := ⟨_, rfl⟩
        have CE := Lib.hid (fun w => refDigits (k * 10 / 65536) Y (by omega) (by omega) w)
        rw [hc1] at CE
        rw [hc2] at hp'
        have hll : l.length ≤ 50 := by have h1 := HTl; rw [← hp', List.length_append] at h1; omega
        have hS21 : S.size ≤ 50 := by rw [hSl, bs_len]; exact hll
        have hsz : ¬ (9223372036854775807 < S.size + 1) := by omega
        have hmeas : (dL (k * 10 % 65536)).length < (dL k).length := by
          have := congrArg List.length hc2
          rw [List.length_cons, List.length_map, List.length_map] at this
          omega
        have HK2 : Hid ((((k * 10 % 65536 : Nat) : Int) = 10 * M % 65536 ∧ S ++ (⟨[c].toArray⟩ : ByteArray) = ⟨((l ++ [c]).toArray)⟩) ∧ (l ++ [c]) ++ (dL (k * 10 % 65536)).map d8 = TT) := ⟨⟨by omega, by rw [hSl]; exact bs_add l [c]⟩, by rw [List.append_assoc]; exact hp'⟩
        have HM : Hid ((dL (10 * M % 65536).toNat).length < (dL M.toNat).length) := by
          show _ < _
          rw [show (10 * M % 65536).toNat = k * 10 % 65536 by omega, show M.toNat = k by omega]
          exact hmeas
        have hb2 : 0 ≤ 10 * M % 65536 ∧ 10 * M % 65536 ≤ 65535 := by omega
        clear hK hBv hkM hSl hp' hk0 hll hmeas HTl
        go_wp2_with (go_at_call 59; refine (CE.out _).mono ?_; rintro e w2 ⟨rfl, hb2⟩; have HB2 := Lib.hid hb2; clear hb2)
        go_roundw
        case rel =>
          exact ⟨k * 10 % 65536, 10 * M % 65536, _, l ++ [c], rfl, rfl, hb2.1, hb2.2, ⟨⟨HK2.out.1.1, HK2.out.1.2⟩, HK2.out.2, kc HBv.out HB2.out⟩⟩
        case measure => exact HM.out
      · have hk0 : k = 0 := by omega
        have HS : Hid (S = ⟨TT.toArray⟩) := by
          show _ = _
          rw [hSl, ← hp', hk0, show dL 0 = [] from rfl, List.map_nil, List.append_nil]
        clear hK hBv hkM hSl hp' HTl
        go_wp2_with fail
        go_ret
        exact ⟨by rw [HS.out]; rfl, HBv.out⟩

set_option maxRecDepth 100000 in
theorem refText_bad (a : Int) (V : Int → Bool) (w : World) (hVa : V a = false)
    (CV : Hid (∀ x w, Calls Tryz.prog 57 #[.int .i64 x] w fun e w' => e = .returned (.bool (V x)) ∧ w = w')) :
    Calls Tryz.prog 10 #[.int .i64 a] w fun e w' => e = .returned (.string ⟨#[]⟩) ∧ Below w.heap.size w w' := by
  go_enter Tryz.func10, Tryz.ntmps10
  go_wp2_with (go_at_call 57; refine (CV.out _ _).mono ?_; rintro e w' ⟨rfl, rfl⟩)
  go_ret
  exact ⟨rfl, Below.refl _ _⟩

theorem refTextF (a : Int) (w : World) :
    Calls Tryz.prog 10 #[.int .i64 a] w fun e w' => e = .returned (.string ⟨(textL a).toArray⟩) ∧ Below w.heap.size w w' := by
  have CV := fun x w => refValid x w
  unfold textL
  by_cases hv : Vld a
  · rw [if_pos hv]
    have h2 := hv
    unfold Vld at h2
    exact refText_in a (a.natAbs : Int) _ _ (a.natAbs / 65536) (a.natAbs % 65536) _ _ w (fun x => decide (Vld x)) (fun x => (x.natAbs : Int)) (decide_eq_true hv) rfl (by omega) rfl rfl (by omega) (by omega) (by omega)
      (by by_cases h : a < 0
          · rw [if_pos h]; exact .inl ⟨h, rfl⟩
          · rw [if_neg h]; exact .inr ⟨h, rfl⟩)
      (by by_cases h : 0 < a.natAbs % 65536
          · rw [if_pos h]; exact .inl ⟨by omega, rfl⟩
          · rw [if_neg h]; exact .inr ⟨by omega, rfl⟩) CV sizeC
  · rw [if_neg hv]
    exact refText_bad a _ w (decide_eq_false hv) CV

end Go.Proofs.YtebfhjndgfcijaaGreatDoor
