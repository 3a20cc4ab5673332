/- The document's own answers: form, and what it means beside the form that package fixed reads. -/
import Derived.Test.YtebfhjndgfcijaaGreatDoorRefSum
import Derived.Test.YtebfhjndgfcijaaGreatDoorRead
namespace Go.Proofs.YtebfhjndgfcijaaGreatDoor
open Go Go.RowKit

/-- The byte of a row at a place, or 0. -/
def byteAt (l : List UInt8) (i : Nat) : Nat := (l[i]?.map UInt8.toNat).getD 0
def isDg (n : Nat) : Prop := 48 ≤ n ∧ n ≤ 57
instance (n : Nat) : Decidable (isDg n) := by unfold isDg; infer_instance
/-- The first bytes are digits, but for the point, which stands at p; or there is none, and p is the length. -/
def okTo (l : List UInt8) (i p : Nat) : Prop := (p = l.length ∨ (p < i ∧ byteAt l p = 46)) ∧ ∀ j, j < i → j ≠ p → isDg (byteAt l j)
/-- The point stands well. -/
def goodP (l : List UInt8) (p : Nat) : Prop := ¬ (p = 0 ∨ (1 < p ∧ byteAt l 0 = 48) ∨ p + 1 = l.length)

theorem okTo_zero (l : List UInt8) : okTo l 0 l.length := ⟨.inl rfl, fun j hj => by omega⟩
theorem okTo_dig {l : List UInt8} {i p : Nat} (h : okTo l i p) (hd : isDg (byteAt l i)) : okTo l (i + 1) p := by
  refine ⟨?_, fun j hj hp => ?_⟩
  · rcases h.1 with h1 | h1
    · exact .inl h1
    · exact .inr ⟨by omega, h1.2⟩
  · by_cases hji : j = i
    · rw [hji]; exact hd
    · exact h.2 j (by omega) hp
theorem okTo_point {l : List UInt8} {i : Nat} (h : okTo l i l.length) (hi : i < l.length) (hc : byteAt l i = 46) : okTo l (i + 1) i :=
  ⟨.inr ⟨by omega, hc⟩, fun j hj hp => h.2 j (by omega) (by omega)⟩
theorem okTo_bad {l : List UInt8} {i p : Nat} (hi : i < l.length) (hd : ¬ isDg (byteAt l i)) (hc : byteAt l i = 46 → p ≠ l.length) (h : okTo l i p) : ¬ ∃ q, okTo l l.length q ∧ goodP l q := by
  rintro ⟨q, ⟨h1, h2⟩, _⟩
  have hiq : i = q := by
    by_cases e : i = q
    · exact e
    · exact absurd (h2 i hi e) hd
  rcases h1 with h1 | h1
  · omega
  · rw [← hiq] at h1
    have hp := hc h1.2
    rcases h.1 with h3 | h3
    · exact hp h3
    · have h4 : p ≠ q := by omega
      have h5 := h2 p (by omega) h4
      rw [h3.2] at h5
      unfold isDg at h5
      omega
theorem okTo_uniq {l : List UInt8} {p q : Nat} (h : okTo l l.length p) (h' : okTo l l.length q) : p = q := by
  rcases h.1 with h1 | h1 <;> rcases h'.1 with h2 | h2
  · omega
  · by_cases e : q = p
    · exact e.symm
    · have := h.2 q h2.1 e
      rw [h2.2] at this
      unfold isDg at this
      omega
  · by_cases e : p = q
    · exact e
    · have := h'.2 p h1.1 e
      rw [h1.2] at this
      unfold isDg at this
      omega
  · by_cases e : p = q
    · exact e
    · have := h'.2 p h1.1 e
      rw [h1.2] at this
      unfold isDg at this
      omega

theorem byte_of {s : ByteArray} {l : List UInt8} (hs : s = ⟨l.toArray⟩) (I : Int) (h0 : 0 ≤ I) (h1 : I < (l.length : Int)) (pf : I.toNat < s.size) : (((s[I.toNat]'pf).toNat : Nat) : Int) = (byteAt l I.toNat : Int) := by
  subst hs
  have h2 : I.toNat < l.length := by omega
  unfold byteAt
  rw [List.getElem?_eq_getElem h2]
  rfl

set_option maxRecDepth 100000 in
set_option maxHeartbeats 1000000 in
theorem refForm (l : List UInt8) (s : ByteArray) (n : Int) (hs : s = ⟨l.toArray⟩) (hz : (s.size : Int) = n) (hn : (l.length : Int) = n) (hn2 : n ≤ 60) (w : World) :
    Calls Tryz.prog 47 #[.string s] w fun e w' => ((∃ p : Nat, (okTo l l.length p ∧ goodP l p) ∧ e = .returned (.tuple #[.int .i64 (p : Int), .bool true])) ∨ ((¬ ∃ p, okTo l l.length p ∧ goodP l p) ∧ e = .returned (.tuple #[.int .i64 0, .bool false]))) ∧ Below w.heap.size w w' := by
  have HS := Lib.hid hs
  have hn0 : 0 ≤ n := by omega
  have HN := Lib.hid hn
  clear hs hn
  go_enter Tryz.func47, Tryz.ntmps47
  go_wp2_with fail
  go_loopw [4, 5] (fun pv iv wr => ∃ (p i : Nat) (P I : Int), pv = .int .i64 P ∧ iv = .int .i64 I ∧ 0 ≤ P ∧ P ≤ n ∧ 0 ≤ I ∧ I ≤ n ∧ Hid ((P = (p : Int) ∧ I = (i : Int)) ∧ okTo l i p ∧ Below w.heap.size w wr)) (fun _ iv _ => (n - intOf iv).toNat)
  case atStart => exact ⟨l.length, 0, n, 0, by go_num, by go_num, by omega, by omega, by omega, by omega, ⟨⟨HN.out.symm, rfl⟩, okTo_zero l, Below.refl _ _⟩⟩
  case round =>
    obtain ⟨p, i, P, I, rfl, rfl, hP0, hP1, hI0, hI1, hK⟩ := hrel
    obtain ⟨⟨hPp, hIi⟩, hk, hBv⟩ := hK.out
    have HBv := Lib.hid hBv
    have hN' := HN.out
    by_cases hI : I < n
    · have hsz : I < (s.size : Int) := by omega
      have hpf : I.toNat < s.size := by omega
      obtain ⟨C, hC⟩ : ∃ C : Int, (((s[I.toNat]'hpf).toNat : Nat) : Int) = C := ⟨_, rfl⟩
      have hCb : C = (byteAt l I.toNat : Int) := by rw [← hC]; exact byte_of HS.out I hI0 (by omega) hpf
      have hIn : I.toNat = i := by omega
      rw [hIn] at hCb
      have hil : i < l.length := by omega
      obtain ⟨I2, hI2⟩ : ∃ I2 : Int, I + 1 = I2 := ⟨_, rfl⟩
      have hI2b : 0 ≤ I2 ∧ I2 ≤ n ∧ I < I2 := by omega
      have hI2i : I2 = ((i + 1 : Nat) : Int) := by omega
      have HI2 := Lib.hid hI2i
      have HPp := Lib.hid hPp
      have HIi := Lib.hid hIi
      by_cases hc : C = 46
      · by_cases hpn : P = n
        · subst hpn
          have hpl : p = l.length := by omega
          have hk2 := okTo_point (hpl ▸ hk) hil (by omega)
          have HK2 := Lib.hid hk2
          clear hK hBv hk hk2 hCb hI2i hPp hIi hIn hil hpl hN'
          subst hc
          go_wp2_with fail
          go_roundw
          case rel => exact ⟨i, i + 1, I, I2, by go_num, by go_num, hI0, by omega, hI2b.1, hI2b.2.1, ⟨⟨HIi.out, HI2.out⟩, HK2.out, HBv.out⟩⟩
          case measure => simp [intOf]; omega
        · have hb := okTo_bad hil (p := p) (by unfold isDg; omega) (fun _ => by omega) hk
          have HB := Lib.hid hb
          clear hK hBv hk hb hCb hI2i hPp hIi hIn hil hN' HI2 HPp HIi
          subst hc
          go_wp2_with fail
          go_ret2
          exact ⟨.inr ⟨(by first | exact HB.out | exact fun q h1 h2 => HB.out ⟨q, h1, h2⟩), rfl⟩, HBv.out⟩
      · by_cases hd : 48 ≤ C ∧ C ≤ 57
        · have hk2 := okTo_dig hk (by unfold isDg; omega)
          have HK2 := Lib.hid hk2
          obtain ⟨hd1, hd2⟩ := hd
          have hd3 : ¬ C < 48 := by omega
          have hd4 : ¬ 57 < C := by omega
          clear hK hBv hk hk2 hCb hI2i hPp hIi hIn hil hN' hd1 hd2
          go_wp2_with fail
          go_roundw
          case rel => exact ⟨p, i + 1, P, I2, by go_num, by go_num, hP0, hP1, hI2b.1, hI2b.2.1, ⟨⟨HPp.out, HI2.out⟩, HK2.out, HBv.out⟩⟩
          case measure => simp [intOf]; omega
        · have hb := okTo_bad hil (p := p) (by unfold isDg; omega) (fun h => by omega) hk
          have HB := Lib.hid hb
          clear hK hBv hk hb hCb hI2i hPp hIi hIn hil hN' HI2 HPp HIi
          by_cases h1 : C < 48
          · clear hd
            go_wp2_with fail
            go_ret2
            exact ⟨.inr ⟨(by first | exact HB.out | exact fun q h1 h2 => HB.out ⟨q, h1, h2⟩), rfl⟩, HBv.out⟩
          · have h2 : 57 < C := by omega
            clear hd
            go_wp2_with fail
            go_ret2
            exact ⟨.inr ⟨(by first | exact HB.out | exact fun q h1 h2 => HB.out ⟨q, h1, h2⟩), rfl⟩, HBv.out⟩
    · have hil : i = l.length := by omega
      rw [hil] at hk
      have HBad : Hid (¬ goodP l p → ¬ ∃ q, okTo l l.length q ∧ goodP l q) := fun hb ⟨q, h1, h2⟩ => hb (okTo_uniq hk h1 ▸ h2)
      have HK2 := Lib.hid hk
      have HPp := Lib.hid hPp
      by_cases h0 : P = 0
      · have hb := HBad.out (by unfold goodP; omega)
        have HB := Lib.hid hb
        clear hK hBv hk hb hPp hIi hil hN' HBad
        subst h0
        go_wp2_with fail
        go_ret2
        exact ⟨.inr ⟨(by first | exact HB.out | exact fun q h1 h2 => HB.out ⟨q, h1, h2⟩), rfl⟩, HBv.out⟩
      · obtain ⟨L, hL⟩ : ∃ L : Int, n - 1 = L := ⟨_, rfl⟩
        have hs0 : (0 : Int) < (s.size : Int) := by omega
        have hpf : (0 : Int).toNat < s.size := by show 0 < s.size; omega
        obtain ⟨C, hC⟩ : ∃ C : Int, (((s[(0 : Int).toNat]'hpf).toNat : Nat) : Int) = C := ⟨_, rfl⟩
        have hpf0 : 0 < s.size := by omega
        have hC' : (((s[0]'hpf0).toNat : Nat) : Int) = C := hC
        have hCb : C = (byteAt l 0 : Int) := by rw [← hC]; exact byte_of HS.out 0 (by omega) (by omega) hpf
        by_cases h1 : 1 < P ∧ C = 48
        · have hb := HBad.out (by unfold goodP; omega)
          have HB := Lib.hid hb
          obtain ⟨h1, h2⟩ := h1
          clear hK hBv hk hb hPp hIi hil hN' HBad hCb
          subst h2
          go_wp2_with fail
          go_ret2
          exact ⟨.inr ⟨(by first | exact HB.out | exact fun q h1 h2 => HB.out ⟨q, h1, h2⟩), rfl⟩, HBv.out⟩
        · by_cases h2 : P = L
          · have hb := HBad.out (by unfold goodP; omega)
            have HB := Lib.hid hb
            by_cases h3 : 1 < P
            · have h4 : ¬ C = 48 := fun h => h1 ⟨h3, h⟩
              have b1 : (C == 48) = false := beq_eq_false_iff_ne.2 h4
              clear hK hBv hk hb hPp hIi hil hN' HBad hCb h1
              subst h2
              go_wp2_with fail
              go_ret2
              exact ⟨.inr ⟨(by first | exact HB.out | exact fun q h1 h2 => HB.out ⟨q, h1, h2⟩), rfl⟩, HBv.out⟩
            · clear hK hBv hk hb hPp hIi hil hN' HBad hCb h1
              subst h2
              go_wp2_with fail
              go_ret2
              exact ⟨.inr ⟨(by first | exact HB.out | exact fun q h1 h2 => HB.out ⟨q, h1, h2⟩), rfl⟩, HBv.out⟩
          · have hg : goodP l p := by unfold goodP; omega
            have b0 : (P == 0) = false := beq_eq_false_iff_ne.2 h0
            have b2 : (P == L) = false := beq_eq_false_iff_ne.2 h2
            have HG := Lib.hid hg
            by_cases h3 : 1 < P
            · have h4 : ¬ C = 48 := fun h => h1 ⟨h3, h⟩
              have b1 : (C == 48) = false := beq_eq_false_iff_ne.2 h4
              clear hK hBv hk hPp hIi hil hN' HBad hCb h1 hg
              go_wp2_with fail
              go_ret2
              exact ⟨.inl ⟨p, ⟨HK2.out, HG.out⟩, by rw [HPp.out]; rfl⟩, HBv.out⟩
            · clear hK hBv hk hPp hIi hil hN' HBad hCb h1 hg
              go_wp2_with fail
              go_ret2
              exact ⟨.inl ⟨p, ⟨HK2.out, HG.out⟩, by rw [HPp.out]; rfl⟩, HBv.out⟩

end Go.Proofs.YtebfhjndgfcijaaGreatDoor
