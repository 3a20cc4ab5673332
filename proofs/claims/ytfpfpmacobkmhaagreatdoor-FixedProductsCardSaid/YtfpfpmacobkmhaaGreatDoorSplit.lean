/- The contract of package fixed's split: a number's text in its parts, or the fault ErrForm. Condition: the form's reach. -/
import Derived.Test.YtfpfpmacobkmhaaGreatDoorIter
import Derived.BigQuiet
import Derived.Deep.QuietTactic
namespace Go.Proofs.YtfpfpmacobkmhaaGreatDoor
open Go Go.RowKit

set_option maxHeartbeats 1000000 in
theorem cut_some (s : ByteArray) (c : UInt8) (k : Nat) (w : World) (hk : k + 1 ≤ s.size) (hs : s.size ≤ 9223372036854775807) (hi : Lib.indexByte s.data.toList c = (k : Int)) :
    Calls Tryz.prog 103 #[.string s, .string ⟨#[c]⟩] w fun e w' => e = .returned (.tuple #[.string (s.extract 0 k), .string (s.extract (k + 1) s.size), .bool true]) ∧ ∃ n, w' = w.drewN n := by
  have ci := fun w => Tryz.stringslite_Index_one s c w
  rw [hi] at ci
  have CI := Lib.hid ci
  have k0 : (k : Int) ≤ s.size := by omega
  have k1 : (k : Int) + 1 ≤ s.size := by omega
  have k2 : (0 : Int) ≤ (k : Int) := by omega
  clear ci hi
  go_enter Tryz.func103, Tryz.ntmps103
  go_wp2_with (go_at_call 110; refine (CI.out _).mono ?_; rintro e w' ⟨rfl, rfl⟩)
  go_quiet (fail)
  go_wp2
  go_ret3
  exact ⟨rfl, _, rfl⟩

set_option maxHeartbeats 1000000 in
theorem cut_none (s : ByteArray) (c : UInt8) (w : World) (hi : Lib.indexByte s.data.toList c = -1) :
    Calls Tryz.prog 103 #[.string s, .string ⟨#[c]⟩] w fun e w' => e = .returned (.tuple #[.string s, .string ⟨#[]⟩, .bool false]) ∧ ∃ n, w' = w.drewN n := by
  have ci := fun w => Tryz.stringslite_Index_one s c w
  rw [hi] at ci
  have CI := Lib.hid ci
  clear ci hi
  go_enter Tryz.func103, Tryz.ntmps103
  go_wp2_with (go_at_call 110; refine (CI.out _).mono ?_; rintro e w' ⟨rfl, rfl⟩)
  go_ret3
  exact ⟨rfl, 0, rfl⟩

set_option maxHeartbeats 1000000 in
theorem cut_any (s a b c : ByteArray) (t : Bool) (w : World) (cc : ∀ w, Calls Tryz.prog 103 #[.string s, .string c] w fun e w' => e = .returned (.tuple #[.string a, .string b, .bool t]) ∧ ∃ n, w' = w.drewN n) :
    Calls Tryz.prog 90 #[.string s, .string c] w fun e w' => e = .returned (.tuple #[.string a, .string b, .bool t]) ∧ ∃ n, w' = w.drewN n := by
  have CC := Lib.hid cc
  clear cc
  go_enter Tryz.func90, Tryz.ntmps90
  go_wp2_with (go_at_call 103; refine (CC.out _).mono ?_; rintro e w' ⟨rfl, n, rfl⟩)
  go_ret3
  exact ⟨rfl, n, rfl⟩

theorem below_drewN (w : World) (n : Nat) : Below w.heap.size w (w.drewN n) := by
  induction n with
  | zero => exact Below.refl _ _
  | succ n ih => exact ih.drew

/-- What split answers once the text is cut. -/
def splitE (a b : ByteArray) (m p : Bool) (E : Ending) : Prop :=
  ((∃ h : 0 < a.size, ((a[0]'h).toNat : Int) = 48) → ¬ a.toList = [48] → E = flt 5) ∧
  (((∃ h : 0 < a.size, ¬ ((a[0]'h).toNat : Int) = 48) ∨ a.toList = [48]) → p = true → isDig (b.data.toList.map dig) = false → E = flt 5) ∧
  (((∃ h : 0 < a.size, ¬ ((a[0]'h).toNat : Int) = 48) ∨ a.toList = [48]) → (p = false ∨ isDig (b.data.toList.map dig) = true) → E = .returned (.tuple #[.bool m, .string a, .string (b ++ ⟨#[48, 48, 48, 48, 48, 48, 48, 48, 48, 48, 48, 48, 48, 48, 48, 48, 48]⟩)]))

set_option maxHeartbeats 1000000 in
theorem split_walk (s t a b : ByteArray) (m p : Bool) (w : World) (E : Ending) (hE : splitE a b m p E) (hsa : a.size ≤ 9223372036854775807) (hsb : b.size ≤ 9223372036854775000)
    (c1 : ∀ w, Calls Tryz.prog 89 #[.string s, .string ⟨#[45]⟩] w fun e w' => e = .returned (.tuple #[.string t, .bool m]) ∧ w' = w)
    (c2 : ∀ w, Calls Tryz.prog 90 #[.string t, .string ⟨#[46]⟩] w fun e w' => e = .returned (.tuple #[.string a, .string b, .bool p]) ∧ Below w.heap.size w w')
    (ha : isDig (a.data.toList.map dig) = true) (ha0 : (0 : Int) < a.size) :
    Calls Tryz.prog 76 #[.string s] w fun e w' => e = E ∧ Below w.heap.size w w' := by
  have C1 := Lib.hid c1
  have C2 := Lib.hid c2
  have CA := Lib.hid (fun w => isDigits_any a hsa w)
  have CB := Lib.hid (fun w => isDigits_any b (by omega) w)
  rw [ha] at CA
  have HE := Lib.hid hE
  clear c1 c2 ha hE
  go_enter Tryz.func76, Tryz.ntmps76
  go_wp2_with (first | (go_at_call 89; refine (C1.out _).mono ?_; rintro e w' ⟨rfl, rfl⟩) | (go_at_call 90; refine (C2.out _).mono ?_; rintro e w1 ⟨rfl, hb1⟩) | (go_at_call_of 91 (Value.string a); refine (CA.out _).mono ?_; rintro e w2 ⟨rfl, hb2⟩) | (go_at_call_of 91 (Value.string b); refine (CB.out _).mono ?_; rintro e w3 ⟨rfl, hb3⟩))
  all_goals clear C1 C2 CA CB
  all_goals have hE := HE.out
  all_goals clear HE
  all_goals first | go_ret3 | skip
  · exact ⟨rfl, (hE.2.1 (.inr (by assumption)) (by assumption) (by simp_all)).symm, hb1.trans ((hb2.mono hb1.size).trans (hb3.mono (Nat.le_trans hb1.size hb2.size)))⟩
  · exact ⟨(hE.2.2 (.inr (by assumption)) (.inr (by simp_all))).symm, hb1.trans ((hb2.mono hb1.size).trans (hb3.mono (Nat.le_trans hb1.size hb2.size)))⟩
  · exact ⟨(hE.2.2 (.inr (by assumption)) (.inl (by simp_all))).symm, hb1.trans (hb2.mono hb1.size)⟩
  · exact ⟨rfl, (hE.1 ⟨by assumption, by assumption⟩ (by assumption)).symm, hb1.trans (hb2.mono hb1.size)⟩
  · exact ⟨rfl, (hE.2.1 (.inl ⟨by assumption, by assumption⟩) (by assumption) (by simp_all)).symm, hb1.trans ((hb2.mono hb1.size).trans (hb3.mono (Nat.le_trans hb1.size hb2.size)))⟩
  · exact ⟨(hE.2.2 (.inl ⟨by assumption, by assumption⟩) (.inr (by simp_all))).symm, hb1.trans ((hb2.mono hb1.size).trans (hb3.mono (Nat.le_trans hb1.size hb2.size)))⟩
  · exact ⟨(hE.2.2 (.inl ⟨by assumption, by assumption⟩) (.inl (by simp_all))).symm, hb1.trans (hb2.mono hb1.size)⟩


end Go.Proofs.YtfpfpmacobkmhaaGreatDoor
