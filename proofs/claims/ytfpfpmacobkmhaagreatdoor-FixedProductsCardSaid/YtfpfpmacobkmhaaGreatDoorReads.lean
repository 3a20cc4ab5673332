/- The contract of package fixed's Read: the number of a text, or the error, as readS says. Condition: the form's reach. -/
import Derived.Test.YtfpfpmacobkmhaaGreatDoorRead
namespace Go.Proofs.YtfpfpmacobkmhaaGreatDoor
open Go Go.RowKit

set_option maxHeartbeats 1000000 in
theorem read_how (how : Int) (S H : Nat) (w : World) (h : how < 0 ∨ 3 < how) (c20 : w.cell? ⟨H, 0, none⟩ = some (.int .i64 how)) :
    Calls Tryz.prog 75 #[.pointer (some ⟨H, 0, none⟩), .pointer (some ⟨S, 0, none⟩)] w fun e w' => e = flt 2 ∧ Below w.heap.size w w' := by
  have CW := Lib.hid (fun w => way_bad how w h)
  clear h
  go_enter Tryz.func75, Tryz.ntmps75
  go_wp2_with (go_at_call 31; refine (CW.out _).mono ?_; rintro e w' ⟨rfl, rfl⟩)
  exact ⟨rfl, rfl, Below.refl _ _⟩

set_option maxHeartbeats 1000000 in
theorem read_long (s : ByteArray) (how : Int) (S H : Nat) (w : World) (h0 : 0 ≤ how) (h1 : how ≤ 3) (hs : 60 < s.size)
    (c10 : w.cell? ⟨S, 0, none⟩ = some (.string s)) (c20 : w.cell? ⟨H, 0, none⟩ = some (.int .i64 how)) :
    Calls Tryz.prog 75 #[.pointer (some ⟨H, 0, none⟩), .pointer (some ⟨S, 0, none⟩)] w fun e w' => e = flt 3 ∧ Below w.heap.size w w' := by
  have CW := Lib.hid (fun w => way_ok how w h0 h1)
  clear h0 h1
  go_enter Tryz.func75, Tryz.ntmps75
  go_wp2_with (go_at_call 31; refine (CW.out _).mono ?_; rintro e w' ⟨rfl, rfl⟩)
  exact ⟨rfl, rfl, Below.refl _ _⟩

set_option maxHeartbeats 1000000 in
theorem read_form (s : ByteArray) (how : Int) (S H : Nat) (w : World) (h0 : 0 ≤ how) (h1 : how ≤ 3) (hs : s.size ≤ 60)
    (c1 : ∀ w, Calls Tryz.prog 76 #[.string s] w fun e w' => e = flt 5 ∧ Below w.heap.size w w')
    (c10 : w.cell? ⟨S, 0, none⟩ = some (.string s)) (c20 : w.cell? ⟨H, 0, none⟩ = some (.int .i64 how)) :
    Calls Tryz.prog 75 #[.pointer (some ⟨H, 0, none⟩), .pointer (some ⟨S, 0, none⟩)] w fun e w' => e = flt 5 ∧ Below w.heap.size w w' := by
  have C1 := Lib.hid c1
  have CW := Lib.hid (fun w => way_ok how w h0 h1)
  clear h0 h1 c1
  go_enter Tryz.func75, Tryz.ntmps75
  go_wp2_with (first | (go_at_call 31; refine (CW.out _).mono ?_; rintro e w' ⟨rfl, rfl⟩) | (go_at_call 76; refine (C1.out _).mono ?_; rintro e w1 ⟨rfl, hb1⟩))
  exact ⟨rfl, rfl, hb1⟩

set_option maxHeartbeats 1000000 in
theorem read_great (s a b : ByteArray) (m : Bool) (n how : Int) (S H : Nat) (w : World) (h0 : 0 ≤ how) (h1 : how ≤ 3) (hs : s.size ≤ 60) (n1 : 1073741824 < n)
    (c1 : ∀ w, Calls Tryz.prog 76 #[.string s] w fun e w' => e = .returned (.tuple #[.bool m, .string a, .string b]) ∧ Below w.heap.size w w')
    (c2 : ∀ w, Calls Tryz.prog 77 #[.string a] w fun e w' => e = .returned (.int .i64 n) ∧ Below w.heap.size w w')
    (c10 : w.cell? ⟨S, 0, none⟩ = some (.string s)) (c20 : w.cell? ⟨H, 0, none⟩ = some (.int .i64 how)) :
    Calls Tryz.prog 75 #[.pointer (some ⟨H, 0, none⟩), .pointer (some ⟨S, 0, none⟩)] w fun e w' => e = flt 4 ∧ Below w.heap.size w w' := by
  have C1 := Lib.hid c1
  have C2 := Lib.hid c2
  have CW := Lib.hid (fun w => way_ok how w h0 h1)
  clear h0 h1 c1 c2
  go_enter Tryz.func75, Tryz.ntmps75
  go_wp2_with (first | (go_at_call 31; refine (CW.out _).mono ?_; rintro e w' ⟨rfl, rfl⟩) | (go_at_call 76; refine (C1.out _).mono ?_; rintro e w1 ⟨rfl, hb1⟩) | (go_at_call 77; refine (C2.out _).mono ?_; rintro e w2 ⟨rfl, hb2⟩))
  exact ⟨rfl, rfl, kc hb1 hb2⟩

theorem split_bad (s t a b : ByteArray) (m p : Bool) (w : World) (hsa : a.size ≤ 9223372036854775807)
    (c1 : ∀ w, Calls Tryz.prog 89 #[.string s, .string ⟨#[45]⟩] w fun e w' => e = .returned (.tuple #[.string t, .bool m]) ∧ w' = w)
    (c2 : ∀ w, Calls Tryz.prog 90 #[.string t, .string ⟨#[46]⟩] w fun e w' => e = .returned (.tuple #[.string a, .string b, .bool p]) ∧ Below w.heap.size w w')
    (ha : isDig (a.data.toList.map dig) = false) :
    Calls Tryz.prog 76 #[.string s] w fun e w' => e = flt 5 ∧ Below w.heap.size w w' := by
  have C1 := Lib.hid c1
  have C2 := Lib.hid c2
  have CA := Lib.hid (fun w => isDigits_any a hsa w)
  rw [ha] at CA
  clear c1 c2 ha
  go_enter Tryz.func76, Tryz.ntmps76
  go_wp2_with (first | (go_at_call 89; refine (C1.out _).mono ?_; rintro e w' ⟨rfl, rfl⟩) | (go_at_call 90; refine (C2.out _).mono ?_; rintro e w1 ⟨rfl, hb1⟩) | (go_at_call 91; refine (CA.out _).mono ?_; rintro e w2 ⟨rfl, hb2⟩))
  exact ⟨rfl, rfl, kc hb1 hb2⟩

/-- Bytes as a Go string. -/
abbrev bs (l : List UInt8) : ByteArray := ⟨l.toArray⟩
theorem bs_size (l : List UInt8) : (bs l).size = l.length := by simp [ByteArray.size]
theorem bs_list (l : List UInt8) : (bs l).data.toList = l := by simp
theorem bs_self (s : ByteArray) : bs s.data.toList = s := by apply ByteArray.ext; simp
theorem bs_take (l : List UInt8) (k : Nat) : (bs l).extract 0 k = bs (l.take k) := by
  apply ByteArray.ext
  rw [ByteArray.data_extract]
  apply Array.ext'
  simp
theorem bs_drop (l : List UInt8) (k : Nat) : (bs l).extract k (bs l).size = bs (l.drop k) := by
  apply ByteArray.ext
  rw [ByteArray.data_extract, bs_size]
  apply Array.ext'
  simp only [Array.toList_extract, List.toList_toArray, List.extract_eq_take_drop]
  exact List.take_of_length_le (by simp)

/-- A text's parts, cut at the point: what is ahead of it, what is behind it, and whether there is one. -/
def cutL (t : List UInt8) : List UInt8 × List UInt8 × Bool :=
  if Lib.indexByte t 46 = -1 then (t, [], false) else (t.take (Lib.indexByte t 46).toNat, t.drop ((Lib.indexByte t 46).toNat + 1), true)

theorem cut_parts (t : List UInt8) (ht : t.length ≤ 60) (w : World) :
    Calls Tryz.prog 90 #[.string (bs t), .string ⟨#[46]⟩] w fun e w' => e = .returned (.tuple #[.string (bs (cutL t).1), .string (bs (cutL t).2.1), .bool (cutL t).2.2]) ∧ Below w.heap.size w w' := by
  have hs : (bs t).size ≤ 9223372036854775807 := by rw [bs_size]; omega
  unfold cutL
  by_cases h : Lib.indexByte t 46 = -1
  · rw [if_pos h]
    refine (cut_any (bs t) (bs t) (bs []) ⟨#[46]⟩ false w (fun w => cut_none (bs t) 46 w (by rw [bs_list]; exact h))).mono ?_
    rintro e w' ⟨rfl, n, rfl⟩
    exact ⟨rfl, below_drewN w n⟩
  · rw [if_neg h]
    have hg := Lib.indexByte_ge t 46
    obtain ⟨k, hk⟩ : ∃ k : Nat, Lib.indexByte t 46 = k := ⟨(Lib.indexByte t 46).toNat, by omega⟩
    have hl : k < t.length := by
      have := (Lib.indexByte_some hk).1
      exact (List.getElem?_eq_some_iff.1 this).1
    rw [hk]
    refine (cut_any (bs t) (bs (t.take k)) (bs (t.drop (k + 1))) ⟨#[46]⟩ true w (fun w => ?_)).mono ?_
    · have := cut_some (bs t) 46 k w (by rw [bs_size]; omega) hs (by rw [bs_list]; exact hk)
      rw [bs_take, bs_drop] at this
      exact this
    · rintro e w' ⟨rfl, n, rfl⟩
      exact ⟨rfl, below_drewN w n⟩

/-- Has a text whole digits, without a leading zero, and digits behind its point, if it has one? -/
def formOk (a b : List UInt8) (p : Bool) : Prop :=
  isDig (a.map dig) = true ∧ ¬ (a.head? = some 48 ∧ a ≠ [48]) ∧ (p = false ∨ isDig (b.map dig) = true)

/-- Seventeen zeros. -/
abbrev zs : List UInt8 := [48, 48, 48, 48, 48, 48, 48, 48, 48, 48, 48, 48, 48, 48, 48, 48, 48]

theorem head_of (a : List UInt8) (h : 0 < (bs a).size) : a.head? = some ((bs a)[0]'h) := by
  cases a with
  | nil => simp [ByteArray.size] at h
  | cons x r => rfl

theorem isDig_pos {l : List Dig} (h : isDig l = true) : l ≠ [] ∧ ∀ d ∈ l, 0 ≤ d.1 ∧ d.1 ≤ 9 := by
  unfold isDig at h
  rw [Bool.and_eq_true, List.all_eq_true] at h
  refine ⟨fun e => by rw [e] at h; exact absurd h.1 (by decide), fun d hd => of_decide_eq_true (h.2 d hd)⟩

theorem split_ok (s t a b : List UInt8) (m p : Bool) (w : World) (hla : a.length ≤ 60) (hlb : b.length ≤ 60)
    (c1 : ∀ w, Calls Tryz.prog 89 #[.string (bs s), .string ⟨#[45]⟩] w fun e w' => e = .returned (.tuple #[.string (bs t), .bool m]) ∧ w' = w)
    (c2 : ∀ w, Calls Tryz.prog 90 #[.string (bs t), .string ⟨#[46]⟩] w fun e w' => e = .returned (.tuple #[.string (bs a), .string (bs b), .bool p]) ∧ Below w.heap.size w w')
    (hf : formOk a b p) :
    Calls Tryz.prog 76 #[.string (bs s)] w fun e w' => e = .returned (.tuple #[.bool m, .string (bs a), .string (bs (b ++ zs))]) ∧ Below w.heap.size w w' := by
  obtain ⟨h1, h2, h3⟩ := hf
  have hne := (isDig_pos h1).1
  have hpos : 0 < (bs a).size := by
    rw [bs_size]
    exact List.length_pos_iff.2 (fun e => hne (by rw [e]; rfl))
  have hh := head_of a hpos
  refine split_walk (bs s) (bs t) (bs a) (bs b) m p w _ ⟨?_, ?_, ?_⟩ (by rw [bs_size]; omega) (by rw [bs_size]; omega) c1 c2 (by rw [bs_list]; exact h1) (by omega)
  · rintro ⟨h, h0⟩ hx
    rw [ByteArray.toList_eq, bs_list] at hx
    exact absurd ⟨hh.trans (congrArg some (UInt8.toNat_inj.1 (by show ((bs a)[0]'h).toNat = 48; omega))), hx⟩ h2
  · intro _ hp hb
    rw [bs_list] at hb
    rcases h3 with h3 | h3
    · rw [h3] at hp; exact absurd hp (by decide)
    · rw [h3] at hb; exact absurd hb (by decide)
  · intro _ _
    have : bs b ++ ⟨#[48, 48, 48, 48, 48, 48, 48, 48, 48, 48, 48, 48, 48, 48, 48, 48, 48]⟩ = bs (b ++ zs) := by
      apply ByteArray.ext
      simp
    rw [this]

theorem split_no (s t a b : List UInt8) (m p : Bool) (w : World) (hla : a.length ≤ 60) (hlb : b.length ≤ 60)
    (c1 : ∀ w, Calls Tryz.prog 89 #[.string (bs s), .string ⟨#[45]⟩] w fun e w' => e = .returned (.tuple #[.string (bs t), .bool m]) ∧ w' = w)
    (c2 : ∀ w, Calls Tryz.prog 90 #[.string (bs t), .string ⟨#[46]⟩] w fun e w' => e = .returned (.tuple #[.string (bs a), .string (bs b), .bool p]) ∧ Below w.heap.size w w')
    (hf : ¬ formOk a b p) :
    Calls Tryz.prog 76 #[.string (bs s)] w fun e w' => e = flt 5 ∧ Below w.heap.size w w' := by
  by_cases h1 : isDig (a.map dig) = true
  · have hne := (isDig_pos h1).1
    have hpos : 0 < (bs a).size := by
      rw [bs_size]
      exact List.length_pos_iff.2 (fun e => hne (by rw [e]; rfl))
    have hh := head_of a hpos
    refine split_walk (bs s) (bs t) (bs a) (bs b) m p w _ ⟨fun _ _ => rfl, fun _ _ _ => rfl, ?_⟩ (by rw [bs_size]; omega) (by rw [bs_size]; omega) c1 c2 (by rw [bs_list]; exact h1) (by omega)
    intro hx h3
    rw [bs_list] at h3
    refine absurd ⟨h1, ?_, h3⟩ hf
    rintro ⟨k1, k2⟩
    rcases hx with ⟨h, h0⟩ | h0
    · rw [hh] at k1
      have := Option.some.inj k1
      rw [this] at h0
      exact h0 rfl
    · rw [ByteArray.toList_eq, bs_list] at h0
      exact k2 h0
  · exact split_bad (bs s) (bs t) (bs a) (bs b) m p w (by rw [bs_size]; omega) c1 c2 (by rw [bs_list]; simpa using h1)

theorem enters_read (args : Array Value) (w : World) : (callFunc 75 args).run Tryz.prog w = .ok (.enter 75 args) w := by
  simp [go_sem]

set_option maxHeartbeats 1000000 in
theorem read_out (s : ByteArray) (how : Int) (r : Int × Int) (w : World)
    (hin : (r.2 = 0 ∧ ∀ Sp Hp W, W.cell? ⟨Sp, 0, none⟩ = some (.string s) → W.cell? ⟨Hp, 0, none⟩ = some (.int .i64 how) →
        Calls Tryz.prog 75 #[.pointer (some ⟨Hp, 0, none⟩), .pointer (some ⟨Sp, 0, none⟩)] W fun e w' => e = .returned (.int .i64 r.1) ∧ Below W.heap.size W w') ∨
      (r.1 = 0 ∧ ∀ Sp Hp W, W.cell? ⟨Sp, 0, none⟩ = some (.string s) → W.cell? ⟨Hp, 0, none⟩ = some (.int .i64 how) →
        Calls Tryz.prog 75 #[.pointer (some ⟨Hp, 0, none⟩), .pointer (some ⟨Sp, 0, none⟩)] W fun e w' => e = flt r.2 ∧ Below W.heap.size W w')) :
    Calls Tryz.prog 43 #[.string s, .int .i64 how] w fun e w' => e = .returned (.tuple #[.int .i64 r.1, .int .i64 r.2]) ∧ Below w.heap.size w w' := by
  have hmf : ∀ (fn : Fn) (first cap : Array Value) (w : World), (Instr.makeFunc fn first cap).run Tryz.prog w = .ok (.func fn first cap) w := fun _ _ _ _ => rfl
  have ha := attempt_fix 75 #[.pointer (some ⟨w.heap.size + 1, 0, none⟩), .pointer (some ⟨w.heap.size, 0, none⟩)] r
    ((w.alloc (.cells #[.string s] 9)).alloc (.cells #[.int .i64 how] 3)) enters_read
    (by
      rcases hin with ⟨h, hin⟩ | ⟨h, hin⟩
      · exact .inl ⟨h, fun W hb => hin _ _ W (cell_later hb (by simp [go_sem])) (cell_later hb (by simp [go_sem]))⟩
      · exact .inr ⟨h, fun W hb => hin _ _ W (cell_later hb (by simp [go_sem])) (cell_later hb (by simp [go_sem]))⟩)
  have HA := Lib.hid ha
  clear ha hin
  go_enter Tryz.func43, Tryz.ntmps43
  go_wp2_with (go_at_call 37; refine HA.out.mono ?_; rintro e w1 ⟨rfl, hb⟩)
  go_ret2
  exact ⟨rfl, (((Below.refl w.heap.size w).alloc (Nat.le_refl _) _).alloc (by simp) _).trans (hb.mono (by simp; omega))⟩

/-- What the parts of a text are together, times 10 to the power of 17 and of One. -/
def wholeV (n v : Int) (t m : Bool) : Int :=
  (if m then -1 else 1) * ((n * 100000000000000000 + v) * 65536 + (if t then 1 else 0))

/-- Whether a text has a minus sign, and what is behind it. -/
def minusL (l : List UInt8) : Bool := Lib.hasPrefix l [45]
def restL (l : List UInt8) : List UInt8 := Lib.trimPrefix l [45]

/-- What is ahead of the point, what is behind it and seventeen zeros, and whether the form is right. -/
def aheadL (l : List UInt8) : List UInt8 := (cutL (restL l)).1
def behindL (l : List UInt8) : List UInt8 := (cutL (restL l)).2.1 ++ zs
def fineL (l : List UInt8) : Prop := formOk (cutL (restL l)).1 (cutL (restL l)).2.1 (cutL (restL l)).2.2
instance (l : List UInt8) : Decidable (fineL l) := by unfold fineL formOk; infer_instance

/-- The number of a text, times 10 to the power of 17 and of One. -/
def textV (l : List UInt8) : Int :=
  wholeV (valOf ((aheadL l).map dig)) (valOf (((behindL l).take 17).map dig)) (!(Lib.trimB ((behindL l).drop 17) 48).isEmpty) (minusL l)

/-- What Read gives: the value and the error. -/
def readS (l : List UInt8) (how : Int) : Int × Int :=
  if 0 ≤ how ∧ how ≤ 3 then
    if l.length ≤ 60 then
      if fineL l then
        if valOf ((aheadL l).map dig) ≤ 1073741824 then
          if Vld (rnd how (textV l) 100000000000000000) then (rnd how (textV l) 100000000000000000, 0) else (0, 4)
        else (0, 4)
      else (0, 5)
    else (0, 3)
  else (0, 2)

theorem rest_length (l : List UInt8) : (restL l).length ≤ l.length := by
  unfold restL Lib.trimPrefix
  split
  · rw [List.length_drop]; omega
  · exact Nat.le_refl _
theorem cut_length (t : List UInt8) : (cutL t).1.length ≤ t.length ∧ (cutL t).2.1.length ≤ t.length := by
  unfold cutL
  split
  · exact ⟨Nat.le_refl _, Nat.zero_le _⟩
  · exact ⟨by rw [List.length_take]; omega, by rw [List.length_drop]; omega⟩
theorem behind_length (l : List UInt8) : (behindL l).length = (cutL (restL l)).2.1.length + 17 := by
  unfold behindL
  rw [List.length_append]
  rfl
theorem zs_dig : ∀ d ∈ zs.map dig, 0 ≤ d.1 ∧ d.1 ≤ 9 := by decide

theorem split_l (l : List UInt8) (hl : l.length ≤ 60) (w : World) :
    (fineL l → Calls Tryz.prog 76 #[.string (bs l)] w fun e w' => e = .returned (.tuple #[.bool (minusL l), .string (bs (aheadL l)), .string (bs (behindL l))]) ∧ Below w.heap.size w w') ∧
    (¬ fineL l → Calls Tryz.prog 76 #[.string (bs l)] w fun e w' => e = flt 5 ∧ Below w.heap.size w w') := by
  have h1 := rest_length l
  have h2 := cut_length (restL l)
  have c1 := fun w => Tryz.strings_CutPrefix (bs l) ⟨#[45]⟩ w
  have c2 := fun w => cut_parts (restL l) (by omega) w
  exact ⟨fun h => split_ok l (restL l) _ _ (minusL l) _ w (Nat.le_trans h2.1 (by omega)) (Nat.le_trans h2.2 (by omega)) c1 c2 h, fun h => split_no l (restL l) _ _ (minusL l) _ w (Nat.le_trans h2.1 (by omega)) (Nat.le_trans h2.2 (by omega)) c1 c2 h⟩

theorem hi_small (v : Int) (h0 : 0 ≤ v) (h1 : v < 18446744073709551616) : hiOf v = 0 ∧ loOf v = v := by
  unfold hiOf loOf
  omega

theorem behind_dig {l : List UInt8} (hf : fineL l) : ∀ d ∈ ((behindL l).take 17).map dig, 0 ≤ d.1 ∧ d.1 ≤ 9 := by
  have hd2 : ∀ d ∈ (behindL l).map dig, 0 ≤ d.1 ∧ d.1 ≤ 9 := by
    intro d hd
    unfold behindL at hd
    rw [List.map_append, List.mem_append] at hd
    rcases hd with hd | hd
    · rcases hf.2.2 with h | h
      · have : (cutL (restL l)).2.1 = [] := by
          unfold cutL at h ⊢
          split at h
          · rename_i hi; rw [if_pos hi]
          · exact absurd h (by simp)
        rw [this] at hd
        exact absurd hd (by simp)
      · exact (isDig_pos h).2 d hd
    · exact zs_dig d hd
  intro d hd
  rw [List.map_take] at hd
  exact hd2 d (List.mem_of_mem_take hd)

theorem read_in (l : List UInt8) (how : Int) (S H : Nat) (w : World) (h0 : 0 ≤ how) (h1 : how ≤ 3) (hl : l.length ≤ 60) (hf : fineL l) (hn : valOf ((aheadL l).map dig) ≤ 1073741824) (E : Ending)
    (hE : (∃ z, E = .returned (.int .i64 z)) ∨ (∃ n, E = flt n))
    (co : ∀ W, Calls Tryz.prog 30 #[.agg #[.int .i64 (hiOf (textV l)), .int .u64 (loOf (textV l))], .int .i64 100000000000000000, .func (.func (wayFn how)) #[] #[]] W fun e w' => e = E ∧ Below W.heap.size W w')
    (c10 : w.cell? ⟨S, 0, none⟩ = some (.string (bs l))) (c20 : w.cell? ⟨H, 0, none⟩ = some (.int .i64 how)) :
    Calls Tryz.prog 75 #[.pointer (some ⟨H, 0, none⟩), .pointer (some ⟨S, 0, none⟩)] w fun e w' => e = E ∧ Below w.heap.size w w' := by
  have g1 := rest_length l
  have g2 := cut_length (restL l)
  have g3 := behind_length l
  have hd1 := (isDig_pos hf.1).2
  have hd3 := behind_dig hf
  obtain ⟨n, hN⟩ : ∃ n, valOf ((aheadL l).map dig) = n := ⟨_, rfl⟩
  obtain ⟨v, hV⟩ : ∃ v, valOf (((behindL l).take 17).map dig) = v := ⟨_, rfl⟩
  have n0 := (valOf_bd _ hd1).1
  obtain ⟨v0, v1⟩ := valOf_bd _ hd3
  have c2 := fun w => value_any (bs (aheadL l)) (by rw [bs_size]; unfold aheadL; omega) w (by rw [bs_list]; exact hd1)
  have c3 := fun w => value_any (bs ((behindL l).take 17)) (by rw [bs_size, List.length_take]; omega) w (by rw [bs_list]; exact hd3)
  rw [bs_list, hN] at c2
  rw [bs_list, hV] at c3
  have c4 : ∀ w, Calls Tryz.prog 80 #[.string (bs ((behindL l).drop 17)), .string ⟨#[48]⟩] w fun e w' => e = .returned (.string (bs (Lib.trimB ((behindL l).drop 17) 48))) ∧ Below w.heap.size w w' := fun w =>
    (Tryz.strings_Trim_one (bs ((behindL l).drop 17)) 48 (by decide) w (by rw [bs_size, List.length_drop]; omega)).mono (by
      rintro e w' ⟨rfl, h⟩
      rcases h with rfl | rfl
      · exact ⟨rfl, Below.refl _ _⟩
      · exact ⟨rfl, (Below.refl _ _).drew⟩)
  change valOf ((aheadL l).map dig) ≥ 0 at n0
  rw [hN] at n0 hn
  rw [hV] at v0 v1
  have cs := fun w => size_any v w (by omega) (by omega)
  have hvn : ((v.natAbs : Nat) : Int) = v := by omega
  rw [hvn] at cs
  obtain ⟨e1, e2⟩ := hi_small v v0 (by omega)
  have ca := fun w => plus_any (n * 100000000000000000) v w (by omega) (by omega)
  rw [e1, e2] at ca
  have ct := fun w => times_any (n * 100000000000000000 + v) 65536 w (by omega) (by omega) (by omega)
  have cb := fun w => plus_any ((n * 100000000000000000 + v) * 65536) 1 w (by omega) (by omega)
  have cn := fun w => negative_any ((n * 100000000000000000 + v) * 65536) w (by omega) (by omega)
  have cm := fun w => negative_any ((n * 100000000000000000 + v) * 65536 + 1) w (by omega) (by omega)
  have hT : textV l = wholeV n v (!(Lib.trimB ((behindL l).drop 17) 48).isEmpty) (minusL l) := by
    unfold textV; rw [hN, hV]
  rw [hT] at co
  have hq : (bs (Lib.trimB ((behindL l).drop 17) 48)).toList = Lib.trimB ((behindL l).drop 17) 48 := by rw [ByteArray.toList_eq, bs_list]
  rw [← bs_take] at c3
  rw [← bs_drop] at c4
  refine read_walk (bs l) (bs (aheadL l)) (bs (behindL l)) (bs (Lib.trimB ((behindL l).drop 17) 48)) (minusL l) n v _ _ _ _ _ _ _ _ _ _ _ _ E how S H w h0 h1 (by rw [bs_size]; exact hl) hn (by rw [bs_size]; omega)
    (fun w => (split_l l hl w).1 hf) c2 c3 cs (fun w => product_any n 100000000000000000 w (by omega) (by omega) (by omega) (by omega)) ca ct c4 cb cn cm ?_ hE c10 c20
  rw [hq]
  refine ⟨fun ht hm => ?_, fun ht hm => ?_, fun ht hm => ?_, fun ht hm => ?_⟩
  all_goals rw [ht, hm] at co
  · have : wholeV n v true true = -((n * 100000000000000000 + v) * 65536 + 1) := by unfold wholeV; simp
    rw [this] at co; exact co
  · have : wholeV n v true false = (n * 100000000000000000 + v) * 65536 + 1 := by unfold wholeV; simp
    rw [this] at co; exact co
  · have : wholeV n v false true = -((n * 100000000000000000 + v) * 65536) := by unfold wholeV; simp
    rw [this] at co; exact co
  · have : wholeV n v false false = (n * 100000000000000000 + v) * 65536 := by unfold wholeV; simp
    rw [this] at co; exact co

theorem wholeV_bd (n v : Int) (t m : Bool) (n0 : 0 ≤ n) (n1 : n ≤ 1073741824) (v0 : 0 ≤ v) (v1 : v ≤ 100000000000000000) :
    -170141183460469231731687303715884105728 < wholeV n v t m ∧ wholeV n v t m < 170141183460469231731687303715884105728 := by
  unfold wholeV
  cases t <;> cases m <;> simp <;> omega

theorem read_any (l : List UInt8) (how : Int) (w : World) :
    Calls Tryz.prog 43 #[.string (bs l), .int .i64 how] w fun e w' => e = .returned (.tuple #[.int .i64 (readS l how).1, .int .i64 (readS l how).2]) ∧ Below w.heap.size w w' := by
  apply read_out
  unfold readS
  by_cases hh : 0 ≤ how ∧ how ≤ 3
  · rw [if_pos hh]
    by_cases hl : l.length ≤ 60
    · rw [if_pos hl]
      by_cases hf : fineL l
      · rw [if_pos hf]
        by_cases hn : valOf ((aheadL l).map dig) ≤ 1073741824
        · rw [if_pos hn]
          have hd1 := (isDig_pos hf.1).2
          have n0 : 0 ≤ valOf ((aheadL l).map dig) := (valOf_bd _ hd1).1
          have hv := valOf_bd _ (behind_dig hf)
          have hb : -170141183460469231731687303715884105728 < textV l ∧ textV l < 170141183460469231731687303715884105728 := wholeV_bd _ _ _ _ n0 hn hv.1 hv.2
          by_cases hz : Vld (rnd how (textV l) 100000000000000000)
          · rw [if_pos hz]
            exact .inl ⟨rfl, fun S H W c1 c2 => read_in l how S H W hh.1 hh.2 hl hf hn _ (.inl ⟨_, rfl⟩) (fun W => over_ok how _ _ W hh.1 hh.2 hb.1 hb.2 (by omega) (by omega) (by omega) hz) c1 c2⟩
          · rw [if_neg hz]
            exact .inr ⟨rfl, fun S H W c1 c2 => read_in l how S H W hh.1 hh.2 hl hf hn _ (.inr ⟨_, rfl⟩) (fun W => over_bad how _ _ W hh.1 hh.2 hb.1 hb.2 (by omega) (by omega) (by omega) hz) c1 c2⟩
        · rw [if_neg hn]
          have hd1 := (isDig_pos hf.1).2
          have g1 := rest_length l
          have g2 := cut_length (restL l)
          have c2 := fun w => value_any (bs (aheadL l)) (by rw [bs_size]; unfold aheadL; omega) w (by rw [bs_list]; exact hd1)
          rw [bs_list] at c2
          exact .inr ⟨rfl, fun S H W k1 k2 => read_great (bs l) _ _ _ _ how S H W hh.1 hh.2 (by rw [bs_size]; exact hl) (by omega) (fun w => (split_l l hl w).1 hf) c2 k1 k2⟩
      · rw [if_neg hf]
        exact .inr ⟨rfl, fun S H W k1 k2 => read_form (bs l) how S H W hh.1 hh.2 (by rw [bs_size]; exact hl) (fun w => (split_l l hl w).2 hf) k1 k2⟩
    · rw [if_neg hl]
      exact .inr ⟨rfl, fun S H W k1 k2 => read_long (bs l) how S H W hh.1 hh.2 (by rw [bs_size]; omega) k1 k2⟩
  · rw [if_neg hh]
    exact .inr ⟨rfl, fun S H W _ k2 => read_how how S H W (by omega) k2⟩

end Go.Proofs.YtfpfpmacobkmhaaGreatDoor
