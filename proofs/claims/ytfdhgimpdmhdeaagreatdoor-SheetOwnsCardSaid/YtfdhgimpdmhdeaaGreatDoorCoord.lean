/- The integer of a text: package sheet's coordinate, where the text is a numeral. -/
import Derived.Test.YtfdhgimpdmhdeaaGreatDoorPrint
import Derived.Lib.SmallJoins
namespace Go.Proofs.YtfdhgimpdmhdeaaGreatDoor
open Go Go.RowKit

/-- The text of a number, as Go's string. -/
def numB (v : Int) : ByteArray := ⟨(Lib.itoa v).toArray⟩
/-- A text without its minus sign. -/
def bareB (s : ByteArray) : ByteArray := ⟨(Lib.trimPrefix s.data.toList [45]).toArray⟩

theorem parse_below {w w1 : World} (h : w1 = w ∨ ∃ t, w1 = Lib.bytesWorld w 5 t) : Below w.heap.size w w1 := by
  rcases h with rfl | ⟨t, rfl⟩
  · exact Below.refl _ _
  · exact Joins.below_bytesWorld _ _ _ _ (Nat.le_refl _)
theorem form_below {w w1 : World} (h : ∃ k os, w1 = Go.Sort.grow (w.drewN k) os) : Below w.heap.size w w1 := by
  obtain ⟨k, os, rfl⟩ := h
  exact Lib.below_grow _ _ (Nat.le_refl _) _ _

set_option maxRecDepth 100000 in
set_option maxHeartbeats 2000000 in
theorem coord_is (s : ByteArray) (v D : Int) (w : World) (hmax : s.size ≤ 281474976710656) (hp : Lib.parseIntB 64 s.data.toList = .ok v) (h0 : -9223372036854775808 ≤ v) (h1 : v ≤ 9223372036854775807) (HT : Hid (TabOn w.heap.size w))
    (hs : numB v = s) (hd : ((bareB s).size : Int) = D) (hD : D ≤ 18) :
    Calls Tryz.prog 57 #[.string s] w fun e w' => e = .returned (.tuple #[.int .i64 v, .bool true]) ∧ Below w.heap.size w w' := by
  have CP := Lib.hid (fun w => Tryz.strconv_ParseInt_10_at64_ok s (by omega) v hp w)
  have CF := Lib.hid (fun W (h : Below w.heap.size w W) => Tryz.strconv_FormatInt_10 v h0 h1 W ((HT.out.on h).here))
  have CT := Lib.hid (fun w => Tryz.strings_TrimPrefix s ⟨#[45]⟩ w)
  have e1 : (⟨(Lib.itoa v).toArray⟩ : ByteArray) = s := hs
  have e2 : (⟨(Lib.trimPrefix s.data.toList (⟨#[45]⟩ : ByteArray).data.toList).toArray⟩ : ByteArray) = bareB s := rfl
  rw [e1] at CF
  rw [e2] at CT
  clear e1 e2 hs hp hmax h0 h1
  go_enter Tryz.func57, Tryz.ntmps57
  go_wp2_with (first | (go_at_call 69; refine (CP.out _).mono ?_; rintro e w1 ⟨rfl, hw1⟩; have HB1 := Lib.hid (parse_below hw1); clear hw1) | (go_at_call 70; have HM := HB1; refine (CF.out _ HB1.out).mono ?_; clear HM; rintro e w2 ⟨rfl, hw2⟩; have HB2 := Lib.hid (form_below hw2); clear hw2) | (go_at_call 71; refine (CT.out _).mono ?_; rintro e w3 ⟨rfl, rfl⟩))
  go_ret2
  exact ⟨rfl, kc HB1.out HB2.out⟩

set_option maxRecDepth 100000 in
set_option maxHeartbeats 2000000 in
theorem coord_not (s : ByteArray) (v : Int) (w : World) (hmax : s.size ≤ 281474976710656) (hp : Lib.parseIntB 64 s.data.toList = .ok v) (h0 : -9223372036854775808 ≤ v) (h1 : v ≤ 9223372036854775807) (HT : Hid (TabOn w.heap.size w))
    (F : ByteArray) (hF : numB v = F) (hs : ¬ F.toList = s.toList) :
    Calls Tryz.prog 57 #[.string s] w fun e w' => e = .returned (.tuple #[.int .i64 0, .bool false]) ∧ Below w.heap.size w w' := by
  have CP := Lib.hid (fun w => Tryz.strconv_ParseInt_10_at64_ok s (by omega) v hp w)
  have CF := Lib.hid (fun W (h : Below w.heap.size w W) => Tryz.strconv_FormatInt_10 v h0 h1 W ((HT.out.on h).here))
  have e1 : (⟨(Lib.itoa v).toArray⟩ : ByteArray) = F := hF
  rw [e1] at CF
  clear e1 hF hp hmax h0 h1
  go_enter Tryz.func57, Tryz.ntmps57
  go_wp2_with (first | (go_at_call 69; refine (CP.out _).mono ?_; rintro e w1 ⟨rfl, hw1⟩; have HB1 := Lib.hid (parse_below hw1); clear hw1) | (go_at_call 70; have HM := HB1; refine (CF.out _ HB1.out).mono ?_; clear HM; rintro e w2 ⟨rfl, hw2⟩; have HB2 := Lib.hid (form_below hw2); clear hw2))

  go_ret2
  exact ⟨rfl, kc HB1.out HB2.out⟩

set_option maxRecDepth 100000 in
set_option maxHeartbeats 2000000 in
theorem coord_long (s : ByteArray) (v D : Int) (w : World) (hmax : s.size ≤ 281474976710656) (hp : Lib.parseIntB 64 s.data.toList = .ok v) (h0 : -9223372036854775808 ≤ v) (h1 : v ≤ 9223372036854775807) (HT : Hid (TabOn w.heap.size w))
    (hs : numB v = s) (hd : ((bareB s).size : Int) = D) (hD : 18 < D) :
    Calls Tryz.prog 57 #[.string s] w fun e w' => e = .returned (.tuple #[.int .i64 0, .bool false]) ∧ Below w.heap.size w w' := by
  have CP := Lib.hid (fun w => Tryz.strconv_ParseInt_10_at64_ok s (by omega) v hp w)
  have CF := Lib.hid (fun W (h : Below w.heap.size w W) => Tryz.strconv_FormatInt_10 v h0 h1 W ((HT.out.on h).here))
  have CT := Lib.hid (fun w => Tryz.strings_TrimPrefix s ⟨#[45]⟩ w)
  have e1 : (⟨(Lib.itoa v).toArray⟩ : ByteArray) = s := hs
  have e2 : (⟨(Lib.trimPrefix s.data.toList (⟨#[45]⟩ : ByteArray).data.toList).toArray⟩ : ByteArray) = bareB s := rfl
  rw [e1] at CF
  rw [e2] at CT
  clear e1 e2 hs hp hmax h0 h1
  go_enter Tryz.func57, Tryz.ntmps57
  go_wp2_with (first | (go_at_call 69; refine (CP.out _).mono ?_; rintro e w1 ⟨rfl, hw1⟩; have HB1 := Lib.hid (parse_below hw1); clear hw1) | (go_at_call 70; have HM := HB1; refine (CF.out _ HB1.out).mono ?_; clear HM; rintro e w2 ⟨rfl, hw2⟩; have HB2 := Lib.hid (form_below hw2); clear hw2) | (go_at_call 71; refine (CT.out _).mono ?_; rintro e w3 ⟨rfl, rfl⟩))
  go_ret2
  exact ⟨rfl, kc HB1.out HB2.out⟩

end Go.Proofs.YtfdhgimpdmhdeaaGreatDoor
