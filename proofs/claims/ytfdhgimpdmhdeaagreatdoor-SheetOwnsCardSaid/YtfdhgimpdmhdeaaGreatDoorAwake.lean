/- The opening examples of the laws about package sheet: awake. Conditions: the table that strconv reads holds what its initialiser laid; bytealg's variable is an integer. -/
import Derived.Test.YtfdhgimpdmhdeaaGreatDoorParse
namespace Go.Proofs.YtfdhgimpdmhdeaaGreatDoor
open Go Go.RowKit Go.Shelf

/-- What awake asks of a world. -/
def Aw (w : World) : Prop := TabOn w.heap.size w ∧ ∃ m, w.cell? ⟨1, 0, none⟩ = some (.int .i64 m)
theorem Aw.on {w w' : World} (h : Aw w) (hb : Below w.heap.size w w') : Aw w' := ⟨fun v hv => h.1 v (kc hb hv), by obtain ⟨m, hm⟩ := h.2; exact ⟨m, cell_later hb hm⟩⟩

theorem dec0 : Lib.itoa 0 = [48] := by unfold Lib.itoa; rw [if_neg (by decide)]; unfold Lib.decDigits; rfl
theorem dec1 : Lib.itoa (-1) = [45, 49] := by unfold Lib.itoa; rw [if_pos (by decide)]; unfold Lib.decDigits; rfl
theorem num0 : numB 0 = ⟨#[48]⟩ := by unfold numB; rw [dec0]

set_option maxRecDepth 100000 in
theorem coord0 (W : World) (h : Aw W) : Calls Tryz.prog 57 #[.string ⟨#[48]⟩] W fun e w' => e = .returned (.tuple #[.int .i64 0, .bool true]) ∧ Below W.heap.size W w' :=
  coord_is ⟨#[48]⟩ 0 1 W (by decide) (by kernel_rfl) (by decide) (by decide) h.1 num0 (by decide) (by decide)
set_option maxRecDepth 100000 in
theorem coord00 (W : World) (h : Aw W) : Calls Tryz.prog 57 #[.string ⟨#[48, 48]⟩] W fun e w' => e = .returned (.tuple #[.int .i64 0, .bool false]) ∧ Below W.heap.size W w' :=
  coord_not ⟨#[48, 48]⟩ 0 W (by decide) (by kernel_rfl) (by decide) (by decide) h.1 ⟨#[48]⟩ num0 (by rw [ByteArray.toList_eq, ByteArray.toList_eq]; decide)

abbrev line1 : ByteArray := ⟨#[114, 49, 32, 48, 32, 48, 10]⟩
abbrev line2 : ByteArray := ⟨#[114, 49, 32, 48, 32, 48, 48, 10]⟩

set_option maxRecDepth 100000 in
theorem stone1 (W : World) (h : Aw W) : Calls Tryz.prog 38 #[.string line1] W fun e w' => e = .returned (.tuple #[(St.mk 0 0 0 0).val, .bool true]) ∧ Below W.heap.size W w' := by
  obtain ⟨m, hm⟩ := h.2
  exact stoneOf_three line1 ⟨#[114, 49, 32, 48, 32, 48]⟩ ⟨#[48]⟩ ⟨#[48]⟩ 114 49 114 49 0 0 0 0 m true rfl W (by decide) (by kernel_rfl) (by decide) (by kernel_rfl) (by kernel_rfl) (by kernel_rfl) rfl rfl (by kernel_rfl) (by decide) hm
    (fun V hV => coord0 V (h.on hV)) (fun V hV => coord0 V (h.on hV))
set_option maxRecDepth 100000 in
theorem stone2 (W : World) (h : Aw W) : Calls Tryz.prog 38 #[.string line2] W fun e w' => e = .returned (.tuple #[(St.mk 0 0 0 0).val, .bool false]) ∧ Below W.heap.size W w' := by
  obtain ⟨m, hm⟩ := h.2
  exact stoneOf_three line2 ⟨#[114, 49, 32, 48, 32, 48, 48]⟩ ⟨#[48]⟩ ⟨#[48, 48]⟩ 114 49 114 49 0 0 0 0 m false rfl W (by decide) (by kernel_rfl) (by decide) (by kernel_rfl) (by kernel_rfl) (by kernel_rfl) rfl rfl (by kernel_rfl) (by decide) hm
    (fun V hV => coord0 V (h.on hV)) (fun V hV => coord00 V (h.on hV))

abbrev text2 : ByteArray := ⟨#[114, 49, 32, 48, 32, 48, 10, 114, 49, 32, 48, 32, 48, 48, 10]⟩
theorem pcs2 : Pcs text2 [line1, line2, ⟨#[]⟩] := by
  refine pcs_more text2 6 _ (by kernel_rfl) (by decide) ?_
  refine pcs_more line2 7 _ (by kernel_rfl) (by decide) ?_
  exact pcs_last _ (by kernel_rfl)

set_option maxRecDepth 100000 in
theorem parse0 (w : World) (h : Aw w) : Calls Tryz.prog 18 #[.string text2] w fun e w' => e = .returned (.tuple #[.slice none 0 0, .int .i64 7, .int .i64 5]) ∧ Below w.heap.size w w' := by
  refine callsIn_wide.1 (parse_stop text2 [line1, line2, ⟨#[]⟩] [(0, line1)] [] 7 line2 (fun q => (⟨0, 0, 0, 0⟩, decide (q.size = 7))) (by decide) pcs2 (by kernel_rfl) (by decide) (by decide) (by decide) w ?_)
  rintro q W (rfl | ⟨x, hx, rfl⟩) hW
  · exact stone2 W (h.on hW)
  · rw [List.mem_singleton.1 hx]
    exact stone1 W (h.on hW)

/-- The four stones of the examples. -/
abbrev four : List St := [⟨0, 0, 0, 0⟩, ⟨0, 1, 0, 26214400⟩, ⟨1, 0, 0, 65536000⟩, ⟨1, 1, 19660800, 0⟩]
theorem below4 {i : Nat} (h : i < 4) : i = 0 ∨ i = 1 ∨ i = 2 ∨ i = 3 := by omega
set_option maxRecDepth 100000 in
theorem four_valid : Valid four := by
  refine ⟨by decide, fun i hi => ?_, fun a b h1 h2 _ => ?_⟩
  · rcases below4 hi with rfl | rfl | rfl | rfl <;> exact ⟨by decide +kernel, by decide +kernel, by decide +kernel, by decide +kernel⟩
  · rcases below4 h2 with rfl | rfl | rfl | rfl
    · omega
    · obtain rfl : a = 0 := by omega
      decide +kernel
    · rcases (show a = 0 ∨ a = 1 by omega) with rfl | rfl <;> decide +kernel
    · rcases (show a = 0 ∨ a = 1 ∨ a = 2 by omega) with rfl | rfl | rfl <;> decide +kernel
theorem four_house : houseI four 4 = [0, 1, 2, 3] := by decide +kernel
theorem four_far : farK four 0 = 0 ∧ farK four 1 = 687194767360000 ∧ farK four 2 = 4294967296000000 ∧ farK four 3 = 386547056640000 := by decide +kernel
theorem four_order {Y : List Int} (h1 : Y.Perm (houseI four 4)) (h2 : Y.Pairwise (lexB (farK four))) : Y = [0, 3, 1, 2] := by
  obtain ⟨f0, f1, f2, f3⟩ := four_far
  refine lex_uniq h2 ?_ (h1.trans (by rw [four_house]; decide))
  simp only [List.pairwise_cons, List.mem_cons, List.not_mem_nil, or_false, forall_eq_or_imp, forall_eq, lexB, f0, f1, f2, f3]
  simp
theorem four_count {Y : List Int} {t p : Int} (h1 : Y.Perm (houseI four 4)) (h2 : Y.Pairwise (lexB (farK four))) (h : CntR four Y t p) : t = 0 ∧ p = 1 := by
  obtain rfl := four_order h1 h2
  obtain ⟨f0, f1, f2, f3⟩ := four_far
  rcases h with ⟨h, _⟩ | ⟨_, h, _⟩ | ⟨k, q, ⟨hk, hk1, hk2⟩, ⟨hq, hq1, _⟩, rfl, rfl⟩
  · cases h
  · exact absurd (h 1 (by decide)) (by decide +kernel)
  · have e1 : k = 1 := by
      rcases below4 hk with rfl | rfl | rfl | rfl
      · exact absurd rfl hk1
      · rfl
      · exact absurd (hk2 1 (by decide)) (by decide +kernel)
      · exact absurd (hk2 1 (by decide)) (by decide +kernel)
    subst e1
    have e2 : q = 1 := by
      rcases (show q = 0 ∨ q = 1 by omega) with rfl | rfl
      · have := hq1 0 (by omega) (by omega)
        simp [f0, f3] at this
      · rfl
    subst e2
    exact ⟨by decide +kernel, rfl⟩

set_option maxRecDepth 100000 in
theorem count4 (g : Nat) (w : World) (h : ∀ j (h : j < four.length), StAt w g (0 + j * 4) four[j]) :
    Calls Tryz.prog 8 #[.slice (some ⟨g, 0, none⟩) 4 4] w fun e w' => e = .returned (.tuple #[.int .i64 0, .int .i64 1, .int .i64 0]) ∧ Below w.heap.size w w' := by
  refine (count_in four 4 4 g 0 w (by decide) (by decide) rfl h four_valid (by show houseI four 4 ≠ []; rw [four_house]; decide)).mono ?_
  rintro e w' ⟨Y, t, p, rfl, ⟨h1, h2⟩, h3, hb⟩
  obtain ⟨rfl, rfl⟩ := four_count h1 h2 h3
  exact ⟨rfl, hb⟩

abbrev single : List St := [⟨1, 2, 0, -1⟩]
set_option maxRecDepth 100000 in
theorem single_valid : Valid single := by
  refine ⟨by decide, fun i hi => ?_, fun a b h1 h2 _ => ?_⟩
  · obtain rfl : i = 0 := by simp at hi; omega
    exact ⟨by decide +kernel, by decide +kernel, by decide +kernel, by decide +kernel⟩
  · simp at h2
    omega
theorem single_text : textT single 1 = [121, 51, 32, 48, 32, 45, 49, 10] := by
  show textT single 0 ++ lineT (el single 0) = _
  show [] ++ ([(if (1 : Int) = 0 then 114 else 121), UInt8.ofNat (49 + (2 : Int).toNat), 32] ++ Lib.itoa 0 ++ [32] ++ Lib.itoa (-1) ++ [10]) = _
  rw [dec0, dec1]
  decide
set_option maxRecDepth 100000 in
theorem print1 (g : Nat) (w : World) (ht : TabOn w.heap.size w) (h : ∀ j (h : j < single.length), StAt w g (0 + j * 4) single[j]) :
    Calls Tryz.prog 17 #[.slice (some ⟨g, 0, none⟩) 1 1] w fun e w' => e = .returned (.tuple #[.string ⟨#[121, 51, 32, 48, 32, 45, 49, 10]⟩, .int .i64 0]) ∧ Below w.heap.size w w' := by
  have := print_in single 1 1 g 0 w (by decide) (by decide) (by decide) rfl h single_valid ht
  rw [single_text] at this
  exact this

set_option maxRecDepth 100000 in
set_option maxHeartbeats 1000000 in
theorem at_any (x y X Y : Int) (w : World) (hx : IntKind.i64.wrap (x * 65536) = X) (hy : IntKind.i64.wrap (y * 65536) = Y) :
    Calls Tryz.prog 15 #[.int .i64 x, .int .i64 y] w fun e w' => e = .returned (.agg #[.int .i64 X, .int .i64 Y]) ∧ Below w.heap.size w w' := by
  go_enter Tryz.func15, Tryz.ntmps15
  go_wp2_with fail
  have h0 : (w.alloc (.cells #[.int .i64 X, .int .i64 Y] 37)).cell? ⟨w.heap.size, 0, none⟩ = some (.int .i64 X) := by simp [go_sem]
  have h1 : (w.alloc (.cells #[.int .i64 X, .int .i64 Y] 37)).cell? ⟨w.heap.size, 1, none⟩ = some (.int .i64 Y) := by simp [go_sem]
  exact bodyPost_ret (v := .agg #[.int .i64 X, .int .i64 Y]) (by simp [results, Tryz.results15, go_sem, h0, h1]) rfl ⟨rfl, ka (Below.refl _ _) _⟩

theorem zone_is (x y v : Int) (w : World) (h : zoneS x y = (v, 0)) : Calls Tryz.prog 14 #[.agg #[.int .i64 x, .int .i64 y]] w fun e w' => e = .returned (.tuple #[.int .i64 v, .int .i64 0]) ∧ Below w.heap.size w w' := by
  have := zone_any x y w
  rw [h] at this
  exact this
theorem contact_is (w : World) : Calls Tryz.prog 16 #[.agg #[.int .i64 0, .int .i64 0], .agg #[.int .i64 19005440, .int .i64 0]] w fun e w' => e = .returned (.tuple #[.int .i64 0, .int .i64 0]) ∧ Below w.heap.size w w' := by
  have := sheetContact_all 0 0 19005440 0 w
  rw [show contS 0 0 19005440 0 = (0, 0) by decide +kernel] at this
  exact this
theorem four_new (W : World) : ∀ j (h : j < four.length), StAt (W.alloc (.cells #[.int .i64 0, .int .i64 0, .int .i64 0, .int .i64 0, .int .i64 0, .int .i64 1, .int .i64 0, .int .i64 26214400, .int .i64 1, .int .i64 0, .int .i64 0, .int .i64 65536000, .int .i64 1, .int .i64 1, .int .i64 19660800, .int .i64 0] 39)) W.heap.size (0 + j * 4) four[j] := by
  intro j hj
  rcases below4 hj with rfl | rfl | rfl | rfl <;> exact ⟨⟨by simp [go_sem], by simp [go_sem]⟩, by simp [go_sem], by simp [go_sem]⟩
theorem single_new (W : World) : ∀ j (h : j < single.length), StAt (W.alloc (.cells #[.int .i64 1, .int .i64 2, .int .i64 0, .int .i64 (-1)] 39)) W.heap.size (0 + j * 4) single[j] := by
  intro j hj
  obtain rfl : j = 0 := by simp at hj; omega
  exact ⟨⟨by simp [go_sem], by simp [go_sem]⟩, by simp [go_sem], by simp [go_sem]⟩

set_option maxRecDepth 100000 in
set_option maxHeartbeats 4000000 in
theorem awake_any (w : World) (h : Aw w) : Calls Tryz.prog 5 #[] w fun e w' => e = .returned (.bool true) ∧ Below w.heap.size w w' := by
  have HA := Lib.hid h
  clear h
  go_enter Tryz.func5, Tryz.ntmps5
  go_upto_region 2 with (first | (go_at_call 14; refine (zone_is 0 (129368064) 2 _ (by decide +kernel)).mono ?_; rintro e w2 ⟨rfl, hb⟩; have HB2 := Lib.hid (kc HB1.out hb); clear hb) | (go_at_call 15; refine (at_any 0 1974 0 129368064 _ (by decide +kernel) (by decide +kernel)).mono ?_; rintro e w1 ⟨rfl, hb⟩; have HB1 := Lib.hid (kc (Below.refl _ _) hb); clear hb))
  go_upto_region 3 with (first | (go_at_call 14; refine (zone_is 0 (129368065) 0 _ (by decide +kernel)).mono ?_; rintro e w3 ⟨rfl, hb⟩; have HB3 := Lib.hid (kc HB2.out hb); clear hb))
  go_upto_region 4 with (first | (go_at_call 14; refine (zone_is 0 (-129368065) 1 _ (by decide +kernel)).mono ?_; rintro e w4 ⟨rfl, hb⟩; have HB4 := Lib.hid (kc HB3.out hb); clear hb))
  go_upto_region 5 with (first | (go_at_call 16; refine (contact_is _).mono ?_; rintro e w7 ⟨rfl, hb⟩; have HB7 := Lib.hid (kc HB6.out hb); clear hb) | (go_at_call 15; have HM := HB5; refine (at_any 290 0 19005440 0 _ (by decide +kernel) (by decide +kernel)).mono ?_; clear HM; rintro e w6 ⟨rfl, hb⟩; have HB6 := Lib.hid (kc HB5.out hb); clear hb) | (go_at_call 15; have HM := HB4; refine (at_any 0 0 0 0 _ (by decide +kernel) (by decide +kernel)).mono ?_; clear HM; rintro e w5 ⟨rfl, hb⟩; have HB5 := Lib.hid (kc HB4.out hb); clear hb))
  go_upto_region 6 with (first | (go_at_call 15; have HM := HB10; refine (at_any 300 0 19660800 0 _ (by decide +kernel) (by decide +kernel)).mono ?_; clear HM; rintro e w11 ⟨rfl, hb⟩; have HB11 := Lib.hid (kc HB10.out hb); clear hb) | (go_at_call 15; have HM := HB9; refine (at_any 0 1000 0 65536000 _ (by decide +kernel) (by decide +kernel)).mono ?_; clear HM; rintro e w10 ⟨rfl, hb⟩; have HB10 := Lib.hid (kc HB9.out hb); clear hb) | (go_at_call 15; have HM := HB8; refine (at_any 0 400 0 26214400 _ (by decide +kernel) (by decide +kernel)).mono ?_; clear HM; rintro e w9 ⟨rfl, hb⟩; have HB9 := Lib.hid (kc HB8.out hb); clear hb) | (go_at_call 15; have HM := HB7; refine (at_any 0 0 0 0 _ (by decide +kernel) (by decide +kernel)).mono ?_; clear HM; rintro e w8 ⟨rfl, hb⟩; have HB8 := Lib.hid (kc HB7.out hb); clear hb))
  have HC4 := Lib.hid (count4 w11.heap.size (w11.alloc (.cells #[.int .i64 0, .int .i64 0, .int .i64 0, .int .i64 0, .int .i64 0, .int .i64 1, .int .i64 0, .int .i64 26214400, .int .i64 1, .int .i64 0, .int .i64 0, .int .i64 65536000, .int .i64 1, .int .i64 1, .int .i64 19660800, .int .i64 0] 39)) (four_new w11))
  go_upto_region 7 with (first | (go_at_call 8; refine HC4.out.mono ?_; rintro e w12 ⟨rfl, hb⟩; have HB12 := Lib.hid (kc (ka HB11.out _) hb); clear hb))
  have HC1 := Lib.hid (print1 w12.heap.size (w12.alloc (.cells #[.int .i64 1, .int .i64 2, .int .i64 0, .int .i64 (-1)] 39)) ((HA.out.on (ka HB12.out _)).1) (single_new w12))
  go_upto_region 8 with (first | (go_at_call 17; refine HC1.out.mono ?_; rintro e w13 ⟨rfl, hb⟩; have HB13 := Lib.hid (kc (ka HB12.out _) hb); clear hb))
  have HCP := Lib.hid (parse0 w13 (HA.out.on HB13.out))
  go_upto_region 9 with (first | (go_at_call 18; refine HCP.out.mono ?_; rintro e w14 ⟨rfl, hb⟩; have HB14 := Lib.hid (kc HB13.out hb); clear hb))
  go_wp2_with fail
  go_ret
  exact ⟨rfl, HB14.out⟩

end Go.Proofs.YtfdhgimpdmhdeaaGreatDoor
