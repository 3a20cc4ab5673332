/- The contract of package fixed's Text. Condition: the table that strconv reads holds what its initialiser laid. -/
import Derived.Test.YtebfhjndgfcijaaGreatDoorDecs
import Derived.RangeFuncBox
import Derived.Maps.AppendAt
import Derived.Lib.OthersKept
import Derived.Lib.AppendIntMem
import Derived.Laws.IdiomStrings
import Derived.OwnWalk
import Derived.Deep.Cut
import Derived.StillTailTactics
import Derived.Lib.ItoaLen
namespace Go.Proofs.YtebfhjndgfcijaaGreatDoor
open Go Go.RowKit Go.Shelf
attribute [local go_sem] Oper.semAt_some

theorem infoByte : (Tryz.prog.info? 5).map (fun i => (i.zero, i.size, i.bytes)) = some (some (.int .u8 0), 1, 1) := by kernel_rfl

/-- A decimal digit's byte. -/
def d8 (x : D10) : UInt8 := UInt8.ofNat (48 + x.1)

theorem d8_cell (x : D10) : Lib.byteCells [d8 x] = [Value.int .u8 (48 + (x.1 : Int))] := by
  have hx := x.2
  have : (d8 x).toNat = 48 + x.1 := by unfold d8; rw [UInt8.toNat_ofNat']; omega
  simp only [Lib.byteCells, List.map_cons, List.map_nil, this]
  congr 2

/-- The table that strconv reads. -/
def TabHere (w : World) : Prop := Lib.TabIs Tryz.prog w "internal/strconv.uint64pow10" .u64 Lib.pow10Tab
theorem TabHere.on {w w' : World} (h : TabHere w) (hb : Below w.heap.size w w') : TabHere w' := Lib.tabBelow_of_tabIs h w' hb

/-- A text that is being built: its box, and the bytes that it owns. -/
def TX (n : Nat) (l : List UInt8) (w W : World) (v : Value) : Prop := Boxed W n 87 v ∧ W.ownsRow n 5 1 v l.length (Lib.byteCells l) ∧ Below n w W

theorem TX.put {n : Nat} {l m : List UInt8} {w W w1 : World} {v v' : Value} (h : TX n l w W v) (hb : Boxed w1 n 87 v) (ho : w1.ownsRow n 5 1 v' m.length (Lib.byteCells m)) (hB : Below n W w1) :
    TX n m w (w1.setCell ⟨n, 0, none⟩ v') v' :=
  ⟨hb.set v', ho.kept (grownBy_setCell' w1 n v') (.inr (hb.not_row (by decide) ho).symm), (h.2.2.trans hB).setCell (Nat.le_refl _) _⟩

theorem TX.drewn {n : Nat} {l : List UInt8} {w W : World} {v : Value} (h : TX n l w W v) : TX n l w W.drew v := ⟨h.1, h.2.1.drew, h.2.2.drew⟩
theorem row_form {W : World} {n k : Nat} {v : Value} {xs : List Value} (h : W.ownsRow n 5 1 v k xs) (hk : 0 < k) : ∃ g cap, v = .slice (some ⟨g, 0, none⟩) k cap := by
  obtain ⟨j, rfl⟩ : ∃ j, k = j + 1 := ⟨k - 1, by omega⟩
  exact ownsRow_succ h
theorem decDigits_pos (q : Nat) : 0 < (Lib.decDigits q).length := by
  unfold Lib.decDigits
  split
  · exact Nat.zero_lt_one
  · rw [List.length_append]; exact Nat.lt_of_lt_of_le Nat.zero_lt_one (Nat.le_add_left _ _)

set_option maxHeartbeats 1000000 in
theorem appu_in (q : Nat) (sv : Value) (w : World) (R : Value → World → Prop)
    (c : Calls Tryz.prog 122 #[sv, .int .u64 q, .int .i64 10] w fun e w' => ∃ v', e = .returned v' ∧ R v' w') :
    Calls Tryz.prog 55 #[sv, .int .u64 q, .int .i64 10] w fun e w' => ∃ v', e = .returned v' ∧ R v' w' := by
  have C := Lib.hid c
  clear c
  go_enter Tryz.func55, Tryz.ntmps55
  go_wp2_with (go_at_call 122; refine C.out.mono ?_; rintro e w1 ⟨v', rfl, hb1⟩)
  go_ret
  exact ⟨v', rfl, hb1⟩

theorem appu_any (q : Nat) (hq : q < 18446744073709551616) (n : Nat) (l : List UInt8) (hl : l.length + 20 ≤ 140737488355328) (w W : World) (v : Value) (h : TX n l w W v) (hn : n ≤ W.heap.size) (ht : TabHere W) :
    Calls Tryz.prog 55 #[v, .int .u64 q, .int .i64 10] W fun e w' => ∃ v', e = .returned v' ∧
      (Boxed w' n 87 v ∧ w'.ownsRow n 5 1 v' (l ++ Lib.decDigits q).length (Lib.byteCells (l ++ Lib.decDigits q)) ∧ Below n W w') := by
  have key : Calls Tryz.prog 122 #[v, .int .u64 q, .int .i64 10] W fun e w' => ∃ v', e = .returned v' ∧ w'.ownsRow n 5 1 v' (l.length + (Lib.decDigits q).length) (Lib.byteCells l ++ Lib.byteCells (Lib.decDigits q)) ∧ Below n W w' ∧ Lib.OthersKept 5 none W w' := by
    by_cases hs : q < 100
    · exact Tryz.internal_strconv_AppendUint_10_small n l.length q hs v _ W h.2.1 hn hl
    · exact Tryz.internal_strconv_AppendUint_10_big n l.length q (by omega) hq v _ W h.2.1 hn hl ht
  refine appu_in q v W (fun v' w' => Boxed w' n 87 v ∧ w'.ownsRow n 5 1 v' (l ++ Lib.decDigits q).length (Lib.byteCells (l ++ Lib.decDigits q)) ∧ Below n W w') (key.mono ?_)
  rintro e w' ⟨v', rfl, ho, hb, hk⟩
  refine ⟨v', rfl, hk n _ h.1 (by simp) (fun c fz hc => by cases hc), ?_, hb⟩
  rw [List.length_append, show Lib.byteCells (l ++ Lib.decDigits q) = Lib.byteCells l ++ Lib.byteCells (Lib.decDigits q) by simp [Lib.byteCells]]
  exact ho

set_option maxRecDepth 100000 in
set_option maxHeartbeats 2000000 in
theorem text_nf (a U Q P : Int) (q p : Nat) (w : World) (ht : TabHere w) (hp : p < 65536)
    (cc : ∀ w, Calls Tryz.prog 54 #[.int .i64 a] w fun e w' => e = .returned (.int .i64 0) ∧ w = w')
    (cs : ∀ w, Calls Tryz.prog 41 #[.int .i64 a] w fun e w' => e = .returned (.int .u64 U) ∧ w = w')
    (hU : U / 65536 = Q) (hUt : IntKind.u64.wrap (U.tdiv 65536) = Q) (hqb : q < 18446744073709551616) (hU2 : U % 65536 = P) (hQ : (q : Int) = Q) (hP : (p : Int) = P) (hn : a < 0) (h0 : 0 < P)
    (L : List UInt8) (hL : [45] ++ Lib.decDigits q = L) (hL30 : L.length ≤ 30) :
    CallsIn Fence.wide 3 Tryz.prog 9 #[.int .i64 a] w fun e W' => e = .returned (.string ⟨(L ++ [46] ++ (dL p).map d8).toArray⟩) ∧ Below w.heap.size w W' := by
  obtain ⟨i0, hi, hz0, hz1, hz2⟩ := info_parts infoByte
  have CC := Lib.hid cc
  have CS := Lib.hid cs
  have HT := Lib.hid ht
  have HP := Lib.hid hp
  have HQB := Lib.hid hqb
  have HL := Lib.hid hL
  clear cc cs ht hp hqb hL
  refine callsIn_of_wp_marks Tryz.func9 rfl trivial ?_ rfl
  simp only [Tryz.ntmps9, List.size_toArray, List.length_cons, List.length_nil, Nat.reduceAdd, Nat.reduceSub, Array.replicate_succ, Array.replicate_zero, List.push_toArray, List.append_toArray, List.nil_append, List.cons_append]
  refine wpIn_wide.2 ?_
  obtain ⟨n, hnn⟩ : ∃ n, w.heap.size = n := ⟨_, rfl⟩
  have hT0 : TX n [] w (w.alloc (.cells #[.slice none 0 0] 87)) (.slice none 0 0) := by
    subst hnn
    exact ⟨Boxed.new w _ _, World.ownsRow_nil _ _ _ _, (Below.refl _ _).alloc (Nat.le_refl _) _⟩
  go_upto_region 5 with (go_at_call 54; refine (CC.out _).mono ?_; rintro e w' ⟨rfl, rfl⟩)
  obtain ⟨W0, hW0⟩ : ∃ W0, w.alloc (.cells #[.slice none 0 0] 87) = W0 := ⟨_, rfl⟩
  rw [hW0] at hT0 ⊢
  obtain ⟨hv, hrow, hB0⟩ := hT0
  have hle : n ≤ W0.heap.size := Nat.le_of_lt hv.lt
  have hvc := hv.cell
  go_upto_region 6 with (at_builtin; refine wpList_append_own _ rfl _ _ 87 rfl n 5 i0 (.int .u8 0) 1 1 Tryz.underlying87 hi hz0 hz1 hz2 rfl (by decide) _ _ _ rfl (hrow.alloc _) ⟨W0.heap.size, 0, none⟩ 1 1 [Value.int .u8 45] rfl rfl (cell_one_new _ _ _) (by simp [Value.oneCell']) (by simp [maxLen]) (by simp) (by simp <;> omega) ?_; intro v' w1 hown' hgrow _; obtain ⟨g', cap', rfl⟩ := ownsRow_succ hown'; obtain ⟨hv1, hv2, hr2, hk2, hb2⟩ := hv.appended (by decide) hrow hle (Nat.le_refl _) hown' hgrow; have hc1 := hv1.cell; have hf1 := hv1.frozen)
  have hT1 : TX n [45] w (w1.setCell ⟨n, 0, none⟩ (.slice (some ⟨g', 0, none⟩) 1 cap')) (.slice (some ⟨g', 0, none⟩) 1 cap') := ⟨hv2, hr2, hB0.trans hb2⟩
  obtain ⟨W1, hW1⟩ : ∃ W1, w1.setCell ⟨n, 0, none⟩ (.slice (some ⟨g', 0, none⟩) 1 cap') = W1 := ⟨_, rfl⟩
  obtain ⟨v1, hv1e⟩ : ∃ v1, Value.slice (some ⟨g', 0, none⟩) 1 cap' = v1 := ⟨_, rfl⟩
  rw [hW1] at hT1 ⊢
  rw [hv1e] at hT1 ⊢
  clear hv2 hr2 hb2 hk2 hc1 hf1 hv1 hown' hgrow hW0 hW1 hv hrow hvc hB0 hle hv1e
  have hT1d := hT1.drewn
  have HTab : Hid (TabHere W1.drew) := by
    subst hnn
    exact HT.out.on hT1d.2.2
  have HU : Hid (∀ W : World, TX n [45] w W v1 → n ≤ W.heap.size → TabHere W → Calls Tryz.prog 55 #[v1, .int .u64 q, .int .i64 10] W fun e w' => ∃ v', e = .returned v' ∧ (Boxed w' n 87 v1 ∧ w'.ownsRow n 5 1 v' L.length (Lib.byteCells L) ∧ Below n W w')) := by
    intro W h1 h2 h3
    have h := appu_any q HQB.out n [45] (by decide) w W v1 h1 h2 h3
    rw [HL.out] at h
    exact h
  have hLp : 0 < L.length := by rw [← HL.out, List.length_append]; have := decDigits_pos q; omega
  refine wp_region_still_tail 4 (by kernel_rfl) (by kernel_rfl) ?_
  simp only [List.take_succ_cons, List.take_zero, List.drop_succ_cons, List.drop_zero]
  change wpStill _ _ W1.drew (fun a' => wpList _ _ _ _ a' W1.drew) _ _
  obtain ⟨W1d, hW1d⟩ : ∃ W, W1.drew = W := ⟨_, rfl⟩
  rw [hW1d] at hT1d HTab ⊢
  have hc1d := hT1d.1.cell
  have hle1d : n ≤ W1d.heap.size := Nat.le_of_lt hT1d.1.lt
  clear hW1d hT1
  still_step
  still_step
  still_call ((CS.out _).mono (by rintro e w' ⟨rfl, rfl⟩; exact ⟨rfl, rfl⟩))
  still_step
  refine wpStill_nil ?_
  
  go_upto_region 9 with (first | (go_at_call 41; refine (CS.out _).mono ?_; rintro e w' ⟨rfl, rfl⟩) | (go_at_call 55; rw [← hQ]; refine (HU.out _ hT1d hle1d HTab.out).mono ?_; rintro e w2 ⟨v2, rfl, hb2, ho2, hB2⟩; obtain ⟨g2, cap2, rfl⟩ := row_form ho2 hLp; have hc2 := hb2.cell; have hf2 := hb2.frozen))
  have hT2 := hT1d.put hb2 ho2 hB2
  obtain ⟨W2, hW2⟩ : ∃ W, w2.setCell ⟨n, 0, none⟩ (.slice (some ⟨g2, 0, none⟩) L.length cap2) = W := ⟨_, rfl⟩
  obtain ⟨v2, hv2e⟩ : ∃ v, Value.slice (some ⟨g2, 0, none⟩) L.length cap2 = v := ⟨_, rfl⟩
  rw [hW2] at hT2 ⊢
  rw [hv2e] at hT2 ⊢
  clear hW2 hv2e hb2 ho2 hB2 hc2 hf2 hT1d hc1d hle1d HTab HU
  obtain ⟨hv, hrow, hB0⟩ := hT2
  have hle : n ≤ W2.heap.size := Nat.le_of_lt hv.lt
  have hvc := hv.cell
  go_upto_region 10 with (at_builtin; refine wpList_append_own _ rfl _ _ 87 rfl n 5 i0 (.int .u8 0) 1 1 Tryz.underlying87 hi hz0 hz1 hz2 rfl (by decide) _ _ _ rfl (hrow.alloc _) ⟨W2.heap.size, 0, none⟩ 1 1 [Value.int .u8 46] rfl rfl (cell_one_new _ _ _) (by simp [Value.oneCell']) (by simp only [maxLen]; omega) (by omega) (by simp <;> omega) ?_; intro v' w1 hown' hgrow _; obtain ⟨g', cap', rfl⟩ := ownsRow_succ hown'; obtain ⟨hv1, hv2, hr2, hk2, hb2⟩ := hv.appended (by decide) hrow hle (Nat.le_refl _) hown' hgrow; have hc1 := hv1.cell; have hf1 := hv1.frozen)
  have hT3 : TX n (L ++ [46]) w (w1.setCell ⟨n, 0, none⟩ (.slice (some ⟨g', 0, none⟩) (L.length + 1) cap')) (.slice (some ⟨g', 0, none⟩) (L.length + 1) cap') := by
    refine ⟨hv2, ?_, hB0.trans hb2⟩
    rw [List.length_append, show Lib.byteCells (L ++ [46]) = Lib.byteCells L ++ [.int .u8 46] by simp [Lib.byteCells]]
    exact hr2
  obtain ⟨W3, hW3⟩ : ∃ W, w1.setCell ⟨n, 0, none⟩ (.slice (some ⟨g', 0, none⟩) (L.length + 1) cap') = W := ⟨_, rfl⟩
  obtain ⟨v3, hv3e⟩ : ∃ v, Value.slice (some ⟨g', 0, none⟩) (L.length + 1) cap' = v := ⟨_, rfl⟩
  rw [hW3] at hT3 ⊢
  rw [hv3e] at hT3 ⊢
  clear hv2 hr2 hb2 hk2 hc1 hf1 hv1 hown' hgrow hW3 hv hrow hvc hB0 hle hv3e
  obtain ⟨M, hM⟩ : ∃ M, L ++ [46] = M := ⟨_, rfl⟩
  have hM31 : M.length ≤ 31 := by rw [← hM, List.length_append]; simp only [List.length_cons, List.length_nil]; omega
  rw [hM] at hT3
  go_wp2_with (go_at_call 56; refine (callsIn_wide.1 (decimals_any P W3)).mono ?_; rintro e w' ⟨rfl, rfl⟩)
  refine (wpIn_wide (n := 3)).1 ?_
  have hbx : Boxed (W3.alloc (.cells #[.int .u64 P] 66)) W3.heap.size 66 (.int .u64 P) := Boxed.new W3 _ _
  obtain ⟨W4, hW4⟩ : ∃ W, W3.alloc (.cells #[.int .u64 P] 66) = W := ⟨_, rfl⟩
  have hT4 : TX n M w W4 v3 := by rw [← hW4]; exact ⟨hT3.1.alloc _, hT3.2.1.alloc _, hT3.2.2.alloc (Nat.le_of_lt hT3.1.lt) _⟩
  have hn3 : n < W3.heap.size := hT3.1.lt
  obtain ⟨b, hb⟩ : ∃ b, W3.heap.size = b := ⟨_, rfl⟩
  rw [hb] at hbx hn3 ⊢
  rw [hW4] at hbx ⊢
  have hsz : b + 1 = W4.heap.size := by rw [← hW4, ← hb, World.size_alloc]
  have hcell : W4.cell? ⟨b, 0, none⟩ = some (.int .u64 (p : Int)) := by rw [hP]; exact hbx.cell
  clear hT3 hW4 hb
  refine wpIn_rangeFunc_ownF rfl (by omega) (gf := 123) (lb := #[.pointer (some ⟨b, 0, none⟩)]) rfl trivial (enters_of Tryz.func123 (by kernel_rfl) rfl)
    (decimals_stops 2 (by omega) b p HP.out W4 hcell) keepsBox_t keepsBox_b (Below.refl _ _) (fun _ => rfl)
    (fun pre W => ((∃ v, Boxed W n 87 v ∧ W.ownsRow n 5 1 v (M ++ pre.map d8).length (Lib.byteCells (M ++ pre.map d8)) ∧ True) ∧ Boxed W b 66 (.int .u64 P)) ∧ Below n w W)
    (fun _ _ _ => False) ?hI (fun _ _ _ _ _ hs _ _ => hs)
    ⟨⟨⟨v3, hT4.1, by simpa using hT4.2.1, trivial⟩, hbx⟩, hT4.2.2⟩
    ?a1 ?assign ?body ?done ?stop
  case assign =>
    intro l x W K hK
    gi_wp2
    exact hK
  case hI =>
    exact OwnFrom.and (OwnFrom.and (Own.from (holdsRow_own n n 87 5 1 (fun pre : List D10 => (M ++ pre.map d8).length) (fun pre => Lib.byteCells (M ++ pre.map d8)) (fun _ _ => True)) _) (Own.from (boxed_own b 66 (fun _ => .int .u64 P)) _)) (ownFrom_below (by rw [hnn]; exact Nat.le_refl _) (by omega))
  case body =>
    rintro l pre x W ⟨⟨⟨v, hv, hrow, -⟩, hbw⟩, hB⟩ hlen
    have hlen' := dL_length p
    have hle : n ≤ W.heap.size := Nat.le_of_lt hv.lt
    have hvc := hv.cell
    have hnum : (M ++ pre.map d8).length ≤ 60 := by rw [List.length_append, List.length_map]; omega
    obtain ⟨X, hX⟩ : ∃ X : Int, 48 + (x.1 : Int) = X := ⟨_, rfl⟩
    rw [hX]
    have h8 : Lib.byteCells [d8 x] = [Value.int .u8 X] := by rw [← hX]; exact d8_cell x
    obtain ⟨T8, hT8⟩ : ∃ T, M ++ pre.map d8 = T := ⟨_, rfl⟩
    rw [hT8] at hrow hnum
    have H8 := Lib.hid h8
    have HE := Lib.hid hT8
    clear h8 hT8 hX hlen hlen'
    gi_wp2_with (gi_at_builtin; refine wpListIn_append_own _ rfl _ _ 87 rfl n 5 i0 (.int .u8 0) 1 1 Tryz.underlying87 hi hz0 hz1 hz2 rfl (by decide) _ _ _ rfl (hrow.alloc _) ⟨W.heap.size, 0, none⟩ 1 1 [Value.int .u8 X] rfl rfl (cell_one_new _ _ _) (by simp [Value.oneCell']) (by simp only [maxLen]; omega) (by omega) (by simp <;> omega) ?_; intro v' w1 hown' hgrow _; obtain ⟨g', cap', rfl⟩ := ownsRow_succ hown'; obtain ⟨hv1, hv2, hr2, hk2, hb2⟩ := hv.appended (by decide) hrow hle (Nat.le_refl _) hown' hgrow; have hc1 := hv1.cell; have hf1 := hv1.frozen)
    have hbw1 : Boxed w1 b 66 (.int .u64 P) := (hbw.alloc _).kept hgrow (hbw.not_row (by decide) hrow)
    have hbw2 := hbw1.other (show b ≠ n by omega) (.slice (some ⟨g', 0, none⟩) (T8.length + 1) cap')
    refine ⟨hk2, fun u hu => ?_, ⟨⟨_, hv2, ?_, trivial⟩, hbw2⟩, hB.trans hb2⟩
    · rw [hbw.cell] at hu
      cases hu
      exact hbw2.cell
    · rw [List.map_append, ← List.append_assoc, HE.out, List.length_append, show Lib.byteCells (T8 ++ List.map d8 [x]) = Lib.byteCells T8 ++ [Value.int .u8 X] by rw [← H8.out]; simp [Lib.byteCells]]
      exact hr2
  case done =>
    rintro D ys W hD rfl ⟨⟨⟨v, hv, hrow, -⟩, hbw⟩, hB⟩ hK
    obtain ⟨T8, hT8⟩ : ∃ T, M ++ (dL p).map d8 = T := ⟨_, rfl⟩
    rw [hT8] at hrow
    have hpos : 0 < T8.length := by rw [← hT8, ← hM, List.length_append]; rw [List.length_append]; omega
    have hvc := hv.cell
    obtain ⟨g, cap, rfl⟩ := row_form hrow hpos
    have hcv := run_convert_bytes_back (P := Tryz.prog) W 87 9 5 ⟨g, 0, none⟩ cap T8 Tryz.underlying87 Tryz.underlying5 Tryz.underlying9 (fun j hj => hrow.cells (g := g) rfl j _ (by simp [Lib.byteCells, hj]))
    have HE := Lib.hid hT8
    have HB := Lib.hid hB
    have HM := Lib.hid hM
    clear hT8 hpos hB hM hrow
    go_wp2
    refine ⟨by simp, .inl ⟨_, _, rfl, run_takeDeferred hK, ?_⟩⟩
    refine ⟨_, results_tmp rfl _ _ _, ?_, by rw [hnn]; exact HB.out.trans (belowK_b (w := w) (by omega) W D _ _ (by omega) hK rfl rfl)⟩
    rw [← HE.out, ← HM.out]
    simp
  case stop =>
    rintro D c pre W _ _ h _
    exact h.elim

set_option maxRecDepth 100000 in
set_option maxHeartbeats 2000000 in
theorem text_n (a U Q P : Int) (q p : Nat) (w : World) (ht : TabHere w) (hp : p < 65536)
    (cc : ∀ w, Calls Tryz.prog 54 #[.int .i64 a] w fun e w' => e = .returned (.int .i64 0) ∧ w = w')
    (cs : ∀ w, Calls Tryz.prog 41 #[.int .i64 a] w fun e w' => e = .returned (.int .u64 U) ∧ w = w')
    (hU : U / 65536 = Q) (hUt : IntKind.u64.wrap (U.tdiv 65536) = Q) (hqb : q < 18446744073709551616) (hU2 : U % 65536 = P) (hQ : (q : Int) = Q) (hP : (p : Int) = P) (hn : a < 0) (h0 : P ≤ 0)
    (L : List UInt8) (hL : [45] ++ Lib.decDigits q = L) (hL30 : L.length ≤ 30) :
    CallsIn Fence.wide 3 Tryz.prog 9 #[.int .i64 a] w fun e W' => e = .returned (.string ⟨(L ++ (dL p).map d8).toArray⟩) ∧ Below w.heap.size w W' := by
  obtain ⟨i0, hi, hz0, hz1, hz2⟩ := info_parts infoByte
  have CC := Lib.hid cc
  have CS := Lib.hid cs
  have HT := Lib.hid ht
  have HP := Lib.hid hp
  have HQB := Lib.hid hqb
  have HL := Lib.hid hL
  clear cc cs ht hp hqb hL
  refine callsIn_of_wp_marks Tryz.func9 rfl trivial ?_ rfl
  simp only [Tryz.ntmps9, List.size_toArray, List.length_cons, List.length_nil, Nat.reduceAdd, Nat.reduceSub, Array.replicate_succ, Array.replicate_zero, List.push_toArray, List.append_toArray, List.nil_append, List.cons_append]
  refine wpIn_wide.2 ?_
  obtain ⟨n, hnn⟩ : ∃ n, w.heap.size = n := ⟨_, rfl⟩
  have hT0 : TX n [] w (w.alloc (.cells #[.slice none 0 0] 87)) (.slice none 0 0) := by
    subst hnn
    exact ⟨Boxed.new w _ _, World.ownsRow_nil _ _ _ _, (Below.refl _ _).alloc (Nat.le_refl _) _⟩
  go_upto_region 5 with (go_at_call 54; refine (CC.out _).mono ?_; rintro e w' ⟨rfl, rfl⟩)
  obtain ⟨W0, hW0⟩ : ∃ W0, w.alloc (.cells #[.slice none 0 0] 87) = W0 := ⟨_, rfl⟩
  rw [hW0] at hT0 ⊢
  obtain ⟨hv, hrow, hB0⟩ := hT0
  have hle : n ≤ W0.heap.size := Nat.le_of_lt hv.lt
  have hvc := hv.cell
  go_upto_region 6 with (at_builtin; refine wpList_append_own _ rfl _ _ 87 rfl n 5 i0 (.int .u8 0) 1 1 Tryz.underlying87 hi hz0 hz1 hz2 rfl (by decide) _ _ _ rfl (hrow.alloc _) ⟨W0.heap.size, 0, none⟩ 1 1 [Value.int .u8 45] rfl rfl (cell_one_new _ _ _) (by simp [Value.oneCell']) (by simp [maxLen]) (by simp) (by simp <;> omega) ?_; intro v' w1 hown' hgrow _; obtain ⟨g', cap', rfl⟩ := ownsRow_succ hown'; obtain ⟨hv1, hv2, hr2, hk2, hb2⟩ := hv.appended (by decide) hrow hle (Nat.le_refl _) hown' hgrow; have hc1 := hv1.cell; have hf1 := hv1.frozen)
  have hT1 : TX n [45] w (w1.setCell ⟨n, 0, none⟩ (.slice (some ⟨g', 0, none⟩) 1 cap')) (.slice (some ⟨g', 0, none⟩) 1 cap') := ⟨hv2, hr2, hB0.trans hb2⟩
  obtain ⟨W1, hW1⟩ : ∃ W1, w1.setCell ⟨n, 0, none⟩ (.slice (some ⟨g', 0, none⟩) 1 cap') = W1 := ⟨_, rfl⟩
  obtain ⟨v1, hv1e⟩ : ∃ v1, Value.slice (some ⟨g', 0, none⟩) 1 cap' = v1 := ⟨_, rfl⟩
  rw [hW1] at hT1 ⊢
  rw [hv1e] at hT1 ⊢
  clear hv2 hr2 hb2 hk2 hc1 hf1 hv1 hown' hgrow hW0 hW1 hv hrow hvc hB0 hle hv1e
  have hT1d := hT1.drewn
  have HTab : Hid (TabHere W1.drew) := by
    subst hnn
    exact HT.out.on hT1d.2.2
  have HU : Hid (∀ W : World, TX n [45] w W v1 → n ≤ W.heap.size → TabHere W → Calls Tryz.prog 55 #[v1, .int .u64 q, .int .i64 10] W fun e w' => ∃ v', e = .returned v' ∧ (Boxed w' n 87 v1 ∧ w'.ownsRow n 5 1 v' L.length (Lib.byteCells L) ∧ Below n W w')) := by
    intro W h1 h2 h3
    have h := appu_any q HQB.out n [45] (by decide) w W v1 h1 h2 h3
    rw [HL.out] at h
    exact h
  have hLp : 0 < L.length := by rw [← HL.out, List.length_append]; have := decDigits_pos q; omega
  refine wp_region_still_tail 4 (by kernel_rfl) (by kernel_rfl) ?_
  simp only [List.take_succ_cons, List.take_zero, List.drop_succ_cons, List.drop_zero]
  change wpStill _ _ W1.drew (fun a' => wpList _ _ _ _ a' W1.drew) _ _
  obtain ⟨W1d, hW1d⟩ : ∃ W, W1.drew = W := ⟨_, rfl⟩
  rw [hW1d] at hT1d HTab ⊢
  have hc1d := hT1d.1.cell
  have hle1d : n ≤ W1d.heap.size := Nat.le_of_lt hT1d.1.lt
  clear hW1d hT1
  still_step
  still_step
  still_call ((CS.out _).mono (by rintro e w' ⟨rfl, rfl⟩; exact ⟨rfl, rfl⟩))
  still_step
  refine wpStill_nil ?_
  
  go_upto_region 10 with (first | (go_at_call 41; refine (CS.out _).mono ?_; rintro e w' ⟨rfl, rfl⟩) | (go_at_call 55; rw [← hQ]; refine (HU.out _ hT1d hle1d HTab.out).mono ?_; rintro e w2 ⟨v2, rfl, hb2, ho2, hB2⟩; obtain ⟨g2, cap2, rfl⟩ := row_form ho2 hLp; have hc2 := hb2.cell; have hf2 := hb2.frozen))
  have hT2 := hT1d.put hb2 ho2 hB2
  obtain ⟨W2, hW2⟩ : ∃ W, w2.setCell ⟨n, 0, none⟩ (.slice (some ⟨g2, 0, none⟩) L.length cap2) = W := ⟨_, rfl⟩
  obtain ⟨v2, hv2e⟩ : ∃ v, Value.slice (some ⟨g2, 0, none⟩) L.length cap2 = v := ⟨_, rfl⟩
  rw [hW2] at hT2 ⊢
  rw [hv2e] at hT2 ⊢
  clear hW2 hv2e hb2 ho2 hB2 hc2 hf2 hT1d hc1d hle1d HTab HU
  have hT3 := hT2
  obtain ⟨W3, hW3⟩ : ∃ W, W2 = W := ⟨_, rfl⟩
  obtain ⟨v3, hv3⟩ : ∃ v, v2 = v := ⟨_, rfl⟩
  rw [hW3, hv3] at hT3
  rw [hW3]
  obtain ⟨M, hM⟩ : ∃ M, L = M := ⟨_, rfl⟩
  have hM31 : M.length ≤ 31 := by rw [← hM]; omega
  rw [hM] at hT3
  clear hW3 hv3 hT2
  go_wp2_with (go_at_call 56; refine (callsIn_wide.1 (decimals_any P W3)).mono ?_; rintro e w' ⟨rfl, rfl⟩)
  refine (wpIn_wide (n := 3)).1 ?_
  have hbx : Boxed (W3.alloc (.cells #[.int .u64 P] 66)) W3.heap.size 66 (.int .u64 P) := Boxed.new W3 _ _
  obtain ⟨W4, hW4⟩ : ∃ W, W3.alloc (.cells #[.int .u64 P] 66) = W := ⟨_, rfl⟩
  have hT4 : TX n M w W4 v3 := by rw [← hW4]; exact ⟨hT3.1.alloc _, hT3.2.1.alloc _, hT3.2.2.alloc (Nat.le_of_lt hT3.1.lt) _⟩
  have hn3 : n < W3.heap.size := hT3.1.lt
  obtain ⟨b, hb⟩ : ∃ b, W3.heap.size = b := ⟨_, rfl⟩
  rw [hb] at hbx hn3 ⊢
  rw [hW4] at hbx ⊢
  have hsz : b + 1 = W4.heap.size := by rw [← hW4, ← hb, World.size_alloc]
  have hcell : W4.cell? ⟨b, 0, none⟩ = some (.int .u64 (p : Int)) := by rw [hP]; exact hbx.cell
  clear hT3 hW4 hb
  refine wpIn_rangeFunc_ownF rfl (by omega) (gf := 123) (lb := #[.pointer (some ⟨b, 0, none⟩)]) rfl trivial (enters_of Tryz.func123 (by kernel_rfl) rfl)
    (decimals_stops 2 (by omega) b p HP.out W4 hcell) keepsBox_t keepsBox_b (Below.refl _ _) (fun _ => rfl)
    (fun pre W => ((∃ v, Boxed W n 87 v ∧ W.ownsRow n 5 1 v (M ++ pre.map d8).length (Lib.byteCells (M ++ pre.map d8)) ∧ True) ∧ Boxed W b 66 (.int .u64 P)) ∧ Below n w W)
    (fun _ _ _ => False) ?hI (fun _ _ _ _ _ hs _ _ => hs)
    ⟨⟨⟨v3, hT4.1, by simpa using hT4.2.1, trivial⟩, hbx⟩, hT4.2.2⟩
    ?a1 ?assign ?body ?done ?stop
  case assign =>
    intro l x W K hK
    gi_wp2
    exact hK
  case hI =>
    exact OwnFrom.and (OwnFrom.and (Own.from (holdsRow_own n n 87 5 1 (fun pre : List D10 => (M ++ pre.map d8).length) (fun pre => Lib.byteCells (M ++ pre.map d8)) (fun _ _ => True)) _) (Own.from (boxed_own b 66 (fun _ => .int .u64 P)) _)) (ownFrom_below (by rw [hnn]; exact Nat.le_refl _) (by omega))
  case body =>
    rintro l pre x W ⟨⟨⟨v, hv, hrow, -⟩, hbw⟩, hB⟩ hlen
    have hlen' := dL_length p
    have hle : n ≤ W.heap.size := Nat.le_of_lt hv.lt
    have hvc := hv.cell
    have hnum : (M ++ pre.map d8).length ≤ 60 := by rw [List.length_append, List.length_map]; omega
    obtain ⟨X, hX⟩ : ∃ X : Int, 48 + (x.1 : Int) = X := ⟨_, rfl⟩
    rw [hX]
    have h8 : Lib.byteCells [d8 x] = [Value.int .u8 X] := by rw [← hX]; exact d8_cell x
    obtain ⟨T8, hT8⟩ : ∃ T, M ++ pre.map d8 = T := ⟨_, rfl⟩
    rw [hT8] at hrow hnum
    have H8 := Lib.hid h8
    have HE := Lib.hid hT8
    clear h8 hT8 hX hlen hlen'
    gi_wp2_with (gi_at_builtin; refine wpListIn_append_own _ rfl _ _ 87 rfl n 5 i0 (.int .u8 0) 1 1 Tryz.underlying87 hi hz0 hz1 hz2 rfl (by decide) _ _ _ rfl (hrow.alloc _) ⟨W.heap.size, 0, none⟩ 1 1 [Value.int .u8 X] rfl rfl (cell_one_new _ _ _) (by simp [Value.oneCell']) (by simp only [maxLen]; omega) (by omega) (by simp <;> omega) ?_; intro v' w1 hown' hgrow _; obtain ⟨g', cap', rfl⟩ := ownsRow_succ hown'; obtain ⟨hv1, hv2, hr2, hk2, hb2⟩ := hv.appended (by decide) hrow hle (Nat.le_refl _) hown' hgrow; have hc1 := hv1.cell; have hf1 := hv1.frozen)
    have hbw1 : Boxed w1 b 66 (.int .u64 P) := (hbw.alloc _).kept hgrow (hbw.not_row (by decide) hrow)
    have hbw2 := hbw1.other (show b ≠ n by omega) (.slice (some ⟨g', 0, none⟩) (T8.length + 1) cap')
    refine ⟨hk2, fun u hu => ?_, ⟨⟨_, hv2, ?_, trivial⟩, hbw2⟩, hB.trans hb2⟩
    · rw [hbw.cell] at hu
      cases hu
      exact hbw2.cell
    · rw [List.map_append, ← List.append_assoc, HE.out, List.length_append, show Lib.byteCells (T8 ++ List.map d8 [x]) = Lib.byteCells T8 ++ [Value.int .u8 X] by rw [← H8.out]; simp [Lib.byteCells]]
      exact hr2
  case done =>
    rintro D ys W hD rfl ⟨⟨⟨v, hv, hrow, -⟩, hbw⟩, hB⟩ hK
    obtain ⟨T8, hT8⟩ : ∃ T, M ++ (dL p).map d8 = T := ⟨_, rfl⟩
    rw [hT8] at hrow
    have hpos : 0 < T8.length := by rw [← hT8, ← hM, List.length_append]; omega
    have hvc := hv.cell
    obtain ⟨g, cap, rfl⟩ := row_form hrow hpos
    have hcv := run_convert_bytes_back (P := Tryz.prog) W 87 9 5 ⟨g, 0, none⟩ cap T8 Tryz.underlying87 Tryz.underlying5 Tryz.underlying9 (fun j hj => hrow.cells (g := g) rfl j _ (by simp [Lib.byteCells, hj]))
    have HE := Lib.hid hT8
    have HB := Lib.hid hB
    have HM := Lib.hid hM
    clear hT8 hpos hB hM hrow
    go_wp2
    refine ⟨by simp, .inl ⟨_, _, rfl, run_takeDeferred hK, ?_⟩⟩
    refine ⟨_, results_tmp rfl _ _ _, ?_, by rw [hnn]; exact HB.out.trans (belowK_b (w := w) (by omega) W D _ _ (by omega) hK rfl rfl)⟩
    rw [← HE.out, ← HM.out]
    simp
  case stop =>
    rintro D c pre W _ _ h _
    exact h.elim

set_option maxRecDepth 100000 in
set_option maxHeartbeats 2000000 in
theorem text_f (a U Q P : Int) (q p : Nat) (w : World) (ht : TabHere w) (hp : p < 65536)
    (cc : ∀ w, Calls Tryz.prog 54 #[.int .i64 a] w fun e w' => e = .returned (.int .i64 0) ∧ w = w')
    (cs : ∀ w, Calls Tryz.prog 41 #[.int .i64 a] w fun e w' => e = .returned (.int .u64 U) ∧ w = w')
    (hU : U / 65536 = Q) (hUt : IntKind.u64.wrap (U.tdiv 65536) = Q) (hqb : q < 18446744073709551616) (hU2 : U % 65536 = P) (hQ : (q : Int) = Q) (hP : (p : Int) = P) (hn : ¬ a < 0) (h0 : 0 < P)
    (L : List UInt8) (hL : [] ++ Lib.decDigits q = L) (hL30 : L.length ≤ 30) :
    CallsIn Fence.wide 3 Tryz.prog 9 #[.int .i64 a] w fun e W' => e = .returned (.string ⟨(L ++ [46] ++ (dL p).map d8).toArray⟩) ∧ Below w.heap.size w W' := by
  obtain ⟨i0, hi, hz0, hz1, hz2⟩ := info_parts infoByte
  have CC := Lib.hid cc
  have CS := Lib.hid cs
  have HT := Lib.hid ht
  have HP := Lib.hid hp
  have HQB := Lib.hid hqb
  have HL := Lib.hid hL
  clear cc cs ht hp hqb hL
  refine callsIn_of_wp_marks Tryz.func9 rfl trivial ?_ rfl
  simp only [Tryz.ntmps9, List.size_toArray, List.length_cons, List.length_nil, Nat.reduceAdd, Nat.reduceSub, Array.replicate_succ, Array.replicate_zero, List.push_toArray, List.append_toArray, List.nil_append, List.cons_append]
  refine wpIn_wide.2 ?_
  obtain ⟨n, hnn⟩ : ∃ n, w.heap.size = n := ⟨_, rfl⟩
  have hT0 : TX n [] w (w.alloc (.cells #[.slice none 0 0] 87)) (.slice none 0 0) := by
    subst hnn
    exact ⟨Boxed.new w _ _, World.ownsRow_nil _ _ _ _, (Below.refl _ _).alloc (Nat.le_refl _) _⟩
  go_upto_region 6 with (go_at_call 54; refine (CC.out _).mono ?_; rintro e w' ⟨rfl, rfl⟩)
  obtain ⟨W1, hW1⟩ : ∃ W1, w.alloc (.cells #[.slice none 0 0] 87) = W1 := ⟨_, rfl⟩
  obtain ⟨v1, hv1e⟩ : ∃ v1, Value.slice none 0 0 = v1 := ⟨_, rfl⟩
  rw [hW1] at hT0 ⊢
  rw [hv1e] at hT0
  have hT1 := hT0
  clear hW1 hT0
  have hT1d := hT1.drewn
  have HTab : Hid (TabHere W1.drew) := by
    subst hnn
    exact HT.out.on hT1d.2.2
  have HU : Hid (∀ W : World, TX n [] w W v1 → n ≤ W.heap.size → TabHere W → Calls Tryz.prog 55 #[v1, .int .u64 q, .int .i64 10] W fun e w' => ∃ v', e = .returned v' ∧ (Boxed w' n 87 v1 ∧ w'.ownsRow n 5 1 v' L.length (Lib.byteCells L) ∧ Below n W w')) := by
    intro W h1 h2 h3
    have h := appu_any q HQB.out n [] (by decide) w W v1 h1 h2 h3
    rw [HL.out] at h
    exact h
  have hLp : 0 < L.length := by rw [← HL.out, List.length_append]; have := decDigits_pos q; omega
  refine wp_region_still_tail 4 (by kernel_rfl) (by kernel_rfl) ?_
  simp only [List.take_succ_cons, List.take_zero, List.drop_succ_cons, List.drop_zero]
  change wpStill _ _ W1.drew (fun a' => wpList _ _ _ _ a' W1.drew) _ _
  obtain ⟨W1d, hW1d⟩ : ∃ W, W1.drew = W := ⟨_, rfl⟩
  rw [hW1d] at hT1d HTab ⊢
  have hc1d := hT1d.1.cell
  have hle1d : n ≤ W1d.heap.size := Nat.le_of_lt hT1d.1.lt
  clear hW1d hT1
  still_step
  still_step
  still_call ((CS.out _).mono (by rintro e w' ⟨rfl, rfl⟩; exact ⟨rfl, rfl⟩))
  still_step
  refine wpStill_nil ?_
  try rw [hv1e]
  go_upto_region 9 with (first | (go_at_call 41; refine (CS.out _).mono ?_; rintro e w' ⟨rfl, rfl⟩) | (go_at_call 55; rw [← hQ]; refine (HU.out _ hT1d hle1d HTab.out).mono ?_; rintro e w2 ⟨v2, rfl, hb2, ho2, hB2⟩; obtain ⟨g2, cap2, rfl⟩ := row_form ho2 hLp; have hc2 := hb2.cell; have hf2 := hb2.frozen))
  have hT2 := hT1d.put hb2 ho2 hB2
  obtain ⟨W2, hW2⟩ : ∃ W, w2.setCell ⟨n, 0, none⟩ (.slice (some ⟨g2, 0, none⟩) L.length cap2) = W := ⟨_, rfl⟩
  obtain ⟨v2, hv2e⟩ : ∃ v, Value.slice (some ⟨g2, 0, none⟩) L.length cap2 = v := ⟨_, rfl⟩
  rw [hW2] at hT2 ⊢
  rw [hv2e] at hT2 ⊢
  clear hW2 hv2e hb2 ho2 hB2 hc2 hf2 hT1d hc1d hle1d HTab HU
  obtain ⟨hv, hrow, hB0⟩ := hT2
  have hle : n ≤ W2.heap.size := Nat.le_of_lt hv.lt
  have hvc := hv.cell
  go_upto_region 10 with (at_builtin; refine wpList_append_own _ rfl _ _ 87 rfl n 5 i0 (.int .u8 0) 1 1 Tryz.underlying87 hi hz0 hz1 hz2 rfl (by decide) _ _ _ rfl (hrow.alloc _) ⟨W2.heap.size, 0, none⟩ 1 1 [Value.int .u8 46] rfl rfl (cell_one_new _ _ _) (by simp [Value.oneCell']) (by simp only [maxLen]; omega) (by omega) (by simp <;> omega) ?_; intro v' w1 hown' hgrow _; obtain ⟨g', cap', rfl⟩ := ownsRow_succ hown'; obtain ⟨hv1, hv2, hr2, hk2, hb2⟩ := hv.appended (by decide) hrow hle (Nat.le_refl _) hown' hgrow; have hc1 := hv1.cell; have hf1 := hv1.frozen)
  have hT3 : TX n (L ++ [46]) w (w1.setCell ⟨n, 0, none⟩ (.slice (some ⟨g', 0, none⟩) (L.length + 1) cap')) (.slice (some ⟨g', 0, none⟩) (L.length + 1) cap') := by
    refine ⟨hv2, ?_, hB0.trans hb2⟩
    rw [List.length_append, show Lib.byteCells (L ++ [46]) = Lib.byteCells L ++ [.int .u8 46] by simp [Lib.byteCells]]
    exact hr2
  obtain ⟨W3, hW3⟩ : ∃ W, w1.setCell ⟨n, 0, none⟩ (.slice (some ⟨g', 0, none⟩) (L.length + 1) cap') = W := ⟨_, rfl⟩
  obtain ⟨v3, hv3e⟩ : ∃ v, Value.slice (some ⟨g', 0, none⟩) (L.length + 1) cap' = v := ⟨_, rfl⟩
  rw [hW3] at hT3 ⊢
  rw [hv3e] at hT3 ⊢
  clear hv2 hr2 hb2 hk2 hc1 hf1 hv1 hown' hgrow hW3 hv hrow hvc hB0 hle hv3e
  obtain ⟨M, hM⟩ : ∃ M, L ++ [46] = M := ⟨_, rfl⟩
  have hM31 : M.length ≤ 31 := by rw [← hM, List.length_append]; simp only [List.length_cons, List.length_nil]; omega
  rw [hM] at hT3
  go_wp2_with (go_at_call 56; refine (callsIn_wide.1 (decimals_any P W3)).mono ?_; rintro e w' ⟨rfl, rfl⟩)
  refine (wpIn_wide (n := 3)).1 ?_
  have hbx : Boxed (W3.alloc (.cells #[.int .u64 P] 66)) W3.heap.size 66 (.int .u64 P) := Boxed.new W3 _ _
  obtain ⟨W4, hW4⟩ : ∃ W, W3.alloc (.cells #[.int .u64 P] 66) = W := ⟨_, rfl⟩
  have hT4 : TX n M w W4 v3 := by rw [← hW4]; exact ⟨hT3.1.alloc _, hT3.2.1.alloc _, hT3.2.2.alloc (Nat.le_of_lt hT3.1.lt) _⟩
  have hn3 : n < W3.heap.size := hT3.1.lt
  obtain ⟨b, hb⟩ : ∃ b, W3.heap.size = b := ⟨_, rfl⟩
  rw [hb] at hbx hn3 ⊢
  rw [hW4] at hbx ⊢
  have hsz : b + 1 = W4.heap.size := by rw [← hW4, ← hb, World.size_alloc]
  have hcell : W4.cell? ⟨b, 0, none⟩ = some (.int .u64 (p : Int)) := by rw [hP]; exact hbx.cell
  clear hT3 hW4 hb
  refine wpIn_rangeFunc_ownF rfl (by omega) (gf := 123) (lb := #[.pointer (some ⟨b, 0, none⟩)]) rfl trivial (enters_of Tryz.func123 (by kernel_rfl) rfl)
    (decimals_stops 2 (by omega) b p HP.out W4 hcell) keepsBox_t keepsBox_b (Below.refl _ _) (fun _ => rfl)
    (fun pre W => ((∃ v, Boxed W n 87 v ∧ W.ownsRow n 5 1 v (M ++ pre.map d8).length (Lib.byteCells (M ++ pre.map d8)) ∧ True) ∧ Boxed W b 66 (.int .u64 P)) ∧ Below n w W)
    (fun _ _ _ => False) ?hI (fun _ _ _ _ _ hs _ _ => hs)
    ⟨⟨⟨v3, hT4.1, by simpa using hT4.2.1, trivial⟩, hbx⟩, hT4.2.2⟩
    ?a1 ?assign ?body ?done ?stop
  case assign =>
    intro l x W K hK
    gi_wp2
    exact hK
  case hI =>
    exact OwnFrom.and (OwnFrom.and (Own.from (holdsRow_own n n 87 5 1 (fun pre : List D10 => (M ++ pre.map d8).length) (fun pre => Lib.byteCells (M ++ pre.map d8)) (fun _ _ => True)) _) (Own.from (boxed_own b 66 (fun _ => .int .u64 P)) _)) (ownFrom_below (by rw [hnn]; exact Nat.le_refl _) (by omega))
  case body =>
    rintro l pre x W ⟨⟨⟨v, hv, hrow, -⟩, hbw⟩, hB⟩ hlen
    have hlen' := dL_length p
    have hle : n ≤ W.heap.size := Nat.le_of_lt hv.lt
    have hvc := hv.cell
    have hnum : (M ++ pre.map d8).length ≤ 60 := by rw [List.length_append, List.length_map]; omega
    obtain ⟨X, hX⟩ : ∃ X : Int, 48 + (x.1 : Int) = X := ⟨_, rfl⟩
    rw [hX]
    have h8 : Lib.byteCells [d8 x] = [Value.int .u8 X] := by rw [← hX]; exact d8_cell x
    obtain ⟨T8, hT8⟩ : ∃ T, M ++ pre.map d8 = T := ⟨_, rfl⟩
    rw [hT8] at hrow hnum
    have H8 := Lib.hid h8
    have HE := Lib.hid hT8
    clear h8 hT8 hX hlen hlen'
    gi_wp2_with (gi_at_builtin; refine wpListIn_append_own _ rfl _ _ 87 rfl n 5 i0 (.int .u8 0) 1 1 Tryz.underlying87 hi hz0 hz1 hz2 rfl (by decide) _ _ _ rfl (hrow.alloc _) ⟨W.heap.size, 0, none⟩ 1 1 [Value.int .u8 X] rfl rfl (cell_one_new _ _ _) (by simp [Value.oneCell']) (by simp only [maxLen]; omega) (by omega) (by simp <;> omega) ?_; intro v' w1 hown' hgrow _; obtain ⟨g', cap', rfl⟩ := ownsRow_succ hown'; obtain ⟨hv1, hv2, hr2, hk2, hb2⟩ := hv.appended (by decide) hrow hle (Nat.le_refl _) hown' hgrow; have hc1 := hv1.cell; have hf1 := hv1.frozen)
    have hbw1 : Boxed w1 b 66 (.int .u64 P) := (hbw.alloc _).kept hgrow (hbw.not_row (by decide) hrow)
    have hbw2 := hbw1.other (show b ≠ n by omega) (.slice (some ⟨g', 0, none⟩) (T8.length + 1) cap')
    refine ⟨hk2, fun u hu => ?_, ⟨⟨_, hv2, ?_, trivial⟩, hbw2⟩, hB.trans hb2⟩
    · rw [hbw.cell] at hu
      cases hu
      exact hbw2.cell
    · rw [List.map_append, ← List.append_assoc, HE.out, List.length_append, show Lib.byteCells (T8 ++ List.map d8 [x]) = Lib.byteCells T8 ++ [Value.int .u8 X] by rw [← H8.out]; simp [Lib.byteCells]]
      exact hr2
  case done =>
    rintro D ys W hD rfl ⟨⟨⟨v, hv, hrow, -⟩, hbw⟩, hB⟩ hK
    obtain ⟨T8, hT8⟩ : ∃ T, M ++ (dL p).map d8 = T := ⟨_, rfl⟩
    rw [hT8] at hrow
    have hpos : 0 < T8.length := by rw [← hT8, ← hM, List.length_append]; rw [List.length_append]; omega
    have hvc := hv.cell
    obtain ⟨g, cap, rfl⟩ := row_form hrow hpos
    have hcv := run_convert_bytes_back (P := Tryz.prog) W 87 9 5 ⟨g, 0, none⟩ cap T8 Tryz.underlying87 Tryz.underlying5 Tryz.underlying9 (fun j hj => hrow.cells (g := g) rfl j _ (by simp [Lib.byteCells, hj]))
    have HE := Lib.hid hT8
    have HB := Lib.hid hB
    have HM := Lib.hid hM
    clear hT8 hpos hB hM hrow
    go_wp2
    refine ⟨by simp, .inl ⟨_, _, rfl, run_takeDeferred hK, ?_⟩⟩
    refine ⟨_, results_tmp rfl _ _ _, ?_, by rw [hnn]; exact HB.out.trans (belowK_b (w := w) (by omega) W D _ _ (by omega) hK rfl rfl)⟩
    rw [← HE.out, ← HM.out]
    simp
  case stop =>
    rintro D c pre W _ _ h _
    exact h.elim

set_option maxRecDepth 100000 in
set_option maxHeartbeats 2000000 in
theorem text_p (a U Q P : Int) (q p : Nat) (w : World) (ht : TabHere w) (hp : p < 65536)
    (cc : ∀ w, Calls Tryz.prog 54 #[.int .i64 a] w fun e w' => e = .returned (.int .i64 0) ∧ w = w')
    (cs : ∀ w, Calls Tryz.prog 41 #[.int .i64 a] w fun e w' => e = .returned (.int .u64 U) ∧ w = w')
    (hU : U / 65536 = Q) (hUt : IntKind.u64.wrap (U.tdiv 65536) = Q) (hqb : q < 18446744073709551616) (hU2 : U % 65536 = P) (hQ : (q : Int) = Q) (hP : (p : Int) = P) (hn : ¬ a < 0) (h0 : P ≤ 0)
    (L : List UInt8) (hL : [] ++ Lib.decDigits q = L) (hL30 : L.length ≤ 30) :
    CallsIn Fence.wide 3 Tryz.prog 9 #[.int .i64 a] w fun e W' => e = .returned (.string ⟨(L ++ (dL p).map d8).toArray⟩) ∧ Below w.heap.size w W' := by
  obtain ⟨i0, hi, hz0, hz1, hz2⟩ := info_parts infoByte
  have CC := Lib.hid cc
  have CS := Lib.hid cs
  have HT := Lib.hid ht
  have HP := Lib.hid hp
  have HQB := Lib.hid hqb
  have HL := Lib.hid hL
  clear cc cs ht hp hqb hL
  refine callsIn_of_wp_marks Tryz.func9 rfl trivial ?_ rfl
  simp only [Tryz.ntmps9, List.size_toArray, List.length_cons, List.length_nil, Nat.reduceAdd, Nat.reduceSub, Array.replicate_succ, Array.replicate_zero, List.push_toArray, List.append_toArray, List.nil_append, List.cons_append]
  refine wpIn_wide.2 ?_
  obtain ⟨n, hnn⟩ : ∃ n, w.heap.size = n := ⟨_, rfl⟩
  have hT0 : TX n [] w (w.alloc (.cells #[.slice none 0 0] 87)) (.slice none 0 0) := by
    subst hnn
    exact ⟨Boxed.new w _ _, World.ownsRow_nil _ _ _ _, (Below.refl _ _).alloc (Nat.le_refl _) _⟩
  go_upto_region 6 with (go_at_call 54; refine (CC.out _).mono ?_; rintro e w' ⟨rfl, rfl⟩)
  obtain ⟨W1, hW1⟩ : ∃ W1, w.alloc (.cells #[.slice none 0 0] 87) = W1 := ⟨_, rfl⟩
  obtain ⟨v1, hv1e⟩ : ∃ v1, Value.slice none 0 0 = v1 := ⟨_, rfl⟩
  rw [hW1] at hT0 ⊢
  rw [hv1e] at hT0
  have hT1 := hT0
  clear hW1 hT0
  have hT1d := hT1.drewn
  have HTab : Hid (TabHere W1.drew) := by
    subst hnn
    exact HT.out.on hT1d.2.2
  have HU : Hid (∀ W : World, TX n [] w W v1 → n ≤ W.heap.size → TabHere W → Calls Tryz.prog 55 #[v1, .int .u64 q, .int .i64 10] W fun e w' => ∃ v', e = .returned v' ∧ (Boxed w' n 87 v1 ∧ w'.ownsRow n 5 1 v' L.length (Lib.byteCells L) ∧ Below n W w')) := by
    intro W h1 h2 h3
    have h := appu_any q HQB.out n [] (by decide) w W v1 h1 h2 h3
    rw [HL.out] at h
    exact h
  have hLp : 0 < L.length := by rw [← HL.out, List.length_append]; have := decDigits_pos q; omega
  refine wp_region_still_tail 4 (by kernel_rfl) (by kernel_rfl) ?_
  simp only [List.take_succ_cons, List.take_zero, List.drop_succ_cons, List.drop_zero]
  change wpStill _ _ W1.drew (fun a' => wpList _ _ _ _ a' W1.drew) _ _
  obtain ⟨W1d, hW1d⟩ : ∃ W, W1.drew = W := ⟨_, rfl⟩
  rw [hW1d] at hT1d HTab ⊢
  have hc1d := hT1d.1.cell
  have hle1d : n ≤ W1d.heap.size := Nat.le_of_lt hT1d.1.lt
  clear hW1d hT1
  still_step
  still_step
  still_call ((CS.out _).mono (by rintro e w' ⟨rfl, rfl⟩; exact ⟨rfl, rfl⟩))
  still_step
  refine wpStill_nil ?_
  try rw [hv1e]
  go_upto_region 10 with (first | (go_at_call 41; refine (CS.out _).mono ?_; rintro e w' ⟨rfl, rfl⟩) | (go_at_call 55; rw [← hQ]; refine (HU.out _ hT1d hle1d HTab.out).mono ?_; rintro e w2 ⟨v2, rfl, hb2, ho2, hB2⟩; obtain ⟨g2, cap2, rfl⟩ := row_form ho2 hLp; have hc2 := hb2.cell; have hf2 := hb2.frozen))
  have hT2 := hT1d.put hb2 ho2 hB2
  obtain ⟨W2, hW2⟩ : ∃ W, w2.setCell ⟨n, 0, none⟩ (.slice (some ⟨g2, 0, none⟩) L.length cap2) = W := ⟨_, rfl⟩
  obtain ⟨v2, hv2e⟩ : ∃ v, Value.slice (some ⟨g2, 0, none⟩) L.length cap2 = v := ⟨_, rfl⟩
  rw [hW2] at hT2 ⊢
  rw [hv2e] at hT2 ⊢
  clear hW2 hv2e hb2 ho2 hB2 hc2 hf2 hT1d hc1d hle1d HTab HU
  have hT3 := hT2
  obtain ⟨W3, hW3⟩ : ∃ W, W2 = W := ⟨_, rfl⟩
  obtain ⟨v3, hv3⟩ : ∃ v, v2 = v := ⟨_, rfl⟩
  rw [hW3, hv3] at hT3
  rw [hW3]
  obtain ⟨M, hM⟩ : ∃ M, L = M := ⟨_, rfl⟩
  have hM31 : M.length ≤ 31 := by rw [← hM]; omega
  rw [hM] at hT3
  clear hW3 hv3 hT2
  go_wp2_with (go_at_call 56; refine (callsIn_wide.1 (decimals_any P W3)).mono ?_; rintro e w' ⟨rfl, rfl⟩)
  refine (wpIn_wide (n := 3)).1 ?_
  have hbx : Boxed (W3.alloc (.cells #[.int .u64 P] 66)) W3.heap.size 66 (.int .u64 P) := Boxed.new W3 _ _
  obtain ⟨W4, hW4⟩ : ∃ W, W3.alloc (.cells #[.int .u64 P] 66) = W := ⟨_, rfl⟩
  have hT4 : TX n M w W4 v3 := by rw [← hW4]; exact ⟨hT3.1.alloc _, hT3.2.1.alloc _, hT3.2.2.alloc (Nat.le_of_lt hT3.1.lt) _⟩
  have hn3 : n < W3.heap.size := hT3.1.lt
  obtain ⟨b, hb⟩ : ∃ b, W3.heap.size = b := ⟨_, rfl⟩
  rw [hb] at hbx hn3 ⊢
  rw [hW4] at hbx ⊢
  have hsz : b + 1 = W4.heap.size := by rw [← hW4, ← hb, World.size_alloc]
  have hcell : W4.cell? ⟨b, 0, none⟩ = some (.int .u64 (p : Int)) := by rw [hP]; exact hbx.cell
  clear hT3 hW4 hb
  refine wpIn_rangeFunc_ownF rfl (by omega) (gf := 123) (lb := #[.pointer (some ⟨b, 0, none⟩)]) rfl trivial (enters_of Tryz.func123 (by kernel_rfl) rfl)
    (decimals_stops 2 (by omega) b p HP.out W4 hcell) keepsBox_t keepsBox_b (Below.refl _ _) (fun _ => rfl)
    (fun pre W => ((∃ v, Boxed W n 87 v ∧ W.ownsRow n 5 1 v (M ++ pre.map d8).length (Lib.byteCells (M ++ pre.map d8)) ∧ True) ∧ Boxed W b 66 (.int .u64 P)) ∧ Below n w W)
    (fun _ _ _ => False) ?hI (fun _ _ _ _ _ hs _ _ => hs)
    ⟨⟨⟨v3, hT4.1, by simpa using hT4.2.1, trivial⟩, hbx⟩, hT4.2.2⟩
    ?a1 ?assign ?body ?done ?stop
  case assign =>
    intro l x W K hK
    gi_wp2
    exact hK
  case hI =>
    exact OwnFrom.and (OwnFrom.and (Own.from (holdsRow_own n n 87 5 1 (fun pre : List D10 => (M ++ pre.map d8).length) (fun pre => Lib.byteCells (M ++ pre.map d8)) (fun _ _ => True)) _) (Own.from (boxed_own b 66 (fun _ => .int .u64 P)) _)) (ownFrom_below (by rw [hnn]; exact Nat.le_refl _) (by omega))
  case body =>
    rintro l pre x W ⟨⟨⟨v, hv, hrow, -⟩, hbw⟩, hB⟩ hlen
    have hlen' := dL_length p
    have hle : n ≤ W.heap.size := Nat.le_of_lt hv.lt
    have hvc := hv.cell
    have hnum : (M ++ pre.map d8).length ≤ 60 := by rw [List.length_append, List.length_map]; omega
    obtain ⟨X, hX⟩ : ∃ X : Int, 48 + (x.1 : Int) = X := ⟨_, rfl⟩
    rw [hX]
    have h8 : Lib.byteCells [d8 x] = [Value.int .u8 X] := by rw [← hX]; exact d8_cell x
    obtain ⟨T8, hT8⟩ : ∃ T, M ++ pre.map d8 = T := ⟨_, rfl⟩
    rw [hT8] at hrow hnum
    have H8 := Lib.hid h8
    have HE := Lib.hid hT8
    clear h8 hT8 hX hlen hlen'
    gi_wp2_with (gi_at_builtin; refine wpListIn_append_own _ rfl _ _ 87 rfl n 5 i0 (.int .u8 0) 1 1 Tryz.underlying87 hi hz0 hz1 hz2 rfl (by decide) _ _ _ rfl (hrow.alloc _) ⟨W.heap.size, 0, none⟩ 1 1 [Value.int .u8 X] rfl rfl (cell_one_new _ _ _) (by simp [Value.oneCell']) (by simp only [maxLen]; omega) (by omega) (by simp <;> omega) ?_; intro v' w1 hown' hgrow _; obtain ⟨g', cap', rfl⟩ := ownsRow_succ hown'; obtain ⟨hv1, hv2, hr2, hk2, hb2⟩ := hv.appended (by decide) hrow hle (Nat.le_refl _) hown' hgrow; have hc1 := hv1.cell; have hf1 := hv1.frozen)
    have hbw1 : Boxed w1 b 66 (.int .u64 P) := (hbw.alloc _).kept hgrow (hbw.not_row (by decide) hrow)
    have hbw2 := hbw1.other (show b ≠ n by omega) (.slice (some ⟨g', 0, none⟩) (T8.length + 1) cap')
    refine ⟨hk2, fun u hu => ?_, ⟨⟨_, hv2, ?_, trivial⟩, hbw2⟩, hB.trans hb2⟩
    · rw [hbw.cell] at hu
      cases hu
      exact hbw2.cell
    · rw [List.map_append, ← List.append_assoc, HE.out, List.length_append, show Lib.byteCells (T8 ++ List.map d8 [x]) = Lib.byteCells T8 ++ [Value.int .u8 X] by rw [← H8.out]; simp [Lib.byteCells]]
      exact hr2
  case done =>
    rintro D ys W hD rfl ⟨⟨⟨v, hv, hrow, -⟩, hbw⟩, hB⟩ hK
    obtain ⟨T8, hT8⟩ : ∃ T, M ++ (dL p).map d8 = T := ⟨_, rfl⟩
    rw [hT8] at hrow
    have hpos : 0 < T8.length := by rw [← hT8, ← hM, List.length_append]; omega
    have hvc := hv.cell
    obtain ⟨g, cap, rfl⟩ := row_form hrow hpos
    have hcv := run_convert_bytes_back (P := Tryz.prog) W 87 9 5 ⟨g, 0, none⟩ cap T8 Tryz.underlying87 Tryz.underlying5 Tryz.underlying9 (fun j hj => hrow.cells (g := g) rfl j _ (by simp [Lib.byteCells, hj]))
    have HE := Lib.hid hT8
    have HB := Lib.hid hB
    have HM := Lib.hid hM
    clear hT8 hpos hB hM hrow
    go_wp2
    refine ⟨by simp, .inl ⟨_, _, rfl, run_takeDeferred hK, ?_⟩⟩
    refine ⟨_, results_tmp rfl _ _ _, ?_, by rw [hnn]; exact HB.out.trans (belowK_b (w := w) (by omega) W D _ _ (by omega) hK rfl rfl)⟩
    rw [← HE.out, ← HM.out]
    simp
  case stop =>
    rintro D c pre W _ _ h _
    exact h.elim

set_option maxRecDepth 100000 in
set_option maxHeartbeats 2000000 in
theorem text_bad (a : Int) (w : World) (hv : ¬ Vld a) :
    CallsIn Fence.wide 3 Tryz.prog 9 #[.int .i64 a] w fun e W' => e = .returned (.string ⟨#[]⟩) ∧ Below w.heap.size w W' := by
  have CC := Lib.hid (fun w => check_bad a w hv)
  clear hv
  refine callsIn_of_wp_marks Tryz.func9 rfl trivial ?_ rfl
  simp only [Tryz.ntmps9, List.size_toArray, List.length_cons, List.length_nil, Nat.reduceAdd, Nat.reduceSub, Array.replicate_succ, Array.replicate_zero, List.push_toArray, List.append_toArray, List.nil_append, List.cons_append]
  refine wpIn_wide.2 ?_
  go_wp2_with (go_at_call 54; refine (CC.out _).mono ?_; rintro e w' ⟨rfl, rfl⟩)
  exact ⟨_, results_tmp rfl _ _ _, rfl, Below.refl _ _⟩

/-- The text of a number. -/
def textL (a : Int) : List UInt8 :=
  if Vld a then ((if a < 0 then [45] else []) ++ Lib.decDigits (a.natAbs / 65536)) ++ ((if 0 < a.natAbs % 65536 then [46] else []) ++ (dL (a.natAbs % 65536)).map d8) else []

theorem decDigits_le (q : Nat) (hq : q ≤ 1073741824) : (Lib.decDigits q).length ≤ 21 := by
  have h := Lib.itoa_length_le (q : Int) (by omega) (by omega)
  rw [Lib.itoa_nonneg] at h
  exact h

theorem text_any (a : Int) (w : World) (ht : TabHere w) :
    Calls Tryz.prog 9 #[.int .i64 a] w fun e W' => e = .returned (.string ⟨(textL a).toArray⟩) ∧ Below w.heap.size w W' := by
  refine (callsIn_wide (n := 3)).1 ?_
  unfold textL
  by_cases hv : Vld a
  · rw [if_pos hv]
    have hv' := hv
    unfold Vld at hv'
    have hq : a.natAbs / 65536 ≤ 1073741824 := by omega
    have hl := decDigits_le _ hq
    have cc := fun w => check_ok a w hv
    have cs := fun w => size_any a w (by omega) (by omega)
    have hp : a.natAbs % 65536 < 65536 := Nat.mod_lt _ (by decide)
    have e1 : (a.natAbs : Int) / 65536 = ((a.natAbs / 65536 : Nat) : Int) := by omega
    have e2 : (a.natAbs : Int) % 65536 = ((a.natAbs % 65536 : Nat) : Int) := by omega
    have e3 : IntKind.u64.wrap ((a.natAbs : Int).tdiv 65536) = ((a.natAbs / 65536 : Nat) : Int) := by
      rw [show (a.natAbs : Int).tdiv 65536 = ((a.natAbs / 65536 : Nat) : Int) from rfl]
      exact wrap_nat (by omega)
    by_cases hn : a < 0
    · rw [if_pos hn]
      by_cases h0 : 0 < a.natAbs % 65536
      · rw [if_pos h0, ← List.append_assoc]
        exact text_nf a _ _ _ _ _ w ht hp cc cs e1 e3 (by omega) e2 rfl rfl hn (by omega) _ rfl (by rw [List.length_append]; simp only [List.length_cons, List.length_nil]; omega)
      · rw [if_neg h0, List.nil_append]
        exact text_n a _ _ _ _ _ w ht hp cc cs e1 e3 (by omega) e2 rfl rfl hn (by omega) _ rfl (by rw [List.length_append]; simp only [List.length_cons, List.length_nil]; omega)
    · rw [if_neg hn]
      by_cases h0 : 0 < a.natAbs % 65536
      · rw [if_pos h0, ← List.append_assoc]
        exact text_f a _ _ _ _ _ w ht hp cc cs e1 e3 (by omega) e2 rfl rfl hn (by omega) _ rfl (by rw [List.length_append]; simp only [List.length_nil]; omega)
      · rw [if_neg h0, List.nil_append, List.nil_append]
        exact text_p a _ _ _ _ _ w ht hp cc cs e1 e3 (by omega) e2 rfl rfl hn (by omega) _ rfl (by omega)
  · rw [if_neg hv]
    exact text_bad a w hv

end Go.Proofs.YtebfhjndgfcijaaGreatDoor
