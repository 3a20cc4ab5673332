/- The stone of a line: package sheet's stoneOf, where the line has three words. -/
import Derived.Test.YtfdhgimpdmhdeaaGreatDoorCoord
namespace Go.Proofs.YtfdhgimpdmhdeaaGreatDoor
open Go Go.RowKit

theorem Box4.later {W W' : World} {b : Nat} {s : St} (h : Box4 W b s) (hb : Below W.heap.size W W') : Box4 W' b s := (hb.block b (Array.getElem?_eq_some_iff.1 h).1).trans h
theorem Box4.free {W : World} {b : Nat} {s : St} (h : Box4 W b s) (k : Nat) : W.frozen? ⟨b, k, none⟩ = false := by
  unfold Box4 at h
  unfold World.frozen?
  simp [h]
theorem Box4.set {W : World} {b : Nat} {s s' : St} (h : Box4 W b s) (k : Nat) (v : Int) (hk : (#[Value.int .i64 s.t, .int .i64 s.n, .int .i64 s.x, .int .i64 s.y] : Array Value).setIfInBounds k (.int .i64 v) = #[.int .i64 s'.t, .int .i64 s'.n, .int .i64 s'.x, .int .i64 s'.y]) : Box4 (W.setCell ⟨b, k, none⟩ (.int .i64 v)) b s' := by
  unfold Box4 at *
  unfold World.setCell
  rw [← hk]
  simp only [Array.getElem?_modify, if_true, h, Option.map_some, Option.isSome_none, Bool.false_eq_true, if_false]
theorem box4_zero (W : World) : Box4 (W.alloc (.cells #[.int .i64 0, .int .i64 0, .int .i64 0, .int .i64 0] 39)) W.heap.size ⟨0, 0, 0, 0⟩ := by
  unfold Box4 World.alloc
  simp

theorem Box4.set4 {W : World} {b : Nat} {t n x y : Int} (h : Box4 W b ⟨t, n, x, y⟩) : Box4 ((((W.setCell ⟨b, 0, none⟩ (.int .i64 t)).setCell ⟨b, 1, none⟩ (.int .i64 n)).setCell ⟨b, 2, none⟩ (.int .i64 x)).setCell ⟨b, 3, none⟩ (.int .i64 y)) b ⟨t, n, x, y⟩ :=
  (((h.set (s' := ⟨t, n, x, y⟩) 0 t rfl).set (s' := ⟨t, n, x, y⟩) 1 n rfl).set (s' := ⟨t, n, x, y⟩) 2 x rfl).set (s' := ⟨t, n, x, y⟩) 3 y rfl
theorem box_S {W : World} {b : Nat} {t n x y : Int} (h : Box4 W b ⟨t, n, x, y⟩) : (W.cell? ⟨b, 0, none⟩ = some (.int .i64 t) ∧ W.cell? ⟨b, 1, none⟩ = some (.int .i64 n) ∧ W.frozen? ⟨b, 0, none⟩ = false ∧ W.frozen? ⟨b, 1, none⟩ = false) ∧ W.cell? ⟨b, 2, none⟩ = some (.int .i64 x) ∧ W.cell? ⟨b, 3, none⟩ = some (.int .i64 y) ∧ W.frozen? ⟨b, 2, none⟩ = false ∧ W.frozen? ⟨b, 3, none⟩ = false :=
  ⟨⟨h.cells.1.1, h.cells.1.2, h.free 0, h.free 1⟩, h.cells.2.1, h.cells.2.2, h.free 2, h.free 3⟩
/-- The stone that is being made, and the words. -/
def SW (w : World) (b : Nat) (u v z : ByteArray) (W : World) (s : St) : Prop := (w.heap.size = b ∧ Below w.heap.size w W) ∧ Box4 W b s ∧ (b + 1 < W.heap.size ∧ W.cell? ⟨b + 1, 0, none⟩ = some (.string u)) ∧ W.cell? ⟨b + 1, 1, none⟩ = some (.string v) ∧ W.cell? ⟨b + 1, 2, none⟩ = some (.string z)
theorem SW.later {w W W' : World} {b : Nat} {u v z : ByteArray} {s : St} (h : SW w b u v z W s) (hb : Below W.heap.size W W') : SW w b u v z W' s :=
  ⟨⟨h.1.1, kc h.1.2 hb⟩, h.2.1.later hb, ⟨Nat.lt_of_lt_of_le h.2.2.1.1 hb.size, cell_later hb h.2.2.1.2⟩, cell_later hb h.2.2.2.1, cell_later hb h.2.2.2.2⟩
theorem SW.set {w W : World} {b : Nat} {u v z : ByteArray} {s s' : St} (h : SW w b u v z W s) (k : Nat) (n : Int) (hk : (#[Value.int .i64 s.t, .int .i64 s.n, .int .i64 s.x, .int .i64 s.y] : Array Value).setIfInBounds k (.int .i64 n) = #[.int .i64 s'.t, .int .i64 s'.n, .int .i64 s'.x, .int .i64 s'.y]) : SW w b u v z (W.setCell ⟨b, k, none⟩ (.int .i64 n)) s' := by
  obtain ⟨⟨h0, h1⟩, h2, ⟨h3, h4⟩, h5, h6⟩ := h
  refine ⟨⟨h0, ks h1 _ (by rw [h0]; exact Nat.le_refl _)⟩, h2.set k n hk, ⟨by simpa using h3, ?_⟩, ?_, ?_⟩
  · rw [World.cell?_setCell_other _ _ _ _ (by simp)]; exact h4
  · rw [World.cell?_setCell_other _ _ _ _ (by simp)]; exact h5
  · rw [World.cell?_setCell_other _ _ _ _ (by simp)]; exact h6

set_option maxRecDepth 100000 in
set_option maxHeartbeats 4000000 in
/-- A line of three words, of which the first one has two bytes. -/
theorem stoneOf_three (line T w1 w2 : ByteArray) (c d : UInt8) (C D t n x y m : Int) (bY : Bool) (hnb : namedS ⟨t, n, x, y⟩ = true) (w : World) (hsz : line.size ≤ 2000) (hT : (⟨(Lib.trimSuffix line.data.toList [10]).toArray⟩ : ByteArray) = T) (hTs : T.size ≤ 2000) (hsuf : Lib.hasSuffix line.data.toList [10] = true)
    (hcnt : Lib.countB T ⟨#[32]⟩ = 2) (hspl : Lib.splitB ⟨#[32]⟩ 0 2 T = [⟨#[c, d]⟩, w1, w2]) (hC : (c.toNat : Int) = C) (hD : (d.toNat : Int) = D) (ht : Lib.indexByte [114, 121] C.toNat.toUInt8 = t) (hn : D - 49 = n)
    (hm : w.cell? ⟨1, 0, none⟩ = some (.int .i64 m))
    (CX : Hid (∀ W, Below w.heap.size w W → Calls Tryz.prog 57 #[.string w1] W fun e w' => e = .returned (.tuple #[.int .i64 x, .bool true]) ∧ Below W.heap.size W w'))
    (CY : Hid (∀ W, Below w.heap.size w W → Calls Tryz.prog 57 #[.string w2] W fun e w' => e = .returned (.tuple #[.int .i64 y, .bool bY]) ∧ Below W.heap.size W w')) :
    Calls Tryz.prog 38 #[.string line] w fun e w' => e = .returned (.tuple #[.agg #[.int .i64 t, .int .i64 n, .int .i64 x, .int .i64 y], .bool bY]) ∧ Below w.heap.size w w' := by
  have CC := Lib.hid (fun w => Tryz.strings_CutSuffix line ⟨#[10]⟩ w (by omega))
  have e1 : (⟨(Lib.trimSuffix line.data.toList (⟨#[10]⟩ : ByteArray).data.toList).toArray⟩ : ByteArray) = T := hT
  have e2 : Lib.hasSuffix line.data.toList (⟨#[10]⟩ : ByteArray).data.toList = true := hsuf
  rw [e1, e2] at CC
  have CS := Lib.hid (fun W (h : W.cell? ⟨1, 0, none⟩ = some (.int .i64 m)) => Tryz.strings_Split T ⟨#[32]⟩ m W (by omega) h (by decide))
  rw [hcnt, hspl] at CS
  have CI := Lib.hid (fun w => Tryz.strings_IndexByte ⟨#[114, 121]⟩ C w)
  have e3 : Lib.indexByte (⟨#[114, 121]⟩ : ByteArray).data.toList C.toNat.toUInt8 = t := ht
  rw [e3] at CI
  have CN := Lib.hid (fun w => isNamed_any t n x y w)
  rw [hnb] at CN
  clear hnb
  have HM := Lib.hid hm
  have hD0 : 0 ≤ D := by omega
  have hD1 : D ≤ 255 := by have := d.toNat_lt; omega
  have hC0 : 0 ≤ C := by omega
  have W1 : IntKind.i64.wrap (D - 49) = n := by rw [← hn]; simp [IntKind.wrap, IntKind.bits, IntKind.signed]; omega
  have W2 : IntKind.i64.wrap D = D := by simp [IntKind.wrap, IntKind.bits, IntKind.signed]; omega
  have HQ0 : (((⟨#[c, d]⟩ : ByteArray)[0]'(show 0 < 2 by decide)).toNat : Int) = C := hC
  have HQ1 : (((⟨#[c, d]⟩ : ByteArray)[1]'(show 1 < 2 by decide)).toNat : Int) = D := hD
  clear hC hD e1 e2 e3 hT hsuf hcnt hspl ht hm hTs hsz hn
  go_enter Tryz.func38, Tryz.ntmps38
  go_upto_region 5 with (first | (go_at_call 54; refine (CC.out _).mono ?_; rintro e wa ⟨rfl, rfl⟩) | (go_at_call 55; refine (CS.out _ (cell_later (ka (Below.refl _ _) _) HM.out)).mono ?_; rintro e wb ⟨rfl, rfl⟩))
  have H1 : Hid (SW w w.heap.size ⟨#[c, d]⟩ w1 w2 ((w.alloc (.cells #[.int .i64 0, .int .i64 0, .int .i64 0, .int .i64 0] 39)).alloc (.cells #[.string ⟨#[c, d]⟩, .string w1, .string w2] 9)) ⟨0, 0, 0, 0⟩) :=
    ⟨⟨rfl, ka (ka (Below.refl _ _) _) _⟩, box4_alloc (box4_zero w) _, ⟨by simp, by simp [go_sem]⟩, by simp [go_sem], by simp [go_sem]⟩
  obtain ⟨b, hb⟩ : ∃ b, w.heap.size = b := ⟨_, rfl⟩
  obtain ⟨V1, hV1⟩ : ∃ V, (w.alloc (.cells #[.int .i64 0, .int .i64 0, .int .i64 0, .int .i64 0] 39)).alloc (.cells #[.string ⟨#[c, d]⟩, .string w1, .string w2] 9) = V := ⟨_, rfl⟩
  have HbB := Lib.hid hb
  rw [hV1, hb] at H1
  rw [hV1, hb]
  obtain ⟨⟨p0, p1⟩, p2, p3⟩ := H1.out.2.1.cells; have f0 := H1.out.2.1.free 0; have f1 := H1.out.2.1.free 1; have f2 := H1.out.2.1.free 2; have f3 := H1.out.2.1.free 3; obtain ⟨-, -, ⟨-, q0⟩, q1, q2⟩ := H1.out
  clear hV1 hb
  go_upto_region 6 with (first | (go_at_call 56; refine (CI.out _).mono ?_; rintro e wa ⟨rfl, rfl⟩))
  have H2 := Lib.hid (H1.out.set (s' := ⟨t, 0, 0, 0⟩) 0 t rfl)
  obtain ⟨V2, hV2⟩ : ∃ V, wa.setCell ⟨b, 0, none⟩ (.int .i64 t) = V := ⟨_, rfl⟩
  rw [hV2] at H2 ⊢
  clear p0 p1 p2 p3 f0 f1 f2 f3 q0 q1 q2
  obtain ⟨⟨p0, p1⟩, p2, p3⟩ := H2.out.2.1.cells; have f0 := H2.out.2.1.free 0; have f1 := H2.out.2.1.free 1; have f2 := H2.out.2.1.free 2; have f3 := H2.out.2.1.free 3; obtain ⟨-, -, ⟨-, q0⟩, q1, q2⟩ := H2.out
  clear hV2
  go_upto_region 7 with fail
  have H3 := Lib.hid (H2.out.set (s' := ⟨t, n, 0, 0⟩) 1 n rfl)
  obtain ⟨V3, hV3⟩ : ∃ V, V2.setCell ⟨b, 1, none⟩ (.int .i64 n) = V := ⟨_, rfl⟩
  rw [hV3] at H3 ⊢
  clear p0 p1 p2 p3 f0 f1 f2 f3 q0 q1 q2
  obtain ⟨⟨p0, p1⟩, p2, p3⟩ := H3.out.2.1.cells; have f0 := H3.out.2.1.free 0; have f1 := H3.out.2.1.free 1; have f2 := H3.out.2.1.free 2; have f3 := H3.out.2.1.free 3; obtain ⟨-, -, ⟨-, q0⟩, q1, q2⟩ := H3.out
  clear hV3
  go_upto_region 8 with (first | (go_at_call 57; refine (CX.out _ H3.out.1.2).mono ?_; rintro e V4 ⟨rfl, hb4⟩; have H4 := Lib.hid (H3.out.later hb4); clear hb4))
  clear p0 p1 p2 p3 f0 f1 f2 f3 q0 q1 q2
  obtain ⟨⟨p0, p1⟩, p2, p3⟩ := H4.out.2.1.cells; have f0 := H4.out.2.1.free 0; have f1 := H4.out.2.1.free 1; have f2 := H4.out.2.1.free 2; have f3 := H4.out.2.1.free 3; obtain ⟨-, -, ⟨-, q0⟩, q1, q2⟩ := H4.out
  go_upto_region 9 with (first | (go_at_call 57; refine (CY.out _ H4.out.1.2).mono ?_; rintro e V5 ⟨rfl, hb5⟩; have H5 := Lib.hid (H4.out.later hb5); clear hb5))
  clear p0 p1 p2 p3 f0 f1 f2 f3 q0 q1 q2
  obtain ⟨⟨p0, p1⟩, p2, p3⟩ := H5.out.2.1.cells; have f0 := H5.out.2.1.free 0; have f1 := H5.out.2.1.free 1; have f2 := H5.out.2.1.free 2; have f3 := H5.out.2.1.free 3; obtain ⟨-, -, ⟨-, q0⟩, q1, q2⟩ := H5.out
  go_upto_region 10 with fail
  have H6 := Lib.hid ((H5.out.set (s' := ⟨t, n, x, 0⟩) 2 x rfl).set (s' := ⟨t, n, x, y⟩) 3 y rfl)
  obtain ⟨V6, hV6⟩ : ∃ V, (V5.setCell ⟨b, 2, none⟩ (.int .i64 x)).setCell ⟨b, 3, none⟩ (.int .i64 y) = V := ⟨_, rfl⟩
  rw [hV6] at H6 ⊢
  clear p0 p1 p2 p3 f0 f1 f2 f3 q0 q1 q2
  obtain ⟨⟨p0, p1⟩, p2, p3⟩ := H6.out.2.1.cells; have f0 := H6.out.2.1.free 0; have f1 := H6.out.2.1.free 1; have f2 := H6.out.2.1.free 2; have f3 := H6.out.2.1.free 3; obtain ⟨-, -, ⟨-, q0⟩, q1, q2⟩ := H6.out
  clear hV6
  dsimp only at p0 p1 p2 p3
  clear q0 q1 q2 CX CY CI CS CC H1 H2 H3 H4 H5 HQ0 HQ1 W1 W2 hD0 hD1 hC0
  cases bY
  all_goals
    go_region_held3 (fun w' => (w'.cell? ⟨b, 0, none⟩ = some (.int .i64 t) ∧ w'.cell? ⟨b, 1, none⟩ = some (.int .i64 n) ∧ w'.frozen? ⟨b, 0, none⟩ = false ∧ w'.frozen? ⟨b, 1, none⟩ = false) ∧ w'.cell? ⟨b, 2, none⟩ = some (.int .i64 x) ∧ w'.cell? ⟨b, 3, none⟩ = some (.int .i64 y) ∧ w'.frozen? ⟨b, 2, none⟩ = false ∧ w'.frozen? ⟨b, 3, none⟩ = false)
      (first | exact ⟨⟨p0, p1, f0, f1⟩, p2, p3, f2, f3⟩ | exact ⟨⟨r0, r1, g0, g1⟩, r2, r3, g2, g3⟩ | exact box_S (Box4.set4 H7.out.2.1) | go_keep)
      (first | (go_at_call 39; refine (CN.out _).mono ?_; rintro e V7 ⟨rfl, hb7⟩; have H7 := Lib.hid (SW.later H6.out (kc (Below.refl _ _).drew hb7)); obtain ⟨⟨r0, r1⟩, r2, r3⟩ := H7.out.2.1.cells; have g0 := H7.out.2.1.free 0; have g1 := H7.out.2.1.free 1; have g2 := H7.out.2.1.free 2; have g3 := H7.out.2.1.free 3; clear hb7; dsimp only at r0 r1 r2 r3))
  all_goals go_wp2_with fail
  all_goals
    obtain ⟨⟨z0, z1⟩, z2, z3⟩ := (Box4.set4 H7.out.2.1).cells
    dsimp only at z0 z1 z2 z3
    have hle : w.heap.size ≤ b := Nat.le_of_eq HbB.out
    have hB : Below w.heap.size w ((((V7.setCell ⟨b, 0, none⟩ (.int .i64 t)).setCell ⟨b, 1, none⟩ (.int .i64 n)).setCell ⟨b, 2, none⟩ (.int .i64 x)).setCell ⟨b, 3, none⟩ (.int .i64 y)) := ks (ks (ks (ks H7.out.1.2 _ hle) _ hle) _ hle) _ hle
    clear p0 p1 p2 p3 f0 f1 f2 f3 r0 r1 r2 r3 g0 g1 g2 g3
    first
    | exact bodyPost_ret (v := .tuple #[.agg #[.int .i64 t, .int .i64 n, .int .i64 x, .int .i64 y], .bool false]) (by simp [results, Tryz.results38, go_sem, z0, z1, z2, z3]) rfl ⟨rfl, hB⟩
    | exact bodyPost_ret (v := .tuple #[.agg #[.int .i64 t, .int .i64 n, .int .i64 x, .int .i64 y], .bool true]) (by simp [results, Tryz.results38, go_sem, z0, z1, z2, z3]) rfl ⟨rfl, hB⟩

end Go.Proofs.YtfdhgimpdmhdeaaGreatDoor
