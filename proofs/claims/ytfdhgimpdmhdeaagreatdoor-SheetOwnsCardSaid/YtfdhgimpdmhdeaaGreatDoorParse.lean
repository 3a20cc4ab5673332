/- A text that is no position: package sheet's Parse stops at the first line that is none. -/
import Derived.Test.YtfdhgimpdmhdeaaGreatDoorLines
namespace Go.Proofs.YtfdhgimpdmhdeaaGreatDoor
open Go Go.RowKit Go.Shelf
attribute [local go_sem] Oper.semAt_some

theorem stone_info : (Tryz.prog.info? 39).map (fun i => (i.zero, i.size, i.bytes)) = some (some (.agg #[.int .i64 0, .int .i64 0, .int .i64 0, .int .i64 0]), 4, 32) := by kernel_rfl
theorem stones_under : Tryz.prog.underlying 22 = some (.slice 39) := by kernel_rfl
/-- A row of the call's own abides what turns only blocks ahead of it. -/
theorem own_only {M : Nat → Prop} {W W' : World} {base e size n : Nat} {v : Value} {xs : List Value} (h : W.ownsRow base e size v n xs) (hO : Only M W W') (hM : ∀ k, base ≤ k → ¬ M k) : W'.ownsRow base e size v n xs := by
  obtain ⟨h0, h1⟩ := h
  refine ⟨h0, ?_⟩
  rcases h1 with h1 | ⟨g, cap, cur, h1, h2, h3, h4⟩
  · exact .inl h1
  · exact .inr ⟨g, cap, cur, h1, h2, hO.obj h3 (hM g h2), h4⟩
/-- The cells of stones. -/
def stCells : List St → List Value
  | [] => []
  | s :: r => [.int .i64 s.t, .int .i64 s.n, .int .i64 s.x, .int .i64 s.y] ++ stCells r
theorem stCells_snoc (l : List St) (s : St) : stCells (l ++ [s]) = stCells l ++ [.int .i64 s.t, .int .i64 s.n, .int .i64 s.x, .int .i64 s.y] := by
  induction l with
  | nil => simp [stCells]
  | cons a r ih => simp [stCells, ih]
/-- While Parse goes on: its results, and the row of stones. -/
def PI (w : World) (b : Nat) (Z : List St) (W : World) : Prop :=
  (Below w.heap.size w W ∧ b + 6 ≤ W.heap.size) ∧ (∃ v, W.cell? ⟨b, 0, none⟩ = some v ∧ W.ownsRow (b + 13) 39 4 v Z.length (stCells Z)) ∧ (W.cell? ⟨b + 1, 0, none⟩ = some (.int .i64 0) ∧ W.cell? ⟨b + 2, 0, none⟩ = some (.int .i64 0)) ∧
    W.frozen? ⟨b, 0, none⟩ = false ∧ W.frozen? ⟨b + 1, 0, none⟩ = false ∧ W.frozen? ⟨b + 2, 0, none⟩ = false
theorem PI.only {w : World} {b : Nat} {Z : List St} {W W' : World} (hb : w.heap.size = b) (h : PI w b Z W) (hO : Only (fun k => b + 4 ≤ k ∧ k < b + 13) W W') : PI w b Z W' := by
  obtain ⟨⟨h1, h1'⟩, ⟨v, h2, h3⟩, ⟨h4, h5⟩, h6, h7, h8⟩ := h
  exact ⟨⟨hO.below h1 (fun k hk hm => by omega), Nat.le_trans h1' hO.size⟩, ⟨v, hO.cell h2 (by simp), own_only h3 hO (fun k hk hm => by omega)⟩, ⟨hO.cell h4 (by simp), hO.cell h5 (by simp)⟩, (hO.frozen h2 (by simp)).trans h6, (hO.frozen h4 (by simp)).trans h7, (hO.frozen h5 (by simp)).trans h8⟩

/-- Where a round stands, as long as all before it were stones. -/
theorem stands {F : ByteArray → St × Bool} {pre A R c : List (Int × ByteArray)} {x y : Int × ByteArray} (hc : pre ++ [x] ++ c = A ++ y :: R) (hy : (F y.2).2 = false) (hg : ∀ x ∈ pre, (F x.2).2 = true) : (∃ A', A = pre ++ x :: A') ∨ (pre = A ∧ x = y) := by
  rw [List.append_assoc] at hc
  rcases List.append_eq_append_iff.1 hc with ⟨a', h1, h2⟩ | ⟨c', h1, h2⟩
  · cases a' with
    | nil => simp at h1 h2; exact .inr ⟨h1.symm, h2.1⟩
    | cons u v => simp at h2; exact .inl ⟨v, by rw [h1, h2.1]⟩
  · cases c' with
    | nil => simp at h1 h2; exact .inr ⟨h1, h2.1.symm⟩
    | cons u v =>
      simp at h2
      have := hg u (by rw [h1]; simp)
      rw [← h2.1, hy] at this
      cases this
theorem own_slice {W : World} {base e size n : Nat} {v : Value} {xs : List Value} (h : W.ownsRow base e size v n xs) : ∃ pt cap, v = .slice pt n cap := by
  obtain ⟨_, ⟨rfl, rfl⟩ | ⟨g, cap, _, rfl, _⟩⟩ := h
  · exact ⟨none, 0, rfl⟩
  · exact ⟨_, cap, rfl⟩
theorem pi_app {w W w4 : World} {b : Nat} {Z : List St} {s : St} {v v' : Value} {O1 O2 : Obj} (hb : w.heap.size = b) (h : PI w b Z W) (hs : b + 13 ≤ W.heap.size) (hv : W.cell? ⟨b, 0, none⟩ = some v) (hown : W.ownsRow (b + 13) 39 4 v Z.length (stCells Z))
    (hown' : w4.ownsRow (b + 13) 39 4 v' (Z.length + 1) (stCells Z ++ [.int .i64 s.t, .int .i64 s.n, .int .i64 s.x, .int .i64 s.y])) (hg : ((W.alloc O1).alloc O2).grownBy w4 v.ownBlock) :
    (w4.cell? ⟨b, 0, none⟩ = some v ∧ w4.frozen? ⟨b, 0, none⟩ = false) ∧ PI w b (Z ++ [s]) (w4.setCell ⟨b, 0, none⟩ v') ∧ (W.heap.size ≤ (w4.setCell ⟨b, 0, none⟩ v').heap.size ∧ ∀ k, b + 4 ≤ k ∧ k < b + 13 → (w4.setCell ⟨b, 0, none⟩ v').heap[k]? = W.heap[k]?) := by
  obtain ⟨⟨h1, h1'⟩, -, ⟨h4, h5⟩, h6, h7, h8⟩ := h
  have hfar : ∀ k, k < W.heap.size → k < b + 13 → w4.heap[k]? = W.heap[k]? := fun k hk hk' => by
    have e1 : ((W.alloc O1).alloc O2).heap[k]? = W.heap[k]? := (Below.heap_alloc _ _ _ (by simp; omega)).trans (Below.heap_alloc _ _ _ hk)
    refine (hg.block k (by simp; omega) (fun e => ?_)).trans e1
    have := World.ownsRow.lt hown k e.symm
    omega
  have c0 : w4.cell? ⟨b, 0, none⟩ = some v := (World.cell?_of_block (a := ⟨b, 0, none⟩) (hfar b (by omega) (by omega))).trans hv
  have hsz : W.heap.size ≤ w4.heap.size := Nat.le_trans (by simp; omega) hg.size
  refine ⟨⟨c0, (World.frozen?_of_block (a := ⟨b, 0, none⟩) (hfar b (by omega) (by omega))).trans h6⟩, ⟨⟨?_, by simpa using Nat.le_trans h1' hsz⟩, ⟨v', set_one _ c0, ?_⟩, ⟨?_, ?_⟩, ?_, ?_, ?_⟩, by simpa using hsz, fun k hk => ?_⟩
  · exact ks ((ka (ka h1 O1) O2).grown hg (ka (ka h1 O1) O2).size (fun k hk => by have := World.ownsRow.lt hown k hk; omega)) _ (by rw [hb]; exact Nat.le_refl _)
  · rw [List.length_append, stCells_snoc]
    exact own_only hown' ((Only.refl (fun k => k = b) w4).setCell _ _ rfl) (fun k hk e => by omega)
  · rw [World.cell?_setCell_other _ _ _ _ (by simp)]
    exact (World.cell?_of_block (a := ⟨b + 1, 0, none⟩) (hfar (b + 1) (by omega) (by omega))).trans h4
  · rw [World.cell?_setCell_other _ _ _ _ (by simp)]
    exact (World.cell?_of_block (a := ⟨b + 2, 0, none⟩) (hfar (b + 2) (by omega) (by omega))).trans h5
  · rw [World.frozen?_setCell]
    exact (World.frozen?_of_block (a := ⟨b, 0, none⟩) (hfar b (by omega) (by omega))).trans h6
  · rw [World.frozen?_setCell]
    exact (World.frozen?_of_block (a := ⟨b + 1, 0, none⟩) (hfar (b + 1) (by omega) (by omega))).trans h7
  · rw [World.frozen?_setCell]
    exact (World.frozen?_of_block (a := ⟨b + 2, 0, none⟩) (hfar (b + 2) (by omega) (by omega))).trans h8
  · rw [Below.heap_setCell _ _ _ _ (by simp; omega)]
    exact hfar k (by omega) hk.2

theorem pi_end {w W : World} {b : Nat} {Z : List St} (z : Int) (hb : w.heap.size = b) (h : PI w b Z W) :
    Below w.heap.size w (((W.setCell ⟨b, 0, none⟩ (.slice none 0 0)).setCell ⟨b + 1, 0, none⟩ (.int .i64 z)).setCell ⟨b + 2, 0, none⟩ (.int .i64 5)) ∧
    ((((W.setCell ⟨b, 0, none⟩ (.slice none 0 0)).setCell ⟨b + 1, 0, none⟩ (.int .i64 z)).setCell ⟨b + 2, 0, none⟩ (.int .i64 5)).cell? ⟨b, 0, none⟩ = some (.slice none 0 0) ∧ (((W.setCell ⟨b, 0, none⟩ (.slice none 0 0)).setCell ⟨b + 1, 0, none⟩ (.int .i64 z)).setCell ⟨b + 2, 0, none⟩ (.int .i64 5)).cell? ⟨b + 1, 0, none⟩ = some (.int .i64 z) ∧ (((W.setCell ⟨b, 0, none⟩ (.slice none 0 0)).setCell ⟨b + 1, 0, none⟩ (.int .i64 z)).setCell ⟨b + 2, 0, none⟩ (.int .i64 5)).cell? ⟨b + 2, 0, none⟩ = some (.int .i64 5)) ∧
    (W.heap.size ≤ (((W.setCell ⟨b, 0, none⟩ (.slice none 0 0)).setCell ⟨b + 1, 0, none⟩ (.int .i64 z)).setCell ⟨b + 2, 0, none⟩ (.int .i64 5)).heap.size ∧ ∀ k, b + 4 ≤ k → (((W.setCell ⟨b, 0, none⟩ (.slice none 0 0)).setCell ⟨b + 1, 0, none⟩ (.int .i64 z)).setCell ⟨b + 2, 0, none⟩ (.int .i64 5)).heap[k]? = W.heap[k]?) := by
  obtain ⟨⟨h1, h1'⟩, ⟨v, h2, -⟩, ⟨h4, h5⟩, -⟩ := h
  refine ⟨ks (ks (ks h1 _ (by rw [hb]; exact Nat.le_refl _)) _ (by rw [hb]; exact Nat.le_succ _)) _ (by rw [hb]; exact Nat.le_add_right _ _), ⟨?_, ?_, ?_⟩, by simp, fun k hk => ?_⟩
  · rw [World.cell?_setCell_other _ _ _ _ (by simp), World.cell?_setCell_other _ _ _ _ (by simp)]; exact set_one _ h2
  · rw [World.cell?_setCell_other _ _ _ _ (by simp)]
    exact set_one _ ((World.cell?_setCell_other _ _ _ _ (by simp)).trans h4)
  · exact set_one _ ((World.cell?_setCell_other _ _ _ _ (by simp)).trans ((World.cell?_setCell_other _ _ _ _ (by simp)).trans h5))
  · rw [Below.heap_setCell _ _ _ _ (by simp; omega), Below.heap_setCell _ _ _ _ (by simp; omega), Below.heap_setCell _ _ _ _ (by simp; omega)]

set_option maxRecDepth 100000 in
set_option maxHeartbeats 4000000 in
theorem parse_stop (s : ByteArray) (ps : List ByteArray) (A R : List (Int × ByteArray)) (z : Int) (p : ByteArray) (F : ByteArray → St × Bool) (hs : s.size ≤ 2000) (hP : Pcs s ps) (hL : linesL 0 ps = A ++ (z, p) :: R) (hA : ∀ x ∈ A, (F x.2).2 = true) (hA15 : A.length ≤ 15) (hp : (F p).2 = false)
    (w : World) (CS : Hid (∀ q W, (q = p ∨ ∃ x ∈ A, x.2 = q) → Below w.heap.size w W → Calls Tryz.prog 38 #[.string q] W fun e w' => e = .returned (.tuple #[(F q).1.val, .bool (F q).2]) ∧ Below W.heap.size W w')) :
    CallsIn Fence.wide 5 Tryz.prog 18 #[.string s] w fun e w' => e = .returned (.tuple #[.slice none 0 0, .int .i64 z, .int .i64 5]) ∧ Below w.heap.size w w' := by
  have CL := Lib.hid (fun w => (callsIn_wide (n := 4)).2 (lines_any s w))
  obtain ⟨b, hb⟩ : ∃ b, w.heap.size = b := ⟨_, rfl⟩
  have HB := Lib.hid hb
  obtain ⟨Zs, hZs⟩ : ∃ Z : Int, (s.size : Int) = Z := ⟨_, rfl⟩
  have hZ2 : Zs ≤ 2000 := by omega
  have hZd : decide (2000 < Zs) = false := decide_eq_false (by omega)
  obtain ⟨i0, hi, hz0, hz1, hz2⟩ := info_parts stone_info
  have HA := Lib.hid hA
  have HL := Lib.hid hL
  have Hp := Lib.hid hp
  clear hb hA hL hp
  refine callsIn_of_wp_marks Tryz.func18 rfl trivial ?_ rfl
  simp only [Tryz.ntmps18, List.size_toArray, List.length_cons, List.length_nil, Nat.reduceAdd, Nat.reduceSub, Array.replicate_succ, Array.replicate_zero, List.push_toArray, List.append_toArray, List.nil_append, List.cons_append]
  gi_wp2_with (first | (refine ⟨trivial, ?_⟩; gi_at_call 37; refine (CL.out _).mono ?_; rintro e wz ⟨rfl, rfl⟩))
  have hb := HB.out
  obtain ⟨V, hV⟩ : ∃ V, (((w.alloc (.cells #[.slice none 0 0] 22)).alloc (.cells #[.int .i64 0] 3)).alloc (.cells #[.int .i64 0] 25)).alloc (.cells #[.string s] 9) = V := ⟨_, rfl⟩
  have hVs : V.heap.size = b + 4 := by rw [← hV]; simp [hb]
  have hVb : Below w.heap.size w V := by rw [← hV]; exact ka (ka (ka (ka (Below.refl _ _) _) _) _) _
  have v0 : V.cell? ⟨b, 0, none⟩ = some (.slice none 0 0) ∧ V.frozen? ⟨b, 0, none⟩ = false := by rw [← hV, ← hb]; exact ⟨by simp [go_sem], by simp [go_sem]⟩
  have v1 : V.cell? ⟨b + 1, 0, none⟩ = some (.int .i64 0) ∧ V.frozen? ⟨b + 1, 0, none⟩ = false := by rw [← hV, ← hb]; exact ⟨by simp [go_sem], by simp [go_sem]⟩
  have v2 : V.cell? ⟨b + 2, 0, none⟩ = some (.int .i64 0) ∧ V.frozen? ⟨b + 2, 0, none⟩ = false := by rw [← hV, ← hb]; exact ⟨by simp [go_sem], by simp [go_sem]⟩
  have v3 : V.cell? ⟨b + 3, 0, none⟩ = some (.string s) := by rw [← hV, ← hb]; simp [go_sem]
  simp only [World.size_alloc, hb, Nat.add_assoc, Nat.reduceAdd]
  rw [hV]
  clear hV
  have hVI : ∀ W, Only (fun k => b + 4 ≤ k ∧ k < b + 13) V W → b + 6 ≤ W.heap.size → PI w b [] W := fun W hO hsz =>
    ⟨⟨hO.below hVb (fun k hk hm => by omega), hsz⟩, ⟨_, hO.cell v0.1 (by simp), World.ownsRow_nil _ _ _ _⟩, ⟨hO.cell v1.1 (by simp), hO.cell v2.1 (by simp)⟩, (hO.frozen v0.1 (by simp)).trans v0.2, (hO.frozen v1.1 (by simp)).trans v1.2, (hO.frozen v2.1 (by simp)).trans v2.2⟩
  refine loop_over rfl (by omega) (gf := 52) (lb := #[.pointer (some ⟨b + 3, 0, none⟩)]) rfl trivial (enters_of Tryz.func52 (by kernel_rfl) rfl)
    (encs := fun x : Int × ByteArray => #[.int .i64 x.1, .string x.2]) (M := fun k => b + 6 ≤ k ∧ k < b + 6 + 7) (K := fun k => b + 6 ≤ k ∧ k < b + 6 + 7) (L := A ++ (z, p) :: R) (b + 4) hVs ⟨by omega, by omega⟩ (fun _ => rfl)
    (fun W1 hb1 hs1 => by have h := lines1_gives (5 - 1) (by omega) (b + 3) (b + 6) s ps (by omega) hP W1 (by omega) (cell_later hb1 v3); rw [HL.out] at h; exact h)
    (fun pre W => (Only (fun k => b + 4 ≤ k ∧ k < b + 13) V W ∧ pre = []) ∨ ((∀ x ∈ pre, (F x.2).2 = true) ∧ PI w b (pre.map fun x => (F x.2).1) W))
    (fun c pre W => (c = .ret ∧ (∃ x, pre = A ++ [x] ∧ x = (z, p))) ∧ (Below w.heap.size w W ∧ (W.cell? ⟨b, 0, none⟩ = some (.slice none 0 0) ∧ W.cell? ⟨b + 1, 0, none⟩ = some (.int .i64 z) ∧ W.cell? ⟨b + 2, 0, none⟩ = some (.int .i64 5)))) ?hI ?hIx (.inl ⟨Only.refl _ _, rfl⟩)
    (fun x => { tmps := #[.string s, undef, .pointer (some ⟨b, 0, none⟩), .pointer (some ⟨b + 1, 0, none⟩), .pointer (some ⟨b + 2, 0, none⟩), .int .i64 x.1, .string x.2, undef, undef, .string s, .int .i64 Zs, .bool false, .string s, .func (.func 52) #[] #[.pointer (some ⟨b + 3, 0, none⟩)], .int .i64 x.1, .string x.2, undef, undef, undef, undef, undef, undef, undef, undef, undef, undef, undef, undef, undef, undef, undef, undef, undef, undef, undef, undef, undef, undef, undef], defers := [] }) ?assign ?body (fun k hk => (by omega)) ?done ?stop
  case hI =>
    rintro pre A' C (⟨h1, h2⟩ | ⟨h1, h2⟩) hO
    · exact .inl ⟨h1.trans (hO.mono (fun k hk => by omega)), h2⟩
    · exact .inr ⟨h1, h2.only hb (hO.mono (fun k hk => by omega))⟩
  case hIx =>
    rintro c pre A' C ⟨h1, h2, h3, h4, h5⟩ hO
    exact ⟨h1, hO.below h2 (fun k hk hm => by omega), hO.cell h3 (by simp; try omega), hO.cell h4 (by simp; try omega), hO.cell h5 (by simp; try omega)⟩
  case assign =>
    intro l' x W K hK
    gi_wp2
    exact hK
  case body =>
    rintro l' pre ⟨y, q⟩ W hsz hKs hin hpre
    obtain ⟨hg, hPI⟩ : (∀ x ∈ pre, (F x.2).2 = true) ∧ PI w b (pre.map fun x => (F x.2).1) W := by
      rcases hin with ⟨h1, rfl⟩ | h
      · exact ⟨fun x hx => (by cases hx), hVI W h1 (by omega)⟩
      · exact h
    have hsz' : b + 13 ≤ W.heap.size := by have := hKs (b + 12) (by omega); omega
    obtain ⟨cc, hc⟩ := hpre
    obtain ⟨⟨Z, hZ⟩, HZ⟩ : (∃ Z, (pre.map fun x => (F x.2).1) = Z) ∧ pre.length = (pre.map fun x => (F x.2).1).length := ⟨⟨_, rfl⟩, by simp⟩
    rw [hZ] at hPI HZ
    obtain ⟨-, ⟨v, c0, hown⟩, -⟩ := id hPI
    obtain ⟨pt, cap, hv⟩ := own_slice hown
    have hPI' := Lib.hid hPI
    clear hin
    rcases stands hc Hp.out hg with ⟨A', hA'⟩ | ⟨hpA, hxz⟩
    · have hgq : (F q).2 = true := HA.out (y, q) (by rw [hA']; simp)
      obtain ⟨sq, hsq⟩ : ∃ sq, (F q).1 = sq := ⟨_, rfl⟩
      have CQ := CS.out q W (.inr ⟨(y, q), by rw [hA']; simp, rfl⟩) hPI.1.1
      rw [hsq, hgq] at CQ
      have CQ' := Lib.hid ((callsIn_wide (n := 5 - 1 - 1 - 1)).2 CQ)
      have hl14 : Z.length ≤ 14 := by have := congrArg List.length hA'; rw [← HZ]; simp at this; omega
      have HG : Hid ((∀ x ∈ pre ++ [(y, q)], (F x.2).2 = true) ∧ ((pre ++ [(y, q)]).map fun x => (F x.2).1) = Z ++ [sq]) := ⟨fun x hx => by
        rcases List.mem_append.1 hx with h | h
        · exact hg x h
        · rw [List.mem_singleton.1 h]; exact hgq, by rw [List.map_append, hZ]; simp [hsq]⟩
      obtain ⟨m, hm⟩ : ∃ m, Z.length = m := ⟨_, rfl⟩
      obtain ⟨Mn, hMn⟩ : ∃ Mn : Int, (m : Int) = Mn := ⟨_, rfl⟩
      have hM16 : (Mn == 16) = false := beq_eq_false_iff_ne.2 (by omega)
      have hm14 : m ≤ 14 := by omega
      have Hm := Lib.hid hm
      have Hown := Lib.hid hown
      rw [hm] at hv
      have Hv := Lib.hid hv
      rw [hv] at c0
      obtain ⟨-, -, -, f0, -, -⟩ := hPI
      obtain ⟨tq, nq, xq, yq⟩ := sq
      clear hc hA' hgq hsq CQ hg hZ HZ hl14 hown hm hv hVI v0 v1 v2 v3
      gi_wp2_with (first | (refine ⟨trivial, ?_⟩; gi_at_call 38; refine (CallsIn.inRound l' CQ'.out).mono ?_; rintro e W2 ⟨rfl, hb2⟩; have HB2 := Lib.hid hb2; have e0 := cell_later hb2 c0; have e1 := alloc_cell (o := .cells #[.int .i64 tq, .int .i64 nq, .int .i64 xq, .int .i64 yq] 39) e0; have HP2 := Lib.hid (hPI'.out.only hb (Only.of_below hb2)); have hown2 := own_only (M := fun _ => False) Hown.out (Only.of_below hb2) (fun _ _ h => h); have HO2 := Lib.hid hown2; have HS2 : Hid (b + 13 ≤ W2.heap.size) := (Nat.le_trans hsz' hb2.size); clear hb2 hown2) | (gi_at_builtin; refine wpListIn_append_own _ rfl _ _ 22 rfl (b + 13) 39 i0 _ 4 32 stones_under hi hz0 hz1 hz2 rfl (by decide) (.slice pt m cap) m (stCells Z) rfl (by have h := HO2.out; rw [Hm.out, Hv.out] at h; exact (h.alloc _).alloc _) ⟨W2.heap.size + 1, 0, none⟩ 1 1 [.int .i64 tq, .int .i64 nq, .int .i64 xq, .int .i64 yq] rfl rfl (World.news_of_block (cs := #[.int .i64 tq, .int .i64 nq, .int .i64 xq, .int .i64 yq]) (t := 39) (fr := (0, 0)) (by have h := heap_alloc_new (W2.alloc (.cells #[.int .i64 tq, .int .i64 nq, .int .i64 xq, .int .i64 yq] 39)) (.cells #[.int .i64 tq, .int .i64 nq, .int .i64 xq, .int .i64 yq] 39); simpa using h)) (by simp [Value.oneCell']) (by simp only [maxLen]; omega) (by omega) (Nat.le_trans HS2.out (by simp; omega)) ?_; intro v' w4 ho hg hnil; obtain ⟨g', cap', rfl⟩ := ownsRow_succ ho; have hq := pi_app (s := ⟨tq, nq, xq, yq⟩) hb HP2.out HS2.out (by rw [Hv.out]; exact e0) HO2.out (by rw [Hm.out]; exact ho) (by rw [Hv.out]; exact hg); obtain ⟨⟨k0, kf⟩, hpi, hkp⟩ := hq; have HQ := Lib.hid hpi; have HKp := Lib.hid hkp; clear ho hg hnil hpi hkp))
      exact ⟨⟨Nat.le_trans HB2.out.size HKp.out.1, fun k hk => (HKp.out.2 k (by omega)).trans (HB2.out.block k (by omega))⟩, .inr ⟨HG.out.1, by rw [HG.out.2]; exact HQ.out⟩⟩
    · obtain ⟨rfl, rfl⟩ : y = z ∧ q = p := by simpa using hxz
      obtain ⟨sq, hsq⟩ : ∃ sq, (F q).1 = sq := ⟨_, rfl⟩
      have CQ := CS.out q W (.inl rfl) hPI.1.1
      rw [hsq, Hp.out] at CQ
      have CQ' := Lib.hid ((callsIn_wide (n := 5 - 1 - 1 - 1)).2 CQ)
      have HE : Hid (pre = A) := hpA
      obtain ⟨tq, nq, xq, yq⟩ := sq
      rw [hv] at c0
      clear hc hpA hsq CQ hg hZ HZ hown hv hVI v0 v1 v2 v3 hPI
      gi_wp2_with (first | (refine ⟨trivial, ?_⟩; gi_at_call 38; refine (CallsIn.inRound l' CQ'.out).mono ?_; rintro e W2 ⟨rfl, hb2⟩; have HB2 := Lib.hid hb2; have HP2 := Lib.hid ((hPI'.out.only hb (Only.of_below hb2)).only hb (Only.of_below (ka (Below.refl _ W2) (.cells #[.int .i64 tq, .int .i64 nq, .int .i64 xq, .int .i64 yq] 39)))); obtain ⟨-, ⟨v', e0, -⟩, ⟨e1, e2⟩, g0, g1, g2⟩ := HP2.out; clear hb2))
      have hE := pi_end y hb HP2.out
      refine ⟨⟨?_, fun k hk => ?_⟩, ⟨rfl, ⟨(y, q), by rw [HE.out], rfl⟩⟩, hE.1, hE.2.1⟩
      · exact Nat.le_trans (Nat.le_trans HB2.out.size (by simp)) hE.2.2.1
      · exact (hE.2.2.2 k (by have := hk; omega)).trans ((Below.heap_alloc _ _ _ (Nat.lt_of_lt_of_le (by have := hk; omega) HB2.out.size)).trans (HB2.out.block k (by have := hk; omega)))
  case done =>
    rintro W (⟨_, h⟩ | ⟨h, _⟩) _
    · simp at h
    · have := h (z, p) (by simp)
      rw [Hp.out] at this
      cases this
  case stop =>
    rintro c pre W hpr ⟨⟨rfl, _⟩, hBw, c0, c1, c2⟩ hD
    have k0 := cell_kept c0 (grownBy_putObj' W (b + 4) (.deferred none)) (fun r e => by cases e; exact ⟨_, hD, rfl⟩)
    have k1 := cell_kept c1 (grownBy_putObj' W (b + 4) (.deferred none)) (fun r e => by cases e; exact ⟨_, hD, rfl⟩)
    have k2 := cell_kept c2 (grownBy_putObj' W (b + 4) (.deferred none)) (fun r e => by cases e; exact ⟨_, hD, rfl⟩)
    have HBw : Hid (Below w.heap.size w (W.putObj (b + 4) (.deferred none))) := ((Only.refl (fun k => k = b + 4) W).putObj (b + 4) (.deferred none) rfl).below hBw (fun k hk e => by omega)
    clear hBw c0 c1 c2 hVI v0 v1 v2 v3
    gi_wp2
    refine ⟨by simp, .inl ⟨_, _, rfl, run_takeDeferred hD, ?_⟩⟩
    exact ⟨.tuple #[.slice none 0 0, .int .i64 z, .int .i64 5], by simp [results, Tryz.f18, go_sem, k0, k1, k2], rfl, HBw.out⟩

end Go.Proofs.YtfdhgimpdmhdeaaGreatDoor
