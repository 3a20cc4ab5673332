/- The lines of a text: package sheet's lines. -/
import Derived.Test.YtfdhgimpdmhdeaaGreatDoorPieces
namespace Go.Proofs.YtfdhgimpdmhdeaaGreatDoor
open Go Go.RowKit Go.Shelf
attribute [local go_sem] Oper.semAt_some

/-- How long texts are in all. -/
def total : List ByteArray → Nat
  | [] => 0
  | p :: r => p.size + total r
theorem total_append (a b : List ByteArray) : total (a ++ b) = total a + total b := by
  induction a with
  | nil => simp [total]
  | cons p r ih => simp only [List.cons_append, total, ih]; omega
theorem total_pcs : ∀ {ps : List ByteArray} {s : ByteArray}, Pcs s ps → total ps = s.size := by
  intro ps
  induction ps with
  | nil => intro s h; exact h.elim
  | cons p r ih =>
    intro s h
    rcases h with ⟨_, rfl, rfl⟩ | ⟨m, _, h2, rfl, h3⟩
    · simp [total]
    · simp only [total, ih h3, ByteArray.size_extract]
      omega
theorem total_ahead {a b : List ByteArray} (h : a <+: b) : total a ≤ total b := by
  obtain ⟨c, rfl⟩ := h
  rw [total_append]
  omega
/-- The lines: where each begins, and its text. -/
def linesL : Int → List ByteArray → List (Int × ByteArray)
  | _, [] => []
  | at_, p :: r => if p.toList = [] then [] else (at_, p) :: linesL (at_ + p.size) r
/-- Texts that are not empty. -/
def Fulls (l : List ByteArray) : Prop := ∀ p ∈ l, ¬ p.toList = []
theorem linesL_append {a b : List ByteArray} (h : Fulls a) : ∀ z : Int, linesL z (a ++ b) = linesL z a ++ linesL (z + total a) b := by
  induction a with
  | nil => intro z; simp [linesL, total]
  | cons p r ih =>
    intro z
    have hp := h p (List.mem_cons_self ..)
    simp only [List.cons_append, linesL, if_neg hp, ih (fun q hq => h q (List.mem_cons_of_mem _ hq)), total]
    congr 3
    omega
theorem linesL_end {a b : List ByteArray} {x : ByteArray} (h : Fulls a) (hx : x.toList = []) : linesL 0 (a ++ x :: b) = linesL 0 a := by
  rw [linesL_append h]
  simp [linesL, hx]
theorem linesL_snoc {a : List ByteArray} {x : ByteArray} (h : Fulls a) (hx : ¬ x.toList = []) : linesL 0 (a ++ [x]) = linesL 0 a ++ [((total a : Int), x)] := by
  rw [linesL_append h]
  simp [linesL, hx]
theorem linesL_ahead {a b : List ByteArray} (h : Fulls a) (hp : a <+: b) : linesL 0 a <+: linesL 0 b := by
  obtain ⟨c, rfl⟩ := hp
  rw [linesL_append h]
  exact List.prefix_append _ _

theorem roundIn_any {n n' l : Nat} {P : Program} {f : FuncId} {tmps : Array Value} {a b : Code} {w : World} {R : Ending → World → Prop} (h : RoundIn Fence.wide n P l f tmps a b w R) : RoundIn Fence.wide n' P l f tmps a b w R := ⟨h.1, fun c cs _ => h.2 c cs (room_wide _)⟩
theorem roundIn_in {n l k : Nat} {P : Program} {f : FuncId} {tmps : Array Value} {a b : Code} {w : World} {R : Ending → World → Prop} (h : RoundIn Fence.wide n P l f tmps a b w R) : RoundIn (Fence.wide.inRound k) n P l f tmps a b w R := h

theorem lines_any (s : ByteArray) (w : World) :
    Calls Tryz.prog 37 #[.string s] w fun e w' => e = .returned (.func (.func 52) #[] #[.pointer (some ⟨w.heap.size, 0, none⟩)]) ∧ w' = w.alloc (.cells #[.string s] 9) := by
  have hmf : ∀ (fn : Fn) (first cap : Array Value) (w : World), (Instr.makeFunc fn first cap).run Tryz.prog w = .ok (.func fn first cap) w := fun _ _ _ _ => rfl
  go_enter Tryz.func37, Tryz.ntmps37
  go_wp2
  go_ret
  exact ⟨rfl, rfl⟩

set_option maxRecDepth 100000 in
set_option maxHeartbeats 4000000 in
theorem lines1_gives (n : Nat) (hn : 3 ≤ n) (sb B : Nat) (s : ByteArray) (ps : List ByteArray) (hs : s.size ≤ 1000000) (hP : Pcs s ps) (W0 : World) (hB : W0.heap.size = B) (hW : W0.cell? ⟨sb, 0, none⟩ = some (.string s)) :
    Gives Fence.wide n Tryz.prog 52 #[.pointer (some ⟨sb, 0, none⟩)] (fun x : Int × ByteArray => #[.int .i64 x.1, .string x.2]) (fun k => B ≤ k ∧ k < B + 7) (fun k => B ≤ k ∧ k < B + 7) (linesL 0 ps) W0 := by
  intro l J Jx hJ hJx hY h0
  have CS := Lib.hid (fun w => (callsIn_wide (n := n - 1)).2 (splitAfter_any s w))
  have HJ := Lib.hid hJ
  have HJx := Lib.hid hJx
  have HY := Lib.hid hY
  have H0 := Lib.hid h0
  have HB := Lib.hid hB
  have hsb : sb < B := by rw [← hB]; exact World.block_lt_of_cell? _ _ hW
  have hWl := cell_later (ka (ka (Below.refl _ W0) (.cells #[.func (.yield l) #[] #[]] 79)) (.cells #[.int .i64 0] 3)) hW
  have hn1 : 1 ≤ n := by omega
  clear hJ hJx hY h0 hB
  refine callsIn_of_wp_marks Tryz.func52 rfl trivial ?_ rfl
  simp only [Tryz.ntmps52, List.size_toArray, List.length_cons, List.length_nil, Nat.reduceAdd, Nat.reduceSub, Array.replicate_succ, Array.replicate_zero, List.push_toArray, List.append_toArray, List.nil_append, List.cons_append]
  gi_wp2_with (first | (refine ⟨trivial, ?_⟩; gi_at_call 53; refine (CS.out _).mono ?_; rintro e wz ⟨rfl, rfl⟩))
  have hB := HB.out
  obtain ⟨V, hV⟩ : ∃ V, ((((W0.alloc (.cells #[.func (.yield l) #[] #[]] 79)).alloc (.cells #[.int .i64 0] 3)).alloc (.cells #[.string s] 9)).alloc (.cells #[.string ⟨#[10]⟩] 9)).alloc (.cells #[.int .i64 1] 3) = V := ⟨_, rfl⟩
  have hVs : V.heap.size = B + 5 := by rw [← hV]; simp [hB]
  have hVb : Below W0.heap.size W0 V := by rw [← hV]; exact ka (ka (ka (ka (ka (Below.refl _ _) _) _) _) _) _
  have v0 : V.cell? ⟨B, 0, none⟩ = some (.func (.yield l) #[] #[]) := by rw [← hV, ← hB]; simp [go_sem]
  have v1 : V.cell? ⟨B + 1, 0, none⟩ = some (.int .i64 0) := by rw [← hV, ← hB]; simp [go_sem]
  have f1 : V.frozen? ⟨B + 1, 0, none⟩ = false := by rw [← hV, ← hB]; simp [go_sem]
  have v2 : V.cell? ⟨B + 2, 0, none⟩ = some (.string s) := by rw [← hV, ← hB]; simp [go_sem]
  have f2 : V.frozen? ⟨B + 2, 0, none⟩ = false := by rw [← hV, ← hB]; simp [go_sem]
  have v3 : V.cell? ⟨B + 3, 0, none⟩ = some (.string ⟨#[10]⟩) := by rw [← hV, ← hB]; simp [go_sem]
  have v4 : V.cell? ⟨B + 4, 0, none⟩ = some (.int .i64 1) := by rw [← hV, ← hB]; simp [go_sem]
  have hj0 : J [] V := HJ.out _ _ _ H0.out (Only.of_below hVb)
  simp only [World.size_alloc, hB]
  rw [hV]
  clear hV hWl hVb
  refine loop_over rfl hn1 (gf := 77) (lb := #[.pointer (some ⟨B + 3, 0, none⟩), .pointer (some ⟨B + 2, 0, none⟩), .pointer (some ⟨B + 4, 0, none⟩)]) rfl trivial (enters_of Tryz.func77 (by kernel_rfl) rfl)
    (encs := fun x : ByteArray => #[.string x]) (M := fun k => k = B + 2) (K := fun k => k = B + 3 ∨ k = B + 2 ∨ k = B + 4) (L := ps) (B + 5) hVs ⟨by omega, by omega⟩ (fun _ => rfl)
    (fun W1 hb1 _ => splitSeq1_gives (n - 1) (by omega) (B + 3) (B + 2) (B + 4) (by omega) (by omega) s ps hs hP W1 ⟨cell_later hb1 v3, ⟨cell_later hb1 v2, (hb1.frozen (World.block_lt_of_cell? _ _ v2)).trans f2⟩, cell_later hb1 v4⟩)
    (fun pre W => Fulls pre ∧ J (linesL 0 pre) W ∧ (W.cell? ⟨B, 0, none⟩ = some (.func (.yield l) #[] #[]) ∧ W.cell? ⟨B + 1, 0, none⟩ = some (.int .i64 (total pre)) ∧ W.frozen? ⟨B + 1, 0, none⟩ = false))
    (fun c _ W => c = .ret ∧ (J (linesL 0 ps) W ∨ ∃ pr, pr <+: linesL 0 ps ∧ Jx pr W)) ?hI ?hIx ⟨fun p hp => (by cases hp), hj0, v0, v1, f1⟩
    (fun x => { tmps := #[.func (.yield l) #[] #[], .pointer (some ⟨sb, 0, none⟩), .pointer (some ⟨B, 0, none⟩), .pointer (some ⟨B + 1, 0, none⟩), .string x, .string s, .func (.func 77) #[] #[.pointer (some ⟨B + 3, 0, none⟩), .pointer (some ⟨B + 2, 0, none⟩), .pointer (some ⟨B + 4, 0, none⟩)], .string x, undef, undef, undef, undef, undef, undef, undef, undef, undef, undef, undef, undef, undef], defers := [] }) ?assign ?body (fun k hk => (by omega)) ?done ?stop
  case hI =>
    rintro p A C ⟨h1, h2, h3, h4, h5⟩ hO
    have hO' : Only (fun k => B ≤ k ∧ k < B + 7) A C := hO.mono (fun k hk => by omega)
    refine ⟨h1, HJ.out _ _ _ h2 hO', hO.cell h3 (by simp; try omega), hO.cell h4 (by simp; try omega), (hO.frozen h4 (by simp; try omega)).trans h5⟩
  case hIx =>
    rintro c p A C ⟨h1, h2⟩ hO
    have hO' : Only (fun k => B ≤ k ∧ k < B + 7) A C := hO.mono (fun k hk => by omega)
    refine ⟨h1, ?_⟩
    rcases h2 with h | ⟨pr, h, h'⟩
    · exact .inl (HJ.out _ _ _ h hO')
    · exact .inr ⟨pr, h, HJx.out _ _ _ h' hO'⟩
  case assign =>
    intro l' x W K hK
    gi_wp2
    exact hK
  case body =>
    rintro l' pre x W hsz hKs ⟨hf, hj, c0, c1, cf⟩ hpre
    by_cases hx : x.toList = []
    · have HE : Hid (linesL 0 ps = linesL 0 pre) := by
        obtain ⟨c, hc⟩ := hpre
        show _ = _
        rw [← hc, List.append_assoc]
        exact linesL_end hf hx
      have HJ0 := Lib.hid hj
      clear hpre hf hj
      gi_wp2_with (refine ⟨fun f h => (by cases h), ?_⟩)
      exact ⟨⟨Nat.le_refl _, fun _ _ => rfl⟩, rfl, .inl (by rw [HE.out]; exact HJ0.out)⟩
    · have hf' : Fulls (pre ++ [x]) := fun p hp => by
        rcases List.mem_append.1 hp with h | h
        · exact hf p h
        · rw [List.mem_singleton.1 h]; exact hx
      have hsn := linesL_snoc hf hx
      have hpp := linesL_ahead hf' hpre
      have htt := total_ahead hpre
      rw [total_append, total_pcs hP] at htt
      simp only [total] at htt
      obtain ⟨fn, tmps, assign, bdy, hy, hR⟩ := HY.out (linesL 0 pre) ((total pre : Int), x) W hj (fun k hk => by omega) (by rw [← hsn]; exact hpp)
      have hR' := roundIn_in (k := l') (roundIn_any (n' := n - 1 - 1 - 1) hR)
      have HF := Lib.hid hf'
      have HS := Lib.hid hsn
      have HPp := Lib.hid hpp
      have hn2 : 1 ≤ n - 1 - 1 := by omega
      have hxe : x.toList.isEmpty = false := by simpa using hx
      obtain ⟨T, hT⟩ : ∃ T : Int, (total pre : Int) = T := ⟨_, rfl⟩
      obtain ⟨Z, hZ⟩ : ∃ Z : Int, (x.size : Int) = Z := ⟨_, rfl⟩
      have hT0 : 0 ≤ T := by omega
      have hZ0 : 0 ≤ Z := by omega
      have hTZ : T + Z ≤ 1000000 := by omega
      have HT : Hid ((total (pre ++ [x]) : Int) = T + Z) := by show _ = _; rw [total_append]; simp only [total]; omega
      dsimp only at hy
      rw [hT] at hy c1
      clear hpre hf hj hf' hsn hpp htt hT hR hP
      gi_wp2
      refine hR'.mono ?_
      rintro e W3 (⟨rfl, hJ3, hk3⟩ | ⟨rfl, hJx3, hk3⟩)
      · have d0 : W3.cell? ⟨B, 0, none⟩ = some (.func (.yield l) #[] #[]) := (World.cell?_of_block (a := ⟨B, 0, none⟩) (hk3.2 B (by omega))).trans c0
        have d1 : W3.cell? ⟨B + 1, 0, none⟩ = some (.int .i64 T) := (World.cell?_of_block (a := ⟨B + 1, 0, none⟩) (hk3.2 (B + 1) (by omega))).trans c1
        have df : W3.frozen? ⟨B + 1, 0, none⟩ = false := (World.frozen?_of_block (a := ⟨B + 1, 0, none⟩) (hk3.2 (B + 1) (by omega))).trans cf
        have HJ3 := Lib.hid hJ3
        have Hk3 := Lib.hid hk3
        clear hJ3 hk3 hy hR' c0 c1 cf
        gi_wp2
        refine ⟨⟨by simpa using Hk3.out.1, fun k hk => ?_⟩, HF.out, ?_, ?_, ?_, ?_⟩
        · rw [Below.heap_setCell _ _ _ _ (by simp; omega)]
          exact Hk3.out.2 k (by have := hk; omega)
        · rw [HS.out]
          exact HJ.out _ _ _ HJ3.out ((Only.refl _ _).setCell _ _ (by simp))
        · rw [World.cell?_setCell_other _ _ _ _ (by simp)]; exact d0
        · rw [HT.out]; exact set_one _ d1
        · simpa using df
      · have HJ3 := Lib.hid hJx3
        have Hk3 := Lib.hid hk3
        clear hJx3 hk3 hy hR' c0 c1 cf
        gi_wp2
        exact ⟨⟨Hk3.out.1, fun k hk => Hk3.out.2 k (by omega)⟩, rfl, .inr ⟨_, by rw [← HS.out]; exact HPp.out, HJ3.out⟩⟩
  case done =>
    rintro W ⟨hf, hj, c0, c1, cf⟩ hD
    have HJ0 := Lib.hid (HJ.out _ _ _ hj ((Only.refl _ W).putObj (B + 5) (.deferred none) (by omega)))
    clear hf hj c0 c1 cf
    gi_wp2
    refine ⟨by simp, .inl ⟨_, _, rfl, run_takeDeferred hD, ?_⟩⟩
    exact ⟨_, results_none rfl _ _ _, ⟨_, rfl⟩, .inl HJ0.out⟩
  case stop =>
    rintro c pre W hp ⟨rfl, h⟩ hD
    have HJ0 : Hid (J (linesL 0 ps) (W.putObj (B + 5) (.deferred none)) ∨ ∃ pr, pr <+: linesL 0 ps ∧ Jx pr (W.putObj (B + 5) (.deferred none))) := by
      have hO : Only (fun k => B ≤ k ∧ k < B + 7) W (W.putObj (B + 5) (.deferred none)) := (Only.refl _ W).putObj (B + 5) (.deferred none) (by omega)
      rcases h with h | ⟨pr, h1, h2⟩
      · exact .inl (HJ.out _ _ _ h hO)
      · exact .inr ⟨pr, h1, HJx.out _ _ _ h2 hO⟩
    clear h
    gi_wp2
    refine ⟨by simp, .inl ⟨_, _, rfl, run_takeDeferred hD, ?_⟩⟩
    exact ⟨_, results_none rfl _ _ _, ⟨_, rfl⟩, HJ0.out⟩

end Go.Proofs.YtfdhgimpdmhdeaaGreatDoor
