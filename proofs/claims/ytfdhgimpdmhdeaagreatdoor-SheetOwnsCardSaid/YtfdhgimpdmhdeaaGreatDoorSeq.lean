/- A loop over an iterator that writes boxes of its own between the rounds: whose blocks may turn is told by a set of blocks. -/
import Derived.Test.YtfdhgimpdmhdeaaGreatDoorStoneOf
import Derived.RangeFuncNested
import Derived.RangeFuncCalls
import Derived.RangeFuncLeaves
import Derived.Shelf.Abstract
import Derived.OwnWalkIn
import Derived.TacticsInMore
import Derived.LoopNIn
import Derived.LoopIn
namespace Go.Proofs.YtfdhgimpdmhdeaaGreatDoor
open Go Go.RowKit Go.Shelf

/-- Of what was there, only blocks of M are other than they were. -/
structure Only (M : Nat → Prop) (W W' : World) : Prop where
  os : W'.os = W.os
  tape : W'.tape = W.tape
  output : W'.output = W.output
  size : W.heap.size ≤ W'.heap.size
  block : ∀ k, k < W.heap.size → ¬ M k → W'.heap[k]? = W.heap[k]?
theorem Only.refl (M : Nat → Prop) (W : World) : Only M W W := ⟨rfl, rfl, rfl, Nat.le_refl _, fun _ _ _ => rfl⟩
theorem Only.trans {M : Nat → Prop} {A B C : World} (h : Only M A B) (k : Only M B C) : Only M A C :=
  ⟨k.os.trans h.os, k.tape.trans h.tape, k.output.trans h.output, Nat.le_trans h.size k.size, fun j hj hm => (k.block j (Nat.lt_of_lt_of_le hj h.size) hm).trans (h.block j hj hm)⟩
theorem Only.mono {M M' : Nat → Prop} {A B : World} (h : Only M A B) (hM : ∀ k, M k → M' k) : Only M' A B := ⟨h.os, h.tape, h.output, h.size, fun k hk hm => h.block k hk (fun e => hm (hM k e))⟩
theorem Only.of_below {M : Nat → Prop} {A B : World} (h : Below A.heap.size A B) : Only M A B := ⟨h.os, h.tape, h.output, h.size, fun k hk _ => h.block k hk⟩
theorem Only.setCell {M : Nat → Prop} {A B : World} (h : Only M A B) (a : Addr) (v : Value) (ha : M a.block) : Only M A (B.setCell a v) :=
  ⟨h.os, h.tape, h.output, by simpa using h.size, fun k hk hm => by
    rw [Below.heap_setCell _ _ _ _ (fun e => hm (by rw [e]; exact ha))]
    exact h.block k hk hm⟩
theorem Only.putObj {M : Nat → Prop} {A B : World} (h : Only M A B) (r : Nat) (o : Obj) (ha : M r) : Only M A (B.putObj r o) :=
  ⟨h.os, h.tape, h.output, by simpa using h.size, fun k hk hm => (World.putObj_heap_other (fun e => hm (by rw [e]; exact ha))).trans (h.block k hk hm)⟩
theorem Only.cell {M : Nat → Prop} {A B : World} {a : Addr} {v : Value} (h : Only M A B) (ha : A.cell? a = some v) (hm : ¬ M a.block) : B.cell? a = some v := by
  have hb := h.block _ (World.block_lt_of_cell? _ _ ha) hm
  exact (World.cell?_of_block hb).trans ha
theorem Only.frozen {M : Nat → Prop} {A B : World} {a : Addr} {v : Value} (h : Only M A B) (ha : A.cell? a = some v) (hm : ¬ M a.block) : B.frozen? a = A.frozen? a :=
  World.frozen?_of_block (h.block _ (World.block_lt_of_cell? _ _ ha) hm)
theorem Only.obj {M : Nat → Prop} {A B : World} {k : Nat} {o : Obj} (h : Only M A B) (ha : A.heap[k]? = some o) (hm : ¬ M k) : B.heap[k]? = some o := (h.block k (Array.getElem?_eq_some_iff.1 ha).1 hm).trans ha
theorem Only.below {M : Nat → Prop} {w A B : World} (h : Only M A B) (hw : Below w.heap.size w A) (hM : ∀ k, k < w.heap.size → ¬ M k) : Below w.heap.size w B :=
  ⟨h.os.trans hw.os, h.tape.trans hw.tape, h.output.trans hw.output, Nat.le_trans hw.size h.size, fun k hk => (h.block k (Nat.lt_of_lt_of_le hk hw.size) (hM k hk)).trans (hw.block k hk)⟩

section
variable {F : Fence} {n : Nat} {P : Program} {α : Type}

/-- What an iterator promises a loop whose rounds leave the blocks of K as they are, where it itself turns only blocks of M, and gives the elements of L. -/
def Gives (F : Fence) (n : Nat) (P : Program) (g : Nat) (lb : Array Value) (encs : α → Array Value) (M K : Nat → Prop) (L : List α) (W0 : World) : Prop :=
  ∀ (l : Nat) (J Jx : List α → World → Prop), (∀ s W W', J s W → Only M W W' → J s W') → (∀ s W W', Jx s W → Only M W W' → Jx s W') →
    (∀ pre x W, J pre W → (∀ k, K k → k < W.heap.size) → (pre ++ [x]) <+: L → YieldAt F (n - 1) P l (encs x) W fun e W' =>
      (e = .returned (.bool true) ∧ J (pre ++ [x]) W' ∧ (W.heap.size ≤ W'.heap.size ∧ ∀ k, K k → W'.heap[k]? = W.heap[k]?)) ∨ (e = .returned (.bool false) ∧ Jx (pre ++ [x]) W' ∧ (W.heap.size ≤ W'.heap.size ∧ ∀ k, K k → W'.heap[k]? = W.heap[k]?))) →
    J [] W0 →
    CallsIn F n P g (#[.func (.yield l) #[] #[]] ++ lb) W0 fun e W' => (∃ v, e = .returned v) ∧ (J L W' ∨ ∃ pre, pre <+: L ∧ Jx pre W')

/-- How a round may be left. -/
def Leave (K : Nat → Prop) (I : List α → World → Prop) (Ix : Code → List α → World → Prop) (xs : List α) (W : World) : Exit → Act → World → Prop
  | .normal, _, W' => (W.heap.size ≤ W'.heap.size ∧ ∀ k, K k → W'.heap[k]? = W.heap[k]?) ∧ I xs W'
  | .ret, _, W' => (W.heap.size ≤ W'.heap.size ∧ ∀ k, K k → W'.heap[k]? = W.heap[k]?) ∧ Ix .ret xs W'
  | .exit id, _, W' => (W.heap.size ≤ W'.heap.size ∧ ∀ k, K k → W'.heap[k]? = W.heap[k]?) ∧ Ix (.exit id) xs W'
  | .goto t, _, W' => (W.heap.size ≤ W'.heap.size ∧ ∀ k, K k → W'.heap[k]? = W.heap[k]?) ∧ Ix (.goto t) xs W'
  | .panic _, _, _ => False
  | .outgrown, _, _ => False

/-- The loop: 'D' and 'D + 1' are its two blocks of book-keeping, the first ones that it makes. -/
theorem loop_over {g : Operand} {ps : Array Tmp} {assign body : Code} {Q : Exit → Act → World → Prop} {a : Act} {w : World} (hro : F.round = none) (h1 : 1 ≤ n) {gf : Nat} {lb : Array Value} (hg : a.eval g = .func (.func gf) #[] lb) (hFg : F.fn gf)
    (eg : ∀ args w, (callFunc gf args).run P w = .ok (.enter gf args) w) {encs : α → Array Value} {M K : Nat → Prop} {L : List α} (D : Nat) (hD : w.heap.size = D) (hMD : ¬ M D ∧ ¬ M (D + 1)) (hps : ∀ x, (encs x).size = ps.size)
    (hit : ∀ W1 : World, Below w.heap.size w W1 → W1.heap.size = D + 2 → Gives F (n - 1) P gf lb encs M K L W1)
    (I : List α → World → Prop) (Ix : Code → List α → World → Prop) (hI : ∀ s W W', I s W → Only (fun k => M k ∨ k = D ∨ k = D + 1) W W' → I s W') (hIx : ∀ c s W W', Ix c s W → Only (fun k => M k ∨ k = D ∨ k = D + 1) W W' → Ix c s W') (h0 : I [] w)
    (a₁ : α → Act) (hassign : ∀ (l : Nat) (x : α) (W : World) (K : Act → World → Prop), K (a₁ x) W → assign.wpIn (F.inRound l) (n - 1 - 1) P (Exit.then K (fun _ _ _ => False)) { tmps := (ps.zip (encs x)).foldl (fun t (p, v) => t.setIfInBounds p v) a.tmps, defers := [] } W)
    (hbody : ∀ (l : Nat) (pre : List α) (x : α) (W : World), D + 2 ≤ W.heap.size → (∀ k, K k → k < W.heap.size) → I pre W → (pre ++ [x]) <+: L → body.wpIn (F.inRound l) (n - 1 - 1) P (Leave (fun k => K k ∨ k = D ∨ k = D + 1) I Ix (pre ++ [x]) W) (a₁ x) W)
    (hKD : ∀ k, K k → k ≠ D ∧ k ≠ D + 1)
    (hdone : ∀ W : World, I L W → W.heap[D]? = some (.deferred (some [])) → Q .normal { a with defers := { target := .collected D, args := #[] } :: a.defers } W)
    (hstop : ∀ (c : Code) (pre : List α) (W : World), pre <+: L → Ix c pre W → W.heap[D]? = some (.deferred (some [])) → c.wpIn F n P Q { a with defers := { target := .collected D, args := #[] } :: a.defers } W) :
    (Code.rangeFunc g ps assign body).wpIn F n P Q a w := by
  refine wpIn_rangeFunc ?_
  intro fn hfn
  rw [hro]
  let rec_ : LoopState → Option Code → Loop := fun st pe => { state := st, pending := pe, fn, tmps := a.tmps, params := ps, assign, body, defers := D }
  have hent := run_enterLoop_outer (P := P) (w := w) fn a.tmps ps assign body
  rw [hD] at hent
  obtain ⟨W1, hW1⟩ : ∃ W1, (w.alloc (.deferred (some []))).alloc (.loop (rec_ .ready none)) = W1 := ⟨_, rfl⟩
  have hB1 : Below w.heap.size w W1 := by rw [← hW1]; exact ka (ka (Below.refl _ _) _) _
  have hs1 : W1.heap.size = D + 2 := by rw [← hW1]; simp [hD]
  have hl1 : W1.heap[D + 1]? = some (.loop (rec_ .ready none)) := by
    rw [← hW1]
    have := World.alloc_heap_new (w.alloc (.deferred (some []))) (.loop (rec_ .ready none))
    rwa [World.size_alloc, hD] at this
  have hk1 : W1.heap[D]? = some (.deferred (some [])) := by
    rw [← hW1]
    have h := World.alloc_heap_new w (.deferred (some []))
    rw [hD] at h
    exact (Below.heap_alloc _ _ _ (by simp [hD])).trans h
  refine ⟨D + 1, [{ target := .collected D, args := #[] }], W1, { target := .fn (.func gf) lb, args := #[.func (.yield (D + 1)) #[] #[]] }, W1, gf, #[.func (.yield (D + 1)) #[] #[]] ++ lb, W1, ?_, ?_, ?_, ?_, fun _ => h1, ?_⟩
  · rw [← hW1]; exact hent
  · simp only [resolve, hg]
    simp [go_sem]
  · intro f' hf'; simp [Target.leads] at hf'; subst hf'; exact hFg
  · simp [invoke, go_sem, eg]
  · have keep : ∀ {A B : World}, Only M A B → A.heap[D + 1]? = B.heap[D + 1]? ∨ A.heap[D + 1]? = none := fun {A B} h => by
      by_cases hlt : D + 1 < A.heap.size
      · exact .inl (h.block _ hlt hMD.2).symm
      · exact .inr (by simp; omega)
    refine (hit W1 hB1 hs1 (D + 1) (fun pre W => I pre W ∧ W.heap[D + 1]? = some (.loop (rec_ .ready none)) ∧ W.heap[D]? = some (.deferred (some [])))
      (fun pre W => ∃ c, Ix c pre W ∧ W.heap[D + 1]? = some (.loop (rec_ .done (some c))) ∧ W.heap[D]? = some (.deferred (some [])))
      (fun s A B hs hO => ⟨hI s A B hs.1 (hO.mono fun k h => .inl h), hO.obj hs.2.1 hMD.2, hO.obj hs.2.2 hMD.1⟩)
      (fun s A B hs hO => by obtain ⟨c, h1, h2, h3⟩ := hs; exact ⟨c, hIx c s A B h1 (hO.mono fun k h => .inl h), hO.obj h2 hMD.2, hO.obj h3 hMD.1⟩)
      ?_ ⟨hI [] w W1 h0 (Only.of_below hB1), hl1, hk1⟩).mono ?_
    · rintro pre x W ⟨hi, hl, hk⟩ hK hpre
      have hlt : D + 1 < W.heap.size := (Array.getElem?_eq_some_iff.1 hl).1
      refine ⟨fn, _, assign, body, run_yield (P := P) (args := encs x) hl (hps x), roundIn_of_wpIn hfn (hassign _ x W _ ?_)⟩
      refine ⟨_, run_beginRound hl rfl, ?_⟩
      obtain ⟨Wb, hWb⟩ : ∃ Wb, W.putObj (D + 1) (.loop { rec_ .ready none with state := .busy }) = Wb := ⟨_, rfl⟩
      have hlb : Wb.heap[D + 1]? = some (.loop { rec_ .ready none with state := .busy }) := by rw [← hWb]; exact World.putObj_heap_same hlt
      have hkb : Wb.heap[D]? = some (.deferred (some [])) := by rw [← hWb]; exact (World.putObj_heap_other (by omega)).trans hk
      have hsb : Wb.heap.size = W.heap.size := by rw [← hWb]; simp
      have hib : I pre Wb := hI pre W Wb hi (by rw [← hWb]; exact (Only.refl _ W).putObj _ _ (.inr (.inr rfl)))
      have hob : ∀ k, K k → Wb.heap[k]? = W.heap[k]? := fun k hk => by rw [← hWb]; exact World.putObj_heap_other (hKD k hk).2
      rw [hWb]
      refine wpIn_mono (hbody _ pre x Wb (by omega) (fun k hk => by rw [hsb]; exact hK k hk) hib hpre) ?_
      have fin : ∀ (jump : Option Code) (W3 : World), (Wb.heap.size ≤ W3.heap.size ∧ ∀ k, (K k ∨ k = D ∨ k = D + 1) → W3.heap[k]? = Wb.heap[k]?) →
          (Instr.endRound (D + 1) jump).run P W3 = .ok (.bool jump.isNone) (W3.putObj (D + 1) (.loop (rec_ (if jump.isNone then .ready else .done) jump))) ∧
          (W3.putObj (D + 1) (.loop (rec_ (if jump.isNone then .ready else .done) jump))).heap[D + 1]? = some (.loop (rec_ (if jump.isNone then .ready else .done) jump)) ∧
          (W3.putObj (D + 1) (.loop (rec_ (if jump.isNone then .ready else .done) jump))).heap[D]? = some (.deferred (some [])) ∧
          (W.heap.size ≤ (W3.putObj (D + 1) (.loop (rec_ (if jump.isNone then .ready else .done) jump))).heap.size ∧ ∀ k, K k → (W3.putObj (D + 1) (.loop (rec_ (if jump.isNone then .ready else .done) jump))).heap[k]? = W.heap[k]?) := fun jump W3 h3 => by
        have hl3 : W3.heap[D + 1]? = some (.loop { rec_ .ready none with state := .busy }) := (h3.2 _ (.inr (.inr rfl))).trans hlb
        exact ⟨run_endRound (P := P) jump hl3, World.putObj_heap_same (Array.getElem?_eq_some_iff.1 hl3).1, (World.putObj_heap_other (by omega)).trans ((h3.2 _ (.inr (.inl rfl))).trans hkb),
          by simp; omega, fun k hk => ((World.putObj_heap_other (hKD k hk).2).trans (h3.2 k (.inl hk))).trans (hob k hk)⟩
      have put : ∀ (W3 : World) (o : Obj), Only (fun k => M k ∨ k = D ∨ k = D + 1) W3 (W3.putObj (D + 1) o) := fun W3 o => (Only.refl _ W3).putObj _ _ (.inr (.inr rfl))
      rintro e a3 W3 hp
      cases e with
      | normal =>
        obtain ⟨h3, hi3⟩ := hp
        obtain ⟨r1, r2, r3, r4⟩ := fin none W3 h3
        exact ⟨_, _, r1, .inl ⟨rfl, ⟨hI _ _ _ hi3 (put _ _), r2, r3⟩, r4⟩⟩
      | ret =>
        obtain ⟨h3, hi3⟩ := hp
        obtain ⟨r1, r2, r3, r4⟩ := fin (some .ret) W3 h3
        exact ⟨_, _, r1, .inr ⟨rfl, ⟨.ret, hIx _ _ _ _ hi3 (put _ _), r2, r3⟩, r4⟩⟩
      | exit id =>
        obtain ⟨h3, hi3⟩ := hp
        obtain ⟨r1, r2, r3, r4⟩ := fin (some (.exit id)) W3 h3
        exact ⟨_, _, r1, .inr ⟨rfl, ⟨.exit id, hIx _ _ _ _ hi3 (put _ _), r2, r3⟩, r4⟩⟩
      | goto t =>
        obtain ⟨h3, hi3⟩ := hp
        obtain ⟨r1, r2, r3, r4⟩ := fin (some (.goto t)) W3 h3
        exact ⟨_, _, r1, .inr ⟨rfl, ⟨.goto t, hIx _ _ _ _ hi3 (put _ _), r2, r3⟩, r4⟩⟩
      | panic ch => exact hp.elim
      | outgrown => exact hp.elim
    · rintro e W2 ⟨⟨v, rfl⟩, ⟨hi, hl, hk⟩ | ⟨pre, hSp, c, hi, hl, hk⟩⟩
      · exact ⟨none, _, run_endLoop (P := P) hl (by simp [rec_]), hdone _ (hI _ _ _ hi ((Only.refl _ W2).putObj _ _ (.inr (.inr rfl)))) ((World.putObj_heap_other (by omega)).trans hk)⟩
      · exact ⟨some c, _, run_endLoop (P := P) hl (by simp [rec_]), hstop c pre _ hSp (hIx _ _ _ _ hi ((Only.refl _ W2).putObj _ _ (.inr (.inr rfl)))) ((World.putObj_heap_other (by omega)).trans hk)⟩
end

end Go.Proofs.YtfdhgimpdmhdeaaGreatDoor
