/- Names in a map: what package sheet's Check keeps. -/
import Derived.Test.YtfdhgimpdmhdeaaGreatDoorOverlap
import Derived.Maps.OwnOps
namespace Go.Proofs.YtfdhgimpdmhdeaaGreatDoor
open Go Go.RowKit Go.MapKept

/-- A stone's name. -/
abbrev nmV (p : Int × Int) : Value := .agg #[.int .i64 p.1, .int .i64 p.2]
/-- A map that holds these names. -/
def SeenAt (W : World) (b : Nat) (M : List (Int × Int)) : Prop := ∃ es clock, W.heap[b]? = some (.map es clock) ∧ es.toList.map (fun e => (e.key, e.val)) = M.map (fun p => (nmV p, Value.bool true))

set_option maxRecDepth 100000 in
theorem name_eq (p q : Int × Int) (w : World) : (Op.equal 70 (nmV p) (nmV q)).run Tryz.prog w = .ok (decide (p = q)) w := by
  obtain ⟨a, b⟩ := p
  obtain ⟨c, d⟩ := q
  simp [Op.equal, Op.maxDepth, go_sem]
  by_cases h1 : a = c <;> by_cases h2 : b = d <;> simp [h1, h2]

set_option maxRecDepth 100000 in
theorem name_check (p : Int × Int) (em : Bool) (w : World) : (Instr.checkKey em 10000 70 (nmV p)).run Tryz.prog w = .ok () w := by
  kernel_rfl

set_option maxRecDepth 100000 in
theorem seen_zero (w : World) : (zeroValue 4).run Tryz.prog w = .ok (.bool false) w := by
  kernel_rfl

theorem name_asking (p : Int × Int) (w : World) : ∀ (M : List (Int × Int)) (es : List MapEntry) (i : Nat), es.map (fun e => (e.key, e.val)) = M.map (fun p => (nmV p, Value.bool true)) →
    (p ∈ M → ∃ j, (Instr.findAsking 70 (nmV p) es i).run Tryz.prog w = .ok (some (j, .bool true)) w) ∧ (p ∉ M → (Instr.findAsking 70 (nmV p) es i).run Tryz.prog w = .ok none w)
  | [], es, i, h => by
    have : es = [] := by simpa using h
    subst this
    exact ⟨fun h => by simp at h, fun _ => by simp [Instr.findAsking]⟩
  | q :: M, [], i, h => by simp at h
  | q :: M, e :: es, i, h => by
    simp only [List.map_cons, List.cons.injEq, Prod.mk.injEq] at h
    obtain ⟨⟨hk, hv⟩, ht⟩ := h
    have ih := name_asking p w M es (i + 1) ht
    have he := name_eq p q w
    rw [← hk] at he
    by_cases hpq : p = q
    · subst hpq
      refine ⟨fun _ => ⟨i, ?_⟩, fun hn => absurd (List.mem_cons_self ..) hn⟩
      simp [Instr.findAsking, he, hv, Result.andThen]
    · have hrun : (Instr.findAsking 70 (nmV p) (e :: es) i).run Tryz.prog w = (Instr.findAsking 70 (nmV p) es (i + 1)).run Tryz.prog w := by
        simp [Instr.findAsking, he, hpq, Result.andThen]
      rw [hrun]
      exact ⟨fun hm => ih.1 ((List.mem_cons.1 hm).resolve_left hpq), fun hn => ih.2 (fun h => hn (List.mem_cons_of_mem _ h))⟩

set_option maxRecDepth 100000 in
theorem name_find (p : Int × Int) (w : World) (M : List (Int × Int)) (es : List MapEntry) (h : es.map (fun e => (e.key, e.val)) = M.map (fun p => (nmV p, Value.bool true))) :
    (p ∈ M → ∃ j, (Instr.findKey 70 (nmV p) es).run Tryz.prog w = .ok (some (j, .bool true)) w) ∧ (p ∉ M → (Instr.findKey 70 (nmV p) es).run Tryz.prog w = .ok none w) := by
  obtain ⟨d, hd, hs⟩ : ∃ d, Tryz.prog.underlying 70 = some d ∧ ∀ v, Instr.sameNow d (nmV p) v = none := ⟨.struct (Tryz.prog.fieldsOf 70), by kernel_rfl, fun v => by simp [Instr.sameNow]⟩
  have ha := name_asking p w M es 0 h
  match es, M, h with
  | [], [], _ =>
    refine ⟨fun h => by simp at h, fun _ => ?_⟩
    simp [Instr.findKey, run_underlying hd, Instr.findNow, Result.andThen]
  | [], q :: M, h => simp at h
  | e :: es, [], h => simp at h
  | e :: es, q :: M, h =>
    have hrun : (Instr.findKey 70 (nmV p) (e :: es)).run Tryz.prog w = (Instr.findAsking 70 (nmV p) (e :: es) 0).run Tryz.prog w := by
      simp [Instr.findKey, run_underlying hd, Instr.findNow, hs, Result.andThen]
    rw [hrun]
    exact ha

set_option maxRecDepth 100000 in
/-- A name looked up. -/
theorem seen_look (p : Int × Int) (w : World) (b : Nat) (M : List (Int × Int)) (h : SeenAt w b M) :
    (Instr.lookup 67 (.map (some b)) (nmV p) false).run Tryz.prog w = .ok (.bool (decide (p ∈ M))) w := by
  obtain ⟨es, clock, hb, he⟩ := h
  have ht : Tryz.prog.underlying 67 = some (.map 70 4) := by kernel_rfl
  have hf := name_find p w M es.toList he
  by_cases hp : p ∈ M
  · obtain ⟨j, hj⟩ := hf.1 hp
    simp [Instr.lookup, run_underlying ht, MapKept.run_getObj_map hb, name_check, hj, hp, Result.andThen]
  · simp [Instr.lookup, run_underlying ht, MapKept.run_getObj_map hb, name_check, hf.2 hp, hp, seen_zero, Result.andThen]

set_option maxRecDepth 100000 in
/-- A new name kept. -/
theorem seen_keep (p : Int × Int) (w : World) (b : Nat) (M : List (Int × Int)) (h : SeenAt w b M) (hp : p ∉ M) :
    ∃ w', (Instr.mapUpdate 67 (.map (some b)) (nmV p) (.bool true)).run Tryz.prog w = .ok () w' ∧ SeenAt w' b (M ++ [p]) ∧ ∀ {v : World}, v.heap.size ≤ b → Below v.heap.size v w → Below v.heap.size v w' := by
  obtain ⟨es, clock, hb, he⟩ := h
  have ht : Tryz.prog.underlying 67 = some (.map 70 4) := by kernel_rfl
  have hf := name_find p w M es.toList he
  have hlt : b < w.heap.size := by
    rcases Nat.lt_or_ge b w.heap.size with h | h
    · exact h
    · rw [Array.getElem?_eq_none h] at hb; cases hb
  refine ⟨_, by simp [Instr.mapUpdate, run_underlying ht, MapKept.run_getObj_map hb, name_check, hf.2 hp, MapKept.run_setObj_map _ hb, Result.andThen]; rfl, ⟨es.push { key := nmV p, val := .bool true, born := clock }, clock + 1, ?_, ?_⟩, ?_⟩
  · show (w.heap.setIfInBounds b _)[b]? = _
    rw [Array.getElem?_setIfInBounds_self_of_lt hlt]
  · simp [he]
  · intro v hv hB
    refine ⟨hB.os, hB.tape, hB.output, ?_, fun k hk => ?_⟩
    · show v.heap.size ≤ (w.heap.setIfInBounds b _).size
      rw [Array.size_setIfInBounds]; exact hB.size
    · show (w.heap.setIfInBounds b _)[k]? = _
      rw [Array.getElem?_setIfInBounds_ne (by omega)]; exact hB.block k hk

theorem SeenAt.later {W W' : World} {b : Nat} {M : List (Int × Int)} (hb : Below W.heap.size W W') (h : SeenAt W b M) : SeenAt W' b M := by
  obtain ⟨es, clock, h1, h2⟩ := h
  refine ⟨es, clock, ?_, h2⟩
  rw [hb.block b (by
    rcases Nat.lt_or_ge b W.heap.size with h | h
    · exact h
    · rw [Array.getElem?_eq_none h] at h1; cases h1)]
  exact h1
theorem seen_new (w : World) : SeenAt (w.alloc (.map #[] 0)) w.heap.size [] := ⟨#[], 0, by show (w.heap.push _)[w.heap.size]? = _; exact Array.getElem?_push_size, rfl⟩

/-- A look-up, at the operation. -/
theorem wp_seen_look (w : World) {ops : Array Oper} {rest : List Oper} {o : Oper} {a : Act} {Q : Exit → Act → World → Prop}
    (hg : Region.wanted o (yielded ops a.tmps) = true) (m x : Operand) (hop : o.op = Op.lookup 67 m x false) (b : Nat) (M : List (Int × Int)) (p : Int × Int)
    (hm : a.eval m = .map (some b)) (hx : a.eval x = nmV p) (h : SeenAt w b M)
    (hK : wpList Tryz.prog ops Q rest (a.put o.dst (.bool (decide (p ∈ M)))) w) :
    wpList Tryz.prog ops Q (o :: rest) a w := by
  refine BigFrame.wpList_want hg fun K' hK' => ?_
  have hrun := seen_look p w b M h
  unfold Oper.wp
  simp [execOp, hop, hm, hx, hrun, Result.andThen]
  exact hK' _ _ hK

/-- A store of a new name, at the operation. -/
theorem wp_seen_keep (w : World) {ops : Array Oper} {rest : List Oper} {o : Oper} {a : Act} {Q : Exit → Act → World → Prop}
    (hg : Region.wanted o (yielded ops a.tmps) = true) (m x y : Operand) (hop : o.op = Op.mapUpdate 67 m x y) (b : Nat) (M : List (Int × Int)) (p : Int × Int)
    (hm : a.eval m = .map (some b)) (hx : a.eval x = nmV p) (hy : a.eval y = .bool true) (h : SeenAt w b M) (hp : p ∉ M)
    (hK : ∀ w', SeenAt w' b (M ++ [p]) → (∀ {v : World}, v.heap.size ≤ b → Below v.heap.size v w → Below v.heap.size v w') → wpList Tryz.prog ops Q rest (a.put o.dst (.tuple #[])) w') :
    wpList Tryz.prog ops Q (o :: rest) a w := by
  refine BigFrame.wpList_want hg fun K' hK' => ?_
  obtain ⟨w', hrun, h1, h2⟩ := seen_keep p w b M h hp
  unfold Oper.wp
  simp [execOp, hop, hm, hx, hy, hrun, Result.andThen]
  exact hK' _ _ (hK w' h1 h2)

end Go.Proofs.YtfdhgimpdmhdeaaGreatDoor
