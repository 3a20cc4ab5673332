/- An argument that is a list of stones: opened; and arguments that are still as they were. -/
import Derived.Test.YtfdhgimpdmhdeaaGreatDoorRow
import Derived.Test.YtfdhgimpdmhdeaaGreatDoorStones
import Derived.Deep.Slices
import Derived.Deep.Fields
import Derived.ChangeSame
import Derived.ChangeOld
namespace Go.Proofs.YtfdhgimpdmhdeaaGreatDoor
open Go Go.ChangeShapes Go.WideShapes Go.ChangeAt Go.RowKit Go.Deep

section
variable {H : Type} {enc : TypeId × Value → H} {W W' : World} {base : Nat} {spare : Nat → Bool} {held : Bool}
theorem trod_on {t : TypeId} {v : Value} {d : DataW H} {p : List MemPlace} (h : DataW.Trod enc Tryz.prog W base spare held t v d p) (hb : Below W.heap.size W W') : DataW.Trod enc Tryz.prog W' base spare held t v d p := by
  obtain ⟨n, h⟩ := h
  exact ⟨n, DataW.trod_carry n _ _ _ h (fun p hp => hb.same (DataW.trod_lt n _ _ _ h p hp))⟩
theorem trodAll_on : ∀ {ts : List TypeId} {vs : List Value} {ds : List (DataW H)} {ps : List MemPlace}, DataW.TrodAll enc Tryz.prog W base spare held ts vs ds ps → Below W.heap.size W W' → DataW.TrodAll enc Tryz.prog W' base spare held ts vs ds ps
  | [], [], [], _, h, _ => h
  | _ :: _, _ :: _, _ :: _, _, ⟨p, q, h, hs, e⟩, hb => ⟨p, q, trod_on h hb, trodAll_on hs hb, e⟩

/-- A stone whose numbers are integers of Go. -/
def StB (s : St) : Prop := ((-9223372036854775808 ≤ s.t ∧ s.t ≤ 9223372036854775807) ∧ -9223372036854775808 ≤ s.n ∧ s.n ≤ 9223372036854775807) ∧ (-9223372036854775808 ≤ s.x ∧ s.x ≤ 9223372036854775807) ∧ -9223372036854775808 ≤ s.y ∧ s.y ≤ 9223372036854775807

theorem stoneCells : Tryz.prog.cellsOf 39 = 4 := by kernel_rfl
theorem intCells : Tryz.prog.cellsOf 3 = 1 ∧ Tryz.prog.cellsOf 35 = 1 := ⟨by kernel_rfl, by kernel_rfl⟩

set_option maxRecDepth 100000 in
theorem open_stone {n : Nat} {cs : List Value} {x : DataW H × List MemPlace} (hl : cs.length = 4) (h : DataW.trod enc Tryz.prog W base spare held n 39 cs = some x) :
    ∃ s : St, cs = [.int .i64 s.t, .int .i64 s.n, .int .i64 s.x, .int .i64 s.y] ∧ StB s := by
  obtain ⟨xs, m, _, -, -, hlen, hf⟩ := DataW.trod_struct Tryz.underlying39 h
  match cs, hl with
  | [c0, c1, c2, c3], _ =>
    match xs, hlen with
    | [y0, y1, y2], _ =>
      have h0 : DataW.trod enc Tryz.prog W base spare held m 3 [c0] = some y0 := by have := hf 0 _ rfl; simpa [intCells.1] using this
      have h1 : DataW.trod enc Tryz.prog W base spare held m 3 [c1] = some y1 := by have := hf 1 _ rfl; simpa [intCells.1] using this
      have h2 : DataW.trod enc Tryz.prog W base spare held m 37 [c2, c3] = some y2 := by have := hf 2 _ rfl; simpa [spotCells] using this
      obtain ⟨xs', m', _, -, -, hlen', hf'⟩ := DataW.trod_struct Tryz.underlying37 h2
      match xs', hlen' with
      | [z0, z1], _ =>
        have k0 : DataW.trod enc Tryz.prog W base spare held m' 35 [c2] = some z0 := by have := hf' 0 _ rfl; simpa [intCells.2] using this
        have k1 : DataW.trod enc Tryz.prog W base spare held m' 35 [c3] = some z1 := by have := hf' 1 _ rfl; simpa [intCells.2] using this
        obtain ⟨a0, e0, -, w0⟩ := DataW.trod_int Tryz.underlying3 h0
        obtain ⟨a1, e1, -, w1⟩ := DataW.trod_int Tryz.underlying3 h1
        obtain ⟨a2, e2, -, w2⟩ := DataW.trod_int Tryz.underlying35 k0
        obtain ⟨a3, e3, -, w3⟩ := DataW.trod_int Tryz.underlying35 k1
        simp at e0 e1 e2 e3
        subst e0 e1 e2 e3
        exact ⟨⟨a0, a1, a2, a3⟩, rfl, ⟨wf_i64 w0, wf_i64 w1⟩, wf_i64 w2, wf_i64 w3⟩

set_option maxRecDepth 100000 in
/-- A list of stones, opened. -/
theorem open_stones2 {r : Reach} {b0 : Nat} {v : Value} {d : DataW H} {p : List MemPlace} (hv : Value.okWide Tryz.prog W r b0 22 v) (h : DataW.Trod enc Tryz.prog W base (fun _ => true) held 22 v d p) :
    ∃ (L : List St) (c : Nat), (∀ s ∈ L, StB s) ∧ L.length ≤ c ∧ c ≤ maxLen ∧ ((L = [] ∧ (v = .slice none 0 0 ∨ ∃ ad, v = .slice (some ad) 0 c)) ∨ ∃ g o, v = .slice (some ⟨g, o, none⟩) L.length c ∧ ∀ j (h : j < L.length), StAt W g (o + j * 4) L[j]) := by
  obtain ⟨ax, lx, cx, rfl⟩ := okWide_slice Tryz.underlying22 hv
  obtain ⟨n, h⟩ := h
  rcases open_slice Tryz.underlying22 h with ⟨hcs, -⟩ | ⟨a, len, cap, m, n', D, Pl, hcs, -, hl, hm, hmm, -, hi⟩
  · simp only [Value.cells, List.cons.injEq, and_true] at hcs
    rw [hcs]
    exact ⟨[], 0, fun s hs => (by cases hs), Nat.le_refl _, Nat.zero_le _, .inl ⟨rfl, .inl rfl⟩⟩
  · simp only [Value.cells, List.cons.injEq, and_true] at hcs
    rw [hcs]
    rw [if_pos rfl] at hmm
    have hst : ∀ i, ∃ s : St, i < m → (W.cell? (a.add (i * 4)) = some (.int .i64 s.t) ∧ W.cell? (a.add (i * 4 + 1)) = some (.int .i64 s.n) ∧ W.cell? (a.add (i * 4 + 2)) = some (.int .i64 s.x) ∧ W.cell? (a.add (i * 4 + 3)) = some (.int .i64 s.y)) ∧ StB s := by
      intro i
      by_cases him : i < m
      · obtain ⟨cs', hc, ht⟩ := hi i him
        rw [stoneCells] at hc
        obtain ⟨_, hcl, hat⟩ := World.cells?_some hc
        obtain ⟨s, rfl, hs⟩ := open_stone hcl ht
        refine ⟨s, fun _ => ⟨⟨?_, ?_, ?_, ?_⟩, hs⟩⟩
        · simpa [Go.Deep.add_add] using hat 0 (by decide)
        · have := hat 1 (by decide); rw [Go.Deep.add_add] at this; simpa using this
        · have := hat 2 (by decide); rw [Go.Deep.add_add] at this; simpa using this
        · have := hat 3 (by decide); rw [Go.Deep.add_add] at this; simpa using this
      · exact ⟨⟨0, 0, 0, 0⟩, fun h => absurd h him⟩
    obtain ⟨S, hS⟩ := Classical.skolem.1 hst
    refine ⟨(List.range len).map S, cap, fun s hs => ?_, by simpa using hl, hm, ?_⟩
    · obtain ⟨i, hi', rfl⟩ := List.mem_map.1 hs
      exact (hS i (by have := List.mem_range.1 hi'; omega)).2
    · by_cases h0 : len = 0
      · subst h0
        exact .inl ⟨by simp, .inr ⟨a, rfl⟩⟩
      · obtain ⟨g, o, sp⟩ := a
        have hsp : sp = none := by simpa [Addr.add] using World.cell?_spot (hS 0 (by omega)).1.1
        subst hsp
        refine .inr ⟨g, o, by simp, fun j hj => ?_⟩
        have hj' : j < len := by simpa using hj
        have h4 := (hS j (by omega)).1
        simp only [add_plain] at h4
        simp only [List.getElem_map, List.getElem_range]
        exact ⟨⟨h4.1, h4.2.1⟩, h4.2.2.1, h4.2.2.2⟩
set_option maxRecDepth 100000 in
theorem open_stones {r : Reach} {b0 : Nat} {v : Value} {d : DataW H} {p : List MemPlace} (hv : Value.okWide Tryz.prog W r b0 22 v) (h : DataW.Trod enc Tryz.prog W base (fun _ => true) held 22 v d p) :
    ∃ (L : List St) (c : Nat), (∀ s ∈ L, StB s) ∧ L.length ≤ c ∧ c ≤ maxLen ∧ ((L = [] ∧ ∃ pt, v = .slice pt 0 c) ∨ ∃ g o, v = .slice (some ⟨g, o, none⟩) L.length c ∧ ∀ j (h : j < L.length), StAt W g (o + j * 4) L[j]) := by
  obtain ⟨L, c, h1, h2, h3, h4⟩ := open_stones2 hv h
  rcases h4 with ⟨h4, rfl | ⟨ad, rfl⟩⟩ | h4
  · exact ⟨L, 0, h1, by rw [h4]; exact Nat.zero_le _, Nat.zero_le _, .inl ⟨h4, none, rfl⟩⟩
  · exact ⟨L, c, h1, h2, h3, .inl ⟨h4, some ad, rfl⟩⟩
  · exact ⟨L, c, h1, h2, h3, .inr h4⟩
end

end Go.Proofs.YtfdhgimpdmhdeaaGreatDoor
