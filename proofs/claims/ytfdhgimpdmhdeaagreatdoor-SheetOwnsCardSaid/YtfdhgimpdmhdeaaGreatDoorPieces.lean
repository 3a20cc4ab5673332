/- strings.SplitAfterSeq at a line feed: its iterator gives a text's pieces. -/
import Derived.Test.YtfdhgimpdmhdeaaGreatDoorSeq
namespace Go.Proofs.YtfdhgimpdmhdeaaGreatDoor
open Go Go.RowKit Go.Shelf
attribute [local go_sem] Oper.semAt_some

/-- The pieces of a text, each up to a line feed, and what is left. -/
def PcsL : List ByteArray → ByteArray → Prop
  | [], _ => False
  | p :: rest, s => (Lib.indexByte s.data.toList 10 = -1 ∧ p = s ∧ rest = []) ∨ ∃ m : Nat, Lib.indexByte s.data.toList 10 = (m : Int) ∧ m < s.size ∧ p = s.extract 0 (m + 1) ∧ PcsL rest (s.extract (m + 1) s.size)
abbrev Pcs (s : ByteArray) (l : List ByteArray) : Prop := PcsL l s
theorem pcs_last (s : ByteArray) (h : Lib.indexByte s.data.toList 10 = -1) : Pcs s [s] := .inl ⟨h, rfl, rfl⟩
theorem pcs_more (s : ByteArray) (m : Nat) (rest : List ByteArray) (h : Lib.indexByte s.data.toList 10 = (m : Int)) (hm : m < s.size) (hr : Pcs (s.extract (m + 1) s.size) rest) : Pcs s (s.extract 0 (m + 1) :: rest) := .inr ⟨m, h, hm, rfl, hr⟩
theorem pcs_ways {s : ByteArray} {q : List ByteArray} (h : Pcs s q) : (Lib.indexByte s.data.toList 10 = -1 ∧ q = [s]) ∨ ∃ (m : Nat) (rest : List ByteArray), Lib.indexByte s.data.toList 10 = (m : Int) ∧ m < s.size ∧ q = s.extract 0 (m + 1) :: rest ∧ Pcs (s.extract (m + 1) s.size) rest := by
  cases q with
  | nil => exact h.elim
  | cons p r =>
    rcases h with ⟨h1, rfl, rfl⟩ | ⟨m, h1, h2, rfl, h3⟩
    · exact .inl ⟨h1, rfl⟩
    · exact .inr ⟨m, r, h1, h2, rfl, h3⟩

theorem splitAfter_any (s : ByteArray) (w : World) :
    Calls Tryz.prog 53 #[.string s, .string ⟨#[10]⟩] w fun e w' => e = .returned (.func (.func 77) #[] #[.pointer (some ⟨w.heap.size + 1, 0, none⟩), .pointer (some ⟨w.heap.size, 0, none⟩), .pointer (some ⟨w.heap.size + 2, 0, none⟩)]) ∧
      w' = ((w.alloc (.cells #[.string s] 9)).alloc (.cells #[.string ⟨#[10]⟩] 9)).alloc (.cells #[.int .i64 1] 3) := by
  have hmf : ∀ (fn : Fn) (first cap : Array Value) (w : World), (Instr.makeFunc fn first cap).run Tryz.prog w = .ok (.func fn first cap) w := fun _ _ _ _ => rfl
  go_enter Tryz.func53, Tryz.ntmps53
  go_wp2
  go_ret
  exact ⟨rfl, rfl⟩

/-- The iterator's boxes. -/
def PB (b1 b2 b3 : Nat) (W : World) (r : ByteArray) : Prop := W.cell? ⟨b1, 0, none⟩ = some (.string ⟨#[10]⟩) ∧ (W.cell? ⟨b2, 0, none⟩ = some (.string r) ∧ W.frozen? ⟨b2, 0, none⟩ = false) ∧ W.cell? ⟨b3, 0, none⟩ = some (.int .i64 1)
def strSz : Option Value → Nat
  | some (.string r) => r.size
  | _ => 0

set_option maxRecDepth 100000 in
set_option maxHeartbeats 4000000 in
theorem splitSeq1_gives (n : Nat) (hn : 1 ≤ n) (b1 b2 b3 : Nat) (h12 : b1 ≠ b2) (h32 : b3 ≠ b2) (s : ByteArray) (L : List ByteArray) (hs : s.size ≤ 1000000) (hL : Pcs s L) (W0 : World) (hW : PB b1 b2 b3 W0 s) :
    Gives Fence.wide n Tryz.prog 77 #[.pointer (some ⟨b1, 0, none⟩), .pointer (some ⟨b2, 0, none⟩), .pointer (some ⟨b3, 0, none⟩)] (fun x : ByteArray => #[.string x]) (fun k => k = b2) (fun k => k = b1 ∨ k = b2 ∨ k = b3) L W0 := by
  intro l J Jx hJ hJx hY h0
  have CI := Lib.hid (fun (r : ByteArray) w => (callsIn_wide (n := n - 1)).2 (Tryz.strings_Index_one r 10 w))
  have HW := Lib.hid hW
  have HL := Lib.hid hL
  have HJ := Lib.hid hJ
  have HY := Lib.hid hY
  have H0 := Lib.hid h0
  obtain ⟨hw1, ⟨hw2, hwf⟩, hw3⟩ := hW
  clear hL hJ hY h0 hJx
  refine callsIn_of_wp Tryz.func77 rfl trivial ?_ rfl
  simp only [Tryz.ntmps77, List.size_toArray, List.length_cons, List.length_nil, Nat.reduceAdd, Nat.reduceSub, Array.replicate_succ, Array.replicate_zero, List.push_toArray, List.append_toArray, List.nil_append, List.cons_append]
  gi_wp2_with fail
  gi_loopw [] (fun wr => Hid (∃ pre q r, L = pre ++ q ∧ Pcs r q ∧ r.size ≤ 1000000 ∧ J pre wr ∧ PB b1 b2 b3 wr r)) (fun wr => strSz (wr.cell? ⟨b2, 0, none⟩))
  case atStart => exact ⟨[], L, s, rfl, HL.out, hs, H0.out, HW.out⟩
  case round =>
    obtain ⟨pre, q, r, hLq, hP, hr, hj, hB⟩ := Hid.out hrel
    have HB := Lib.hid hB
    obtain ⟨c1, ⟨c2, cf⟩, c3⟩ := hB
    have hK : ∀ k, (k = b1 ∨ k = b2 ∨ k = b3) → k < wr.heap.size := by
      rintro k (rfl | rfl | rfl)
      · exact World.block_lt_of_cell? _ _ c1
      · exact World.block_lt_of_cell? _ _ c2
      · exact World.block_lt_of_cell? _ _ c3
    clear hw1 hw2 hwf hw3 hrel
    rcases pcs_ways hP with ⟨hix, rfl⟩ | ⟨m, rest, hix, hm, rfl, hp'⟩
    · obtain ⟨fn, tmps, assign, body, hy, hR⟩ := HY.out pre r wr hj hK (by rw [hLq]; exact List.prefix_refl _)
      have CR := CI.out r
      rw [hix] at CR
      have CR' := Lib.hid CR
      have HLq := Lib.hid hLq
      clear hix hLq hK hj CR CI hP
      gi_wp2_with (first | (refine ⟨trivial, ?_⟩; gi_at_call 79; refine (CR'.out _).mono ?_; rintro e wz ⟨rfl, hwz⟩; obtain rfl : wr = wz := hwz.symm))
      refine hR.mono ?_
      rintro e W3 (⟨rfl, hJ3, hk3⟩ | ⟨rfl, hJx3, hk3⟩)
      · have HJ3 := Lib.hid hJ3
        clear hJ3 hk3 hy hR
        gi_wp2
        go_end0
        exact ⟨⟨_, rfl⟩, .inl (by rw [HLq.out]; exact HJ3.out)⟩
      · have HJ3 := Lib.hid hJx3
        clear hJx3 hk3 hy hR
        gi_wp2
        go_end0
        exact ⟨⟨_, rfl⟩, .inr ⟨_, by rw [HLq.out]; exact List.prefix_refl _, HJ3.out⟩⟩
    · obtain ⟨fr, hfr⟩ : ∃ fr, r.extract 0 (m + 1) = fr := ⟨_, rfl⟩
      obtain ⟨r', hr'⟩ : ∃ r', r.extract (m + 1) r.size = r' := ⟨_, rfl⟩
      rw [hfr] at hLq
      rw [hr'] at hp'
      obtain ⟨fn, tmps, assign, body, hy, hR⟩ := HY.out pre fr wr hj hK (by rw [hLq]; exact ⟨rest, by simp⟩)
      obtain ⟨M, hM⟩ : ∃ M : Int, (m : Int) = M := ⟨_, rfl⟩
      have CR := CI.out r
      rw [hix, hM] at CR
      have CR' := Lib.hid CR
      have HLq := Lib.hid hLq
      have hM0 : 0 ≤ M := by omega
      obtain ⟨Z, hZ⟩ : ∃ Z : Int, (r.size : Int) = Z := ⟨_, rfl⟩
      have hMZ : M + 1 ≤ Z := by omega
      have hZb : Z ≤ 1000000 := by omega
      have hMn : (M + 1).toNat = m + 1 := by omega
      have hMa : 0 ≤ M + 1 := by omega
      have hp1 := Lib.hid hp'
      have hfr' := Lib.hid hfr
      have hrr' := Lib.hid hr'
      clear hix hLq hK hj CR CI hM hm hP
      gi_wp2_with (first | (refine ⟨trivial, ?_⟩; gi_at_call 79; refine (CR'.out _).mono ?_; rintro e wz ⟨rfl, hwz⟩; obtain rfl : wr = wz := hwz.symm))
      refine hR.mono ?_
      rintro e W3 (⟨rfl, hJ3, hk3⟩ | ⟨rfl, hJx3, hk3⟩)
      · have HJ3 := Lib.hid hJ3
        obtain ⟨d1, d2, df, d3⟩ : W3.cell? ⟨b1, 0, none⟩ = some (.string ⟨#[10]⟩) ∧ W3.cell? ⟨b2, 0, none⟩ = some (.string r) ∧ W3.frozen? ⟨b2, 0, none⟩ = false ∧ W3.cell? ⟨b3, 0, none⟩ = some (.int .i64 1) :=
          ⟨(World.cell?_of_block (a := ⟨b1, 0, none⟩) (hk3.2 b1 (.inl rfl))).trans c1, (World.cell?_of_block (a := ⟨b2, 0, none⟩) (hk3.2 b2 (.inr (.inl rfl)))).trans c2, (World.frozen?_of_block (a := ⟨b2, 0, none⟩) (hk3.2 b2 (.inr (.inl rfl)))).trans cf, (World.cell?_of_block (a := ⟨b3, 0, none⟩) (hk3.2 b3 (.inr (.inr rfl)))).trans c3⟩
        have Hc2 := Lib.hid c2
        clear hJ3 hk3 hy hR c1 c2 c3 cf
        gi_wp2
        go_roundw
        case rel =>
          refine ⟨pre ++ [fr], rest, r', by rw [HLq.out]; simp, hp1.out, ?_, HJ.out _ _ _ HJ3.out ((Only.refl _ _).setCell _ _ rfl), ?_, ⟨set_one _ d2, by simpa using df⟩, ?_⟩
          · have := hrr'.out
            rw [← this, ByteArray.size_extract]
            omega
          · rw [World.cell?_setCell_other _ _ _ _ (by simp; try omega)]; exact d1
          · rw [World.cell?_setCell_other _ _ _ _ (by simp; try omega)]; exact d3
        case measure =>
          rw [set_one _ d2, Hc2.out]
          show r'.size < r.size
          rw [← hrr'.out, ByteArray.size_extract]
          omega
      · have HJ3 := Lib.hid hJx3
        clear hJx3 hk3 hy hR
        gi_wp2
        refine bodyPost_ret (results_none rfl _ _ _) rfl ?_
        exact ⟨⟨_, rfl⟩, .inr ⟨_, by rw [HLq.out]; exact ⟨rest, by simp⟩, HJ3.out⟩⟩

end Go.Proofs.YtfdhgimpdmhdeaaGreatDoor
