/- The contracts of package fixed's digits, value and isDigits: a loop over an iterator of a text's digits. No conditions but the form's reach. -/
import Derived.Test.YtebfhjndgfcijaaGreatDoorNeeds
import Derived.RangeFuncNested
import Derived.RangeFuncBound
import Derived.RangeFuncCalls
import Derived.RangeFuncLeaves
import Derived.RangeFuncFrom
import Derived.Shelf.Abstract
import Derived.Shelf.RegionOpen
import Derived.OwnWalkIn
import Derived.TacticsInMore
import Derived.LoopNIn
import Derived.LoopIn
import Derived.BigQuiet
import Derived.Deep.QuietTactic
import Derived.Test.YtebfhjndgfcijaaGreatDoorOvs
import Derived.Deep.DeepCutAuto
namespace Go.Proofs.YtebfhjndgfcijaaGreatDoor
open Go Go.RowKit Go.Shelf
attribute [local go_sem] Oper.semAt_some

theorem cell_new_l (W : World) (v : Value) (t : TypeId) : (W.alloc (.cells #[v] t)).cell? ⟨W.heap.size, 0, none⟩ = some v ∧ (W.alloc (.cells #[v] t)).frozen? ⟨W.heap.size, 0, none⟩ = false :=
  ⟨by simp [go_sem], by simp [go_sem]⟩
theorem frozen_alloc_l {W : World} {a : Addr} {v : Value} (o : Obj) (h : W.cell? a = some v) (hf : W.frozen? a = false) : (W.alloc o).frozen? a = false :=
  (frozen_kept h (World.grownBy_alloc W o none) (fun r e => by cases e)).trans hf

/-- What a byte is worth as a decimal digit: as much as a byte less 48 can be. -/
abbrev Dig := { x : Int // -48 ≤ x ∧ x ≤ 207 }
def dig (c : UInt8) : Dig := ⟨(c.toNat : Int) - 48, by have := c.toNat_lt; omega, by have := c.toNat_lt; omega⟩

/-- What the loop's body must keep for the iterator: the box of the text. -/
def KeepsBox (B : Nat) (W W' : World) : Prop := ∀ v, W.cell? ⟨B, 0, none⟩ = some v → W'.cell? ⟨B, 0, none⟩ = some v
theorem keepsBox_t {B : Nat} {X Y Z : World} (h : KeepsBox B X Y) (k : KeepsBox B Y Z) : KeepsBox B X Z := fun v hv => k v (h v hv)
theorem keepsBox_b {B : Nat} {w : World} (W : World) (l : Nat) (o o' : Obj) (_ : w.heap.size ≤ l) (h : W.heap[l]? = some o) (ho : o.isCells = false) (_ : o.isWalk = false) : KeepsBox B W (W.putObj l o') :=
  fun _ hv => cell_kept hv (grownBy_putObj' W l o') (fun r e => by cases e; exact ⟨o, h, ho⟩)

theorem digits_any (s : ByteArray) (w : World) :
    CallsIn Fence.wide 2 Tryz.prog 106 #[.string s] w fun e w' => e = .returned (.func (.func 132) #[] #[.pointer (some ⟨w.heap.size, 0, none⟩)]) ∧ w' = w.alloc (.cells #[.string s] 9) := by
  refine callsIn_wide.2 ?_
  have hmf : ∀ (fn : Fn) (first cap : Array Value) (w : World), (Instr.makeFunc fn first cap).run Tryz.prog w = .ok (.func fn first cap) w := fun _ _ _ _ => rfl
  go_enter Tryz.func106, Tryz.ntmps106
  go_wp2
  go_ret
  exact ⟨rfl, rfl⟩

set_option maxRecDepth 100000 in
set_option maxHeartbeats 2000000 in
/-- The iterator's own walk: it hands on what each byte is worth, as long as the loop's body says yes. -/
theorem digits1_in (n : Nat) (_hn : 1 ≤ n) (l Bs : Nat) (s : ByteArray) (hs : s.size ≤ 9223372036854775807) (J Jx : List Dig → World → Prop)
    (hY : ∀ pre x W, J pre W → pre.length < s.size → YieldAt Fence.wide (n - 1) Tryz.prog l #[.int .i64 x.1] W fun e W' =>
      (e = .returned (.bool true) ∧ J (pre ++ [x]) W' ∧ KeepsBox Bs W W') ∨ (e = .returned (.bool false) ∧ Jx (pre ++ [x]) W'))
    (W : World) (hBs : W.cell? ⟨Bs, 0, none⟩ = some (.string s)) (h0 : J [] W) :
    CallsIn Fence.wide n Tryz.prog 132 #[.func (.yield l) #[] #[], .pointer (some ⟨Bs, 0, none⟩)] W fun e W' => (∃ v, e = .returned v) ∧
      ((∃ ys, ys = s.data.toList.map dig ∧ J ys W') ∨ (∃ pre, pre <+: s.data.toList.map dig ∧ Jx pre W')) := by
  have hsz : s.data.toList.length = s.size := Array.length_toList
  refine callsIn_of_wp Tryz.func132 rfl trivial ?_ rfl
  simp only [Tryz.ntmps132, List.size_toArray, List.length_cons, List.length_nil, Nat.reduceAdd, Nat.reduceSub, Array.replicate_succ, Array.replicate_zero, List.push_toArray, List.append_toArray, List.nil_append, List.cons_append]
  gi_wp2
  gi_loopw [6] (fun i wr => ∃ k : Nat, k ≤ s.size ∧ i = .int .i64 k ∧ J ((s.data.toList.map dig).take k) wr ∧ KeepsBox Bs W wr)
    (fun i _ => s.size - (intOf i).toNat)
  case atStart => exact ⟨0, Nat.zero_le _, rfl, h0, fun _ h => h⟩
  case round =>
    obtain ⟨k, hk, rfl, hJs, hnx⟩ := hrel
    have hcx : wr.cell? ⟨Bs, 0, none⟩ = some (.string s) := hnx _ hBs
    by_cases hlt : k < s.size
    · have hsn : (s.data.toList.map dig).take (k + 1) = (s.data.toList.map dig).take k ++ [dig s[k]] := by
        rw [List.take_succ_eq_append_getElem (by simpa using hlt)]; simp; rfl
      have HS := Lib.hid hsn
      clear hsn
      have b1 : (s[k].toNat : Int) < 256 := by have := s[k].toNat_lt; omega
      obtain ⟨fn, tmps, assign, body, hy, hR⟩ := hY _ (dig s[k]) wr hJs (by simp; omega)
      dsimp only [dig] at hy
      gi_wp2
      refine hR.mono ?_
      rintro e W3 (⟨rfl, hJ3, hk3⟩ | ⟨rfl, hJx3⟩)
      · gi_wp2
        go_roundw
        case rel => exact ⟨k + 1, by omega, by go_num, by rw [HS.out]; exact hJ3, keepsBox_t hnx hk3⟩
        case measure => simp [intOf]; omega
      · gi_wp2
        refine bodyPost_ret (results_none rfl _ _ _) rfl ?_
        exact ⟨⟨_, rfl⟩, .inr ⟨_, by rw [← HS.out]; exact List.take_prefix _ _, hJx3⟩⟩
    · have he : (s.data.toList.map dig).take k = s.data.toList.map dig := List.take_of_length_le (by rw [List.length_map]; omega)
      rw [he] at hJs
      have HJ := Lib.hid hJs
      clear he hJs
      gi_wp2
      go_end0
      exact ⟨⟨_, rfl⟩, .inl ⟨_, rfl, HJ.out⟩⟩

theorem digits_stops (n : Nat) (hn : 1 ≤ n) (Bs : Nat) (s : ByteArray) (hs : s.size ≤ 9223372036854775807) (w : World) (hBs : w.cell? ⟨Bs, 0, none⟩ = some (.string s)) :
    SeqStopsK Fence.wide n Tryz.prog 132 #[.pointer (some ⟨Bs, 0, none⟩)] (fun x : Dig => #[.int .i64 x.1]) (KeepsBox Bs) (fun xs => xs = s.data.toList.map dig) (fun pre => pre <+: s.data.toList.map dig) s.size w :=
  fun l J Jx W hW _ _ hY h0 => digits1_in n hn l Bs s hs J Jx hY W (cell_later hW hBs) h0

/-- The number of decimal digits, as value reckons it. -/
def valOf (l : List Dig) : Int := l.foldl (fun n d => min (10 * n + d.1) 100000000000000000) 0

theorem valOf_snoc (l : List Dig) (d : Dig) : valOf (l ++ [d]) = min (10 * valOf l + d.1) 100000000000000000 := by
  unfold valOf
  rw [List.foldl_append]
  rfl

theorem valOf_bd : ∀ l : List Dig, (∀ d ∈ l, 0 ≤ d.1 ∧ d.1 ≤ 9) → 0 ≤ valOf l ∧ valOf l ≤ 100000000000000000 := by
  intro l
  unfold valOf
  suffices h : ∀ (l : List Dig) (n : Int), 0 ≤ n → n ≤ 100000000000000000 → (∀ d ∈ l, 0 ≤ d.1 ∧ d.1 ≤ 9) → 0 ≤ l.foldl (fun n d => min (10 * n + d.1) 100000000000000000) n ∧ l.foldl (fun n d => min (10 * n + d.1) 100000000000000000) n ≤ 100000000000000000 from h l 0 (by omega) (by omega)
  intro l
  induction l with
  | nil => intro n h0 h1 _; exact ⟨h0, h1⟩
  | cons d r ih =>
    intro n h0 h1 hd
    have := hd d (List.mem_cons_self ..)
    exact ih _ (by show 0 ≤ min (10 * n + d.1) 100000000000000000; omega) (by show min (10 * n + d.1) 100000000000000000 ≤ 100000000000000000; omega) (fun e he => hd e (List.mem_cons_of_mem _ he))

set_option maxRecDepth 100000 in
set_option maxHeartbeats 2000000 in
theorem value_in (s : ByteArray) (hs : s.size ≤ 9223372036854775807) (w : World) (hd : ∀ d ∈ s.data.toList.map dig, 0 ≤ d.1 ∧ d.1 ≤ 9) :
    CallsIn Fence.wide 3 Tryz.prog 38 #[.string s] w fun e W' => e = .returned (.int .i64 (valOf (s.data.toList.map dig))) ∧ Below w.heap.size w W' := by
  refine callsIn_of_wp_marks Tryz.func38 rfl trivial ?_ rfl
  simp only [Tryz.ntmps38, List.size_toArray, List.length_cons, List.length_nil, Nat.reduceAdd, Nat.reduceSub, Array.replicate_succ, Array.replicate_zero, List.push_toArray, List.append_toArray, List.nil_append, List.cons_append]
  gi_wp2_with (refine ⟨trivial, ?_⟩; gi_at_call 106; refine (digits_any _ _).mono ?_; rintro e w' ⟨rfl, rfl⟩)
  have hc0 := cell_new_l w (.int .i64 0) 22
  have hb0 := cell_new_l (w.alloc (.cells #[.int .i64 0] 22)) (.string s) 9
  rw [World.size_alloc] at hb0
  have hB0 : Below w.heap.size w ((w.alloc (.cells #[.int .i64 0] 22)).alloc (.cells #[.string s] 9)) := ((Below.refl _ w).alloc (Nat.le_refl _) _).alloc (by simp) _
  refine wpIn_rangeFunc_ownF rfl (by omega) (gf := 132) (lb := #[.pointer (some ⟨w.heap.size + 1, 0, none⟩)]) rfl trivial (enters_of Tryz.func132 (by kernel_rfl) rfl)
    (digits_stops 2 (by omega) (w.heap.size + 1) s hs _ hb0.1) keepsBox_t keepsBox_b (Below.refl _ _) (fun _ => rfl)
    (fun pre W => (∃ z : Int, (W.cell? ⟨w.heap.size, 0, none⟩ = some (.int .i64 z) ∧ W.frozen? ⟨w.heap.size, 0, none⟩ = false) ∧ (pre <+: s.data.toList.map dig → z = valOf pre)) ∧ Below w.heap.size w W)
    (fun _ _ _ => False) ?hI (fun _ _ _ _ _ hs _ _ => hs)
    ⟨⟨0, ⟨alloc_cell hc0.1, frozen_alloc_l _ hc0.1 hc0.2⟩, fun _ => rfl⟩, hB0⟩
    (fun x => { tmps := #[.string s, undef, .int .i64 0, .pointer (some ⟨w.heap.size, 0, none⟩), .int .i64 x.1, .string s, .func (.func 132) #[] #[.pointer (some ⟨w.heap.size + 1, 0, none⟩)], .int .i64 x.1, undef, undef, undef, undef, undef, undef], defers := [] }) ?assign ?body ?done ?stop
  case hI =>
    exact OwnFrom.and (Own.from (fun s A B row hs hg hr => by
      obtain ⟨z, ⟨h1, h2⟩, h3⟩ := hs
      exact ⟨z, ⟨cell_kept h1 hg hr, (frozen_kept h1 hg hr).trans h2⟩, h3⟩) _) (ownFrom_below (Nat.le_refl _) (by simp; omega))
  case assign =>
    intro l x W K hK
    gi_wp2
    exact hK
  case body =>
    rintro l pre x W ⟨⟨z, ⟨hc, hf⟩, hz⟩, hB⟩ _
    have HZ := Lib.hid hz
    have HX := Lib.hid x.2
    clear hz
    gi_wp2
    refine ⟨KeepsOthers.setCell _ _ _, fun _ hv => (World.cell?_setCell_other _ _ _ _ (by simp)).trans hv, ⟨_, ⟨set_same _ hc, by rw [World.frozen?_setCell]; exact hf⟩, ?_⟩, hB.setCell (p := ⟨w.heap.size, 0, none⟩) (Nat.le_refl _) _⟩
    intro hp
    have hp0 := (List.prefix_append pre [x]).trans hp
    have hz := HZ.out hp0
    have hb := valOf_bd pre (fun d hm => hd d (hp0.subset hm))
    have hx := hd x (hp.subset (by simp))
    rw [← hz] at hb
    rw [valOf_snoc, ← hz]
    unfold wrap64
    omega
  case done =>
    rintro D ys W hD rfl ⟨⟨z, ⟨hc, _⟩, hz⟩, hB⟩ hK
    have HZ := Lib.hid (hz (List.prefix_refl _))
    clear hz
    gi_wp2
    refine ⟨by simp, .inl ⟨_, _, rfl, run_takeDeferred hK, ?_⟩⟩
    exact ⟨_, results_tmp rfl _ _ _, by rw [← HZ.out]; rfl, hB.trans (belowK_b (w := w) (Nat.le_refl _) W D _ _ (by simp at hD; omega) hK rfl rfl)⟩
  case stop =>
    rintro D c pre W _ _ h _
    exact h.elim

theorem value_any (s : ByteArray) (hs : s.size ≤ 9223372036854775807) (w : World) (hd : ∀ d ∈ s.data.toList.map dig, 0 ≤ d.1 ∧ d.1 ≤ 9) :
    Calls Tryz.prog 38 #[.string s] w fun e w' => e = .returned (.int .i64 (valOf (s.data.toList.map dig))) ∧ Below w.heap.size w w' :=
  callsIn_wide.1 (value_in s hs w hd)

/-- Decimal digits alone; something else among them. -/
def AllD (l : List Dig) : Prop := ∀ d ∈ l, 0 ≤ d.1 ∧ d.1 ≤ 9
def SomeD (l : List Dig) : Prop := ∃ d ∈ l, ¬ (0 ≤ d.1 ∧ d.1 ≤ 9)

/-- Is a text one or more decimal digits? -/
def isDig (l : List Dig) : Bool := !l.isEmpty && l.all (fun d => decide (0 ≤ d.1 ∧ d.1 ≤ 9))

set_option maxRecDepth 100000 in
set_option maxHeartbeats 2000000 in
theorem isDigits_in (s : ByteArray) (hs : s.size ≤ 9223372036854775807) (w : World) :
    CallsIn Fence.wide 3 Tryz.prog 105 #[.string s] w fun e W' => e = .returned (.bool (isDig (s.data.toList.map dig))) ∧ Below w.heap.size w W' := by
  refine callsIn_of_wp_marks Tryz.func105 rfl trivial ?_ rfl
  simp only [Tryz.ntmps105, List.size_toArray, List.length_cons, List.length_nil, Nat.reduceAdd, Nat.reduceSub, Array.replicate_succ, Array.replicate_zero, List.push_toArray, List.append_toArray, List.nil_append, List.cons_append]
  gi_wp2_with (refine ⟨trivial, ?_⟩; gi_at_call 106; refine (digits_any _ _).mono ?_; rintro e w' ⟨rfl, rfl⟩)
  have hc0 := cell_new_l w (.bool false) 4
  have hb0 := cell_new_l (w.alloc (.cells #[.bool false] 4)) (.string s) 9
  rw [World.size_alloc] at hb0
  have hB0 : Below w.heap.size w ((w.alloc (.cells #[.bool false] 4)).alloc (.cells #[.string s] 9)) := ((Below.refl _ w).alloc (Nat.le_refl _) _).alloc (by simp) _
  refine wpIn_rangeFunc_ownF rfl (by omega) (gf := 132) (lb := #[.pointer (some ⟨w.heap.size + 1, 0, none⟩)]) rfl trivial (enters_of Tryz.func132 (by kernel_rfl) rfl)
    (digits_stops 2 (by omega) (w.heap.size + 1) s hs _ hb0.1) keepsBox_t keepsBox_b (Below.refl _ _) (fun _ => rfl)
    (fun pre W => (AllD pre ∧ W.cell? ⟨w.heap.size, 0, none⟩ = some (.bool false) ∧ W.frozen? ⟨w.heap.size, 0, none⟩ = false) ∧ Below w.heap.size w W)
    (fun c pre W => (c = .ret ∧ SomeD pre ∧ W.cell? ⟨w.heap.size, 0, none⟩ = some (.bool false)) ∧ Below w.heap.size w W) ?hI ?hIx
    ⟨⟨fun _ h => (by cases h), alloc_cell hc0.1, frozen_alloc_l _ hc0.1 hc0.2⟩, hB0⟩
    (fun x => { tmps := #[.string s, undef, .pointer (some ⟨w.heap.size, 0, none⟩), .int .i64 x.1, .string s, .func (.func 132) #[] #[.pointer (some ⟨w.heap.size + 1, 0, none⟩)], .int .i64 x.1, undef, undef, undef, undef, undef, undef, undef, undef], defers := [] }) ?assign ?body ?done ?stop
  case hI =>
    exact OwnFrom.and (Own.from (fun s A B row hs hg hr => ⟨hs.1, cell_kept hs.2.1 hg hr, (frozen_kept hs.2.1 hg hr).trans hs.2.2⟩) _) (ownFrom_below (Nat.le_refl _) (by simp; omega))
  case hIx =>
    exact fun c => OwnFrom.and (Own.from (fun s A B row hs hg hr => ⟨hs.1, hs.2.1, cell_kept hs.2.2 hg hr⟩) _) (ownFrom_below (Nat.le_refl _) (by simp; omega))
  case assign =>
    intro l x W K hK
    gi_wp2
    exact hK
  case body =>
    rintro l pre x W ⟨⟨hp, hc, hf⟩, hB⟩ _
    have HP := Lib.hid hp
    clear hp
    by_cases h0 : x.1 < 0
    · have HI : Hid (SomeD (pre ++ [x])) := ⟨x, by simp, by omega⟩
      gi_wp2
      exact ⟨KeepsOthers.setCell _ _ _, ⟨rfl, HI.out, set_same _ hc⟩, hB.setCell (p := ⟨w.heap.size, 0, none⟩) (Nat.le_refl _) _⟩
    · by_cases h9 : 9 < x.1
      · have HI : Hid (SomeD (pre ++ [x])) := ⟨x, by simp, by omega⟩
        gi_wp2
        exact ⟨KeepsOthers.setCell _ _ _, ⟨rfl, HI.out, set_same _ hc⟩, hB.setCell (p := ⟨w.heap.size, 0, none⟩) (Nat.le_refl _) _⟩
      · have HI : Hid (AllD (pre ++ [x])) := fun d hd => by
          rcases List.mem_append.1 hd with h | h
          · exact HP.out d h
          · obtain rfl : d = x := by simpa using h
            omega
        gi_wp2
        exact ⟨KeepsOthers.refl _, fun _ hv => hv, ⟨HI.out, hc, hf⟩, hB⟩
  case done =>
    rintro D ys W hD rfl ⟨⟨hp, hc, hf⟩, hB⟩ hK
    have HP := Lib.hid hp
    clear hp
    gi_wp2
    have hK' := (KeepsOthers.setCell W ⟨w.heap.size, 0, none⟩ (.bool !s.toList.isEmpty)).same D _ hK rfl
    refine ⟨by simp, .inl ⟨_, _, rfl, run_takeDeferred hK', ?_⟩⟩
    have hc5 := cell_kept (set_same (.bool !s.toList.isEmpty) hc) (grownBy_putObj' _ D (.deferred none)) (fun r e => by cases e; exact ⟨_, hK', rfl⟩)
    refine ⟨.bool !s.toList.isEmpty, by simp [results, Tryz.f105, go_sem, hc5], ?_, (hB.setCell (p := ⟨w.heap.size, 0, none⟩) (Nat.le_refl _) _).trans (belowK_b (w := w) (Nat.le_refl _) _ D _ _ (by simp at hD; omega) hK' rfl rfl)⟩
    have : (s.data.toList.map dig).all (fun d => decide (0 ≤ d.1 ∧ d.1 ≤ 9)) = true := by
      rw [List.all_eq_true]
      exact fun d hd => by simpa using HP.out d hd
    unfold isDig
    rw [this, Bool.and_true, List.isEmpty_map, ByteArray.toList_eq]
  case stop =>
    rintro D c pre W hD hpre ⟨⟨rfl, hin, hc⟩, hB⟩ hK
    have HI := Lib.hid hin
    clear hin
    gi_wp2
    refine ⟨by simp, .inl ⟨_, _, rfl, run_takeDeferred hK, ?_⟩⟩
    have hc5 := cell_kept hc (grownBy_putObj' _ D (.deferred none)) (fun r e => by cases e; exact ⟨_, hK, rfl⟩)
    refine ⟨.bool false, by simp [results, Tryz.f105, go_sem, hc5], ?_, hB.trans (belowK_b (w := w) (Nat.le_refl _) W D _ _ (by simp at hD; omega) hK rfl rfl)⟩
    obtain ⟨d, hd, hn⟩ := HI.out
    have : (s.data.toList.map dig).all (fun d => decide (0 ≤ d.1 ∧ d.1 ≤ 9)) = false := by
      rw [List.all_eq_false]
      exact ⟨d, hpre.subset hd, by simpa using hn⟩
    unfold isDig
    rw [this, Bool.and_false]

theorem isDigits_any (s : ByteArray) (hs : s.size ≤ 9223372036854775807) (w : World) :
    Calls Tryz.prog 105 #[.string s] w fun e w' => e = .returned (.bool (isDig (s.data.toList.map dig))) ∧ Below w.heap.size w w' :=
  callsIn_wide.1 (isDigits_in s hs w)

end Go.Proofs.YtebfhjndgfcijaaGreatDoor

namespace Go.Proofs.YtebfhjndgfcijaaGreatDoor
open Go Go.RowKit

set_option maxHeartbeats 1000000 in
theorem cut_some (s : ByteArray) (c : UInt8) (k : Nat) (w : World) (hk : k + 1 ≤ s.size) (hs : s.size ≤ 9223372036854775807) (hi : Lib.indexByte s.data.toList c = (k : Int)) :
    Calls Tryz.prog 131 #[.string s, .string ⟨#[c]⟩] w fun e w' => e = .returned (.tuple #[.string (s.extract 0 k), .string (s.extract (k + 1) s.size), .bool true]) ∧ ∃ n, w' = w.drewN n := by
  have ci := fun w => Tryz.stringslite_Index_one s c w
  rw [hi] at ci
  have CI := Lib.hid ci
  have k0 : (k : Int) ≤ s.size := by omega
  have k1 : (k : Int) + 1 ≤ s.size := by omega
  have k2 : (0 : Int) ≤ (k : Int) := by omega
  clear ci hi
  go_enter Tryz.func131, Tryz.ntmps131
  go_wp2_with (go_at_call 144; refine (CI.out _).mono ?_; rintro e w' ⟨rfl, rfl⟩)
  go_quiet (fail)
  go_wp2
  go_ret3
  exact ⟨rfl, _, rfl⟩

set_option maxHeartbeats 1000000 in
theorem cut_none (s : ByteArray) (c : UInt8) (w : World) (hi : Lib.indexByte s.data.toList c = -1) :
    Calls Tryz.prog 131 #[.string s, .string ⟨#[c]⟩] w fun e w' => e = .returned (.tuple #[.string s, .string ⟨#[]⟩, .bool false]) ∧ ∃ n, w' = w.drewN n := by
  have ci := fun w => Tryz.stringslite_Index_one s c w
  rw [hi] at ci
  have CI := Lib.hid ci
  clear ci hi
  go_enter Tryz.func131, Tryz.ntmps131
  go_wp2_with (go_at_call 144; refine (CI.out _).mono ?_; rintro e w' ⟨rfl, rfl⟩)
  go_ret3
  exact ⟨rfl, 0, rfl⟩

set_option maxHeartbeats 1000000 in
theorem cut_any (s a b c : ByteArray) (t : Bool) (w : World) (cc : ∀ w, Calls Tryz.prog 131 #[.string s, .string c] w fun e w' => e = .returned (.tuple #[.string a, .string b, .bool t]) ∧ ∃ n, w' = w.drewN n) :
    Calls Tryz.prog 104 #[.string s, .string c] w fun e w' => e = .returned (.tuple #[.string a, .string b, .bool t]) ∧ ∃ n, w' = w.drewN n := by
  have CC := Lib.hid cc
  clear cc
  go_enter Tryz.func104, Tryz.ntmps104
  go_wp2_with (go_at_call 131; refine (CC.out _).mono ?_; rintro e w' ⟨rfl, n, rfl⟩)
  go_ret3
  exact ⟨rfl, n, rfl⟩

theorem below_drewN (w : World) (n : Nat) : Below w.heap.size w (w.drewN n) := by
  induction n with
  | zero => exact Below.refl _ _
  | succ n ih => exact ih.drew

/-- What split answers once the text is cut. -/
def splitE (a b : ByteArray) (m p : Bool) (E : Ending) : Prop :=
  ((∃ h : 0 < a.size, ((a[0]'h).toNat : Int) = 48) → ¬ a.toList = [48] → E = flt 5) ∧
  (((∃ h : 0 < a.size, ¬ ((a[0]'h).toNat : Int) = 48) ∨ a.toList = [48]) → p = true → isDig (b.data.toList.map dig) = false → E = flt 5) ∧
  (((∃ h : 0 < a.size, ¬ ((a[0]'h).toNat : Int) = 48) ∨ a.toList = [48]) → (p = false ∨ isDig (b.data.toList.map dig) = true) → E = .returned (.tuple #[.bool m, .string a, .string (b ++ ⟨#[48, 48, 48, 48, 48, 48, 48, 48, 48, 48, 48, 48, 48, 48, 48, 48, 48]⟩)]))

set_option maxHeartbeats 1000000 in
theorem split_walk (s t a b : ByteArray) (m p : Bool) (w : World) (E : Ending) (hE : splitE a b m p E) (hsa : a.size ≤ 9223372036854775807) (hsb : b.size ≤ 9223372036854775000)
    (c1 : ∀ w, Calls Tryz.prog 103 #[.string s, .string ⟨#[45]⟩] w fun e w' => e = .returned (.tuple #[.string t, .bool m]) ∧ w' = w)
    (c2 : ∀ w, Calls Tryz.prog 104 #[.string t, .string ⟨#[46]⟩] w fun e w' => e = .returned (.tuple #[.string a, .string b, .bool p]) ∧ Below w.heap.size w w')
    (ha : isDig (a.data.toList.map dig) = true) (ha0 : (0 : Int) < a.size) :
    Calls Tryz.prog 37 #[.string s] w fun e w' => e = E ∧ Below w.heap.size w w' := by
  have C1 := Lib.hid c1
  have C2 := Lib.hid c2
  have CA := Lib.hid (fun w => isDigits_any a hsa w)
  have CB := Lib.hid (fun w => isDigits_any b (by omega) w)
  rw [ha] at CA
  have HE := Lib.hid hE
  clear c1 c2 ha hE
  go_enter Tryz.func37, Tryz.ntmps37
  go_wp2_with (first | (go_at_call 103; refine (C1.out _).mono ?_; rintro e w' ⟨rfl, rfl⟩) | (go_at_call 104; refine (C2.out _).mono ?_; rintro e w1 ⟨rfl, hb1⟩) | (go_at_call_of 105 (Value.string a); refine (CA.out _).mono ?_; rintro e w2 ⟨rfl, hb2⟩) | (go_at_call_of 105 (Value.string b); refine (CB.out _).mono ?_; rintro e w3 ⟨rfl, hb3⟩))
  all_goals clear C1 C2 CA CB
  all_goals have hE := HE.out
  all_goals clear HE
  all_goals first | go_ret3 | skip
  · exact ⟨rfl, (hE.2.1 (.inr (by assumption)) (by assumption) (by simp_all)).symm, hb1.trans ((hb2.mono hb1.size).trans (hb3.mono (Nat.le_trans hb1.size hb2.size)))⟩
  · exact ⟨(hE.2.2 (.inr (by assumption)) (.inr (by simp_all))).symm, hb1.trans ((hb2.mono hb1.size).trans (hb3.mono (Nat.le_trans hb1.size hb2.size)))⟩
  · exact ⟨(hE.2.2 (.inr (by assumption)) (.inl (by simp_all))).symm, hb1.trans (hb2.mono hb1.size)⟩
  · exact ⟨rfl, (hE.1 ⟨by assumption, by assumption⟩ (by assumption)).symm, hb1.trans (hb2.mono hb1.size)⟩
  · exact ⟨rfl, (hE.2.1 (.inl ⟨by assumption, by assumption⟩) (by assumption) (by simp_all)).symm, hb1.trans ((hb2.mono hb1.size).trans (hb3.mono (Nat.le_trans hb1.size hb2.size)))⟩
  · exact ⟨(hE.2.2 (.inl ⟨by assumption, by assumption⟩) (.inr (by simp_all))).symm, hb1.trans ((hb2.mono hb1.size).trans (hb3.mono (Nat.le_trans hb1.size hb2.size)))⟩
  · exact ⟨(hE.2.2 (.inl ⟨by assumption, by assumption⟩) (.inl (by simp_all))).symm, hb1.trans (hb2.mono hb1.size)⟩


end Go.Proofs.YtebfhjndgfcijaaGreatDoor

namespace Go.Proofs.YtebfhjndgfcijaaGreatDoor
open Go Go.RowKit

theorem kc {w W W' : World} (h : Below w.heap.size w W) (h' : Below W.heap.size W W') : Below w.heap.size w W' := h.trans (h'.mono h.size)
theorem ka {w W : World} (h : Below w.heap.size w W) (o : Obj) : Below w.heap.size w (W.alloc o) := h.alloc h.size o

theorem ks {w W : World} (h : Below w.heap.size w W) {a : Addr} (v : Value) (ha : w.heap.size ≤ a.block) : Below w.heap.size w (W.setCell a v) := h.setCell ha v
/-- A wide number in memory of its own. -/
def WideAt (w : World) (g : Nat) (v u : Int) : Prop := w.cell? ⟨g, 0, none⟩ = some (.int .i64 v) ∧ w.cell? ⟨g, 1, none⟩ = some (.int .u64 u) ∧ w.frozen? ⟨g, 0, none⟩ = false ∧ w.frozen? ⟨g, 1, none⟩ = false ∧ g < w.heap.size
theorem new_alloc (w : World) : WideAt (w.alloc (.cells #[.int .i64 0, .int .u64 0] 68)) w.heap.size 0 0 :=
  ⟨by simp [go_sem], by simp [go_sem], by simp [go_sem], by simp [go_sem], by simp⟩
theorem new_later {W w : World} {g : Nat} {v u : Int} (hb : Below W.heap.size W w) (h : WideAt W g v u) : WideAt w g v u :=
  ⟨cell_later hb h.1, cell_later hb h.2.1, (hb.frozen (p := ⟨g, 0, none⟩) h.2.2.2.2).trans h.2.2.1, (hb.frozen (p := ⟨g, 1, none⟩) h.2.2.2.2).trans h.2.2.2.1, Nat.lt_of_lt_of_le h.2.2.2.2 hb.size⟩
theorem set_new {w : World} {g : Nat} {x y : Int} (v u : Int) (h : WideAt w g x y) :
    WideAt ((w.setCell ⟨g, 0, none⟩ (.int .i64 v)).setCell ⟨g, 1, none⟩ (.int .u64 u)) g v u := by
  obtain ⟨h0, h1, f0, f1, hl⟩ := h
  exact ⟨(World.cell?_setCell_other _ _ _ _ (by simp)).trans (set_pair _ (.int .u64 u) h0 h1).1, (set_pair (.int .i64 v) _ h0 h1).2, by rw [World.frozen?_setCell, World.frozen?_setCell]; exact f0, by rw [World.frozen?_setCell, World.frozen?_setCell]; exact f1, by simpa using hl⟩

set_option maxRecDepth 100000 in
set_option maxHeartbeats 1000000 in
theorem read_walk (s a b q : ByteArray) (m : Bool) (n v x1 x2 y1 y2 z1 z2 u1 u2 r1 r2 p1 p2 : Int) (E : Ending) (how : Int) (S H : Nat) (w : World) (h0 : 0 ≤ how) (h1 : how ≤ 3) (hs : s.size ≤ 60)
    (n1 : n ≤ 1073741824) (hb : 17 ≤ b.size)
    (c1 : ∀ w, Calls Tryz.prog 37 #[.string s] w fun e w' => e = .returned (.tuple #[.bool m, .string a, .string b]) ∧ Below w.heap.size w w')
    (c2 : ∀ w, Calls Tryz.prog 38 #[.string a] w fun e w' => e = .returned (.int .i64 n) ∧ Below w.heap.size w w')
    (c3 : ∀ w, Calls Tryz.prog 38 #[.string (b.extract 0 17)] w fun e w' => e = .returned (.int .i64 v) ∧ Below w.heap.size w w')
    (cs : ∀ w, Calls Tryz.prog 41 #[.int .i64 v] w fun e w' => e = .returned (.int .u64 v) ∧ w = w')
    (cp : ∀ w, Calls Tryz.prog 39 #[.int .i64 n, .int .i64 100000000000000000] w fun e w' => e = .returned (.agg #[.int .i64 x1, .int .u64 x2]) ∧ Below w.heap.size w w')
    (ca : ∀ w, Calls Tryz.prog 40 #[.agg #[.int .i64 x1, .int .u64 x2], .agg #[.int .i64 0, .int .u64 v]] w fun e w' => e = .returned (.agg #[.int .i64 y1, .int .u64 y2]) ∧ Below w.heap.size w w')
    (ct : ∀ w, Calls Tryz.prog 42 #[.agg #[.int .i64 y1, .int .u64 y2], .int .u64 65536] w fun e w' => e = .returned (.agg #[.int .i64 z1, .int .u64 z2]) ∧ Below w.heap.size w w')
    (c4 : ∀ w, Calls Tryz.prog 43 #[.string (b.extract 17 b.size), .string ⟨#[48]⟩] w fun e w' => e = .returned (.string q) ∧ Below w.heap.size w w')
    (cb : ∀ w, Calls Tryz.prog 40 #[.agg #[.int .i64 z1, .int .u64 z2], .agg #[.int .i64 0, .int .u64 1]] w fun e w' => e = .returned (.agg #[.int .i64 u1, .int .u64 u2]) ∧ Below w.heap.size w w')
    (cn : ∀ w, Calls Tryz.prog 44 #[.agg #[.int .i64 z1, .int .u64 z2]] w fun e w' => e = .returned (.agg #[.int .i64 r1, .int .u64 r2]) ∧ Below w.heap.size w w')
    (cm : ∀ w, Calls Tryz.prog 44 #[.agg #[.int .i64 u1, .int .u64 u2]] w fun e w' => e = .returned (.agg #[.int .i64 p1, .int .u64 p2]) ∧ Below w.heap.size w w')
    (co : ((!q.toList.isEmpty) = true → m = true → ∀ W, Calls Tryz.prog 45 #[.agg #[.int .i64 p1, .int .u64 p2], .int .i64 100000000000000000, .func (.func (wayFn how)) #[] #[]] W fun e w' => e = E ∧ Below W.heap.size W w') ∧
      ((!q.toList.isEmpty) = true → m = false → ∀ W, Calls Tryz.prog 45 #[.agg #[.int .i64 u1, .int .u64 u2], .int .i64 100000000000000000, .func (.func (wayFn how)) #[] #[]] W fun e w' => e = E ∧ Below W.heap.size W w') ∧
      ((!q.toList.isEmpty) = false → m = true → ∀ W, Calls Tryz.prog 45 #[.agg #[.int .i64 r1, .int .u64 r2], .int .i64 100000000000000000, .func (.func (wayFn how)) #[] #[]] W fun e w' => e = E ∧ Below W.heap.size W w') ∧
      ((!q.toList.isEmpty) = false → m = false → ∀ W, Calls Tryz.prog 45 #[.agg #[.int .i64 z1, .int .u64 z2], .int .i64 100000000000000000, .func (.func (wayFn how)) #[] #[]] W fun e w' => e = E ∧ Below W.heap.size W w'))
    (hE : (∃ z, E = .returned (.int .i64 z)) ∨ (∃ n, E = flt n))
    (c10 : w.cell? ⟨S, 0, none⟩ = some (.string s)) (c20 : w.cell? ⟨H, 0, none⟩ = some (.int .i64 how)) :
    Calls Tryz.prog 35 #[.pointer (some ⟨H, 0, none⟩), .pointer (some ⟨S, 0, none⟩)] w fun e w' => e = E ∧ Below w.heap.size w w' := by
  have hb3 : (17 : Int) ≤ (b.size : Int) := by omega
  have hb4 : ¬ (b.size : Int) < 17 := by omega
  have hb5 : ¬ b.size < 17 := by omega
  have C1 := Lib.hid c1
  have C2 := Lib.hid c2
  have C3 := Lib.hid c3
  have C4 := Lib.hid c4
  have CB := Lib.hid cb
  have CN := Lib.hid cn
  have CM := Lib.hid cm
  have CO := Lib.hid co
  have HE := Lib.hid hE
  have CS := Lib.hid cs
  have CP := Lib.hid cp
  have CA := Lib.hid ca
  have CT := Lib.hid ct
  have CW := Lib.hid (fun w => way_ok how w h0 h1)
  clear co hE cb cn cm c1 c2 c3 c4 cs cp ca ct
  go_enter Tryz.func35, Tryz.ntmps35
  go_upto_region 8 with (first | (go_at_call 36; refine (CW.out _).mono ?_; rintro e w' ⟨rfl, rfl⟩) | (go_at_call 37; refine (C1.out _).mono ?_; rintro e w1 ⟨rfl, hb1⟩) | (go_at_call_of 38 (Value.string a); refine (C2.out _).mono ?_; rintro e w2 ⟨rfl, hb2⟩))
  go_cut [8] (fun s8 wx => ∃ g : Nat, s8 = .pointer (some ⟨g, 0, none⟩) ∧ WideAt wx g z1 z2 ∧ w.heap.size ≤ g ∧ Below w.heap.size w wx)
  case first =>
    have hB2 := kc hb1 hb2
    have q2 := hB2.size
    clear hb1 hb2 C1 C2 CW c10 c20 n1 h0 h1 hs
    go_region_held3 (fun w' => Below w.heap.size w w')
      (repeat' (first | assumption | (with_reducible refine Below.drew ?_) | (with_reducible refine ka ?_ _) | (with_reducible refine ks ?_ _ (by (try simp only); omega)) | (refine kc ?_ (by assumption))))
      (first | (go_at_call 39; refine (CP.out _).mono ?_; rintro e w3 ⟨rfl, hb3⟩; have q3 : w2.heap.size ≤ w3.heap.size := (by first | exact hb3.size | exact Nat.le_trans (by simp) hb3.size); (try have n32 : WideAt w3 w2.heap.size 0 0 := new_later hb3 (new_alloc _))) | (go_at_call_of 38 (Value.string (b.extract 0 17)); refine (C3.out _).mono ?_; rintro e w4 ⟨rfl, hb4⟩; have q4 : w3.heap.size ≤ w4.heap.size := (by first | exact hb4.size | exact Nat.le_trans (by simp) hb4.size); (try have n43 : WideAt w4 w3.heap.size 0 0 := new_later hb4 (new_alloc _)); (try have n42 : WideAt w4 w2.heap.size 0 0 := new_later hb4 n32)) | (go_at_call 41; refine (CS.out _).mono ?_; rintro e w' ⟨rfl, rfl⟩) | (go_at_call 40; refine (CA.out _).mono ?_; rintro e w5 ⟨rfl, hb5⟩; have q5 : w4.heap.size ≤ w5.heap.size := (by first | exact hb5.size | exact Nat.le_trans (by simp) hb5.size); (try have n54 : WideAt w5 w4.heap.size 0 0 := new_later hb5 (new_alloc _)); (try have n53 : WideAt w5 w3.heap.size 0 0 := new_later hb5 n43); (try have n52 : WideAt w5 w2.heap.size 0 0 := new_later hb5 n42)) | (go_at_call 42; refine (CT.out _).mono ?_; rintro e w6 ⟨rfl, hb6⟩; have q6 : w5.heap.size ≤ w6.heap.size := (by first | exact hb6.size | exact Nat.le_trans (by simp) hb6.size); (try (have n6 : WideAt w6 w5.heap.size 0 0 := new_later hb6 (new_alloc _); have nn := n6; obtain ⟨k0, k1, k2, k3, k4⟩ := n6)); (try (have n6 : WideAt w6 w4.heap.size 0 0 := new_later hb6 n54; have nn := n6; obtain ⟨k0, k1, k2, k3, k4⟩ := n6)); (try (have n6 : WideAt w6 w3.heap.size 0 0 := new_later hb6 n53; have nn := n6; obtain ⟨k0, k1, k2, k3, k4⟩ := n6)); (try (have n6 : WideAt w6 w2.heap.size 0 0 := new_later hb6 n52; have nn := n6; obtain ⟨k0, k1, k2, k3, k4⟩ := n6))))
    all_goals (go_wp2_with fail; go_meet)
    · exact ⟨w6.heap.size, rfl, ⟨by simp [go_sem], by simp [go_sem], by simp [go_sem], by simp [go_sem], by simp⟩, by omega, by assumption⟩
    · exact ⟨_, rfl, set_new z1 z2 nn, by omega, by assumption⟩
    · exact ⟨_, rfl, set_new z1 z2 nn, by omega, by assumption⟩
    · exact ⟨_, rfl, set_new z1 z2 nn, by omega, by assumption⟩
    · exact ⟨_, rfl, set_new z1 z2 nn, by omega, by assumption⟩
    · exact ⟨_, rfl, set_new z1 z2 nn, by omega, by assumption⟩
  case rest =>
    obtain ⟨g, rfl, hw, hg, hB⟩ := hcut
    go_wp2_with (first | (go_at_call 43; refine (C4.out _).mono ?_; rintro e w7 ⟨rfl, hb7⟩; have hw7 := new_later hb7 hw; have hx := hw7; obtain ⟨j0, j1, j2, j3, j4⟩ := hx) | (go_at_call 40; refine (CB.out _).mono ?_; rintro e w8 ⟨rfl, hb8⟩; have hy := new_later hb8 hw7; have hw8 := set_new u1 u2 hy; obtain ⟨d0, d1, d2, d3, d4⟩ := hy; have hx := hw8; obtain ⟨a0, a1, a2, a3, a4⟩ := hx) | (go_at_call_of 44 (Value.agg #[.int .i64 z1, .int .u64 z2]); refine (CN.out _).mono ?_; rintro e w9 ⟨rfl, hb9⟩; have hy := new_later hb9 hw7; have hw9 := set_new r1 r2 hy; obtain ⟨d0, d1, d2, d3, d4⟩ := hy; have hx := hw9; obtain ⟨b0, b1, b2, b3, b4⟩ := hx) | (go_at_call_of 44 (Value.agg #[.int .i64 u1, .int .u64 u2]); refine (CM.out _).mono ?_; rintro e w9 ⟨rfl, hb9⟩; have hy := new_later hb9 hw8; have hw9 := set_new p1 p2 hy; obtain ⟨d0, d1, d2, d3, d4⟩ := hy; have hx := hw9; obtain ⟨b0, b1, b2, b3, b4⟩ := hx))
    all_goals clear C1 C2 C3 C4 CB CN CM CS CP CA CT CW
    · refine ((CO.out.1 (by assumption) (by assumption)) _).mono ?_
      rintro e w' ⟨he, hb⟩
      rcases HE.out with ⟨z, hz⟩ | ⟨n, hz⟩ <;> (subst he; subst hz)
      · go_wp2
        go_ret
        exact ⟨rfl, by repeat' (first | assumption | (with_reducible refine Below.drew ?_) | (with_reducible refine ka ?_ _) | (with_reducible refine ks ?_ _ (by (try simp only); omega)) | (refine kc ?_ (by assumption)))⟩
      · exact ⟨rfl, rfl, by repeat' (first | assumption | (with_reducible refine Below.drew ?_) | (with_reducible refine ka ?_ _) | (with_reducible refine ks ?_ _ (by (try simp only); omega)) | (refine kc ?_ (by assumption)))⟩
    · refine ((CO.out.2.1 (by assumption) (by assumption)) _).mono ?_
      rintro e w' ⟨he, hb⟩
      rcases HE.out with ⟨z, hz⟩ | ⟨n, hz⟩ <;> (subst he; subst hz)
      · go_wp2
        go_ret
        exact ⟨rfl, by repeat' (first | assumption | (with_reducible refine Below.drew ?_) | (with_reducible refine ka ?_ _) | (with_reducible refine ks ?_ _ (by (try simp only); omega)) | (refine kc ?_ (by assumption)))⟩
      · exact ⟨rfl, rfl, by repeat' (first | assumption | (with_reducible refine Below.drew ?_) | (with_reducible refine ka ?_ _) | (with_reducible refine ks ?_ _ (by (try simp only); omega)) | (refine kc ?_ (by assumption)))⟩
    · refine ((CO.out.2.2.1 (by assumption) (by assumption)) _).mono ?_
      rintro e w' ⟨he, hb⟩
      rcases HE.out with ⟨z, hz⟩ | ⟨n, hz⟩ <;> (subst he; subst hz)
      · go_wp2
        go_ret
        exact ⟨rfl, by repeat' (first | assumption | (with_reducible refine Below.drew ?_) | (with_reducible refine ka ?_ _) | (with_reducible refine ks ?_ _ (by (try simp only); omega)) | (refine kc ?_ (by assumption)))⟩
      · exact ⟨rfl, rfl, by repeat' (first | assumption | (with_reducible refine Below.drew ?_) | (with_reducible refine ka ?_ _) | (with_reducible refine ks ?_ _ (by (try simp only); omega)) | (refine kc ?_ (by assumption)))⟩
    · refine ((CO.out.2.2.2 (by assumption) (by assumption)) _).mono ?_
      rintro e w' ⟨he, hb⟩
      rcases HE.out with ⟨z, hz⟩ | ⟨n, hz⟩ <;> (subst he; subst hz)
      · go_wp2
        go_ret
        exact ⟨rfl, by repeat' (first | assumption | (with_reducible refine Below.drew ?_) | (with_reducible refine ka ?_ _) | (with_reducible refine ks ?_ _ (by (try simp only); omega)) | (refine kc ?_ (by assumption)))⟩
      · exact ⟨rfl, rfl, by repeat' (first | assumption | (with_reducible refine Below.drew ?_) | (with_reducible refine ka ?_ _) | (with_reducible refine ks ?_ _ (by (try simp only); omega)) | (refine kc ?_ (by assumption)))⟩

end Go.Proofs.YtebfhjndgfcijaaGreatDoor

namespace Go.Proofs.YtebfhjndgfcijaaGreatDoor
open Go Go.RowKit

set_option maxHeartbeats 1000000 in
theorem read_how (how : Int) (S H : Nat) (w : World) (h : how < 0 ∨ 3 < how) (c20 : w.cell? ⟨H, 0, none⟩ = some (.int .i64 how)) :
    Calls Tryz.prog 35 #[.pointer (some ⟨H, 0, none⟩), .pointer (some ⟨S, 0, none⟩)] w fun e w' => e = flt 2 ∧ Below w.heap.size w w' := by
  have CW := Lib.hid (fun w => way_bad how w h)
  clear h
  go_enter Tryz.func35, Tryz.ntmps35
  go_wp2_with (go_at_call 36; refine (CW.out _).mono ?_; rintro e w' ⟨rfl, rfl⟩)
  exact ⟨rfl, rfl, Below.refl _ _⟩

set_option maxHeartbeats 1000000 in
theorem read_long (s : ByteArray) (how : Int) (S H : Nat) (w : World) (h0 : 0 ≤ how) (h1 : how ≤ 3) (hs : 60 < s.size)
    (c10 : w.cell? ⟨S, 0, none⟩ = some (.string s)) (c20 : w.cell? ⟨H, 0, none⟩ = some (.int .i64 how)) :
    Calls Tryz.prog 35 #[.pointer (some ⟨H, 0, none⟩), .pointer (some ⟨S, 0, none⟩)] w fun e w' => e = flt 3 ∧ Below w.heap.size w w' := by
  have CW := Lib.hid (fun w => way_ok how w h0 h1)
  clear h0 h1
  go_enter Tryz.func35, Tryz.ntmps35
  go_wp2_with (go_at_call 36; refine (CW.out _).mono ?_; rintro e w' ⟨rfl, rfl⟩)
  exact ⟨rfl, rfl, Below.refl _ _⟩

set_option maxHeartbeats 1000000 in
theorem read_form (s : ByteArray) (how : Int) (S H : Nat) (w : World) (h0 : 0 ≤ how) (h1 : how ≤ 3) (hs : s.size ≤ 60)
    (c1 : ∀ w, Calls Tryz.prog 37 #[.string s] w fun e w' => e = flt 5 ∧ Below w.heap.size w w')
    (c10 : w.cell? ⟨S, 0, none⟩ = some (.string s)) (c20 : w.cell? ⟨H, 0, none⟩ = some (.int .i64 how)) :
    Calls Tryz.prog 35 #[.pointer (some ⟨H, 0, none⟩), .pointer (some ⟨S, 0, none⟩)] w fun e w' => e = flt 5 ∧ Below w.heap.size w w' := by
  have C1 := Lib.hid c1
  have CW := Lib.hid (fun w => way_ok how w h0 h1)
  clear h0 h1 c1
  go_enter Tryz.func35, Tryz.ntmps35
  go_wp2_with (first | (go_at_call 36; refine (CW.out _).mono ?_; rintro e w' ⟨rfl, rfl⟩) | (go_at_call 37; refine (C1.out _).mono ?_; rintro e w1 ⟨rfl, hb1⟩))
  exact ⟨rfl, rfl, hb1⟩

set_option maxHeartbeats 1000000 in
theorem read_great (s a b : ByteArray) (m : Bool) (n how : Int) (S H : Nat) (w : World) (h0 : 0 ≤ how) (h1 : how ≤ 3) (hs : s.size ≤ 60) (n1 : 1073741824 < n)
    (c1 : ∀ w, Calls Tryz.prog 37 #[.string s] w fun e w' => e = .returned (.tuple #[.bool m, .string a, .string b]) ∧ Below w.heap.size w w')
    (c2 : ∀ w, Calls Tryz.prog 38 #[.string a] w fun e w' => e = .returned (.int .i64 n) ∧ Below w.heap.size w w')
    (c10 : w.cell? ⟨S, 0, none⟩ = some (.string s)) (c20 : w.cell? ⟨H, 0, none⟩ = some (.int .i64 how)) :
    Calls Tryz.prog 35 #[.pointer (some ⟨H, 0, none⟩), .pointer (some ⟨S, 0, none⟩)] w fun e w' => e = flt 4 ∧ Below w.heap.size w w' := by
  have C1 := Lib.hid c1
  have C2 := Lib.hid c2
  have CW := Lib.hid (fun w => way_ok how w h0 h1)
  clear h0 h1 c1 c2
  go_enter Tryz.func35, Tryz.ntmps35
  go_wp2_with (first | (go_at_call 36; refine (CW.out _).mono ?_; rintro e w' ⟨rfl, rfl⟩) | (go_at_call 37; refine (C1.out _).mono ?_; rintro e w1 ⟨rfl, hb1⟩) | (go_at_call 38; refine (C2.out _).mono ?_; rintro e w2 ⟨rfl, hb2⟩))
  exact ⟨rfl, rfl, kc hb1 hb2⟩

theorem split_bad (s t a b : ByteArray) (m p : Bool) (w : World) (hsa : a.size ≤ 9223372036854775807)
    (c1 : ∀ w, Calls Tryz.prog 103 #[.string s, .string ⟨#[45]⟩] w fun e w' => e = .returned (.tuple #[.string t, .bool m]) ∧ w' = w)
    (c2 : ∀ w, Calls Tryz.prog 104 #[.string t, .string ⟨#[46]⟩] w fun e w' => e = .returned (.tuple #[.string a, .string b, .bool p]) ∧ Below w.heap.size w w')
    (ha : isDig (a.data.toList.map dig) = false) :
    Calls Tryz.prog 37 #[.string s] w fun e w' => e = flt 5 ∧ Below w.heap.size w w' := by
  have C1 := Lib.hid c1
  have C2 := Lib.hid c2
  have CA := Lib.hid (fun w => isDigits_any a hsa w)
  rw [ha] at CA
  clear c1 c2 ha
  go_enter Tryz.func37, Tryz.ntmps37
  go_wp2_with (first | (go_at_call 103; refine (C1.out _).mono ?_; rintro e w' ⟨rfl, rfl⟩) | (go_at_call 104; refine (C2.out _).mono ?_; rintro e w1 ⟨rfl, hb1⟩) | (go_at_call 105; refine (CA.out _).mono ?_; rintro e w2 ⟨rfl, hb2⟩))
  exact ⟨rfl, rfl, kc hb1 hb2⟩

/-- Bytes as a Go string. -/
abbrev bs (l : List UInt8) : ByteArray := ⟨l.toArray⟩
theorem bs_size (l : List UInt8) : (bs l).size = l.length := by simp [ByteArray.size]
theorem bs_list (l : List UInt8) : (bs l).data.toList = l := by simp
theorem bs_self (s : ByteArray) : bs s.data.toList = s := by apply ByteArray.ext; simp
theorem bs_take (l : List UInt8) (k : Nat) : (bs l).extract 0 k = bs (l.take k) := by
  apply ByteArray.ext
  rw [ByteArray.data_extract]
  apply Array.ext'
  simp
theorem bs_drop (l : List UInt8) (k : Nat) : (bs l).extract k (bs l).size = bs (l.drop k) := by
  apply ByteArray.ext
  rw [ByteArray.data_extract, bs_size]
  apply Array.ext'
  simp only [Array.toList_extract, List.toList_toArray, List.extract_eq_take_drop]
  exact List.take_of_length_le (by simp)

/-- A text's parts, cut at the point: what is ahead of it, what is behind it, and whether there is one. -/
def cutL (t : List UInt8) : List UInt8 × List UInt8 × Bool :=
  if Lib.indexByte t 46 = -1 then (t, [], false) else (t.take (Lib.indexByte t 46).toNat, t.drop ((Lib.indexByte t 46).toNat + 1), true)

theorem cut_parts (t : List UInt8) (ht : t.length ≤ 60) (w : World) :
    Calls Tryz.prog 104 #[.string (bs t), .string ⟨#[46]⟩] w fun e w' => e = .returned (.tuple #[.string (bs (cutL t).1), .string (bs (cutL t).2.1), .bool (cutL t).2.2]) ∧ Below w.heap.size w w' := by
  have hs : (bs t).size ≤ 9223372036854775807 := by rw [bs_size]; omega
  unfold cutL
  by_cases h : Lib.indexByte t 46 = -1
  · rw [if_pos h]
    refine (cut_any (bs t) (bs t) (bs []) ⟨#[46]⟩ false w (fun w => cut_none (bs t) 46 w (by rw [bs_list]; exact h))).mono ?_
    rintro e w' ⟨rfl, n, rfl⟩
    exact ⟨rfl, below_drewN w n⟩
  · rw [if_neg h]
    have hg := Lib.indexByte_ge t 46
    obtain ⟨k, hk⟩ : ∃ k : Nat, Lib.indexByte t 46 = k := ⟨(Lib.indexByte t 46).toNat, by omega⟩
    have hl : k < t.length := by
      have := (Lib.indexByte_some hk).1
      exact (List.getElem?_eq_some_iff.1 this).1
    rw [hk]
    refine (cut_any (bs t) (bs (t.take k)) (bs (t.drop (k + 1))) ⟨#[46]⟩ true w (fun w => ?_)).mono ?_
    · have := cut_some (bs t) 46 k w (by rw [bs_size]; omega) hs (by rw [bs_list]; exact hk)
      rw [bs_take, bs_drop] at this
      exact this
    · rintro e w' ⟨rfl, n, rfl⟩
      exact ⟨rfl, below_drewN w n⟩

/-- Has a text whole digits, without a leading zero, and digits behind its point, if it has one? -/
def formOk (a b : List UInt8) (p : Bool) : Prop :=
  isDig (a.map dig) = true ∧ ¬ (a.head? = some 48 ∧ a ≠ [48]) ∧ (p = false ∨ isDig (b.map dig) = true)

/-- Seventeen zeros. -/
abbrev zs : List UInt8 := [48, 48, 48, 48, 48, 48, 48, 48, 48, 48, 48, 48, 48, 48, 48, 48, 48]

theorem head_of (a : List UInt8) (h : 0 < (bs a).size) : a.head? = some ((bs a)[0]'h) := by
  cases a with
  | nil => simp [ByteArray.size] at h
  | cons x r => rfl

theorem isDig_pos {l : List Dig} (h : isDig l = true) : l ≠ [] ∧ ∀ d ∈ l, 0 ≤ d.1 ∧ d.1 ≤ 9 := by
  unfold isDig at h
  rw [Bool.and_eq_true, List.all_eq_true] at h
  refine ⟨fun e => by rw [e] at h; exact absurd h.1 (by decide), fun d hd => of_decide_eq_true (h.2 d hd)⟩

theorem split_ok (s t a b : List UInt8) (m p : Bool) (w : World) (hla : a.length ≤ 60) (hlb : b.length ≤ 60)
    (c1 : ∀ w, Calls Tryz.prog 103 #[.string (bs s), .string ⟨#[45]⟩] w fun e w' => e = .returned (.tuple #[.string (bs t), .bool m]) ∧ w' = w)
    (c2 : ∀ w, Calls Tryz.prog 104 #[.string (bs t), .string ⟨#[46]⟩] w fun e w' => e = .returned (.tuple #[.string (bs a), .string (bs b), .bool p]) ∧ Below w.heap.size w w')
    (hf : formOk a b p) :
    Calls Tryz.prog 37 #[.string (bs s)] w fun e w' => e = .returned (.tuple #[.bool m, .string (bs a), .string (bs (b ++ zs))]) ∧ Below w.heap.size w w' := by
  obtain ⟨h1, h2, h3⟩ := hf
  have hne := (isDig_pos h1).1
  have hpos : 0 < (bs a).size := by
    rw [bs_size]
    exact List.length_pos_iff.2 (fun e => hne (by rw [e]; rfl))
  have hh := head_of a hpos
  refine split_walk (bs s) (bs t) (bs a) (bs b) m p w _ ⟨?_, ?_, ?_⟩ (by rw [bs_size]; omega) (by rw [bs_size]; omega) c1 c2 (by rw [bs_list]; exact h1) (by omega)
  · rintro ⟨h, h0⟩ hx
    rw [ByteArray.toList_eq, bs_list] at hx
    exact absurd ⟨hh.trans (congrArg some (UInt8.toNat_inj.1 (by show ((bs a)[0]'h).toNat = 48; omega))), hx⟩ h2
  · intro _ hp hb
    rw [bs_list] at hb
    rcases h3 with h3 | h3
    · rw [h3] at hp; exact absurd hp (by decide)
    · rw [h3] at hb; exact absurd hb (by decide)
  · intro _ _
    have : bs b ++ ⟨#[48, 48, 48, 48, 48, 48, 48, 48, 48, 48, 48, 48, 48, 48, 48, 48, 48]⟩ = bs (b ++ zs) := by
      apply ByteArray.ext
      simp
    rw [this]

theorem split_no (s t a b : List UInt8) (m p : Bool) (w : World) (hla : a.length ≤ 60) (hlb : b.length ≤ 60)
    (c1 : ∀ w, Calls Tryz.prog 103 #[.string (bs s), .string ⟨#[45]⟩] w fun e w' => e = .returned (.tuple #[.string (bs t), .bool m]) ∧ w' = w)
    (c2 : ∀ w, Calls Tryz.prog 104 #[.string (bs t), .string ⟨#[46]⟩] w fun e w' => e = .returned (.tuple #[.string (bs a), .string (bs b), .bool p]) ∧ Below w.heap.size w w')
    (hf : ¬ formOk a b p) :
    Calls Tryz.prog 37 #[.string (bs s)] w fun e w' => e = flt 5 ∧ Below w.heap.size w w' := by
  by_cases h1 : isDig (a.map dig) = true
  · have hne := (isDig_pos h1).1
    have hpos : 0 < (bs a).size := by
      rw [bs_size]
      exact List.length_pos_iff.2 (fun e => hne (by rw [e]; rfl))
    have hh := head_of a hpos
    refine split_walk (bs s) (bs t) (bs a) (bs b) m p w _ ⟨fun _ _ => rfl, fun _ _ _ => rfl, ?_⟩ (by rw [bs_size]; omega) (by rw [bs_size]; omega) c1 c2 (by rw [bs_list]; exact h1) (by omega)
    intro hx h3
    rw [bs_list] at h3
    refine absurd ⟨h1, ?_, h3⟩ hf
    rintro ⟨k1, k2⟩
    rcases hx with ⟨h, h0⟩ | h0
    · rw [hh] at k1
      have := Option.some.inj k1
      rw [this] at h0
      exact h0 rfl
    · rw [ByteArray.toList_eq, bs_list] at h0
      exact k2 h0
  · exact split_bad (bs s) (bs t) (bs a) (bs b) m p w (by rw [bs_size]; omega) c1 c2 (by rw [bs_list]; simpa using h1)

theorem enters_read (args : Array Value) (w : World) : (callFunc 35 args).run Tryz.prog w = .ok (.enter 35 args) w := by
  simp [go_sem]

set_option maxHeartbeats 1000000 in
theorem read_out (s : ByteArray) (how : Int) (r : Int × Int) (w : World)
    (hin : (r.2 = 0 ∧ ∀ Sp Hp W, W.cell? ⟨Sp, 0, none⟩ = some (.string s) → W.cell? ⟨Hp, 0, none⟩ = some (.int .i64 how) →
        Calls Tryz.prog 35 #[.pointer (some ⟨Hp, 0, none⟩), .pointer (some ⟨Sp, 0, none⟩)] W fun e w' => e = .returned (.int .i64 r.1) ∧ Below W.heap.size W w') ∨
      (r.1 = 0 ∧ ∀ Sp Hp W, W.cell? ⟨Sp, 0, none⟩ = some (.string s) → W.cell? ⟨Hp, 0, none⟩ = some (.int .i64 how) →
        Calls Tryz.prog 35 #[.pointer (some ⟨Hp, 0, none⟩), .pointer (some ⟨Sp, 0, none⟩)] W fun e w' => e = flt r.2 ∧ Below W.heap.size W w')) :
    Calls Tryz.prog 7 #[.string s, .int .i64 how] w fun e w' => e = .returned (.tuple #[.int .i64 r.1, .int .i64 r.2]) ∧ Below w.heap.size w w' := by
  have hmf : ∀ (fn : Fn) (first cap : Array Value) (w : World), (Instr.makeFunc fn first cap).run Tryz.prog w = .ok (.func fn first cap) w := fun _ _ _ _ => rfl
  have ha := attempt_fix 35 #[.pointer (some ⟨w.heap.size + 1, 0, none⟩), .pointer (some ⟨w.heap.size, 0, none⟩)] r
    ((w.alloc (.cells #[.string s] 9)).alloc (.cells #[.int .i64 how] 3)) enters_read
    (by
      rcases hin with ⟨h, hin⟩ | ⟨h, hin⟩
      · exact .inl ⟨h, fun W hb => hin _ _ W (cell_later hb (by simp [go_sem])) (cell_later hb (by simp [go_sem]))⟩
      · exact .inr ⟨h, fun W hb => hin _ _ W (cell_later hb (by simp [go_sem])) (cell_later hb (by simp [go_sem]))⟩)
  have HA := Lib.hid ha
  clear ha hin
  go_enter Tryz.func7, Tryz.ntmps7
  go_wp2_with (go_at_call 34; refine HA.out.mono ?_; rintro e w1 ⟨rfl, hb⟩)
  go_ret2
  exact ⟨rfl, (((Below.refl w.heap.size w).alloc (Nat.le_refl _) _).alloc (by simp) _).trans (hb.mono (by simp; omega))⟩

/-- What the parts of a text are together, times 10 to the power of 17 and of One. -/
def wholeV (n v : Int) (t m : Bool) : Int :=
  (if m then -1 else 1) * ((n * 100000000000000000 + v) * 65536 + (if t then 1 else 0))

/-- Whether a text has a minus sign, and what is behind it. -/
def minusL (l : List UInt8) : Bool := Lib.hasPrefix l [45]
def restL (l : List UInt8) : List UInt8 := Lib.trimPrefix l [45]

/-- What is ahead of the point, what is behind it and seventeen zeros, and whether the form is right. -/
def aheadL (l : List UInt8) : List UInt8 := (cutL (restL l)).1
def behindL (l : List UInt8) : List UInt8 := (cutL (restL l)).2.1 ++ zs
def fineL (l : List UInt8) : Prop := formOk (cutL (restL l)).1 (cutL (restL l)).2.1 (cutL (restL l)).2.2
instance (l : List UInt8) : Decidable (fineL l) := by unfold fineL formOk; infer_instance

/-- The number of a text, times 10 to the power of 17 and of One. -/
def textV (l : List UInt8) : Int :=
  wholeV (valOf ((aheadL l).map dig)) (valOf (((behindL l).take 17).map dig)) (!(Lib.trimB ((behindL l).drop 17) 48).isEmpty) (minusL l)

/-- What Read gives: the value and the error. -/
def readS (l : List UInt8) (how : Int) : Int × Int :=
  if 0 ≤ how ∧ how ≤ 3 then
    if l.length ≤ 60 then
      if fineL l then
        if valOf ((aheadL l).map dig) ≤ 1073741824 then
          if Vld (rnd how (textV l) 100000000000000000) then (rnd how (textV l) 100000000000000000, 0) else (0, 4)
        else (0, 4)
      else (0, 5)
    else (0, 3)
  else (0, 2)

theorem rest_length (l : List UInt8) : (restL l).length ≤ l.length := by
  unfold restL Lib.trimPrefix
  split
  · rw [List.length_drop]; omega
  · exact Nat.le_refl _
theorem cut_length (t : List UInt8) : (cutL t).1.length ≤ t.length ∧ (cutL t).2.1.length ≤ t.length := by
  unfold cutL
  split
  · exact ⟨Nat.le_refl _, Nat.zero_le _⟩
  · exact ⟨by rw [List.length_take]; omega, by rw [List.length_drop]; omega⟩
theorem behind_length (l : List UInt8) : (behindL l).length = (cutL (restL l)).2.1.length + 17 := by
  unfold behindL
  rw [List.length_append]
  rfl
theorem zs_dig : ∀ d ∈ zs.map dig, 0 ≤ d.1 ∧ d.1 ≤ 9 := by decide

theorem split_l (l : List UInt8) (hl : l.length ≤ 60) (w : World) :
    (fineL l → Calls Tryz.prog 37 #[.string (bs l)] w fun e w' => e = .returned (.tuple #[.bool (minusL l), .string (bs (aheadL l)), .string (bs (behindL l))]) ∧ Below w.heap.size w w') ∧
    (¬ fineL l → Calls Tryz.prog 37 #[.string (bs l)] w fun e w' => e = flt 5 ∧ Below w.heap.size w w') := by
  have h1 := rest_length l
  have h2 := cut_length (restL l)
  have c1 := fun w => Tryz.strings_CutPrefix (bs l) ⟨#[45]⟩ w
  have c2 := fun w => cut_parts (restL l) (by omega) w
  exact ⟨fun h => split_ok l (restL l) _ _ (minusL l) _ w (Nat.le_trans h2.1 (by omega)) (Nat.le_trans h2.2 (by omega)) c1 c2 h, fun h => split_no l (restL l) _ _ (minusL l) _ w (Nat.le_trans h2.1 (by omega)) (Nat.le_trans h2.2 (by omega)) c1 c2 h⟩

theorem hi_small (v : Int) (h0 : 0 ≤ v) (h1 : v < 18446744073709551616) : hiOf v = 0 ∧ loOf v = v := by
  unfold hiOf loOf
  omega

theorem behind_dig {l : List UInt8} (hf : fineL l) : ∀ d ∈ ((behindL l).take 17).map dig, 0 ≤ d.1 ∧ d.1 ≤ 9 := by
  have hd2 : ∀ d ∈ (behindL l).map dig, 0 ≤ d.1 ∧ d.1 ≤ 9 := by
    intro d hd
    unfold behindL at hd
    rw [List.map_append, List.mem_append] at hd
    rcases hd with hd | hd
    · rcases hf.2.2 with h | h
      · have : (cutL (restL l)).2.1 = [] := by
          unfold cutL at h ⊢
          split at h
          · rename_i hi; rw [if_pos hi]
          · exact absurd h (by simp)
        rw [this] at hd
        exact absurd hd (by simp)
      · exact (isDig_pos h).2 d hd
    · exact zs_dig d hd
  intro d hd
  rw [List.map_take] at hd
  exact hd2 d (List.mem_of_mem_take hd)

theorem read_in (l : List UInt8) (how : Int) (S H : Nat) (w : World) (h0 : 0 ≤ how) (h1 : how ≤ 3) (hl : l.length ≤ 60) (hf : fineL l) (hn : valOf ((aheadL l).map dig) ≤ 1073741824) (E : Ending)
    (hE : (∃ z, E = .returned (.int .i64 z)) ∨ (∃ n, E = flt n))
    (co : ∀ W, Calls Tryz.prog 45 #[.agg #[.int .i64 (hiOf (textV l)), .int .u64 (loOf (textV l))], .int .i64 100000000000000000, .func (.func (wayFn how)) #[] #[]] W fun e w' => e = E ∧ Below W.heap.size W w')
    (c10 : w.cell? ⟨S, 0, none⟩ = some (.string (bs l))) (c20 : w.cell? ⟨H, 0, none⟩ = some (.int .i64 how)) :
    Calls Tryz.prog 35 #[.pointer (some ⟨H, 0, none⟩), .pointer (some ⟨S, 0, none⟩)] w fun e w' => e = E ∧ Below w.heap.size w w' := by
  have g1 := rest_length l
  have g2 := cut_length (restL l)
  have g3 := behind_length l
  have hd1 := (isDig_pos hf.1).2
  have hd3 := behind_dig hf
  obtain ⟨n, hN⟩ : ∃ n, valOf ((aheadL l).map dig) = n := ⟨_, rfl⟩
  obtain ⟨v, hV⟩ : ∃ v, valOf (((behindL l).take 17).map dig) = v := ⟨_, rfl⟩
  have n0 := (valOf_bd _ hd1).1
  obtain ⟨v0, v1⟩ := valOf_bd _ hd3
  have c2 := fun w => value_any (bs (aheadL l)) (by rw [bs_size]; unfold aheadL; omega) w (by rw [bs_list]; exact hd1)
  have c3 := fun w => value_any (bs ((behindL l).take 17)) (by rw [bs_size, List.length_take]; omega) w (by rw [bs_list]; exact hd3)
  rw [bs_list, hN] at c2
  rw [bs_list, hV] at c3
  have c4 : ∀ w, Calls Tryz.prog 43 #[.string (bs ((behindL l).drop 17)), .string ⟨#[48]⟩] w fun e w' => e = .returned (.string (bs (Lib.trimB ((behindL l).drop 17) 48))) ∧ Below w.heap.size w w' := fun w =>
    (Tryz.strings_Trim_one (bs ((behindL l).drop 17)) 48 (by decide) w (by rw [bs_size, List.length_drop]; omega)).mono (by
      rintro e w' ⟨rfl, h⟩
      rcases h with rfl | rfl
      · exact ⟨rfl, Below.refl _ _⟩
      · exact ⟨rfl, (Below.refl _ _).drew⟩)
  change valOf ((aheadL l).map dig) ≥ 0 at n0
  rw [hN] at n0 hn
  rw [hV] at v0 v1
  have cs := fun w => size_any v w (by omega) (by omega)
  have hvn : ((v.natAbs : Nat) : Int) = v := by omega
  rw [hvn] at cs
  obtain ⟨e1, e2⟩ := hi_small v v0 (by omega)
  have ca := fun w => plus_any (n * 100000000000000000) v w (by omega) (by omega)
  rw [e1, e2] at ca
  have ct := fun w => times_any (n * 100000000000000000 + v) 65536 w (by omega) (by omega) (by omega)
  have cb := fun w => plus_any ((n * 100000000000000000 + v) * 65536) 1 w (by omega) (by omega)
  have cn := fun w => negative_any ((n * 100000000000000000 + v) * 65536) w (by omega) (by omega)
  have cm := fun w => negative_any ((n * 100000000000000000 + v) * 65536 + 1) w (by omega) (by omega)
  have hT : textV l = wholeV n v (!(Lib.trimB ((behindL l).drop 17) 48).isEmpty) (minusL l) := by
    unfold textV; rw [hN, hV]
  rw [hT] at co
  have hq : (bs (Lib.trimB ((behindL l).drop 17) 48)).toList = Lib.trimB ((behindL l).drop 17) 48 := by rw [ByteArray.toList_eq, bs_list]
  rw [← bs_take] at c3
  rw [← bs_drop] at c4
  refine read_walk (bs l) (bs (aheadL l)) (bs (behindL l)) (bs (Lib.trimB ((behindL l).drop 17) 48)) (minusL l) n v _ _ _ _ _ _ _ _ _ _ _ _ E how S H w h0 h1 (by rw [bs_size]; exact hl) hn (by rw [bs_size]; omega)
    (fun w => (split_l l hl w).1 hf) c2 c3 cs (fun w => product_any n 100000000000000000 w (by omega) (by omega) (by omega) (by omega)) ca ct c4 cb cn cm ?_ hE c10 c20
  rw [hq]
  refine ⟨fun ht hm => ?_, fun ht hm => ?_, fun ht hm => ?_, fun ht hm => ?_⟩
  all_goals rw [ht, hm] at co
  · have : wholeV n v true true = -((n * 100000000000000000 + v) * 65536 + 1) := by unfold wholeV; simp
    rw [this] at co; exact co
  · have : wholeV n v true false = (n * 100000000000000000 + v) * 65536 + 1 := by unfold wholeV; simp
    rw [this] at co; exact co
  · have : wholeV n v false true = -((n * 100000000000000000 + v) * 65536) := by unfold wholeV; simp
    rw [this] at co; exact co
  · have : wholeV n v false false = (n * 100000000000000000 + v) * 65536 := by unfold wholeV; simp
    rw [this] at co; exact co

theorem wholeV_bd (n v : Int) (t m : Bool) (n0 : 0 ≤ n) (n1 : n ≤ 1073741824) (v0 : 0 ≤ v) (v1 : v ≤ 100000000000000000) :
    -170141183460469231731687303715884105728 < wholeV n v t m ∧ wholeV n v t m < 170141183460469231731687303715884105728 := by
  unfold wholeV
  cases t <;> cases m <;> simp <;> omega

theorem read_any (l : List UInt8) (how : Int) (w : World) :
    Calls Tryz.prog 7 #[.string (bs l), .int .i64 how] w fun e w' => e = .returned (.tuple #[.int .i64 (readS l how).1, .int .i64 (readS l how).2]) ∧ Below w.heap.size w w' := by
  apply read_out
  unfold readS
  by_cases hh : 0 ≤ how ∧ how ≤ 3
  · rw [if_pos hh]
    by_cases hl : l.length ≤ 60
    · rw [if_pos hl]
      by_cases hf : fineL l
      · rw [if_pos hf]
        by_cases hn : valOf ((aheadL l).map dig) ≤ 1073741824
        · rw [if_pos hn]
          have hd1 := (isDig_pos hf.1).2
          have n0 : 0 ≤ valOf ((aheadL l).map dig) := (valOf_bd _ hd1).1
          have hv := valOf_bd _ (behind_dig hf)
          have hb : -170141183460469231731687303715884105728 < textV l ∧ textV l < 170141183460469231731687303715884105728 := wholeV_bd _ _ _ _ n0 hn hv.1 hv.2
          by_cases hz : Vld (rnd how (textV l) 100000000000000000)
          · rw [if_pos hz]
            exact .inl ⟨rfl, fun S H W c1 c2 => read_in l how S H W hh.1 hh.2 hl hf hn _ (.inl ⟨_, rfl⟩) (fun W => over_ok how _ _ W hh.1 hh.2 hb.1 hb.2 (by omega) (by omega) (by omega) hz) c1 c2⟩
          · rw [if_neg hz]
            exact .inr ⟨rfl, fun S H W c1 c2 => read_in l how S H W hh.1 hh.2 hl hf hn _ (.inr ⟨_, rfl⟩) (fun W => over_bad how _ _ W hh.1 hh.2 hb.1 hb.2 (by omega) (by omega) (by omega) hz) c1 c2⟩
        · rw [if_neg hn]
          have hd1 := (isDig_pos hf.1).2
          have g1 := rest_length l
          have g2 := cut_length (restL l)
          have c2 := fun w => value_any (bs (aheadL l)) (by rw [bs_size]; unfold aheadL; omega) w (by rw [bs_list]; exact hd1)
          rw [bs_list] at c2
          exact .inr ⟨rfl, fun S H W k1 k2 => read_great (bs l) _ _ _ _ how S H W hh.1 hh.2 (by rw [bs_size]; exact hl) (by omega) (fun w => (split_l l hl w).1 hf) c2 k1 k2⟩
      · rw [if_neg hf]
        exact .inr ⟨rfl, fun S H W k1 k2 => read_form (bs l) how S H W hh.1 hh.2 (by rw [bs_size]; exact hl) (fun w => (split_l l hl w).2 hf) k1 k2⟩
    · rw [if_neg hl]
      exact .inr ⟨rfl, fun S H W k1 k2 => read_long (bs l) how S H W hh.1 hh.2 (by rw [bs_size]; omega) k1 k2⟩
  · rw [if_neg hh]
    exact .inr ⟨rfl, fun S H W _ k2 => read_how how S H W (by omega) k2⟩

end Go.Proofs.YtebfhjndgfcijaaGreatDoor
