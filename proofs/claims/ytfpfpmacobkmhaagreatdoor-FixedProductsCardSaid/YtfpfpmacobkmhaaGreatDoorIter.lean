/- The contracts of package fixed's digits, value and isDigits: a loop over an iterator of a text's digits. No conditions but the form's reach. -/
import Derived.Test.YtfpfpmacobkmhaaGreatDoorNeeds
import Derived.RangeFuncNested
import Derived.RangeFuncBound
import Derived.RangeFuncCalls
import Derived.RangeFuncLeaves
import Derived.RangeFuncFrom
import Derived.Shelf.Abstract
import Derived.Shelf.RegionOpen
import Derived.OwnWalkIn
import Derived.TacticsInMore
import Derived.LoopNIn
import Derived.LoopIn
namespace Go.Proofs.YtfpfpmacobkmhaaGreatDoor
open Go Go.RowKit Go.Shelf
attribute [local go_sem] Oper.semAt_some

theorem cell_new_l (W : World) (v : Value) (t : TypeId) : (W.alloc (.cells #[v] t)).cell? ⟨W.heap.size, 0, none⟩ = some v ∧ (W.alloc (.cells #[v] t)).frozen? ⟨W.heap.size, 0, none⟩ = false :=
  ⟨by simp [go_sem], by simp [go_sem]⟩
theorem frozen_alloc_l {W : World} {a : Addr} {v : Value} (o : Obj) (h : W.cell? a = some v) (hf : W.frozen? a = false) : (W.alloc o).frozen? a = false :=
  (frozen_kept h (World.grownBy_alloc W o none) (fun r e => by cases e)).trans hf

/-- What a byte is worth as a decimal digit: as much as a byte less 48 can be. -/
abbrev Dig := { x : Int // -48 ≤ x ∧ x ≤ 207 }
def dig (c : UInt8) : Dig := ⟨(c.toNat : Int) - 48, by have := c.toNat_lt; omega, by have := c.toNat_lt; omega⟩

/-- What the loop's body must keep for the iterator: the box of the text. -/
def KeepsBox (B : Nat) (W W' : World) : Prop := ∀ v, W.cell? ⟨B, 0, none⟩ = some v → W'.cell? ⟨B, 0, none⟩ = some v
theorem keepsBox_t {B : Nat} {X Y Z : World} (h : KeepsBox B X Y) (k : KeepsBox B Y Z) : KeepsBox B X Z := fun v hv => k v (h v hv)
theorem keepsBox_b {B : Nat} {w : World} (W : World) (l : Nat) (o o' : Obj) (_ : w.heap.size ≤ l) (h : W.heap[l]? = some o) (ho : o.isCells = false) (_ : o.isWalk = false) : KeepsBox B W (W.putObj l o') :=
  fun _ hv => cell_kept hv (grownBy_putObj' W l o') (fun r e => by cases e; exact ⟨o, h, ho⟩)

theorem digits_any (s : ByteArray) (w : World) :
    CallsIn Fence.wide 2 Tryz.prog 92 #[.string s] w fun e w' => e = .returned (.func (.func 104) #[] #[.pointer (some ⟨w.heap.size, 0, none⟩)]) ∧ w' = w.alloc (.cells #[.string s] 9) := by
  refine callsIn_wide.2 ?_
  have hmf : ∀ (fn : Fn) (first cap : Array Value) (w : World), (Instr.makeFunc fn first cap).run Tryz.prog w = .ok (.func fn first cap) w := fun _ _ _ _ => rfl
  go_enter Tryz.func92, Tryz.ntmps92
  go_wp2
  go_ret
  exact ⟨rfl, rfl⟩

set_option maxRecDepth 100000 in
set_option maxHeartbeats 2000000 in
/-- The iterator's own walk: it hands on what each byte is worth, as long as the loop's body says yes. -/
theorem digits1_in (n : Nat) (_hn : 1 ≤ n) (l Bs : Nat) (s : ByteArray) (hs : s.size ≤ 9223372036854775807) (J Jx : List Dig → World → Prop)
    (hY : ∀ pre x W, J pre W → pre.length < s.size → YieldAt Fence.wide (n - 1) Tryz.prog l #[.int .i64 x.1] W fun e W' =>
      (e = .returned (.bool true) ∧ J (pre ++ [x]) W' ∧ KeepsBox Bs W W') ∨ (e = .returned (.bool false) ∧ Jx (pre ++ [x]) W'))
    (W : World) (hBs : W.cell? ⟨Bs, 0, none⟩ = some (.string s)) (h0 : J [] W) :
    CallsIn Fence.wide n Tryz.prog 104 #[.func (.yield l) #[] #[], .pointer (some ⟨Bs, 0, none⟩)] W fun e W' => (∃ v, e = .returned v) ∧
      ((∃ ys, ys = s.data.toList.map dig ∧ J ys W') ∨ (∃ pre, pre <+: s.data.toList.map dig ∧ Jx pre W')) := by
  have hsz : s.data.toList.length = s.size := Array.length_toList
  refine callsIn_of_wp Tryz.func104 rfl trivial ?_ rfl
  simp only [Tryz.ntmps104, List.size_toArray, List.length_cons, List.length_nil, Nat.reduceAdd, Nat.reduceSub, Array.replicate_succ, Array.replicate_zero, List.push_toArray, List.append_toArray, List.nil_append, List.cons_append]
  gi_wp2
  gi_loopw [6] (fun i wr => ∃ k : Nat, k ≤ s.size ∧ i = .int .i64 k ∧ J ((s.data.toList.map dig).take k) wr ∧ KeepsBox Bs W wr)
    (fun i _ => s.size - (intOf i).toNat)
  case atStart => exact ⟨0, Nat.zero_le _, rfl, h0, fun _ h => h⟩
  case round =>
    obtain ⟨k, hk, rfl, hJs, hnx⟩ := hrel
    have hcx : wr.cell? ⟨Bs, 0, none⟩ = some (.string s) := hnx _ hBs
    by_cases hlt : k < s.size
    · have hsn : (s.data.toList.map dig).take (k + 1) = (s.data.toList.map dig).take k ++ [dig s[k]] := by
        rw [List.take_succ_eq_append_getElem (by simpa using hlt)]; simp; rfl
      have HS := Lib.hid hsn
      clear hsn
      have b1 : (s[k].toNat : Int) < 256 := by have := s[k].toNat_lt; omega
      obtain ⟨fn, tmps, assign, body, hy, hR⟩ := hY _ (dig s[k]) wr hJs (by simp; omega)
      dsimp only [dig] at hy
      gi_wp2
      refine hR.mono ?_
      rintro e W3 (⟨rfl, hJ3, hk3⟩ | ⟨rfl, hJx3⟩)
      · gi_wp2
        go_roundw
        case rel => exact ⟨k + 1, by omega, by go_num, by rw [HS.out]; exact hJ3, keepsBox_t hnx hk3⟩
        case measure => simp [intOf]; omega
      · gi_wp2
        refine bodyPost_ret (results_none rfl _ _ _) rfl ?_
        exact ⟨⟨_, rfl⟩, .inr ⟨_, by rw [← HS.out]; exact List.take_prefix _ _, hJx3⟩⟩
    · have he : (s.data.toList.map dig).take k = s.data.toList.map dig := List.take_of_length_le (by rw [List.length_map]; omega)
      rw [he] at hJs
      have HJ := Lib.hid hJs
      clear he hJs
      gi_wp2
      go_end0
      exact ⟨⟨_, rfl⟩, .inl ⟨_, rfl, HJ.out⟩⟩

theorem digits_stops (n : Nat) (hn : 1 ≤ n) (Bs : Nat) (s : ByteArray) (hs : s.size ≤ 9223372036854775807) (w : World) (hBs : w.cell? ⟨Bs, 0, none⟩ = some (.string s)) :
    SeqStopsK Fence.wide n Tryz.prog 104 #[.pointer (some ⟨Bs, 0, none⟩)] (fun x : Dig => #[.int .i64 x.1]) (KeepsBox Bs) (fun xs => xs = s.data.toList.map dig) (fun pre => pre <+: s.data.toList.map dig) s.size w :=
  fun l J Jx W hW _ _ hY h0 => digits1_in n hn l Bs s hs J Jx hY W (cell_later hW hBs) h0

/-- The number of decimal digits, as value reckons it. -/
def valOf (l : List Dig) : Int := l.foldl (fun n d => min (10 * n + d.1) 100000000000000000) 0

theorem valOf_snoc (l : List Dig) (d : Dig) : valOf (l ++ [d]) = min (10 * valOf l + d.1) 100000000000000000 := by
  unfold valOf
  rw [List.foldl_append]
  rfl

theorem valOf_bd : ∀ l : List Dig, (∀ d ∈ l, 0 ≤ d.1 ∧ d.1 ≤ 9) → 0 ≤ valOf l ∧ valOf l ≤ 100000000000000000 := by
  intro l
  unfold valOf
  suffices h : ∀ (l : List Dig) (n : Int), 0 ≤ n → n ≤ 100000000000000000 → (∀ d ∈ l, 0 ≤ d.1 ∧ d.1 ≤ 9) → 0 ≤ l.foldl (fun n d => min (10 * n + d.1) 100000000000000000) n ∧ l.foldl (fun n d => min (10 * n + d.1) 100000000000000000) n ≤ 100000000000000000 from h l 0 (by omega) (by omega)
  intro l
  induction l with
  | nil => intro n h0 h1 _; exact ⟨h0, h1⟩
  | cons d r ih =>
    intro n h0 h1 hd
    have := hd d (List.mem_cons_self ..)
    exact ih _ (by show 0 ≤ min (10 * n + d.1) 100000000000000000; omega) (by show min (10 * n + d.1) 100000000000000000 ≤ 100000000000000000; omega) (fun e he => hd e (List.mem_cons_of_mem _ he))

set_option maxRecDepth 100000 in
set_option maxHeartbeats 2000000 in
theorem value_in (s : ByteArray) (hs : s.size ≤ 9223372036854775807) (w : World) (hd : ∀ d ∈ s.data.toList.map dig, 0 ≤ d.1 ∧ d.1 ≤ 9) :
    CallsIn Fence.wide 3 Tryz.prog 77 #[.string s] w fun e W' => e = .returned (.int .i64 (valOf (s.data.toList.map dig))) ∧ Below w.heap.size w W' := by
  refine callsIn_of_wp_marks Tryz.func77 rfl trivial ?_ rfl
  simp only [Tryz.ntmps77, List.size_toArray, List.length_cons, List.length_nil, Nat.reduceAdd, Nat.reduceSub, Array.replicate_succ, Array.replicate_zero, List.push_toArray, List.append_toArray, List.nil_append, List.cons_append]
  gi_wp2_with (refine ⟨trivial, ?_⟩; gi_at_call 92; refine (digits_any _ _).mono ?_; rintro e w' ⟨rfl, rfl⟩)
  have hc0 := cell_new_l w (.int .i64 0) 22
  have hb0 := cell_new_l (w.alloc (.cells #[.int .i64 0] 22)) (.string s) 9
  rw [World.size_alloc] at hb0
  have hB0 : Below w.heap.size w ((w.alloc (.cells #[.int .i64 0] 22)).alloc (.cells #[.string s] 9)) := ((Below.refl _ w).alloc (Nat.le_refl _) _).alloc (by simp) _
  refine wpIn_rangeFunc_ownF rfl (by omega) (gf := 104) (lb := #[.pointer (some ⟨w.heap.size + 1, 0, none⟩)]) rfl trivial (enters_of Tryz.func104 (by kernel_rfl) rfl)
    (digits_stops 2 (by omega) (w.heap.size + 1) s hs _ hb0.1) keepsBox_t keepsBox_b (Below.refl _ _) (fun _ => rfl)
    (fun pre W => (∃ z : Int, (W.cell? ⟨w.heap.size, 0, none⟩ = some (.int .i64 z) ∧ W.frozen? ⟨w.heap.size, 0, none⟩ = false) ∧ (pre <+: s.data.toList.map dig → z = valOf pre)) ∧ Below w.heap.size w W)
    (fun _ _ _ => False) ?hI (fun _ _ _ _ _ hs _ _ => hs)
    ⟨⟨0, ⟨alloc_cell hc0.1, frozen_alloc_l _ hc0.1 hc0.2⟩, fun _ => rfl⟩, hB0⟩
    (fun x => { tmps := #[.string s, undef, .int .i64 0, .pointer (some ⟨w.heap.size, 0, none⟩), .int .i64 x.1, .string s, .func (.func 104) #[] #[.pointer (some ⟨w.heap.size + 1, 0, none⟩)], .int .i64 x.1, undef, undef, undef, undef, undef, undef], defers := [] }) ?assign ?body ?done ?stop
  case hI =>
    exact OwnFrom.and (Own.from (fun s A B row hs hg hr => by
      obtain ⟨z, ⟨h1, h2⟩, h3⟩ := hs
      exact ⟨z, ⟨cell_kept h1 hg hr, (frozen_kept h1 hg hr).trans h2⟩, h3⟩) _) (ownFrom_below (Nat.le_refl _) (by simp; omega))
  case assign =>
    intro l x W K hK
    gi_wp2
    exact hK
  case body =>
    rintro l pre x W ⟨⟨z, ⟨hc, hf⟩, hz⟩, hB⟩ _
    have HZ := Lib.hid hz
    have HX := Lib.hid x.2
    clear hz
    gi_wp2
    refine ⟨KeepsOthers.setCell _ _ _, fun _ hv => (World.cell?_setCell_other _ _ _ _ (by simp)).trans hv, ⟨_, ⟨set_same _ hc, by rw [World.frozen?_setCell]; exact hf⟩, ?_⟩, hB.setCell (p := ⟨w.heap.size, 0, none⟩) (Nat.le_refl _) _⟩
    intro hp
    have hp0 := (List.prefix_append pre [x]).trans hp
    have hz := HZ.out hp0
    have hb := valOf_bd pre (fun d hm => hd d (hp0.subset hm))
    have hx := hd x (hp.subset (by simp))
    rw [← hz] at hb
    rw [valOf_snoc, ← hz]
    unfold wrap64
    omega
  case done =>
    rintro D ys W hD rfl ⟨⟨z, ⟨hc, _⟩, hz⟩, hB⟩ hK
    have HZ := Lib.hid (hz (List.prefix_refl _))
    clear hz
    gi_wp2
    refine ⟨by simp, .inl ⟨_, _, rfl, run_takeDeferred hK, ?_⟩⟩
    exact ⟨_, results_tmp rfl _ _ _, by rw [← HZ.out]; rfl, hB.trans (belowK_b (w := w) (Nat.le_refl _) W D _ _ (by simp at hD; omega) hK rfl rfl)⟩
  case stop =>
    rintro D c pre W _ _ h _
    exact h.elim

theorem value_any (s : ByteArray) (hs : s.size ≤ 9223372036854775807) (w : World) (hd : ∀ d ∈ s.data.toList.map dig, 0 ≤ d.1 ∧ d.1 ≤ 9) :
    Calls Tryz.prog 77 #[.string s] w fun e w' => e = .returned (.int .i64 (valOf (s.data.toList.map dig))) ∧ Below w.heap.size w w' :=
  callsIn_wide.1 (value_in s hs w hd)

/-- Decimal digits alone; something else among them. -/
def AllD (l : List Dig) : Prop := ∀ d ∈ l, 0 ≤ d.1 ∧ d.1 ≤ 9
def SomeD (l : List Dig) : Prop := ∃ d ∈ l, ¬ (0 ≤ d.1 ∧ d.1 ≤ 9)

/-- Is a text one or more decimal digits? -/
def isDig (l : List Dig) : Bool := !l.isEmpty && l.all (fun d => decide (0 ≤ d.1 ∧ d.1 ≤ 9))

set_option maxRecDepth 100000 in
set_option maxHeartbeats 2000000 in
theorem isDigits_in (s : ByteArray) (hs : s.size ≤ 9223372036854775807) (w : World) :
    CallsIn Fence.wide 3 Tryz.prog 91 #[.string s] w fun e W' => e = .returned (.bool (isDig (s.data.toList.map dig))) ∧ Below w.heap.size w W' := by
  refine callsIn_of_wp_marks Tryz.func91 rfl trivial ?_ rfl
  simp only [Tryz.ntmps91, List.size_toArray, List.length_cons, List.length_nil, Nat.reduceAdd, Nat.reduceSub, Array.replicate_succ, Array.replicate_zero, List.push_toArray, List.append_toArray, List.nil_append, List.cons_append]
  gi_wp2_with (refine ⟨trivial, ?_⟩; gi_at_call 92; refine (digits_any _ _).mono ?_; rintro e w' ⟨rfl, rfl⟩)
  have hc0 := cell_new_l w (.bool false) 4
  have hb0 := cell_new_l (w.alloc (.cells #[.bool false] 4)) (.string s) 9
  rw [World.size_alloc] at hb0
  have hB0 : Below w.heap.size w ((w.alloc (.cells #[.bool false] 4)).alloc (.cells #[.string s] 9)) := ((Below.refl _ w).alloc (Nat.le_refl _) _).alloc (by simp) _
  refine wpIn_rangeFunc_ownF rfl (by omega) (gf := 104) (lb := #[.pointer (some ⟨w.heap.size + 1, 0, none⟩)]) rfl trivial (enters_of Tryz.func104 (by kernel_rfl) rfl)
    (digits_stops 2 (by omega) (w.heap.size + 1) s hs _ hb0.1) keepsBox_t keepsBox_b (Below.refl _ _) (fun _ => rfl)
    (fun pre W => (AllD pre ∧ W.cell? ⟨w.heap.size, 0, none⟩ = some (.bool false) ∧ W.frozen? ⟨w.heap.size, 0, none⟩ = false) ∧ Below w.heap.size w W)
    (fun c pre W => (c = .ret ∧ SomeD pre ∧ W.cell? ⟨w.heap.size, 0, none⟩ = some (.bool false)) ∧ Below w.heap.size w W) ?hI ?hIx
    ⟨⟨fun _ h => (by cases h), alloc_cell hc0.1, frozen_alloc_l _ hc0.1 hc0.2⟩, hB0⟩
    (fun x => { tmps := #[.string s, undef, .pointer (some ⟨w.heap.size, 0, none⟩), .int .i64 x.1, .string s, .func (.func 104) #[] #[.pointer (some ⟨w.heap.size + 1, 0, none⟩)], .int .i64 x.1, undef, undef, undef, undef, undef, undef, undef, undef], defers := [] }) ?assign ?body ?done ?stop
  case hI =>
    exact OwnFrom.and (Own.from (fun s A B row hs hg hr => ⟨hs.1, cell_kept hs.2.1 hg hr, (frozen_kept hs.2.1 hg hr).trans hs.2.2⟩) _) (ownFrom_below (Nat.le_refl _) (by simp; omega))
  case hIx =>
    exact fun c => OwnFrom.and (Own.from (fun s A B row hs hg hr => ⟨hs.1, hs.2.1, cell_kept hs.2.2 hg hr⟩) _) (ownFrom_below (Nat.le_refl _) (by simp; omega))
  case assign =>
    intro l x W K hK
    gi_wp2
    exact hK
  case body =>
    rintro l pre x W ⟨⟨hp, hc, hf⟩, hB⟩ _
    have HP := Lib.hid hp
    clear hp
    by_cases h0 : x.1 < 0
    · have HI : Hid (SomeD (pre ++ [x])) := ⟨x, by simp, by omega⟩
      gi_wp2
      exact ⟨KeepsOthers.setCell _ _ _, ⟨rfl, HI.out, set_same _ hc⟩, hB.setCell (p := ⟨w.heap.size, 0, none⟩) (Nat.le_refl _) _⟩
    · by_cases h9 : 9 < x.1
      · have HI : Hid (SomeD (pre ++ [x])) := ⟨x, by simp, by omega⟩
        gi_wp2
        exact ⟨KeepsOthers.setCell _ _ _, ⟨rfl, HI.out, set_same _ hc⟩, hB.setCell (p := ⟨w.heap.size, 0, none⟩) (Nat.le_refl _) _⟩
      · have HI : Hid (AllD (pre ++ [x])) := fun d hd => by
          rcases List.mem_append.1 hd with h | h
          · exact HP.out d h
          · obtain rfl : d = x := by simpa using h
            omega
        gi_wp2
        exact ⟨KeepsOthers.refl _, fun _ hv => hv, ⟨HI.out, hc, hf⟩, hB⟩
  case done =>
    rintro D ys W hD rfl ⟨⟨hp, hc, hf⟩, hB⟩ hK
    have HP := Lib.hid hp
    clear hp
    gi_wp2
    have hK' := (KeepsOthers.setCell W ⟨w.heap.size, 0, none⟩ (.bool !s.toList.isEmpty)).same D _ hK rfl
    refine ⟨by simp, .inl ⟨_, _, rfl, run_takeDeferred hK', ?_⟩⟩
    have hc5 := cell_kept (set_same (.bool !s.toList.isEmpty) hc) (grownBy_putObj' _ D (.deferred none)) (fun r e => by cases e; exact ⟨_, hK', rfl⟩)
    refine ⟨.bool !s.toList.isEmpty, by simp [results, Tryz.f91, go_sem, hc5], ?_, (hB.setCell (p := ⟨w.heap.size, 0, none⟩) (Nat.le_refl _) _).trans (belowK_b (w := w) (Nat.le_refl _) _ D _ _ (by simp at hD; omega) hK' rfl rfl)⟩
    have : (s.data.toList.map dig).all (fun d => decide (0 ≤ d.1 ∧ d.1 ≤ 9)) = true := by
      rw [List.all_eq_true]
      exact fun d hd => by simpa using HP.out d hd
    unfold isDig
    rw [this, Bool.and_true, List.isEmpty_map, ByteArray.toList_eq]
  case stop =>
    rintro D c pre W hD hpre ⟨⟨rfl, hin, hc⟩, hB⟩ hK
    have HI := Lib.hid hin
    clear hin
    gi_wp2
    refine ⟨by simp, .inl ⟨_, _, rfl, run_takeDeferred hK, ?_⟩⟩
    have hc5 := cell_kept hc (grownBy_putObj' _ D (.deferred none)) (fun r e => by cases e; exact ⟨_, hK, rfl⟩)
    refine ⟨.bool false, by simp [results, Tryz.f91, go_sem, hc5], ?_, hB.trans (belowK_b (w := w) (Nat.le_refl _) W D _ _ (by simp at hD; omega) hK rfl rfl)⟩
    obtain ⟨d, hd, hn⟩ := HI.out
    have : (s.data.toList.map dig).all (fun d => decide (0 ≤ d.1 ∧ d.1 ≤ 9)) = false := by
      rw [List.all_eq_false]
      exact ⟨d, hpre.subset hd, by simpa using hn⟩
    unfold isDig
    rw [this, Bool.and_false]

theorem isDigits_any (s : ByteArray) (hs : s.size ≤ 9223372036854775807) (w : World) :
    Calls Tryz.prog 91 #[.string s] w fun e w' => e = .returned (.bool (isDig (s.data.toList.map dig))) ∧ Below w.heap.size w w' :=
  callsIn_wide.1 (isDigits_in s hs w)

end Go.Proofs.YtfpfpmacobkmhaaGreatDoor
