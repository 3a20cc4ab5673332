/- The text of a position: package sheet's Print. -/
import Derived.Test.YtfdhgimpdmhdeaaGreatDoorCounts
import Derived.Lib.OthersKept
import Derived.Lib.AppendIntMem
import Derived.Lib.ItoaLen
import Derived.Laws.IdiomStrings
import Derived.StillTailTactics
import Derived.Maps.AppendAt
import Derived.Deep.AppendLies
import Derived.RangeFuncBox
namespace Go.Proofs.YtfdhgimpdmhdeaaGreatDoor
open Go Go.RowKit Go.Shelf
attribute [local go_sem] Oper.semAt_some

theorem infoB : (Tryz.prog.info? 5).map (fun i => (i.zero, i.size, i.bytes)) = some (some (.int .u8 0), 1, 1) := by kernel_rfl
/-- The table that strconv reads. -/
def TabOn (B : Nat) (w : World) : Prop := Lib.TabBelow Tryz.prog B w "internal/strconv.uint64pow10" .u64 Lib.pow10Tab
theorem TabOn.on {B : Nat} {w w' : World} (h : TabOn B w) (hb : Below B w w') : TabOn B w' := fun v hv => h v (hb.trans hv)

/-- A text that the call makes. -/
def OwnB (W : World) (n : Nat) (v : Value) (l : List UInt8) : Prop := W.ownsRow n 5 1 v l.length (Lib.byteCells l)
theorem OwnB.of {W : World} {n k : Nat} {v : Value} {l m : List UInt8} {xs : List Value} (h : W.ownsRow n 5 1 v k xs) (hk : k = l.length + m.length) (hx : xs = Lib.byteCells l ++ Lib.byteCells m) : OwnB W n v (l ++ m) := by
  subst hk
  unfold OwnB
  rw [show Lib.byteCells (l ++ m) = Lib.byteCells l ++ Lib.byteCells m by simp [Lib.byteCells], ← hx, List.length_append]
  exact h
/-- A box of its own stands. -/
def Box4 (W : World) (b : Nat) (s : St) : Prop := W.heap[b]? = some (.cells #[.int .i64 s.t, .int .i64 s.n, .int .i64 s.x, .int .i64 s.y] 39 (0, 0))
theorem Box4.at {W : World} {b : Nat} {s : St} (h : Box4 W b s) : StAt W b 0 s := by
  unfold Box4 at h
  unfold StAt World.cell?
  simp [h]
theorem box4_new (W : World) (s : St) : Box4 (W.alloc (.cells #[.int .i64 s.t, .int .i64 s.n, .int .i64 s.x, .int .i64 s.y] 39)) W.heap.size s := by
  unfold Box4 World.alloc
  simp
theorem own_block {W : World} {n k g : Nat} {v : Value} {xs : List Value} (h : W.ownsRow n 5 1 v k xs) (hg : v.ownBlock = some g) : ∃ c fz, W.heap[g]? = some (.cells c 5 fz) := by
  obtain ⟨_, ⟨rfl, _⟩ | ⟨g', cap, cur, rfl, hb, hgg, _⟩⟩ := h
  · cases hg
  · obtain rfl : g' = g := Option.some.inj hg
    exact ⟨cur, _, hgg⟩
theorem box4_alloc {W : World} {b : Nat} {s : St} (h : Box4 W b s) (o : Obj) : Box4 (W.alloc o) b s := by
  have hlt : b < W.heap.size := (Array.getElem?_eq_some_iff.1 h).1
  unfold Box4 World.alloc at *
  rw [← h]
  simp [Array.getElem?_push, Nat.ne_of_lt hlt]
theorem Box4.cells {W : World} {b : Nat} {s : St} (h : Box4 W b s) : (W.cell? ⟨b, 0, none⟩ = some (.int .i64 s.t) ∧ W.cell? ⟨b, 1, none⟩ = some (.int .i64 s.n)) ∧ W.cell? ⟨b, 2, none⟩ = some (.int .i64 s.x) ∧ W.cell? ⟨b, 3, none⟩ = some (.int .i64 s.y) := by
  unfold Box4 at h
  unfold World.cell?
  simp [h]
/-- A text that is being made, beside a stone's box. -/
def PrS (w : World) (n b : Nat) (s : St) (W : World) (v : Value) (l : List UInt8) : Prop := w.heap.size = n ∧ OwnB W n v l ∧ Below w.heap.size w W ∧ Box4 W b s ∧ TabOn n W
theorem PrS.le {w W : World} {n b : Nat} {s : St} {v : Value} {l : List UInt8} (h : PrS w n b s W v l) : n ≤ W.heap.size := by rw [← h.1]; exact h.2.2.1.size
theorem app_facts {w W w1 : World} {n b k : Nat} {v v' : Value} {l : List UInt8} (m : List UInt8) {xs : List Value} {s : St} {o : Obj} (h : PrS w n b s W v l)
    (hown : w1.ownsRow n 5 1 v' k xs) (hk : k = l.length + m.length) (hxs : xs = Lib.byteCells l ++ Lib.byteCells m) (hg : (W.alloc o).grownBy w1 v.ownBlock) : PrS w n b s w1 v' (l ++ m) := by
  have hle := h.le
  obtain ⟨hn, h, hB, hx, ht⟩ := h
  have hbo : Box4 (W.alloc o) b s := box4_alloc hx o
  refine ⟨hn, OwnB.of hown hk hxs, (ka hB o).grown hg (ka hB o).size (fun k hk => by rw [hn]; exact (World.ownsRow.lt h k hk).1), ?_, ht.on ((((Below.refl n W).alloc hle o)).grown hg (Nat.le_trans hle (by simp)) (fun k hk => (World.ownsRow.lt h k hk).1))⟩
  exact (Lib.OthersKept.refl 5 none _).grown hg (fun g hg' => own_block (h.alloc o) hg') b _ hbo (by simp) (fun c fz hc => by cases hc)

/-- A number behind a text. -/
theorem appi_any (i : Int) (h0 : -9223372036854775808 ≤ i) (h1 : i ≤ 9223372036854775807) {w W : World} {n b : Nat} {v : Value} {l : List UInt8} {s : St} (hl : l.length + 21 ≤ 140737488355328) (h : PrS w n b s W v l) :
    Calls Tryz.prog 36 #[v, .int .i64 i, .int .i64 10] W fun e w' => ∃ v', e = .returned v' ∧ PrS w n b s w' v' (l ++ Lib.itoa i) := by
  have hle := h.le
  obtain ⟨hn, h, hB, hx, ht⟩ := h
  refine (Tryz.strconv_AppendInt_10 n l.length i h0 h1 v _ W h hle hl ht).mono ?_
  rintro e w' ⟨v', rfl, ho, hb, hk⟩
  exact ⟨v', rfl, hn, OwnB.of ho rfl rfl, hB.trans (by rw [hn]; exact hb), hk b _ hx (by simp) (fun c fz hc => by cases hc), ht.on hb⟩

/-- A stone's line. -/
def lineT (s : St) : List UInt8 := [(if s.t = 0 then 114 else 121), UInt8.ofNat (49 + s.n.toNat), 32] ++ Lib.itoa s.x ++ [32] ++ Lib.itoa s.y ++ [10]
/-- The text of the first stones. -/
def textT (L : List St) : Nat → List UInt8
  | 0 => []
  | i + 1 => textT L i ++ lineT (el L i)
theorem lineT_len (s : St) (hx : -9223372036854775808 ≤ s.x ∧ s.x ≤ 9223372036854775807) (hy : -9223372036854775808 ≤ s.y ∧ s.y ≤ 9223372036854775807) : (lineT s).length ≤ 50 ∧ 1 ≤ (lineT s).length := by
  have h1 := Lib.itoa_length_le s.x hx.1 hx.2
  have h2 := Lib.itoa_length_le s.y hy.1 hy.2
  unfold lineT
  simp only [List.length_append, List.length_cons, List.length_nil]
  omega
theorem three_new (w : World) (a b c : Value) (t : TypeId) (j : Nat) (u : Value) (h : [a, b, c][j]? = some u) : (w.alloc (.cells #[a, b, c] t)).cell? ((⟨w.heap.size, 0, none⟩ : Addr).add j) = some u := by
  rcases j with _ | _ | _ | j
  · simp at h; subst h; simp [go_sem, Addr.add]
  · simp at h; subst h; simp [go_sem, Addr.add]
  · simp at h; subst h; simp [go_sem, Addr.add]
  · simp at h
theorem bytes_under : Tryz.prog.underlying 60 = some (.slice 5) := by kernel_rfl

set_option maxRecDepth 100000 in
set_option maxHeartbeats 4000000 in
theorem print_bad (L : List St) (n c g o : Nat) (w : World) (hn : n ≤ 1000000) (hc : n ≤ c) (HL : Hid (L.length = n)) (HR : Hid (∀ j (h : j < L.length), StAt w g (o + j * 4) L[j])) (HV : Hid (¬ Valid L)) :
    Calls Tryz.prog 17 #[.slice (some ⟨g, o, none⟩) n c] w fun e w' => e = .returned (.tuple #[.string ⟨#[]⟩, .int .i64 2]) ∧ Below w.heap.size w w' := by
  have CK := Lib.hid (fun wz (hz : Below w.heap.size w wz) => check_in L n c g o wz hn hc HL (fun j h => St.later hz (HR.out j h)))
  go_enter Tryz.func17, Tryz.ntmps17
  go_wp2_with (first | (go_at_call 19; refine (CK.out _ (Below.refl _ _)).mono ?_; rintro e w1 ⟨r, rfl, hr, hb1⟩; have hrf : r = false := (by cases r; rfl; exact absurd (hr.1 rfl) HV.out); subst hrf; have HB1 := Lib.hid hb1; clear hb1 hr))
  go_ret2
  exact ⟨rfl, HB1.out⟩

set_option maxRecDepth 100000 in
set_option maxHeartbeats 4000000 in
theorem print_in (L : List St) (n c g o : Nat) (w : World) (hn1 : 1 ≤ n) (hn : n ≤ 1000000) (hc : n ≤ c) (HL : Hid (L.length = n)) (HR : Hid (∀ j (h : j < L.length), StAt w g (o + j * 4) L[j])) (HV : Hid (Valid L)) (HT : Hid (TabOn w.heap.size w)) :
    Calls Tryz.prog 17 #[.slice (some ⟨g, o, none⟩) n c] w fun e w' => e = .returned (.tuple #[.string ⟨(textT L n).toArray⟩, .int .i64 0]) ∧ Below w.heap.size w w' := by
  have CK := Lib.hid (fun wz (hz : Below w.heap.size w wz) => check_in L n c g o wz hn hc HL (fun j h => St.later hz (HR.out j h)))
  obtain ⟨N, hN⟩ : ∃ N : Int, (n : Int) = N := ⟨_, rfl⟩
  have hN0 : 0 ≤ N := by omega
  obtain ⟨B, hBw⟩ : ∃ B, w.heap.size = B := ⟨_, rfl⟩
  have HBw := Lib.hid hBw
  obtain ⟨i0, hi, hz0, hz1, hz2⟩ := info_parts infoB
  clear hBw
  go_enter Tryz.func17, Tryz.ntmps17
  go_wp2_with (first | (go_at_call 19; refine (CK.out _ (Below.refl _ _)).mono ?_; rintro e w1 ⟨r, rfl, hr, hb1⟩; have hrf : r = true := hr.2 HV.out; subst hrf; have HB1 := Lib.hid hb1; clear hb1 hr))
  go_loopw [4, 12] (fun v iv wr => ∃ (i : Nat) (I : Int), iv = .int .i64 I ∧ 0 ≤ I ∧ I ≤ N ∧ Hid ((I = (i : Int)) ∧ OwnB wr B v (textT L i) ∧ Below w.heap.size w wr ∧ (textT L i).length ≤ 50 * i ∧ i ≤ (textT L i).length ∧ TabOn B wr)) (fun _ iv _ => (N - intOf iv).toNat)
  case atStart => exact ⟨0, 0, rfl, by omega, by omega, ⟨rfl, World.ownsRow_nil _ _ _ _, HB1.out, by simp [textT], by simp, by rw [← HBw.out]; exact HT.out.on HB1.out⟩⟩
  case round =>
    obtain ⟨i, I, rfl, hI0, hI1, hK⟩ := hrel
    obtain ⟨hIi, hown, hB0, hlen, hlen1, htab⟩ := hK.out
    have hLn := HL.out
    by_cases hI : I < N
    · have hil : i < L.length := by omega
      obtain ⟨s, hs⟩ : ∃ s, L[i] = s := ⟨_, rfl⟩
      have hst := St.later hB0 (HR.out i hil)
      rw [hs] at hst
      obtain ⟨⟨t0, t1⟩, t2, t3⟩ := hst
      have hel : el L i = s := by rw [el_get hil, hs]
      have hva := HV.out.2.1 i hil
      unfold GoodAt at hva
      rw [hel] at hva
      obtain ⟨hnm, -, hpl, -⟩ := hva
      obtain ⟨htt, hn0, hn8⟩ : (s.t = 0 ∨ s.t = 1) ∧ 0 ≤ s.n ∧ s.n < 8 := by simpa [namedS, and_assoc] using hnm
      obtain ⟨k, hk⟩ : ∃ k, s.n.toNat = k := ⟨_, rfl⟩
      have hk8 : k < 8 := by omega
      have W1 : IntKind.u8.wrap s.n = s.n := by simp [IntKind.wrap, IntKind.bits, IntKind.signed]; omega
      have W2 : IntKind.u8.wrap (49 + s.n) = 49 + s.n := by simp [IntKind.wrap, IntKind.bits, IntKind.signed]; omega
      obtain ⟨⟨x0, x1⟩, y0, y1⟩ : (-6553600000 ≤ s.x ∧ s.x ≤ 6553600000) ∧ -6553600000 ≤ s.y ∧ s.y ≤ 6553600000 := by unfold Plc at hpl; omega
      rcases htt with ht | ht
      · have HC : Hid (lineT s = [(114 : UInt8), UInt8.ofNat (49 + k), 32] ++ Lib.itoa s.x ++ [32] ++ Lib.itoa s.y ++ [10]) := by show lineT s = _; unfold lineT; rw [ht, hk]; rfl
        have HK49 : Hid (Value.int .u8 (49 + s.n) = Value.int .u8 ((UInt8.ofNat (49 + k)).toNat : Int)) := by show _ = _; congr 1; rw [UInt8.toNat_ofNat']; omega
        rw [ht] at t0
        have HS0 : Hid (Box4 (wr.alloc (.cells #[.int .i64 0, .int .i64 s.n, .int .i64 s.x, .int .i64 s.y] 39)) wr.heap.size s) := by
          have := box4_new wr s
          rw [ht] at this
          exact this
        have HO0 : Hid (OwnB (wr.alloc (.cells #[.int .i64 0, .int .i64 s.n, .int .i64 s.x, .int .i64 s.y] 39)) B u4 (textT L i)) := hown.alloc _
        have HQ : ((⟨#[114, 121]⟩ : ByteArray)[0]'(by decide)).toNat = 114 := rfl
        have HIi := Lib.hid hIi
        have hIn : I.toNat = i := by omega
        have Hel := Lib.hid hel
        have HT0 := Lib.hid ht
        have HLen : Hid ((textT L i).length ≤ 50 * i ∧ i < n ∧ n ≤ 1000000 ∧ i ≤ (textT L i).length ∧ (lineT s).length ≤ 50 ∧ 1 ≤ (lineT s).length ∧ (Lib.itoa s.x).length ≤ 21 ∧ (Lib.itoa s.y).length ≤ 21) :=
          ⟨hlen, by omega, hn, hlen1, (lineT_len s (by omega) (by omega)).1, (lineT_len s (by omega) (by omega)).2, Lib.itoa_length_le _ (by omega) (by omega), Lib.itoa_length_le _ (by omega) (by omega)⟩
        have hL1 : (textT L i).length ≤ 50000000 := by omega
        have HTab := Lib.hid (htab.on (w' := (wr.alloc (.cells #[.int .i64 0, .int .i64 s.n, .int .i64 s.x, .int .i64 s.y] 39))) ((Below.refl _ _).alloc (by rw [← HBw.out]; exact hB0.size) _))
        have HBr := Lib.hid hB0
        have Hx : Hid ((-9223372036854775808 ≤ s.x ∧ s.x ≤ 9223372036854775807) ∧ -9223372036854775808 ≤ s.y ∧ s.y ≤ 9223372036854775807) := ⟨by omega, by omega⟩
        clear hel hpl hn0 hn8 hnm ht hs hil hLn htab hlen hlen1 hB0 hown hIi hK x0 x1 y0 y1 hk8 hk
        go_wp2_with fail
        obtain ⟨W0, hW0⟩ : ∃ W, (wr.alloc (.cells #[.int .i64 0, .int .i64 s.n, .int .i64 s.x, .int .i64 s.y] 39)) = W := ⟨_, rfl⟩
        have HF0 : Hid (PrS w B wr.heap.size s W0 u4 (textT L i)) := by
          rw [← hW0]
          exact ⟨HBw.out, HO0.out, ka HBr.out _, HS0.out, HTab.out⟩
        have HF0d : Hid (PrS w B wr.heap.size s W0.drew u4 (textT L i)) := ⟨HF0.out.1, HF0.out.2.1, HF0.out.2.2.1.drew, HF0.out.2.2.2.1, HF0.out.2.2.2.2.on (Below.refl _ _).drew⟩
        obtain ⟨⟨p0, p1⟩, p2, p3⟩ := HF0.out.2.2.2.1.cells
        rw [HT0.out] at p0
        rw [hW0]
        clear hW0 HS0 HO0 HTab HBr t0 t1 t2 t3
        go_region_held3 (fun w' => w'.cell? ⟨wr.heap.size, 0, none⟩ = some (.int .i64 0) ∧ w'.cell? ⟨wr.heap.size, 1, none⟩ = some (.int .i64 s.n))
          (first | exact ⟨p0, p1⟩ | exact ⟨q0, q1⟩ | go_keep)
          ((refine step_append_lies _ (by rfl) _ _ _ (by rfl) B 5 i0 _ 1 1 bytes_under hi hz0 hz1 hz2 rfl (by omega) u4 _ _ (by rfl) ((World.ownsRow.alloc HF0.out.2.1 _).drew) ⟨W0.heap.size, 0, none⟩ 3 3 [.int .u8 114, .int .u8 (49 + s.n), .int .u8 32] (by rfl) (by rfl) (World.news_of_block (cs := #[.int .u8 114, .int .u8 (49 + s.n), .int .u8 32]) (t := 5) (fr := (0, 0)) (heap_alloc_new W0 _)) (by simp [Value.oneCell']) (by omega) (by simp only [maxLen]; omega) (by omega) (Nat.le_trans HF0.out.le (by simp)) (W0.heap.size + 1) (by simp) ?_; intro gg cap1 wa ho hg hat hlt; obtain ⟨v1, hv1⟩ : ∃ v, Value.slice (some ⟨gg, 0, none⟩) ((textT L i).length + 3) cap1 = v := ⟨_, rfl⟩; rw [hv1] at ho; rw [hv1]; have HF1 := Lib.hid (app_facts [(114 : UInt8), UInt8.ofNat (49 + k), 32] HF0d.out ho rfl (by rw [HK49.out]; rfl) hg); clear ho hg hat hlt; obtain ⟨T1, hT1⟩ : ∃ T, textT L i ++ [(114 : UInt8), UInt8.ofNat (49 + k), 32] = T := ⟨_, rfl⟩; rw [hT1] at HF1; have hL2 : T1.length ≤ 50000010 := (by rw [← hT1, List.length_append]; simp only [List.length_cons, List.length_nil]; omega); have HT1 := Lib.hid hT1; clear hT1 hv1; obtain ⟨⟨q0, q1⟩, q2, q3⟩ := HF1.out.2.2.2.1.cells; rw [HT0.out] at q0))
        go_wp2_with (first | (at_builtin; have HM := HF4; refine wpList_append_own _ rfl _ _ 60 rfl B 5 i0 (.int .u8 0) 1 1 bytes_under hi hz0 hz1 hz2 rfl (by decide) _ _ _ rfl (World.ownsRow.alloc HF4.out.2.1 _) ⟨_, 0, none⟩ 1 1 [.int .u8 10] rfl rfl (one_new _ _ _) (by simp [Value.oneCell']) (by simp only [maxLen]; omega) (by omega) (Nat.le_trans HF4.out.le (by simp)) ?_; intro v5 we ho hg hnil; have HF5 := Lib.hid (app_facts [(10 : UInt8)] HF4.out ho rfl (rfl) hg); clear ho hg hnil) | (go_at_call 36; have HM := HF3; refine (appi_any s.y Hx.out.2.1 Hx.out.2.2 (by omega) HF3.out).mono ?_; rintro e wd ⟨v4, rfl, hf⟩; have HF4 := Lib.hid hf; clear hf; obtain ⟨T4, hT4⟩ : ∃ T, T3 ++ Lib.itoa s.y = T := ⟨_, rfl⟩; rw [hT4] at HF4; have hL5 : T4.length ≤ 50000080 := (by have := HLen.out.2.2.2.2.2.2.2; rw [← hT4, List.length_append]; omega); have HT4 := Lib.hid hT4; clear hT4 HM) | (at_builtin; have HM := HF2; refine wpList_append_own _ rfl _ _ 60 rfl B 5 i0 (.int .u8 0) 1 1 bytes_under hi hz0 hz1 hz2 rfl (by decide) _ _ _ rfl (World.ownsRow.alloc HF2.out.2.1 _) ⟨_, 0, none⟩ 1 1 [.int .u8 32] rfl rfl (one_new _ _ _) (by simp [Value.oneCell']) (by simp only [maxLen]; omega) (by omega) (Nat.le_trans HF2.out.le (by simp)) ?_; intro v3 wc ho hg hnil; have HF3 := Lib.hid (app_facts [(32 : UInt8)] HF2.out ho rfl (rfl) hg); clear ho hg hnil; obtain ⟨T3, hT3⟩ : ∃ T, T2 ++ [(32 : UInt8)] = T := ⟨_, rfl⟩; rw [hT3] at HF3; have hL4 : T3.length ≤ 50000050 := (by rw [← hT3, List.length_append]; simp only [List.length_cons, List.length_nil]; omega); have HT3 := Lib.hid hT3; clear hT3 HM; obtain ⟨⟨q0, q1⟩, r4, r5⟩ := HF3.out.2.2.2.1.cells; clear q0 q1 r4) | (go_at_call 36; refine (appi_any s.x Hx.out.1.1 Hx.out.1.2 (by omega) HF1.out).mono ?_; rintro e wb ⟨v2, rfl, hf⟩; have HF2 := Lib.hid hf; clear hf; obtain ⟨T2, hT2⟩ : ∃ T, T1 ++ Lib.itoa s.x = T := ⟨_, rfl⟩; rw [hT2] at HF2; have hL3 : T2.length ≤ 50000040 := (by have := HLen.out.2.2.2.2.2.2.1; rw [← hT2, List.length_append]; omega); have HT2 := Lib.hid hT2; clear hT2; obtain ⟨⟨q0, q1⟩, r2, r3⟩ := HF2.out.2.2.2.1.cells; clear q0 q1 r2))
        go_roundw
        case rel => exact ⟨i + 1, I + 1, by go_num, by omega, by omega, ⟨by have := HIi.out; omega, by rw [show textT L (i + 1) = T4 ++ [10] by show textT L i ++ lineT (el L i) = _; rw [Hel.out, HC.out, ← HT4.out, ← HT3.out, ← HT2.out, ← HT1.out]; simp]; exact HF5.out.2.1, HF5.out.2.2.1, (by show (textT L i ++ lineT (el L i)).length ≤ _; have := HLen.out; rw [Hel.out, List.length_append]; omega), (by show _ ≤ (textT L i ++ lineT (el L i)).length; have := HLen.out; rw [Hel.out, List.length_append]; omega), HF5.out.2.2.2.2⟩⟩
        case measure => simp [intOf]; omega
      · have HC : Hid (lineT s = [(121 : UInt8), UInt8.ofNat (49 + k), 32] ++ Lib.itoa s.x ++ [32] ++ Lib.itoa s.y ++ [10]) := by show lineT s = _; unfold lineT; rw [ht, hk]; rfl
        have HK49 : Hid (Value.int .u8 (49 + s.n) = Value.int .u8 ((UInt8.ofNat (49 + k)).toNat : Int)) := by show _ = _; congr 1; rw [UInt8.toNat_ofNat']; omega
        rw [ht] at t0
        have HS0 : Hid (Box4 (wr.alloc (.cells #[.int .i64 1, .int .i64 s.n, .int .i64 s.x, .int .i64 s.y] 39)) wr.heap.size s) := by
          have := box4_new wr s
          rw [ht] at this
          exact this
        have HO0 : Hid (OwnB (wr.alloc (.cells #[.int .i64 1, .int .i64 s.n, .int .i64 s.x, .int .i64 s.y] 39)) B u4 (textT L i)) := hown.alloc _
        have HQ : ((⟨#[114, 121]⟩ : ByteArray)[1]'(by decide)).toNat = 121 := rfl
        have HIi := Lib.hid hIi
        have hIn : I.toNat = i := by omega
        have Hel := Lib.hid hel
        have HT0 := Lib.hid ht
        have HLen : Hid ((textT L i).length ≤ 50 * i ∧ i < n ∧ n ≤ 1000000 ∧ i ≤ (textT L i).length ∧ (lineT s).length ≤ 50 ∧ 1 ≤ (lineT s).length ∧ (Lib.itoa s.x).length ≤ 21 ∧ (Lib.itoa s.y).length ≤ 21) :=
          ⟨hlen, by omega, hn, hlen1, (lineT_len s (by omega) (by omega)).1, (lineT_len s (by omega) (by omega)).2, Lib.itoa_length_le _ (by omega) (by omega), Lib.itoa_length_le _ (by omega) (by omega)⟩
        have hL1 : (textT L i).length ≤ 50000000 := by omega
        have HTab := Lib.hid (htab.on (w' := (wr.alloc (.cells #[.int .i64 1, .int .i64 s.n, .int .i64 s.x, .int .i64 s.y] 39))) ((Below.refl _ _).alloc (by rw [← HBw.out]; exact hB0.size) _))
        have HBr := Lib.hid hB0
        have Hx : Hid ((-9223372036854775808 ≤ s.x ∧ s.x ≤ 9223372036854775807) ∧ -9223372036854775808 ≤ s.y ∧ s.y ≤ 9223372036854775807) := ⟨by omega, by omega⟩
        clear hel hpl hn0 hn8 hnm ht hs hil hLn htab hlen hlen1 hB0 hown hIi hK x0 x1 y0 y1 hk8 hk
        go_wp2_with fail
        obtain ⟨W0, hW0⟩ : ∃ W, (wr.alloc (.cells #[.int .i64 1, .int .i64 s.n, .int .i64 s.x, .int .i64 s.y] 39)) = W := ⟨_, rfl⟩
        have HF0 : Hid (PrS w B wr.heap.size s W0 u4 (textT L i)) := by
          rw [← hW0]
          exact ⟨HBw.out, HO0.out, ka HBr.out _, HS0.out, HTab.out⟩
        have HF0d : Hid (PrS w B wr.heap.size s W0.drew u4 (textT L i)) := ⟨HF0.out.1, HF0.out.2.1, HF0.out.2.2.1.drew, HF0.out.2.2.2.1, HF0.out.2.2.2.2.on (Below.refl _ _).drew⟩
        obtain ⟨⟨p0, p1⟩, p2, p3⟩ := HF0.out.2.2.2.1.cells
        rw [HT0.out] at p0
        rw [hW0]
        clear hW0 HS0 HO0 HTab HBr t0 t1 t2 t3
        go_region_held3 (fun w' => w'.cell? ⟨wr.heap.size, 0, none⟩ = some (.int .i64 1) ∧ w'.cell? ⟨wr.heap.size, 1, none⟩ = some (.int .i64 s.n))
          (first | exact ⟨p0, p1⟩ | exact ⟨q0, q1⟩ | go_keep)
          ((refine step_append_lies _ (by rfl) _ _ _ (by rfl) B 5 i0 _ 1 1 bytes_under hi hz0 hz1 hz2 rfl (by omega) u4 _ _ (by rfl) ((World.ownsRow.alloc HF0.out.2.1 _).drew) ⟨W0.heap.size, 0, none⟩ 3 3 [.int .u8 121, .int .u8 (49 + s.n), .int .u8 32] (by rfl) (by rfl) (World.news_of_block (cs := #[.int .u8 121, .int .u8 (49 + s.n), .int .u8 32]) (t := 5) (fr := (0, 0)) (heap_alloc_new W0 _)) (by simp [Value.oneCell']) (by omega) (by simp only [maxLen]; omega) (by omega) (Nat.le_trans HF0.out.le (by simp)) (W0.heap.size + 1) (by simp) ?_; intro gg cap1 wa ho hg hat hlt; obtain ⟨v1, hv1⟩ : ∃ v, Value.slice (some ⟨gg, 0, none⟩) ((textT L i).length + 3) cap1 = v := ⟨_, rfl⟩; rw [hv1] at ho; rw [hv1]; have HF1 := Lib.hid (app_facts [(121 : UInt8), UInt8.ofNat (49 + k), 32] HF0d.out ho rfl (by rw [HK49.out]; rfl) hg); clear ho hg hat hlt; obtain ⟨T1, hT1⟩ : ∃ T, textT L i ++ [(121 : UInt8), UInt8.ofNat (49 + k), 32] = T := ⟨_, rfl⟩; rw [hT1] at HF1; have hL2 : T1.length ≤ 50000010 := (by rw [← hT1, List.length_append]; simp only [List.length_cons, List.length_nil]; omega); have HT1 := Lib.hid hT1; clear hT1 hv1; obtain ⟨⟨q0, q1⟩, q2, q3⟩ := HF1.out.2.2.2.1.cells; rw [HT0.out] at q0))
        go_wp2_with (first | (at_builtin; have HM := HF4; refine wpList_append_own _ rfl _ _ 60 rfl B 5 i0 (.int .u8 0) 1 1 bytes_under hi hz0 hz1 hz2 rfl (by decide) _ _ _ rfl (World.ownsRow.alloc HF4.out.2.1 _) ⟨_, 0, none⟩ 1 1 [.int .u8 10] rfl rfl (one_new _ _ _) (by simp [Value.oneCell']) (by simp only [maxLen]; omega) (by omega) (Nat.le_trans HF4.out.le (by simp)) ?_; intro v5 we ho hg hnil; have HF5 := Lib.hid (app_facts [(10 : UInt8)] HF4.out ho rfl (rfl) hg); clear ho hg hnil) | (go_at_call 36; have HM := HF3; refine (appi_any s.y Hx.out.2.1 Hx.out.2.2 (by omega) HF3.out).mono ?_; rintro e wd ⟨v4, rfl, hf⟩; have HF4 := Lib.hid hf; clear hf; obtain ⟨T4, hT4⟩ : ∃ T, T3 ++ Lib.itoa s.y = T := ⟨_, rfl⟩; rw [hT4] at HF4; have hL5 : T4.length ≤ 50000080 := (by have := HLen.out.2.2.2.2.2.2.2; rw [← hT4, List.length_append]; omega); have HT4 := Lib.hid hT4; clear hT4 HM) | (at_builtin; have HM := HF2; refine wpList_append_own _ rfl _ _ 60 rfl B 5 i0 (.int .u8 0) 1 1 bytes_under hi hz0 hz1 hz2 rfl (by decide) _ _ _ rfl (World.ownsRow.alloc HF2.out.2.1 _) ⟨_, 0, none⟩ 1 1 [.int .u8 32] rfl rfl (one_new _ _ _) (by simp [Value.oneCell']) (by simp only [maxLen]; omega) (by omega) (Nat.le_trans HF2.out.le (by simp)) ?_; intro v3 wc ho hg hnil; have HF3 := Lib.hid (app_facts [(32 : UInt8)] HF2.out ho rfl (rfl) hg); clear ho hg hnil; obtain ⟨T3, hT3⟩ : ∃ T, T2 ++ [(32 : UInt8)] = T := ⟨_, rfl⟩; rw [hT3] at HF3; have hL4 : T3.length ≤ 50000050 := (by rw [← hT3, List.length_append]; simp only [List.length_cons, List.length_nil]; omega); have HT3 := Lib.hid hT3; clear hT3 HM; obtain ⟨⟨q0, q1⟩, r4, r5⟩ := HF3.out.2.2.2.1.cells; clear q0 q1 r4) | (go_at_call 36; refine (appi_any s.x Hx.out.1.1 Hx.out.1.2 (by omega) HF1.out).mono ?_; rintro e wb ⟨v2, rfl, hf⟩; have HF2 := Lib.hid hf; clear hf; obtain ⟨T2, hT2⟩ : ∃ T, T1 ++ Lib.itoa s.x = T := ⟨_, rfl⟩; rw [hT2] at HF2; have hL3 : T2.length ≤ 50000040 := (by have := HLen.out.2.2.2.2.2.2.1; rw [← hT2, List.length_append]; omega); have HT2 := Lib.hid hT2; clear hT2; obtain ⟨⟨q0, q1⟩, r2, r3⟩ := HF2.out.2.2.2.1.cells; clear q0 q1 r2))
        go_roundw
        case rel => exact ⟨i + 1, I + 1, by go_num, by omega, by omega, ⟨by have := HIi.out; omega, by rw [show textT L (i + 1) = T4 ++ [10] by show textT L i ++ lineT (el L i) = _; rw [Hel.out, HC.out, ← HT4.out, ← HT3.out, ← HT2.out, ← HT1.out]; simp]; exact HF5.out.2.1, HF5.out.2.2.1, (by show (textT L i ++ lineT (el L i)).length ≤ _; have := HLen.out; rw [Hel.out, List.length_append]; omega), (by show _ ≤ (textT L i ++ lineT (el L i)).length; have := HLen.out; rw [Hel.out, List.length_append]; omega), HF5.out.2.2.2.2⟩⟩
        case measure => simp [intOf]; omega
    · have hin : i = n := by omega
      rw [hin] at hown hlen1
      obtain ⟨T, hT⟩ : ∃ T, textT L n = T := ⟨_, rfl⟩
      rw [hT] at hown hlen1
      obtain ⟨g', cap, rfl⟩ : ∃ g cap, u4 = .slice (some ⟨g, 0, none⟩) T.length cap := by
        obtain ⟨j, hj⟩ : ∃ j, T.length = j + 1 := ⟨T.length - 1, by omega⟩
        have h' : wr.ownsRow B 5 1 u4 (j + 1) (Lib.byteCells T) := by rw [← hj]; exact hown
        rw [hj]
        exact ownsRow_succ h'
      have hcv := run_convert_bytes_back (P := Tryz.prog) wr 60 9 5 ⟨g', 0, none⟩ cap T bytes_under Tryz.underlying5 Tryz.underlying9 (fun j hj => World.ownsRow.cells (g := g') hown rfl j _ (by simp [Lib.byteCells, hj]))
      have HB0 := Lib.hid hB0
      have HT' := Lib.hid hT
      clear hK hIi hown hB0 hlen hlen1 htab hLn hin hT
      go_wp2_with fail
      go_ret2
      exact ⟨by rw [HT'.out]; rfl, HB0.out⟩

end Go.Proofs.YtfdhgimpdmhdeaaGreatDoor
