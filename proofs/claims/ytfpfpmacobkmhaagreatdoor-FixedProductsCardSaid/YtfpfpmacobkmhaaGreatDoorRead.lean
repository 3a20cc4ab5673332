/- The contract of package fixed's Read, its inner call. Condition: the form's reach. -/
import Derived.Test.YtfpfpmacobkmhaaGreatDoorSplit
import Derived.Test.YtfpfpmacobkmhaaGreatDoorOvs
import Derived.Deep.DeepCutAuto
namespace Go.Proofs.YtfpfpmacobkmhaaGreatDoor
open Go Go.RowKit

theorem kc {w W W' : World} (h : Below w.heap.size w W) (h' : Below W.heap.size W W') : Below w.heap.size w W' := h.trans (h'.mono h.size)
theorem ka {w W : World} (h : Below w.heap.size w W) (o : Obj) : Below w.heap.size w (W.alloc o) := h.alloc h.size o

theorem ks {w W : World} (h : Below w.heap.size w W) {a : Addr} (v : Value) (ha : w.heap.size ≤ a.block) : Below w.heap.size w (W.setCell a v) := h.setCell ha v
/-- A wide number in memory of its own. -/
def WideAt (w : World) (g : Nat) (v u : Int) : Prop := w.cell? ⟨g, 0, none⟩ = some (.int .i64 v) ∧ w.cell? ⟨g, 1, none⟩ = some (.int .u64 u) ∧ w.frozen? ⟨g, 0, none⟩ = false ∧ w.frozen? ⟨g, 1, none⟩ = false ∧ g < w.heap.size
theorem new_alloc (w : World) : WideAt (w.alloc (.cells #[.int .i64 0, .int .u64 0] 51)) w.heap.size 0 0 :=
  ⟨by simp [go_sem], by simp [go_sem], by simp [go_sem], by simp [go_sem], by simp⟩
theorem new_later {W w : World} {g : Nat} {v u : Int} (hb : Below W.heap.size W w) (h : WideAt W g v u) : WideAt w g v u :=
  ⟨cell_later hb h.1, cell_later hb h.2.1, (hb.frozen (p := ⟨g, 0, none⟩) h.2.2.2.2).trans h.2.2.1, (hb.frozen (p := ⟨g, 1, none⟩) h.2.2.2.2).trans h.2.2.2.1, Nat.lt_of_lt_of_le h.2.2.2.2 hb.size⟩
theorem set_new {w : World} {g : Nat} {x y : Int} (v u : Int) (h : WideAt w g x y) :
    WideAt ((w.setCell ⟨g, 0, none⟩ (.int .i64 v)).setCell ⟨g, 1, none⟩ (.int .u64 u)) g v u := by
  obtain ⟨h0, h1, f0, f1, hl⟩ := h
  exact ⟨(World.cell?_setCell_other _ _ _ _ (by simp)).trans (set_pair _ (.int .u64 u) h0 h1).1, (set_pair (.int .i64 v) _ h0 h1).2, by rw [World.frozen?_setCell, World.frozen?_setCell]; exact f0, by rw [World.frozen?_setCell, World.frozen?_setCell]; exact f1, by simpa using hl⟩

set_option maxRecDepth 100000 in
set_option maxHeartbeats 1000000 in
theorem read_walk (s a b q : ByteArray) (m : Bool) (n v x1 x2 y1 y2 z1 z2 u1 u2 r1 r2 p1 p2 : Int) (E : Ending) (how : Int) (S H : Nat) (w : World) (h0 : 0 ≤ how) (h1 : how ≤ 3) (hs : s.size ≤ 60)
    (n1 : n ≤ 1073741824) (hb : 17 ≤ b.size)
    (c1 : ∀ w, Calls Tryz.prog 76 #[.string s] w fun e w' => e = .returned (.tuple #[.bool m, .string a, .string b]) ∧ Below w.heap.size w w')
    (c2 : ∀ w, Calls Tryz.prog 77 #[.string a] w fun e w' => e = .returned (.int .i64 n) ∧ Below w.heap.size w w')
    (c3 : ∀ w, Calls Tryz.prog 77 #[.string (b.extract 0 17)] w fun e w' => e = .returned (.int .i64 v) ∧ Below w.heap.size w w')
    (cs : ∀ w, Calls Tryz.prog 57 #[.int .i64 v] w fun e w' => e = .returned (.int .u64 v) ∧ w = w')
    (cp : ∀ w, Calls Tryz.prog 29 #[.int .i64 n, .int .i64 100000000000000000] w fun e w' => e = .returned (.agg #[.int .i64 x1, .int .u64 x2]) ∧ Below w.heap.size w w')
    (ca : ∀ w, Calls Tryz.prog 78 #[.agg #[.int .i64 x1, .int .u64 x2], .agg #[.int .i64 0, .int .u64 v]] w fun e w' => e = .returned (.agg #[.int .i64 y1, .int .u64 y2]) ∧ Below w.heap.size w w')
    (ct : ∀ w, Calls Tryz.prog 79 #[.agg #[.int .i64 y1, .int .u64 y2], .int .u64 65536] w fun e w' => e = .returned (.agg #[.int .i64 z1, .int .u64 z2]) ∧ Below w.heap.size w w')
    (c4 : ∀ w, Calls Tryz.prog 80 #[.string (b.extract 17 b.size), .string ⟨#[48]⟩] w fun e w' => e = .returned (.string q) ∧ Below w.heap.size w w')
    (cb : ∀ w, Calls Tryz.prog 78 #[.agg #[.int .i64 z1, .int .u64 z2], .agg #[.int .i64 0, .int .u64 1]] w fun e w' => e = .returned (.agg #[.int .i64 u1, .int .u64 u2]) ∧ Below w.heap.size w w')
    (cn : ∀ w, Calls Tryz.prog 58 #[.agg #[.int .i64 z1, .int .u64 z2]] w fun e w' => e = .returned (.agg #[.int .i64 r1, .int .u64 r2]) ∧ Below w.heap.size w w')
    (cm : ∀ w, Calls Tryz.prog 58 #[.agg #[.int .i64 u1, .int .u64 u2]] w fun e w' => e = .returned (.agg #[.int .i64 p1, .int .u64 p2]) ∧ Below w.heap.size w w')
    (co : ((!q.toList.isEmpty) = true → m = true → ∀ W, Calls Tryz.prog 30 #[.agg #[.int .i64 p1, .int .u64 p2], .int .i64 100000000000000000, .func (.func (wayFn how)) #[] #[]] W fun e w' => e = E ∧ Below W.heap.size W w') ∧
      ((!q.toList.isEmpty) = true → m = false → ∀ W, Calls Tryz.prog 30 #[.agg #[.int .i64 u1, .int .u64 u2], .int .i64 100000000000000000, .func (.func (wayFn how)) #[] #[]] W fun e w' => e = E ∧ Below W.heap.size W w') ∧
      ((!q.toList.isEmpty) = false → m = true → ∀ W, Calls Tryz.prog 30 #[.agg #[.int .i64 r1, .int .u64 r2], .int .i64 100000000000000000, .func (.func (wayFn how)) #[] #[]] W fun e w' => e = E ∧ Below W.heap.size W w') ∧
      ((!q.toList.isEmpty) = false → m = false → ∀ W, Calls Tryz.prog 30 #[.agg #[.int .i64 z1, .int .u64 z2], .int .i64 100000000000000000, .func (.func (wayFn how)) #[] #[]] W fun e w' => e = E ∧ Below W.heap.size W w'))
    (hE : (∃ z, E = .returned (.int .i64 z)) ∨ (∃ n, E = flt n))
    (c10 : w.cell? ⟨S, 0, none⟩ = some (.string s)) (c20 : w.cell? ⟨H, 0, none⟩ = some (.int .i64 how)) :
    Calls Tryz.prog 75 #[.pointer (some ⟨H, 0, none⟩), .pointer (some ⟨S, 0, none⟩)] w fun e w' => e = E ∧ Below w.heap.size w w' := by
  have hb3 : (17 : Int) ≤ (b.size : Int) := by omega
  have hb4 : ¬ (b.size : Int) < 17 := by omega
  have hb5 : ¬ b.size < 17 := by omega
  have C1 := Lib.hid c1
  have C2 := Lib.hid c2
  have C3 := Lib.hid c3
  have C4 := Lib.hid c4
  have CB := Lib.hid cb
  have CN := Lib.hid cn
  have CM := Lib.hid cm
  have CO := Lib.hid co
  have HE := Lib.hid hE
  have CS := Lib.hid cs
  have CP := Lib.hid cp
  have CA := Lib.hid ca
  have CT := Lib.hid ct
  have CW := Lib.hid (fun w => way_ok how w h0 h1)
  clear co hE cb cn cm c1 c2 c3 c4 cs cp ca ct
  go_enter Tryz.func75, Tryz.ntmps75
  go_upto_region 8 with (first | (go_at_call 31; refine (CW.out _).mono ?_; rintro e w' ⟨rfl, rfl⟩) | (go_at_call 76; refine (C1.out _).mono ?_; rintro e w1 ⟨rfl, hb1⟩) | (go_at_call_of 77 (Value.string a); refine (C2.out _).mono ?_; rintro e w2 ⟨rfl, hb2⟩))
  go_cut [8] (fun s8 wx => ∃ g : Nat, s8 = .pointer (some ⟨g, 0, none⟩) ∧ WideAt wx g z1 z2 ∧ w.heap.size ≤ g ∧ Below w.heap.size w wx)
  case first =>
    have hB2 := kc hb1 hb2
    have q2 := hB2.size
    clear hb1 hb2 C1 C2 CW c10 c20 n1 h0 h1 hs
    go_region_held3 (fun w' => Below w.heap.size w w')
      (repeat' (first | assumption | (with_reducible refine Below.drew ?_) | (with_reducible refine ka ?_ _) | (with_reducible refine ks ?_ _ (by (try simp only); omega)) | (refine kc ?_ (by assumption))))
      (first | (go_at_call 29; refine (CP.out _).mono ?_; rintro e w3 ⟨rfl, hb3⟩; have q3 : w2.heap.size ≤ w3.heap.size := (by first | exact hb3.size | exact Nat.le_trans (by simp) hb3.size); (try have n32 : WideAt w3 w2.heap.size 0 0 := new_later hb3 (new_alloc _))) | (go_at_call_of 77 (Value.string (b.extract 0 17)); refine (C3.out _).mono ?_; rintro e w4 ⟨rfl, hb4⟩; have q4 : w3.heap.size ≤ w4.heap.size := (by first | exact hb4.size | exact Nat.le_trans (by simp) hb4.size); (try have n43 : WideAt w4 w3.heap.size 0 0 := new_later hb4 (new_alloc _)); (try have n42 : WideAt w4 w2.heap.size 0 0 := new_later hb4 n32)) | (go_at_call 57; refine (CS.out _).mono ?_; rintro e w' ⟨rfl, rfl⟩) | (go_at_call 78; refine (CA.out _).mono ?_; rintro e w5 ⟨rfl, hb5⟩; have q5 : w4.heap.size ≤ w5.heap.size := (by first | exact hb5.size | exact Nat.le_trans (by simp) hb5.size); (try have n54 : WideAt w5 w4.heap.size 0 0 := new_later hb5 (new_alloc _)); (try have n53 : WideAt w5 w3.heap.size 0 0 := new_later hb5 n43); (try have n52 : WideAt w5 w2.heap.size 0 0 := new_later hb5 n42)) | (go_at_call 79; refine (CT.out _).mono ?_; rintro e w6 ⟨rfl, hb6⟩; have q6 : w5.heap.size ≤ w6.heap.size := (by first | exact hb6.size | exact Nat.le_trans (by simp) hb6.size); (try (have n6 : WideAt w6 w5.heap.size 0 0 := new_later hb6 (new_alloc _); have nn := n6; obtain ⟨k0, k1, k2, k3, k4⟩ := n6)); (try (have n6 : WideAt w6 w4.heap.size 0 0 := new_later hb6 n54; have nn := n6; obtain ⟨k0, k1, k2, k3, k4⟩ := n6)); (try (have n6 : WideAt w6 w3.heap.size 0 0 := new_later hb6 n53; have nn := n6; obtain ⟨k0, k1, k2, k3, k4⟩ := n6)); (try (have n6 : WideAt w6 w2.heap.size 0 0 := new_later hb6 n52; have nn := n6; obtain ⟨k0, k1, k2, k3, k4⟩ := n6))))
    all_goals (go_wp2_with fail; go_meet)
    · exact ⟨w6.heap.size, rfl, ⟨by simp [go_sem], by simp [go_sem], by simp [go_sem], by simp [go_sem], by simp⟩, by omega, by assumption⟩
    · exact ⟨_, rfl, set_new z1 z2 nn, by omega, by assumption⟩
    · exact ⟨_, rfl, set_new z1 z2 nn, by omega, by assumption⟩
    · exact ⟨_, rfl, set_new z1 z2 nn, by omega, by assumption⟩
    · exact ⟨_, rfl, set_new z1 z2 nn, by omega, by assumption⟩
    · exact ⟨_, rfl, set_new z1 z2 nn, by omega, by assumption⟩
  case rest =>
    obtain ⟨g, rfl, hw, hg, hB⟩ := hcut
    go_wp2_with (first | (go_at_call 80; refine (C4.out _).mono ?_; rintro e w7 ⟨rfl, hb7⟩; have hw7 := new_later hb7 hw; have hx := hw7; obtain ⟨j0, j1, j2, j3, j4⟩ := hx) | (go_at_call 78; refine (CB.out _).mono ?_; rintro e w8 ⟨rfl, hb8⟩; have hy := new_later hb8 hw7; have hw8 := set_new u1 u2 hy; obtain ⟨d0, d1, d2, d3, d4⟩ := hy; have hx := hw8; obtain ⟨a0, a1, a2, a3, a4⟩ := hx) | (go_at_call_of 58 (Value.agg #[.int .i64 z1, .int .u64 z2]); refine (CN.out _).mono ?_; rintro e w9 ⟨rfl, hb9⟩; have hy := new_later hb9 hw7; have hw9 := set_new r1 r2 hy; obtain ⟨d0, d1, d2, d3, d4⟩ := hy; have hx := hw9; obtain ⟨b0, b1, b2, b3, b4⟩ := hx) | (go_at_call_of 58 (Value.agg #[.int .i64 u1, .int .u64 u2]); refine (CM.out _).mono ?_; rintro e w9 ⟨rfl, hb9⟩; have hy := new_later hb9 hw8; have hw9 := set_new p1 p2 hy; obtain ⟨d0, d1, d2, d3, d4⟩ := hy; have hx := hw9; obtain ⟨b0, b1, b2, b3, b4⟩ := hx))
    all_goals clear C1 C2 C3 C4 CB CN CM CS CP CA CT CW
    · refine ((CO.out.1 (by assumption) (by assumption)) _).mono ?_
      rintro e w' ⟨he, hb⟩
      rcases HE.out with ⟨z, hz⟩ | ⟨n, hz⟩ <;> (subst he; subst hz)
      · go_wp2
        go_ret
        exact ⟨rfl, by repeat' (first | assumption | (with_reducible refine Below.drew ?_) | (with_reducible refine ka ?_ _) | (with_reducible refine ks ?_ _ (by (try simp only); omega)) | (refine kc ?_ (by assumption)))⟩
      · exact ⟨rfl, rfl, by repeat' (first | assumption | (with_reducible refine Below.drew ?_) | (with_reducible refine ka ?_ _) | (with_reducible refine ks ?_ _ (by (try simp only); omega)) | (refine kc ?_ (by assumption)))⟩
    · refine ((CO.out.2.1 (by assumption) (by assumption)) _).mono ?_
      rintro e w' ⟨he, hb⟩
      rcases HE.out with ⟨z, hz⟩ | ⟨n, hz⟩ <;> (subst he; subst hz)
      · go_wp2
        go_ret
        exact ⟨rfl, by repeat' (first | assumption | (with_reducible refine Below.drew ?_) | (with_reducible refine ka ?_ _) | (with_reducible refine ks ?_ _ (by (try simp only); omega)) | (refine kc ?_ (by assumption)))⟩
      · exact ⟨rfl, rfl, by repeat' (first | assumption | (with_reducible refine Below.drew ?_) | (with_reducible refine ka ?_ _) | (with_reducible refine ks ?_ _ (by (try simp only); omega)) | (refine kc ?_ (by assumption)))⟩
    · refine ((CO.out.2.2.1 (by assumption) (by assumption)) _).mono ?_
      rintro e w' ⟨he, hb⟩
      rcases HE.out with ⟨z, hz⟩ | ⟨n, hz⟩ <;> (subst he; subst hz)
      · go_wp2
        go_ret
        exact ⟨rfl, by repeat' (first | assumption | (with_reducible refine Below.drew ?_) | (with_reducible refine ka ?_ _) | (with_reducible refine ks ?_ _ (by (try simp only); omega)) | (refine kc ?_ (by assumption)))⟩
      · exact ⟨rfl, rfl, by repeat' (first | assumption | (with_reducible refine Below.drew ?_) | (with_reducible refine ka ?_ _) | (with_reducible refine ks ?_ _ (by (try simp only); omega)) | (refine kc ?_ (by assumption)))⟩
    · refine ((CO.out.2.2.2 (by assumption) (by assumption)) _).mono ?_
      rintro e w' ⟨he, hb⟩
      rcases HE.out with ⟨z, hz⟩ | ⟨n, hz⟩ <;> (subst he; subst hz)
      · go_wp2
        go_ret
        exact ⟨rfl, by repeat' (first | assumption | (with_reducible refine Below.drew ?_) | (with_reducible refine ka ?_ _) | (with_reducible refine ks ?_ _ (by (try simp only); omega)) | (refine kc ?_ (by assumption)))⟩
      · exact ⟨rfl, rfl, by repeat' (first | assumption | (with_reducible refine Below.drew ?_) | (with_reducible refine ka ?_ _) | (with_reducible refine ks ?_ _ (by (try simp only); omega)) | (refine kc ?_ (by assumption)))⟩

end Go.Proofs.YtfpfpmacobkmhaaGreatDoor
