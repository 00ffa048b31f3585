import Derived.Test.YtfbollifegngjaaWm
namespace Go.Proofs.Ytfbollifegngjaa.Dt
open Go.RowKit
set_option linter.unusedVariables false
set_option maxRecDepth 100000
set_option linter.unusedSimpArgs false
section
variable {D D' : De} {R R' : Rf} {w w' W V : World} {B m : Nat}
theorem Dq.pre {W : World} (hb : Below w.heap.size w W) (s : Dq W w' D D' R R' B m) : Dq w w' D D' R R' B m :=
  ⟨s.du, (Kept.ofBelow hb _).trans s.kept, fun j hj => (s.own j hj).elim .inl (fun e => e.elim (fun e => .inr (.inl e)) (fun e => .inr (.inr (Nat.le_trans hb.size e)))), s.db, s.rb⟩
theorem Dq.post {W : World} (s : Dq w W D D' R R' B m) (hb : Below W.heap.size W w') : Dq w w' D D' R R' B m :=
  ⟨s.du.still hb, s.kept.trans (Kept.ofBelow hb _), s.own, s.db, s.rb⟩
theorem Du.same (h : Du D R w B m) : Dq w w D D R R B m := ⟨h, Kept.refl _ _, fun j hj => hj.elim .inl (fun e => .inr (.inl e)), rfl, rfl⟩
theorem Du.up (h : Du D R w B m) (hm : m + 1 ≤ 4611686018427387904) : Du D R w B (m + 1) := ⟨h.d.mono (Nat.le_succ _) hm, h.r, h.ap, h.sim, Nat.le_succ_of_le h.len⟩
theorem Dq.lowB {k : Nat} (s : Dq w w' D D' R R' B m) (h : Du D R w B k) : Below B w w' := s.kept.below h.hB (fun j hj e => by rcases e with e | e; (have := h.d.geOwn e; omega); (have := h.r.geOwn e; omega))

set_option maxHeartbeats 400000 in
theorem does_tick (h : Du D R w B m) (hm : m ≤ 2513169434916) (o : Opx) (hk : o.k = 1) : Calls Try.prog 30 #[.pointer (some ⟨D.b, 0, none⟩), .pointer (some ⟨R.b, 0, none⟩), .agg o.cs] w fun e w' => e = .returned (.bool true) ∧ ∃ D' R', Dq w w' D D' R R' B (m + 1) := by
  generalize hW : w.alloc (.cells o.cs 58) = W
  have hbW : Below w.heap.size w W := by rw [← hW]; exact balloc (Below.refl _ w)
  have hblk : W.heap[w.heap.size]? = some (.cells o.cs 58 (0, 0)) := by rw [← hW]; exact heap_alloc_new w _
  have y0 : W.cell? ⟨w.heap.size, 0, none⟩ = some (.int .i64 o.k) := blk_cell hblk 0
  have y1 : W.cell? ⟨w.heap.size, 1, none⟩ = some (.int .i64 o.q) := blk_cell hblk 1
  have y2 : W.cell? ⟨w.heap.size, 2, none⟩ = some (.int .i64 o.inc) := blk_cell hblk 2
  have y3 : W.cell? ⟨w.heap.size, 3, none⟩ = some (.int .i64 o.t) := blk_cell hblk 3
  have y4 : W.cell? ⟨w.heap.size, 4, none⟩ = some (.slice o.ha o.hn o.hc) := blk_cell hblk 4
  have hwl := lt_heap hblk
  have hW2 := h.still hbW
  have Hb : Hid (Below w.heap.size w W) := hbW
  have HA := tick_any hW2.d
  have HB : Hid (∀ w1, Dtep W w1 D D.ticked B m → Calls Try.prog 43 #[.pointer (some ⟨R.b, 0, none⟩)] w1 fun e w2 => e = .returned (.tuple #[]) ∧ ∃ R', Dq W w2 D D.ticked R R' B (m + 1)) := fun w1 s => by
    have hR1 : R.Ok w1 B := hW2.r.keep s.kept (fun j hj e => hW2.ap j e hj)
    refine (rtick_any hR1 (by have := hW2.len; omega)).mono ?_
    rintro e w2 ⟨rfl, g, c, t⟩
    exact ⟨rfl, _, hW2.go (Dtep.up s (by omega)) (Below.refl _ _) t (hW2.sim.ticked (by have := hW2.len; omega) g c) (by show (R.all ++ [_]).length ≤ m + 1; have := hW2.len; simp; omega) rfl rfl⟩
  unfold Opx.cs at hW ⊢
  rw [hk] at hW y0 ⊢
  clear h hblk hbW hW2
  go_enter Try.func30, Try.ntmps30
  go_wp2_with (fail)
  refine HA.mono ?_
  rintro e w1 ⟨rfl, s1⟩
  have HB1 := HB.out w1 s1
  clear s1
  go_wp2_with (fail)
  refine HB1.mono ?_
  rintro e w2 ⟨rfl, R2, q2⟩
  have Q2 : Hid (Dq W w2 D D.ticked R R2 B (m + 1)) := q2
  clear q2
  go_wp2
  go_ret
  exact ⟨rfl, _, R2, Dq.pre Hb.out Q2.out⟩

set_option maxHeartbeats 400000 in
theorem does_leave (h : Du D R w B m) (hm : m ≤ 2513169434916) (o : Opx) (hk : o.k = 3) : Calls Try.prog 30 #[.pointer (some ⟨D.b, 0, none⟩), .pointer (some ⟨R.b, 0, none⟩), .agg o.cs] w fun e w' => e = .returned (.bool true) ∧ ∃ D' R', Dq w w' D D' R R' B (m + 1) := by
  generalize hW : w.alloc (.cells o.cs 58) = W
  have hbW : Below w.heap.size w W := by rw [← hW]; exact balloc (Below.refl _ w)
  have hblk : W.heap[w.heap.size]? = some (.cells o.cs 58 (0, 0)) := by rw [← hW]; exact heap_alloc_new w _
  have y0 : W.cell? ⟨w.heap.size, 0, none⟩ = some (.int .i64 o.k) := blk_cell hblk 0
  have y1 : W.cell? ⟨w.heap.size, 1, none⟩ = some (.int .i64 o.q) := blk_cell hblk 1
  have y2 : W.cell? ⟨w.heap.size, 2, none⟩ = some (.int .i64 o.inc) := blk_cell hblk 2
  have y3 : W.cell? ⟨w.heap.size, 3, none⟩ = some (.int .i64 o.t) := blk_cell hblk 3
  have y4 : W.cell? ⟨w.heap.size, 4, none⟩ = some (.slice o.ha o.hn o.hc) := blk_cell hblk 4
  have hwl := lt_heap hblk
  have hW2 := h.still hbW
  have Hb : Hid (Below w.heap.size w W) := hbW
  have HA := leave_any hW2.d
  have HB : Hid (∀ w1, Dtep W w1 D D.gone B m → Calls Try.prog 44 #[.pointer (some ⟨R.b, 0, none⟩)] w1 fun e w2 => e = .returned (.tuple #[]) ∧ ∃ R', Dq W w2 D D.gone R R' B (m + 1)) := fun w1 s => by
    have hR1 : R.Ok w1 B := hW2.r.keep s.kept (fun j hj e => hW2.ap j e hj)
    refine (rleave_any hR1 (by have := hW2.len; omega)).mono ?_
    rintro e w2 ⟨rfl, g, c, t⟩
    exact ⟨rfl, _, hW2.go (Dtep.up s (by omega)) (Below.refl _ _) t (hW2.sim.gone g c) (by show (R.all ++ [_]).length ≤ m + 1; have := hW2.len; simp; omega) rfl rfl⟩
  unfold Opx.cs at hW ⊢
  rw [hk] at hW y0 ⊢
  clear h hblk hbW hW2
  go_enter Try.func30, Try.ntmps30
  go_wp2_with (fail)
  refine HA.mono ?_
  rintro e w1 ⟨rfl, s1⟩
  have HB1 := HB.out w1 s1
  clear s1
  go_wp2_with (fail)
  refine HB1.mono ?_
  rintro e w2 ⟨rfl, R2, q2⟩
  have Q2 : Hid (Dq W w2 D D.gone R R2 B (m + 1)) := q2
  clear q2
  go_wp2
  go_ret
  exact ⟨rfl, _, R2, Dq.pre Hb.out Q2.out⟩

set_option maxHeartbeats 400000 in
theorem does_none (h : Du D R w B m) (hm : m ≤ 2513169434916) (o : Opx) (h1 : ¬ o.k = 1) (h2 : ¬ o.k = 2) (h3 : ¬ o.k = 3) : Calls Try.prog 30 #[.pointer (some ⟨D.b, 0, none⟩), .pointer (some ⟨R.b, 0, none⟩), .agg o.cs] w fun e w' => e = .returned (.bool true) ∧ ∃ D' R', Dq w w' D D' R R' B (m + 1) := by
  generalize hW : w.alloc (.cells o.cs 58) = W
  have hbW : Below w.heap.size w W := by rw [← hW]; exact balloc (Below.refl _ w)
  have hblk : W.heap[w.heap.size]? = some (.cells o.cs 58 (0, 0)) := by rw [← hW]; exact heap_alloc_new w _
  have y0 : W.cell? ⟨w.heap.size, 0, none⟩ = some (.int .i64 o.k) := blk_cell hblk 0
  have y1 : W.cell? ⟨w.heap.size, 1, none⟩ = some (.int .i64 o.q) := blk_cell hblk 1
  have y2 : W.cell? ⟨w.heap.size, 2, none⟩ = some (.int .i64 o.inc) := blk_cell hblk 2
  have y3 : W.cell? ⟨w.heap.size, 3, none⟩ = some (.int .i64 o.t) := blk_cell hblk 3
  have y4 : W.cell? ⟨w.heap.size, 4, none⟩ = some (.slice o.ha o.hn o.hc) := blk_cell hblk 4
  have hwl := lt_heap hblk
  have hW2 := h.still hbW
  have Hb : Hid (Below w.heap.size w W) := hbW
  have t1 : (o.k == 1) = false := by simp [h1]
  have t2 : (o.k == 2) = false := by simp [h2]
  have t3 : (o.k == 3) = false := by simp [h3]
  have Hh : Hid (Du D R w B (m + 1)) := h.up (by omega)
  unfold Opx.cs at hW ⊢
  clear h hblk hbW hW2 h1 h2 h3
  go_enter Try.func30, Try.ntmps30
  go_wp2
  go_ret
  exact ⟨rfl, D, R, Hh.out.same.post Hb.out⟩
theorem rheard_any (h : R.Ok w B) (hA : R.all.length ≤ 2513169434916) (q inc t : Int) {ao : Option Addr} {n c : Nat} {xs : List Int} (hr : RdI w ao n xs) (hap : ∀ g, (∃ o, ao = some ⟨g, o, none⟩) → ¬ R.own g) : Calls Try.prog 42 #[.pointer (some ⟨R.b, 0, none⟩), .int .i64 q, .int .i64 inc, .agg #[.int .i64 t, .slice ao n c]] w fun e w' => e = .returned (.int .i64 (R.herr q inc t xs)) ∧ ∃ R', Rtep w w' R R' B ∧ ((R.herr q inc t xs ≠ 0 ∧ R' = R) ∨ (R.herr q inc t xs = 0 ∧ ∃ g cc, R' = R.push ⟨2, q, inc, t, decide (xs.getD R.s 0 = R.inc)⟩ g cc)) := by
  unfold Rf.herr
  cases hok : R.okArg q inc t xs with
  | false =>
    rw [if_pos rfl]
    exact (rheard_arg h q inc t hr hok).mono fun e w' ⟨e1, e2⟩ => ⟨e1, R, (Rtep.same h).post e2, .inl ⟨by omega, rfl⟩⟩
  | true =>
    rw [if_neg (by simp)]
    by_cases h1 : inc < (R.of q).known
    · rw [if_pos h1]
      exact (rheard_err h hA q inc t hr hok 50 (.inl ⟨h1, rfl⟩)).mono fun e w' ⟨e1, e2⟩ => ⟨e1, R, (Rtep.same h).post e2, .inl ⟨by omega, rfl⟩⟩
    · rw [if_neg h1]
      by_cases h2 : inc = (R.of q).known ∧ t ≤ (R.of q).last
      · rw [if_pos h2]
        exact (rheard_err h hA q inc t hr hok 51 (.inr ⟨h2.1, h2.2, rfl⟩)).mono fun e w' ⟨e1, e2⟩ => ⟨e1, R, (Rtep.same h).post e2, .inl ⟨by omega, rfl⟩⟩
      · rw [if_neg h2]
        exact (rheard_ok h hA q inc t hr hok h1 h2 hap).mono fun e w' ⟨e1, g, cc, e2⟩ => ⟨e1, _, e2, .inr ⟨rfl, g, cc, rfl⟩⟩
end
end Go.Proofs.Ytfbollifegngjaa.Dt
