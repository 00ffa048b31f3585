import Derived.Test.YtfbollifegngjaaWa
namespace Go.Proofs.Ytfbollifegngjaa.Dt
open Go.RowKit
set_option linter.unusedVariables false
set_option maxRecDepth 100000
set_option linter.unusedSimpArgs false
section
variable {R R' : Rf} {w w' W V : World} {B m : Nat}
theorem blkset {t : TypeId} {k i : Nat} {cs : Array Value} {v : Value} (h : w.heap[k]? = some (.cells cs t (0, 0))) : (w.setCell ⟨k, i, none⟩ v).heap[k]? = some (.cells (cs.setIfInBounds i v) t (0, 0)) := blk_set h rfl
theorem blkdrew {t : TypeId} {k : Nat} {cs : Array Value} (h : w.heap[k]? = some (.cells cs t (0, 0))) : w.drew.heap[k]? = some (.cells cs t (0, 0)) := ((Below.refl _ w).drew.block _ (lt_heap h)).trans h
theorem kdrew {P : Nat → Prop} (h : Kept w V P) : Kept w V.drew P := h.trans (Kept.ofBelow (Below.refl _ _).drew _)
theorem PyAt.set {g : Nat} {p p' : Py} (h : PyAt w g p) (i : Nat) (v : Value) (e : p.cs.setIfInBounds i v = p'.cs) : PyAt (w.setCell ⟨g, i, none⟩ v) g p' := blk_set h e

set_option maxHeartbeats 1000000 in
theorem beat_new {g : Nat} {p : Py} (h : PyAt w g p) (x : Pst) (step lim : Int) (ht : 0 ≤ p.ticks ∧ p.ticks ≤ 64) (hs : 0 ≤ step ∧ step ≤ 64) (hw : 0 ≤ p.wrong ∧ p.wrong ≤ 4611686018427387904) {b : Bool} (hk : p.known < x.inc) (hl : p.left = b) : Calls Try.prog 55 #[.pointer (some ⟨g, 0, none⟩), .agg x.cs, .int .i64 step, .int .i64 lim] w fun e w' => e = .returned (.tuple #[]) ∧ PyAt w' g (p.beat x step lim) ∧ Kept w w' (fun j => j = g) := by
  have hP : p.beat x step lim = ⟨x.inc, x.t, 0, p.ticks, p.wrong, !b, x.mu, b⟩ := by unfold Py.beat Py.meet; rw [if_pos hk, hl]; (try simp [hl])
  rw [hP]
  generalize hW : w.alloc (.cells x.cs 100) = W
  have hbW : Below w.heap.size w W := by rw [← hW]; exact balloc (Below.refl _ w)
  have hblk : W.heap[w.heap.size]? = some (.cells x.cs 100 (0, 0)) := by rw [← hW]; exact heap_alloc_new w _
  have y0 : W.cell? ⟨w.heap.size, 0, none⟩ = some (.int .i64 x.k) := blk_cell hblk 0
  have y2 : W.cell? ⟨w.heap.size, 2, none⟩ = some (.int .i64 x.inc) := blk_cell hblk 2
  have y3 : W.cell? ⟨w.heap.size, 3, none⟩ = some (.int .i64 x.t) := blk_cell hblk 3
  have y4 : W.cell? ⟨w.heap.size, 4, none⟩ = some (.bool x.mu) := blk_cell hblk 4
  have hgl := lt_heap h
  have hPA := h.still hbW
  obtain ⟨c0, c1, c2, c3, c4, c5, c6, c7⟩ := hPA.c
  have f0 := hPA.f 0
  have f1 := hPA.f 1
  have f2 := hPA.f 2
  have f3 := hPA.f 3
  have f4 := hPA.f 4
  have f5 := hPA.f 5
  have f6 := hPA.f 6
  have HPA : Hid (PyAt W g p) := hPA
  have Hb : Hid (Below w.heap.size w W) := hbW
  have hne : w.heap.size ≠ g := by omega
  have HC : Hid (W.heap[g]? = some (.cells #[.int .i64 p.known, .int .i64 p.last, .int .i64 p.age, .int .i64 p.ticks, .int .i64 p.wrong, .bool p.heard, .bool p.both, .bool b] 96 (0, 0))) := by
    have := hPA
    unfold PyAt Py.cs at this
    rw [hl] at this
    exact this
  rw [hl] at c7
  unfold Pst.cs at hW ⊢
  clear h hPA hblk hbW hP
  go_enter Try.func55, Try.ntmps55
  go_wp2
  refine wp_region_held_drew (S := (fun w' => w'.cell? ⟨w.heap.size, 2, none⟩ = some (.int .i64 x.inc) ∧ w'.cell? ⟨g, 0, none⟩ = some (.int .i64 p.known))) (by kernel_rfl) ⟨cell_drew y2, cell_drew c0⟩ (fun hHeld => ?_)
  simp only [Act.put, List.size_toArray, List.length_cons, List.length_nil, Nat.zero_add]
  refine wpAnyH_take (i := 0) (v := .pointer (some ⟨w.heap.size, 2, none⟩)) rfl (by kernel_rfl) (by kernel_rfl) (by kernel_rfl) (fun _ _ _ h => h) (Or.inl ⟨by rfl, fun w' hS => by go_simp⟩) hHeld ?_
  simp only [Act.put, List.getElem_toArray, List.getElem_cons_zero, List.getElem_cons_succ, List.setIfInBounds_toArray, List.set_cons_zero, List.set_cons_succ]
  refine wpAnyH_take (i := 1) (v := .int .i64 x.inc) rfl (by kernel_rfl) (by kernel_rfl) (by kernel_rfl) (fun _ _ _ h => h) (Or.inl ⟨by rfl, fun w' hS => by (obtain ⟨s0, s1⟩ := hS; go_simp)⟩) hHeld ?_
  simp only [Act.put, List.getElem_toArray, List.getElem_cons_zero, List.getElem_cons_succ, List.setIfInBounds_toArray, List.set_cons_zero, List.set_cons_succ]
  refine wpAnyH_take (i := 2) (v := .pointer (some ⟨g, 0, none⟩)) rfl (by kernel_rfl) (by kernel_rfl) (by kernel_rfl) (fun _ _ _ h => h) (Or.inl ⟨by rfl, fun w' hS => by go_simp⟩) hHeld ?_
  simp only [Act.put, List.getElem_toArray, List.getElem_cons_zero, List.getElem_cons_succ, List.setIfInBounds_toArray, List.set_cons_zero, List.set_cons_succ]
  refine wpAnyH_take (i := 3) (v := .pointer (some ⟨g, 0, none⟩)) rfl (by kernel_rfl) (by kernel_rfl) (by kernel_rfl) (fun _ _ _ h => h) (Or.inl ⟨by rfl, fun w' hS => by go_simp⟩) hHeld ?_
  simp only [Act.put, List.getElem_toArray, List.getElem_cons_zero, List.getElem_cons_succ, List.setIfInBounds_toArray, List.set_cons_zero, List.set_cons_succ]
  refine wpAnyH_take (i := 4) (v := .pointer (some ⟨g, 0, none⟩)) rfl (by kernel_rfl) (by kernel_rfl) (by kernel_rfl) (fun _ _ _ h => h) (Or.inl ⟨by rfl, fun w' hS => by go_simp⟩) hHeld ?_
  simp only [Act.put, List.getElem_toArray, List.getElem_cons_zero, List.getElem_cons_succ, List.setIfInBounds_toArray, List.set_cons_zero, List.set_cons_succ]
  refine wpAnyH_take (i := 5) (v := .int .i64 p.known) rfl (by kernel_rfl) (by kernel_rfl) (by kernel_rfl) (fun _ _ _ h => h) (Or.inl ⟨by rfl, fun w' hS => by (obtain ⟨s0, s1⟩ := hS; go_simp)⟩) hHeld ?_
  simp only [Act.put, List.getElem_toArray, List.getElem_cons_zero, List.getElem_cons_succ, List.setIfInBounds_toArray, List.set_cons_zero, List.set_cons_succ]
  refine wpAnyH_take (i := 6) (v := .bool true) rfl (by kernel_rfl) (by kernel_rfl) (by kernel_rfl) (fun _ _ _ h => h) (Or.inl ⟨by rfl, fun w' hS => by (go_simp <;> omega)⟩) hHeld ?_
  simp only [Act.put, List.getElem_toArray, List.getElem_cons_zero, List.getElem_cons_succ, List.setIfInBounds_toArray, List.set_cons_zero, List.set_cons_succ]
  refine wpAnyH_done (by kernel_rfl) ?_ _
  clear hHeld
  go_wp2
  go_end0
  exact ⟨rfl, Eq.trans (blkdrew (blkset (blkset (blkset (blkset (blkset HC.out)))))) rfl, kdrew (Kept.trans (Kept.trans (Kept.trans (Kept.trans (Kept.trans (Kept.ofBelow Hb.out _) (kset _ _ _ _ rfl)) (kset _ _ _ _ rfl)) (kset _ _ _ _ rfl)) (kset _ _ _ _ rfl)) (kset _ _ _ _ rfl))⟩

set_option maxHeartbeats 1000000 in
theorem beat_same {g : Nat} {p : Py} (h : PyAt w g p) (x : Pst) (step lim : Int) (ht : 0 ≤ p.ticks ∧ p.ticks ≤ 64) (hs : 0 ≤ step ∧ step ≤ 64) (hw : 0 ≤ p.wrong ∧ p.wrong ≤ 4611686018427387904) {b : Bool} (hk : ¬ p.known < x.inc) (hl : p.left = b) (hh : p.heard = true) : Calls Try.prog 55 #[.pointer (some ⟨g, 0, none⟩), .agg x.cs, .int .i64 step, .int .i64 lim] w fun e w' => e = .returned (.tuple #[]) ∧ PyAt w' g (p.beat x step lim) ∧ Kept w w' (fun j => j = g) := by
  have hP : p.beat x step lim = ⟨p.known, x.t, 0, p.ticks, p.wrong, !b, x.mu, b⟩ := by unfold Py.beat Py.meet; rw [if_neg hk, if_neg (by rw [hh]; simp), hl]; (try simp [hl])
  rw [hP]
  generalize hW : w.alloc (.cells x.cs 100) = W
  have hbW : Below w.heap.size w W := by rw [← hW]; exact balloc (Below.refl _ w)
  have hblk : W.heap[w.heap.size]? = some (.cells x.cs 100 (0, 0)) := by rw [← hW]; exact heap_alloc_new w _
  have y0 : W.cell? ⟨w.heap.size, 0, none⟩ = some (.int .i64 x.k) := blk_cell hblk 0
  have y2 : W.cell? ⟨w.heap.size, 2, none⟩ = some (.int .i64 x.inc) := blk_cell hblk 2
  have y3 : W.cell? ⟨w.heap.size, 3, none⟩ = some (.int .i64 x.t) := blk_cell hblk 3
  have y4 : W.cell? ⟨w.heap.size, 4, none⟩ = some (.bool x.mu) := blk_cell hblk 4
  have hgl := lt_heap h
  have hPA := h.still hbW
  obtain ⟨c0, c1, c2, c3, c4, c5, c6, c7⟩ := hPA.c
  have f0 := hPA.f 0
  have f1 := hPA.f 1
  have f2 := hPA.f 2
  have f3 := hPA.f 3
  have f4 := hPA.f 4
  have f5 := hPA.f 5
  have f6 := hPA.f 6
  have HPA : Hid (PyAt W g p) := hPA
  have Hb : Hid (Below w.heap.size w W) := hbW
  have hne : w.heap.size ≠ g := by omega
  have HC : Hid (W.heap[g]? = some (.cells #[.int .i64 p.known, .int .i64 p.last, .int .i64 p.age, .int .i64 p.ticks, .int .i64 p.wrong, .bool true, .bool p.both, .bool b] 96 (0, 0))) := by
    have := hPA
    unfold PyAt Py.cs at this
    rw [hl] at this
    rw [hh] at this
    exact this
  rw [hl] at c7
  rw [hh] at c5
  unfold Pst.cs at hW ⊢
  clear h hPA hblk hbW hP
  go_enter Try.func55, Try.ntmps55
  go_wp2
  refine wp_region_held_drew (S := (fun w' => w'.cell? ⟨w.heap.size, 2, none⟩ = some (.int .i64 x.inc) ∧ w'.cell? ⟨g, 0, none⟩ = some (.int .i64 p.known))) (by kernel_rfl) ⟨cell_drew y2, cell_drew c0⟩ (fun hHeld => ?_)
  simp only [Act.put, List.size_toArray, List.length_cons, List.length_nil, Nat.zero_add]
  refine wpAnyH_take (i := 0) (v := .pointer (some ⟨w.heap.size, 2, none⟩)) rfl (by kernel_rfl) (by kernel_rfl) (by kernel_rfl) (fun _ _ _ h => h) (Or.inl ⟨by rfl, fun w' hS => by go_simp⟩) hHeld ?_
  simp only [Act.put, List.getElem_toArray, List.getElem_cons_zero, List.getElem_cons_succ, List.setIfInBounds_toArray, List.set_cons_zero, List.set_cons_succ]
  refine wpAnyH_take (i := 1) (v := .int .i64 x.inc) rfl (by kernel_rfl) (by kernel_rfl) (by kernel_rfl) (fun _ _ _ h => h) (Or.inl ⟨by rfl, fun w' hS => by (obtain ⟨s0, s1⟩ := hS; go_simp)⟩) hHeld ?_
  simp only [Act.put, List.getElem_toArray, List.getElem_cons_zero, List.getElem_cons_succ, List.setIfInBounds_toArray, List.set_cons_zero, List.set_cons_succ]
  refine wpAnyH_take (i := 2) (v := .pointer (some ⟨g, 0, none⟩)) rfl (by kernel_rfl) (by kernel_rfl) (by kernel_rfl) (fun _ _ _ h => h) (Or.inl ⟨by rfl, fun w' hS => by go_simp⟩) hHeld ?_
  simp only [Act.put, List.getElem_toArray, List.getElem_cons_zero, List.getElem_cons_succ, List.setIfInBounds_toArray, List.set_cons_zero, List.set_cons_succ]
  refine wpAnyH_take (i := 3) (v := .pointer (some ⟨g, 0, none⟩)) rfl (by kernel_rfl) (by kernel_rfl) (by kernel_rfl) (fun _ _ _ h => h) (Or.inl ⟨by rfl, fun w' hS => by go_simp⟩) hHeld ?_
  simp only [Act.put, List.getElem_toArray, List.getElem_cons_zero, List.getElem_cons_succ, List.setIfInBounds_toArray, List.set_cons_zero, List.set_cons_succ]
  refine wpAnyH_take (i := 4) (v := .pointer (some ⟨g, 0, none⟩)) rfl (by kernel_rfl) (by kernel_rfl) (by kernel_rfl) (fun _ _ _ h => h) (Or.inl ⟨by rfl, fun w' hS => by go_simp⟩) hHeld ?_
  simp only [Act.put, List.getElem_toArray, List.getElem_cons_zero, List.getElem_cons_succ, List.setIfInBounds_toArray, List.set_cons_zero, List.set_cons_succ]
  refine wpAnyH_take (i := 5) (v := .int .i64 p.known) rfl (by kernel_rfl) (by kernel_rfl) (by kernel_rfl) (fun _ _ _ h => h) (Or.inl ⟨by rfl, fun w' hS => by (obtain ⟨s0, s1⟩ := hS; go_simp)⟩) hHeld ?_
  simp only [Act.put, List.getElem_toArray, List.getElem_cons_zero, List.getElem_cons_succ, List.setIfInBounds_toArray, List.set_cons_zero, List.set_cons_succ]
  refine wpAnyH_take (i := 6) (v := .bool false) rfl (by kernel_rfl) (by kernel_rfl) (by kernel_rfl) (fun _ _ _ h => h) (Or.inl ⟨by rfl, fun w' hS => by (go_simp <;> omega)⟩) hHeld ?_
  simp only [Act.put, List.getElem_toArray, List.getElem_cons_zero, List.getElem_cons_succ, List.setIfInBounds_toArray, List.set_cons_zero, List.set_cons_succ]
  refine wpAnyH_done (by kernel_rfl) ?_ _
  clear hHeld
  go_wp2
  go_end0
  exact ⟨rfl, Eq.trans (blkdrew (blkset (blkset (blkset (blkset HC.out))))) rfl, kdrew (Kept.trans (Kept.trans (Kept.trans (Kept.trans (Kept.ofBelow Hb.out _) (kset _ _ _ _ rfl)) (kset _ _ _ _ rfl)) (kset _ _ _ _ rfl)) (kset _ _ _ _ rfl))⟩

set_option maxHeartbeats 1000000 in
theorem beat_left {g : Nat} {p : Py} (h : PyAt w g p) (x : Pst) (step lim : Int) (ht : 0 ≤ p.ticks ∧ p.ticks ≤ 64) (hs : 0 ≤ step ∧ step ≤ 64) (hw : 0 ≤ p.wrong ∧ p.wrong ≤ 4611686018427387904) (hk : ¬ p.known < x.inc) (hl : p.left = true) (hh : p.heard = false) : Calls Try.prog 55 #[.pointer (some ⟨g, 0, none⟩), .agg x.cs, .int .i64 step, .int .i64 lim] w fun e w' => e = .returned (.tuple #[]) ∧ PyAt w' g (p.beat x step lim) ∧ Kept w w' (fun j => j = g) := by
  have hP : p.beat x step lim = ⟨p.known, x.t, 0, p.ticks, p.wrong, !true, x.mu, true⟩ := by unfold Py.beat Py.meet; rw [if_neg hk, if_neg (by rw [hl]; simp), hl]; (try simp [hl])
  rw [hP]
  generalize hW : w.alloc (.cells x.cs 100) = W
  have hbW : Below w.heap.size w W := by rw [← hW]; exact balloc (Below.refl _ w)
  have hblk : W.heap[w.heap.size]? = some (.cells x.cs 100 (0, 0)) := by rw [← hW]; exact heap_alloc_new w _
  have y0 : W.cell? ⟨w.heap.size, 0, none⟩ = some (.int .i64 x.k) := blk_cell hblk 0
  have y2 : W.cell? ⟨w.heap.size, 2, none⟩ = some (.int .i64 x.inc) := blk_cell hblk 2
  have y3 : W.cell? ⟨w.heap.size, 3, none⟩ = some (.int .i64 x.t) := blk_cell hblk 3
  have y4 : W.cell? ⟨w.heap.size, 4, none⟩ = some (.bool x.mu) := blk_cell hblk 4
  have hgl := lt_heap h
  have hPA := h.still hbW
  obtain ⟨c0, c1, c2, c3, c4, c5, c6, c7⟩ := hPA.c
  have f0 := hPA.f 0
  have f1 := hPA.f 1
  have f2 := hPA.f 2
  have f3 := hPA.f 3
  have f4 := hPA.f 4
  have f5 := hPA.f 5
  have f6 := hPA.f 6
  have HPA : Hid (PyAt W g p) := hPA
  have Hb : Hid (Below w.heap.size w W) := hbW
  have hne : w.heap.size ≠ g := by omega
  have HC : Hid (W.heap[g]? = some (.cells #[.int .i64 p.known, .int .i64 p.last, .int .i64 p.age, .int .i64 p.ticks, .int .i64 p.wrong, .bool false, .bool p.both, .bool true] 96 (0, 0))) := by
    have := hPA
    unfold PyAt Py.cs at this
    rw [hl] at this
    rw [hh] at this
    exact this
  rw [hl] at c7
  rw [hh] at c5
  unfold Pst.cs at hW ⊢
  clear h hPA hblk hbW hP
  go_enter Try.func55, Try.ntmps55
  go_wp2
  refine wp_region_held_drew (S := (fun w' => w'.cell? ⟨w.heap.size, 2, none⟩ = some (.int .i64 x.inc) ∧ w'.cell? ⟨g, 0, none⟩ = some (.int .i64 p.known))) (by kernel_rfl) ⟨cell_drew y2, cell_drew c0⟩ (fun hHeld => ?_)
  simp only [Act.put, List.size_toArray, List.length_cons, List.length_nil, Nat.zero_add]
  refine wpAnyH_take (i := 0) (v := .pointer (some ⟨w.heap.size, 2, none⟩)) rfl (by kernel_rfl) (by kernel_rfl) (by kernel_rfl) (fun _ _ _ h => h) (Or.inl ⟨by rfl, fun w' hS => by go_simp⟩) hHeld ?_
  simp only [Act.put, List.getElem_toArray, List.getElem_cons_zero, List.getElem_cons_succ, List.setIfInBounds_toArray, List.set_cons_zero, List.set_cons_succ]
  refine wpAnyH_take (i := 1) (v := .int .i64 x.inc) rfl (by kernel_rfl) (by kernel_rfl) (by kernel_rfl) (fun _ _ _ h => h) (Or.inl ⟨by rfl, fun w' hS => by (obtain ⟨s0, s1⟩ := hS; go_simp)⟩) hHeld ?_
  simp only [Act.put, List.getElem_toArray, List.getElem_cons_zero, List.getElem_cons_succ, List.setIfInBounds_toArray, List.set_cons_zero, List.set_cons_succ]
  refine wpAnyH_take (i := 2) (v := .pointer (some ⟨g, 0, none⟩)) rfl (by kernel_rfl) (by kernel_rfl) (by kernel_rfl) (fun _ _ _ h => h) (Or.inl ⟨by rfl, fun w' hS => by go_simp⟩) hHeld ?_
  simp only [Act.put, List.getElem_toArray, List.getElem_cons_zero, List.getElem_cons_succ, List.setIfInBounds_toArray, List.set_cons_zero, List.set_cons_succ]
  refine wpAnyH_take (i := 3) (v := .pointer (some ⟨g, 0, none⟩)) rfl (by kernel_rfl) (by kernel_rfl) (by kernel_rfl) (fun _ _ _ h => h) (Or.inl ⟨by rfl, fun w' hS => by go_simp⟩) hHeld ?_
  simp only [Act.put, List.getElem_toArray, List.getElem_cons_zero, List.getElem_cons_succ, List.setIfInBounds_toArray, List.set_cons_zero, List.set_cons_succ]
  refine wpAnyH_take (i := 4) (v := .pointer (some ⟨g, 0, none⟩)) rfl (by kernel_rfl) (by kernel_rfl) (by kernel_rfl) (fun _ _ _ h => h) (Or.inl ⟨by rfl, fun w' hS => by go_simp⟩) hHeld ?_
  simp only [Act.put, List.getElem_toArray, List.getElem_cons_zero, List.getElem_cons_succ, List.setIfInBounds_toArray, List.set_cons_zero, List.set_cons_succ]
  refine wpAnyH_take (i := 5) (v := .int .i64 p.known) rfl (by kernel_rfl) (by kernel_rfl) (by kernel_rfl) (fun _ _ _ h => h) (Or.inl ⟨by rfl, fun w' hS => by (obtain ⟨s0, s1⟩ := hS; go_simp)⟩) hHeld ?_
  simp only [Act.put, List.getElem_toArray, List.getElem_cons_zero, List.getElem_cons_succ, List.setIfInBounds_toArray, List.set_cons_zero, List.set_cons_succ]
  refine wpAnyH_take (i := 6) (v := .bool false) rfl (by kernel_rfl) (by kernel_rfl) (by kernel_rfl) (fun _ _ _ h => h) (Or.inl ⟨by rfl, fun w' hS => by (go_simp <;> omega)⟩) hHeld ?_
  simp only [Act.put, List.getElem_toArray, List.getElem_cons_zero, List.getElem_cons_succ, List.setIfInBounds_toArray, List.set_cons_zero, List.set_cons_succ]
  refine wpAnyH_done (by kernel_rfl) ?_ _
  clear hHeld
  go_wp2
  go_end0
  exact ⟨rfl, Eq.trans (blkdrew (blkset (blkset (blkset (blkset HC.out))))) rfl, kdrew (Kept.trans (Kept.trans (Kept.trans (Kept.trans (Kept.ofBelow Hb.out _) (kset _ _ _ _ rfl)) (kset _ _ _ _ rfl)) (kset _ _ _ _ rfl)) (kset _ _ _ _ rfl))⟩

set_option maxHeartbeats 1000000 in
theorem beat_far {g : Nat} {p : Py} (h : PyAt w g p) (x : Pst) (step lim : Int) (ht : 0 ≤ p.ticks ∧ p.ticks ≤ 64) (hs : 0 ≤ step ∧ step ≤ 64) (hw : 0 ≤ p.wrong ∧ p.wrong ≤ 4611686018427387904) (hk : ¬ p.known < x.inc) (hl : p.left = false) (hh : p.heard = false) (hg : lim < p.ticks + step) : Calls Try.prog 55 #[.pointer (some ⟨g, 0, none⟩), .agg x.cs, .int .i64 step, .int .i64 lim] w fun e w' => e = .returned (.tuple #[]) ∧ PyAt w' g (p.beat x step lim) ∧ Kept w w' (fun j => j = g) := by
  have hP : p.beat x step lim = ⟨p.known, x.t, 0, lim, p.wrong + 1, !false, x.mu, false⟩ := by unfold Py.beat Py.meet; rw [if_neg hk, if_pos ⟨hh, hl⟩, if_pos hg, hl]; (try simp [hl])
  rw [hP]
  generalize hW : w.alloc (.cells x.cs 100) = W
  have hbW : Below w.heap.size w W := by rw [← hW]; exact balloc (Below.refl _ w)
  have hblk : W.heap[w.heap.size]? = some (.cells x.cs 100 (0, 0)) := by rw [← hW]; exact heap_alloc_new w _
  have y0 : W.cell? ⟨w.heap.size, 0, none⟩ = some (.int .i64 x.k) := blk_cell hblk 0
  have y2 : W.cell? ⟨w.heap.size, 2, none⟩ = some (.int .i64 x.inc) := blk_cell hblk 2
  have y3 : W.cell? ⟨w.heap.size, 3, none⟩ = some (.int .i64 x.t) := blk_cell hblk 3
  have y4 : W.cell? ⟨w.heap.size, 4, none⟩ = some (.bool x.mu) := blk_cell hblk 4
  have hgl := lt_heap h
  have hPA := h.still hbW
  obtain ⟨c0, c1, c2, c3, c4, c5, c6, c7⟩ := hPA.c
  have f0 := hPA.f 0
  have f1 := hPA.f 1
  have f2 := hPA.f 2
  have f3 := hPA.f 3
  have f4 := hPA.f 4
  have f5 := hPA.f 5
  have f6 := hPA.f 6
  have HPA : Hid (PyAt W g p) := hPA
  have Hb : Hid (Below w.heap.size w W) := hbW
  have hne : w.heap.size ≠ g := by omega
  have HC : Hid (W.heap[g]? = some (.cells #[.int .i64 p.known, .int .i64 p.last, .int .i64 p.age, .int .i64 p.ticks, .int .i64 p.wrong, .bool false, .bool p.both, .bool false] 96 (0, 0))) := by
    have := hPA
    unfold PyAt Py.cs at this
    rw [hl] at this
    rw [hh] at this
    exact this
  rw [hl] at c7
  rw [hh] at c5
  unfold Pst.cs at hW ⊢
  have hw1 : IntKind.i64.wrap (p.wrong + 1) = p.wrong + 1 := wrap_id (by omega) (by omega)
  have hw2 : IntKind.i64.wrap (p.ticks + step) = p.ticks + step := wrap_id (by omega) (by omega)
  clear h hPA hblk hbW hP
  go_enter Try.func55, Try.ntmps55
  go_wp2
  refine wp_region_held_drew (S := (fun w' => w'.cell? ⟨w.heap.size, 2, none⟩ = some (.int .i64 x.inc) ∧ w'.cell? ⟨g, 0, none⟩ = some (.int .i64 p.known))) (by kernel_rfl) ⟨cell_drew y2, cell_drew c0⟩ (fun hHeld => ?_)
  simp only [Act.put, List.size_toArray, List.length_cons, List.length_nil, Nat.zero_add]
  refine wpAnyH_take (i := 0) (v := .pointer (some ⟨w.heap.size, 2, none⟩)) rfl (by kernel_rfl) (by kernel_rfl) (by kernel_rfl) (fun _ _ _ h => h) (Or.inl ⟨by rfl, fun w' hS => by go_simp⟩) hHeld ?_
  simp only [Act.put, List.getElem_toArray, List.getElem_cons_zero, List.getElem_cons_succ, List.setIfInBounds_toArray, List.set_cons_zero, List.set_cons_succ]
  refine wpAnyH_take (i := 1) (v := .int .i64 x.inc) rfl (by kernel_rfl) (by kernel_rfl) (by kernel_rfl) (fun _ _ _ h => h) (Or.inl ⟨by rfl, fun w' hS => by (obtain ⟨s0, s1⟩ := hS; go_simp)⟩) hHeld ?_
  simp only [Act.put, List.getElem_toArray, List.getElem_cons_zero, List.getElem_cons_succ, List.setIfInBounds_toArray, List.set_cons_zero, List.set_cons_succ]
  refine wpAnyH_take (i := 2) (v := .pointer (some ⟨g, 0, none⟩)) rfl (by kernel_rfl) (by kernel_rfl) (by kernel_rfl) (fun _ _ _ h => h) (Or.inl ⟨by rfl, fun w' hS => by go_simp⟩) hHeld ?_
  simp only [Act.put, List.getElem_toArray, List.getElem_cons_zero, List.getElem_cons_succ, List.setIfInBounds_toArray, List.set_cons_zero, List.set_cons_succ]
  refine wpAnyH_take (i := 3) (v := .pointer (some ⟨g, 0, none⟩)) rfl (by kernel_rfl) (by kernel_rfl) (by kernel_rfl) (fun _ _ _ h => h) (Or.inl ⟨by rfl, fun w' hS => by go_simp⟩) hHeld ?_
  simp only [Act.put, List.getElem_toArray, List.getElem_cons_zero, List.getElem_cons_succ, List.setIfInBounds_toArray, List.set_cons_zero, List.set_cons_succ]
  refine wpAnyH_take (i := 4) (v := .pointer (some ⟨g, 0, none⟩)) rfl (by kernel_rfl) (by kernel_rfl) (by kernel_rfl) (fun _ _ _ h => h) (Or.inl ⟨by rfl, fun w' hS => by go_simp⟩) hHeld ?_
  simp only [Act.put, List.getElem_toArray, List.getElem_cons_zero, List.getElem_cons_succ, List.setIfInBounds_toArray, List.set_cons_zero, List.set_cons_succ]
  refine wpAnyH_take (i := 5) (v := .int .i64 p.known) rfl (by kernel_rfl) (by kernel_rfl) (by kernel_rfl) (fun _ _ _ h => h) (Or.inl ⟨by rfl, fun w' hS => by (obtain ⟨s0, s1⟩ := hS; go_simp)⟩) hHeld ?_
  simp only [Act.put, List.getElem_toArray, List.getElem_cons_zero, List.getElem_cons_succ, List.setIfInBounds_toArray, List.set_cons_zero, List.set_cons_succ]
  refine wpAnyH_take (i := 6) (v := .bool false) rfl (by kernel_rfl) (by kernel_rfl) (by kernel_rfl) (fun _ _ _ h => h) (Or.inl ⟨by rfl, fun w' hS => by (go_simp <;> omega)⟩) hHeld ?_
  simp only [Act.put, List.getElem_toArray, List.getElem_cons_zero, List.getElem_cons_succ, List.setIfInBounds_toArray, List.set_cons_zero, List.set_cons_succ]
  refine wpAnyH_done (by kernel_rfl) ?_ _
  clear hHeld
  go_wp2
  go_end0
  exact ⟨rfl, Eq.trans (blkdrew (blkset (blkset (blkset (blkset (blkset (blkset (blkset HC.out)))))))) rfl, kdrew (Kept.trans (Kept.trans (Kept.trans (Kept.trans (Kept.trans (Kept.trans (Kept.trans (Kept.ofBelow Hb.out _) (kset _ _ _ _ rfl)) (kset _ _ _ _ rfl)) (kset _ _ _ _ rfl)) (kset _ _ _ _ rfl)) (kset _ _ _ _ rfl)) (kset _ _ _ _ rfl)) (kset _ _ _ _ rfl))⟩

set_option maxHeartbeats 1000000 in
theorem beat_near {g : Nat} {p : Py} (h : PyAt w g p) (x : Pst) (step lim : Int) (ht : 0 ≤ p.ticks ∧ p.ticks ≤ 64) (hs : 0 ≤ step ∧ step ≤ 64) (hw : 0 ≤ p.wrong ∧ p.wrong ≤ 4611686018427387904) (hk : ¬ p.known < x.inc) (hl : p.left = false) (hh : p.heard = false) (hg : ¬ lim < p.ticks + step) : Calls Try.prog 55 #[.pointer (some ⟨g, 0, none⟩), .agg x.cs, .int .i64 step, .int .i64 lim] w fun e w' => e = .returned (.tuple #[]) ∧ PyAt w' g (p.beat x step lim) ∧ Kept w w' (fun j => j = g) := by
  have hP : p.beat x step lim = ⟨p.known, x.t, 0, p.ticks + step, p.wrong + 1, !false, x.mu, false⟩ := by unfold Py.beat Py.meet; rw [if_neg hk, if_pos ⟨hh, hl⟩, if_neg hg, hl]; (try simp [hl])
  rw [hP]
  generalize hW : w.alloc (.cells x.cs 100) = W
  have hbW : Below w.heap.size w W := by rw [← hW]; exact balloc (Below.refl _ w)
  have hblk : W.heap[w.heap.size]? = some (.cells x.cs 100 (0, 0)) := by rw [← hW]; exact heap_alloc_new w _
  have y0 : W.cell? ⟨w.heap.size, 0, none⟩ = some (.int .i64 x.k) := blk_cell hblk 0
  have y2 : W.cell? ⟨w.heap.size, 2, none⟩ = some (.int .i64 x.inc) := blk_cell hblk 2
  have y3 : W.cell? ⟨w.heap.size, 3, none⟩ = some (.int .i64 x.t) := blk_cell hblk 3
  have y4 : W.cell? ⟨w.heap.size, 4, none⟩ = some (.bool x.mu) := blk_cell hblk 4
  have hgl := lt_heap h
  have hPA := h.still hbW
  obtain ⟨c0, c1, c2, c3, c4, c5, c6, c7⟩ := hPA.c
  have f0 := hPA.f 0
  have f1 := hPA.f 1
  have f2 := hPA.f 2
  have f3 := hPA.f 3
  have f4 := hPA.f 4
  have f5 := hPA.f 5
  have f6 := hPA.f 6
  have HPA : Hid (PyAt W g p) := hPA
  have Hb : Hid (Below w.heap.size w W) := hbW
  have hne : w.heap.size ≠ g := by omega
  have HC : Hid (W.heap[g]? = some (.cells #[.int .i64 p.known, .int .i64 p.last, .int .i64 p.age, .int .i64 p.ticks, .int .i64 p.wrong, .bool false, .bool p.both, .bool false] 96 (0, 0))) := by
    have := hPA
    unfold PyAt Py.cs at this
    rw [hl] at this
    rw [hh] at this
    exact this
  rw [hl] at c7
  rw [hh] at c5
  unfold Pst.cs at hW ⊢
  have hw1 : IntKind.i64.wrap (p.wrong + 1) = p.wrong + 1 := wrap_id (by omega) (by omega)
  have hw2 : IntKind.i64.wrap (p.ticks + step) = p.ticks + step := wrap_id (by omega) (by omega)
  clear h hPA hblk hbW hP
  go_enter Try.func55, Try.ntmps55
  go_wp2
  refine wp_region_held_drew (S := (fun w' => w'.cell? ⟨w.heap.size, 2, none⟩ = some (.int .i64 x.inc) ∧ w'.cell? ⟨g, 0, none⟩ = some (.int .i64 p.known))) (by kernel_rfl) ⟨cell_drew y2, cell_drew c0⟩ (fun hHeld => ?_)
  simp only [Act.put, List.size_toArray, List.length_cons, List.length_nil, Nat.zero_add]
  refine wpAnyH_take (i := 0) (v := .pointer (some ⟨w.heap.size, 2, none⟩)) rfl (by kernel_rfl) (by kernel_rfl) (by kernel_rfl) (fun _ _ _ h => h) (Or.inl ⟨by rfl, fun w' hS => by go_simp⟩) hHeld ?_
  simp only [Act.put, List.getElem_toArray, List.getElem_cons_zero, List.getElem_cons_succ, List.setIfInBounds_toArray, List.set_cons_zero, List.set_cons_succ]
  refine wpAnyH_take (i := 1) (v := .int .i64 x.inc) rfl (by kernel_rfl) (by kernel_rfl) (by kernel_rfl) (fun _ _ _ h => h) (Or.inl ⟨by rfl, fun w' hS => by (obtain ⟨s0, s1⟩ := hS; go_simp)⟩) hHeld ?_
  simp only [Act.put, List.getElem_toArray, List.getElem_cons_zero, List.getElem_cons_succ, List.setIfInBounds_toArray, List.set_cons_zero, List.set_cons_succ]
  refine wpAnyH_take (i := 2) (v := .pointer (some ⟨g, 0, none⟩)) rfl (by kernel_rfl) (by kernel_rfl) (by kernel_rfl) (fun _ _ _ h => h) (Or.inl ⟨by rfl, fun w' hS => by go_simp⟩) hHeld ?_
  simp only [Act.put, List.getElem_toArray, List.getElem_cons_zero, List.getElem_cons_succ, List.setIfInBounds_toArray, List.set_cons_zero, List.set_cons_succ]
  refine wpAnyH_take (i := 3) (v := .pointer (some ⟨g, 0, none⟩)) rfl (by kernel_rfl) (by kernel_rfl) (by kernel_rfl) (fun _ _ _ h => h) (Or.inl ⟨by rfl, fun w' hS => by go_simp⟩) hHeld ?_
  simp only [Act.put, List.getElem_toArray, List.getElem_cons_zero, List.getElem_cons_succ, List.setIfInBounds_toArray, List.set_cons_zero, List.set_cons_succ]
  refine wpAnyH_take (i := 4) (v := .pointer (some ⟨g, 0, none⟩)) rfl (by kernel_rfl) (by kernel_rfl) (by kernel_rfl) (fun _ _ _ h => h) (Or.inl ⟨by rfl, fun w' hS => by go_simp⟩) hHeld ?_
  simp only [Act.put, List.getElem_toArray, List.getElem_cons_zero, List.getElem_cons_succ, List.setIfInBounds_toArray, List.set_cons_zero, List.set_cons_succ]
  refine wpAnyH_take (i := 5) (v := .int .i64 p.known) rfl (by kernel_rfl) (by kernel_rfl) (by kernel_rfl) (fun _ _ _ h => h) (Or.inl ⟨by rfl, fun w' hS => by (obtain ⟨s0, s1⟩ := hS; go_simp)⟩) hHeld ?_
  simp only [Act.put, List.getElem_toArray, List.getElem_cons_zero, List.getElem_cons_succ, List.setIfInBounds_toArray, List.set_cons_zero, List.set_cons_succ]
  refine wpAnyH_take (i := 6) (v := .bool false) rfl (by kernel_rfl) (by kernel_rfl) (by kernel_rfl) (fun _ _ _ h => h) (Or.inl ⟨by rfl, fun w' hS => by (go_simp <;> omega)⟩) hHeld ?_
  simp only [Act.put, List.getElem_toArray, List.getElem_cons_zero, List.getElem_cons_succ, List.setIfInBounds_toArray, List.set_cons_zero, List.set_cons_succ]
  refine wpAnyH_done (by kernel_rfl) ?_ _
  clear hHeld
  go_wp2
  go_end0
  exact ⟨rfl, Eq.trans (blkdrew (blkset (blkset (blkset (blkset (blkset (blkset HC.out))))))) rfl, kdrew (Kept.trans (Kept.trans (Kept.trans (Kept.trans (Kept.trans (Kept.trans (Kept.ofBelow Hb.out _) (kset _ _ _ _ rfl)) (kset _ _ _ _ rfl)) (kset _ _ _ _ rfl)) (kset _ _ _ _ rfl)) (kset _ _ _ _ rfl)) (kset _ _ _ _ rfl))⟩
theorem beat_peer {g : Nat} {p : Py} (h : PyAt w g p) (x : Pst) (step lim : Int) (ht : 0 ≤ p.ticks ∧ p.ticks ≤ 64) (hs : 0 ≤ step ∧ step ≤ 64) (hw : 0 ≤ p.wrong ∧ p.wrong ≤ 4611686018427387904) : Calls Try.prog 55 #[.pointer (some ⟨g, 0, none⟩), .agg x.cs, .int .i64 step, .int .i64 lim] w fun e w' => e = .returned (.tuple #[]) ∧ PyAt w' g (p.beat x step lim) ∧ Kept w w' (fun j => j = g) := by
  by_cases hk : p.known < x.inc
  · exact beat_new h x step lim ht hs hw hk rfl
  · cases hh : p.heard with
    | true => exact beat_same h x step lim ht hs hw hk rfl hh
    | false =>
      cases hl : p.left with
      | true => exact beat_left h x step lim ht hs hw hk hl hh
      | false =>
        by_cases hg : lim < p.ticks + step
        · exact beat_far h x step lim ht hs hw hk hl hh hg
        · exact beat_near h x step lim ht hs hw hk hl hh hg
end
end Go.Proofs.Ytfbollifegngjaa.Dt
