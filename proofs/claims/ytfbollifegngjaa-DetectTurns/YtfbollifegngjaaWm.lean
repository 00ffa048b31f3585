import Derived.Test.YtfbollifegngjaaWl
namespace Go.Proofs.Ytfbollifegngjaa.Dt
open Go.RowKit
set_option linter.unusedVariables false
set_option maxRecDepth 100000
set_option linter.unusedSimpArgs false
section
variable {D D' : De} {R R' : Rf} {w w' W V : World} {B m : Nat}
theorem list_any (h : Du D R w B m) (hm : m ≤ 2513169434917) (k : Int) : Calls Try.prog 35 #[.pointer (some ⟨D.b, 0, none⟩), .pointer (some ⟨R.b, 0, none⟩), .int .i64 k] w fun e w' => ∃ v1 v2, e = .returned (.tuple #[v1, v2]) ∧ Two w' v1 v2 ∧ Below w.heap.size w w' := by
  by_cases h4 : k = 4
  · subst h4; exact list_beat h hm
  · by_cases h5 : k = 5
    · subst h5; exact list_hears h hm
    · by_cases h6 : k = 6
      · subst h6; exact list_ests h hm
      · by_cases h7 : k = 7
        · subst h7; exact list_sus h hm
        · exact list_none k h4 h5 h6 h7 _ _
theorem same_two {v1 v2 : Value} (h : Two w v1 v2) : Calls Try.prog 33 #[v1, v2] w fun e w' => e = .returned (.bool true) ∧ Below w.heap.size w w' := by
  obtain ⟨a1, a2, n, c1, c2, xs, rfl, rfl, h1, h2, h3⟩ := h
  exact same_any h1 h2 (by omega)
theorem ask_known (h : Du D R w B m) (hm : m ≤ 2513169434917) (q : Int) : ∃ x, Calls Try.prog 14 #[.pointer (some ⟨D.b, 0, none⟩), .int .i64 q] w (fun e w' => e = .returned (.int .i64 x) ∧ w = w') ∧ Calls Try.prog 36 #[.pointer (some ⟨R.b, 0, none⟩), .int .i64 q] w (fun e w' => e = .returned (.int .i64 x) ∧ Below w.heap.size w w') := by
  refine ⟨D.known q, known_any h.d q, ?_⟩
  rw [h.sim.known]
  exact rknown_any h.r (by have := h.len; omega) q
theorem ask_timeout (h : Du D R w B m) (hm : m ≤ 2513169434917) (q : Int) : ∃ x, Calls Try.prog 37 #[.pointer (some ⟨D.b, 0, none⟩), .int .i64 q] w (fun e w' => e = .returned (.int .i64 x) ∧ w = w') ∧ Calls Try.prog 38 #[.pointer (some ⟨R.b, 0, none⟩), .int .i64 q] w (fun e w' => e = .returned (.int .i64 x) ∧ Below w.heap.size w w') := by
  refine ⟨D.timeout q, timeout_any h.d q, ?_⟩
  rw [h.sim.timeout]
  exact rtimeout_any h.r (by have := h.len; omega) q
theorem ask_wrong (h : Du D R w B m) (hm : m ≤ 2513169434917) (q : Int) : ∃ x, Calls Try.prog 39 #[.pointer (some ⟨D.b, 0, none⟩), .int .i64 q] w (fun e w' => e = .returned (.int .i64 x) ∧ w = w') ∧ Calls Try.prog 40 #[.pointer (some ⟨R.b, 0, none⟩), .int .i64 q] w (fun e w' => e = .returned (.int .i64 x) ∧ Below w.heap.size w w') := by
  refine ⟨D.wrong q, wrong_any h.d q, ?_⟩
  rw [h.sim.wrong]
  exact rwrong_any h.r (by have := h.len; omega) q

set_option maxHeartbeats 400000 in
theorem tells_known (h : Du D R w B m) (hm : m ≤ 2513169434917) (o : Opx) (hk : o.k = 8) : Calls Try.prog 31 #[.pointer (some ⟨D.b, 0, none⟩), .pointer (some ⟨R.b, 0, none⟩), .agg o.cs] w fun e w' => e = .returned (.bool true) ∧ Below w.heap.size w w' := by
  generalize hW : w.alloc (.cells o.cs 58) = W
  have hbW : Below w.heap.size w W := by rw [← hW]; exact balloc (Below.refl _ w)
  have hblk : W.heap[w.heap.size]? = some (.cells o.cs 58 (0, 0)) := by rw [← hW]; exact heap_alloc_new w _
  have y0 : W.cell? ⟨w.heap.size, 0, none⟩ = some (.int .i64 o.k) := blk_cell hblk 0
  have y1 : W.cell? ⟨w.heap.size, 1, none⟩ = some (.int .i64 o.q) := blk_cell hblk 1
  have y2 : W.cell? ⟨w.heap.size, 2, none⟩ = some (.int .i64 o.inc) := blk_cell hblk 2
  have y3 : W.cell? ⟨w.heap.size, 3, none⟩ = some (.int .i64 o.t) := blk_cell hblk 3
  have y4 : W.cell? ⟨w.heap.size, 4, none⟩ = some (.slice o.ha o.hn o.hc) := blk_cell hblk 4
  have hwl := lt_heap hblk
  have hW2 := h.still hbW
  have Hb : Hid (Below w.heap.size w W) := hbW
  obtain ⟨x, hx⟩ : ∃ x, ∀ w', Below W.heap.size W w' → Calls Try.prog 14 #[.pointer (some ⟨D.b, 0, none⟩), .int .i64 o.q] w' (fun e w2 => e = .returned (.int .i64 x) ∧ w' = w2) ∧ Calls Try.prog 36 #[.pointer (some ⟨R.b, 0, none⟩), .int .i64 o.q] w' (fun e w2 => e = .returned (.int .i64 x) ∧ Below w'.heap.size w' w2) := ⟨D.known o.q, fun w' hb => ⟨known_any (hW2.d.still hb) o.q, by rw [hW2.sim.known]; exact rknown_any (hW2.r.still hb) (by have := hW2.len; omega) o.q⟩⟩
  have HA : Hid (∀ w', Below W.heap.size W w' → Calls Try.prog 14 #[.pointer (some ⟨D.b, 0, none⟩), .int .i64 o.q] w' (fun e w2 => e = .returned (.int .i64 x) ∧ w' = w2)) := fun w' hb => (hx w' hb).1
  have HB : Hid (∀ w', Below W.heap.size W w' → Calls Try.prog 36 #[.pointer (some ⟨R.b, 0, none⟩), .int .i64 o.q] w' (fun e w2 => e = .returned (.int .i64 x) ∧ Below w'.heap.size w' w2)) := fun w' hb => (hx w' hb).2
  unfold Opx.cs at hW ⊢
  rw [hk] at hW y0 ⊢
  clear h hblk hbW hW2 hx
  go_enter Try.func31, Try.ntmps31
  go_wp2
  refine wp_region_held_drew (S := (fun w' => w'.cell? ⟨w.heap.size, 1, none⟩ = some (.int .i64 o.q))) (by kernel_rfl) (cell_drew y1) (fun hHeld => ?_)
  simp only [Act.put, List.size_toArray, List.length_cons, List.length_nil, Nat.zero_add]
  refine wpAnyH_take (i := 0) (v := .pointer (some ⟨D.b, 0, none⟩)) rfl (by kernel_rfl) (by kernel_rfl) (by kernel_rfl) (fun _ _ _ h => h) (Or.inl ⟨by rfl, fun w' hS => by go_simp⟩) hHeld ?_
  simp only [Act.put, List.getElem_toArray, List.getElem_cons_zero, List.getElem_cons_succ, List.setIfInBounds_toArray, List.set_cons_zero, List.set_cons_succ]
  refine wpAnyH_take (i := 1) (v := .pointer (some ⟨w.heap.size, 1, none⟩)) rfl (by kernel_rfl) (by kernel_rfl) (by kernel_rfl) (fun _ _ _ h => h) (Or.inl ⟨by rfl, fun w' hS => by go_simp⟩) hHeld ?_
  simp only [Act.put, List.getElem_toArray, List.getElem_cons_zero, List.getElem_cons_succ, List.setIfInBounds_toArray, List.set_cons_zero, List.set_cons_succ]
  refine wpAnyH_take (i := 2) (v := .int .i64 o.q) rfl (by kernel_rfl) (by kernel_rfl) (by kernel_rfl) (fun _ _ _ h => h) (Or.inl ⟨by rfl, fun w' hS => by (have s0 := hS; go_simp)⟩) hHeld ?_
  simp only [Act.put, List.getElem_toArray, List.getElem_cons_zero, List.getElem_cons_succ, List.setIfInBounds_toArray, List.set_cons_zero, List.set_cons_succ]
  refine wpAnyH_take (i := 4) (v := .pointer (some ⟨R.b, 0, none⟩)) rfl (by kernel_rfl) (by kernel_rfl) (by kernel_rfl) (fun _ _ _ h => h) (Or.inl ⟨by rfl, fun w' hS => by go_simp⟩) hHeld ?_
  simp only [Act.put, List.getElem_toArray, List.getElem_cons_zero, List.getElem_cons_succ, List.setIfInBounds_toArray, List.set_cons_zero, List.set_cons_succ]
  refine wpAnyH_take (i := 5) (v := .pointer (some ⟨w.heap.size, 1, none⟩)) rfl (by kernel_rfl) (by kernel_rfl) (by kernel_rfl) (fun _ _ _ h => h) (Or.inl ⟨by rfl, fun w' hS => by go_simp⟩) hHeld ?_
  simp only [Act.put, List.getElem_toArray, List.getElem_cons_zero, List.getElem_cons_succ, List.setIfInBounds_toArray, List.set_cons_zero, List.set_cons_succ]
  refine wpAnyH_take (i := 6) (v := .int .i64 o.q) rfl (by kernel_rfl) (by kernel_rfl) (by kernel_rfl) (fun _ _ _ h => h) (Or.inl ⟨by rfl, fun w' hS => by (have s0 := hS; go_simp)⟩) hHeld ?_
  simp only [Act.put, List.getElem_toArray, List.getElem_cons_zero, List.getElem_cons_succ, List.setIfInBounds_toArray, List.set_cons_zero, List.set_cons_succ]
  refine wpAnyH_ready (rs := [3]) (by kernel_rfl) (by simp) ?_
  refine AllReadyH.cons rfl (fun K hK => ?_) AllReadyH.nil
  go_simp
  refine (HA.out _ (Below.refl _ _).drew).mono ?_
  rintro e w2 ⟨rfl, rfl⟩
  refine hK.out _ _ (cell_drew y1) (fun hHeld => ?_)
  clear hK K
  refine wpAnyH_ready (rs := [7]) (by kernel_rfl) (by simp) ?_
  refine AllReadyH.cons rfl (fun K hK => ?_) AllReadyH.nil
  go_simp
  refine (HB.out _ (Below.refl _ _).drew).mono ?_
  rintro e w3 ⟨rfl, hb3⟩
  have B3 : Below W.heap.size W w3 := bstep (Below.refl _ _).drew hb3
  refine hK.out _ _ (below_at B3 y1) (fun hHeld => ?_)
  clear hK K
  refine wpAnyH_take (i := 8) (v := .bool true) rfl (by kernel_rfl) (by kernel_rfl) (by kernel_rfl) (fun _ _ _ h => h) (Or.inl ⟨by rfl, fun w' hS => by go_simp⟩) hHeld ?_
  simp only [Act.put, List.getElem_toArray, List.getElem_cons_zero, List.getElem_cons_succ, List.setIfInBounds_toArray, List.set_cons_zero, List.set_cons_succ]
  refine wpAnyH_take (i := 9) (v := .bool true) rfl (by kernel_rfl) (by kernel_rfl) (by kernel_rfl) (fun _ _ _ h => h) (Or.inl ⟨by rfl, fun w' hS => by go_simp⟩) hHeld ?_
  simp only [Act.put, List.getElem_toArray, List.getElem_cons_zero, List.getElem_cons_succ, List.setIfInBounds_toArray, List.set_cons_zero, List.set_cons_succ]
  refine wpAnyH_done (by kernel_rfl) ?_ _
  clear hHeld
  go_wp2
  go_ret
  exact ⟨rfl, bstep Hb.out B3⟩

set_option maxHeartbeats 400000 in
theorem tells_timeout (h : Du D R w B m) (hm : m ≤ 2513169434917) (o : Opx) (hk : o.k = 9) : Calls Try.prog 31 #[.pointer (some ⟨D.b, 0, none⟩), .pointer (some ⟨R.b, 0, none⟩), .agg o.cs] w fun e w' => e = .returned (.bool true) ∧ Below w.heap.size w w' := by
  generalize hW : w.alloc (.cells o.cs 58) = W
  have hbW : Below w.heap.size w W := by rw [← hW]; exact balloc (Below.refl _ w)
  have hblk : W.heap[w.heap.size]? = some (.cells o.cs 58 (0, 0)) := by rw [← hW]; exact heap_alloc_new w _
  have y0 : W.cell? ⟨w.heap.size, 0, none⟩ = some (.int .i64 o.k) := blk_cell hblk 0
  have y1 : W.cell? ⟨w.heap.size, 1, none⟩ = some (.int .i64 o.q) := blk_cell hblk 1
  have y2 : W.cell? ⟨w.heap.size, 2, none⟩ = some (.int .i64 o.inc) := blk_cell hblk 2
  have y3 : W.cell? ⟨w.heap.size, 3, none⟩ = some (.int .i64 o.t) := blk_cell hblk 3
  have y4 : W.cell? ⟨w.heap.size, 4, none⟩ = some (.slice o.ha o.hn o.hc) := blk_cell hblk 4
  have hwl := lt_heap hblk
  have hW2 := h.still hbW
  have Hb : Hid (Below w.heap.size w W) := hbW
  obtain ⟨x, hx⟩ : ∃ x, ∀ w', Below W.heap.size W w' → Calls Try.prog 37 #[.pointer (some ⟨D.b, 0, none⟩), .int .i64 o.q] w' (fun e w2 => e = .returned (.int .i64 x) ∧ w' = w2) ∧ Calls Try.prog 38 #[.pointer (some ⟨R.b, 0, none⟩), .int .i64 o.q] w' (fun e w2 => e = .returned (.int .i64 x) ∧ Below w'.heap.size w' w2) := ⟨D.timeout o.q, fun w' hb => ⟨timeout_any (hW2.d.still hb) o.q, by rw [hW2.sim.timeout]; exact rtimeout_any (hW2.r.still hb) (by have := hW2.len; omega) o.q⟩⟩
  have HA : Hid (∀ w', Below W.heap.size W w' → Calls Try.prog 37 #[.pointer (some ⟨D.b, 0, none⟩), .int .i64 o.q] w' (fun e w2 => e = .returned (.int .i64 x) ∧ w' = w2)) := fun w' hb => (hx w' hb).1
  have HB : Hid (∀ w', Below W.heap.size W w' → Calls Try.prog 38 #[.pointer (some ⟨R.b, 0, none⟩), .int .i64 o.q] w' (fun e w2 => e = .returned (.int .i64 x) ∧ Below w'.heap.size w' w2)) := fun w' hb => (hx w' hb).2
  unfold Opx.cs at hW ⊢
  rw [hk] at hW y0 ⊢
  clear h hblk hbW hW2 hx
  go_enter Try.func31, Try.ntmps31
  go_wp2
  refine wp_region_held_drew (S := (fun w' => w'.cell? ⟨w.heap.size, 1, none⟩ = some (.int .i64 o.q))) (by kernel_rfl) (cell_drew y1) (fun hHeld => ?_)
  simp only [Act.put, List.size_toArray, List.length_cons, List.length_nil, Nat.zero_add]
  refine wpAnyH_take (i := 0) (v := .pointer (some ⟨D.b, 0, none⟩)) rfl (by kernel_rfl) (by kernel_rfl) (by kernel_rfl) (fun _ _ _ h => h) (Or.inl ⟨by rfl, fun w' hS => by go_simp⟩) hHeld ?_
  simp only [Act.put, List.getElem_toArray, List.getElem_cons_zero, List.getElem_cons_succ, List.setIfInBounds_toArray, List.set_cons_zero, List.set_cons_succ]
  refine wpAnyH_take (i := 1) (v := .pointer (some ⟨w.heap.size, 1, none⟩)) rfl (by kernel_rfl) (by kernel_rfl) (by kernel_rfl) (fun _ _ _ h => h) (Or.inl ⟨by rfl, fun w' hS => by go_simp⟩) hHeld ?_
  simp only [Act.put, List.getElem_toArray, List.getElem_cons_zero, List.getElem_cons_succ, List.setIfInBounds_toArray, List.set_cons_zero, List.set_cons_succ]
  refine wpAnyH_take (i := 2) (v := .int .i64 o.q) rfl (by kernel_rfl) (by kernel_rfl) (by kernel_rfl) (fun _ _ _ h => h) (Or.inl ⟨by rfl, fun w' hS => by (have s0 := hS; go_simp)⟩) hHeld ?_
  simp only [Act.put, List.getElem_toArray, List.getElem_cons_zero, List.getElem_cons_succ, List.setIfInBounds_toArray, List.set_cons_zero, List.set_cons_succ]
  refine wpAnyH_take (i := 4) (v := .pointer (some ⟨R.b, 0, none⟩)) rfl (by kernel_rfl) (by kernel_rfl) (by kernel_rfl) (fun _ _ _ h => h) (Or.inl ⟨by rfl, fun w' hS => by go_simp⟩) hHeld ?_
  simp only [Act.put, List.getElem_toArray, List.getElem_cons_zero, List.getElem_cons_succ, List.setIfInBounds_toArray, List.set_cons_zero, List.set_cons_succ]
  refine wpAnyH_take (i := 5) (v := .pointer (some ⟨w.heap.size, 1, none⟩)) rfl (by kernel_rfl) (by kernel_rfl) (by kernel_rfl) (fun _ _ _ h => h) (Or.inl ⟨by rfl, fun w' hS => by go_simp⟩) hHeld ?_
  simp only [Act.put, List.getElem_toArray, List.getElem_cons_zero, List.getElem_cons_succ, List.setIfInBounds_toArray, List.set_cons_zero, List.set_cons_succ]
  refine wpAnyH_take (i := 6) (v := .int .i64 o.q) rfl (by kernel_rfl) (by kernel_rfl) (by kernel_rfl) (fun _ _ _ h => h) (Or.inl ⟨by rfl, fun w' hS => by (have s0 := hS; go_simp)⟩) hHeld ?_
  simp only [Act.put, List.getElem_toArray, List.getElem_cons_zero, List.getElem_cons_succ, List.setIfInBounds_toArray, List.set_cons_zero, List.set_cons_succ]
  refine wpAnyH_ready (rs := [3]) (by kernel_rfl) (by simp) ?_
  refine AllReadyH.cons rfl (fun K hK => ?_) AllReadyH.nil
  go_simp
  refine (HA.out _ (Below.refl _ _).drew).mono ?_
  rintro e w2 ⟨rfl, rfl⟩
  refine hK.out _ _ (cell_drew y1) (fun hHeld => ?_)
  clear hK K
  refine wpAnyH_ready (rs := [7]) (by kernel_rfl) (by simp) ?_
  refine AllReadyH.cons rfl (fun K hK => ?_) AllReadyH.nil
  go_simp
  refine (HB.out _ (Below.refl _ _).drew).mono ?_
  rintro e w3 ⟨rfl, hb3⟩
  have B3 : Below W.heap.size W w3 := bstep (Below.refl _ _).drew hb3
  refine hK.out _ _ (below_at B3 y1) (fun hHeld => ?_)
  clear hK K
  refine wpAnyH_take (i := 8) (v := .bool true) rfl (by kernel_rfl) (by kernel_rfl) (by kernel_rfl) (fun _ _ _ h => h) (Or.inl ⟨by rfl, fun w' hS => by go_simp⟩) hHeld ?_
  simp only [Act.put, List.getElem_toArray, List.getElem_cons_zero, List.getElem_cons_succ, List.setIfInBounds_toArray, List.set_cons_zero, List.set_cons_succ]
  refine wpAnyH_take (i := 9) (v := .bool true) rfl (by kernel_rfl) (by kernel_rfl) (by kernel_rfl) (fun _ _ _ h => h) (Or.inl ⟨by rfl, fun w' hS => by go_simp⟩) hHeld ?_
  simp only [Act.put, List.getElem_toArray, List.getElem_cons_zero, List.getElem_cons_succ, List.setIfInBounds_toArray, List.set_cons_zero, List.set_cons_succ]
  refine wpAnyH_done (by kernel_rfl) ?_ _
  clear hHeld
  go_wp2
  go_ret
  exact ⟨rfl, bstep Hb.out B3⟩

set_option maxHeartbeats 400000 in
theorem tells_wrong (h : Du D R w B m) (hm : m ≤ 2513169434917) (o : Opx) (hk : o.k = 10) : Calls Try.prog 31 #[.pointer (some ⟨D.b, 0, none⟩), .pointer (some ⟨R.b, 0, none⟩), .agg o.cs] w fun e w' => e = .returned (.bool true) ∧ Below w.heap.size w w' := by
  generalize hW : w.alloc (.cells o.cs 58) = W
  have hbW : Below w.heap.size w W := by rw [← hW]; exact balloc (Below.refl _ w)
  have hblk : W.heap[w.heap.size]? = some (.cells o.cs 58 (0, 0)) := by rw [← hW]; exact heap_alloc_new w _
  have y0 : W.cell? ⟨w.heap.size, 0, none⟩ = some (.int .i64 o.k) := blk_cell hblk 0
  have y1 : W.cell? ⟨w.heap.size, 1, none⟩ = some (.int .i64 o.q) := blk_cell hblk 1
  have y2 : W.cell? ⟨w.heap.size, 2, none⟩ = some (.int .i64 o.inc) := blk_cell hblk 2
  have y3 : W.cell? ⟨w.heap.size, 3, none⟩ = some (.int .i64 o.t) := blk_cell hblk 3
  have y4 : W.cell? ⟨w.heap.size, 4, none⟩ = some (.slice o.ha o.hn o.hc) := blk_cell hblk 4
  have hwl := lt_heap hblk
  have hW2 := h.still hbW
  have Hb : Hid (Below w.heap.size w W) := hbW
  obtain ⟨x, hx⟩ : ∃ x, ∀ w', Below W.heap.size W w' → Calls Try.prog 39 #[.pointer (some ⟨D.b, 0, none⟩), .int .i64 o.q] w' (fun e w2 => e = .returned (.int .i64 x) ∧ w' = w2) ∧ Calls Try.prog 40 #[.pointer (some ⟨R.b, 0, none⟩), .int .i64 o.q] w' (fun e w2 => e = .returned (.int .i64 x) ∧ Below w'.heap.size w' w2) := ⟨D.wrong o.q, fun w' hb => ⟨wrong_any (hW2.d.still hb) o.q, by rw [hW2.sim.wrong]; exact rwrong_any (hW2.r.still hb) (by have := hW2.len; omega) o.q⟩⟩
  have HA : Hid (∀ w', Below W.heap.size W w' → Calls Try.prog 39 #[.pointer (some ⟨D.b, 0, none⟩), .int .i64 o.q] w' (fun e w2 => e = .returned (.int .i64 x) ∧ w' = w2)) := fun w' hb => (hx w' hb).1
  have HB : Hid (∀ w', Below W.heap.size W w' → Calls Try.prog 40 #[.pointer (some ⟨R.b, 0, none⟩), .int .i64 o.q] w' (fun e w2 => e = .returned (.int .i64 x) ∧ Below w'.heap.size w' w2)) := fun w' hb => (hx w' hb).2
  unfold Opx.cs at hW ⊢
  rw [hk] at hW y0 ⊢
  clear h hblk hbW hW2 hx
  go_enter Try.func31, Try.ntmps31
  go_wp2
  refine wp_region_held_drew (S := (fun w' => w'.cell? ⟨w.heap.size, 1, none⟩ = some (.int .i64 o.q))) (by kernel_rfl) (cell_drew y1) (fun hHeld => ?_)
  simp only [Act.put, List.size_toArray, List.length_cons, List.length_nil, Nat.zero_add]
  refine wpAnyH_take (i := 0) (v := .pointer (some ⟨D.b, 0, none⟩)) rfl (by kernel_rfl) (by kernel_rfl) (by kernel_rfl) (fun _ _ _ h => h) (Or.inl ⟨by rfl, fun w' hS => by go_simp⟩) hHeld ?_
  simp only [Act.put, List.getElem_toArray, List.getElem_cons_zero, List.getElem_cons_succ, List.setIfInBounds_toArray, List.set_cons_zero, List.set_cons_succ]
  refine wpAnyH_take (i := 1) (v := .pointer (some ⟨w.heap.size, 1, none⟩)) rfl (by kernel_rfl) (by kernel_rfl) (by kernel_rfl) (fun _ _ _ h => h) (Or.inl ⟨by rfl, fun w' hS => by go_simp⟩) hHeld ?_
  simp only [Act.put, List.getElem_toArray, List.getElem_cons_zero, List.getElem_cons_succ, List.setIfInBounds_toArray, List.set_cons_zero, List.set_cons_succ]
  refine wpAnyH_take (i := 2) (v := .int .i64 o.q) rfl (by kernel_rfl) (by kernel_rfl) (by kernel_rfl) (fun _ _ _ h => h) (Or.inl ⟨by rfl, fun w' hS => by (have s0 := hS; go_simp)⟩) hHeld ?_
  simp only [Act.put, List.getElem_toArray, List.getElem_cons_zero, List.getElem_cons_succ, List.setIfInBounds_toArray, List.set_cons_zero, List.set_cons_succ]
  refine wpAnyH_take (i := 4) (v := .pointer (some ⟨R.b, 0, none⟩)) rfl (by kernel_rfl) (by kernel_rfl) (by kernel_rfl) (fun _ _ _ h => h) (Or.inl ⟨by rfl, fun w' hS => by go_simp⟩) hHeld ?_
  simp only [Act.put, List.getElem_toArray, List.getElem_cons_zero, List.getElem_cons_succ, List.setIfInBounds_toArray, List.set_cons_zero, List.set_cons_succ]
  refine wpAnyH_take (i := 5) (v := .pointer (some ⟨w.heap.size, 1, none⟩)) rfl (by kernel_rfl) (by kernel_rfl) (by kernel_rfl) (fun _ _ _ h => h) (Or.inl ⟨by rfl, fun w' hS => by go_simp⟩) hHeld ?_
  simp only [Act.put, List.getElem_toArray, List.getElem_cons_zero, List.getElem_cons_succ, List.setIfInBounds_toArray, List.set_cons_zero, List.set_cons_succ]
  refine wpAnyH_take (i := 6) (v := .int .i64 o.q) rfl (by kernel_rfl) (by kernel_rfl) (by kernel_rfl) (fun _ _ _ h => h) (Or.inl ⟨by rfl, fun w' hS => by (have s0 := hS; go_simp)⟩) hHeld ?_
  simp only [Act.put, List.getElem_toArray, List.getElem_cons_zero, List.getElem_cons_succ, List.setIfInBounds_toArray, List.set_cons_zero, List.set_cons_succ]
  refine wpAnyH_ready (rs := [3]) (by kernel_rfl) (by simp) ?_
  refine AllReadyH.cons rfl (fun K hK => ?_) AllReadyH.nil
  go_simp
  refine (HA.out _ (Below.refl _ _).drew).mono ?_
  rintro e w2 ⟨rfl, rfl⟩
  refine hK.out _ _ (cell_drew y1) (fun hHeld => ?_)
  clear hK K
  refine wpAnyH_ready (rs := [7]) (by kernel_rfl) (by simp) ?_
  refine AllReadyH.cons rfl (fun K hK => ?_) AllReadyH.nil
  go_simp
  refine (HB.out _ (Below.refl _ _).drew).mono ?_
  rintro e w3 ⟨rfl, hb3⟩
  have B3 : Below W.heap.size W w3 := bstep (Below.refl _ _).drew hb3
  refine hK.out _ _ (below_at B3 y1) (fun hHeld => ?_)
  clear hK K
  refine wpAnyH_take (i := 8) (v := .bool true) rfl (by kernel_rfl) (by kernel_rfl) (by kernel_rfl) (fun _ _ _ h => h) (Or.inl ⟨by rfl, fun w' hS => by go_simp⟩) hHeld ?_
  simp only [Act.put, List.getElem_toArray, List.getElem_cons_zero, List.getElem_cons_succ, List.setIfInBounds_toArray, List.set_cons_zero, List.set_cons_succ]
  refine wpAnyH_take (i := 9) (v := .bool true) rfl (by kernel_rfl) (by kernel_rfl) (by kernel_rfl) (fun _ _ _ h => h) (Or.inl ⟨by rfl, fun w' hS => by go_simp⟩) hHeld ?_
  simp only [Act.put, List.getElem_toArray, List.getElem_cons_zero, List.getElem_cons_succ, List.setIfInBounds_toArray, List.set_cons_zero, List.set_cons_succ]
  refine wpAnyH_done (by kernel_rfl) ?_ _
  clear hHeld
  go_wp2
  go_ret
  exact ⟨rfl, bstep Hb.out B3⟩

set_option maxHeartbeats 400000 in
theorem tells_any (h : Du D R w B m) (hm : m ≤ 2513169434917) (o : Opx) : Calls Try.prog 31 #[.pointer (some ⟨D.b, 0, none⟩), .pointer (some ⟨R.b, 0, none⟩), .agg o.cs] w fun e w' => e = .returned (.bool true) ∧ Below w.heap.size w w' := by
  by_cases h8 : o.k = 8
  · exact tells_known h hm o h8
  · by_cases h9 : o.k = 9
    · exact tells_timeout h hm o h9
    · by_cases h10 : o.k = 10
      · exact tells_wrong h hm o h10
      · have t8 : (o.k == 8) = false := by simp [h8]
        have t9 : (o.k == 9) = false := by simp [h9]
        have t10 : (o.k == 10) = false := by simp [h10]
        generalize hW : w.alloc (.cells o.cs 58) = W
        have hbW : Below w.heap.size w W := by rw [← hW]; exact balloc (Below.refl _ w)
        have hblk : W.heap[w.heap.size]? = some (.cells o.cs 58 (0, 0)) := by rw [← hW]; exact heap_alloc_new w _
        have y0 : W.cell? ⟨w.heap.size, 0, none⟩ = some (.int .i64 o.k) := blk_cell hblk 0
        have y1 : W.cell? ⟨w.heap.size, 1, none⟩ = some (.int .i64 o.q) := blk_cell hblk 1
        have y2 : W.cell? ⟨w.heap.size, 2, none⟩ = some (.int .i64 o.inc) := blk_cell hblk 2
        have y3 : W.cell? ⟨w.heap.size, 3, none⟩ = some (.int .i64 o.t) := blk_cell hblk 3
        have y4 : W.cell? ⟨w.heap.size, 4, none⟩ = some (.slice o.ha o.hn o.hc) := blk_cell hblk 4
        have hwl := lt_heap hblk
        have hW2 := h.still hbW
        have Hb : Hid (Below w.heap.size w W) := hbW
        have HL := list_any hW2 hm o.k
        unfold Opx.cs at hW ⊢
        clear h hblk hbW hW2 h8 h9 h10
        go_enter Try.func31, Try.ntmps31
        go_wp2_with (fail)
        refine HL.mono ?_
        rintro e w2 ⟨v1, v2, rfl, h12, hb2⟩
        have HS := same_two h12
        have B2 : Hid (Below W.heap.size W w2) := hb2
        clear h12 hb2
        go_wp2_with (first | (go_at_call 33; refine HS.mono ?_; rintro e w3 ⟨rfl, hb3⟩) | fail)
        go_ret
        exact ⟨rfl, bstep (bstep Hb.out B2.out) hb3⟩
set_option maxHeartbeats 1000000 in
theorem all_any (h : Du D R w B m) (hm : m ≤ 2513169434917) (n : Nat) (hn : n ≤ 16) : Calls Try.prog 18 #[.pointer (some ⟨D.b, 0, none⟩), .pointer (some ⟨R.b, 0, none⟩), .int .i64 (n : Int)] w fun e w' => e = .returned (.bool true) ∧ Below w.heap.size w w' := by
  have Hh : Hid (Du D R w B m) := h
  clear h
  go_enter Try.func18, Try.ntmps18
  go_wp2
  go_loopw [7] (fun v7 wr => ∃ (k : Nat), k ≤ 4 ∧ v7 = .int .i64 ((k : Int) + 4) ∧ Below w.heap.size w wr) (fun v7 _ => 9 - (intOf v7).toNat)
  case atStart => exact ⟨0, by omega, rfl, Below.refl _ _⟩
  case round =>
    obtain ⟨k, hk, rfl, hb⟩ := hrel
    by_cases hlt : k < 4
    · have HL := list_any (Hh.out.still hb) hm ((k : Int) + 4)
      have i2 : (k : Int) + 4 ≤ 7 := by omega
      have hwk : IntKind.i64.wrap ((k : Int) + 4 + 1) = (k : Int) + 4 + 1 := wrap_id (by omega) (by omega)
      have HB : Hid (Below w.heap.size w wr) := hb
      clear hb
      go_wp2_with (fail)
      refine HL.mono ?_
      rintro e w2 ⟨v1, v2, rfl, h12, hb2⟩
      have HS := same_two h12
      have B2 : Hid (Below w.heap.size w w2) := bstep HB.out hb2
      clear h12 hb2 HL
      go_wp2_with (first | (go_at_call 33; refine HS.mono ?_; rintro e w3 ⟨rfl, hb3⟩) | fail)
      exact ⟨⟨k + 1, by omega, by (congr 1 <;> omega), bstep B2.out hb3⟩, by simp [intOf]; omega⟩
    · have i2 : decide ((k : Int) + 4 ≤ 7) = false := decide_eq_false (by omega)
      have HB : Hid (Below w.heap.size w wr) := hb
      clear hb
      go_wp2
      go_loopw [10] (fun v10 wr => ∃ (k : Nat), k ≤ n + 2 ∧ v10 = .int .i64 ((k : Int) - 1) ∧ Below w.heap.size w wr) (fun v10 _ => n + 3 - ((intOf v10) + 1).toNat)
      case atStart => exact ⟨0, by omega, rfl, HB.out⟩
      case round =>
        obtain ⟨j, hj, rfl, hb⟩ := hrel
        by_cases hlj : j < n + 2
        · obtain ⟨x, hx1, hx2⟩ := ask_known (Hh.out.still hb) hm ((j : Int) - 1)
          have HB2 : Hid (Below w.heap.size w wr) := hb
          have i3 : (j : Int) - 1 ≤ (n : Int) := by omega
          have hwj : IntKind.i64.wrap ((j : Int) - 1 + 1) = (j : Int) - 1 + 1 := wrap_id (by omega) (by omega)
          clear hb
          go_wp2_with (fail)
          refine hx1.mono ?_
          rintro e w2 ⟨rfl, rfl⟩
          go_wp2_with (fail)
          refine hx2.mono ?_
          rintro e w2 ⟨rfl, hb2⟩
          have B2 : Hid (Below w.heap.size w w2) := bstep HB2.out hb2
          obtain ⟨y, hy1, hy2⟩ := ask_timeout (Hh.out.still B2.out) hm ((j : Int) - 1)
          clear hb2 hx1 hx2
          go_wp2_with (fail)
          refine hy1.mono ?_
          rintro e w3 ⟨rfl, rfl⟩
          go_wp2_with (fail)
          refine hy2.mono ?_
          rintro e w3 ⟨rfl, hb3⟩
          have B3 : Hid (Below w.heap.size w w3) := bstep B2.out hb3
          obtain ⟨z, hz1, hz2⟩ := ask_wrong (Hh.out.still B3.out) hm ((j : Int) - 1)
          clear hb3 hy1 hy2
          go_wp2_with (fail)
          refine hz1.mono ?_
          rintro e w4 ⟨rfl, rfl⟩
          go_wp2_with (fail)
          refine hz2.mono ?_
          rintro e w4 ⟨rfl, hb4⟩
          have B4 : Hid (Below w.heap.size w w4) := bstep B3.out hb4
          clear hb4 hz1 hz2
          go_wp2
          exact ⟨⟨j + 1, by omega, by (congr 1 <;> omega), B4.out⟩, by simp [intOf]; omega⟩
        · have i3 : decide ((j : Int) - 1 ≤ (n : Int)) = false := decide_eq_false (by omega)
          go_wp2
          go_ret
          exact ⟨rfl, hb⟩
end
end Go.Proofs.Ytfbollifegngjaa.Dt
