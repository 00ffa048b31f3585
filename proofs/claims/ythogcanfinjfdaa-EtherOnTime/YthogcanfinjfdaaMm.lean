import Derived.Test.YthogcanfinjfdaaMl
namespace Go.Proofs.Ythogcanfinjfdaa.Et
open Go.RowKit Go.Maps
set_option linter.unusedVariables false
set_option linter.unusedSimpArgs false
set_option maxRecDepth 100000
section
variable {E E' : En} {R R' : Rn} {w w' w1 w2 w3 : World} {B K m : Nat}

set_option maxHeartbeats 400000 in
theorem packets_open (h : Duo E R w B K) (o : Opx) (hk : o.k = 8) : Calls Try.prog 57 #[.pointer (some ⟨E.b, 0, none⟩), .pointer (some ⟨R.b, 0, none⟩), .agg o.cs] w fun e w' => e = .returned (.bool true) ∧ ∃ E' R', Dtep w w' E E' R R' B K := by
  generalize hW : w.alloc (.cells o.cs 33) = W
  have hbW : Below w.heap.size w W := by rw [← hW]; exact balloc (Below.refl _ w)
  have hblk : W.heap[w.heap.size]? = some (.cells o.cs 33 (0, 0)) := by rw [← hW]; exact heap_alloc_new w _
  have hWs : w.heap.size < W.heap.size := lt_heap hblk
  obtain ⟨d0, d1, d2, d3, d4, d5⟩ := op_cells hblk
  have Hb : Hid (Below w.heap.size w W) := hbW
  have Hblk : Hid (W.heap[w.heap.size]? = some (.cells o.cs 33 (0, 0))) := hblk
  have Hd : Hid (Duo E R w B K) := h
  have HnE : Hid (¬ E.own w.heap.size) := fun e => by have := h.e.ltOwn e; omega
  have HnR : Hid (¬ R.own w.heap.size) := fun e => by have := h.r.ltOwn e; omega
  have HA : Hid (∀ w', Below W.heap.size W w' → Calls Try.prog 48 #[.pointer (some ⟨E.b, 0, none⟩), .int .i64 o.p, .int .i64 o.q] w' fun e w2 => e = .returned (.bool (isP E o.p o.q && !E.cut o.p.toNat o.q.toNat)) ∧ Below w'.heap.size w' w2) := fun w' hb => open_any ((Hd.out.still Hb.out).still hb).e o.p o.q
  have HB : Hid (∀ w', Below W.heap.size W w' → Calls Try.prog 79 #[.pointer (some ⟨R.b, 0, none⟩), .int .i64 o.p, .int .i64 o.q] w' fun e w2 => e = .returned (.bool (isP E o.p o.q && !E.cut o.p.toNat o.q.toNat)) ∧ Below w'.heap.size w' w2) := fun w' hb => by
    have := calls_same (ropen_any ((Hd.out.still Hb.out).still hb).r o.p o.q)
    rw [Hd.out.s.openq] at this
    exact this
  have H1 : Hid (∀ w', Below W.heap.size W w' → w'.cell? ⟨w.heap.size, 1, none⟩ = some (.int .i64 o.p)) := fun w' hb => below_at hb d1
  have H2 : Hid (∀ w', Below W.heap.size W w' → w'.cell? ⟨w.heap.size, 2, none⟩ = some (.int .i64 o.q)) := fun w' hb => below_at hb d2
  generalize (isP E o.p o.q && !E.cut o.p.toNat o.q.toNat) = xx at HA HB
  unfold Opx.cs at hW ⊢
  rw [hk] at hW d0 ⊢
  clear h hbW hblk
  go_enter Try.func57, Try.ntmps57
  go_wp2
  refine wp_region_held_drew (S := fun w' => Below W.heap.size W w') (by kernel_rfl) (Below.refl _ W).drew (fun hHeld => ?_)
  simp only [Act.put, List.size_toArray, List.length_cons, List.length_nil, Nat.zero_add]
  refine wpAnyH_take (i := 0) (v := .pointer (some ⟨E.b, 0, none⟩)) rfl (by kernel_rfl) (by kernel_rfl) (by kernel_rfl) (fun _ _ _ h => h) (Or.inl ⟨by rfl, fun w' hS => by go_simp⟩) hHeld ?_
  simp only [Act.put, List.getElem_toArray, List.getElem_cons_zero, List.getElem_cons_succ, List.setIfInBounds_toArray, List.set_cons_zero, List.set_cons_succ]
  refine wpAnyH_take (i := 1) (v := .pointer (some ⟨w.heap.size, 1, none⟩)) rfl (by kernel_rfl) (by kernel_rfl) (by kernel_rfl) (fun _ _ _ h => h) (Or.inl ⟨by rfl, fun w' hS => by go_simp⟩) hHeld ?_
  simp only [Act.put, List.getElem_toArray, List.getElem_cons_zero, List.getElem_cons_succ, List.setIfInBounds_toArray, List.set_cons_zero, List.set_cons_succ]
  refine wpAnyH_take (i := 2) (v := .int .i64 o.p) rfl (by kernel_rfl) (by kernel_rfl) (by kernel_rfl) (fun _ _ _ h => h) (Or.inl ⟨by rfl, fun w' hS => by (have hq := H1.out w' hS; go_simp)⟩) hHeld ?_
  simp only [Act.put, List.getElem_toArray, List.getElem_cons_zero, List.getElem_cons_succ, List.setIfInBounds_toArray, List.set_cons_zero, List.set_cons_succ]
  refine wpAnyH_take (i := 3) (v := .pointer (some ⟨w.heap.size, 2, none⟩)) rfl (by kernel_rfl) (by kernel_rfl) (by kernel_rfl) (fun _ _ _ h => h) (Or.inl ⟨by rfl, fun w' hS => by go_simp⟩) hHeld ?_
  simp only [Act.put, List.getElem_toArray, List.getElem_cons_zero, List.getElem_cons_succ, List.setIfInBounds_toArray, List.set_cons_zero, List.set_cons_succ]
  refine wpAnyH_take (i := 4) (v := .int .i64 o.q) rfl (by kernel_rfl) (by kernel_rfl) (by kernel_rfl) (fun _ _ _ h => h) (Or.inl ⟨by rfl, fun w' hS => by (have hq := H2.out w' hS; go_simp)⟩) hHeld ?_
  simp only [Act.put, List.getElem_toArray, List.getElem_cons_zero, List.getElem_cons_succ, List.setIfInBounds_toArray, List.set_cons_zero, List.set_cons_succ]
  refine wpAnyH_take (i := 6) (v := .pointer (some ⟨R.b, 0, none⟩)) rfl (by kernel_rfl) (by kernel_rfl) (by kernel_rfl) (fun _ _ _ h => h) (Or.inl ⟨by rfl, fun w' hS => by go_simp⟩) hHeld ?_
  simp only [Act.put, List.getElem_toArray, List.getElem_cons_zero, List.getElem_cons_succ, List.setIfInBounds_toArray, List.set_cons_zero, List.set_cons_succ]
  refine wpAnyH_take (i := 7) (v := .pointer (some ⟨w.heap.size, 1, none⟩)) rfl (by kernel_rfl) (by kernel_rfl) (by kernel_rfl) (fun _ _ _ h => h) (Or.inl ⟨by rfl, fun w' hS => by go_simp⟩) hHeld ?_
  simp only [Act.put, List.getElem_toArray, List.getElem_cons_zero, List.getElem_cons_succ, List.setIfInBounds_toArray, List.set_cons_zero, List.set_cons_succ]
  refine wpAnyH_take (i := 8) (v := .int .i64 o.p) rfl (by kernel_rfl) (by kernel_rfl) (by kernel_rfl) (fun _ _ _ h => h) (Or.inl ⟨by rfl, fun w' hS => by (have hq := H1.out w' hS; go_simp)⟩) hHeld ?_
  simp only [Act.put, List.getElem_toArray, List.getElem_cons_zero, List.getElem_cons_succ, List.setIfInBounds_toArray, List.set_cons_zero, List.set_cons_succ]
  refine wpAnyH_take (i := 9) (v := .pointer (some ⟨w.heap.size, 2, none⟩)) rfl (by kernel_rfl) (by kernel_rfl) (by kernel_rfl) (fun _ _ _ h => h) (Or.inl ⟨by rfl, fun w' hS => by go_simp⟩) hHeld ?_
  simp only [Act.put, List.getElem_toArray, List.getElem_cons_zero, List.getElem_cons_succ, List.setIfInBounds_toArray, List.set_cons_zero, List.set_cons_succ]
  refine wpAnyH_take (i := 10) (v := .int .i64 o.q) rfl (by kernel_rfl) (by kernel_rfl) (by kernel_rfl) (fun _ _ _ h => h) (Or.inl ⟨by rfl, fun w' hS => by (have hq := H2.out w' hS; go_simp)⟩) hHeld ?_
  simp only [Act.put, List.getElem_toArray, List.getElem_cons_zero, List.getElem_cons_succ, List.setIfInBounds_toArray, List.set_cons_zero, List.set_cons_succ]
  refine wpAnyH_ready (rs := [5]) (by kernel_rfl) (by simp) ?_
  refine AllReadyH.cons rfl (fun K hK => ?_) AllReadyH.nil
  · go_simp
    refine (HA.out _ hHeld).mono ?_
    rintro e w1 ⟨rfl, hb1⟩
    refine hK.out _ _ (bstep hHeld hb1) (fun hHeld => ?_)
    clear hK K
    refine wpAnyH_ready (rs := [11]) (by kernel_rfl) (by simp) ?_
    refine AllReadyH.cons rfl (fun K hK => ?_) AllReadyH.nil
    go_simp
    refine (HB.out _ hHeld).mono ?_
    rintro e w2 ⟨rfl, hb2⟩
    refine hK.out _ _ (bstep hHeld hb2) (fun hHeld => ?_)
    clear hK K
    refine wpAnyH_take (i := 12) (v := .bool true) rfl (by kernel_rfl) (by kernel_rfl) (by kernel_rfl) (fun _ _ _ h => h) (Or.inl ⟨by rfl, fun w' hS => by go_simp⟩) hHeld ?_
    simp only [Act.put, List.getElem_toArray, List.getElem_cons_zero, List.getElem_cons_succ, List.setIfInBounds_toArray, List.set_cons_zero, List.set_cons_succ]
    refine wpAnyH_ready (rs := [13]) (by kernel_rfl) (by simp) ?_
    refine AllReadyH.cons rfl (fun K hK => ?_) AllReadyH.nil
    go_simp
    have hF := hHeld
    refine hK.out _ _ hHeld (fun hHeld => ?_)
    clear hK K
    refine wpAnyH_done (by kernel_rfl) ?_ _
    go_wp2
    go_ret
    exact ⟨rfl, _, _, Hd.out.none (bstep Hb.out hF)⟩

set_option maxHeartbeats 400000 in
theorem packets_delay (h : Duo E R w B K) (o : Opx) (hk : o.k = 9) : Calls Try.prog 57 #[.pointer (some ⟨E.b, 0, none⟩), .pointer (some ⟨R.b, 0, none⟩), .agg o.cs] w fun e w' => e = .returned (.bool true) ∧ ∃ E' R', Dtep w w' E E' R R' B K := by
  generalize hW : w.alloc (.cells o.cs 33) = W
  have hbW : Below w.heap.size w W := by rw [← hW]; exact balloc (Below.refl _ w)
  have hblk : W.heap[w.heap.size]? = some (.cells o.cs 33 (0, 0)) := by rw [← hW]; exact heap_alloc_new w _
  have hWs : w.heap.size < W.heap.size := lt_heap hblk
  obtain ⟨d0, d1, d2, d3, d4, d5⟩ := op_cells hblk
  have Hb : Hid (Below w.heap.size w W) := hbW
  have Hblk : Hid (W.heap[w.heap.size]? = some (.cells o.cs 33 (0, 0))) := hblk
  have Hd : Hid (Duo E R w B K) := h
  have HnE : Hid (¬ E.own w.heap.size) := fun e => by have := h.e.ltOwn e; omega
  have HnR : Hid (¬ R.own w.heap.size) := fun e => by have := h.r.ltOwn e; omega
  have HA : Hid (∀ w', Below W.heap.size W w' → Calls Try.prog 52 #[.pointer (some ⟨E.b, 0, none⟩), .int .i64 o.p, .int .i64 o.q] w' fun e w2 => e = .returned (.int .i64 (if isP E o.p o.q then E.dl o.p.toNat o.q.toNat else 0)) ∧ Below w'.heap.size w' w2) := fun w' hb => delayOf_any ((Hd.out.still Hb.out).still hb).e o.p o.q
  have HB : Hid (∀ w', Below W.heap.size W w' → Calls Try.prog 80 #[.pointer (some ⟨R.b, 0, none⟩), .int .i64 o.p, .int .i64 o.q] w' fun e w2 => e = .returned (.int .i64 (if isP E o.p o.q then E.dl o.p.toNat o.q.toNat else 0)) ∧ Below w'.heap.size w' w2) := fun w' hb => by
    have := calls_same (rdelay_any ((Hd.out.still Hb.out).still hb).r o.p o.q)
    rw [Hd.out.s.delayq] at this
    exact this
  have H1 : Hid (∀ w', Below W.heap.size W w' → w'.cell? ⟨w.heap.size, 1, none⟩ = some (.int .i64 o.p)) := fun w' hb => below_at hb d1
  have H2 : Hid (∀ w', Below W.heap.size W w' → w'.cell? ⟨w.heap.size, 2, none⟩ = some (.int .i64 o.q)) := fun w' hb => below_at hb d2
  generalize (if isP E o.p o.q then E.dl o.p.toNat o.q.toNat else 0) = xx at HA HB
  unfold Opx.cs at hW ⊢
  rw [hk] at hW d0 ⊢
  clear h hbW hblk
  go_enter Try.func57, Try.ntmps57
  go_wp2
  refine wp_region_held_drew (S := fun w' => Below W.heap.size W w') (by kernel_rfl) (Below.refl _ W).drew (fun hHeld => ?_)
  simp only [Act.put, List.size_toArray, List.length_cons, List.length_nil, Nat.zero_add]
  refine wpAnyH_take (i := 0) (v := .pointer (some ⟨E.b, 0, none⟩)) rfl (by kernel_rfl) (by kernel_rfl) (by kernel_rfl) (fun _ _ _ h => h) (Or.inl ⟨by rfl, fun w' hS => by go_simp⟩) hHeld ?_
  simp only [Act.put, List.getElem_toArray, List.getElem_cons_zero, List.getElem_cons_succ, List.setIfInBounds_toArray, List.set_cons_zero, List.set_cons_succ]
  refine wpAnyH_take (i := 1) (v := .pointer (some ⟨w.heap.size, 1, none⟩)) rfl (by kernel_rfl) (by kernel_rfl) (by kernel_rfl) (fun _ _ _ h => h) (Or.inl ⟨by rfl, fun w' hS => by go_simp⟩) hHeld ?_
  simp only [Act.put, List.getElem_toArray, List.getElem_cons_zero, List.getElem_cons_succ, List.setIfInBounds_toArray, List.set_cons_zero, List.set_cons_succ]
  refine wpAnyH_take (i := 2) (v := .int .i64 o.p) rfl (by kernel_rfl) (by kernel_rfl) (by kernel_rfl) (fun _ _ _ h => h) (Or.inl ⟨by rfl, fun w' hS => by (have hq := H1.out w' hS; go_simp)⟩) hHeld ?_
  simp only [Act.put, List.getElem_toArray, List.getElem_cons_zero, List.getElem_cons_succ, List.setIfInBounds_toArray, List.set_cons_zero, List.set_cons_succ]
  refine wpAnyH_take (i := 3) (v := .pointer (some ⟨w.heap.size, 2, none⟩)) rfl (by kernel_rfl) (by kernel_rfl) (by kernel_rfl) (fun _ _ _ h => h) (Or.inl ⟨by rfl, fun w' hS => by go_simp⟩) hHeld ?_
  simp only [Act.put, List.getElem_toArray, List.getElem_cons_zero, List.getElem_cons_succ, List.setIfInBounds_toArray, List.set_cons_zero, List.set_cons_succ]
  refine wpAnyH_take (i := 4) (v := .int .i64 o.q) rfl (by kernel_rfl) (by kernel_rfl) (by kernel_rfl) (fun _ _ _ h => h) (Or.inl ⟨by rfl, fun w' hS => by (have hq := H2.out w' hS; go_simp)⟩) hHeld ?_
  simp only [Act.put, List.getElem_toArray, List.getElem_cons_zero, List.getElem_cons_succ, List.setIfInBounds_toArray, List.set_cons_zero, List.set_cons_succ]
  refine wpAnyH_take (i := 6) (v := .pointer (some ⟨R.b, 0, none⟩)) rfl (by kernel_rfl) (by kernel_rfl) (by kernel_rfl) (fun _ _ _ h => h) (Or.inl ⟨by rfl, fun w' hS => by go_simp⟩) hHeld ?_
  simp only [Act.put, List.getElem_toArray, List.getElem_cons_zero, List.getElem_cons_succ, List.setIfInBounds_toArray, List.set_cons_zero, List.set_cons_succ]
  refine wpAnyH_take (i := 7) (v := .pointer (some ⟨w.heap.size, 1, none⟩)) rfl (by kernel_rfl) (by kernel_rfl) (by kernel_rfl) (fun _ _ _ h => h) (Or.inl ⟨by rfl, fun w' hS => by go_simp⟩) hHeld ?_
  simp only [Act.put, List.getElem_toArray, List.getElem_cons_zero, List.getElem_cons_succ, List.setIfInBounds_toArray, List.set_cons_zero, List.set_cons_succ]
  refine wpAnyH_take (i := 8) (v := .int .i64 o.p) rfl (by kernel_rfl) (by kernel_rfl) (by kernel_rfl) (fun _ _ _ h => h) (Or.inl ⟨by rfl, fun w' hS => by (have hq := H1.out w' hS; go_simp)⟩) hHeld ?_
  simp only [Act.put, List.getElem_toArray, List.getElem_cons_zero, List.getElem_cons_succ, List.setIfInBounds_toArray, List.set_cons_zero, List.set_cons_succ]
  refine wpAnyH_take (i := 9) (v := .pointer (some ⟨w.heap.size, 2, none⟩)) rfl (by kernel_rfl) (by kernel_rfl) (by kernel_rfl) (fun _ _ _ h => h) (Or.inl ⟨by rfl, fun w' hS => by go_simp⟩) hHeld ?_
  simp only [Act.put, List.getElem_toArray, List.getElem_cons_zero, List.getElem_cons_succ, List.setIfInBounds_toArray, List.set_cons_zero, List.set_cons_succ]
  refine wpAnyH_take (i := 10) (v := .int .i64 o.q) rfl (by kernel_rfl) (by kernel_rfl) (by kernel_rfl) (fun _ _ _ h => h) (Or.inl ⟨by rfl, fun w' hS => by (have hq := H2.out w' hS; go_simp)⟩) hHeld ?_
  simp only [Act.put, List.getElem_toArray, List.getElem_cons_zero, List.getElem_cons_succ, List.setIfInBounds_toArray, List.set_cons_zero, List.set_cons_succ]
  refine wpAnyH_ready (rs := [5]) (by kernel_rfl) (by simp) ?_
  refine AllReadyH.cons rfl (fun K hK => ?_) AllReadyH.nil
  · go_simp
    refine (HA.out _ hHeld).mono ?_
    rintro e w1 ⟨rfl, hb1⟩
    refine hK.out _ _ (bstep hHeld hb1) (fun hHeld => ?_)
    clear hK K
    refine wpAnyH_ready (rs := [11]) (by kernel_rfl) (by simp) ?_
    refine AllReadyH.cons rfl (fun K hK => ?_) AllReadyH.nil
    go_simp
    refine (HB.out _ hHeld).mono ?_
    rintro e w2 ⟨rfl, hb2⟩
    refine hK.out _ _ (bstep hHeld hb2) (fun hHeld => ?_)
    clear hK K
    refine wpAnyH_take (i := 12) (v := .bool true) rfl (by kernel_rfl) (by kernel_rfl) (by kernel_rfl) (fun _ _ _ h => h) (Or.inl ⟨by rfl, fun w' hS => by go_simp⟩) hHeld ?_
    simp only [Act.put, List.getElem_toArray, List.getElem_cons_zero, List.getElem_cons_succ, List.setIfInBounds_toArray, List.set_cons_zero, List.set_cons_succ]
    refine wpAnyH_ready (rs := [13]) (by kernel_rfl) (by simp) ?_
    refine AllReadyH.cons rfl (fun K hK => ?_) AllReadyH.nil
    go_simp
    have hF := hHeld
    refine hK.out _ _ hHeld (fun hHeld => ?_)
    clear hK K
    refine wpAnyH_done (by kernel_rfl) ?_ _
    go_wp2
    go_ret
    exact ⟨rfl, _, _, Hd.out.none (bstep Hb.out hF)⟩

set_option maxHeartbeats 400000 in
theorem packets_round (h : Duo E R w B K) (hK : K ≤ 2199023255551) (o : Opx) (hk : o.k = 11) : Calls Try.prog 57 #[.pointer (some ⟨E.b, 0, none⟩), .pointer (some ⟨R.b, 0, none⟩), .agg o.cs] w fun e w' => e = .returned (.bool true) ∧ ∃ E' R', Dtep w w' E E' R R' B K := by
  generalize hW : w.alloc (.cells o.cs 33) = W
  have hbW : Below w.heap.size w W := by rw [← hW]; exact balloc (Below.refl _ w)
  have hblk : W.heap[w.heap.size]? = some (.cells o.cs 33 (0, 0)) := by rw [← hW]; exact heap_alloc_new w _
  have hWs : w.heap.size < W.heap.size := lt_heap hblk
  obtain ⟨d0, d1, d2, d3, d4, d5⟩ := op_cells hblk
  have Hb : Hid (Below w.heap.size w W) := hbW
  have Hblk : Hid (W.heap[w.heap.size]? = some (.cells o.cs 33 (0, 0))) := hblk
  have Hd : Hid (Duo E R w B K) := h
  have HnE : Hid (¬ E.own w.heap.size) := fun e => by have := h.e.ltOwn e; omega
  have HnR : Hid (¬ R.own w.heap.size) := fun e => by have := h.r.ltOwn e; omega
  have HP : Hid (∀ w', Below w.heap.size w w' → Calls Try.prog 15 #[.pointer (some ⟨E.b, 0, none⟩)] w' fun e w1 => ∃ a n c, e = .returned (.slice a n c) ∧ n ≤ 2199023255552 ∧ ∀ w2, Below w1.heap.size w1 w2 → Calls Try.prog 83 #[.pointer (some ⟨R.b, 0, none⟩)] w2 fun e w3 => ∃ a' n' c', e = .returned (.slice a' n' c') ∧ (∃ ds, RdF w3 a n ds ∧ RdF w3 a' n' ds) ∧ ∃ E' R', Dtep w' w3 E E' R R' B K) := pair_round h hK
  unfold Opx.cs at hW ⊢
  rw [hk] at hW d0 ⊢
  clear h hbW hblk
  go_enter Try.func57, Try.ntmps57
  go_wp2_with (first
    | (go_at_call 15; refine (HP.out _ Hb.out).mono ?_; rintro e w1 ⟨a1, n1, c1, rfl, hn1, hr1⟩; have HR : Hid (∀ w2, Below w1.heap.size w1 w2 → Calls Try.prog 83 #[.pointer (some ⟨R.b, 0, none⟩)] w2 fun e w3 => ∃ a' n' c', e = .returned (.slice a' n' c') ∧ (∃ ds, RdF w3 a1 n1 ds ∧ RdF w3 a' n' ds) ∧ ∃ E' R', Dtep W w3 E E' R R' B K) := hr1; clear hr1)
    | (go_at_call 83; refine (HR.out _ (Below.refl _ _)).mono ?_; rintro e w3 ⟨a2, n2, c2, rfl, ⟨ds, r1, r2⟩, E2, R2, hd⟩; have HD : Hid (Dtep W w3 E E2 R R2 B K) := hd; have HL : Hid (Calls Try.prog 28 #[.slice a1 n1 c1, .slice a2 n2 c2] w3 fun e w' => e = .returned (.bool true) ∧ Below w3.heap.size w3 w') := (lists_any r1 r2 hn1); clear hd r1 r2)
    | (go_at_call 28; refine HL.out.mono ?_; rintro e w4 ⟨rfl, hb4⟩)
    | fail)
  all_goals (go_ret; exact ⟨by simp, E2, R2, (HD.out.pre Hb.out).post hb4⟩)

set_option maxHeartbeats 400000 in
theorem packets_flights (h : Duo E R w B K) (hK : K ≤ 2199023255551) (o : Opx) (hk : o.k = 13) : Calls Try.prog 57 #[.pointer (some ⟨E.b, 0, none⟩), .pointer (some ⟨R.b, 0, none⟩), .agg o.cs] w fun e w' => e = .returned (.bool true) ∧ ∃ E' R', Dtep w w' E E' R R' B K := by
  generalize hW : w.alloc (.cells o.cs 33) = W
  have hbW : Below w.heap.size w W := by rw [← hW]; exact balloc (Below.refl _ w)
  have hblk : W.heap[w.heap.size]? = some (.cells o.cs 33 (0, 0)) := by rw [← hW]; exact heap_alloc_new w _
  have hWs : w.heap.size < W.heap.size := lt_heap hblk
  obtain ⟨d0, d1, d2, d3, d4, d5⟩ := op_cells hblk
  have Hb : Hid (Below w.heap.size w W) := hbW
  have Hblk : Hid (W.heap[w.heap.size]? = some (.cells o.cs 33 (0, 0))) := hblk
  have Hd : Hid (Duo E R w B K) := h
  have HnE : Hid (¬ E.own w.heap.size) := fun e => by have := h.e.ltOwn e; omega
  have HnR : Hid (¬ R.own w.heap.size) := fun e => by have := h.r.ltOwn e; omega
  have HP : Hid (∀ w', Below w.heap.size w w' → Calls Try.prog 17 #[.pointer (some ⟨E.b, 0, none⟩)] w' fun e w1 => ∃ a n c, e = .returned (.slice a n c) ∧ n ≤ 2199023255552 ∧ ∀ w2, Below w1.heap.size w1 w2 → Calls Try.prog 85 #[.pointer (some ⟨R.b, 0, none⟩)] w2 fun e w3 => ∃ a' n' c', e = .returned (.slice a' n' c') ∧ (∃ ds, RdF w3 a n ds ∧ RdF w3 a' n' ds) ∧ ∃ E' R', Dtep w' w3 E E' R R' B K) := pair_flights h hK
  unfold Opx.cs at hW ⊢
  rw [hk] at hW d0 ⊢
  clear h hbW hblk
  go_enter Try.func57, Try.ntmps57
  go_wp2_with (first
    | (go_at_call 17; refine (HP.out _ Hb.out).mono ?_; rintro e w1 ⟨a1, n1, c1, rfl, hn1, hr1⟩; have HR : Hid (∀ w2, Below w1.heap.size w1 w2 → Calls Try.prog 85 #[.pointer (some ⟨R.b, 0, none⟩)] w2 fun e w3 => ∃ a' n' c', e = .returned (.slice a' n' c') ∧ (∃ ds, RdF w3 a1 n1 ds ∧ RdF w3 a' n' ds) ∧ ∃ E' R', Dtep W w3 E E' R R' B K) := hr1; clear hr1)
    | (go_at_call 85; refine (HR.out _ (Below.refl _ _)).mono ?_; rintro e w3 ⟨a2, n2, c2, rfl, ⟨ds, r1, r2⟩, E2, R2, hd⟩; have HD : Hid (Dtep W w3 E E2 R R2 B K) := hd; have HL : Hid (Calls Try.prog 28 #[.slice a1 n1 c1, .slice a2 n2 c2] w3 fun e w' => e = .returned (.bool true) ∧ Below w3.heap.size w3 w') := (lists_any r1 r2 hn1); clear hd r1 r2)
    | (go_at_call 28; refine HL.out.mono ?_; rintro e w4 ⟨rfl, hb4⟩)
    | fail)
  all_goals (go_ret; exact ⟨by simp, E2, R2, (HD.out.pre Hb.out).post hb4⟩)

set_option maxHeartbeats 400000 in
theorem packets_take (h : Duo E R w B K) (hK : K ≤ 2199023255551) (o : Opx) (hk : o.k = 12) : Calls Try.prog 57 #[.pointer (some ⟨E.b, 0, none⟩), .pointer (some ⟨R.b, 0, none⟩), .agg o.cs] w fun e w' => e = .returned (.bool true) ∧ ∃ E' R', Dtep w w' E E' R R' B K := by
  generalize hW : w.alloc (.cells o.cs 33) = W
  have hbW : Below w.heap.size w W := by rw [← hW]; exact balloc (Below.refl _ w)
  have hblk : W.heap[w.heap.size]? = some (.cells o.cs 33 (0, 0)) := by rw [← hW]; exact heap_alloc_new w _
  have hWs : w.heap.size < W.heap.size := lt_heap hblk
  obtain ⟨d0, d1, d2, d3, d4, d5⟩ := op_cells hblk
  have Hb : Hid (Below w.heap.size w W) := hbW
  have Hblk : Hid (W.heap[w.heap.size]? = some (.cells o.cs 33 (0, 0))) := hblk
  have Hd : Hid (Duo E R w B K) := h
  have HnE : Hid (¬ E.own w.heap.size) := fun e => by have := h.e.ltOwn e; omega
  have HnR : Hid (¬ R.own w.heap.size) := fun e => by have := h.r.ltOwn e; omega
  obtain ⟨fi, fs, fd, fu, n, y, hp⟩ := pair_take h hK o.p
  have HP : Hid (∀ w', Below w.heap.size w w' → Calls Try.prog 26 #[.pointer (some ⟨E.b, 0, none⟩), .int .i64 o.p] w' fun e w1 => ∃ a c, e = .returned (.tuple #[.agg #[.int .i64 fi, .int .i64 fs, .int .i64 fd, .int .i64 fu, .slice a n c], .int .i64 y]) ∧ Kept w' w1 E.own ∧ ∀ w2, Below w1.heap.size w1 w2 → Calls Try.prog 84 #[.pointer (some ⟨R.b, 0, none⟩), .int .i64 o.p] w2 fun e w3 => ∃ a' c', e = .returned (.tuple #[.agg #[.int .i64 fi, .int .i64 fs, .int .i64 fd, .int .i64 fu, .slice a' n c'], .int .i64 y]) ∧ Kept w2 w3 R.own ∧ (∃ bs, Rd w3 a n c bs ∧ Rd w3 a' n c' bs) ∧ ∃ E' R', Dtep w' w3 E E' R R' B K) := hp
  have HlR : Hid (∀ j, R.own j → j < w.heap.size) := fun j hj => h.r.ltOwn hj
  clear hp
  unfold Opx.cs at hW ⊢
  rw [hk] at hW d0 ⊢
  clear h hbW hblk
  go_enter Try.func57, Try.ntmps57
  go_wp2_with (first
    | (go_at_call 26; refine (HP.out _ Hb.out).mono ?_; rintro e w1 ⟨a1, c1, rfl, hk1, hr1⟩; have t1 := kcell hk1 d1 HnE.out; have hs1 := hk1.size; have HR : Hid (∀ w2, Below w1.heap.size w1 w2 → Calls Try.prog 84 #[.pointer (some ⟨R.b, 0, none⟩), .int .i64 o.p] w2 fun e w3 => ∃ a' c', e = .returned (.tuple #[.agg #[.int .i64 fi, .int .i64 fs, .int .i64 fd, .int .i64 fu, .slice a' n c'], .int .i64 y]) ∧ Kept w2 w3 R.own ∧ (∃ bs, Rd w3 a1 n c1 bs ∧ Rd w3 a' n c' bs) ∧ ∃ E' R', Dtep W w3 E E' R R' B K) := hr1; have T1 : Hid ((w1.alloc (.cells #[.int .i64 fi, .int .i64 fs, .int .i64 fd, .int .i64 fu, .slice a1 n c1] 48)).cell? ⟨w.heap.size, 1, none⟩ = some (.int .i64 o.p)) := (new_old t1); have t2 := T1.out; clear hr1 hk1)
    | (go_at_call 84; refine (HR.out _ (balloc (Below.refl _ _))).mono ?_; rintro e w3 ⟨a2, c2, rfl, hk3, ⟨bs, r1, r2⟩, E2, R2, hd⟩; have HD : Hid (Dtep W w3 E E2 R R2 B K) := hd; have hB1 := hk3.obj (heap_alloc_new w1 (.cells #[.int .i64 fi, .int .i64 fs, .int .i64 fd, .int .i64 fu, .slice a1 n c1] 48)) (fun e => by have := HlR.out _ e; omega); have HW2 : Hid (∀ w', Below w3.heap.size w3 w' → Calls Try.prog 50 #[.agg #[.int .i64 fi, .int .i64 fs, .int .i64 fd, .int .i64 fu, .slice a1 n c1], .agg #[.int .i64 fi, .int .i64 fs, .int .i64 fd, .int .i64 fu, .slice a2 n c2]] w' fun e w2 => e = .returned (.bool true) ∧ Below w'.heap.size w' w2) := (fun w' hb => alike_any fi fs fd fu (r1.still hb) (r2.still hb)); obtain ⟨m0, m1, m2, m3, m4⟩ := fl_cells (blk_alloc (o := .cells #[.int .i64 fi, .int .i64 fs, .int .i64 fd, .int .i64 fu, .slice a2 n c2] 48) hB1); obtain ⟨n0, n1, n2, n3, n4⟩ := fl_cells (heap_alloc_new w3 (.cells #[.int .i64 fi, .int .i64 fs, .int .i64 fd, .int .i64 fu, .slice a2 n c2] 48)); clear hd r1 r2 hk3 hB1)
    | (go_at_call 50; refine (HW2.out _ (balloc (Below.refl _ _))).mono ?_; rintro e w4 ⟨rfl, hb4⟩)
    | (go_at_call 32; refine (num_any _).mono ?_; rintro e w5 ⟨rfl, rfl⟩)
    | fail)
  all_goals (go_ret; exact ⟨by simp, E2, R2, (HD.out.pre Hb.out).post (bstepA (Below.refl _ _) hb4)⟩)

set_option maxHeartbeats 1000000 in
theorem packets_post (h : Duo E R w B K) (hK : K ≤ 2199023255551) (o : Opx) (bs : List Int) (hbb : ∀ w', Below B w w' → Rd w' o.ba o.bn o.bc bs) (hbn : o.bn ≤ 140737488351232) (hk : o.k = 10) : Calls Try.prog 57 #[.pointer (some ⟨E.b, 0, none⟩), .pointer (some ⟨R.b, 0, none⟩), .agg o.cs] w fun e w' => e = .returned (.bool true) ∧ ∃ E' R', Dtep w w' E E' R R' B K := by
  generalize hW : w.alloc (.cells o.cs 33) = W
  have hbW : Below w.heap.size w W := by rw [← hW]; exact balloc (Below.refl _ w)
  have hblk : W.heap[w.heap.size]? = some (.cells o.cs 33 (0, 0)) := by rw [← hW]; exact heap_alloc_new w _
  have hWs : w.heap.size < W.heap.size := lt_heap hblk
  obtain ⟨d0, d1, d2, d3, d4, d5⟩ := op_cells hblk
  have Hb : Hid (Below w.heap.size w W) := hbW
  have Hblk : Hid (W.heap[w.heap.size]? = some (.cells o.cs 33 (0, 0))) := hblk
  have Hd : Hid (Duo E R w B K) := h
  have HnE : Hid (¬ E.own w.heap.size) := fun e => by have := h.e.ltOwn e; omega
  have HnR : Hid (¬ R.own w.heap.size) := fun e => by have := h.r.ltOwn e; omega
  have HSp : Hid (Calls Try.prog 60 #[.slice o.ba o.bn o.bc] W fun e w' => ∃ g cap, e = .returned (.slice (some ⟨g, 0, none⟩) o.bn cap) ∧ Marked w' W.heap.size g o.bn cap bs ∧ Below W.heap.size W w') := spare_any (hbb W (hbW.mono h.hB)) hbn
  have HPP : Hid (∀ w1 g cap, Below W.heap.size W w1 → Marked w1 W.heap.size g o.bn cap bs → ∃ x y, Pair 14 81 #[.pointer (some ⟨E.b, 0, none⟩), .int .i64 o.p, .int .i64 o.q, .slice (some ⟨g, 0, none⟩) o.bn cap] #[.pointer (some ⟨R.b, 0, none⟩), .int .i64 o.p, .int .i64 o.q, .slice o.ba o.bn o.bc] E R w1 B K (.tuple #[.int .i64 x, .int .i64 y])) := by
    intro w1 g cap hb1 hmk
    have hb2 : Below w.heap.size w w1 := bstep hbW hb1
    have hr0 := hbb w (Below.refl _ _)
    exact pair_post (h.still hb2) hK o.p o.q o.bn bs (some ⟨g, 0, none⟩) o.ba cap o.bc (hmk.rd hr0.1 hr0.2.2.2) (fun w' hl => hbb w' ((hb2.mono h.hB).trans hl))
  have HRd : Hid (∀ w', Below B w w' → Rd w' o.ba o.bn o.bc bs) := hbb
  have HlR : Hid (∀ j, R.own j → j < w.heap.size) := fun j hj => h.r.ltOwn hj
  have HlE : Hid (∀ j, E.own j → j < w.heap.size) := fun j hj => h.e.ltOwn hj
  have HgE : Hid (∀ j, E.own j → B ≤ j) := fun j hj => h.e.geOwn hj
  have HgR : Hid (∀ j, R.own j → B ≤ j) := fun j hj => h.r.geOwn hj
  have hBw := h.hB
  clear hbb
  unfold Opx.cs at hW ⊢
  rw [hk] at hW d0 ⊢
  clear h hbW hblk
  go_enter Try.func57, Try.ntmps57
  go_wp2_with (first
    | (go_at_call 60; refine HSp.out.mono ?_; rintro e w1 ⟨g, cap, rfl, hmk, hb1⟩; obtain ⟨x, y, hp⟩ := HPP.out w1 g cap hb1 hmk; have HP : Hid (Pair 14 81 #[.pointer (some ⟨E.b, 0, none⟩), .int .i64 o.p, .int .i64 o.q, .slice (some ⟨g, 0, none⟩) o.bn cap] #[.pointer (some ⟨R.b, 0, none⟩), .int .i64 o.p, .int .i64 o.q, .slice o.ba o.bn o.bc] E R w1 B K (.tuple #[.int .i64 x, .int .i64 y])) := hp; have HM1 : Hid (Marked w1 W.heap.size g o.bn cap bs) := hmk; have HB1 : Hid (Below W.heap.size W w1) := hb1; have s1 := below_at hb1 d1; have s2 := below_at hb1 d2; have s4 := below_at hb1 d4; clear hp hmk hb1)
    | (go_at_call 14; refine (HP.out _ (Below.refl _ _)).mono ?_; rintro e w2 ⟨rfl, hk2, hr2⟩; have t1 := kcell hk2 s1 HnE.out; have t2 := kcell hk2 s2 HnE.out; have t4 := kcell hk2 s4 HnE.out; have HK2 : Hid (Kept w1 w2 E.own) := hk2; have HR : Hid (∀ w3, Below w2.heap.size w2 w3 → Calls Try.prog 81 #[.pointer (some ⟨R.b, 0, none⟩), .int .i64 o.p, .int .i64 o.q, .slice o.ba o.bn o.bc] w3 fun e w4 => e = .returned (.tuple #[.int .i64 x, .int .i64 y]) ∧ Kept w3 w4 R.own ∧ ∃ E' R', Dtep w1 w4 E E' R R' B K) := hr2; clear hr2 hk2)
    | (go_at_call 81; refine (HR.out _ (Below.refl _ _)).mono ?_; rintro e w3 ⟨rfl, hk3, E2, R2, hd⟩; have q1 := kcell hk3 t1 HnR.out; have q4 := kcell hk3 t4 HnR.out; have HD : Hid (Dtep w1 w3 E E2 R R2 B K) := hd; have HM3 : Hid (Marked w3 W.heap.size g o.bn cap bs) := (hk3.owns (HK2.out.owns HM1.out (fun j hj e => by have := (World.ownsRow.lt HM1.out j hj).1; have := HlE.out j e; omega)) (fun j hj e => by have := (World.ownsRow.lt HM1.out j hj).1; have := HlR.out j e; omega)); have HL3 : Hid (Below B w w3) := (((bstep Hb.out HB1.out).mono hBw).trans (hd.kept.below (by have := HB1.out.size; omega) (fun k hk e => e.elim (fun e => by have := HgE.out k e; omega) (fun e => by have := HgR.out k e; omega)))); have HKp : Hid (Calls Try.prog 82 #[.slice (some ⟨g, 0, none⟩) o.bn cap, .slice o.ba o.bn o.bc] w3 fun e w' => e = .returned (.bool true) ∧ w3 = w') := (kept_any HM3.out (HRd.out _ HL3.out) hbn); clear hd hk3)
    | (go_at_call 82; refine HKp.out.mono ?_; rintro e w4 ⟨rfl, rfl⟩)
    | fail)
  obtain ⟨cs0, hg0, hg1, hg2⟩ : ∃ cs, w3.heap[g]? = some (.cells cs 5 (0, 0)) ∧ o.bn ≤ cs.size ∧ W.heap.size ≤ g := by
    rcases HM3.out.2 with ⟨h1, h2⟩ | ⟨g', cap', cur, hv, hg1, hg2, hnc, hcm, hcs, htk⟩
    · omega
    · simp at hv
      obtain ⟨rfl, rfl⟩ := hv
      exact ⟨cur, hg2, by omega, hg1⟩
  have hcap := HM3.out.cap
  have hgw1 : g < w1.heap.size := (World.ownsRow.lt HM1.out g rfl).2
  have HG0 : Hid (w3.heap[g]? = some (.cells cs0 5 (0, 0))) := hg0
  clear hg0
  go_loopw [13] (fun i wr => ∃ k : Nat, k ≤ o.bn ∧ i = .int .i64 k ∧ Kept w3 wr (fun j => j = g) ∧ ∃ cs, wr.heap[g]? = some (.cells cs 5 (0, 0)) ∧ o.bn ≤ cs.size) (fun i _ => o.bn - (intOf i).toNat)
  case atStart => exact ⟨0, Nat.zero_le _, rfl, Kept.refl _ _, cs0, HG0.out, hg1⟩
  case round =>
    obtain ⟨k, hkk, rfl, hkp, cs, hcs, hsz⟩ := hrel
    by_cases hlt : k < o.bn
    · have hc : wr.cell? ⟨g, k, none⟩ = some cs[k] := (blk_cell hcs k).trans (Array.getElem?_eq_getElem (by omega))
      generalize cs[k] = u at hc
      have hz : wr.frozen? ⟨g, k, none⟩ = false := frozen_of_row wr _ k _ _ hcs
      have i1 : (0 : Int) ≤ (k : Int) := Int.natCast_nonneg _
      have i2 : (k : Int) < (o.bn : Int) := by omega
      have HKp2 : Hid (Kept w3 wr (fun j => j = g)) := hkp
      have HCs : Hid (wr.heap[g]? = some (.cells cs 5 (0, 0))) := hcs
      clear hkp hcs
      go_wp2
      exact ⟨⟨k + 1, by omega, by go_num, HKp2.out.trans (kset _ _ _ _ rfl), _, heap_setCell_same wr g k cs 5 _ HCs.out, by simpa using hsz⟩, by simp [intOf]; omega⟩
    · obtain rfl : k = o.bn := by omega
      go_wp2_with (first | (go_at_call 32; refine (num_any _).mono ?_; rintro e w5 ⟨rfl, rfl⟩) | fail)
      all_goals
        go_ret
        refine ⟨by simp, E2, R2, (HD.out.pre (bstep Hb.out HB1.out)).after hkp (fun j e => ?_)⟩
        subst e
        refine ⟨by omega, fun e => ?_, fun e => ?_⟩
        · rcases HD.out.own j (.inl e) with (h1 | h1) | h1
          · have := HlE.out j h1; omega
          · have := HlR.out j h1; omega
          · omega
        · rcases HD.out.own j (.inr e) with (h1 | h1) | h1
          · have := HlE.out j h1; omega
          · have := HlR.out j h1; omega
          · omega
theorem packets_any (h : Duo E R w B K) (hK : K ≤ 2199023255551) (o : Opx) (bs : List Int) (hbb : ∀ w', Below B w w' → Rd w' o.ba o.bn o.bc bs) (hbn : o.bn ≤ 140737488351232) (h1 : 8 ≤ o.k) (h2 : o.k ≤ 13) : Calls Try.prog 57 #[.pointer (some ⟨E.b, 0, none⟩), .pointer (some ⟨R.b, 0, none⟩), .agg o.cs] w fun e w' => e = .returned (.bool true) ∧ ∃ E' R', Dtep w w' E E' R R' B K := by
  rcases (show o.k = 8 ∨ o.k = 9 ∨ o.k = 10 ∨ o.k = 11 ∨ o.k = 12 ∨ o.k = 13 by omega) with hk | hk | hk | hk | hk | hk
  · exact packets_open h o hk
  · exact packets_delay h o hk
  · exact packets_post h hK o bs hbb hbn hk
  · exact packets_round h hK o hk
  · exact packets_take h hK o hk
  · exact packets_flights h hK o hk
end
end Go.Proofs.Ythogcanfinjfdaa.Et
namespace Go.Proofs.Ythogcanfinjfdaa.Et
open Go.RowKit Go.Maps
set_option linter.unusedVariables false
set_option linter.unusedSimpArgs false
set_option maxRecDepth 100000
section
variable {E E' : En} {R R' : Rn} {w w' w1 w2 w3 wa W : World} {B K m : Nat}
theorem row_cell {t g n c : Nat} {l : List Value} (h : w.ownsRow B t 1 (.slice (some ⟨g, 0, none⟩) n c) n l) {i : Nat} (hi : i < n) : w.cell? ⟨g, i, none⟩ = l[i]? := by
  rcases h.2 with ⟨h1, h2⟩ | ⟨g', cap, cur, hv, hB, hg, hnc, hcm, hcs, htk⟩
  · omega
  · simp at hv
    obtain ⟨rfl, rfl⟩ := hv
    rw [blk_cell hg _, ← htk, List.getElem?_take_of_lt (by omega), Array.getElem?_toList]
theorem MarkedI.at {g n c : Nat} {xs : List Int} (h : MarkedI w B g n c xs) (hn : xs.length = n) {k : Nat} (hk : k < 64) : w.cell? ⟨g, n + k, none⟩ = some (.int .i64 (700 + (k : Int))) := by
  rw [row_cell h (by omega), List.getElem?_map, List.getElem?_append_right (by omega), show n + k - xs.length = k by omega]
  have := mks_at 64 k hk
  have hl := mks_len 64
  simp only [List.getD] at this
  rw [List.getElem?_eq_getElem (by omega)] at this ⊢
  simp at this
  simp [this]
theorem MarkedI.cells {g n c : Nat} {xs : List Int} (h : MarkedI w B g n c xs) (hn : xs.length = n) {i : Nat} (hi : i < n) : w.cell? ⟨g, 0 + i, none⟩ = some (.int .i64 (xs.getD i 0)) := by
  rw [Nat.zero_add, row_cell h (by omega), List.getElem?_map, List.getElem?_append_left (by omega), List.getElem?_eq_getElem (by omega)]
  simp [List.getD, List.getElem?_eq_getElem (show i < xs.length by omega)]
theorem MarkedI.cap {g n c : Nat} {xs : List Int} (h : MarkedI w B g n c xs) : n + 64 ≤ c := by
  rcases h.2 with ⟨h1, h2⟩ | ⟨g, cap, cur, hv, hg1, hg2, hnc, _⟩
  · omega
  · simp at hv; omega
def evC (o : Opx) (gb cb gs cs : Nat) : Ev := ⟨o.k - 20, o.p, o.q, o.n, some ⟨gb, 0, none⟩, o.bn, cb, some ⟨gs, 0, none⟩, o.sn, cs⟩
theorem does_pair (h : Duo E R w B K) (hK : K ≤ 2199023255551) (o : Opx) (bs xs : List Int) (hbl : bs.length = o.bn) (hbr : ∀ i, 0 ≤ bs.getD i 0 ∧ bs.getD i 0 ≤ 255) (hxl : xs.length = o.sn) (h63 : o.n ≤ 9223372036854775807) (hbW : Below w.heap.size w W) (w1 : World) (gb cb gs cs : Nat) (hb1 : Below W.heap.size W w1) (hm : Marked w1 W.heap.size gb o.bn cb bs) (hmi : MarkedI w1 W.heap.size gs o.sn cs xs) :
    ∃ x : Int, ∀ w', Below w1.heap.size w1 w' → Calls Try.prog 13 #[.pointer (some ⟨E.b, 0, none⟩), .agg (evC o gb cb gs cs).cs] w' fun e w2 => e = .returned (.int .i64 x) ∧ Kept w' w2 E.own ∧
      ∀ w3 gb2 cb2 gs2 cs2, Below w2.heap.size w2 w3 → Marked w3 w2.heap.size gb2 o.bn cb2 bs → MarkedI w3 w2.heap.size gs2 o.sn cs2 xs → Calls Try.prog 86 #[.pointer (some ⟨R.b, 0, none⟩), .agg (evC o gb2 cb2 gs2 cs2).cs] w3 fun e w4 => e = .returned (.int .i64 x) ∧ Kept w3 w4 R.own ∧ ∃ E' R', Dtep w' w4 E E' R R' B K := by
  have hD := h.still (bstep hbW hb1)
  have hgs : ¬ E.own gs := fun e => by
    have h1 := h.e.ltOwn e
    have h2 := (World.ownsRow.lt hmi gs rfl).1
    have := hbW.size
    omega
  obtain ⟨x, hp⟩ := pair_do hD hK (evC o gb cb gs cs) bs xs h63 (hm.rd hbl hbr) hxl gs rfl (fun i hi => hmi.cells hxl hi) hgs
  refine ⟨x, fun w' hb => (hp w' hb).mono ?_⟩
  rintro e w2 ⟨rfl, k2, hr⟩
  refine ⟨rfl, k2, fun w3 gb2 cb2 gs2 cs2 hb3 hm2 hmi2 => ?_⟩
  refine hr w3 (evC o gb2 cb2 gs2 cs2) hb3 ⟨rfl, rfl, rfl, rfl, rfl, rfl, hm2.rd hbl hbr, gs2, rfl, fun i hi => hmi2.cells hxl hi, fun e => ?_⟩
  have h1 := h.r.ltOwn e
  have h2 := (World.ownsRow.lt hmi2 gs2 rfl).1
  have h3 := k2.size
  have h4 := hb.size
  have h5 := (bstep hbW hb1).size
  omega
end
end Go.Proofs.Ythogcanfinjfdaa.Et
