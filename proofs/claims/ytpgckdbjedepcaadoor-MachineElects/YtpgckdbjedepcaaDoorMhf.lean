import Derived.Test.YtpgckdbjedepcaaDoorMhe
namespace Go.Proofs.YtpgckdbjedepcaaDoor.Mh
open Go.RowKit Mb Go.Maps
set_option linter.unusedVariables false
set_option maxRecDepth 100000
set_option linter.unusedSimpArgs false
section
variable {w w' W : World} {B : Nat}
theorem ops_idx1 (w : World) : (Instr.index 53 (.agg OPS.toArray) (.int .i64 1)).run Tryd.prog w = .ok (.agg #[fv 15, fv 16, fv 17, fv 18]) w := by kernel_rfl
theorem ops_idx3 (w : World) : (Instr.index 53 (.agg OPS.toArray) (.int .i64 3)).run Tryd.prog w = .ok (.agg #[fv 15, fv 16, fv 16, fv 20]) w := by kernel_rfl
theorem opn_info : (Tryd.prog.info? 52).map (·.size) = some 4 := by kernel_rfl
theorem opn_one (a b c d : Nat) : ∀ u ∈ [fv a, fv b, fv c, fv d], u.oneCell' = true := by
  intro u hu
  simp only [List.mem_cons, List.not_mem_nil, or_false] at hu
  rcases hu with rfl | rfl | rfl | rfl <;> rfl
set_option maxHeartbeats 4000000 in
theorem check_set {cl inc req : Int} (v : ByteArray) (h1 : 0 ≤ cl) (h2 : cl ≤ 15) (h3 : 1 ≤ inc) (h4 : inc ≤ 4611686018427387904) (h5 : 1 ≤ req) (h6 : req ≤ 4611686018427387904) (hv : v.size ≤ 8) : Calls Tryd.prog 7 #[.agg #[.int .i64 cl, .int .i64 inc, .int .i64 req, .int .i64 1, .string lead, .string v, .string emp]] w fun e w' => e = .returned (.int .i64 0) ∧ Below w.heap.size w w' := by
  obtain ⟨W, hW⟩ : ∃ X, w.alloc (.cells #[.int .i64 cl, .int .i64 inc, .int .i64 req, .int .i64 1, .string lead, .string v, .string emp] 30) = X := ⟨_, rfl⟩
  have HbW : Hid (Below w.heap.size w W) := by rw [← hW]; exact balloc (Below.refl _ _)
  have HcW : Hid (W.heap[w.heap.size]? = some (.cells #[.int .i64 cl, .int .i64 inc, .int .i64 req, .int .i64 1, .string lead, .string v, .string emp] 30 (0, 0))) := by rw [← hW]; exact heap_alloc_new w _
  have y0 := blk_cell HcW.out 0
  have y1 := blk_cell HcW.out 1
  have y2 := blk_cell HcW.out 2
  have y3 := blk_cell HcW.out 3
  simp only [List.getElem?_toArray, List.getElem?_cons_succ, List.getElem?_cons_zero] at y0 y1 y2 y3
  have y3h : Hid (W.cell? ⟨w.heap.size, 3, none⟩ = some (.int .i64 1)) := y3
  go_enter Tryd.func7, Tryd.ntmps7
  go_wp2_with (first
    | (go_at_call 10; refine (isClient_yes h1 h2).mono ?_; rintro e wx ⟨rfl, rfl⟩)
    | (go_at_call 11; refine (within_yes (by omega) (by omega)).mono ?_; rintro e wx ⟨rfl, rfl⟩)
    | fail)
  refine wp_region_held_drew (S := (fun w' => Below W.heap.size W w')) (by kernel_rfl) (Below.refl _ W).drew (fun hHeld => ?_)
  simp only [Act.put, List.size_toArray, List.length_cons, List.length_nil, Nat.zero_add]
  refine wpAnyH_take (i := 1) (v := .pointer (some ⟨w.heap.size, 3, none⟩)) rfl (by kernel_rfl) (by kernel_rfl) (by kernel_rfl) (fun _ _ _ h => h) (Or.inl ⟨by rfl, fun w' hS => by go_simp⟩) hHeld ?_
  simp only [Act.put, List.getElem_toArray, List.getElem_cons_zero, List.getElem_cons_succ, List.setIfInBounds_toArray, List.set_cons_zero, List.set_cons_succ]
  refine wpAnyH_take (i := 2) (v := .int .i64 1) rfl (by kernel_rfl) (by kernel_rfl) (by kernel_rfl) (fun _ _ _ h => h) (Or.inl ⟨by rfl, fun w' hS => by (have s0 := below_at hS y3h.out; go_simp)⟩) hHeld ?_
  simp only [Act.put, List.getElem_toArray, List.getElem_cons_zero, List.getElem_cons_succ, List.setIfInBounds_toArray, List.set_cons_zero, List.set_cons_succ]
  refine wpAnyH_ready (rs := [0, 4]) (by kernel_rfl) (by simp) ?_
  refine AllReadyH.cons rfl (fun K hK => ?_) (AllReadyH.cons rfl (fun K hK => ?_) AllReadyH.nil)
  · go_simp
    refine (operations_any).mono ?_
    rintro e X1 ⟨rfl, hb1⟩
    have HB1 : Hid (Below W.heap.size W X1) := bstep (Below.refl _ W).drew hb1
    clear hb1
    refine hK.out _ _ HB1.out (fun hHeld => ?_)
    clear hK K
    refine wpAnyH_take (i := 3) (v := .agg #[fv 15, fv 16, fv 17, fv 18]) rfl (by kernel_rfl) (by kernel_rfl) (by kernel_rfl) (fun _ _ _ h => h) (Or.inl ⟨by rfl, fun w' hS => by (have s0 := ops_idx1 w'; go_simp)⟩) hHeld ?_
    simp only [Act.put, List.getElem_toArray, List.getElem_cons_zero, List.getElem_cons_succ, List.setIfInBounds_toArray, List.set_cons_zero, List.set_cons_succ]
    obtain ⟨A1, V, hA1, HTh, hV, HVr, HVb0⟩ := newvar X1 52 [.nilFunc, .nilFunc, .nilFunc, .nilFunc] [fv 15, fv 16, fv 17, fv 18] rfl
    have HA1 : Hid (Below W.heap.size W A1) := by rw [← hA1]; exact balloc HB1.out
    have HVb : Hid (Below W.heap.size W V) := bstep HB1.out HVb0.out
    refine wpAnyH_ready (rs := [4]) (by kernel_rfl) (by simp) ?_
    refine AllReadyH.cons rfl (fun K hK => ?_) AllReadyH.nil
    go_simp
    (try rw [hA1])
    refine hK.out _ _ HA1.out (fun hHeld => ?_)
    clear hK K
    refine wpAnyH_ready (rs := [5]) (by kernel_rfl) (by simp) ?_
    refine AllReadyH.cons rfl (fun K hK => ?_) AllReadyH.nil
    rw [if_pos (by rfl)]
    refine wp_store_mid 52 (.tmp 4) (.tmp 29) rfl X1.heap.size 0 #[fv 15, fv 16, fv 17, fv 18] rfl rfl HTh.out opn_info (all_oneCell_toArray (opn_one _ _ _ _)) ?_
    rw [hV]
    refine hK.out _ _ HVb.out (fun hHeld => ?_)
    clear hK K
    refine wpAnyH_done (by kernel_rfl) ?_ _
    clear hHeld
    clear hA1 HTh hV HA1 HVb0
    have HcV : Hid (V.heap[w.heap.size]? = some (.cells #[.int .i64 cl, .int .i64 inc, .int .i64 req, .int .i64 1, .string lead, .string v, .string emp] 30 (0, 0))) := (HVb.out.block _ (lt_heap HcW.out)).trans HcW.out
    have z4 := blk_cell HcV.out 4
    have z5 := blk_cell HcV.out 5
    have z6 := blk_cell HcV.out 6
    have x0 := blk_cell HVr.out 0
    have x1 := blk_cell HVr.out 1
    have x2 := blk_cell HVr.out 2
    simp only [List.getElem?_toArray, List.getElem?_cons_succ, List.getElem?_cons_zero] at z4 z5 z6 x0 x1 x2
    have hl1 : 1 ≤ lead.size := by decide
    have hl8 : lead.size ≤ 8 := by decide
    unfold fv at x0 x1 x2
    go_wp2_with (first
      | (go_at_call 15; refine (isKey_yes hl1 hl8).mono ?_; rintro e wx ⟨rfl, rfl⟩)
      | (go_at_call 16; refine (isValue_yes (by assumption)).mono ?_; rintro e wx ⟨rfl, rfl⟩)
      | (go_at_call 17; refine (isEmpty_yes).mono ?_; rintro e wx ⟨rfl, rfl⟩)
      | fail)
    go_ret
    exact ⟨rfl, bstep HbW.out HVb.out⟩
  · obtain ⟨A1, hA1⟩ : ∃ X, W.drew.alloc (.cells #[.nilFunc, .nilFunc, .nilFunc, .nilFunc] 52) = X := ⟨_, rfl⟩
    have HA1 : Hid (Below W.heap.size W A1) := by rw [← hA1]; exact balloc (Below.refl _ W).drew
    have HAr : Hid (A1.heap[W.heap.size]? = some (.cells #[.nilFunc, .nilFunc, .nilFunc, .nilFunc] 52 (0, 0))) := by
      rw [← hA1]
      exact heap_alloc_new _ _
    go_simp
    (try rw [hA1])
    refine hK.out _ _ HA1.out (fun hHeld => ?_)
    clear hK K
    refine wpAnyH_ready (rs := [0]) (by kernel_rfl) (by simp) ?_
    refine AllReadyH.cons rfl (fun K hK => ?_) AllReadyH.nil
    go_simp
    refine (operations_any).mono ?_
    rintro e X1 ⟨rfl, hb1⟩
    have HB1 : Hid (Below W.heap.size W X1) := bstep HA1.out hb1
    have HXr : Hid (X1.heap[W.heap.size]? = some (.cells #[.nilFunc, .nilFunc, .nilFunc, .nilFunc] 52 (0, 0))) := (hb1.block _ (lt_heap HAr.out)).trans HAr.out
    clear hb1
    refine hK.out _ _ HB1.out (fun hHeld => ?_)
    clear hK K
    refine wpAnyH_take (i := 3) (v := .agg #[fv 15, fv 16, fv 17, fv 18]) rfl (by kernel_rfl) (by kernel_rfl) (by kernel_rfl) (fun _ _ _ h => h) (Or.inl ⟨by rfl, fun w' hS => by (have s0 := ops_idx1 w'; go_simp)⟩) hHeld ?_
    simp only [Act.put, List.getElem_toArray, List.getElem_cons_zero, List.getElem_cons_succ, List.setIfInBounds_toArray, List.set_cons_zero, List.set_cons_succ]
    obtain ⟨V, hV⟩ : ∃ X, X1.setCells (W.heap.size) 0 [fv 15, fv 16, fv 17, fv 18] = X := ⟨_, rfl⟩
    have HVr : Hid (V.heap[W.heap.size]? = some (.cells #[fv 15, fv 16, fv 17, fv 18] 52 (0, 0))) := by rw [← hV]; exact sets_whole HXr.out rfl
    have HTh : Hid (X1.there (W.heap.size) 0 4) := blk_there HXr.out rfl
    have HVb : Hid (Below W.heap.size W V) := by rw [← hV]; exact bsets (Nat.le_refl _) _ _ HB1.out
    refine wpAnyH_ready (rs := [5]) (by kernel_rfl) (by simp) ?_
    refine AllReadyH.cons rfl (fun K hK => ?_) AllReadyH.nil
    rw [if_pos (by rfl)]
    refine wp_store_mid 52 (.tmp 4) (.tmp 29) rfl (W.heap.size) 0 #[fv 15, fv 16, fv 17, fv 18] rfl rfl HTh.out opn_info (all_oneCell_toArray (opn_one _ _ _ _)) ?_
    rw [hV]
    refine hK.out _ _ HVb.out (fun hHeld => ?_)
    clear hK K
    refine wpAnyH_done (by kernel_rfl) ?_ _
    clear hHeld
    clear hA1 HTh hV HA1
    have HcV : Hid (V.heap[w.heap.size]? = some (.cells #[.int .i64 cl, .int .i64 inc, .int .i64 req, .int .i64 1, .string lead, .string v, .string emp] 30 (0, 0))) := (HVb.out.block _ (lt_heap HcW.out)).trans HcW.out
    have z4 := blk_cell HcV.out 4
    have z5 := blk_cell HcV.out 5
    have z6 := blk_cell HcV.out 6
    have x0 := blk_cell HVr.out 0
    have x1 := blk_cell HVr.out 1
    have x2 := blk_cell HVr.out 2
    simp only [List.getElem?_toArray, List.getElem?_cons_succ, List.getElem?_cons_zero] at z4 z5 z6 x0 x1 x2
    have hl1 : 1 ≤ lead.size := by decide
    have hl8 : lead.size ≤ 8 := by decide
    unfold fv at x0 x1 x2
    go_wp2_with (first
      | (go_at_call 15; refine (isKey_yes hl1 hl8).mono ?_; rintro e wx ⟨rfl, rfl⟩)
      | (go_at_call 16; refine (isValue_yes (by assumption)).mono ?_; rintro e wx ⟨rfl, rfl⟩)
      | (go_at_call 17; refine (isEmpty_yes).mono ?_; rintro e wx ⟨rfl, rfl⟩)
      | fail)
    go_ret
    exact ⟨rfl, bstep HbW.out HVb.out⟩
set_option maxHeartbeats 4000000 in
theorem check_cas {cl inc req : Int} (v old : ByteArray) (h1 : 0 ≤ cl) (h2 : cl ≤ 15) (h3 : 1 ≤ inc) (h4 : inc ≤ 4611686018427387904) (h5 : 1 ≤ req) (h6 : req ≤ 4611686018427387904) (hv : v.size ≤ 8) (ho : old.size ≤ 8) : Calls Tryd.prog 7 #[.agg #[.int .i64 cl, .int .i64 inc, .int .i64 req, .int .i64 3, .string lead, .string v, .string old]] w fun e w' => e = .returned (.int .i64 0) ∧ Below w.heap.size w w' := by
  obtain ⟨W, hW⟩ : ∃ X, w.alloc (.cells #[.int .i64 cl, .int .i64 inc, .int .i64 req, .int .i64 3, .string lead, .string v, .string old] 30) = X := ⟨_, rfl⟩
  have HbW : Hid (Below w.heap.size w W) := by rw [← hW]; exact balloc (Below.refl _ _)
  have HcW : Hid (W.heap[w.heap.size]? = some (.cells #[.int .i64 cl, .int .i64 inc, .int .i64 req, .int .i64 3, .string lead, .string v, .string old] 30 (0, 0))) := by rw [← hW]; exact heap_alloc_new w _
  have y0 := blk_cell HcW.out 0
  have y1 := blk_cell HcW.out 1
  have y2 := blk_cell HcW.out 2
  have y3 := blk_cell HcW.out 3
  simp only [List.getElem?_toArray, List.getElem?_cons_succ, List.getElem?_cons_zero] at y0 y1 y2 y3
  have y3h : Hid (W.cell? ⟨w.heap.size, 3, none⟩ = some (.int .i64 3)) := y3
  go_enter Tryd.func7, Tryd.ntmps7
  go_wp2_with (first
    | (go_at_call 10; refine (isClient_yes h1 h2).mono ?_; rintro e wx ⟨rfl, rfl⟩)
    | (go_at_call 11; refine (within_yes (by omega) (by omega)).mono ?_; rintro e wx ⟨rfl, rfl⟩)
    | fail)
  refine wp_region_held_drew (S := (fun w' => Below W.heap.size W w')) (by kernel_rfl) (Below.refl _ W).drew (fun hHeld => ?_)
  simp only [Act.put, List.size_toArray, List.length_cons, List.length_nil, Nat.zero_add]
  refine wpAnyH_take (i := 1) (v := .pointer (some ⟨w.heap.size, 3, none⟩)) rfl (by kernel_rfl) (by kernel_rfl) (by kernel_rfl) (fun _ _ _ h => h) (Or.inl ⟨by rfl, fun w' hS => by go_simp⟩) hHeld ?_
  simp only [Act.put, List.getElem_toArray, List.getElem_cons_zero, List.getElem_cons_succ, List.setIfInBounds_toArray, List.set_cons_zero, List.set_cons_succ]
  refine wpAnyH_take (i := 2) (v := .int .i64 3) rfl (by kernel_rfl) (by kernel_rfl) (by kernel_rfl) (fun _ _ _ h => h) (Or.inl ⟨by rfl, fun w' hS => by (have s0 := below_at hS y3h.out; go_simp)⟩) hHeld ?_
  simp only [Act.put, List.getElem_toArray, List.getElem_cons_zero, List.getElem_cons_succ, List.setIfInBounds_toArray, List.set_cons_zero, List.set_cons_succ]
  refine wpAnyH_ready (rs := [0, 4]) (by kernel_rfl) (by simp) ?_
  refine AllReadyH.cons rfl (fun K hK => ?_) (AllReadyH.cons rfl (fun K hK => ?_) AllReadyH.nil)
  · go_simp
    refine (operations_any).mono ?_
    rintro e X1 ⟨rfl, hb1⟩
    have HB1 : Hid (Below W.heap.size W X1) := bstep (Below.refl _ W).drew hb1
    clear hb1
    refine hK.out _ _ HB1.out (fun hHeld => ?_)
    clear hK K
    refine wpAnyH_take (i := 3) (v := .agg #[fv 15, fv 16, fv 16, fv 20]) rfl (by kernel_rfl) (by kernel_rfl) (by kernel_rfl) (fun _ _ _ h => h) (Or.inl ⟨by rfl, fun w' hS => by (have s0 := ops_idx3 w'; go_simp)⟩) hHeld ?_
    simp only [Act.put, List.getElem_toArray, List.getElem_cons_zero, List.getElem_cons_succ, List.setIfInBounds_toArray, List.set_cons_zero, List.set_cons_succ]
    obtain ⟨A1, V, hA1, HTh, hV, HVr, HVb0⟩ := newvar X1 52 [.nilFunc, .nilFunc, .nilFunc, .nilFunc] [fv 15, fv 16, fv 16, fv 20] rfl
    have HA1 : Hid (Below W.heap.size W A1) := by rw [← hA1]; exact balloc HB1.out
    have HVb : Hid (Below W.heap.size W V) := bstep HB1.out HVb0.out
    refine wpAnyH_ready (rs := [4]) (by kernel_rfl) (by simp) ?_
    refine AllReadyH.cons rfl (fun K hK => ?_) AllReadyH.nil
    go_simp
    (try rw [hA1])
    refine hK.out _ _ HA1.out (fun hHeld => ?_)
    clear hK K
    refine wpAnyH_ready (rs := [5]) (by kernel_rfl) (by simp) ?_
    refine AllReadyH.cons rfl (fun K hK => ?_) AllReadyH.nil
    rw [if_pos (by rfl)]
    refine wp_store_mid 52 (.tmp 4) (.tmp 29) rfl X1.heap.size 0 #[fv 15, fv 16, fv 16, fv 20] rfl rfl HTh.out opn_info (all_oneCell_toArray (opn_one _ _ _ _)) ?_
    rw [hV]
    refine hK.out _ _ HVb.out (fun hHeld => ?_)
    clear hK K
    refine wpAnyH_done (by kernel_rfl) ?_ _
    clear hHeld
    clear hA1 HTh hV HA1 HVb0
    have HcV : Hid (V.heap[w.heap.size]? = some (.cells #[.int .i64 cl, .int .i64 inc, .int .i64 req, .int .i64 3, .string lead, .string v, .string old] 30 (0, 0))) := (HVb.out.block _ (lt_heap HcW.out)).trans HcW.out
    have z4 := blk_cell HcV.out 4
    have z5 := blk_cell HcV.out 5
    have z6 := blk_cell HcV.out 6
    have x0 := blk_cell HVr.out 0
    have x1 := blk_cell HVr.out 1
    have x2 := blk_cell HVr.out 2
    simp only [List.getElem?_toArray, List.getElem?_cons_succ, List.getElem?_cons_zero] at z4 z5 z6 x0 x1 x2
    have hl1 : 1 ≤ lead.size := by decide
    have hl8 : lead.size ≤ 8 := by decide
    unfold fv at x0 x1 x2
    go_wp2_with (first
      | (go_at_call 15; refine (isKey_yes hl1 hl8).mono ?_; rintro e wx ⟨rfl, rfl⟩)
      | (go_at_call 16; refine (isValue_yes (by assumption)).mono ?_; rintro e wx ⟨rfl, rfl⟩)
      | (go_at_call 17; refine (isEmpty_yes).mono ?_; rintro e wx ⟨rfl, rfl⟩)
      | fail)
    go_ret
    exact ⟨rfl, bstep HbW.out HVb.out⟩
  · obtain ⟨A1, hA1⟩ : ∃ X, W.drew.alloc (.cells #[.nilFunc, .nilFunc, .nilFunc, .nilFunc] 52) = X := ⟨_, rfl⟩
    have HA1 : Hid (Below W.heap.size W A1) := by rw [← hA1]; exact balloc (Below.refl _ W).drew
    have HAr : Hid (A1.heap[W.heap.size]? = some (.cells #[.nilFunc, .nilFunc, .nilFunc, .nilFunc] 52 (0, 0))) := by
      rw [← hA1]
      exact heap_alloc_new _ _
    go_simp
    (try rw [hA1])
    refine hK.out _ _ HA1.out (fun hHeld => ?_)
    clear hK K
    refine wpAnyH_ready (rs := [0]) (by kernel_rfl) (by simp) ?_
    refine AllReadyH.cons rfl (fun K hK => ?_) AllReadyH.nil
    go_simp
    refine (operations_any).mono ?_
    rintro e X1 ⟨rfl, hb1⟩
    have HB1 : Hid (Below W.heap.size W X1) := bstep HA1.out hb1
    have HXr : Hid (X1.heap[W.heap.size]? = some (.cells #[.nilFunc, .nilFunc, .nilFunc, .nilFunc] 52 (0, 0))) := (hb1.block _ (lt_heap HAr.out)).trans HAr.out
    clear hb1
    refine hK.out _ _ HB1.out (fun hHeld => ?_)
    clear hK K
    refine wpAnyH_take (i := 3) (v := .agg #[fv 15, fv 16, fv 16, fv 20]) rfl (by kernel_rfl) (by kernel_rfl) (by kernel_rfl) (fun _ _ _ h => h) (Or.inl ⟨by rfl, fun w' hS => by (have s0 := ops_idx3 w'; go_simp)⟩) hHeld ?_
    simp only [Act.put, List.getElem_toArray, List.getElem_cons_zero, List.getElem_cons_succ, List.setIfInBounds_toArray, List.set_cons_zero, List.set_cons_succ]
    obtain ⟨V, hV⟩ : ∃ X, X1.setCells (W.heap.size) 0 [fv 15, fv 16, fv 16, fv 20] = X := ⟨_, rfl⟩
    have HVr : Hid (V.heap[W.heap.size]? = some (.cells #[fv 15, fv 16, fv 16, fv 20] 52 (0, 0))) := by rw [← hV]; exact sets_whole HXr.out rfl
    have HTh : Hid (X1.there (W.heap.size) 0 4) := blk_there HXr.out rfl
    have HVb : Hid (Below W.heap.size W V) := by rw [← hV]; exact bsets (Nat.le_refl _) _ _ HB1.out
    refine wpAnyH_ready (rs := [5]) (by kernel_rfl) (by simp) ?_
    refine AllReadyH.cons rfl (fun K hK => ?_) AllReadyH.nil
    rw [if_pos (by rfl)]
    refine wp_store_mid 52 (.tmp 4) (.tmp 29) rfl (W.heap.size) 0 #[fv 15, fv 16, fv 16, fv 20] rfl rfl HTh.out opn_info (all_oneCell_toArray (opn_one _ _ _ _)) ?_
    rw [hV]
    refine hK.out _ _ HVb.out (fun hHeld => ?_)
    clear hK K
    refine wpAnyH_done (by kernel_rfl) ?_ _
    clear hHeld
    clear hA1 HTh hV HA1
    have HcV : Hid (V.heap[w.heap.size]? = some (.cells #[.int .i64 cl, .int .i64 inc, .int .i64 req, .int .i64 3, .string lead, .string v, .string old] 30 (0, 0))) := (HVb.out.block _ (lt_heap HcW.out)).trans HcW.out
    have z4 := blk_cell HcV.out 4
    have z5 := blk_cell HcV.out 5
    have z6 := blk_cell HcV.out 6
    have x0 := blk_cell HVr.out 0
    have x1 := blk_cell HVr.out 1
    have x2 := blk_cell HVr.out 2
    simp only [List.getElem?_toArray, List.getElem?_cons_succ, List.getElem?_cons_zero] at z4 z5 z6 x0 x1 x2
    have hl1 : 1 ≤ lead.size := by decide
    have hl8 : lead.size ≤ 8 := by decide
    unfold fv at x0 x1 x2
    go_wp2_with (first
      | (go_at_call 15; refine (isKey_yes hl1 hl8).mono ?_; rintro e wx ⟨rfl, rfl⟩)
      | (go_at_call 16; refine (isValue_yes (by assumption)).mono ?_; rintro e wx ⟨rfl, rfl⟩)
      | (go_at_call 17; refine (isEmpty_yes).mono ?_; rintro e wx ⟨rfl, rfl⟩)
      | fail)
    go_ret
    exact ⟨rfl, bstep HbW.out HVb.out⟩
end
end Go.Proofs.YtpgckdbjedepcaaDoor.Mh
