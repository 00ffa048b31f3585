import Derived.Test.YtpgckdbjedepcaaDoorMhd
namespace Go.Proofs.YtpgckdbjedepcaaDoor.Mh
open Go.RowKit Mb Go.Maps
set_option linter.unusedVariables false
set_option maxRecDepth 100000
set_option linter.unusedSimpArgs false
section
variable {w w' W : World} {B : Nat}
theorem newvar (w : World) (t : Nat) (Z L : List Value) (h : L.length = Z.length) : ∃ A1 V, w.alloc (.cells Z.toArray t) = A1 ∧ Hid (A1.there w.heap.size 0 L.length) ∧ A1.setCells w.heap.size 0 L = V ∧ Hid (V.heap[w.heap.size]? = some (.cells L.toArray t (0, 0))) ∧ Hid (Below w.heap.size w V) := by
  refine ⟨_, _, rfl, ?_, rfl, ?_, ?_⟩
  · exact blk_there (heap_alloc_new w _) (by simp [h])
  · exact sets_whole (heap_alloc_new w _) (by simp [h])
  · exact bsets (Nat.le_refl _) _ _ (balloc (Below.refl _ _))
theorem set3_keep (w : World) (b : Nat) (v0 v1 v2 : Value) : Kept w (((w.setCell ⟨b, 0, none⟩ v0).setCell ⟨b, 1, none⟩ v1).setCell ⟨b, 2, none⟩ v2) (fun j => j = b) := ((kset (P := fun j => j = b) w b 0 v0 rfl).trans (kset (P := fun j => j = b) _ b 1 v1 rfl)).trans (kset (P := fun j => j = b) _ b 2 v2 rfl)
theorem ne_list {s t : ByteArray} (h : s ≠ t) : (s.toList == t.toList) = false := by
  rw [beq_eq_false_iff_ne]
  intro e
  rw [ByteArray.toList_eq, ByteArray.toList_eq] at e
  exact h (ba_ext e)
theorem pair_info : (Tryd.prog.info? 45).map (·.size) = some 2 := by kernel_rfl
theorem pair_one (k s : ByteArray) : ∀ u ∈ [Value.string k, Value.string s], u.oneCell' = true := by
  intro u hu
  simp only [List.mem_cons, List.not_mem_nil, or_false] at hu
  rcases hu with rfl | rfl <;> rfl
set_option maxHeartbeats 4000000 in
theorem set_new {mb pb n : Nat} (g0 : w.cell? ⟨mb, 0, none⟩ = some (.map (some pb))) (hm : w.ownsMap Tryd.prog 9 prE pb n (.map [])) (hn : n ≤ 1000) (cl inc req op : Int) (v old : ByteArray) : Calls Tryd.prog 18 #[.pointer (some ⟨mb, 0, none⟩), .agg #[.int .i64 cl, .int .i64 inc, .int .i64 req, .int .i64 op, .string lead, .string v, .string old]] w fun e w' => e = .returned (.agg #[.int .i64 1, .string ⟨#[]⟩, .int .i64 0]) ∧ w'.ownsMap Tryd.prog 9 prE pb (n + 1) (mp v) ∧ Kept w w' (fun j => j = pb) := by
  obtain ⟨W0, hW0⟩ : ∃ X, w.alloc (.cells #[.int .i64 cl, .int .i64 inc, .int .i64 req, .int .i64 op, .string lead, .string v, .string old] 30) = X := ⟨_, rfl⟩
  obtain ⟨W, hW⟩ : ∃ X, W0.alloc (.cells #[.int .i64 0, .string ⟨#[]⟩, .int .i64 0] 27) = X := ⟨_, rfl⟩
  have hb0 : Below w.heap.size w W0 := by rw [← hW0]; exact balloc (Below.refl _ _)
  have hb1 : Below W0.heap.size W0 W := by rw [← hW]; exact balloc (Below.refl _ _)
  have HbW : Hid (Below w.heap.size w W) := bstep hb0 hb1
  have hc : W0.heap[w.heap.size]? = some (.cells #[.int .i64 cl, .int .i64 inc, .int .i64 req, .int .i64 op, .string lead, .string v, .string old] 30 (0, 0)) := by rw [← hW0]; exact heap_alloc_new w _
  have HcW : Hid (W.heap[w.heap.size]? = some (.cells #[.int .i64 cl, .int .i64 inc, .int .i64 req, .int .i64 op, .string lead, .string v, .string old] 30 (0, 0))) := (hb1.block _ (lt_heap hc)).trans hc
  have c4 : Hid (W.cell? ⟨w.heap.size, 4, none⟩ = some (.string lead)) := blk_cell HcW.out 4
  have HrW : Hid (W.heap[W0.heap.size]? = some (.cells #[.int .i64 0, .string ⟨#[]⟩, .int .i64 0] 27 (0, 0))) := by rw [← hW]; exact heap_alloc_new W0 _
  have hs0 : W0.heap.size = w.heap.size + 1 := by rw [← hW0]; simp
  have hs1 : W.heap.size = w.heap.size + 2 := by rw [← hW]; simp [hs0]
  have h0 : Hid (W.cell? ⟨mb, 0, none⟩ = some (.map (some pb))) := below_at HbW.out g0
  have HmW : Hid (W.ownsMap Tryd.prog 9 prE pb n (.map [])) := Om_below hm HbW.out
  have HLk : Hid (∀ w2, Below W.heap.size W w2 → (Instr.lookup 34 (.map (some pb)) (.string lead) true).run Tryd.prog w2 = .ok (.tuple #[.agg #[.string emp, .string emp], .bool false]) w2) := fun w2 hW2 => (look0 (Om_below HmW.out hW2))
  obtain ⟨A1, V, hA1, HTh, hV, HVr, HVb0⟩ := newvar W.drew 45 [.string ⟨#[]⟩, .string ⟨#[]⟩] [.string emp, .string emp] rfl
  have HA1 : Hid (Below W.heap.size W A1) := by rw [← hA1]; exact balloc (Below.refl _ W).drew
  have HVb : Hid (Below W.heap.size W V) := bstep (Below.refl _ W).drew HVb0.out
  have hz : W.drew.heap.size = w.heap.size + 2 := hs1
  rw [hz] at HTh hV HVr
  clear hz HVb0
  have HIf : Hid (∀ X, Below W.heap.size W X → Calls Tryd.prog 34 #[.pointer (some ⟨mb, 0, none⟩)] X fun e w' => e = .returned (.bool false) ∧ X = w') := fun X hX => isFull_no (below_at hX h0.out) (Om_below HmW.out hX)
  have HPu : Hid (∀ X, Below W.heap.size W X → Calls Tryd.prog 35 #[.pointer (some ⟨mb, 0, none⟩), .string lead, .string v] X fun e w' => e = .returned (.tuple #[]) ∧ w'.ownsMap Tryd.prog 9 prE pb (n + 1) (mp v) ∧ X.grownBy w' (some pb)) := fun X hX => (put_any (below_at hX h0.out) (Om_below HmW.out hX) hn v)
  have hpb : pb < w.heap.size := hm.lt
  clear g0 hm hb0 hb1 hc
  go_enter Tryd.func18, Tryd.ntmps18
  go_wp2_with (fail)
  refine wp_region_held_drew (S := (fun w' => Below W.heap.size W w')) (by kernel_rfl) (Below.refl _ W).drew (fun hHeld => ?_)
  simp only [Act.put, List.size_toArray, List.length_cons, List.length_nil, Nat.zero_add]
  refine wpAnyH_take (i := 0) (v := .pointer (some ⟨mb, 0, none⟩)) rfl (by kernel_rfl) (by kernel_rfl) (by kernel_rfl) (fun _ _ _ h => h) (Or.inl ⟨by rfl, fun w' hS => by go_simp⟩) hHeld ?_
  simp only [Act.put, List.getElem_toArray, List.getElem_cons_zero, List.getElem_cons_succ, List.setIfInBounds_toArray, List.set_cons_zero, List.set_cons_succ]
  refine wpAnyH_take (i := 1) (v := .pointer (some ⟨mb, 0, none⟩)) rfl (by kernel_rfl) (by kernel_rfl) (by kernel_rfl) (fun _ _ _ h => h) (Or.inl ⟨by rfl, fun w' hS => by go_simp⟩) hHeld ?_
  simp only [Act.put, List.getElem_toArray, List.getElem_cons_zero, List.getElem_cons_succ, List.setIfInBounds_toArray, List.set_cons_zero, List.set_cons_succ]
  refine wpAnyH_take (i := 2) (v := .pointer (some ⟨mb, 0, none⟩)) rfl (by kernel_rfl) (by kernel_rfl) (by kernel_rfl) (fun _ _ _ h => h) (Or.inl ⟨by rfl, fun w' hS => by go_simp⟩) hHeld ?_
  simp only [Act.put, List.getElem_toArray, List.getElem_cons_zero, List.getElem_cons_succ, List.setIfInBounds_toArray, List.set_cons_zero, List.set_cons_succ]
  refine wpAnyH_take (i := 3) (v := .map (some pb)) rfl (by kernel_rfl) (by kernel_rfl) (by kernel_rfl) (fun _ _ _ h => h) (Or.inl ⟨by rfl, fun w' hS => by (have s0 := below_at hS h0.out; go_simp)⟩) hHeld ?_
  simp only [Act.put, List.getElem_toArray, List.getElem_cons_zero, List.getElem_cons_succ, List.setIfInBounds_toArray, List.set_cons_zero, List.set_cons_succ]
  refine wpAnyH_take (i := 4) (v := .pointer (some ⟨w.heap.size, 4, none⟩)) rfl (by kernel_rfl) (by kernel_rfl) (by kernel_rfl) (fun _ _ _ h => h) (Or.inl ⟨by rfl, fun w' hS => by go_simp⟩) hHeld ?_
  simp only [Act.put, List.getElem_toArray, List.getElem_cons_zero, List.getElem_cons_succ, List.setIfInBounds_toArray, List.set_cons_zero, List.set_cons_succ]
  refine wpAnyH_take (i := 5) (v := .string lead) rfl (by kernel_rfl) (by kernel_rfl) (by kernel_rfl) (fun _ _ _ h => h) (Or.inl ⟨by rfl, fun w' hS => by (have s0 := below_at hS c4.out; go_simp)⟩) hHeld ?_
  simp only [Act.put, List.getElem_toArray, List.getElem_cons_zero, List.getElem_cons_succ, List.setIfInBounds_toArray, List.set_cons_zero, List.set_cons_succ]
  refine wpAnyH_take (i := 6) (v := .tuple #[.agg #[.string emp, .string emp], .bool false]) rfl (by kernel_rfl) (by kernel_rfl) (by kernel_rfl) (fun _ _ _ h => h) (Or.inl ⟨by rfl, fun w' hS => by (have s0 := HLk.out w' hS; go_simp)⟩) hHeld ?_
  simp only [Act.put, List.getElem_toArray, List.getElem_cons_zero, List.getElem_cons_succ, List.setIfInBounds_toArray, List.set_cons_zero, List.set_cons_succ]
  refine wpAnyH_take (i := 7) (v := .tuple #[.agg #[.string emp, .string emp], .bool false]) rfl (by kernel_rfl) (by kernel_rfl) (by kernel_rfl) (fun _ _ _ h => h) (Or.inl ⟨by rfl, fun w' hS => by go_simp⟩) hHeld ?_
  simp only [Act.put, List.getElem_toArray, List.getElem_cons_zero, List.getElem_cons_succ, List.setIfInBounds_toArray, List.set_cons_zero, List.set_cons_succ]
  refine wpAnyH_take (i := 8) (v := .agg #[.string emp, .string emp]) rfl (by kernel_rfl) (by kernel_rfl) (by kernel_rfl) (fun _ _ _ h => h) (Or.inl ⟨by rfl, fun w' hS => by go_simp⟩) hHeld ?_
  simp only [Act.put, List.getElem_toArray, List.getElem_cons_zero, List.getElem_cons_succ, List.setIfInBounds_toArray, List.set_cons_zero, List.set_cons_succ]
  refine wpAnyH_take (i := 9) (v := .bool false) rfl (by kernel_rfl) (by kernel_rfl) (by kernel_rfl) (fun _ _ _ h => h) (Or.inl ⟨by rfl, fun w' hS => by go_simp⟩) hHeld ?_
  simp only [Act.put, List.getElem_toArray, List.getElem_cons_zero, List.getElem_cons_succ, List.setIfInBounds_toArray, List.set_cons_zero, List.set_cons_succ]
  refine wpAnyH_ready (rs := [10]) (by kernel_rfl) (by simp) ?_
  refine AllReadyH.cons rfl (fun K hK => ?_) AllReadyH.nil
  go_simp
  (try rw [hA1])
  refine hK.out _ _ HA1.out (fun hHeld => ?_)
  clear hK K
  refine wpAnyH_ready (rs := [11]) (by kernel_rfl) (by simp) ?_
  refine AllReadyH.cons rfl (fun K hK => ?_) AllReadyH.nil
  rw [if_pos (by rfl)]
  refine wp_store_mid 45 (.tmp 5) (.tmp 15) rfl (w.heap.size + 2) 0 #[.string emp, .string emp] rfl rfl HTh.out pair_info (all_oneCell_toArray (pair_one _ _)) ?_
  rw [hV]
  refine hK.out _ _ HVb.out (fun hHeld => ?_)
  clear hK K
  refine wpAnyH_take (i := 12) (v := .bool false) rfl (by kernel_rfl) (by kernel_rfl) (by kernel_rfl) (fun _ _ _ h => h) (Or.inl ⟨by rfl, fun w' hS => by go_simp⟩) hHeld ?_
  simp only [Act.put, List.getElem_toArray, List.getElem_cons_zero, List.getElem_cons_succ, List.setIfInBounds_toArray, List.set_cons_zero, List.set_cons_succ]
  refine wpAnyH_done (by kernel_rfl) ?_ _
  clear hHeld
  have HrV : Hid (V.heap[w.heap.size + 1]? = some (.cells #[.int .i64 0, .string ⟨#[]⟩, .int .i64 0] 27 (0, 0))) := by
    have h1 := HrW.out
    rw [hs0] at h1
    exact (HVb.out.block _ (lt_heap h1)).trans h1
  have HcV : Hid (V.heap[w.heap.size]? = some (.cells #[.int .i64 cl, .int .i64 inc, .int .i64 req, .int .i64 op, .string lead, .string v, .string old] 30 (0, 0))) := (HVb.out.block _ (lt_heap HcW.out)).trans HcW.out
  have z4 := blk_cell HcV.out 4
  have z5 := blk_cell HcV.out 5
  simp only [List.getElem?_toArray, List.getElem?_cons_succ, List.getElem?_cons_zero] at z4 z5
  have HBV : Hid (Below w.heap.size w V) := bstep HbW.out HVb.out
  clear HLk hA1 HTh hV HA1 c4 HrW HcW
  go_wp2_with (first
    | (go_at_call 34; refine (HIf.out _ HVb.out).mono ?_; rintro e wx ⟨rfl, rfl⟩)
    | (go_at_call 35; refine (HPu.out _ HVb.out).mono ?_; rintro e w5 ⟨rfl, hm5, hg5⟩; have HM5 : Hid (w5.ownsMap Tryd.prog 9 prE pb (n + 1) (mp v)) := hm5; have HK5 : Hid (Kept V w5 (fun j => j = pb)) := (Kept.ofGrown hg5).mono (fun j _ e => by simpa using e); have HR5 : Hid (w5.heap[w.heap.size + 1]? = some (.cells #[.int .i64 0, .string ⟨#[]⟩, .int .i64 0] 27 (0, 0))) := HK5.out.obj HrV.out (by omega); have q0 := blk_cell HR5.out 0; have q1 := blk_cell HR5.out 1; have q2 := blk_cell HR5.out 2; simp only [List.getElem?_toArray, List.getElem?_cons_succ, List.getElem?_cons_zero] at q0 q1 q2; have f0 := frozen_of_row w5 _ 0 _ _ HR5.out; have f1 := frozen_of_row w5 _ 1 _ _ HR5.out; have f2 := frozen_of_row w5 _ 2 _ _ HR5.out; clear hm5 hg5)
    | fail)
  (try simp only [Exit.inBlock, Exit.then])
  refine bodyPost_ret (v := .agg #[.int .i64 1, .string ⟨#[]⟩, .int .i64 0]) (by simp [results, Tryd.results18, go_sem, q0, q1, q2]) rfl ⟨rfl, Om_keep HM5.out (set3_keep w5 (w.heap.size + 1) _ _ _) (by omega), ?_⟩
  exact ((Kept.ofBelow HBV.out _).step HK5.out (fun j hj => .inl hj)).step (set3_keep w5 (w.heap.size + 1) _ _ _) (fun j hj => .inr (by omega))
set_option maxHeartbeats 4000000 in
theorem cas_yes {mb pb n : Nat} {cur : ByteArray} (g0 : w.cell? ⟨mb, 0, none⟩ = some (.map (some pb))) (hm : w.ownsMap Tryd.prog 9 prE pb n (mp cur)) (hn : n ≤ 1000) (cl inc req op : Int) (v old : ByteArray) (hcur : cur = old) : Calls Tryd.prog 20 #[.pointer (some ⟨mb, 0, none⟩), .agg #[.int .i64 cl, .int .i64 inc, .int .i64 req, .int .i64 op, .string lead, .string v, .string old]] w fun e w' => e = .returned (.agg #[.int .i64 1, .string cur, .int .i64 1]) ∧ w'.ownsMap Tryd.prog 9 prE pb (n + 1) (mp v) ∧ Kept w w' (fun j => j = pb) := by
  subst hcur
  obtain ⟨W0, hW0⟩ : ∃ X, w.alloc (.cells #[.int .i64 cl, .int .i64 inc, .int .i64 req, .int .i64 op, .string lead, .string v, .string cur] 30) = X := ⟨_, rfl⟩
  obtain ⟨W, hW⟩ : ∃ X, W0.alloc (.cells #[.int .i64 0, .string ⟨#[]⟩, .int .i64 0] 27) = X := ⟨_, rfl⟩
  have hb0 : Below w.heap.size w W0 := by rw [← hW0]; exact balloc (Below.refl _ _)
  have hb1 : Below W0.heap.size W0 W := by rw [← hW]; exact balloc (Below.refl _ _)
  have HbW : Hid (Below w.heap.size w W) := bstep hb0 hb1
  have hc : W0.heap[w.heap.size]? = some (.cells #[.int .i64 cl, .int .i64 inc, .int .i64 req, .int .i64 op, .string lead, .string v, .string cur] 30 (0, 0)) := by rw [← hW0]; exact heap_alloc_new w _
  have HcW : Hid (W.heap[w.heap.size]? = some (.cells #[.int .i64 cl, .int .i64 inc, .int .i64 req, .int .i64 op, .string lead, .string v, .string cur] 30 (0, 0))) := (hb1.block _ (lt_heap hc)).trans hc
  have c4 : Hid (W.cell? ⟨w.heap.size, 4, none⟩ = some (.string lead)) := blk_cell HcW.out 4
  have HrW : Hid (W.heap[W0.heap.size]? = some (.cells #[.int .i64 0, .string ⟨#[]⟩, .int .i64 0] 27 (0, 0))) := by rw [← hW]; exact heap_alloc_new W0 _
  have hs0 : W0.heap.size = w.heap.size + 1 := by rw [← hW0]; simp
  have hs1 : W.heap.size = w.heap.size + 2 := by rw [← hW]; simp [hs0]
  have h0 : Hid (W.cell? ⟨mb, 0, none⟩ = some (.map (some pb))) := below_at HbW.out g0
  have HmW : Hid (W.ownsMap Tryd.prog 9 prE pb n (mp cur)) := Om_below hm HbW.out
  have HLk : Hid (∀ w2, Below W.heap.size W w2 → (Instr.lookup 34 (.map (some pb)) (.string lead) true).run Tryd.prog w2 = .ok (.tuple #[.agg #[.string lead, .string cur], .bool true]) w2) := fun w2 hW2 => (look1 (Om_below HmW.out hW2))
  obtain ⟨A1, V, hA1, HTh, hV, HVr, HVb0⟩ := newvar W.drew 45 [.string ⟨#[]⟩, .string ⟨#[]⟩] [.string lead, .string cur] rfl
  have HA1 : Hid (Below W.heap.size W A1) := by rw [← hA1]; exact balloc (Below.refl _ W).drew
  have HVb : Hid (Below W.heap.size W V) := bstep (Below.refl _ W).drew HVb0.out
  have hz : W.drew.heap.size = w.heap.size + 2 := hs1
  rw [hz] at HTh hV HVr
  clear hz HVb0
  have HPu : Hid (∀ X, Below W.heap.size W X → Calls Tryd.prog 35 #[.pointer (some ⟨mb, 0, none⟩), .string lead, .string v] X fun e w' => e = .returned (.tuple #[]) ∧ w'.ownsMap Tryd.prog 9 prE pb (n + 1) (mp v) ∧ X.grownBy w' (some pb)) := fun X hX => by
    have h1 := put_any (below_at hX h0.out) (Om_below HmW.out hX) hn v
    rw [put1] at h1
    exact h1
  have HTe : Hid (∀ X c, Calls Tryd.prog 36 #[.int .i64 c, .string cur] X fun e w' => e = .returned (.agg #[.int .i64 c, .string cur, .int .i64 1]) ∧ Below X.heap.size X w') := fun X c => telling_any c cur
  have hpb : pb < w.heap.size := hm.lt
  clear g0 hm hb0 hb1 hc
  go_enter Tryd.func20, Tryd.ntmps20
  go_wp2_with (fail)
  refine wp_region_held_drew (S := (fun w' => Below W.heap.size W w')) (by kernel_rfl) (Below.refl _ W).drew (fun hHeld => ?_)
  simp only [Act.put, List.size_toArray, List.length_cons, List.length_nil, Nat.zero_add]
  refine wpAnyH_take (i := 0) (v := .pointer (some ⟨mb, 0, none⟩)) rfl (by kernel_rfl) (by kernel_rfl) (by kernel_rfl) (fun _ _ _ h => h) (Or.inl ⟨by rfl, fun w' hS => by go_simp⟩) hHeld ?_
  simp only [Act.put, List.getElem_toArray, List.getElem_cons_zero, List.getElem_cons_succ, List.setIfInBounds_toArray, List.set_cons_zero, List.set_cons_succ]
  refine wpAnyH_take (i := 1) (v := .pointer (some ⟨mb, 0, none⟩)) rfl (by kernel_rfl) (by kernel_rfl) (by kernel_rfl) (fun _ _ _ h => h) (Or.inl ⟨by rfl, fun w' hS => by go_simp⟩) hHeld ?_
  simp only [Act.put, List.getElem_toArray, List.getElem_cons_zero, List.getElem_cons_succ, List.setIfInBounds_toArray, List.set_cons_zero, List.set_cons_succ]
  refine wpAnyH_take (i := 2) (v := .pointer (some ⟨mb, 0, none⟩)) rfl (by kernel_rfl) (by kernel_rfl) (by kernel_rfl) (fun _ _ _ h => h) (Or.inl ⟨by rfl, fun w' hS => by go_simp⟩) hHeld ?_
  simp only [Act.put, List.getElem_toArray, List.getElem_cons_zero, List.getElem_cons_succ, List.setIfInBounds_toArray, List.set_cons_zero, List.set_cons_succ]
  refine wpAnyH_take (i := 3) (v := .map (some pb)) rfl (by kernel_rfl) (by kernel_rfl) (by kernel_rfl) (fun _ _ _ h => h) (Or.inl ⟨by rfl, fun w' hS => by (have s0 := below_at hS h0.out; go_simp)⟩) hHeld ?_
  simp only [Act.put, List.getElem_toArray, List.getElem_cons_zero, List.getElem_cons_succ, List.setIfInBounds_toArray, List.set_cons_zero, List.set_cons_succ]
  refine wpAnyH_take (i := 4) (v := .pointer (some ⟨w.heap.size, 4, none⟩)) rfl (by kernel_rfl) (by kernel_rfl) (by kernel_rfl) (fun _ _ _ h => h) (Or.inl ⟨by rfl, fun w' hS => by go_simp⟩) hHeld ?_
  simp only [Act.put, List.getElem_toArray, List.getElem_cons_zero, List.getElem_cons_succ, List.setIfInBounds_toArray, List.set_cons_zero, List.set_cons_succ]
  refine wpAnyH_take (i := 5) (v := .string lead) rfl (by kernel_rfl) (by kernel_rfl) (by kernel_rfl) (fun _ _ _ h => h) (Or.inl ⟨by rfl, fun w' hS => by (have s0 := below_at hS c4.out; go_simp)⟩) hHeld ?_
  simp only [Act.put, List.getElem_toArray, List.getElem_cons_zero, List.getElem_cons_succ, List.setIfInBounds_toArray, List.set_cons_zero, List.set_cons_succ]
  refine wpAnyH_take (i := 6) (v := .tuple #[.agg #[.string lead, .string cur], .bool true]) rfl (by kernel_rfl) (by kernel_rfl) (by kernel_rfl) (fun _ _ _ h => h) (Or.inl ⟨by rfl, fun w' hS => by (have s0 := HLk.out w' hS; go_simp)⟩) hHeld ?_
  simp only [Act.put, List.getElem_toArray, List.getElem_cons_zero, List.getElem_cons_succ, List.setIfInBounds_toArray, List.set_cons_zero, List.set_cons_succ]
  refine wpAnyH_take (i := 7) (v := .tuple #[.agg #[.string lead, .string cur], .bool true]) rfl (by kernel_rfl) (by kernel_rfl) (by kernel_rfl) (fun _ _ _ h => h) (Or.inl ⟨by rfl, fun w' hS => by go_simp⟩) hHeld ?_
  simp only [Act.put, List.getElem_toArray, List.getElem_cons_zero, List.getElem_cons_succ, List.setIfInBounds_toArray, List.set_cons_zero, List.set_cons_succ]
  refine wpAnyH_take (i := 8) (v := .agg #[.string lead, .string cur]) rfl (by kernel_rfl) (by kernel_rfl) (by kernel_rfl) (fun _ _ _ h => h) (Or.inl ⟨by rfl, fun w' hS => by go_simp⟩) hHeld ?_
  simp only [Act.put, List.getElem_toArray, List.getElem_cons_zero, List.getElem_cons_succ, List.setIfInBounds_toArray, List.set_cons_zero, List.set_cons_succ]
  refine wpAnyH_take (i := 9) (v := .bool true) rfl (by kernel_rfl) (by kernel_rfl) (by kernel_rfl) (fun _ _ _ h => h) (Or.inl ⟨by rfl, fun w' hS => by go_simp⟩) hHeld ?_
  simp only [Act.put, List.getElem_toArray, List.getElem_cons_zero, List.getElem_cons_succ, List.setIfInBounds_toArray, List.set_cons_zero, List.set_cons_succ]
  refine wpAnyH_ready (rs := [10]) (by kernel_rfl) (by simp) ?_
  refine AllReadyH.cons rfl (fun K hK => ?_) AllReadyH.nil
  go_simp
  (try rw [hA1])
  refine hK.out _ _ HA1.out (fun hHeld => ?_)
  clear hK K
  refine wpAnyH_ready (rs := [11]) (by kernel_rfl) (by simp) ?_
  refine AllReadyH.cons rfl (fun K hK => ?_) AllReadyH.nil
  rw [if_pos (by rfl)]
  refine wp_store_mid 45 (.tmp 5) (.tmp 15) rfl (w.heap.size + 2) 0 #[.string lead, .string cur] rfl rfl HTh.out pair_info (all_oneCell_toArray (pair_one _ _)) ?_
  rw [hV]
  refine hK.out _ _ HVb.out (fun hHeld => ?_)
  clear hK K
  refine wpAnyH_take (i := 12) (v := .bool true) rfl (by kernel_rfl) (by kernel_rfl) (by kernel_rfl) (fun _ _ _ h => h) (Or.inl ⟨by rfl, fun w' hS => by go_simp⟩) hHeld ?_
  simp only [Act.put, List.getElem_toArray, List.getElem_cons_zero, List.getElem_cons_succ, List.setIfInBounds_toArray, List.set_cons_zero, List.set_cons_succ]
  refine wpAnyH_done (by kernel_rfl) ?_ _
  clear hHeld
  have HrV : Hid (V.heap[w.heap.size + 1]? = some (.cells #[.int .i64 0, .string ⟨#[]⟩, .int .i64 0] 27 (0, 0))) := by
    have h1 := HrW.out
    rw [hs0] at h1
    exact (HVb.out.block _ (lt_heap h1)).trans h1
  have HcV : Hid (V.heap[w.heap.size]? = some (.cells #[.int .i64 cl, .int .i64 inc, .int .i64 req, .int .i64 op, .string lead, .string v, .string cur] 30 (0, 0))) := (HVb.out.block _ (lt_heap HcW.out)).trans HcW.out
  have z4 := blk_cell HcV.out 4
  have z5 := blk_cell HcV.out 5
  have z6 := blk_cell HcV.out 6
  have z7 := blk_cell HVr.out 1
  simp only [List.getElem?_toArray, List.getElem?_cons_succ, List.getElem?_cons_zero] at z4 z5 z6 z7
  have HBV : Hid (Below w.heap.size w V) := bstep HbW.out HVb.out
  have HMV : Hid (V.ownsMap Tryd.prog 9 prE pb n (mp cur)) := Om_below HmW.out HVb.out
  clear HLk hA1 HTh hV HA1 c4 HrW HcW
  go_wp2_with (first
    | (go_at_call 35; refine (HPu.out _ HVb.out).mono ?_; rintro e w5 ⟨rfl, hm5, hg5⟩; have HM5 : Hid (w5.ownsMap Tryd.prog 9 prE pb (n + 1) (mp v)) := hm5; have HK5 : Hid (Kept V w5 (fun j => j = pb)) := (Kept.ofGrown hg5).mono (fun j _ e => by simpa using e); have HR5 : Hid (w5.heap[w.heap.size + 1]? = some (.cells #[.int .i64 0, .string ⟨#[]⟩, .int .i64 0] 27 (0, 0))) := HK5.out.obj HrV.out (by omega); have HP5 : Hid (w5.heap[w.heap.size + 2]? = some (.cells #[.string lead, .string cur] 45 (0, 0))) := HK5.out.obj HVr.out (by omega); have z8 := blk_cell HP5.out 1; simp only [List.getElem?_toArray, List.getElem?_cons_succ, List.getElem?_cons_zero] at z8; clear hm5 hg5)
    | (go_at_call 36; refine (HTe.out _ _).mono ?_; rintro e w6 ⟨rfl, hb6⟩; have HB6 : Hid (Below w5.heap.size w5 w6) := hb6; have HR6 : Hid (w6.heap[w.heap.size + 1]? = some (.cells #[.int .i64 0, .string ⟨#[]⟩, .int .i64 0] 27 (0, 0))) := (HB6.out.block _ (lt_heap HR5.out)).trans HR5.out; have q0 := blk_cell HR6.out 0; have q1 := blk_cell HR6.out 1; have q2 := blk_cell HR6.out 2; simp only [List.getElem?_toArray, List.getElem?_cons_succ, List.getElem?_cons_zero] at q0 q1 q2; have f0 := frozen_of_row w6 _ 0 _ _ HR6.out; have f1 := frozen_of_row w6 _ 1 _ _ HR6.out; have f2 := frozen_of_row w6 _ 2 _ _ HR6.out; clear hb6)
    | fail)
  (try simp only [Exit.inBlock, Exit.then])
  refine bodyPost_ret (v := .agg #[.int .i64 1, .string cur, .int .i64 1]) (by simp [results, Tryd.results20, go_sem, q0, q1, q2]) rfl ⟨rfl, Om_keep (Om_below HM5.out HB6.out) (set3_keep w6 (w.heap.size + 1) _ _ _) (by omega), ?_⟩
  exact (((Kept.ofBelow HBV.out _).step HK5.out (fun j hj => .inl hj)).trans (Kept.ofBelow HB6.out _)).step (set3_keep w6 (w.heap.size + 1) _ _ _) (fun j hj => .inr (by omega))
set_option maxHeartbeats 4000000 in
theorem cas_no {mb pb n : Nat} {cur : ByteArray} (g0 : w.cell? ⟨mb, 0, none⟩ = some (.map (some pb))) (hm : w.ownsMap Tryd.prog 9 prE pb n (mp cur)) (hn : n ≤ 1000) (cl inc req op : Int) (v old : ByteArray) (hcur : cur ≠ old) : Calls Tryd.prog 20 #[.pointer (some ⟨mb, 0, none⟩), .agg #[.int .i64 cl, .int .i64 inc, .int .i64 req, .int .i64 op, .string lead, .string v, .string old]] w fun e w' => e = .returned (.agg #[.int .i64 3, .string cur, .int .i64 1]) ∧ w'.ownsMap Tryd.prog 9 prE pb n (mp cur) ∧ Kept w w' (fun j => j = pb) := by
  obtain ⟨W0, hW0⟩ : ∃ X, w.alloc (.cells #[.int .i64 cl, .int .i64 inc, .int .i64 req, .int .i64 op, .string lead, .string v, .string old] 30) = X := ⟨_, rfl⟩
  obtain ⟨W, hW⟩ : ∃ X, W0.alloc (.cells #[.int .i64 0, .string ⟨#[]⟩, .int .i64 0] 27) = X := ⟨_, rfl⟩
  have hb0 : Below w.heap.size w W0 := by rw [← hW0]; exact balloc (Below.refl _ _)
  have hb1 : Below W0.heap.size W0 W := by rw [← hW]; exact balloc (Below.refl _ _)
  have HbW : Hid (Below w.heap.size w W) := bstep hb0 hb1
  have hc : W0.heap[w.heap.size]? = some (.cells #[.int .i64 cl, .int .i64 inc, .int .i64 req, .int .i64 op, .string lead, .string v, .string old] 30 (0, 0)) := by rw [← hW0]; exact heap_alloc_new w _
  have HcW : Hid (W.heap[w.heap.size]? = some (.cells #[.int .i64 cl, .int .i64 inc, .int .i64 req, .int .i64 op, .string lead, .string v, .string old] 30 (0, 0))) := (hb1.block _ (lt_heap hc)).trans hc
  have c4 : Hid (W.cell? ⟨w.heap.size, 4, none⟩ = some (.string lead)) := blk_cell HcW.out 4
  have HrW : Hid (W.heap[W0.heap.size]? = some (.cells #[.int .i64 0, .string ⟨#[]⟩, .int .i64 0] 27 (0, 0))) := by rw [← hW]; exact heap_alloc_new W0 _
  have hs0 : W0.heap.size = w.heap.size + 1 := by rw [← hW0]; simp
  have hs1 : W.heap.size = w.heap.size + 2 := by rw [← hW]; simp [hs0]
  have h0 : Hid (W.cell? ⟨mb, 0, none⟩ = some (.map (some pb))) := below_at HbW.out g0
  have HmW : Hid (W.ownsMap Tryd.prog 9 prE pb n (mp cur)) := Om_below hm HbW.out
  have HLk : Hid (∀ w2, Below W.heap.size W w2 → (Instr.lookup 34 (.map (some pb)) (.string lead) true).run Tryd.prog w2 = .ok (.tuple #[.agg #[.string lead, .string cur], .bool true]) w2) := fun w2 hW2 => (look1 (Om_below HmW.out hW2))
  obtain ⟨A1, V, hA1, HTh, hV, HVr, HVb0⟩ := newvar W.drew 45 [.string ⟨#[]⟩, .string ⟨#[]⟩] [.string lead, .string cur] rfl
  have HA1 : Hid (Below W.heap.size W A1) := by rw [← hA1]; exact balloc (Below.refl _ W).drew
  have HVb : Hid (Below W.heap.size W V) := bstep (Below.refl _ W).drew HVb0.out
  have hz : W.drew.heap.size = w.heap.size + 2 := hs1
  rw [hz] at HTh hV HVr
  clear hz HVb0
  have HPu : Hid (∀ X, Below W.heap.size W X → Calls Tryd.prog 35 #[.pointer (some ⟨mb, 0, none⟩), .string lead, .string v] X fun e w' => e = .returned (.tuple #[]) ∧ w'.ownsMap Tryd.prog 9 prE pb (n + 1) (mp v) ∧ X.grownBy w' (some pb)) := fun X hX => by
    have h1 := put_any (below_at hX h0.out) (Om_below HmW.out hX) hn v
    rw [put1] at h1
    exact h1
  have HTe : Hid (∀ X c, Calls Tryd.prog 36 #[.int .i64 c, .string cur] X fun e w' => e = .returned (.agg #[.int .i64 c, .string cur, .int .i64 1]) ∧ Below X.heap.size X w') := fun X c => telling_any c cur
  have hpb : pb < w.heap.size := hm.lt
  clear g0 hm hb0 hb1 hc
  go_enter Tryd.func20, Tryd.ntmps20
  go_wp2_with (fail)
  refine wp_region_held_drew (S := (fun w' => Below W.heap.size W w')) (by kernel_rfl) (Below.refl _ W).drew (fun hHeld => ?_)
  simp only [Act.put, List.size_toArray, List.length_cons, List.length_nil, Nat.zero_add]
  refine wpAnyH_take (i := 0) (v := .pointer (some ⟨mb, 0, none⟩)) rfl (by kernel_rfl) (by kernel_rfl) (by kernel_rfl) (fun _ _ _ h => h) (Or.inl ⟨by rfl, fun w' hS => by go_simp⟩) hHeld ?_
  simp only [Act.put, List.getElem_toArray, List.getElem_cons_zero, List.getElem_cons_succ, List.setIfInBounds_toArray, List.set_cons_zero, List.set_cons_succ]
  refine wpAnyH_take (i := 1) (v := .pointer (some ⟨mb, 0, none⟩)) rfl (by kernel_rfl) (by kernel_rfl) (by kernel_rfl) (fun _ _ _ h => h) (Or.inl ⟨by rfl, fun w' hS => by go_simp⟩) hHeld ?_
  simp only [Act.put, List.getElem_toArray, List.getElem_cons_zero, List.getElem_cons_succ, List.setIfInBounds_toArray, List.set_cons_zero, List.set_cons_succ]
  refine wpAnyH_take (i := 2) (v := .pointer (some ⟨mb, 0, none⟩)) rfl (by kernel_rfl) (by kernel_rfl) (by kernel_rfl) (fun _ _ _ h => h) (Or.inl ⟨by rfl, fun w' hS => by go_simp⟩) hHeld ?_
  simp only [Act.put, List.getElem_toArray, List.getElem_cons_zero, List.getElem_cons_succ, List.setIfInBounds_toArray, List.set_cons_zero, List.set_cons_succ]
  refine wpAnyH_take (i := 3) (v := .map (some pb)) rfl (by kernel_rfl) (by kernel_rfl) (by kernel_rfl) (fun _ _ _ h => h) (Or.inl ⟨by rfl, fun w' hS => by (have s0 := below_at hS h0.out; go_simp)⟩) hHeld ?_
  simp only [Act.put, List.getElem_toArray, List.getElem_cons_zero, List.getElem_cons_succ, List.setIfInBounds_toArray, List.set_cons_zero, List.set_cons_succ]
  refine wpAnyH_take (i := 4) (v := .pointer (some ⟨w.heap.size, 4, none⟩)) rfl (by kernel_rfl) (by kernel_rfl) (by kernel_rfl) (fun _ _ _ h => h) (Or.inl ⟨by rfl, fun w' hS => by go_simp⟩) hHeld ?_
  simp only [Act.put, List.getElem_toArray, List.getElem_cons_zero, List.getElem_cons_succ, List.setIfInBounds_toArray, List.set_cons_zero, List.set_cons_succ]
  refine wpAnyH_take (i := 5) (v := .string lead) rfl (by kernel_rfl) (by kernel_rfl) (by kernel_rfl) (fun _ _ _ h => h) (Or.inl ⟨by rfl, fun w' hS => by (have s0 := below_at hS c4.out; go_simp)⟩) hHeld ?_
  simp only [Act.put, List.getElem_toArray, List.getElem_cons_zero, List.getElem_cons_succ, List.setIfInBounds_toArray, List.set_cons_zero, List.set_cons_succ]
  refine wpAnyH_take (i := 6) (v := .tuple #[.agg #[.string lead, .string cur], .bool true]) rfl (by kernel_rfl) (by kernel_rfl) (by kernel_rfl) (fun _ _ _ h => h) (Or.inl ⟨by rfl, fun w' hS => by (have s0 := HLk.out w' hS; go_simp)⟩) hHeld ?_
  simp only [Act.put, List.getElem_toArray, List.getElem_cons_zero, List.getElem_cons_succ, List.setIfInBounds_toArray, List.set_cons_zero, List.set_cons_succ]
  refine wpAnyH_take (i := 7) (v := .tuple #[.agg #[.string lead, .string cur], .bool true]) rfl (by kernel_rfl) (by kernel_rfl) (by kernel_rfl) (fun _ _ _ h => h) (Or.inl ⟨by rfl, fun w' hS => by go_simp⟩) hHeld ?_
  simp only [Act.put, List.getElem_toArray, List.getElem_cons_zero, List.getElem_cons_succ, List.setIfInBounds_toArray, List.set_cons_zero, List.set_cons_succ]
  refine wpAnyH_take (i := 8) (v := .agg #[.string lead, .string cur]) rfl (by kernel_rfl) (by kernel_rfl) (by kernel_rfl) (fun _ _ _ h => h) (Or.inl ⟨by rfl, fun w' hS => by go_simp⟩) hHeld ?_
  simp only [Act.put, List.getElem_toArray, List.getElem_cons_zero, List.getElem_cons_succ, List.setIfInBounds_toArray, List.set_cons_zero, List.set_cons_succ]
  refine wpAnyH_take (i := 9) (v := .bool true) rfl (by kernel_rfl) (by kernel_rfl) (by kernel_rfl) (fun _ _ _ h => h) (Or.inl ⟨by rfl, fun w' hS => by go_simp⟩) hHeld ?_
  simp only [Act.put, List.getElem_toArray, List.getElem_cons_zero, List.getElem_cons_succ, List.setIfInBounds_toArray, List.set_cons_zero, List.set_cons_succ]
  refine wpAnyH_ready (rs := [10]) (by kernel_rfl) (by simp) ?_
  refine AllReadyH.cons rfl (fun K hK => ?_) AllReadyH.nil
  go_simp
  (try rw [hA1])
  refine hK.out _ _ HA1.out (fun hHeld => ?_)
  clear hK K
  refine wpAnyH_ready (rs := [11]) (by kernel_rfl) (by simp) ?_
  refine AllReadyH.cons rfl (fun K hK => ?_) AllReadyH.nil
  rw [if_pos (by rfl)]
  refine wp_store_mid 45 (.tmp 5) (.tmp 15) rfl (w.heap.size + 2) 0 #[.string lead, .string cur] rfl rfl HTh.out pair_info (all_oneCell_toArray (pair_one _ _)) ?_
  rw [hV]
  refine hK.out _ _ HVb.out (fun hHeld => ?_)
  clear hK K
  refine wpAnyH_take (i := 12) (v := .bool true) rfl (by kernel_rfl) (by kernel_rfl) (by kernel_rfl) (fun _ _ _ h => h) (Or.inl ⟨by rfl, fun w' hS => by go_simp⟩) hHeld ?_
  simp only [Act.put, List.getElem_toArray, List.getElem_cons_zero, List.getElem_cons_succ, List.setIfInBounds_toArray, List.set_cons_zero, List.set_cons_succ]
  refine wpAnyH_done (by kernel_rfl) ?_ _
  clear hHeld
  have HrV : Hid (V.heap[w.heap.size + 1]? = some (.cells #[.int .i64 0, .string ⟨#[]⟩, .int .i64 0] 27 (0, 0))) := by
    have h1 := HrW.out
    rw [hs0] at h1
    exact (HVb.out.block _ (lt_heap h1)).trans h1
  have HcV : Hid (V.heap[w.heap.size]? = some (.cells #[.int .i64 cl, .int .i64 inc, .int .i64 req, .int .i64 op, .string lead, .string v, .string old] 30 (0, 0))) := (HVb.out.block _ (lt_heap HcW.out)).trans HcW.out
  have z4 := blk_cell HcV.out 4
  have z5 := blk_cell HcV.out 5
  have z6 := blk_cell HcV.out 6
  have z7 := blk_cell HVr.out 1
  simp only [List.getElem?_toArray, List.getElem?_cons_succ, List.getElem?_cons_zero] at z4 z5 z6 z7
  have HBV : Hid (Below w.heap.size w V) := bstep HbW.out HVb.out
  have HMV : Hid (V.ownsMap Tryd.prog 9 prE pb n (mp cur)) := Om_below HmW.out HVb.out
  clear HLk hA1 HTh hV HA1 c4 HrW HcW
  have hne := ne_list hcur
  clear hcur
  obtain ⟨w5, hw5⟩ : ∃ X, X = V := ⟨_, rfl⟩
  have HM5 : Hid (w5.ownsMap Tryd.prog 9 prE pb n (mp cur)) := by rw [hw5]; exact HMV.out
  have HK5 : Hid (Kept V w5 (fun j => j = pb)) := by rw [hw5]; exact Kept.refl _ _
  have HR5 : Hid (w5.heap[w.heap.size + 1]? = some (.cells #[.int .i64 0, .string ⟨#[]⟩, .int .i64 0] 27 (0, 0))) := by rw [hw5]; exact HrV.out
  subst hw5
  go_wp2_with (first
    | (go_at_call 36; refine (HTe.out _ _).mono ?_; rintro e w6 ⟨rfl, hb6⟩; have HB6 : Hid (Below w5.heap.size w5 w6) := hb6; have HR6 : Hid (w6.heap[w.heap.size + 1]? = some (.cells #[.int .i64 0, .string ⟨#[]⟩, .int .i64 0] 27 (0, 0))) := (HB6.out.block _ (lt_heap HR5.out)).trans HR5.out; have q0 := blk_cell HR6.out 0; have q1 := blk_cell HR6.out 1; have q2 := blk_cell HR6.out 2; simp only [List.getElem?_toArray, List.getElem?_cons_succ, List.getElem?_cons_zero] at q0 q1 q2; have f0 := frozen_of_row w6 _ 0 _ _ HR6.out; have f1 := frozen_of_row w6 _ 1 _ _ HR6.out; have f2 := frozen_of_row w6 _ 2 _ _ HR6.out; clear hb6)
    | fail)
  (try simp only [Exit.inBlock, Exit.then])
  refine bodyPost_ret (v := .agg #[.int .i64 3, .string cur, .int .i64 1]) (by simp [results, Tryd.results20, go_sem, q0, q1, q2]) rfl ⟨rfl, Om_keep (Om_below HM5.out HB6.out) (set3_keep w6 (w.heap.size + 1) _ _ _) (by omega), ?_⟩
  exact (((Kept.ofBelow HBV.out _).step HK5.out (fun j hj => .inl hj)).trans (Kept.ofBelow HB6.out _)).step (set3_keep w6 (w.heap.size + 1) _ _ _) (fun j hj => .inr (by omega))
end
end Go.Proofs.YtpgckdbjedepcaaDoor.Mh
