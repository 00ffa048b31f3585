import Derived.Test.YtpgckdbjedepcaaDoorMhk
namespace Go.Proofs.YtpgckdbjedepcaaDoor.Mh
open Go.RowKit Mb Go.Maps
set_option linter.unusedVariables false
set_option maxRecDepth 100000
set_option linter.unusedSimpArgs false
section
variable {w w' W : World} {B : Nat}
set_option maxHeartbeats 8000000 in
theorem apply_new {mb pb lb n n' : Nat} {f f' : Nat → Value} {D D' : DataW Unit} (h : Ms w mb pb lb n f D) {q : Nat} (hq : q < 16) {inc req op c0 n0 a r : Int} {v old s0 : ByteArray} (e0 : f (3 + q * 5) = .int .i64 a) (e1 : f (3 + q * 5 + 1) = .int .i64 r) (hnew : a < inc ∨ (a = inc ∧ r < req))
    (hck : ∀ X : World, Calls Tryd.prog 7 #[.agg #[.int .i64 (q : Int), .int .i64 inc, .int .i64 req, .int .i64 op, .string lead, .string v, .string old]] X fun e w' => e = .returned (.int .i64 0) ∧ Below X.heap.size X w') (hcp : ∀ X : World, Calls Tryd.prog 9 #[.agg #[.int .i64 (q : Int), .int .i64 inc, .int .i64 req, .int .i64 op, .string lead, .string v, .string old]] X fun e w' => e = .returned (.agg #[.int .i64 (q : Int), .int .i64 inc, .int .i64 req, .int .i64 op, .string lead, .string v, .string old]) ∧ Below X.heap.size X w') (hca : ∀ X : World, Ms X mb pb lb n f D → Calls Tryd.prog 8 #[.pointer (some ⟨mb, 0, none⟩), .agg #[.int .i64 (q : Int), .int .i64 inc, .int .i64 req, .int .i64 op, .string lead, .string v, .string old]] X fun e w' => e = .returned (.agg #[.int .i64 c0, .string s0, .int .i64 n0]) ∧ Ms w' mb pb lb n' f' D' ∧ Kept X w' (fun j => j = mb ∨ j = pb)) :
    Calls Tryd.prog 5 #[.pointer (some ⟨mb, 0, none⟩), .agg #[.int .i64 (q : Int), .int .i64 inc, .int .i64 req, .int .i64 op, .string lead, .string v, .string old]] w fun e w' => e = .returned (.agg #[.int .i64 c0, .string s0, .int .i64 n0]) ∧ Ms w' mb pb lb n' f' D' ∧ Kept w w' (fun j => j = mb ∨ j = pb) := by
  obtain ⟨W0, hW0⟩ : ∃ X, w.alloc (.cells #[.int .i64 (q : Int), .int .i64 inc, .int .i64 req, .int .i64 op, .string lead, .string v, .string old] 30) = X := ⟨_, rfl⟩
  obtain ⟨W, hW⟩ : ∃ X, W0.alloc (.cells #[.int .i64 0, .string ⟨#[]⟩, .int .i64 0] 27) = X := ⟨_, rfl⟩
  have hb0 : Below w.heap.size w W0 := by rw [← hW0]; exact balloc (Below.refl _ _)
  have hb1 : Below W0.heap.size W0 W := by rw [← hW]; exact balloc (Below.refl _ _)
  have hs0 : W0.heap.size = w.heap.size + 1 := by rw [← hW0]; simp
  have hc : W0.heap[w.heap.size]? = some (.cells #[.int .i64 (q : Int), .int .i64 inc, .int .i64 req, .int .i64 op, .string lead, .string v, .string old] 30 (0, 0)) := by rw [← hW0]; exact heap_alloc_new w _
  have hz : W.heap[W0.heap.size]? = some (.cells #[.int .i64 0, .string ⟨#[]⟩, .int .i64 0] 27 (0, 0)) := by rw [← hW]; exact heap_alloc_new W0 _
  rw [hs0] at hz
  have HbW : Hid (Below w.heap.size w W) := bstep hb0 hb1
  have HcW : Hid (W.heap[w.heap.size]? = some (.cells #[.int .i64 (q : Int), .int .i64 inc, .int .i64 req, .int .i64 op, .string lead, .string v, .string old] 30 (0, 0))) := (hb1.block _ (lt_heap hc)).trans hc
  have HPW : Hid (Pf w mb pb lb n f D #[.int .i64 (q : Int), .int .i64 inc, .int .i64 req, .int .i64 op, .string lead, .string v, .string old] #[.int .i64 0, .string ⟨#[]⟩, .int .i64 0] W) := ⟨Kept.ofBelow HbW.out _, HcW.out, hz, h.still HbW.out⟩
  have Hlt : Hid (mb < w.heap.size ∧ pb < w.heap.size ∧ lb < w.heap.size) := ⟨h.blk.lt, h.pm.lt, h.lm.lt⟩
  obtain ⟨a', r', cd, nn, vl, g0, g1, g2, g3, g4⟩ := h.ss q hq
  obtain rfl : a' = a := by rw [e0] at g0; cases g0; rfl
  obtain rfl : r' = r := by rw [e1] at g1; cases g1; rfl
  have HCk : Hid (∀ X : World, Calls Tryd.prog 7 #[.agg #[.int .i64 (q : Int), .int .i64 inc, .int .i64 req, .int .i64 op, .string lead, .string v, .string old]] X fun e w' => e = .returned (.int .i64 0) ∧ Below X.heap.size X w') := hck
  have HCp : Hid (∀ X : World, Calls Tryd.prog 9 #[.agg #[.int .i64 (q : Int), .int .i64 inc, .int .i64 req, .int .i64 op, .string lead, .string v, .string old]] X fun e w' => e = .returned (.agg #[.int .i64 (q : Int), .int .i64 inc, .int .i64 req, .int .i64 op, .string lead, .string v, .string old]) ∧ Below X.heap.size X w') := hcp
  have HCa : Hid (∀ X : World, Ms X mb pb lb n f D → Calls Tryd.prog 8 #[.pointer (some ⟨mb, 0, none⟩), .agg #[.int .i64 (q : Int), .int .i64 inc, .int .i64 req, .int .i64 op, .string lead, .string v, .string old]] X fun e w' => e = .returned (.agg #[.int .i64 c0, .string s0, .int .i64 n0]) ∧ Ms w' mb pb lb n' f' D' ∧ Kept X w' (fun j => j = mb ∨ j = pb)) := hca
  have HSs : Hid (∀ X, Ms X mb pb lb n f D → X.rangeAt mb (3 + q * 5) [.int .i64 a', .int .i64 r', .int .i64 cd, .string vl, .int .i64 nn]) := fun X hX => hX.blk.range (3 + q * 5) _ (fun j u hu => by
    match j, hu with
    | 0, hu => cases hu; exact ⟨by omega, g0⟩
    | 1, hu => cases hu; exact ⟨by omega, g1⟩
    | 2, hu => cases hu; exact ⟨by omega, g2⟩
    | 3, hu => cases hu; exact ⟨by omega, g3⟩
    | 4, hu => cases hu; exact ⟨by omega, g4⟩
    | j + 5, hu => simp at hu)
  have hq1 : (q : Int) < 16 := by omega
  have hq0 : (0 : Int) ≤ (q : Int) := Int.natCast_nonneg _
  have HRg : Hid (W.rangeAt w.heap.size 0 [.int .i64 (q : Int), .int .i64 inc, .int .i64 req, .int .i64 op, .string lead, .string v, .string old]) := blk_range HcW.out
  clear hb0 hb1 hc hz h e0 e1 g0 g1 g2 g3 g4 hck hcp hca HcW
  go_enter Tryd.func5, Tryd.ntmps5
  go_wp2_with (first
    | (refine load_mid 30 (.tmp 3) HRg.out _ Tryd.underlying30 rfl cmd_info rfl rfl rfl ?_)
    | (go_at_call 7; refine (HCk.out _).mono ?_; rintro e X1 ⟨rfl, hb1⟩; have HP1 : Hid (Pf w mb pb lb n f D #[.int .i64 (q : Int), .int .i64 inc, .int .i64 req, .int .i64 op, .string lead, .string v, .string old] #[.int .i64 0, .string ⟨#[]⟩, .int .i64 0] X1) := HPW.out.still hb1; clear hb1)
    | fail)
  refine wp_region_held_drew (S := (fun w' => Pf w mb pb lb n f D #[.int .i64 (q : Int), .int .i64 inc, .int .i64 req, .int .i64 op, .string lead, .string v, .string old] #[.int .i64 0, .string ⟨#[]⟩, .int .i64 0] w')) (by kernel_rfl) (HP1.out.still (Below.refl _ X1).drew) (fun hHeld => ?_)
  simp only [Act.put, List.size_toArray, List.length_cons, List.length_nil, Nat.zero_add]
  refine wpAnyH_take (i := 0) (v := .pointer (some ⟨mb, 0, none⟩)) rfl (by kernel_rfl) (by kernel_rfl) (by kernel_rfl) (fun _ _ _ h => h) (Or.inl ⟨by rfl, fun w' hS => by go_simp⟩) hHeld ?_
  simp only [Act.put, List.getElem_toArray, List.getElem_cons_zero, List.getElem_cons_succ, List.setIfInBounds_toArray, List.set_cons_zero, List.set_cons_succ]
  refine wpAnyH_take (i := 1) (v := .pointer (some ⟨w.heap.size, 0, none⟩)) rfl (by kernel_rfl) (by kernel_rfl) (by kernel_rfl) (fun _ _ _ h => h) (Or.inl ⟨by rfl, fun w' hS => by go_simp⟩) hHeld ?_
  simp only [Act.put, List.getElem_toArray, List.getElem_cons_zero, List.getElem_cons_succ, List.setIfInBounds_toArray, List.set_cons_zero, List.set_cons_succ]
  refine wpAnyH_take (i := 2) (v := .int .i64 (q : Int)) rfl (by kernel_rfl) (by kernel_rfl) (by kernel_rfl) (fun _ _ _ h => h) (Or.inl ⟨by rfl, fun w' hS => by (have s0 := blk_cell hS.cm 0; simp only [List.getElem?_toArray, List.getElem?_cons_succ, List.getElem?_cons_zero] at s0; go_simp)⟩) hHeld ?_
  simp only [Act.put, List.getElem_toArray, List.getElem_cons_zero, List.getElem_cons_succ, List.setIfInBounds_toArray, List.set_cons_zero, List.set_cons_succ]
  refine wpAnyH_take (i := 3) (v := .pointer (some ⟨mb, 0, none⟩)) rfl (by kernel_rfl) (by kernel_rfl) (by kernel_rfl) (fun _ _ _ h => h) (Or.inl ⟨by rfl, fun w' hS => by go_simp⟩) hHeld ?_
  simp only [Act.put, List.getElem_toArray, List.getElem_cons_zero, List.getElem_cons_succ, List.setIfInBounds_toArray, List.set_cons_zero, List.set_cons_succ]
  refine wpAnyH_take (i := 4) (v := .pointer (some ⟨mb, 3, none⟩)) rfl (by kernel_rfl) (by kernel_rfl) (by kernel_rfl) (fun _ _ _ h => h) (Or.inl ⟨by rfl, fun w' hS => by go_simp⟩) hHeld ?_
  simp only [Act.put, List.getElem_toArray, List.getElem_cons_zero, List.getElem_cons_succ, List.setIfInBounds_toArray, List.set_cons_zero, List.set_cons_succ]
  refine wpAnyH_take (i := 5) (v := .pointer (some ⟨mb, 3 + q * 5, none⟩)) rfl (by kernel_rfl) (by kernel_rfl) (by kernel_rfl) (fun _ _ _ h => h) (Or.inl ⟨by rfl, fun w' hS => by go_simp⟩) hHeld ?_
  simp only [Act.put, List.getElem_toArray, List.getElem_cons_zero, List.getElem_cons_succ, List.setIfInBounds_toArray, List.set_cons_zero, List.set_cons_succ]
  refine wpAnyH_take (i := 6) (v := .agg #[.int .i64 a', .int .i64 r', .int .i64 cd, .string vl, .int .i64 nn]) rfl (by kernel_rfl) (by kernel_rfl) (by kernel_rfl) (fun _ _ _ h => h) (yieldsIf_load_mid rfl 37 (.tmp 15) rfl mb (3 + q * 5) rfl [.int .i64 a', .int .i64 r', .int .i64 cd, .string vl, .int .i64 nn] _ (fun w' hS => HSs.out _ hS.ms) Tryd.underlying37 rfl sess_info) hHeld ?_
  simp only [Act.put, List.getElem_toArray, List.getElem_cons_zero, List.getElem_cons_succ, List.setIfInBounds_toArray, List.set_cons_zero, List.set_cons_succ]
  obtain ⟨A1, V, hA1, HTh, hV, HVr, HVb0⟩ := newvar X1.drew 37 [.int .i64 0, .int .i64 0, .int .i64 0, .string ⟨#[]⟩, .int .i64 0] [.int .i64 a', .int .i64 r', .int .i64 cd, .string vl, .int .i64 nn] rfl
  have hz9 : X1.drew.heap.size = X1.heap.size := rfl
  rw [hz9] at HTh hV HVr
  clear hz9
  have HA1 : Hid (Pf w mb pb lb n f D #[.int .i64 (q : Int), .int .i64 inc, .int .i64 req, .int .i64 op, .string lead, .string v, .string old] #[.int .i64 0, .string ⟨#[]⟩, .int .i64 0] A1) := by rw [← hA1]; exact HP1.out.still (balloc (Below.refl _ X1).drew)
  have HPV : Hid (Pf w mb pb lb n f D #[.int .i64 (q : Int), .int .i64 inc, .int .i64 req, .int .i64 op, .string lead, .string v, .string old] #[.int .i64 0, .string ⟨#[]⟩, .int .i64 0] V) := (HP1.out.still (Below.refl _ X1).drew).still HVb0.out
  refine wpAnyH_ready (rs := [7]) (by kernel_rfl) (by simp) ?_
  refine AllReadyH.cons rfl (fun K hK => ?_) AllReadyH.nil
  go_simp
  (try rw [hA1])
  refine hK.out _ _ HA1.out (fun hHeld => ?_)
  clear hK K
  refine wpAnyH_ready (rs := [8]) (by kernel_rfl) (by simp) ?_
  refine AllReadyH.cons rfl (fun K hK => ?_) AllReadyH.nil
  rw [if_pos (by rfl)]
  refine wp_store_mid 37 (.tmp 5) (.tmp 16) rfl X1.heap.size 0 #[.int .i64 a', .int .i64 r', .int .i64 cd, .string vl, .int .i64 nn] rfl rfl HTh.out sess_info (all_oneCell_toArray (sess_one _ _ _ _ _)) ?_
  rw [hV]
  refine hK.out _ _ HPV.out (fun hHeld => ?_)
  clear hK K
  refine wpAnyH_done (by kernel_rfl) ?_ _
  clear hHeld
  have z0 := blk_cell HVr.out 0
  have z1 := blk_cell HVr.out 1
  have y1 := blk_cell HPV.out.cm 1
  have y2 := blk_cell HPV.out.cm 2
  simp only [List.getElem?_toArray, List.getElem?_cons_succ, List.getElem?_cons_zero] at z0 z1 y1 y2
  have HRv : Hid (V.rangeAt w.heap.size 0 [.int .i64 (q : Int), .int .i64 inc, .int .i64 req, .int .i64 op, .string lead, .string v, .string old]) := blk_range HPV.out.cm
  have HFin : Hid (∀ X2 X3 : World, Below V.heap.size V X2 → Kept X2 X3 (fun j => j = mb ∨ j = pb) → Ms X3 mb pb lb n' f' D' → X3.heap[w.heap.size + 1]? = some (.cells #[.int .i64 0, .string ⟨#[]⟩, .int .i64 0] 27 (0, 0)) ∧ ∀ U, X3.setCells (w.heap.size + 1) 0 [.int .i64 c0, .string s0, .int .i64 n0] = U → Ms U mb pb lb n' f' D' ∧ Kept w U (fun j => j = mb ∨ j = pb) ∧ U.heap[w.heap.size + 1]? = some (.cells #[.int .i64 c0, .string s0, .int .i64 n0] 27 (0, 0))) := fun X2 X3 hb hk hm => by
    have h2 := HPV.out.still hb
    have h3 : X3.heap[w.heap.size + 1]? = some (.cells #[.int .i64 0, .string ⟨#[]⟩, .int .i64 0] 27 (0, 0)) := hk.obj h2.zr (by have := Hlt.out; omega)
    refine ⟨h3, fun U hU => ?_⟩
    have k : Kept X3 U (fun j => j = w.heap.size + 1) := by rw [← hU]; exact ksets (P := fun j => j = w.heap.size + 1) rfl _ _ _
    refine ⟨hm.keep k (by have := Hlt.out; omega) (by have := Hlt.out; omega) (by have := Hlt.out; omega), ?_, by rw [← hU]; exact sets_whole h3 rfl⟩
    exact ((h2.kp.mono (fun j _ e => Or.inr e)).step hk (fun j hj => .inl hj)).step k (fun j hj => .inr (by omega))
  clear hA1 HTh hV HA1 HVb0 HPW HP1 HSs HRg HbW HVr
  rcases hnew with hlt | ⟨heq, hlt⟩
  · have k1 : ¬ inc < a' := by omega
    have k2 : (a' == inc) = false := by rw [beq_eq_false_iff_ne]; omega
    clear hlt
    go_wp2_with (first
      | (refine load_mid 30 (.tmp 3) HRv.out _ Tryd.underlying30 rfl cmd_info rfl rfl rfl ?_)
      | (go_at_call 9; refine (HCp.out _).mono ?_; rintro e X2 ⟨rfl, hb2⟩; have HB2 : Hid (Below V.heap.size V X2) := hb2; clear hb2)
      | (go_at_call 8; refine (HCa.out _ (HPV.out.ms.still HB2.out)).mono ?_; rintro e X3 ⟨rfl, hm3, hk3⟩; obtain ⟨hz3, hf3⟩ := HFin.out X2 X3 HB2.out hk3 hm3; obtain ⟨U, hU⟩ : ∃ X, X3.setCells (w.heap.size + 1) 0 [.int .i64 c0, .string s0, .int .i64 n0] = X := ⟨_, rfl⟩; have HF3 : Hid (Ms U mb pb lb n' f' D' ∧ Kept w U (fun j => j = mb ∨ j = pb) ∧ U.heap[w.heap.size + 1]? = some (.cells #[.int .i64 c0, .string s0, .int .i64 n0] 27 (0, 0))) := hf3 U hU; have HTh3 : Hid (X3.there (w.heap.size + 1) 0 3) := blk_there hz3 rfl; clear hm3 hk3 hz3 hf3)
      | (refine store_rowL (L := [.int .i64 c0, .string s0, .int .i64 n0]) 27 (.tmp 4) (.tmp 54) HTh3.out res_info (res_one _ _ _) rfl rfl rfl rfl ?_; rw [hU])
      | fail)
    (try simp only [Exit.inBlock, Exit.then])
    exact bodyPost_ret (results_cell (b := w.heap.size + 1) Tryd.results5 rfl (blk_range (L := [.int .i64 c0, .string s0, .int .i64 n0]) HF3.out.2.2) _ Tryd.underlying27 rfl res_info) rfl ⟨rfl, HF3.out.1, HF3.out.2.1⟩
  · subst heq
    have k1 : ¬ a' < a' := by omega
    have k3 : ¬ req < r' := by omega
    have k4 : (r' == req) = false := by rw [beq_eq_false_iff_ne]; omega
    clear hlt
    go_wp2_with (first
      | (refine load_mid 30 (.tmp 3) HRv.out _ Tryd.underlying30 rfl cmd_info rfl rfl rfl ?_)
      | (go_at_call 9; refine (HCp.out _).mono ?_; rintro e X2 ⟨rfl, hb2⟩; have HB2 : Hid (Below V.heap.size V X2) := hb2; clear hb2)
      | (go_at_call 8; refine (HCa.out _ (HPV.out.ms.still HB2.out)).mono ?_; rintro e X3 ⟨rfl, hm3, hk3⟩; obtain ⟨hz3, hf3⟩ := HFin.out X2 X3 HB2.out hk3 hm3; obtain ⟨U, hU⟩ : ∃ X, X3.setCells (w.heap.size + 1) 0 [.int .i64 c0, .string s0, .int .i64 n0] = X := ⟨_, rfl⟩; have HF3 : Hid (Ms U mb pb lb n' f' D' ∧ Kept w U (fun j => j = mb ∨ j = pb) ∧ U.heap[w.heap.size + 1]? = some (.cells #[.int .i64 c0, .string s0, .int .i64 n0] 27 (0, 0))) := hf3 U hU; have HTh3 : Hid (X3.there (w.heap.size + 1) 0 3) := blk_there hz3 rfl; clear hm3 hk3 hz3 hf3)
      | (refine store_rowL (L := [.int .i64 c0, .string s0, .int .i64 n0]) 27 (.tmp 4) (.tmp 54) HTh3.out res_info (res_one _ _ _) rfl rfl rfl rfl ?_; rw [hU])
      | fail)
    (try simp only [Exit.inBlock, Exit.then])
    exact bodyPost_ret (results_cell (b := w.heap.size + 1) Tryd.results5 rfl (blk_range (L := [.int .i64 c0, .string s0, .int .i64 n0]) HF3.out.2.2) _ Tryd.underlying27 rfl res_info) rfl ⟨rfl, HF3.out.1, HF3.out.2.1⟩
end
end Go.Proofs.YtpgckdbjedepcaaDoor.Mh
