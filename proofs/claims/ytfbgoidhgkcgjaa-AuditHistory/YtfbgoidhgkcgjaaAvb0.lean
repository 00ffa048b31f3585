import Derived.Test.YtfbgoidhgkcgjaaAva
import Derived.Test.YtfbgoidhgkcgjaaAvl
namespace Go.Proofs.Ytfbgoidhgkcgjaa.Mh
open Go.RowKit Mb Ln Go.Maps
set_option linter.unusedVariables false
set_option maxRecDepth 100000
set_option linter.unusedSimpArgs false
section
variable {w w' W : World} {B : Nat}
theorem slclone_any (s : ByteArray) (h : s.size ≤ 281474976710656) : Calls Try.prog 20 #[.string s] w fun e w' => e = .returned (.string s) ∧ Below w.heap.size w w' := Go.Proofs.AnyPu.stringslite_Clone Try.cloneL s w (by omega)
theorem clone_any (s : ByteArray) (h : s.size ≤ 281474976710656) : Calls Try.prog 18 #[.string s] w fun e w' => e = .returned (.string s) ∧ Below w.heap.size w w' := by
  have H := slclone_any (w := w) s h
  go_enter Try.func18, Try.ntmps18
  go_wp2_with (fail)
  refine H.mono ?_
  rintro e w1 ⟨rfl, hb⟩
  go_wp2
  go_ret
  exact ⟨rfl, hb⟩
structure Cs (w : World) (C Z : Array Value) (w' : World) : Prop where
  b : Below w.heap.size w w'
  c : w'.heap[w.heap.size]? = some (.cells C 38 (0, 0))
  z : w'.heap[w.heap.size + 1]? = some (.cells Z 38 (0, 0))
theorem Cs.still {C Z : Array Value} {X : World} (h : Cs w C Z w') (hb : Below w'.heap.size w' X) : Cs w C Z X := ⟨bstep h.b hb, (hb.block _ (lt_heap h.c)).trans h.c, (hb.block _ (lt_heap h.z)).trans h.z⟩
theorem Cs.set {C Z : Array Value} (h : Cs w C Z w') (i : Nat) (v : Value) (hi : C[i]? = some v) : Cs w C Z (w'.setCell ⟨w.heap.size, i, none⟩ v) :=
  ⟨bset h.b (Nat.le_refl _) _ _, blk_set h.c (by
    apply Array.ext_getElem?
    intro j
    rw [Array.getElem?_setIfInBounds]
    split
    · rename_i e
      subst e
      rw [hi]
      have := (Array.getElem?_eq_some_iff.1 hi).1
      simp [this]
    · rfl), blk_set_ne h.z (by omega)⟩
theorem cmd_info : (Try.prog.info? 38).map (·.size) = some 7 := by kernel_rfl
theorem cmd_one (cl inc req op : Int) (k v old : ByteArray) : ∀ u ∈ [Value.int .i64 cl, .int .i64 inc, .int .i64 req, .int .i64 op, .string k, .string v, .string old], u.oneCell' = true := by
  intro u hu
  simp only [List.mem_cons, List.not_mem_nil, or_false] at hu
  rcases hu with rfl | rfl | rfl | rfl | rfl | rfl | rfl <;> rfl
set_option maxHeartbeats 4000000 in
theorem acop_any {cl inc req op : Int} (ky v old : ByteArray) (hk : ky.size ≤ 281474976710656) (hv : v.size ≤ 281474976710656) (ho : old.size ≤ 281474976710656) : Calls Try.prog 14 #[.agg #[.int .i64 cl, .int .i64 inc, .int .i64 req, .int .i64 op, .string ky, .string v, .string old]] w fun e w' => e = .returned (.agg #[.int .i64 cl, .int .i64 inc, .int .i64 req, .int .i64 op, .string ky, .string v, .string old]) ∧ Below w.heap.size w w' := by
  obtain ⟨W0, hW0⟩ : ∃ X, w.alloc (.cells #[.int .i64 cl, .int .i64 inc, .int .i64 req, .int .i64 op, .string ky, .string v, .string old] 38) = X := ⟨_, rfl⟩
  obtain ⟨W, hW⟩ : ∃ X, W0.alloc (.cells #[.int .i64 0, .int .i64 0, .int .i64 0, .int .i64 0, .string ⟨#[]⟩, .string ⟨#[]⟩, .string ⟨#[]⟩] 38) = X := ⟨_, rfl⟩
  have hb0 : Below w.heap.size w W0 := by rw [← hW0]; exact balloc (Below.refl _ _)
  have hb1 : Below W0.heap.size W0 W := by rw [← hW]; exact balloc (Below.refl _ _)
  have hs0 : W0.heap.size = w.heap.size + 1 := by rw [← hW0]; simp
  have hc : W0.heap[w.heap.size]? = some (.cells #[.int .i64 cl, .int .i64 inc, .int .i64 req, .int .i64 op, .string ky, .string v, .string old] 38 (0, 0)) := by rw [← hW0]; exact heap_alloc_new w _
  have hz : W.heap[W0.heap.size]? = some (.cells #[.int .i64 0, .int .i64 0, .int .i64 0, .int .i64 0, .string ⟨#[]⟩, .string ⟨#[]⟩, .string ⟨#[]⟩] 38 (0, 0)) := by rw [← hW]; exact heap_alloc_new W0 _
  rw [hs0] at hz
  have HS0 : Hid (Cs w #[.int .i64 cl, .int .i64 inc, .int .i64 req, .int .i64 op, .string ky, .string v, .string old] #[.int .i64 0, .int .i64 0, .int .i64 0, .int .i64 0, .string ⟨#[]⟩, .string ⟨#[]⟩, .string ⟨#[]⟩] W.drew) := ⟨(bstep hb0 hb1).drew, (hb1.block _ (lt_heap hc)).trans hc, hz⟩
  have HCl : Hid (∀ (X : World) (s : ByteArray), s.size ≤ 281474976710656 → Calls Try.prog 18 #[.string s] X fun e w' => e = .returned (.string s) ∧ Below X.heap.size X w') := fun X s hs => clone_any s hs
  clear hb0 hb1 hc hz
  go_enter Try.func14, Try.ntmps14
  go_wp2_with (fail)
  refine wp_region_held_drew (S := (fun w' => Cs w #[.int .i64 cl, .int .i64 inc, .int .i64 req, .int .i64 op, .string ky, .string v, .string old] #[.int .i64 0, .int .i64 0, .int .i64 0, .int .i64 0, .string ⟨#[]⟩, .string ⟨#[]⟩, .string ⟨#[]⟩] w')) (by kernel_rfl) HS0.out (fun hHeld => ?_)
  simp only [Act.put, List.size_toArray, List.length_cons, List.length_nil, Nat.zero_add]
  refine wpAnyH_take (i := 0) (v := .pointer (some ⟨w.heap.size, 4, none⟩)) rfl (by kernel_rfl) (by kernel_rfl) (by kernel_rfl) (fun _ _ _ h => h) (Or.inl ⟨by rfl, fun w' hS => by go_simp⟩) hHeld ?_
  simp only [Act.put, List.getElem_toArray, List.getElem_cons_zero, List.getElem_cons_succ, List.setIfInBounds_toArray, List.set_cons_zero, List.set_cons_succ]
  refine wpAnyH_take (i := 1) (v := .string ky) rfl (by kernel_rfl) (by kernel_rfl) (by kernel_rfl) (fun _ _ _ h => h) (Or.inl ⟨by rfl, fun w' hS => by (have s0 := blk_cell hS.c 4; simp only [List.getElem?_toArray, List.getElem?_cons_succ, List.getElem?_cons_zero] at s0; go_simp)⟩) hHeld ?_
  simp only [Act.put, List.getElem_toArray, List.getElem_cons_zero, List.getElem_cons_succ, List.setIfInBounds_toArray, List.set_cons_zero, List.set_cons_succ]
  refine wpAnyH_take (i := 3) (v := .pointer (some ⟨w.heap.size, 5, none⟩)) rfl (by kernel_rfl) (by kernel_rfl) (by kernel_rfl) (fun _ _ _ h => h) (Or.inl ⟨by rfl, fun w' hS => by go_simp⟩) hHeld ?_
  simp only [Act.put, List.getElem_toArray, List.getElem_cons_zero, List.getElem_cons_succ, List.setIfInBounds_toArray, List.set_cons_zero, List.set_cons_succ]
  refine wpAnyH_take (i := 4) (v := .string v) rfl (by kernel_rfl) (by kernel_rfl) (by kernel_rfl) (fun _ _ _ h => h) (Or.inl ⟨by rfl, fun w' hS => by (have s0 := blk_cell hS.c 5; simp only [List.getElem?_toArray, List.getElem?_cons_succ, List.getElem?_cons_zero] at s0; go_simp)⟩) hHeld ?_
  simp only [Act.put, List.getElem_toArray, List.getElem_cons_zero, List.getElem_cons_succ, List.setIfInBounds_toArray, List.set_cons_zero, List.set_cons_succ]
  refine wpAnyH_take (i := 6) (v := .pointer (some ⟨w.heap.size, 6, none⟩)) rfl (by kernel_rfl) (by kernel_rfl) (by kernel_rfl) (fun _ _ _ h => h) (Or.inl ⟨by rfl, fun w' hS => by go_simp⟩) hHeld ?_
  simp only [Act.put, List.getElem_toArray, List.getElem_cons_zero, List.getElem_cons_succ, List.setIfInBounds_toArray, List.set_cons_zero, List.set_cons_succ]
  refine wpAnyH_take (i := 7) (v := .string old) rfl (by kernel_rfl) (by kernel_rfl) (by kernel_rfl) (fun _ _ _ h => h) (Or.inl ⟨by rfl, fun w' hS => by (have s0 := blk_cell hS.c 6; simp only [List.getElem?_toArray, List.getElem?_cons_succ, List.getElem?_cons_zero] at s0; go_simp)⟩) hHeld ?_
  simp only [Act.put, List.getElem_toArray, List.getElem_cons_zero, List.getElem_cons_succ, List.setIfInBounds_toArray, List.set_cons_zero, List.set_cons_succ]
  refine wpAnyH_ready (rs := [2]) (by kernel_rfl) (by simp) ?_
  refine AllReadyH.cons rfl (fun K hK => ?_) AllReadyH.nil
  go_simp
  refine (HCl.out _ ky hk).mono ?_
  rintro e X1 ⟨rfl, hb1⟩
  have HS1 : Hid (Cs w #[.int .i64 cl, .int .i64 inc, .int .i64 req, .int .i64 op, .string ky, .string v, .string old] #[.int .i64 0, .int .i64 0, .int .i64 0, .int .i64 0, .string ⟨#[]⟩, .string ⟨#[]⟩, .string ⟨#[]⟩] X1) := HS0.out.still hb1
  clear hb1
  refine hK.out _ _ HS1.out (fun hHeld => ?_)
  clear hK K
  refine wpAnyH_take (i := 9) (v := .pointer (some ⟨w.heap.size, 4, none⟩)) rfl (by kernel_rfl) (by kernel_rfl) (by kernel_rfl) (fun _ _ _ h => h) (Or.inl ⟨by rfl, fun w' hS => by go_simp⟩) hHeld ?_
  simp only [Act.put, List.getElem_toArray, List.getElem_cons_zero, List.getElem_cons_succ, List.setIfInBounds_toArray, List.set_cons_zero, List.set_cons_succ]
  refine wpAnyH_ready (rs := [5]) (by kernel_rfl) (by simp) ?_
  refine AllReadyH.cons rfl (fun K hK => ?_) AllReadyH.nil
  go_simp
  refine (HCl.out _ v hv).mono ?_
  rintro e X2 ⟨rfl, hb2⟩
  have HS2 : Hid (Cs w #[.int .i64 cl, .int .i64 inc, .int .i64 req, .int .i64 op, .string ky, .string v, .string old] #[.int .i64 0, .int .i64 0, .int .i64 0, .int .i64 0, .string ⟨#[]⟩, .string ⟨#[]⟩, .string ⟨#[]⟩] X2) := HS1.out.still hb2
  clear hb2
  refine hK.out _ _ HS2.out (fun hHeld => ?_)
  clear hK K
  refine wpAnyH_ready (rs := [8]) (by kernel_rfl) (by simp) ?_
  refine AllReadyH.cons rfl (fun K hK => ?_) AllReadyH.nil
  go_simp
  refine (HCl.out _ old ho).mono ?_
  rintro e X3 ⟨rfl, hb3⟩
  have HS3 : Hid (Cs w #[.int .i64 cl, .int .i64 inc, .int .i64 req, .int .i64 op, .string ky, .string v, .string old] #[.int .i64 0, .int .i64 0, .int .i64 0, .int .i64 0, .string ⟨#[]⟩, .string ⟨#[]⟩, .string ⟨#[]⟩] X3) := HS2.out.still hb3
  clear hb3
  refine hK.out _ _ HS3.out (fun hHeld => ?_)
  clear hK K
  refine wpAnyH_ready (rs := [10]) (by kernel_rfl) (by simp) ?_
  refine AllReadyH.cons rfl (fun K hK => ?_) AllReadyH.nil
  have s4 := blk_cell HS3.out.c 4
  simp only [List.getElem?_toArray, List.getElem?_cons_succ, List.getElem?_cons_zero] at s4
  have f4 := frozen_of_row _ _ 4 _ _ HS3.out.c
  obtain ⟨X4, hX4⟩ : ∃ X, X3.setCell ⟨w.heap.size, 4, none⟩ (.string ky) = X := ⟨_, rfl⟩
  have HS4 : Hid (Cs w #[.int .i64 cl, .int .i64 inc, .int .i64 req, .int .i64 op, .string ky, .string v, .string old] #[.int .i64 0, .int .i64 0, .int .i64 0, .int .i64 0, .string ⟨#[]⟩, .string ⟨#[]⟩, .string ⟨#[]⟩] X4) := by rw [← hX4]; exact HS3.out.set 4 _ rfl
  go_simp
  (try rw [hX4])
  refine hK.out _ _ HS4.out (fun hHeld => ?_)
  clear hK K
  clear s4 f4 hX4
  refine wpAnyH_take (i := 11) (v := .pointer (some ⟨w.heap.size, 5, none⟩)) rfl (by kernel_rfl) (by kernel_rfl) (by kernel_rfl) (fun _ _ _ h => h) (Or.inl ⟨by rfl, fun w' hS => by go_simp⟩) hHeld ?_
  simp only [Act.put, List.getElem_toArray, List.getElem_cons_zero, List.getElem_cons_succ, List.setIfInBounds_toArray, List.set_cons_zero, List.set_cons_succ]
  refine wpAnyH_ready (rs := [12]) (by kernel_rfl) (by simp) ?_
  refine AllReadyH.cons rfl (fun K hK => ?_) AllReadyH.nil
  have s5 := blk_cell HS4.out.c 5
  simp only [List.getElem?_toArray, List.getElem?_cons_succ, List.getElem?_cons_zero] at s5
  have f5 := frozen_of_row _ _ 5 _ _ HS4.out.c
  obtain ⟨X5, hX5⟩ : ∃ X, X4.setCell ⟨w.heap.size, 5, none⟩ (.string v) = X := ⟨_, rfl⟩
  have HS5 : Hid (Cs w #[.int .i64 cl, .int .i64 inc, .int .i64 req, .int .i64 op, .string ky, .string v, .string old] #[.int .i64 0, .int .i64 0, .int .i64 0, .int .i64 0, .string ⟨#[]⟩, .string ⟨#[]⟩, .string ⟨#[]⟩] X5) := by rw [← hX5]; exact HS4.out.set 5 _ rfl
  go_simp
  (try rw [hX5])
  refine hK.out _ _ HS5.out (fun hHeld => ?_)
  clear hK K
  clear s5 f5 hX5
  refine wpAnyH_take (i := 13) (v := .pointer (some ⟨w.heap.size, 6, none⟩)) rfl (by kernel_rfl) (by kernel_rfl) (by kernel_rfl) (fun _ _ _ h => h) (Or.inl ⟨by rfl, fun w' hS => by go_simp⟩) hHeld ?_
  simp only [Act.put, List.getElem_toArray, List.getElem_cons_zero, List.getElem_cons_succ, List.setIfInBounds_toArray, List.set_cons_zero, List.set_cons_succ]
  refine wpAnyH_ready (rs := [14]) (by kernel_rfl) (by simp) ?_
  refine AllReadyH.cons rfl (fun K hK => ?_) AllReadyH.nil
  have s6 := blk_cell HS5.out.c 6
  simp only [List.getElem?_toArray, List.getElem?_cons_succ, List.getElem?_cons_zero] at s6
  have f6 := frozen_of_row _ _ 6 _ _ HS5.out.c
  obtain ⟨X6, hX6⟩ : ∃ X, X5.setCell ⟨w.heap.size, 6, none⟩ (.string old) = X := ⟨_, rfl⟩
  have HS6 : Hid (Cs w #[.int .i64 cl, .int .i64 inc, .int .i64 req, .int .i64 op, .string ky, .string v, .string old] #[.int .i64 0, .int .i64 0, .int .i64 0, .int .i64 0, .string ⟨#[]⟩, .string ⟨#[]⟩, .string ⟨#[]⟩] X6) := by rw [← hX6]; exact HS5.out.set 6 _ rfl
  go_simp
  (try rw [hX6])
  refine hK.out _ _ HS6.out (fun hHeld => ?_)
  clear hK K
  clear s6 f6 hX6
  refine wpAnyH_done (by kernel_rfl) ?_ _
  clear hHeld
  obtain ⟨V, hV⟩ : ∃ X, X6.setCells (w.heap.size + 1) 0 [.int .i64 cl, .int .i64 inc, .int .i64 req, .int .i64 op, .string ky, .string v, .string old] = X := ⟨_, rfl⟩
  have HVr : Hid (V.heap[w.heap.size + 1]? = some (.cells #[.int .i64 cl, .int .i64 inc, .int .i64 req, .int .i64 op, .string ky, .string v, .string old] 38 (0, 0))) := by rw [← hV]; exact sets_whole HS6.out.z rfl
  have HTh : Hid (X6.there (w.heap.size + 1) 0 7) := blk_there HS6.out.z rfl
  have HVb : Hid (Below w.heap.size w V) := by rw [← hV]; exact bsets (by omega) _ _ HS6.out.b
  have HRg : Hid (X6.rangeAt w.heap.size 0 [.int .i64 cl, .int .i64 inc, .int .i64 req, .int .i64 op, .string ky, .string v, .string old]) := blk_range HS6.out.c
  clear HS0 HS1 HS2 HS3 HS4 HS5 HCl
  go_wp2_with (first
    | (refine at_load 38 (.tmp 1) rfl ?_; refine load_mid 38 (.tmp 1) HRg.out _ Try.underlying38 rfl cmd_info rfl rfl rfl ?_)
    | (refine at_store 38 _ _ rfl ?_; refine wl_storeL rfl 38 _ _ rfl (L := [.int .i64 cl, .int .i64 inc, .int .i64 req, .int .i64 op, .string ky, .string v, .string old]) rfl rfl HTh.out cmd_info (cmd_one _ _ _ _ _ _ _) ?_; rw [hV])
    | fail)
  (try simp only [Exit.inBlock, Exit.then])
  refine bodyPost_ret (v := .agg #[.int .i64 cl, .int .i64 inc, .int .i64 req, .int .i64 op, .string ky, .string v, .string old]) ?_ rfl ⟨rfl, HVb.out⟩
  exact results_cell_row rfl _ _ (w.heap.size + 1) 38 _ (0, 0) _ rfl HVr.out Try.underlying38 rfl cmd_info
theorem acopied_any (c : Lo.Cm) (hk : c.ky.size ≤ 281474976710656) (hv : c.vl.size ≤ 281474976710656) (ho : c.od.size ≤ 281474976710656) : Calls Try.prog 14 #[.agg c.cs.toArray] w fun e w' => e = .returned (.agg c.cs.toArray) ∧ Below w.heap.size w w' := acop_any c.ky c.vl c.od hk hv ho
end
end Go.Proofs.Ytfbgoidhgkcgjaa.Mh
