import Derived.Test.YtghihdenbdnnjaaLkj
namespace Go.Proofs.Ytghihdenbdnnjaa.Ln
open Go.RowKit Mb
set_option linter.unusedVariables false
set_option maxRecDepth 100000
set_option linter.unusedSimpArgs false
section
variable {w w' W : World} {B win room : Nat} {S S' : St} {E E' : En} {M M' : Mx}
theorem info_ack : (Try.prog.info? 57).map (·.size) = some 5 := by kernel_rfl
theorem ones5 (a b c d e : Int) : ∀ u ∈ [Value.int .i64 a, .int .i64 b, .int .i64 c, .int .i64 d, .int .i64 e], u.oneCell' = true := by
  intro u hu
  simp at hu
  rcases hu with rfl | rfl | rfl | rfl | rfl <;> rfl
abbrev z5 : List Value := [.int .i64 0, .int .i64 0, .int .i64 0, .int .i64 0, .int .i64 0]
theorem owe_fin {w2 w3 : World} (h : E.Ok w B win room) (hb : Below w.heap.size w w2) (hb3 : Below (w2.setCell ⟨E.b, 5, none⟩ (.bool false)).heap.size (w2.setCell ⟨E.b, 5, none⟩ (.bool false)) w3) : Estep w w3 B win room E { E with owed := false } := by
  have h2 := h.still hb
  have k : Kept w2 (w2.setCell ⟨E.b, 5, none⟩ (.bool false)) (fun j => j = E.b) := kset _ _ _ _ rfl
  have hbl : (w2.setCell ⟨E.b, 5, none⟩ (.bool false)).heap[E.b]? = some (.cells ({ E with owed := false } : En).cs 82 (0, 0)) := blk_set h2.blk (by simp [En.cs])
  have h3 : ({ E with owed := false } : En).Ok (w2.setCell ⟨E.b, 5, none⟩ (.bool false)) B win room := { h with blk := hbl, oo := h2.oo.keep k (fun j hj e => h2.ne_o (by rw [← e]; exact hj)), ii := h2.ii.keep k (fun j hj e => h2.ne_i (by rw [← e]; exact hj)) }
  exact ⟨rfl, h3.still hb3, ((Kept.ofBelow hb _).step k (fun j hj => .inl (.inl hj))).step (Kept.ofBelow hb3 (fun _ => False)) (fun j hj => hj.elim), fun j hj => .inl hj⟩
set_option maxHeartbeats 1000000 in
theorem owed_no (h : M.Ok w B) {q : Int} (hq : M.at q = none) : Calls Try.prog 24 #[.pointer (some ⟨M.b, 0, none⟩), .int .i64 q] w fun e w' => e = .returned (.tuple #[.agg #[.int .i64 0, .int .i64 0, .int .i64 0, .int .i64 0, .int .i64 0], .bool false]) ∧ Below w.heap.size w w' := by
  have HP : Hid (∀ w1, Below w.heap.size w w1 → Calls Try.prog 35 #[.pointer (some ⟨M.b, 0, none⟩), .int .i64 q] w1 fun e w' => e = .returned (.pointer none) ∧ w1 = w') := fun w1 hb => (show Calls _ _ _ _ _ from by have := peer_any (h.still hb) q; rw [hq] at this; exact this)
  generalize hW : w.alloc (.cells #[.int .i64 0, .int .i64 0, .int .i64 0, .int .i64 0, .int .i64 0] 57) = W
  have hbW : Below w.heap.size w W := by rw [← hW]; exact balloc (Below.refl _ _)
  have hblk : W.heap[w.heap.size]? = some (.cells #[.int .i64 0, .int .i64 0, .int .i64 0, .int .i64 0, .int .i64 0] 57 (0, 0)) := by rw [← hW]; exact heap_alloc_new _ _
  have HPW := HP.out W hbW
  have HPh : Hid (Calls _ _ _ _ _) := HPW
  have HBW : Hid (Below w.heap.size w W) := hbW
  have HT : Hid (W.there w.heap.size 0 5) := blk_there hblk rfl
  generalize hV : W.setCells w.heap.size 0 z5 = V
  have hVb : V.heap[w.heap.size]? = some (.cells z5.toArray 57 (0, 0)) := by rw [← hV]; exact sets_whole hblk rfl
  have HBV : Hid (Below w.heap.size w V) := (show Below _ _ _ from by rw [← hV]; exact bsets (Nat.le_refl _) _ _ hbW)
  have v0 : V.cell? ⟨w.heap.size, 0, none⟩ = some (.int .i64 0) := blk_cell hVb 0
  have v1 : V.cell? ⟨w.heap.size, 1, none⟩ = some (.int .i64 0) := blk_cell hVb 1
  have v2 : V.cell? ⟨w.heap.size, 2, none⟩ = some (.int .i64 0) := blk_cell hVb 2
  have v3 : V.cell? ⟨w.heap.size, 3, none⟩ = some (.int .i64 0) := blk_cell hVb 3
  have v4 : V.cell? ⟨w.heap.size, 4, none⟩ = some (.int .i64 0) := blk_cell hVb 4
  clear h hq HPW hblk hbW hVb
  go_enter Try.func24, Try.ntmps24
  go_wp2_with (first | (go_at_call 35; refine HPh.out.mono ?_; rintro e w' ⟨rfl, rfl⟩) | (refine at_store 57 _ _ rfl ?_; refine wl_storeL rfl 57 _ _ rfl (L := z5) rfl rfl HT.out info_ack (ones5 0 0 0 0 0) ?_; rw [hV]) | fail)
  exact bodyPost_ret (v := .tuple #[.agg #[.int .i64 0, .int .i64 0, .int .i64 0, .int .i64 0, .int .i64 0], .bool false]) (by simp [results, Try.results24, go_sem, v0, v1, v2, v3, v4]) rfl ⟨rfl, HBV.out⟩
set_option maxHeartbeats 1000000 in
theorem owed_none (h : M.Ok w B) {q : Int} (hq : M.at q = some E) (ho : E.owed = false) : Calls Try.prog 24 #[.pointer (some ⟨M.b, 0, none⟩), .int .i64 q] w fun e w' => e = .returned (.tuple #[.agg #[.int .i64 0, .int .i64 0, .int .i64 0, .int .i64 0, .int .i64 0], .bool false]) ∧ Below w.heap.size w w' := by
  have HP : Hid (∀ w1, Below w.heap.size w w1 → Calls Try.prog 35 #[.pointer (some ⟨M.b, 0, none⟩), .int .i64 q] w1 fun e w' => e = .returned (.pointer (some ⟨E.b, 0, none⟩)) ∧ w1 = w') := fun w1 hb => (show Calls _ _ _ _ _ from by have := peer_any (h.still hb) q; rw [hq] at this; exact this)
  obtain ⟨k, rfl, hk, he⟩ := at_es hq
  have hE := h.el k E he
  generalize hW : w.alloc (.cells #[.int .i64 0, .int .i64 0, .int .i64 0, .int .i64 0, .int .i64 0] 57) = W
  have hbW : Below w.heap.size w W := by rw [← hW]; exact balloc (Below.refl _ _)
  have hblk : W.heap[w.heap.size]? = some (.cells #[.int .i64 0, .int .i64 0, .int .i64 0, .int .i64 0, .int .i64 0] 57 (0, 0)) := by rw [← hW]; exact heap_alloc_new _ _
  have HPW := HP.out W hbW
  have HPh : Hid (Calls _ _ _ _ _) := HPW
  have HBW : Hid (Below w.heap.size w W) := hbW
  have HT : Hid (W.there w.heap.size 0 5) := blk_there hblk rfl
  generalize hV : W.setCells w.heap.size 0 z5 = V
  have hVb : V.heap[w.heap.size]? = some (.cells z5.toArray 57 (0, 0)) := by rw [← hV]; exact sets_whole hblk rfl
  have HBV : Hid (Below w.heap.size w V) := (show Below _ _ _ from by rw [← hV]; exact bsets (Nat.le_refl _) _ _ hbW)
  have v0 : V.cell? ⟨w.heap.size, 0, none⟩ = some (.int .i64 0) := blk_cell hVb 0
  have v1 : V.cell? ⟨w.heap.size, 1, none⟩ = some (.int .i64 0) := blk_cell hVb 1
  have v2 : V.cell? ⟨w.heap.size, 2, none⟩ = some (.int .i64 0) := blk_cell hVb 2
  have v3 : V.cell? ⟨w.heap.size, 3, none⟩ = some (.int .i64 0) := blk_cell hVb 3
  have v4 : V.cell? ⟨w.heap.size, 4, none⟩ = some (.int .i64 0) := blk_cell hVb 4
  have c5 : W.cell? ⟨E.b, 5, none⟩ = some (.bool false) := (hE.still hbW).c 5 (by rw [← ho]; rfl)
  clear h hq HPW hblk hbW hVb ho hE
  go_enter Try.func24, Try.ntmps24
  go_wp2_with (first | (go_at_call 35; refine HPh.out.mono ?_; rintro e w' ⟨rfl, rfl⟩) | (refine at_store 57 _ _ rfl ?_; refine wl_storeL rfl 57 _ _ rfl (L := z5) rfl rfl HT.out info_ack (ones5 0 0 0 0 0) ?_; rw [hV]) | fail)
  exact bodyPost_ret (v := .tuple #[.agg #[.int .i64 0, .int .i64 0, .int .i64 0, .int .i64 0, .int .i64 0], .bool false]) (by simp [results, Try.results24, go_sem, v0, v1, v2, v3, v4]) rfl ⟨rfl, HBV.out⟩
set_option maxHeartbeats 1000000 in
theorem owed_yes (h : M.Ok w B) {q : Int} (hq : M.at q = some E) (ho : E.owed = true) : Calls Try.prog 24 #[.pointer (some ⟨M.b, 0, none⟩), .int .i64 q] w fun e w' => e = .returned (.tuple #[.agg #[.int .i64 M.tag.e, .int .i64 M.tag.l, .int .i64 M.tag.i, .int .i64 M.tag.c, .int .i64 (E.i.p : Int)], .bool true]) ∧ Estep w w' B M.win M.room E { E with owed := false } := by
  have HP : Hid (∀ w1, Below w.heap.size w w1 → Calls Try.prog 35 #[.pointer (some ⟨M.b, 0, none⟩), .int .i64 q] w1 fun e w' => e = .returned (.pointer (some ⟨E.b, 0, none⟩)) ∧ w1 = w') := fun w1 hb => (show Calls _ _ _ _ _ from by have := peer_any (h.still hb) q; rw [hq] at this; exact this)
  obtain ⟨k, rfl, hk, he⟩ := at_es hq
  have hE := h.el k E he
  generalize hW : w.alloc (.cells #[.int .i64 0, .int .i64 0, .int .i64 0, .int .i64 0, .int .i64 0] 57) = W
  have hbW : Below w.heap.size w W := by rw [← hW]; exact balloc (Below.refl _ _)
  have hblk : W.heap[w.heap.size]? = some (.cells #[.int .i64 0, .int .i64 0, .int .i64 0, .int .i64 0, .int .i64 0] 57 (0, 0)) := by rw [← hW]; exact heap_alloc_new _ _
  have HPW := HP.out W hbW
  have HPh : Hid (Calls _ _ _ _ _) := HPW
  have HBW : Hid (Below w.heap.size w W) := hbW
  have hEW := hE.still hbW
  have c5 : W.cell? ⟨E.b, 5, none⟩ = some (.bool true) := hEW.c 5 (by rw [← ho]; rfl)
  have f5 := frozen_of_row W E.b 5 _ _ hEW.blk
  have hne : E.b ≠ w.heap.size := fun e => by have := hE.lt (.inl rfl); omega
  generalize hU : W.setCell ⟨E.b, 5, none⟩ (.bool false) = U
  have hUb : U.heap[w.heap.size]? = some (.cells #[.int .i64 0, .int .i64 0, .int .i64 0, .int .i64 0, .int .i64 0] 57 (0, 0)) := by rw [← hU]; exact blk_set_ne hblk (fun e => hne e.symm)
  have hMb : M.b ≠ E.b := fun e => (h.ne_e he).1 (.inl e)
  have kU : Kept W U (fun j => j = E.b) := by rw [← hU]; exact kset _ _ _ _ rfl
  have m3 : U.cell? ⟨M.b, 3, none⟩ = some (.int .i64 M.tag.e) := kept_cell kU hMb ((h.still hbW).c 3 rfl)
  have m4 : U.cell? ⟨M.b, 4, none⟩ = some (.int .i64 M.tag.l) := kept_cell kU hMb ((h.still hbW).c 4 rfl)
  have m5 : U.cell? ⟨M.b, 5, none⟩ = some (.int .i64 M.tag.i) := kept_cell kU hMb ((h.still hbW).c 5 rfl)
  have m6 : U.cell? ⟨M.b, 6, none⟩ = some (.int .i64 M.tag.c) := kept_cell kU hMb ((h.still hbW).c 6 rfl)
  have x3 : U.cell? ⟨E.b, 3, none⟩ = some (.int .i64 (E.i.p : Int)) := by rw [← hU, blk_cell (blk_set hEW.blk rfl)]; rfl
  have hbD : Below U.heap.size U U.drew := (Below.refl _ _).drew
  have hDb := (hbD.block _ (lt_heap hUb)).trans hUb
  have HT : Hid (U.drew.there w.heap.size 0 5) := blk_there hDb rfl
  generalize hV : U.drew.setCells w.heap.size 0 [.int .i64 M.tag.e, .int .i64 M.tag.l, .int .i64 M.tag.i, .int .i64 M.tag.c, .int .i64 (E.i.p : Int)] = V
  have hVb : V.heap[w.heap.size]? = some (.cells [.int .i64 M.tag.e, .int .i64 M.tag.l, .int .i64 M.tag.i, .int .i64 M.tag.c, .int .i64 (E.i.p : Int)].toArray 57 (0, 0)) := by rw [← hV]; exact sets_whole hDb rfl
  have kV : Kept U.drew V (fun j => j = w.heap.size) := by rw [← hV]; exact ksets (P := fun j => j = w.heap.size) rfl _ _ _
  have hMn : M.b ≠ w.heap.size := fun e => by have := lt_heap h.blk; omega
  have HXV : Hid (V.cell? ⟨M.b, 3, none⟩ = some (.int .i64 M.tag.e) ∧ V.cell? ⟨M.b, 4, none⟩ = some (.int .i64 M.tag.l) ∧ V.cell? ⟨M.b, 5, none⟩ = some (.int .i64 M.tag.i) ∧ V.cell? ⟨M.b, 6, none⟩ = some (.int .i64 M.tag.c) ∧ V.cell? ⟨E.b, 3, none⟩ = some (.int .i64 (E.i.p : Int))) := (show _ ∧ _ from ⟨kept_cell kV hMn (below_at hbD m3), kept_cell kV hMn (below_at hbD m4), kept_cell kV hMn (below_at hbD m5), kept_cell kV hMn (below_at hbD m6), kept_cell kV hne (below_at hbD x3)⟩)
  have HF : Hid (Estep w V B M.win M.room E { E with owed := false }) := (show Estep _ _ _ _ _ _ _ from by
    have hWs : W.heap.size = w.heap.size + 1 := by rw [← hW]; simp
    have hUs : U.heap.size = W.heap.size := by rw [← hU]; simp
    have e1 := owe_fin hE hbW (w3 := U.drew) (by rw [hU]; exact hbD)
    have hok := e1.ok.keep kV (fun j hj e => by
      have e' : j = w.heap.size := e
      have : E.own j := by
        rcases hj with h1 | h1 | h1
        · exact .inl h1
        · exact .inr (.inl h1)
        · exact .inr (.inr h1)
      have := hE.lt this; omega)
    exact ⟨rfl, hok, e1.kept.step kV (fun j hj => .inr (by have e' : j = w.heap.size := hj; omega)), e1.own⟩)
  have v0 : V.cell? ⟨w.heap.size, 0, none⟩ = some (.int .i64 M.tag.e) := blk_cell hVb 0
  have v1 : V.cell? ⟨w.heap.size, 1, none⟩ = some (.int .i64 M.tag.l) := blk_cell hVb 1
  have v2 : V.cell? ⟨w.heap.size, 2, none⟩ = some (.int .i64 M.tag.i) := blk_cell hVb 2
  have v3 : V.cell? ⟨w.heap.size, 3, none⟩ = some (.int .i64 M.tag.c) := blk_cell hVb 3
  have v4 : V.cell? ⟨w.heap.size, 4, none⟩ = some (.int .i64 (E.i.p : Int)) := blk_cell hVb 4
  clear h hq HPW hblk hbW hVb ho hE hEW hne hUb hMb kU hbD hDb kV hMn
  go_enter Try.func24, Try.ntmps24
  go_wp2_with (first | (go_at_call 35; refine HPh.out.mono ?_; rintro e w' ⟨rfl, rfl⟩) | fail)
  refine wp_region_held_drew (S := (fun w' => w'.cell? ⟨M.b, 3, none⟩ = some (.int .i64 M.tag.e) ∧ w'.cell? ⟨M.b, 4, none⟩ = some (.int .i64 M.tag.l) ∧ w'.cell? ⟨M.b, 5, none⟩ = some (.int .i64 M.tag.i) ∧ w'.cell? ⟨M.b, 6, none⟩ = some (.int .i64 M.tag.c) ∧ w'.cell? ⟨E.b, 3, none⟩ = some (.int .i64 (E.i.p : Int)))) (by kernel_rfl) ⟨below_at (Below.refl _ _).drew m3, below_at (Below.refl _ _).drew m4, below_at (Below.refl _ _).drew m5, below_at (Below.refl _ _).drew m6, below_at (Below.refl _ _).drew x3⟩ (fun hHeld => ?_)
  simp only [Act.put, List.size_toArray, List.length_cons, List.length_nil, Nat.zero_add]
  refine wpAnyH_take (i := 0) (v := .pointer (some ⟨M.b, 0, none⟩)) rfl (by kernel_rfl) (by kernel_rfl) (by kernel_rfl) (fun _ _ _ h => h) (Or.inl ⟨by rfl, fun w' hS => by go_simp⟩) hHeld ?_
  simp only [Act.put, List.getElem_toArray, List.getElem_cons_zero, List.getElem_cons_succ, List.setIfInBounds_toArray, List.set_cons_zero, List.set_cons_succ]
  refine wpAnyH_take (i := 1) (v := .pointer (some ⟨M.b, 0, none⟩)) rfl (by kernel_rfl) (by kernel_rfl) (by kernel_rfl) (fun _ _ _ h => h) (Or.inl ⟨by rfl, fun w' hS => by go_simp⟩) hHeld ?_
  simp only [Act.put, List.getElem_toArray, List.getElem_cons_zero, List.getElem_cons_succ, List.setIfInBounds_toArray, List.set_cons_zero, List.set_cons_succ]
  refine wpAnyH_take (i := 2) (v := .pointer (some ⟨M.b, 3, none⟩)) rfl (by kernel_rfl) (by kernel_rfl) (by kernel_rfl) (fun _ _ _ h => h) (Or.inl ⟨by rfl, fun w' hS => by go_simp⟩) hHeld ?_
  simp only [Act.put, List.getElem_toArray, List.getElem_cons_zero, List.getElem_cons_succ, List.setIfInBounds_toArray, List.set_cons_zero, List.set_cons_succ]
  refine wpAnyH_take (i := 3) (v := .agg #[.int .i64 M.tag.e, .int .i64 M.tag.l, .int .i64 M.tag.i, .int .i64 M.tag.c]) rfl (by kernel_rfl) (by kernel_rfl) (by kernel_rfl) (fun _ _ _ h => h) (Or.inl ⟨by rfl, fun w' hS => by (obtain ⟨s0, s1, s2, s3, s4⟩ := hS; go_simp)⟩) hHeld ?_
  simp only [Act.put, List.getElem_toArray, List.getElem_cons_zero, List.getElem_cons_succ, List.setIfInBounds_toArray, List.set_cons_zero, List.set_cons_succ]
  refine wpAnyH_take (i := 4) (v := .pointer (some ⟨E.b, 0, none⟩)) rfl (by kernel_rfl) (by kernel_rfl) (by kernel_rfl) (fun _ _ _ h => h) (Or.inl ⟨by rfl, fun w' hS => by go_simp⟩) hHeld ?_
  simp only [Act.put, List.getElem_toArray, List.getElem_cons_zero, List.getElem_cons_succ, List.setIfInBounds_toArray, List.set_cons_zero, List.set_cons_succ]
  refine wpAnyH_take (i := 5) (v := .pointer (some ⟨E.b, 0, none⟩)) rfl (by kernel_rfl) (by kernel_rfl) (by kernel_rfl) (fun _ _ _ h => h) (Or.inl ⟨by rfl, fun w' hS => by go_simp⟩) hHeld ?_
  simp only [Act.put, List.getElem_toArray, List.getElem_cons_zero, List.getElem_cons_succ, List.setIfInBounds_toArray, List.set_cons_zero, List.set_cons_succ]
  refine wpAnyH_take (i := 6) (v := .pointer (some ⟨E.b, 3, none⟩)) rfl (by kernel_rfl) (by kernel_rfl) (by kernel_rfl) (fun _ _ _ h => h) (Or.inl ⟨by rfl, fun w' hS => by go_simp⟩) hHeld ?_
  simp only [Act.put, List.getElem_toArray, List.getElem_cons_zero, List.getElem_cons_succ, List.setIfInBounds_toArray, List.set_cons_zero, List.set_cons_succ]
  refine wpAnyH_take (i := 7) (v := .pointer (some ⟨E.b, 3, none⟩)) rfl (by kernel_rfl) (by kernel_rfl) (by kernel_rfl) (fun _ _ _ h => h) (Or.inl ⟨by rfl, fun w' hS => by go_simp⟩) hHeld ?_
  simp only [Act.put, List.getElem_toArray, List.getElem_cons_zero, List.getElem_cons_succ, List.setIfInBounds_toArray, List.set_cons_zero, List.set_cons_succ]
  refine wpAnyH_take (i := 8) (v := .int .i64 (E.i.p : Int)) rfl (by kernel_rfl) (by kernel_rfl) (by kernel_rfl) (fun _ _ _ h => h) (Or.inl ⟨by rfl, fun w' hS => by (obtain ⟨s0, s1, s2, s3, s4⟩ := hS; go_simp)⟩) hHeld ?_
  simp only [Act.put, List.getElem_toArray, List.getElem_cons_zero, List.getElem_cons_succ, List.setIfInBounds_toArray, List.set_cons_zero, List.set_cons_succ]
  refine wpAnyH_take (i := 9) (v := .agg #[.int .i64 M.tag.e, .int .i64 M.tag.l, .int .i64 M.tag.i, .int .i64 M.tag.c, .int .i64 (E.i.p : Int)]) rfl (by kernel_rfl) (by kernel_rfl) (by kernel_rfl) (fun _ _ _ h => h) (Or.inl ⟨by rfl, fun w' hS => by go_simp⟩) hHeld ?_
  simp only [Act.put, List.getElem_toArray, List.getElem_cons_zero, List.getElem_cons_succ, List.setIfInBounds_toArray, List.set_cons_zero, List.set_cons_succ]
  refine wpAnyH_ready (rs := [10]) (by kernel_rfl) (by simp) ?_
  refine AllReadyH.cons rfl (fun K hK => ?_) AllReadyH.nil
  refine step_storeL rfl 57 (.tmp 4) (.tmp 32) rfl (L := [.int .i64 M.tag.e, .int .i64 M.tag.l, .int .i64 M.tag.i, .int .i64 M.tag.c, .int .i64 (E.i.p : Int)]) rfl rfl HT.out info_ack (ones5 _ _ _ _ _) ?_
  rw [hV]
  refine hK.out _ _ (by exact HXV.out) (fun hHeld => ?_)
  clear hK K
  refine wpAnyH_take (i := 11) (v := .bool true) rfl (by kernel_rfl) (by kernel_rfl) (by kernel_rfl) (fun _ _ _ h => h) (Or.inl ⟨by rfl, fun w' hS => by go_simp⟩) hHeld ?_
  simp only [Act.put, List.getElem_toArray, List.getElem_cons_zero, List.getElem_cons_succ, List.setIfInBounds_toArray, List.set_cons_zero, List.set_cons_succ]
  refine wpAnyH_done (by kernel_rfl) ?_ _
  clear hHeld
  go_wp2
  exact bodyPost_ret (v := .tuple #[.agg #[.int .i64 M.tag.e, .int .i64 M.tag.l, .int .i64 M.tag.i, .int .i64 M.tag.c, .int .i64 (E.i.p : Int)], .bool true]) (by simp [results, Try.results24, go_sem, v0, v1, v2, v3, v4]) rfl ⟨rfl, HF.out⟩
end
end Go.Proofs.Ytghihdenbdnnjaa.Ln
