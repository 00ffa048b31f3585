import Derived.Test.YtghihdenbdnnjaaLk2
namespace Go.Proofs.Ytghihdenbdnnjaa.Ln
open Go.RowKit Mb
set_option linter.unusedVariables false
set_option maxRecDepth 100000
set_option linter.unusedSimpArgs false
section
variable {w w' W : World} {B : Nat} {X X' : Wr} {P : Px}
set_option maxHeartbeats 4000000 in
theorem started_any {wi rm : Int} (hw0 : -9223372036854775808 ≤ wi) (hw1 : wi ≤ 9223372036854775807) (hr0 : -9223372036854775808 ≤ rm) (hr1 : rm ≤ 9223372036854775807) : Calls Try.prog 11 #[.int .i64 wi, .int .i64 rm] w fun e w' => StO w w' (1 + (absI wi).toNat % 5) (1 + (absI wi).toNat % 5 + (absI rm).toNat % 9) e := by
  obtain ⟨r5, hr5⟩ : ∃ r, (absI wi).toNat % 5 = r := ⟨_, rfl⟩
  obtain ⟨r9, hr9⟩ : ∃ r, (absI rm).toNat % 9 = r := ⟨_, rfl⟩
  have k5 : r5 < 5 := by rw [← hr5]; exact Nat.mod_lt _ (by omega)
  have k9 : r9 < 9 := by rw [← hr9]; exact Nat.mod_lt _ (by omega)
  have hm5 : Int.tmod (absI wi) 5 = (r5 : Int) := by rw [← hr5]; exact rem_nat (absI_nn wi) 5
  have Hr9 : Hid (Int.tmod (absI rm) 9 = (r9 : Int)) := (show _ = _ from by rw [← hr9]; exact rem_nat (absI_nn rm) 9)
  rw [hr5, hr9]
  obtain ⟨win, hwin⟩ : ∃ win, 1 + r5 = win := ⟨_, rfl⟩
  obtain ⟨space, hspace⟩ : ∃ sp, win + r9 = sp := ⟨_, rfl⟩
  have hwi : (1 : Int) + (r5 : Int) = (win : Int) := by omega
  rw [hwin, hspace]
  have e1 : 1 ≤ win ∧ win ≤ 5 ∧ win ≤ space ∧ space ≤ 13 := by omega
  have e2 : (win : Int) + (r9 : Int) = (space : Int) := by omega
  have Hab : Hid (Calls Try.prog 30 #[.int .i64 wi] w fun e w' => e = .returned (.int .i64 (absI wi)) ∧ w = w') := abs_any hw0 hw1
  clear hr5 hr9 hwin hspace
  generalize hW1 : w.alloc (.cells #[.pointer none, .pointer none, .int .i64 (win : Int), .int .i64 0, .slice none 0 0, .slice none 0 0, .slice none 0 0, .slice none 0 0, .slice none 0 0, .slice none 0 0, .slice none 0 0, .slice none 0 0] 42) = W1
  have Hblk : Hid (W1.heap[w.heap.size]? = some (.cells #[.pointer none, .pointer none, .int .i64 (win : Int), .int .i64 0, .slice none 0 0, .slice none 0 0, .slice none 0 0, .slice none 0 0, .slice none 0 0, .slice none 0 0, .slice none 0 0, .slice none 0 0] 42 (0, 0))) := (show _ = _ from by rw [← hW1]; exact heap_alloc_new _ _)
  have HbW : Hid (Below w.heap.size w W1) := (show Below _ _ _ from by rw [← hW1]; exact balloc (Below.refl _ _))
  have c2 : W1.cell? ⟨w.heap.size, 2, none⟩ = some (.int .i64 (win : Int)) := blk_cell Hblk.out 2
  go_enter Try.func11, Try.ntmps11
  go_wp2_with (first | (go_at_call 30; refine Hab.out.mono ?_; rintro e w' ⟨rfl, rfl⟩) | fail)
  refine wp_region_held_drew (S := (fun w' => w'.cell? ⟨w.heap.size, 2, none⟩ = some (.int .i64 (win : Int)))) (by kernel_rfl) (below_at (drew_bel _) c2) (fun hHeld => ?_)
  simp only [Act.put, List.size_toArray, List.length_cons, List.length_nil, Nat.zero_add]
  refine wpAnyH_take (i := 0) (v := .pointer (some ⟨w.heap.size, 0, none⟩)) rfl (by kernel_rfl) (by kernel_rfl) (by kernel_rfl) (fun _ _ _ h => h) (Or.inl ⟨by rfl, fun w' hS => by go_simp⟩) hHeld ?_
  simp only [Act.put, List.getElem_toArray, List.getElem_cons_zero, List.getElem_cons_succ, List.setIfInBounds_toArray, List.set_cons_zero, List.set_cons_succ]
  refine wpAnyH_take (i := 1) (v := .pointer (some ⟨w.heap.size, 0, none⟩)) rfl (by kernel_rfl) (by kernel_rfl) (by kernel_rfl) (fun _ _ _ h => h) (Or.inl ⟨by rfl, fun w' hS => by go_simp⟩) hHeld ?_
  simp only [Act.put, List.getElem_toArray, List.getElem_cons_zero, List.getElem_cons_succ, List.setIfInBounds_toArray, List.set_cons_zero, List.set_cons_succ]
  refine wpAnyH_take (i := 2) (v := .pointer (some ⟨w.heap.size, 0, none⟩)) rfl (by kernel_rfl) (by kernel_rfl) (by kernel_rfl) (fun _ _ _ h => h) (Or.inl ⟨by rfl, fun w' hS => by go_simp⟩) hHeld ?_
  simp only [Act.put, List.getElem_toArray, List.getElem_cons_zero, List.getElem_cons_succ, List.setIfInBounds_toArray, List.set_cons_zero, List.set_cons_succ]
  refine wpAnyH_take (i := 3) (v := .pointer (some ⟨w.heap.size, 2, none⟩)) rfl (by kernel_rfl) (by kernel_rfl) (by kernel_rfl) (fun _ _ _ h => h) (Or.inl ⟨by rfl, fun w' hS => by go_simp⟩) hHeld ?_
  simp only [Act.put, List.getElem_toArray, List.getElem_cons_zero, List.getElem_cons_succ, List.setIfInBounds_toArray, List.set_cons_zero, List.set_cons_succ]
  refine wpAnyH_take (i := 4) (v := .int .i64 (win : Int)) rfl (by kernel_rfl) (by kernel_rfl) (by kernel_rfl) (fun _ _ _ h => h) (Or.inl ⟨by rfl, fun w' hS => by (have s0 := hS; go_simp)⟩) hHeld ?_
  simp only [Act.put, List.getElem_toArray, List.getElem_cons_zero, List.getElem_cons_succ, List.setIfInBounds_toArray, List.set_cons_zero, List.set_cons_succ]
  refine wpAnyH_take (i := 5) (v := .int .i64 rm) rfl (by kernel_rfl) (by kernel_rfl) (by kernel_rfl) (fun _ _ _ h => h) (Or.inl ⟨by rfl, fun w' hS => by go_simp⟩) hHeld ?_
  simp only [Act.put, List.getElem_toArray, List.getElem_cons_zero, List.getElem_cons_succ, List.setIfInBounds_toArray, List.set_cons_zero, List.set_cons_succ]
  have hbD : Below W1.heap.size W1 W1.drew := drew_bel _
  have q2 := below_at hbD c2
  have hbk := (hbD.block _ (lt_heap Hblk.out)).trans Hblk.out
  have q3 : W1.drew.cell? ⟨w.heap.size, 3, none⟩ = some (.int .i64 0) := blk_cell hbk 3
  have fz3 := frozen_of_row W1.drew w.heap.size 3 _ _ hbk
  generalize W1.drew = D2 at *
  refine wpAnyH_ready (rs := [6]) (by kernel_rfl) (by simp) ?_
  refine AllReadyH.cons rfl (fun K hK => ?_) AllReadyH.nil
  go_simp
  refine (abs_any hr0 hr1).mono ?_
  rintro e w2 ⟨rfl, rfl⟩
  refine hK.out _ _ q2 (fun hHeld => ?_)
  clear hK K
  refine wpAnyH_take (i := 7) (v := .int .i64 (r9 : Int)) rfl (by kernel_rfl) (by kernel_rfl) (by kernel_rfl) (fun _ _ _ h => h) (Or.inl ⟨by rfl, fun w' hS => by (go_simp; exact Hr9.out)⟩) hHeld ?_
  simp only [Act.put, List.getElem_toArray, List.getElem_cons_zero, List.getElem_cons_succ, List.setIfInBounds_toArray, List.set_cons_zero, List.set_cons_succ]
  refine wpAnyH_take (i := 8) (v := .int .i64 (space : Int)) rfl (by kernel_rfl) (by kernel_rfl) (by kernel_rfl) (fun _ _ _ h => h) (Or.inl ⟨by rfl, fun w' hS => by (go_simp <;> (first | omega | exact wrap_id (by omega) (by omega)))⟩) hHeld ?_
  simp only [Act.put, List.getElem_toArray, List.getElem_cons_zero, List.getElem_cons_succ, List.setIfInBounds_toArray, List.set_cons_zero, List.set_cons_succ]
  refine wpAnyH_take (i := 9) (v := .pointer (some ⟨w.heap.size, 0, none⟩)) rfl (by kernel_rfl) (by kernel_rfl) (by kernel_rfl) (fun _ _ _ h => h) (Or.inl ⟨by rfl, fun w' hS => by go_simp⟩) hHeld ?_
  simp only [Act.put, List.getElem_toArray, List.getElem_cons_zero, List.getElem_cons_succ, List.setIfInBounds_toArray, List.set_cons_zero, List.set_cons_succ]
  refine wpAnyH_take (i := 10) (v := .pointer (some ⟨w.heap.size, 3, none⟩)) rfl (by kernel_rfl) (by kernel_rfl) (by kernel_rfl) (fun _ _ _ h => h) (Or.inl ⟨by rfl, fun w' hS => by go_simp⟩) hHeld ?_
  simp only [Act.put, List.getElem_toArray, List.getElem_cons_zero, List.getElem_cons_succ, List.setIfInBounds_toArray, List.set_cons_zero, List.set_cons_succ]
  refine wpAnyH_ready (rs := [11]) (by kernel_rfl) (by simp) ?_
  refine AllReadyH.cons rfl (fun K hK => ?_) AllReadyH.nil
  go_simp
  refine hK.out _ _ (by rw [blk_cell (blk_set hbk rfl)]; rfl) (fun hHeld => ?_)
  clear hK K
  refine wpAnyH_done (by kernel_rfl) ?_ _
  clear hHeld
  have HS0 : Hid (∃ m, StS w (D2.setCell ⟨w.heap.size, 3, none⟩ (.int .i64 (space : Int))) w.heap.size win space 0 m) := (show ∃ m, StS _ _ _ _ _ _ m from ⟨fun _ => mnew 0 0 0 0 0 0, blk_set hbk (by simp [stc]), (by have e3 := bset (bstep HbW.out hbD) (Nat.le_refl _) 3 (.int .i64 (space : Int)); exact e3), Nat.le_refl _, fun j hj => by omega, fun i j hi => by omega⟩)
  try simp only [Act.put]
  clear hbk q2 q3 fz3 c2 Hblk Hab hm5 hwi hW1
  generalize D2.setCell ⟨w.heap.size, 3, none⟩ (.int .i64 (space : Int)) = W3 at *
  go_wp2
  go_loopw [6, 7, 8, 9] (fun v6 _ _ _ wr => ∃ s : Nat, s ≤ 2 ∧ v6 = .int .i64 (s : Int) ∧ Hid (∃ m, StS w wr w.heap.size win space s m)) (fun v6 _ _ _ _ => 2 - (intOf v6).toNat)
  case atStart => exact ⟨0, by omega, rfl, HS0⟩
  case round =>
    obtain ⟨s, hs2, rfl, hst⟩ := hrel
    obtain ⟨m, hs0⟩ := hst.out
    by_cases hs : s < 2
    · have i1 : (0 : Int) ≤ (s : Int) := Int.natCast_nonneg _
      have i2 : (s : Int) < 2 := by omega
      have j1 : (0 : Int) ≤ 1 - (s : Int) := by omega
      have j2 : 1 - (s : Int) ≤ 1 := by omega
      have c2 : wr.cell? ⟨w.heap.size, 2, none⟩ = some (.int .i64 (win : Int)) := blk_cell hs0.blk 2
      have c3 : wr.cell? ⟨w.heap.size, 3, none⟩ = some (.int .i64 (space : Int)) := blk_cell hs0.blk 3
      have HN : Hid (Calls Try.prog 32 #[.int .i64 7, .int .i64 (2 + 3 * (s : Int)), .int .i64 (win : Int), .int .i64 (space : Int)] wr.drew fun e w' => e = .returned (.tuple #[.pointer (some ⟨wr.drew.heap.size + 1, 0, none⟩), .int .i64 0]) ∧ (mnew (wr.drew.heap.size + 1) wr.drew.heap.size 7 (pid s) win space).Ok w' wr.drew.heap.size ∧ Below wr.drew.heap.size wr.drew w') := (show Calls _ _ _ _ _ from by
        have e3 := new_ok (w := wr.drew) (n := 7) (self := pid s) (win := win) (room := space) (by omega) (by omega) (by unfold pid; omega) (by omega) (by omega) (by omega)
        rw [show ((pid s : Nat) : Int) = 2 + 3 * (s : Int) from by unfold pid; omega] at e3
        exact e3)
      have HS : Hid (StS w wr w.heap.size win space s m) := hs0
      clear hs0 hst HS0
      go_wp2
      refine wp_region_held_drew (S := (fun w' => w'.cell? ⟨w.heap.size, 2, none⟩ = some (.int .i64 (win : Int)) ∧ w'.cell? ⟨w.heap.size, 3, none⟩ = some (.int .i64 (space : Int)))) (by kernel_rfl) ⟨below_at (drew_bel _) c2, below_at (drew_bel _) c3⟩ (fun hHeld => ?_)
      simp only [Act.put, List.size_toArray, List.length_cons, List.length_nil, Nat.zero_add]
      refine wpAnyH_take (i := 0) (v := .int .i64 (s : Int)) rfl (by kernel_rfl) (by kernel_rfl) (by kernel_rfl) (fun _ _ _ h => h) (Or.inl ⟨by rfl, fun w' hS => by go_simp⟩) hHeld ?_
      simp only [Act.put, List.getElem_toArray, List.getElem_cons_zero, List.getElem_cons_succ, List.setIfInBounds_toArray, List.set_cons_zero, List.set_cons_succ]
      refine wpAnyH_take (i := 2) (v := .pointer (some ⟨w.heap.size, 0, none⟩)) rfl (by kernel_rfl) (by kernel_rfl) (by kernel_rfl) (fun _ _ _ h => h) (Or.inl ⟨by rfl, fun w' hS => by go_simp⟩) hHeld ?_
      simp only [Act.put, List.getElem_toArray, List.getElem_cons_zero, List.getElem_cons_succ, List.setIfInBounds_toArray, List.set_cons_zero, List.set_cons_succ]
      refine wpAnyH_take (i := 3) (v := .pointer (some ⟨w.heap.size, 0, none⟩)) rfl (by kernel_rfl) (by kernel_rfl) (by kernel_rfl) (fun _ _ _ h => h) (Or.inl ⟨by rfl, fun w' hS => by go_simp⟩) hHeld ?_
      simp only [Act.put, List.getElem_toArray, List.getElem_cons_zero, List.getElem_cons_succ, List.setIfInBounds_toArray, List.set_cons_zero, List.set_cons_succ]
      refine wpAnyH_take (i := 4) (v := .pointer (some ⟨w.heap.size, 2, none⟩)) rfl (by kernel_rfl) (by kernel_rfl) (by kernel_rfl) (fun _ _ _ h => h) (Or.inl ⟨by rfl, fun w' hS => by go_simp⟩) hHeld ?_
      simp only [Act.put, List.getElem_toArray, List.getElem_cons_zero, List.getElem_cons_succ, List.setIfInBounds_toArray, List.set_cons_zero, List.set_cons_succ]
      refine wpAnyH_take (i := 5) (v := .int .i64 (win : Int)) rfl (by kernel_rfl) (by kernel_rfl) (by kernel_rfl) (fun _ _ _ h => h) (Or.inl ⟨by rfl, fun w' hS => by (obtain ⟨s0, s1⟩ := hS; go_simp)⟩) hHeld ?_
      simp only [Act.put, List.getElem_toArray, List.getElem_cons_zero, List.getElem_cons_succ, List.setIfInBounds_toArray, List.set_cons_zero, List.set_cons_succ]
      refine wpAnyH_take (i := 6) (v := .pointer (some ⟨w.heap.size, 0, none⟩)) rfl (by kernel_rfl) (by kernel_rfl) (by kernel_rfl) (fun _ _ _ h => h) (Or.inl ⟨by rfl, fun w' hS => by go_simp⟩) hHeld ?_
      simp only [Act.put, List.getElem_toArray, List.getElem_cons_zero, List.getElem_cons_succ, List.setIfInBounds_toArray, List.set_cons_zero, List.set_cons_succ]
      refine wpAnyH_take (i := 7) (v := .pointer (some ⟨w.heap.size, 0, none⟩)) rfl (by kernel_rfl) (by kernel_rfl) (by kernel_rfl) (fun _ _ _ h => h) (Or.inl ⟨by rfl, fun w' hS => by go_simp⟩) hHeld ?_
      simp only [Act.put, List.getElem_toArray, List.getElem_cons_zero, List.getElem_cons_succ, List.setIfInBounds_toArray, List.set_cons_zero, List.set_cons_succ]
      refine wpAnyH_take (i := 8) (v := .pointer (some ⟨w.heap.size, 3, none⟩)) rfl (by kernel_rfl) (by kernel_rfl) (by kernel_rfl) (fun _ _ _ h => h) (Or.inl ⟨by rfl, fun w' hS => by go_simp⟩) hHeld ?_
      simp only [Act.put, List.getElem_toArray, List.getElem_cons_zero, List.getElem_cons_succ, List.setIfInBounds_toArray, List.set_cons_zero, List.set_cons_succ]
      refine wpAnyH_take (i := 9) (v := .int .i64 (space : Int)) rfl (by kernel_rfl) (by kernel_rfl) (by kernel_rfl) (fun _ _ _ h => h) (Or.inl ⟨by rfl, fun w' hS => by (obtain ⟨s0, s1⟩ := hS; go_simp)⟩) hHeld ?_
      simp only [Act.put, List.getElem_toArray, List.getElem_cons_zero, List.getElem_cons_succ, List.setIfInBounds_toArray, List.set_cons_zero, List.set_cons_succ]
      refine wpAnyH_ready (rs := [1]) (by kernel_rfl) (by simp) ?_
      refine AllReadyH.cons rfl (fun K hK => ?_) AllReadyH.nil
      go_simp
      refine (pid_any i1 (by omega)).mono ?_
      rintro e w2 ⟨rfl, rfl⟩
      refine hK.out _ _ ⟨below_at (drew_bel _) c2, below_at (drew_bel _) c3⟩ (fun hHeld => ?_)
      clear hK K
      refine wpAnyH_ready (rs := [10]) (by kernel_rfl) (by simp) ?_
      refine AllReadyH.cons rfl (fun K hK => ?_) AllReadyH.nil
      go_simp
      refine (HN.out).mono ?_
      rintro e w2 ⟨rfl, hok2, hb2⟩
      refine hK.out _ _ ⟨below_at hb2 (below_at (drew_bel _) c2), below_at hb2 (below_at (drew_bel _) c3)⟩ (fun hHeld => ?_)
      clear hK K
      refine wpAnyH_take (i := 11) (v := .tuple #[.pointer (some ⟨wr.drew.heap.size + 1, 0, none⟩), .int .i64 0]) rfl (by kernel_rfl) (by kernel_rfl) (by kernel_rfl) (fun _ _ _ h => h) (Or.inl ⟨by rfl, fun w' hS => by go_simp⟩) hHeld ?_
      simp only [Act.put, List.getElem_toArray, List.getElem_cons_zero, List.getElem_cons_succ, List.setIfInBounds_toArray, List.set_cons_zero, List.set_cons_succ]
      refine wpAnyH_take (i := 12) (v := .pointer (some ⟨wr.drew.heap.size + 1, 0, none⟩)) rfl (by kernel_rfl) (by kernel_rfl) (by kernel_rfl) (fun _ _ _ h => h) (Or.inl ⟨by rfl, fun w' hS => by go_simp⟩) hHeld ?_
      simp only [Act.put, List.getElem_toArray, List.getElem_cons_zero, List.getElem_cons_succ, List.setIfInBounds_toArray, List.set_cons_zero, List.set_cons_succ]
      refine wpAnyH_take (i := 13) (v := .int .i64 0) rfl (by kernel_rfl) (by kernel_rfl) (by kernel_rfl) (fun _ _ _ h => h) (Or.inl ⟨by rfl, fun w' hS => by go_simp⟩) hHeld ?_
      simp only [Act.put, List.getElem_toArray, List.getElem_cons_zero, List.getElem_cons_succ, List.setIfInBounds_toArray, List.set_cons_zero, List.set_cons_succ]
      refine wpAnyH_take (i := 14) (v := .pointer (some ⟨wr.drew.heap.size + 1, 0, none⟩)) rfl (by kernel_rfl) (by kernel_rfl) (by kernel_rfl) (fun _ _ _ h => h) (Or.inl ⟨by rfl, fun w' hS => by go_simp⟩) hHeld ?_
      simp only [Act.put, List.getElem_toArray, List.getElem_cons_zero, List.getElem_cons_succ, List.setIfInBounds_toArray, List.set_cons_zero, List.set_cons_succ]
      refine wpAnyH_take (i := 15) (v := .int .i64 0) rfl (by kernel_rfl) (by kernel_rfl) (by kernel_rfl) (fun _ _ _ h => h) (Or.inl ⟨by rfl, fun w' hS => by go_simp⟩) hHeld ?_
      simp only [Act.put, List.getElem_toArray, List.getElem_cons_zero, List.getElem_cons_succ, List.setIfInBounds_toArray, List.set_cons_zero, List.set_cons_succ]
      refine wpAnyH_done (by kernel_rfl) ?_ _
      clear hHeld
      have Hok2 : Hid ((mnew (wr.drew.heap.size + 1) wr.drew.heap.size 7 (pid s) win space).Ok w2 wr.drew.heap.size) := hok2
      have Hb2 : Hid (Below wr.drew.heap.size wr.drew w2) := hb2
      have hbr2 : Below wr.heap.size wr w2 := bstep (drew_bel wr) hb2
      have Hbr2 : Hid (Below wr.heap.size wr w2) := hbr2
      clear hok2 hb2 hbr2 c2 c3 HN
      obtain ⟨M0, hM0⟩ : ∃ M, M = mnew (wr.drew.heap.size + 1) wr.drew.heap.size 7 (pid s) win space := ⟨_, rfl⟩
      have hM0b : wr.drew.heap.size + 1 = M0.b := by rw [hM0]; rfl
      rw [← hM0] at Hok2
      have HM0 : Hid (M0 = mnew (wr.drew.heap.size + 1) wr.drew.heap.size 7 (pid s) win space) := hM0
      rw [hM0b]
      clear hM0 hM0b
      have HRs : Hid (∀ w3, Below w2.heap.size w2 w3 → Calls Try.prog 22 #[.pointer (some ⟨M0.b, 0, none⟩), .agg #[.int .i64 3, .int .i64 2, .int .i64 4, .int .i64 9], .slice (some ⟨w3.heap.size, 0, none⟩) 1 1] (w3.alloc (.cells #[.int .i64 (2 + 3 * (1 - (s : Int)))] 3)) fun e w' => e = .returned (.int .i64 0) ∧ ResO (w3.alloc (.cells #[.int .i64 (2 + 3 * (1 - (s : Int)))] 3)) w' M0 wr.drew.heap.size tg9 [2 + 3 * (1 - (s : Int))]) := fun w3 hb3 => by
        have h3 := Hok2.out.still hb3
        have hA : Below w3.heap.size w3 (w3.alloc (.cells #[.int .i64 (2 + 3 * (1 - (s : Int)))] 3)) := balloc (Below.refl _ _)
        have hrd : RdI (w3.alloc (.cells #[.int .i64 (2 + 3 * (1 - (s : Int)))] 3)) (some ⟨w3.heap.size, 0, none⟩) 1 1 [2 + 3 * (1 - (s : Int))] := ⟨rfl, Nat.le_refl _, by simp, .inr ⟨w3.heap.size, 0, rfl, fun i hi => by
          obtain rfl : i = 0 := by omega
          exact blk_cell (heap_alloc_new _ _) 0⟩⟩
        have hap : In (some ⟨w3.heap.size, 0, none⟩) fun b => ¬ M0.own b := fun b off e hb => by cases e; have := h3.lt hb; omega
        exact reset_ok (h3.still hA) (Nat.le_trans Hb2.out.size (Nat.le_trans hb3.size hA.size)) tg9 hrd hap (by omega) (by decide) (by rw [HM0.out]; exact okp_s hs)
      go_wp2_with (first | (go_at_call 17; refine (num_any 0).mono ?_; rintro e w' ⟨rfl, rfl⟩) | (go_at_call 13; refine tag_any.mono ?_; rintro e w3 ⟨rfl, hb3⟩) | (go_at_call 15; refine (pid_any j1 j2).mono ?_; rintro e w' ⟨rfl, rfl⟩) | fail)
      refine (HRs.out w3 hb3).mono ?_
      rintro e w5 ⟨rfl, ⟨bs, hms⟩⟩
      have hbA : Below wr.heap.size wr (w3.alloc (.cells #[.int .i64 (2 + 3 * (1 - (s : Int)))] 3)) := bstep (bstep Hbr2.out hb3) (balloc (Below.refl _ _))
      have hdz := (drew_bel wr).size
      have hb5 : Below wr.heap.size wr w5 := hbA.trans (hms.kept.below hbA.size (fun j hj e => by have := Hok2.out.loj e; omega))
      have hM1 := hms.ok.lower hdz
      have hnx := HS.out.next (w1 := w) hs hb5 hM1 ⟨bs (pid (1 - s)), by
        show (if ((pid (1 - s) : Nat) : Int) ∈ [2 + 3 * (1 - (s : Int))] then _ else _) = _
        rw [if_pos (by simp; unfold pid; omega)]⟩ rfl (by rw [HM0.out]; rfl) (by rw [HM0.out]; rfl) (by rw [HM0.out]; rfl)
      have hbk5 := (hb5.block _ (lt_heap HS.out.blk)).trans HS.out.blk
      have cs : w5.cell? ⟨w.heap.size, s, none⟩ = some (.pointer none) := by
        rw [blk_cell hbk5]
        rcases s2 hs with rfl | rfl <;> simp [stc]
      have fs := frozen_of_row w5 w.heap.size s _ _ hbk5
      have HN : Hid (∃ m, StS w (w5.setCell ⟨w.heap.size, s, none⟩ (.pointer (some ⟨M0.b, 0, none⟩))) w.heap.size win space (s + 1) m) := (show ∃ m, StS _ _ _ _ _ _ m from ⟨_, hnx⟩)
      clear hnx hM1 hbk5 hms hbA hb5 hb3 hdz HRs
      go_wp2_with (first | (go_at_call 17; refine (num_any 0).mono ?_; rintro e w' ⟨rfl, rfl⟩) | fail)
      exact ⟨⟨s + 1, by omega, by go_num, HN⟩, by simp [intOf]; omega⟩
    · obtain rfl : s = 2 := by omega
      have HZ : Hid (StO w wr win space (.returned (.pointer (some ⟨w.heap.size, 0, none⟩)))) := hs0.fin e1.1 e1.2.1 e1.2.2.1 e1.2.2.2
      clear hs0 hst
      go_wp2
      go_ret
      exact HZ.out
end
end Go.Proofs.Ytghihdenbdnnjaa.Ln
