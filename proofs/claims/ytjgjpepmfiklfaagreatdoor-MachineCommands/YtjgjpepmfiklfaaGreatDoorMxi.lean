import Derived.Test.YtjgjpepmfiklfaaGreatDoorMxh
import Derived.Test.YtjgjpepmfiklfaaGreatDoorTake
namespace Go.Proofs.YtjgjpepmfiklfaaGreatDoor.Mx
open Go.RowKit Mb Mh Lo
set_option linter.unusedVariables false
set_option maxRecDepth 100000
set_option linter.unusedSimpArgs false
def boom : Ending := .panicked [{ v := .iface 25 (.int .i64 14), recovered := false }]
def Rb (w : World) (rb : Nat) (ao : Option Addr) (n c : Nat) (a : Nat) : Prop := w.heap[rb]? = some (.cells #[.slice ao n c, .int .i64 (a : Int)] 52 (0, 0))
theorem tkGo_nat (bs : List Int) (a : Nat) : ∀ (k i : Nat) (v : Int), (Wm.tkGo bs a k i v).2.2 = 0 → ∃ m : Nat, (Wm.tkGo bs a k i v).2.1 = (m : Int) ∧ m ≤ bs.length ∧ a < m
  | 0, i, v, h => by simp [Wm.tkGo] at h
  | k + 1, i, v, h => by
    unfold Wm.tkGo at h ⊢
    split
    · rename_i h1
      rw [if_pos h1] at h
      split
      · rename_i h2
        rw [if_pos h2] at h
        exact tkGo_nat bs a k (i + 1) _ h
      · rename_i h2
        rw [if_neg h2] at h
        split
        · rename_i h3
          rw [if_pos h3] at h
          simp at h
        · exact ⟨a + i + 1, rfl, by omega, by omega⟩
    · rename_i h1
      rw [if_neg h1] at h
      simp at h
theorem tk_nat {bs : List Int} {a : Nat} (h : (Wm.tk bs (a : Int)).2.2 = 0) : ∃ m : Nat, (Wm.tk bs (a : Int)).2.1 = (m : Int) ∧ m ≤ bs.length ∧ a < m := by
  unfold Wm.tk at h ⊢
  split
  · rename_i h1
    rw [if_pos h1] at h
    simp at h
  · rename_i h1
    rw [if_neg h1] at h
    have := tkGo_nat bs (a : Int).toNat 9 0 0 h
    simpa using this
def cntO (bs : List Int) (a : Nat) (lo hi : Int) : Option (Int × Nat) := if (Wm.tk bs (a : Int)).2.2 = 0 ∧ lo ≤ (Wm.tk bs (a : Int)).1 ∧ (Wm.tk bs (a : Int)).1 ≤ hi then some ((Wm.tk bs (a : Int)).1, (Wm.tk bs (a : Int)).2.1.toNat) else none
theorem cnt_some {bs : List Int} {a a' : Nat} {lo hi v : Int} (h : cntO bs a lo hi = some (v, a')) : Wm.tk bs (a : Int) = (v, (a' : Int), 0) ∧ lo ≤ v ∧ v ≤ hi ∧ a' ≤ bs.length ∧ a < a' := by
  unfold cntO at h
  split at h
  · rename_i h1
    obtain ⟨m, hm, hl, hl2⟩ := tk_nat h1.1
    simp only [Option.some.injEq, Prod.mk.injEq] at h
    rw [hm] at h
    have e1 : a' = m := by have := h.2; omega
    subst e1
    refine ⟨?_, by omega, by omega, hl, hl2⟩
    rw [← h.1, ← hm, ← h1.1]
  · cases h
section
variable {w w' W : World} {B : Nat}
theorem need_yes : Calls Tryz.prog 26 #[.bool true] w fun e w' => e = .returned (.tuple #[]) ∧ w = w' := by
  go_enter Tryz.func26, Tryz.ntmps26
  go_wp2
  (try simp only [Exit.inBlock, Exit.then])
  exact bodyPost_end (results_none Tryz.results26 _ _ _) rfl ⟨rfl, rfl⟩
theorem need_no : Calls Tryz.prog 26 #[.bool false] w fun e w' => e = boom ∧ w = w' := by
  go_enter Tryz.func26, Tryz.ntmps26
  go_wp2_with fail
  exact ⟨rfl, rfl, rfl⟩
theorem rd_wk {ao : Option Addr} {n c : Nat} {bs : List Int} (h : Rd w ao n c bs) : Wk.Rd w ao n bs := ⟨h.1, h.2.2.1, h.2.2.2⟩
theorem Rb.cells {rb n c a : Nat} {ao : Option Addr} (h : Rb w rb ao n c a) : w.cell? ⟨rb, 0, none⟩ = some (.slice ao n c) ∧ w.cell? ⟨rb, 1, none⟩ = some (.int .i64 (a : Int)) := ⟨blk_cell h 0, blk_cell h 1⟩
set_option maxHeartbeats 4000000 in
theorem count_ok {rb n c a : Nat} {ao : Option Addr} {bs : List Int} {lo hi : Int} {v : Int} {a' : Nat} (hr : Rd w ao n c bs) (hn : n ≤ 140737488355328) (hb : Rb w rb ao n c a) (hc : cntO bs a lo hi = some (v, a')) : Calls Tryz.prog 44 #[.pointer (some ⟨rb, 0, none⟩), .int .i64 lo, .int .i64 hi] w fun e w' => e = .returned (.int .i64 v) ∧ Rb w' rb ao n c a' ∧ Kept w w' (fun j => j = rb) := by
  have HT : Hid (Calls Tryz.prog 68 #[.slice ao n c, .int .i64 (a : Int)] w.drew fun e w' => e = .returned (.tuple #[.int .i64 (Wm.tk bs (a : Int)).1, .int .i64 (Wm.tk bs (a : Int)).2.1, .int .i64 (Wm.tk bs (a : Int)).2.2]) ∧ w.drew = w') := Wk.take_any ao n c bs w.drew (rd_wk (hr.below (Below.refl _ w).drew)) hn a
  have HW : Hid (∀ (X : World) (v : Int), Calls Tryz.prog 28 #[.int .i64 v, .int .i64 lo, .int .i64 hi] X fun e w' => e = .returned (.bool (decide (lo ≤ v ∧ v ≤ hi))) ∧ X = w') := fun X v => within_any v lo hi
  have HB : Hid (Rb w rb ao n c a) := hb
  obtain ⟨h1, h2, h3, h4, h5⟩ := cnt_some hc
  rw [h1] at HT
  have hw : decide (lo ≤ v ∧ v ≤ hi) = true := by simp [h2, h3]
  have HW2 : Hid (∀ (X : World), Calls Tryz.prog 28 #[.int .i64 v, .int .i64 lo, .int .i64 hi] X fun e w' => e = .returned (.bool true) ∧ X = w') := fun X => by rw [← hw]; exact HW.out X v
  clear hw h1 h2 h3 hc hr hb HW
  go_enter Tryz.func44, Tryz.ntmps44
  go_wp2_with (fail)
  refine wp_region_held_drew (S := (fun w' => w' = w.drew)) (by kernel_rfl) rfl (fun hHeld => ?_)
  simp only [Act.put, List.size_toArray, List.length_cons, List.length_nil, Nat.zero_add]
  refine wpAnyH_take (i := 0) (v := .pointer (some ⟨rb, 0, none⟩)) rfl (by kernel_rfl) (by kernel_rfl) (by kernel_rfl) (fun _ _ _ h => h) (Or.inl ⟨by rfl, fun w' hS => by go_simp⟩) hHeld ?_
  simp only [Act.put, List.getElem_toArray, List.getElem_cons_zero, List.getElem_cons_succ, List.setIfInBounds_toArray, List.set_cons_zero, List.set_cons_succ]
  refine wpAnyH_take (i := 1) (v := .pointer (some ⟨rb, 0, none⟩)) rfl (by kernel_rfl) (by kernel_rfl) (by kernel_rfl) (fun _ _ _ h => h) (Or.inl ⟨by rfl, fun w' hS => by go_simp⟩) hHeld ?_
  simp only [Act.put, List.getElem_toArray, List.getElem_cons_zero, List.getElem_cons_succ, List.setIfInBounds_toArray, List.set_cons_zero, List.set_cons_succ]
  refine wpAnyH_take (i := 2) (v := .pointer (some ⟨rb, 0, none⟩)) rfl (by kernel_rfl) (by kernel_rfl) (by kernel_rfl) (fun _ _ _ h => h) (Or.inl ⟨by rfl, fun w' hS => by go_simp⟩) hHeld ?_
  simp only [Act.put, List.getElem_toArray, List.getElem_cons_zero, List.getElem_cons_succ, List.setIfInBounds_toArray, List.set_cons_zero, List.set_cons_succ]
  refine wpAnyH_take (i := 3) (v := .slice ao n c) rfl (by kernel_rfl) (by kernel_rfl) (by kernel_rfl) (fun _ _ _ h => h) (Or.inl ⟨by rfl, fun w' hS => by (have s0 := HB.out.cells.1; subst hS; go_simp)⟩) hHeld ?_
  simp only [Act.put, List.getElem_toArray, List.getElem_cons_zero, List.getElem_cons_succ, List.setIfInBounds_toArray, List.set_cons_zero, List.set_cons_succ]
  refine wpAnyH_take (i := 4) (v := .pointer (some ⟨rb, 0, none⟩)) rfl (by kernel_rfl) (by kernel_rfl) (by kernel_rfl) (fun _ _ _ h => h) (Or.inl ⟨by rfl, fun w' hS => by go_simp⟩) hHeld ?_
  simp only [Act.put, List.getElem_toArray, List.getElem_cons_zero, List.getElem_cons_succ, List.setIfInBounds_toArray, List.set_cons_zero, List.set_cons_succ]
  refine wpAnyH_take (i := 5) (v := .pointer (some ⟨rb, 0, none⟩)) rfl (by kernel_rfl) (by kernel_rfl) (by kernel_rfl) (fun _ _ _ h => h) (Or.inl ⟨by rfl, fun w' hS => by go_simp⟩) hHeld ?_
  simp only [Act.put, List.getElem_toArray, List.getElem_cons_zero, List.getElem_cons_succ, List.setIfInBounds_toArray, List.set_cons_zero, List.set_cons_succ]
  refine wpAnyH_take (i := 6) (v := .pointer (some ⟨rb, 1, none⟩)) rfl (by kernel_rfl) (by kernel_rfl) (by kernel_rfl) (fun _ _ _ h => h) (Or.inl ⟨by rfl, fun w' hS => by go_simp⟩) hHeld ?_
  simp only [Act.put, List.getElem_toArray, List.getElem_cons_zero, List.getElem_cons_succ, List.setIfInBounds_toArray, List.set_cons_zero, List.set_cons_succ]
  refine wpAnyH_take (i := 7) (v := .int .i64 (a : Int)) rfl (by kernel_rfl) (by kernel_rfl) (by kernel_rfl) (fun _ _ _ h => h) (Or.inl ⟨by rfl, fun w' hS => by (have s0 := HB.out.cells.2; subst hS; go_simp)⟩) hHeld ?_
  simp only [Act.put, List.getElem_toArray, List.getElem_cons_zero, List.getElem_cons_succ, List.setIfInBounds_toArray, List.set_cons_zero, List.set_cons_succ]
  refine wpAnyH_ready (rs := [8]) (by kernel_rfl) (by simp) ?_
  refine AllReadyH.cons rfl (fun K hK => ?_) AllReadyH.nil
  go_simp
  refine HT.out.mono ?_
  rintro e wx ⟨rfl, rfl⟩
  refine hK.out _ _ rfl (fun hHeld => ?_)
  clear hK K
  refine wpAnyH_take (i := 9) (v := .tuple #[.int .i64 v, .int .i64 (a' : Int), .int .i64 0]) rfl (by kernel_rfl) (by kernel_rfl) (by kernel_rfl) (fun _ _ _ h => h) (Or.inl ⟨by rfl, fun w' hS => by go_simp⟩) hHeld ?_
  simp only [Act.put, List.getElem_toArray, List.getElem_cons_zero, List.getElem_cons_succ, List.setIfInBounds_toArray, List.set_cons_zero, List.set_cons_succ]
  refine wpAnyH_take (i := 10) (v := .int .i64 v) rfl (by kernel_rfl) (by kernel_rfl) (by kernel_rfl) (fun _ _ _ h => h) (Or.inl ⟨by rfl, fun w' hS => by go_simp⟩) hHeld ?_
  simp only [Act.put, List.getElem_toArray, List.getElem_cons_zero, List.getElem_cons_succ, List.setIfInBounds_toArray, List.set_cons_zero, List.set_cons_succ]
  refine wpAnyH_take (i := 11) (v := .int .i64 (a' : Int)) rfl (by kernel_rfl) (by kernel_rfl) (by kernel_rfl) (fun _ _ _ h => h) (Or.inl ⟨by rfl, fun w' hS => by go_simp⟩) hHeld ?_
  simp only [Act.put, List.getElem_toArray, List.getElem_cons_zero, List.getElem_cons_succ, List.setIfInBounds_toArray, List.set_cons_zero, List.set_cons_succ]
  refine wpAnyH_take (i := 12) (v := .int .i64 0) rfl (by kernel_rfl) (by kernel_rfl) (by kernel_rfl) (fun _ _ _ h => h) (Or.inl ⟨by rfl, fun w' hS => by go_simp⟩) hHeld ?_
  simp only [Act.put, List.getElem_toArray, List.getElem_cons_zero, List.getElem_cons_succ, List.setIfInBounds_toArray, List.set_cons_zero, List.set_cons_succ]
  refine wpAnyH_take (i := 13) (v := .int .i64 v) rfl (by kernel_rfl) (by kernel_rfl) (by kernel_rfl) (fun _ _ _ h => h) (Or.inl ⟨by rfl, fun w' hS => by go_simp⟩) hHeld ?_
  simp only [Act.put, List.getElem_toArray, List.getElem_cons_zero, List.getElem_cons_succ, List.setIfInBounds_toArray, List.set_cons_zero, List.set_cons_succ]
  refine wpAnyH_take (i := 14) (v := .int .i64 (a' : Int)) rfl (by kernel_rfl) (by kernel_rfl) (by kernel_rfl) (fun _ _ _ h => h) (Or.inl ⟨by rfl, fun w' hS => by go_simp⟩) hHeld ?_
  simp only [Act.put, List.getElem_toArray, List.getElem_cons_zero, List.getElem_cons_succ, List.setIfInBounds_toArray, List.set_cons_zero, List.set_cons_succ]
  refine wpAnyH_take (i := 15) (v := .int .i64 0) rfl (by kernel_rfl) (by kernel_rfl) (by kernel_rfl) (fun _ _ _ h => h) (Or.inl ⟨by rfl, fun w' hS => by go_simp⟩) hHeld ?_
  simp only [Act.put, List.getElem_toArray, List.getElem_cons_zero, List.getElem_cons_succ, List.setIfInBounds_toArray, List.set_cons_zero, List.set_cons_succ]
  refine wpAnyH_done (by kernel_rfl) ?_ _
  clear hHeld
  have hf := frozen_of_row w rb 1 _ _ HB.out
  have hcl := HB.out.cells.2
  go_wp2_with (first
    | (go_at_call 28; refine (HW2.out _).mono ?_; rintro e wx ⟨rfl, rfl⟩)
    | (go_at_call 26; refine (need_yes).mono ?_; rintro e wx ⟨rfl, rfl⟩)
    | fail)
  go_ret
  exact ⟨rfl, blk_set (show w.drew.heap[rb]? = _ from HB.out) rfl, (Kept.ofBelow (Below.refl _ w).drew _).trans (kset (P := fun j => j = rb) _ _ _ _ rfl)⟩
set_option maxHeartbeats 4000000 in
theorem count_no {rb n c a : Nat} {ao : Option Addr} {bs : List Int} {lo hi : Int} (hr : Rd w ao n c bs) (hn : n ≤ 140737488355328) (hb : Rb w rb ao n c a) (hc : cntO bs a lo hi = none) : Calls Tryz.prog 44 #[.pointer (some ⟨rb, 0, none⟩), .int .i64 lo, .int .i64 hi] w fun e w' => e = boom ∧ Kept w w' (fun j => j = rb) := by
  have HT : Hid (Calls Tryz.prog 68 #[.slice ao n c, .int .i64 (a : Int)] w.drew fun e w' => e = .returned (.tuple #[.int .i64 (Wm.tk bs (a : Int)).1, .int .i64 (Wm.tk bs (a : Int)).2.1, .int .i64 (Wm.tk bs (a : Int)).2.2]) ∧ w.drew = w') := Wk.take_any ao n c bs w.drew (rd_wk (hr.below (Below.refl _ w).drew)) hn a
  have HW : Hid (∀ (X : World) (v : Int), Calls Tryz.prog 28 #[.int .i64 v, .int .i64 lo, .int .i64 hi] X fun e w' => e = .returned (.bool (decide (lo ≤ v ∧ v ≤ hi))) ∧ X = w') := fun X v => within_any v lo hi
  have HB : Hid (Rb w rb ao n c a) := hb
  obtain ⟨tv, htv⟩ : ∃ x, (Wm.tk bs (a : Int)).1 = x := ⟨_, rfl⟩
  obtain ⟨tn, htn⟩ : ∃ x, (Wm.tk bs (a : Int)).2.1 = x := ⟨_, rfl⟩
  obtain ⟨te, hte⟩ : ∃ x, (Wm.tk bs (a : Int)).2.2 = x := ⟨_, rfl⟩
  rw [htv, htn, hte] at HT
  have HNo : Hid (¬ (te = 0 ∧ lo ≤ tv ∧ tv ≤ hi)) := by
    unfold cntO at hc
    rw [htv, hte] at hc
    intro h9
    rw [if_pos h9] at hc
    cases hc
  clear hc hr hb htv htn hte
  go_enter Tryz.func44, Tryz.ntmps44
  go_wp2_with (fail)
  refine wp_region_held_drew (S := (fun w' => w' = w.drew)) (by kernel_rfl) rfl (fun hHeld => ?_)
  simp only [Act.put, List.size_toArray, List.length_cons, List.length_nil, Nat.zero_add]
  refine wpAnyH_take (i := 0) (v := .pointer (some ⟨rb, 0, none⟩)) rfl (by kernel_rfl) (by kernel_rfl) (by kernel_rfl) (fun _ _ _ h => h) (Or.inl ⟨by rfl, fun w' hS => by go_simp⟩) hHeld ?_
  simp only [Act.put, List.getElem_toArray, List.getElem_cons_zero, List.getElem_cons_succ, List.setIfInBounds_toArray, List.set_cons_zero, List.set_cons_succ]
  refine wpAnyH_take (i := 1) (v := .pointer (some ⟨rb, 0, none⟩)) rfl (by kernel_rfl) (by kernel_rfl) (by kernel_rfl) (fun _ _ _ h => h) (Or.inl ⟨by rfl, fun w' hS => by go_simp⟩) hHeld ?_
  simp only [Act.put, List.getElem_toArray, List.getElem_cons_zero, List.getElem_cons_succ, List.setIfInBounds_toArray, List.set_cons_zero, List.set_cons_succ]
  refine wpAnyH_take (i := 2) (v := .pointer (some ⟨rb, 0, none⟩)) rfl (by kernel_rfl) (by kernel_rfl) (by kernel_rfl) (fun _ _ _ h => h) (Or.inl ⟨by rfl, fun w' hS => by go_simp⟩) hHeld ?_
  simp only [Act.put, List.getElem_toArray, List.getElem_cons_zero, List.getElem_cons_succ, List.setIfInBounds_toArray, List.set_cons_zero, List.set_cons_succ]
  refine wpAnyH_take (i := 3) (v := .slice ao n c) rfl (by kernel_rfl) (by kernel_rfl) (by kernel_rfl) (fun _ _ _ h => h) (Or.inl ⟨by rfl, fun w' hS => by (have s0 := HB.out.cells.1; subst hS; go_simp)⟩) hHeld ?_
  simp only [Act.put, List.getElem_toArray, List.getElem_cons_zero, List.getElem_cons_succ, List.setIfInBounds_toArray, List.set_cons_zero, List.set_cons_succ]
  refine wpAnyH_take (i := 4) (v := .pointer (some ⟨rb, 0, none⟩)) rfl (by kernel_rfl) (by kernel_rfl) (by kernel_rfl) (fun _ _ _ h => h) (Or.inl ⟨by rfl, fun w' hS => by go_simp⟩) hHeld ?_
  simp only [Act.put, List.getElem_toArray, List.getElem_cons_zero, List.getElem_cons_succ, List.setIfInBounds_toArray, List.set_cons_zero, List.set_cons_succ]
  refine wpAnyH_take (i := 5) (v := .pointer (some ⟨rb, 0, none⟩)) rfl (by kernel_rfl) (by kernel_rfl) (by kernel_rfl) (fun _ _ _ h => h) (Or.inl ⟨by rfl, fun w' hS => by go_simp⟩) hHeld ?_
  simp only [Act.put, List.getElem_toArray, List.getElem_cons_zero, List.getElem_cons_succ, List.setIfInBounds_toArray, List.set_cons_zero, List.set_cons_succ]
  refine wpAnyH_take (i := 6) (v := .pointer (some ⟨rb, 1, none⟩)) rfl (by kernel_rfl) (by kernel_rfl) (by kernel_rfl) (fun _ _ _ h => h) (Or.inl ⟨by rfl, fun w' hS => by go_simp⟩) hHeld ?_
  simp only [Act.put, List.getElem_toArray, List.getElem_cons_zero, List.getElem_cons_succ, List.setIfInBounds_toArray, List.set_cons_zero, List.set_cons_succ]
  refine wpAnyH_take (i := 7) (v := .int .i64 (a : Int)) rfl (by kernel_rfl) (by kernel_rfl) (by kernel_rfl) (fun _ _ _ h => h) (Or.inl ⟨by rfl, fun w' hS => by (have s0 := HB.out.cells.2; subst hS; go_simp)⟩) hHeld ?_
  simp only [Act.put, List.getElem_toArray, List.getElem_cons_zero, List.getElem_cons_succ, List.setIfInBounds_toArray, List.set_cons_zero, List.set_cons_succ]
  refine wpAnyH_ready (rs := [8]) (by kernel_rfl) (by simp) ?_
  refine AllReadyH.cons rfl (fun K hK => ?_) AllReadyH.nil
  go_simp
  refine HT.out.mono ?_
  rintro e wx ⟨rfl, rfl⟩
  refine hK.out _ _ rfl (fun hHeld => ?_)
  clear hK K
  refine wpAnyH_take (i := 9) (v := .tuple #[.int .i64 tv, .int .i64 tn, .int .i64 te]) rfl (by kernel_rfl) (by kernel_rfl) (by kernel_rfl) (fun _ _ _ h => h) (Or.inl ⟨by rfl, fun w' hS => by go_simp⟩) hHeld ?_
  simp only [Act.put, List.getElem_toArray, List.getElem_cons_zero, List.getElem_cons_succ, List.setIfInBounds_toArray, List.set_cons_zero, List.set_cons_succ]
  refine wpAnyH_take (i := 10) (v := .int .i64 tv) rfl (by kernel_rfl) (by kernel_rfl) (by kernel_rfl) (fun _ _ _ h => h) (Or.inl ⟨by rfl, fun w' hS => by go_simp⟩) hHeld ?_
  simp only [Act.put, List.getElem_toArray, List.getElem_cons_zero, List.getElem_cons_succ, List.setIfInBounds_toArray, List.set_cons_zero, List.set_cons_succ]
  refine wpAnyH_take (i := 11) (v := .int .i64 tn) rfl (by kernel_rfl) (by kernel_rfl) (by kernel_rfl) (fun _ _ _ h => h) (Or.inl ⟨by rfl, fun w' hS => by go_simp⟩) hHeld ?_
  simp only [Act.put, List.getElem_toArray, List.getElem_cons_zero, List.getElem_cons_succ, List.setIfInBounds_toArray, List.set_cons_zero, List.set_cons_succ]
  refine wpAnyH_take (i := 12) (v := .int .i64 te) rfl (by kernel_rfl) (by kernel_rfl) (by kernel_rfl) (fun _ _ _ h => h) (Or.inl ⟨by rfl, fun w' hS => by go_simp⟩) hHeld ?_
  simp only [Act.put, List.getElem_toArray, List.getElem_cons_zero, List.getElem_cons_succ, List.setIfInBounds_toArray, List.set_cons_zero, List.set_cons_succ]
  refine wpAnyH_take (i := 13) (v := .int .i64 tv) rfl (by kernel_rfl) (by kernel_rfl) (by kernel_rfl) (fun _ _ _ h => h) (Or.inl ⟨by rfl, fun w' hS => by go_simp⟩) hHeld ?_
  simp only [Act.put, List.getElem_toArray, List.getElem_cons_zero, List.getElem_cons_succ, List.setIfInBounds_toArray, List.set_cons_zero, List.set_cons_succ]
  refine wpAnyH_take (i := 14) (v := .int .i64 tn) rfl (by kernel_rfl) (by kernel_rfl) (by kernel_rfl) (fun _ _ _ h => h) (Or.inl ⟨by rfl, fun w' hS => by go_simp⟩) hHeld ?_
  simp only [Act.put, List.getElem_toArray, List.getElem_cons_zero, List.getElem_cons_succ, List.setIfInBounds_toArray, List.set_cons_zero, List.set_cons_succ]
  refine wpAnyH_take (i := 15) (v := .int .i64 te) rfl (by kernel_rfl) (by kernel_rfl) (by kernel_rfl) (fun _ _ _ h => h) (Or.inl ⟨by rfl, fun w' hS => by go_simp⟩) hHeld ?_
  simp only [Act.put, List.getElem_toArray, List.getElem_cons_zero, List.getElem_cons_succ, List.setIfInBounds_toArray, List.set_cons_zero, List.set_cons_succ]
  refine wpAnyH_done (by kernel_rfl) ?_ _
  clear hHeld
  by_cases he : te = 0
  · subst he
    have hw : decide (lo ≤ tv ∧ tv ≤ hi) = false := by
      rw [decide_eq_false_iff_not]
      exact fun h9 => HNo.out ⟨rfl, h9⟩
    have HW2 : Hid (∀ (X : World), Calls Tryz.prog 28 #[.int .i64 tv, .int .i64 lo, .int .i64 hi] X fun e w' => e = .returned (.bool false) ∧ X = w') := fun X => by rw [← hw]; exact HW.out X tv
    clear hw HW
    go_wp2_with (fail)
    refine (HW2.out _).mono ?_
    rintro e wx ⟨rfl, rfl⟩
    go_wp2_with (fail)
    refine (need_no).mono ?_
    rintro e wx ⟨rfl, rfl⟩
    unfold boom
    go_wp2_with fail
    exact ⟨rfl, rfl, Kept.ofBelow (Below.refl _ w).drew _⟩
  · have he2 : (te == 0) = false := by rw [beq_eq_false_iff_ne]; exact he
    go_wp2_with (fail)
    refine (need_no).mono ?_
    rintro e wx ⟨rfl, rfl⟩
    unfold boom
    go_wp2_with fail
    exact ⟨rfl, rfl, Kept.ofBelow (Below.refl _ w).drew _⟩
end
end Go.Proofs.YtjgjpepmfiklfaaGreatDoor.Mx
