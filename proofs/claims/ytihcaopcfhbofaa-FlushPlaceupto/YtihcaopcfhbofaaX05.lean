import Derived.Test.YtihcaopcfhbofaaX01
import Derived.Test.YtihcaopcfhbofaaX04
import Derived.Sort.Grow
namespace Go.Proofs.Ytihcaopcfhbofaa.Fm
open Go.RowKit Go.Maps Mb
set_option linter.unusedVariables false
set_option maxRecDepth 100000
set_option linter.unusedSimpArgs false
section
variable {w w' W : World} {B : Nat}
theorem isNaN_any (x : Int) : Calls Try.prog 76 #[.int .i64 x] w fun e w' => e = .returned (.bool false) ∧ w' = w := by
  go_enter Try.func76, Try.ntmps76
  go_wp2
  go_ret
  exact ⟨by simp, rfl⟩
def cmpI (a b : Int) : Int := if a < b then -1 else if b < a then 1 else 0
theorem cmpI_any (a b : Int) : Calls Try.prog 62 #[.int .i64 a, .int .i64 b] w fun e w' => e = .returned (.int .i64 (cmpI a b)) ∧ w' = w := by
  have h1 : ∀ x w, Calls Try.prog 76 #[.int .i64 x] w fun e w' => e = .returned (.bool false) ∧ w' = w := fun x w => isNaN_any x
  unfold cmpI
  by_cases hab : a < b
  · go_enter Try.func62, Try.ntmps62
    go_wp2_with (first | (go_at_call 76; refine (h1 _ _).mono ?_; rintro e w' ⟨rfl, rfl⟩) | fail)
    go_ret
    exact ⟨by simp [hab], rfl⟩
  · by_cases hba : b < a
    · go_enter Try.func62, Try.ntmps62
      go_wp2_with (first | (go_at_call 76; refine (h1 _ _).mono ?_; rintro e w' ⟨rfl, rfl⟩) | fail)
      go_ret
      exact ⟨by simp [hab, hba], rfl⟩
    · go_enter Try.func62, Try.ntmps62
      go_wp2_with (first | (go_at_call 76; refine (h1 _ _).mono ?_; rintro e w' ⟨rfl, rfl⟩) | fail)
      go_ret
      exact ⟨by simp [hab, hba], rfl⟩
theorem or_any {g : Nat} {a b : Int} (h0 : w.cell? ⟨g, 0, none⟩ = some (.int .i64 a)) (h1 : w.cell? ⟨g, 1, none⟩ = some (.int .i64 b)) : Calls Try.prog 61 #[.slice (some ⟨g, 0, none⟩) 2 2] w fun e w' => e = .returned (.int .i64 (if a = 0 then b else a)) ∧ w' = w := by
  by_cases ha : a = 0
  · subst ha
    have hz : ((0 : Int) == 0) = true := rfl
    by_cases hb : b = 0
    · subst hb
      go_enter Try.func61, Try.ntmps61
      go_wp2
      refine wp_loop_rounds 3 ?_
      rw [rounds_succ]
      go_wp2
      rw [rounds_succ]
      go_wp2
      rw [rounds_succ]
      go_wp2
      go_ret
      exact ⟨rfl, rfl⟩
    · have hb' : (b == 0) = false := by simpa using hb
      go_enter Try.func61, Try.ntmps61
      go_wp2
      refine wp_loop_rounds 3 ?_
      rw [rounds_succ]
      go_wp2
      rw [rounds_succ]
      go_wp2
      go_ret
      exact ⟨by simp, rfl⟩
  · have ha' : (a == 0) = false := by simpa using ha
    go_enter Try.func61, Try.ntmps61
    go_wp2
    refine wp_loop_rounds 3 ?_
    rw [rounds_succ]
    go_wp2
    go_ret
    exact ⟨by simp [ha], rfl⟩
def cmpS (x y : Int × Int) : Int := if cmpI x.1 y.1 = 0 then cmpI x.2 y.2 else cmpI x.1 y.1
theorem cmpS_lt (x y : Int × Int) : decide (cmpS x y < 0) = ltS x y := by
  unfold cmpS cmpI ltS
  by_cases h1 : x.1 < y.1
  · simp [h1]
  · by_cases h2 : y.1 < x.1
    · simp [h1, h2]; omega
    · have h3 : x.1 = y.1 := by omega
      by_cases h4 : x.2 < y.2
      · simp [h3, h4]
      · by_cases h5 : y.2 < x.2
        · simp [h3, h4, h5]
        · simp [h3, h4, h5]
set_option maxHeartbeats 2000000 in
theorem compare_any (x y : Int × Int) (W : World) : Calls Try.prog 49 #[.agg (slotV x).toArray, .agg (slotV y).toArray] W fun e w' => e = .returned (.int .i64 (cmpS x y)) ∧ ∃ q os', w' = Sort.grow (W.drewN q) os' := by
  generalize hW2 : (W.alloc (.cells (slotV x).toArray 70)).alloc (.cells (slotV y).toArray 70) = W2
  have k1 : (W.alloc (.cells (slotV x).toArray 70)).heap[W.heap.size]? = some (.cells (slotV x).toArray 70 (0, 0)) := heap_alloc_new W _
  have e1 : (W.alloc (.cells (slotV x).toArray 70)).heap.size = W.heap.size + 1 := World.size_alloc _ _
  have k2 : W2.heap[W.heap.size]? = some (.cells (slotV x).toArray 70 (0, 0)) := by rw [← hW2]; exact blk_alloc k1
  have k3 : W2.heap[W.heap.size + 1]? = some (.cells (slotV y).toArray 70 (0, 0)) := by rw [← hW2, ← e1]; exact heap_alloc_new _ _
  have q0 : W2.cell? ⟨W.heap.size, 0, none⟩ = some (.int .i64 x.1) := blk_cell k2 0
  have q1 : W2.cell? ⟨W.heap.size, 1, none⟩ = some (.int .i64 x.2) := blk_cell k2 1
  have q2 : W2.cell? ⟨W.heap.size + 1, 0, none⟩ = some (.int .i64 y.1) := blk_cell k3 0
  have q3 : W2.cell? ⟨W.heap.size + 1, 1, none⟩ = some (.int .i64 y.2) := blk_cell k3 1
  have HW : Hid (∃ os', ∀ q, W2.drewN q = Sort.grow (W.drewN q) os') := by
    rw [← hW2]
    exact ⟨_, fun q => by rw [Sort.alloc_eq_grow, Sort.alloc_eq_grow, Sort.grow_grow]; rfl⟩
  have HC1 : Hid (∀ w', Calls Try.prog 62 #[.int .i64 x.1, .int .i64 y.1] w' fun e w2 => e = .returned (.int .i64 (cmpI x.1 y.1)) ∧ w2 = w') := fun w' => cmpI_any _ _
  have HC2 : Hid (∀ w', Calls Try.prog 62 #[.int .i64 x.2, .int .i64 y.2] w' fun e w2 => e = .returned (.int .i64 (cmpI x.2 y.2)) ∧ w2 = w') := fun w' => cmpI_any _ _
  have HS : Hid (cmpS x y = if cmpI x.1 y.1 = 0 then cmpI x.2 y.2 else cmpI x.1 y.1) := rfl
  have Hsz : Hid ((W.alloc (.cells (slotV x).toArray 70)).heap.size = W.heap.size + 1) := e1
  clear k1 k2 k3 e1
  generalize cmpS x y = cs at *
  generalize cmpI x.1 y.1 = c1 at *
  generalize cmpI x.2 y.2 = c2 at *
  have HO : Hid (∀ (w' : World) (g : Nat), w'.cell? ⟨g, 0, none⟩ = some (.int .i64 c1) → w'.cell? ⟨g, 1, none⟩ = some (.int .i64 c2) → Calls Try.prog 61 #[.slice (some ⟨g, 0, none⟩) 2 2] w' fun e w2 => e = .returned (.int .i64 cs) ∧ w2 = w') := fun w' g h0 h1 => by rw [HS.out]; exact or_any h0 h1
  generalize (slotV x).toArray = px at *
  generalize (slotV y).toArray = py at *
  go_enter Try.func49, Try.ntmps49
  go_wp2
  refine wp_region_held_drew (S := (fun w' => w'.cell? ⟨W.heap.size, 0, none⟩ = some (.int .i64 x.1) ∧ w'.cell? ⟨W.heap.size, 1, none⟩ = some (.int .i64 x.2) ∧ w'.cell? ⟨W.heap.size + 1, 0, none⟩ = some (.int .i64 y.1) ∧ w'.cell? ⟨W.heap.size + 1, 1, none⟩ = some (.int .i64 y.2))) (by kernel_rfl) ⟨q0, q1, q2, q3⟩ (fun hHeld => ?_)
  simp only [Act.put, List.size_toArray, List.length_cons, List.length_nil, Nat.zero_add]
  refine wpAnyH_take (i := 0) (v := .pointer (some ⟨W.heap.size, 0, none⟩)) rfl (by kernel_rfl) (by kernel_rfl) (by kernel_rfl) (fun _ _ _ h => h) (Or.inl ⟨by rfl, fun w' hS => by go_simp⟩) hHeld ?_
  simp only [Act.put, gA9, gZ9, gC9, sA9, sZ9, sC9]
  refine wpAnyH_take (i := 1) (v := .int .i64 x.1) rfl (by kernel_rfl) (by kernel_rfl) (by kernel_rfl) (fun _ _ _ h => h) (Or.inl ⟨by rfl, fun w' hS => by (obtain ⟨s0, s1, s2, s3⟩ := hS; go_simp)⟩) hHeld ?_
  simp only [Act.put, gA9, gZ9, gC9, sA9, sZ9, sC9]
  refine wpAnyH_take (i := 2) (v := .pointer (some ⟨W.heap.size + 1, 0, none⟩)) rfl (by kernel_rfl) (by kernel_rfl) (by kernel_rfl) (fun _ _ _ h => h) (Or.inl ⟨by rfl, fun w' hS => by go_simp⟩) hHeld ?_
  simp only [Act.put, gA9, gZ9, gC9, sA9, sZ9, sC9]
  refine wpAnyH_take (i := 3) (v := .int .i64 y.1) rfl (by kernel_rfl) (by kernel_rfl) (by kernel_rfl) (fun _ _ _ h => h) (Or.inl ⟨by rfl, fun w' hS => by (obtain ⟨s0, s1, s2, s3⟩ := hS; go_simp)⟩) hHeld ?_
  simp only [Act.put, gA9, gZ9, gC9, sA9, sZ9, sC9]
  refine wpAnyH_take (i := 5) (v := .pointer (some ⟨W.heap.size, 1, none⟩)) rfl (by kernel_rfl) (by kernel_rfl) (by kernel_rfl) (fun _ _ _ h => h) (Or.inl ⟨by rfl, fun w' hS => by go_simp⟩) hHeld ?_
  simp only [Act.put, gA9, gZ9, gC9, sA9, sZ9, sC9]
  refine wpAnyH_take (i := 6) (v := .int .i64 x.2) rfl (by kernel_rfl) (by kernel_rfl) (by kernel_rfl) (fun _ _ _ h => h) (Or.inl ⟨by rfl, fun w' hS => by (obtain ⟨s0, s1, s2, s3⟩ := hS; go_simp)⟩) hHeld ?_
  simp only [Act.put, gA9, gZ9, gC9, sA9, sZ9, sC9]
  refine wpAnyH_take (i := 7) (v := .pointer (some ⟨W.heap.size + 1, 1, none⟩)) rfl (by kernel_rfl) (by kernel_rfl) (by kernel_rfl) (fun _ _ _ h => h) (Or.inl ⟨by rfl, fun w' hS => by go_simp⟩) hHeld ?_
  simp only [Act.put, gA9, gZ9, gC9, sA9, sZ9, sC9]
  refine wpAnyH_take (i := 8) (v := .int .i64 y.2) rfl (by kernel_rfl) (by kernel_rfl) (by kernel_rfl) (fun _ _ _ h => h) (Or.inl ⟨by rfl, fun w' hS => by (obtain ⟨s0, s1, s2, s3⟩ := hS; go_simp)⟩) hHeld ?_
  simp only [Act.put, gA9, gZ9, gC9, sA9, sZ9, sC9]
  refine wpAnyH_ready (rs := [4]) (by kernel_rfl) (by simp) ?_
  refine AllReadyH.cons rfl (fun K hK => ?_) AllReadyH.nil
  go_simp
  refine (HC1.out _).mono ?_
  rintro e w2 ⟨rfl, rfl⟩
  refine hK.out _ _ ⟨q0, q1, q2, q3⟩ (fun hHeld => ?_)
  clear hK K
  refine wpAnyH_ready (rs := [9]) (by kernel_rfl) (by simp) ?_
  refine AllReadyH.cons rfl (fun K hK => ?_) AllReadyH.nil
  go_simp
  refine (HC2.out _).mono ?_
  rintro e w2 ⟨rfl, rfl⟩
  refine hK.out _ _ ⟨q0, q1, q2, q3⟩ (fun hHeld => ?_)
  clear hK K
  refine wpAnyH_ready (rs := [10]) (by kernel_rfl) (by simp) ?_
  refine AllReadyH.cons rfl (fun K hK => ?_) AllReadyH.nil
  go_simp
  refine hK.out _ _ ⟨below_at (w := W2.drew) (balloc (Below.refl _ _)) q0, below_at (w := W2.drew) (balloc (Below.refl _ _)) q1, below_at (w := W2.drew) (balloc (Below.refl _ _)) q2, below_at (w := W2.drew) (balloc (Below.refl _ _)) q3⟩ (fun hHeld => ?_)
  clear hK K
  refine wpAnyH_ready (rs := [11]) (by kernel_rfl) (by simp) ?_
  refine AllReadyH.cons rfl (fun K hK => ?_) AllReadyH.nil
  go_simp
  refine (HO.out _ W2.drew.heap.size (blk_cell (heap_alloc_new _ _) 0) (blk_cell (heap_alloc_new _ _) 1)).mono ?_
  rintro e w2 ⟨rfl, rfl⟩
  refine hK.out _ _ ⟨below_at (w := W2.drew) (balloc (Below.refl _ _)) q0, below_at (w := W2.drew) (balloc (Below.refl _ _)) q1, below_at (w := W2.drew) (balloc (Below.refl _ _)) q2, below_at (w := W2.drew) (balloc (Below.refl _ _)) q3⟩ (fun hHeld => ?_)
  clear hK K
  refine wpAnyH_take (i := 12) (v := .int .i64 cs) rfl (by kernel_rfl) (by kernel_rfl) (by kernel_rfl) (fun _ _ _ h => h) (Or.inl ⟨by rfl, fun w' hS => by go_simp⟩) hHeld ?_
  simp only [Act.put, gA9, gZ9, gC9, sA9, sZ9, sC9]
  refine wpAnyH_done (by kernel_rfl) ?_ _
  clear hHeld
  go_wp2
  go_ret
  refine ⟨rfl, ?_⟩
  obtain ⟨os', ho⟩ := HW.out
  exact ⟨1, os' ++ #[.cells #[.int .i64 c1, .int .i64 c2] 3], by rw [← Sort.grow_grow, ← ho 1, ← Sort.alloc_eq_grow]; rfl⟩
end
end Go.Proofs.Ytihcaopcfhbofaa.Fm
