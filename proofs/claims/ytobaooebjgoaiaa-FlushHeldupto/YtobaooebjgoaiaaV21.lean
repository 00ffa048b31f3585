import Derived.Test.YtobaooebjgoaiaaV10
namespace Go.Proofs.Ytobaooebjgoaiaa.Fm
open Go.RowKit Go.Maps Mb
set_option linter.unusedVariables false
set_option maxRecDepth 100000
set_option linter.unusedSimpArgs false
section
variable {w w' W : World} {B : Nat}
theorem count_any (x : Int) : Calls Try.prog 81 #[.int .i64 x] w fun e w' => e = .returned (.bool (inR 1 4611686018427387904 x)) ∧ w' = w := by
 go_enter Try.func81, Try.ntmps81
 go_wp2
 all_goals (go_ret; exact ⟨by simp [inR]; first | assumption | omega, rfl⟩)
theorem wholeI_eq (v : Vi) : wholeI v = (inR 1 4611686018427387904 v.e && decide (0 ≤ v.l) && decide (v.l < 16) && inR 1 4611686018427387904 v.i && inR 1 4611686018427387904 v.c) := by
 unfold wholeI
 have : inR 0 15 v.l = (decide (0 ≤ v.l) && decide (v.l < 16)) := by
  rw [Bool.eq_iff_iff]; simp [inR]; omega
 rw [this, ← Bool.and_assoc]
set_option maxHeartbeats 4000000 in
theorem qWhole_any (v : Vi) : Calls Try.prog 80 #[.agg v.cs.toArray] w fun e w' => e = .returned (.bool (wholeI v)) ∧ Below w.heap.size w w' := by
 generalize hW1 : w.alloc (.cells v.cs.toArray 24) = W1
 have b1 : Below w.heap.size w W1 := hW1 ▸ balloc (Below.refl _ _)
 have k1 : W1.heap[w.heap.size]? = some (.cells v.cs.toArray 24 (0, 0)) := by rw [← hW1]; exact heap_alloc_new w _
 have c0 : W1.cell? ⟨w.heap.size, 0, none⟩ = some (.int .i64 v.e) := blk_cell k1 0
 have c1 : W1.cell? ⟨w.heap.size, 1, none⟩ = some (.int .i64 v.l) := blk_cell k1 1
 have c2 : W1.cell? ⟨w.heap.size, 2, none⟩ = some (.int .i64 v.i) := blk_cell k1 2
 have c3 : W1.cell? ⟨w.heap.size, 3, none⟩ = some (.int .i64 v.c) := blk_cell k1 3
 have HB : Hid (Below w.heap.size w W1) := b1
 have Hw : Hid (∀ x b, inR 1 4611686018427387904 x = b → Calls Try.prog 81 #[.int .i64 x] W1 fun e w' => e = .returned (.bool b) ∧ w' = W1) := fun x b hb => by rw [← hb]; exact count_any x
 generalize hpc : v.cs.toArray = pc at *
 clear b1 k1 hpc
 rw [wholeI_eq]
 cases h1 : inR 1 4611686018427387904 v.e with
 | false =>
  go_enter Try.func80, Try.ntmps80
  go_wp2_with (first | (refine wl_at 3 rfl ?_) | fail)
  refine wT9 ?_
  simp only [Act.put,gA9,gZ9,gC9,sA9,sZ9,sC9]
  refine wT9 ?_
  simp only [Act.put,gA9,gZ9,gC9,sA9,sZ9,sC9]
  refine wl_step (by kernel_rfl) fun K hK => ?_
  go_simp
  refine (Hw.out _ _ h1).mono ?_
  rintro e w2 ⟨rfl, rfl⟩
  refine hK _ _ ?_
  clear hK K
  try (simp only [Act.put,gA9,gZ9,gC9,sA9,sZ9,sC9])
  refine wT9 ?_
  simp only [Act.put,gA9,gZ9,gC9,sA9,sZ9,sC9]
  refine wS9' ?_
  simp only [Act.put,gA9,gZ9,gC9,sA9,sZ9,sC9]
  refine wS9' ?_
  simp only [Act.put,gA9,gZ9,gC9,sA9,sZ9,sC9]
  refine wS9' ?_
  simp only [Act.put,gA9,gZ9,gC9,sA9,sZ9,sC9]
  refine wT9 ?_
  simp only [Act.put,gA9,gZ9,gC9,sA9,sZ9,sC9]
  refine wT9 ?_
  simp only [Act.put,gA9,gZ9,gC9,sA9,sZ9,sC9]
  refine wS9' ?_
  simp only [Act.put,gA9,gZ9,gC9,sA9,sZ9,sC9]
  refine wS9' ?_
  simp only [Act.put,gA9,gZ9,gC9,sA9,sZ9,sC9]
  refine wS9' ?_
  simp only [Act.put,gA9,gZ9,gC9,sA9,sZ9,sC9]
  refine wT9 ?_
  simp only [Act.put,gA9,gZ9,gC9,sA9,sZ9,sC9]
  refine wT9 ?_
  simp only [Act.put,gA9,gZ9,gC9,sA9,sZ9,sC9]
  refine wS9' ?_
  simp only [Act.put,gA9,gZ9,gC9,sA9,sZ9,sC9]
  refine wS9' ?_
  simp only [Act.put,gA9,gZ9,gC9,sA9,sZ9,sC9]
  refine wS9' ?_
  simp only [Act.put,gA9,gZ9,gC9,sA9,sZ9,sC9]
  refine wT9 ?_
  simp only [Act.put,gA9,gZ9,gC9,sA9,sZ9,sC9]
  refine wT9 ?_
  simp only [Act.put,gA9,gZ9,gC9,sA9,sZ9,sC9]
  refine wS9' ?_
  simp only [Act.put,gA9,gZ9,gC9,sA9,sZ9,sC9]
  refine wS9' ?_
  simp only [Act.put,gA9,gZ9,gC9,sA9,sZ9,sC9]
  refine wS9' ?_
  simp only [Act.put,gA9,gZ9,gC9,sA9,sZ9,sC9]
  refine wT9 ?_
  simp only [Act.put,gA9,gZ9,gC9,sA9,sZ9,sC9]
  refine wT9 ?_
  simp only [Act.put,gA9,gZ9,gC9,sA9,sZ9,sC9]
  refine ⟨?_⟩
  go_wp2
  go_ret
  exact ⟨by simp, HB.out⟩
 | true =>
  cases h2 : decide (0 ≤ v.l) with
  | false =>
   go_enter Try.func80, Try.ntmps80
   go_wp2_with (first | (refine wl_at 3 rfl ?_) | fail)
   refine wT9 ?_
   simp only [Act.put,gA9,gZ9,gC9,sA9,sZ9,sC9]
   refine wT9 ?_
   simp only [Act.put,gA9,gZ9,gC9,sA9,sZ9,sC9]
   refine wl_step (by kernel_rfl) fun K hK => ?_
   go_simp
   refine (Hw.out _ _ h1).mono ?_
   rintro e w2 ⟨rfl, rfl⟩
   refine hK _ _ ?_
   clear hK K
   try (simp only [Act.put,gA9,gZ9,gC9,sA9,sZ9,sC9])
   refine wT9 ?_
   simp only [Act.put,gA9,gZ9,gC9,sA9,sZ9,sC9]
   refine wT9 ?_
   simp only [Act.put,gA9,gZ9,gC9,sA9,sZ9,sC9]
   refine wT9 ?_
   simp only [Act.put,gA9,gZ9,gC9,sA9,sZ9,sC9]
   refine wl_take (v := .bool false) (by kernel_rfl) (by first | (go_simp; done) | (go_simp; have hq := h2; simp only [decide_eq_true_eq, decide_eq_false_iff_not] at hq; omega)) ?_
   simp only [Act.put,gA9,gZ9,gC9,sA9,sZ9,sC9]
   refine wT9 ?_
   simp only [Act.put,gA9,gZ9,gC9,sA9,sZ9,sC9]
   refine wT9 ?_
   simp only [Act.put,gA9,gZ9,gC9,sA9,sZ9,sC9]
   refine wS9' ?_
   simp only [Act.put,gA9,gZ9,gC9,sA9,sZ9,sC9]
   refine wS9' ?_
   simp only [Act.put,gA9,gZ9,gC9,sA9,sZ9,sC9]
   refine wS9' ?_
   simp only [Act.put,gA9,gZ9,gC9,sA9,sZ9,sC9]
   refine wT9 ?_
   simp only [Act.put,gA9,gZ9,gC9,sA9,sZ9,sC9]
   refine wT9 ?_
   simp only [Act.put,gA9,gZ9,gC9,sA9,sZ9,sC9]
   refine wS9' ?_
   simp only [Act.put,gA9,gZ9,gC9,sA9,sZ9,sC9]
   refine wS9' ?_
   simp only [Act.put,gA9,gZ9,gC9,sA9,sZ9,sC9]
   refine wS9' ?_
   simp only [Act.put,gA9,gZ9,gC9,sA9,sZ9,sC9]
   refine wT9 ?_
   simp only [Act.put,gA9,gZ9,gC9,sA9,sZ9,sC9]
   refine wT9 ?_
   simp only [Act.put,gA9,gZ9,gC9,sA9,sZ9,sC9]
   refine wS9' ?_
   simp only [Act.put,gA9,gZ9,gC9,sA9,sZ9,sC9]
   refine wS9' ?_
   simp only [Act.put,gA9,gZ9,gC9,sA9,sZ9,sC9]
   refine wS9' ?_
   simp only [Act.put,gA9,gZ9,gC9,sA9,sZ9,sC9]
   refine wT9 ?_
   simp only [Act.put,gA9,gZ9,gC9,sA9,sZ9,sC9]
   refine wT9 ?_
   simp only [Act.put,gA9,gZ9,gC9,sA9,sZ9,sC9]
   refine ⟨?_⟩
   go_wp2
   go_ret
   exact ⟨by simp, HB.out⟩
  | true =>
   cases h3 : decide (v.l < 16) with
   | false =>
    go_enter Try.func80, Try.ntmps80
    go_wp2_with (first | (refine wl_at 3 rfl ?_) | fail)
    refine wT9 ?_
    simp only [Act.put,gA9,gZ9,gC9,sA9,sZ9,sC9]
    refine wT9 ?_
    simp only [Act.put,gA9,gZ9,gC9,sA9,sZ9,sC9]
    refine wl_step (by kernel_rfl) fun K hK => ?_
    go_simp
    refine (Hw.out _ _ h1).mono ?_
    rintro e w2 ⟨rfl, rfl⟩
    refine hK _ _ ?_
    clear hK K
    try (simp only [Act.put,gA9,gZ9,gC9,sA9,sZ9,sC9])
    refine wT9 ?_
    simp only [Act.put,gA9,gZ9,gC9,sA9,sZ9,sC9]
    refine wT9 ?_
    simp only [Act.put,gA9,gZ9,gC9,sA9,sZ9,sC9]
    refine wT9 ?_
    simp only [Act.put,gA9,gZ9,gC9,sA9,sZ9,sC9]
    refine wl_take (v := .bool true) (by kernel_rfl) (by first | (go_simp; done) | (go_simp; have hq := h2; simp only [decide_eq_true_eq, decide_eq_false_iff_not] at hq; omega)) ?_
    simp only [Act.put,gA9,gZ9,gC9,sA9,sZ9,sC9]
    refine wT9 ?_
    simp only [Act.put,gA9,gZ9,gC9,sA9,sZ9,sC9]
    refine wT9 ?_
    simp only [Act.put,gA9,gZ9,gC9,sA9,sZ9,sC9]
    refine wT9 ?_
    simp only [Act.put,gA9,gZ9,gC9,sA9,sZ9,sC9]
    refine wT9 ?_
    simp only [Act.put,gA9,gZ9,gC9,sA9,sZ9,sC9]
    refine wl_take (v := .bool false) (by kernel_rfl) (by first | (go_simp; done) | (go_simp; have hq := h3; simp only [decide_eq_true_eq, decide_eq_false_iff_not] at hq; omega)) ?_
    simp only [Act.put,gA9,gZ9,gC9,sA9,sZ9,sC9]
    refine wT9 ?_
    simp only [Act.put,gA9,gZ9,gC9,sA9,sZ9,sC9]
    refine wT9 ?_
    simp only [Act.put,gA9,gZ9,gC9,sA9,sZ9,sC9]
    refine wS9' ?_
    simp only [Act.put,gA9,gZ9,gC9,sA9,sZ9,sC9]
    refine wS9' ?_
    simp only [Act.put,gA9,gZ9,gC9,sA9,sZ9,sC9]
    refine wS9' ?_
    simp only [Act.put,gA9,gZ9,gC9,sA9,sZ9,sC9]
    refine wT9 ?_
    simp only [Act.put,gA9,gZ9,gC9,sA9,sZ9,sC9]
    refine wT9 ?_
    simp only [Act.put,gA9,gZ9,gC9,sA9,sZ9,sC9]
    refine wS9' ?_
    simp only [Act.put,gA9,gZ9,gC9,sA9,sZ9,sC9]
    refine wS9' ?_
    simp only [Act.put,gA9,gZ9,gC9,sA9,sZ9,sC9]
    refine wS9' ?_
    simp only [Act.put,gA9,gZ9,gC9,sA9,sZ9,sC9]
    refine wT9 ?_
    simp only [Act.put,gA9,gZ9,gC9,sA9,sZ9,sC9]
    refine wT9 ?_
    simp only [Act.put,gA9,gZ9,gC9,sA9,sZ9,sC9]
    refine ⟨?_⟩
    go_wp2
    go_ret
    exact ⟨by simp, HB.out⟩
   | true =>
    cases h4 : inR 1 4611686018427387904 v.i with
    | false =>
     go_enter Try.func80, Try.ntmps80
     go_wp2_with (first | (refine wl_at 3 rfl ?_) | fail)
     refine wT9 ?_
     simp only [Act.put,gA9,gZ9,gC9,sA9,sZ9,sC9]
     refine wT9 ?_
     simp only [Act.put,gA9,gZ9,gC9,sA9,sZ9,sC9]
     refine wl_step (by kernel_rfl) fun K hK => ?_
     go_simp
     refine (Hw.out _ _ h1).mono ?_
     rintro e w2 ⟨rfl, rfl⟩
     refine hK _ _ ?_
     clear hK K
     try (simp only [Act.put,gA9,gZ9,gC9,sA9,sZ9,sC9])
     refine wT9 ?_
     simp only [Act.put,gA9,gZ9,gC9,sA9,sZ9,sC9]
     refine wT9 ?_
     simp only [Act.put,gA9,gZ9,gC9,sA9,sZ9,sC9]
     refine wT9 ?_
     simp only [Act.put,gA9,gZ9,gC9,sA9,sZ9,sC9]
     refine wl_take (v := .bool true) (by kernel_rfl) (by first | (go_simp; done) | (go_simp; have hq := h2; simp only [decide_eq_true_eq, decide_eq_false_iff_not] at hq; omega)) ?_
     simp only [Act.put,gA9,gZ9,gC9,sA9,sZ9,sC9]
     refine wT9 ?_
     simp only [Act.put,gA9,gZ9,gC9,sA9,sZ9,sC9]
     refine wT9 ?_
     simp only [Act.put,gA9,gZ9,gC9,sA9,sZ9,sC9]
     refine wT9 ?_
     simp only [Act.put,gA9,gZ9,gC9,sA9,sZ9,sC9]
     refine wT9 ?_
     simp only [Act.put,gA9,gZ9,gC9,sA9,sZ9,sC9]
     refine wl_take (v := .bool true) (by kernel_rfl) (by first | (go_simp; done) | (go_simp; have hq := h3; simp only [decide_eq_true_eq, decide_eq_false_iff_not] at hq; omega)) ?_
     simp only [Act.put,gA9,gZ9,gC9,sA9,sZ9,sC9]
     refine wT9 ?_
     simp only [Act.put,gA9,gZ9,gC9,sA9,sZ9,sC9]
     refine wT9 ?_
     simp only [Act.put,gA9,gZ9,gC9,sA9,sZ9,sC9]
     refine wT9 ?_
     simp only [Act.put,gA9,gZ9,gC9,sA9,sZ9,sC9]
     refine wT9 ?_
     simp only [Act.put,gA9,gZ9,gC9,sA9,sZ9,sC9]
     refine wl_step (by kernel_rfl) fun K hK => ?_
     go_simp
     refine (Hw.out _ _ h4).mono ?_
     rintro e w2 ⟨rfl, rfl⟩
     refine hK _ _ ?_
     clear hK K
     try (simp only [Act.put,gA9,gZ9,gC9,sA9,sZ9,sC9])
     refine wT9 ?_
     simp only [Act.put,gA9,gZ9,gC9,sA9,sZ9,sC9]
     refine wT9 ?_
     simp only [Act.put,gA9,gZ9,gC9,sA9,sZ9,sC9]
     refine wS9' ?_
     simp only [Act.put,gA9,gZ9,gC9,sA9,sZ9,sC9]
     refine wS9' ?_
     simp only [Act.put,gA9,gZ9,gC9,sA9,sZ9,sC9]
     refine wS9' ?_
     simp only [Act.put,gA9,gZ9,gC9,sA9,sZ9,sC9]
     refine wT9 ?_
     simp only [Act.put,gA9,gZ9,gC9,sA9,sZ9,sC9]
     refine wT9 ?_
     simp only [Act.put,gA9,gZ9,gC9,sA9,sZ9,sC9]
     refine ⟨?_⟩
     go_wp2
     go_ret
     exact ⟨by simp, HB.out⟩
    | true =>
     cases h5 : inR 1 4611686018427387904 v.c with
     | false =>
      go_enter Try.func80, Try.ntmps80
      go_wp2_with (first | (refine wl_at 3 rfl ?_) | fail)
      refine wT9 ?_
      simp only [Act.put,gA9,gZ9,gC9,sA9,sZ9,sC9]
      refine wT9 ?_
      simp only [Act.put,gA9,gZ9,gC9,sA9,sZ9,sC9]
      refine wl_step (by kernel_rfl) fun K hK => ?_
      go_simp
      refine (Hw.out _ _ h1).mono ?_
      rintro e w2 ⟨rfl, rfl⟩
      refine hK _ _ ?_
      clear hK K
      try (simp only [Act.put,gA9,gZ9,gC9,sA9,sZ9,sC9])
      refine wT9 ?_
      simp only [Act.put,gA9,gZ9,gC9,sA9,sZ9,sC9]
      refine wT9 ?_
      simp only [Act.put,gA9,gZ9,gC9,sA9,sZ9,sC9]
      refine wT9 ?_
      simp only [Act.put,gA9,gZ9,gC9,sA9,sZ9,sC9]
      refine wl_take (v := .bool true) (by kernel_rfl) (by first | (go_simp; done) | (go_simp; have hq := h2; simp only [decide_eq_true_eq, decide_eq_false_iff_not] at hq; omega)) ?_
      simp only [Act.put,gA9,gZ9,gC9,sA9,sZ9,sC9]
      refine wT9 ?_
      simp only [Act.put,gA9,gZ9,gC9,sA9,sZ9,sC9]
      refine wT9 ?_
      simp only [Act.put,gA9,gZ9,gC9,sA9,sZ9,sC9]
      refine wT9 ?_
      simp only [Act.put,gA9,gZ9,gC9,sA9,sZ9,sC9]
      refine wT9 ?_
      simp only [Act.put,gA9,gZ9,gC9,sA9,sZ9,sC9]
      refine wl_take (v := .bool true) (by kernel_rfl) (by first | (go_simp; done) | (go_simp; have hq := h3; simp only [decide_eq_true_eq, decide_eq_false_iff_not] at hq; omega)) ?_
      simp only [Act.put,gA9,gZ9,gC9,sA9,sZ9,sC9]
      refine wT9 ?_
      simp only [Act.put,gA9,gZ9,gC9,sA9,sZ9,sC9]
      refine wT9 ?_
      simp only [Act.put,gA9,gZ9,gC9,sA9,sZ9,sC9]
      refine wT9 ?_
      simp only [Act.put,gA9,gZ9,gC9,sA9,sZ9,sC9]
      refine wT9 ?_
      simp only [Act.put,gA9,gZ9,gC9,sA9,sZ9,sC9]
      refine wl_step (by kernel_rfl) fun K hK => ?_
      go_simp
      refine (Hw.out _ _ h4).mono ?_
      rintro e w2 ⟨rfl, rfl⟩
      refine hK _ _ ?_
      clear hK K
      try (simp only [Act.put,gA9,gZ9,gC9,sA9,sZ9,sC9])
      refine wT9 ?_
      simp only [Act.put,gA9,gZ9,gC9,sA9,sZ9,sC9]
      refine wT9 ?_
      simp only [Act.put,gA9,gZ9,gC9,sA9,sZ9,sC9]
      refine wT9 ?_
      simp only [Act.put,gA9,gZ9,gC9,sA9,sZ9,sC9]
      refine wT9 ?_
      simp only [Act.put,gA9,gZ9,gC9,sA9,sZ9,sC9]
      refine wl_step (by kernel_rfl) fun K hK => ?_
      go_simp
      refine (Hw.out _ _ h5).mono ?_
      rintro e w2 ⟨rfl, rfl⟩
      refine hK _ _ ?_
      clear hK K
      try (simp only [Act.put,gA9,gZ9,gC9,sA9,sZ9,sC9])
      refine wT9 ?_
      simp only [Act.put,gA9,gZ9,gC9,sA9,sZ9,sC9]
      refine wT9 ?_
      simp only [Act.put,gA9,gZ9,gC9,sA9,sZ9,sC9]
      refine ⟨?_⟩
      go_wp2
      go_ret
      exact ⟨by simp, HB.out⟩
     | true =>
      go_enter Try.func80, Try.ntmps80
      go_wp2_with (first | (refine wl_at 3 rfl ?_) | fail)
      refine wT9 ?_
      simp only [Act.put,gA9,gZ9,gC9,sA9,sZ9,sC9]
      refine wT9 ?_
      simp only [Act.put,gA9,gZ9,gC9,sA9,sZ9,sC9]
      refine wl_step (by kernel_rfl) fun K hK => ?_
      go_simp
      refine (Hw.out _ _ h1).mono ?_
      rintro e w2 ⟨rfl, rfl⟩
      refine hK _ _ ?_
      clear hK K
      try (simp only [Act.put,gA9,gZ9,gC9,sA9,sZ9,sC9])
      refine wT9 ?_
      simp only [Act.put,gA9,gZ9,gC9,sA9,sZ9,sC9]
      refine wT9 ?_
      simp only [Act.put,gA9,gZ9,gC9,sA9,sZ9,sC9]
      refine wT9 ?_
      simp only [Act.put,gA9,gZ9,gC9,sA9,sZ9,sC9]
      refine wl_take (v := .bool true) (by kernel_rfl) (by first | (go_simp; done) | (go_simp; have hq := h2; simp only [decide_eq_true_eq, decide_eq_false_iff_not] at hq; omega)) ?_
      simp only [Act.put,gA9,gZ9,gC9,sA9,sZ9,sC9]
      refine wT9 ?_
      simp only [Act.put,gA9,gZ9,gC9,sA9,sZ9,sC9]
      refine wT9 ?_
      simp only [Act.put,gA9,gZ9,gC9,sA9,sZ9,sC9]
      refine wT9 ?_
      simp only [Act.put,gA9,gZ9,gC9,sA9,sZ9,sC9]
      refine wT9 ?_
      simp only [Act.put,gA9,gZ9,gC9,sA9,sZ9,sC9]
      refine wl_take (v := .bool true) (by kernel_rfl) (by first | (go_simp; done) | (go_simp; have hq := h3; simp only [decide_eq_true_eq, decide_eq_false_iff_not] at hq; omega)) ?_
      simp only [Act.put,gA9,gZ9,gC9,sA9,sZ9,sC9]
      refine wT9 ?_
      simp only [Act.put,gA9,gZ9,gC9,sA9,sZ9,sC9]
      refine wT9 ?_
      simp only [Act.put,gA9,gZ9,gC9,sA9,sZ9,sC9]
      refine wT9 ?_
      simp only [Act.put,gA9,gZ9,gC9,sA9,sZ9,sC9]
      refine wT9 ?_
      simp only [Act.put,gA9,gZ9,gC9,sA9,sZ9,sC9]
      refine wl_step (by kernel_rfl) fun K hK => ?_
      go_simp
      refine (Hw.out _ _ h4).mono ?_
      rintro e w2 ⟨rfl, rfl⟩
      refine hK _ _ ?_
      clear hK K
      try (simp only [Act.put,gA9,gZ9,gC9,sA9,sZ9,sC9])
      refine wT9 ?_
      simp only [Act.put,gA9,gZ9,gC9,sA9,sZ9,sC9]
      refine wT9 ?_
      simp only [Act.put,gA9,gZ9,gC9,sA9,sZ9,sC9]
      refine wT9 ?_
      simp only [Act.put,gA9,gZ9,gC9,sA9,sZ9,sC9]
      refine wT9 ?_
      simp only [Act.put,gA9,gZ9,gC9,sA9,sZ9,sC9]
      refine wl_step (by kernel_rfl) fun K hK => ?_
      go_simp
      refine (Hw.out _ _ h5).mono ?_
      rintro e w2 ⟨rfl, rfl⟩
      refine hK _ _ ?_
      clear hK K
      try (simp only [Act.put,gA9,gZ9,gC9,sA9,sZ9,sC9])
      refine wT9 ?_
      simp only [Act.put,gA9,gZ9,gC9,sA9,sZ9,sC9]
      refine wT9 ?_
      simp only [Act.put,gA9,gZ9,gC9,sA9,sZ9,sC9]
      refine ⟨?_⟩
      go_wp2
      go_ret
      exact ⟨by simp, HB.out⟩
end
end Go.Proofs.Ytobaooebjgoaiaa.Fm
