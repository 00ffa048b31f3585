import Derived.Test.YtihcaopcfhbofaaX06
namespace Go.Proofs.Ytihcaopcfhbofaa.Fm
open Go.RowKit Go.Maps Mb
set_option linter.unusedVariables false
set_option maxRecDepth 100000
set_option linter.unusedSimpArgs false
section
variable {w w' W : World} {B : Nat}
set_option maxHeartbeats 4000000 in
theorem isWhole_any (v : Vi) : Calls Try.prog 55 #[.agg v.cs.toArray] w fun e w' => e = .returned (.bool (wholeI v)) ∧ Below w.heap.size w w' := by
  generalize hW1 : w.alloc (.cells v.cs.toArray 24) = W1
  have b1 : Below w.heap.size w W1 := hW1 ▸ balloc (Below.refl _ _)
  have k1 : W1.heap[w.heap.size]? = some (.cells v.cs.toArray 24 (0, 0)) := by rw [← hW1]; exact heap_alloc_new w _
  have c0 : W1.cell? ⟨w.heap.size, 0, none⟩ = some (.int .i64 v.e) := blk_cell k1 0
  have c1 : W1.cell? ⟨w.heap.size, 1, none⟩ = some (.int .i64 v.l) := blk_cell k1 1
  have c2 : W1.cell? ⟨w.heap.size, 2, none⟩ = some (.int .i64 v.i) := blk_cell k1 2
  have c3 : W1.cell? ⟨w.heap.size, 3, none⟩ = some (.int .i64 v.c) := blk_cell k1 3
  have HB : Hid (Below w.heap.size w W1) := b1
  have Hw : Hid (∀ x lo hi b, inR lo hi x = b → Calls Try.prog 19 #[.int .i64 x, .int .i64 lo, .int .i64 hi] W1 fun e w' => e = .returned (.bool b) ∧ w' = W1) := fun x lo hi b hb => by rw [← hb]; exact within_any x lo hi
  generalize hpc : v.cs.toArray = pc at *
  clear b1 k1 hpc
  unfold wholeI
  cases h1 : inR 1 4611686018427387904 v.e with
  | false =>
    go_enter Try.func55, Try.ntmps55
    go_wp2_with (first | (refine wl_at 3 rfl ?_) | fail)
    refine wl_take (v := ?_) (by kernel_rfl) (by go_simp; exact rfl) ?_
    simp only [Act.put, gA9, gZ9, gC9, sA9, sZ9, sC9]
    refine wl_take (v := ?_) (by kernel_rfl) (by go_simp; exact rfl) ?_
    simp only [Act.put, gA9, gZ9, gC9, sA9, sZ9, sC9]
    refine wl_step (by kernel_rfl) fun K hK => ?_
    go_simp
    refine (Hw.out _ _ _ _ h1).mono ?_
    rintro e w2 ⟨rfl, rfl⟩
    refine hK _ _ ?_
    clear hK K
    try (simp only [Act.put, gA9, gZ9, gC9, sA9, sZ9, sC9])
    refine wl_take (v := ?_) (by kernel_rfl) (by go_simp; exact rfl) ?_
    simp only [Act.put, gA9, gZ9, gC9, sA9, sZ9, sC9]
    refine wl_skip (by kernel_rfl) ?_
    simp only [Act.put, gA9, gZ9, gC9, sA9, sZ9, sC9]
    refine wl_skip (by kernel_rfl) ?_
    simp only [Act.put, gA9, gZ9, gC9, sA9, sZ9, sC9]
    refine wl_skip (by kernel_rfl) ?_
    simp only [Act.put, gA9, gZ9, gC9, sA9, sZ9, sC9]
    refine wl_take (v := ?_) (by kernel_rfl) (by go_simp; exact rfl) ?_
    simp only [Act.put, gA9, gZ9, gC9, sA9, sZ9, sC9]
    refine wl_take (v := ?_) (by kernel_rfl) (by go_simp; exact rfl) ?_
    simp only [Act.put, gA9, gZ9, gC9, sA9, sZ9, sC9]
    refine wl_skip (by kernel_rfl) ?_
    simp only [Act.put, gA9, gZ9, gC9, sA9, sZ9, sC9]
    refine wl_skip (by kernel_rfl) ?_
    simp only [Act.put, gA9, gZ9, gC9, sA9, sZ9, sC9]
    refine wl_skip (by kernel_rfl) ?_
    simp only [Act.put, gA9, gZ9, gC9, sA9, sZ9, sC9]
    refine wl_take (v := ?_) (by kernel_rfl) (by go_simp; exact rfl) ?_
    simp only [Act.put, gA9, gZ9, gC9, sA9, sZ9, sC9]
    refine wl_take (v := ?_) (by kernel_rfl) (by go_simp; exact rfl) ?_
    simp only [Act.put, gA9, gZ9, gC9, sA9, sZ9, sC9]
    refine wl_skip (by kernel_rfl) ?_
    simp only [Act.put, gA9, gZ9, gC9, sA9, sZ9, sC9]
    refine wl_skip (by kernel_rfl) ?_
    simp only [Act.put, gA9, gZ9, gC9, sA9, sZ9, sC9]
    refine wl_skip (by kernel_rfl) ?_
    simp only [Act.put, gA9, gZ9, gC9, sA9, sZ9, sC9]
    refine wl_take (v := ?_) (by kernel_rfl) (by go_simp; exact rfl) ?_
    simp only [Act.put, gA9, gZ9, gC9, sA9, sZ9, sC9]
    refine wl_take (v := ?_) (by kernel_rfl) (by go_simp; exact rfl) ?_
    simp only [Act.put, gA9, gZ9, gC9, sA9, sZ9, sC9]
    refine ⟨?_⟩
    go_wp2
    go_ret
    exact ⟨by simp, HB.out⟩
  | true =>
    cases h2 : inR 0 15 v.l with
    | false =>
      go_enter Try.func55, Try.ntmps55
      go_wp2_with (first | (refine wl_at 3 rfl ?_) | fail)
      refine wl_take (v := ?_) (by kernel_rfl) (by go_simp; exact rfl) ?_
      simp only [Act.put, gA9, gZ9, gC9, sA9, sZ9, sC9]
      refine wl_take (v := ?_) (by kernel_rfl) (by go_simp; exact rfl) ?_
      simp only [Act.put, gA9, gZ9, gC9, sA9, sZ9, sC9]
      refine wl_step (by kernel_rfl) fun K hK => ?_
      go_simp
      refine (Hw.out _ _ _ _ h1).mono ?_
      rintro e w2 ⟨rfl, rfl⟩
      refine hK _ _ ?_
      clear hK K
      try (simp only [Act.put, gA9, gZ9, gC9, sA9, sZ9, sC9])
      refine wl_take (v := ?_) (by kernel_rfl) (by go_simp; exact rfl) ?_
      simp only [Act.put, gA9, gZ9, gC9, sA9, sZ9, sC9]
      refine wl_take (v := ?_) (by kernel_rfl) (by go_simp; exact rfl) ?_
      simp only [Act.put, gA9, gZ9, gC9, sA9, sZ9, sC9]
      refine wl_take (v := ?_) (by kernel_rfl) (by go_simp; exact rfl) ?_
      simp only [Act.put, gA9, gZ9, gC9, sA9, sZ9, sC9]
      refine wl_step (by kernel_rfl) fun K hK => ?_
      go_simp
      refine (Hw.out _ _ _ _ h2).mono ?_
      rintro e w2 ⟨rfl, rfl⟩
      refine hK _ _ ?_
      clear hK K
      try (simp only [Act.put, gA9, gZ9, gC9, sA9, sZ9, sC9])
      refine wl_take (v := ?_) (by kernel_rfl) (by go_simp; exact rfl) ?_
      simp only [Act.put, gA9, gZ9, gC9, sA9, sZ9, sC9]
      refine wl_take (v := ?_) (by kernel_rfl) (by go_simp; exact rfl) ?_
      simp only [Act.put, gA9, gZ9, gC9, sA9, sZ9, sC9]
      refine wl_skip (by kernel_rfl) ?_
      simp only [Act.put, gA9, gZ9, gC9, sA9, sZ9, sC9]
      refine wl_skip (by kernel_rfl) ?_
      simp only [Act.put, gA9, gZ9, gC9, sA9, sZ9, sC9]
      refine wl_skip (by kernel_rfl) ?_
      simp only [Act.put, gA9, gZ9, gC9, sA9, sZ9, sC9]
      refine wl_take (v := ?_) (by kernel_rfl) (by go_simp; exact rfl) ?_
      simp only [Act.put, gA9, gZ9, gC9, sA9, sZ9, sC9]
      refine wl_take (v := ?_) (by kernel_rfl) (by go_simp; exact rfl) ?_
      simp only [Act.put, gA9, gZ9, gC9, sA9, sZ9, sC9]
      refine wl_skip (by kernel_rfl) ?_
      simp only [Act.put, gA9, gZ9, gC9, sA9, sZ9, sC9]
      refine wl_skip (by kernel_rfl) ?_
      simp only [Act.put, gA9, gZ9, gC9, sA9, sZ9, sC9]
      refine wl_skip (by kernel_rfl) ?_
      simp only [Act.put, gA9, gZ9, gC9, sA9, sZ9, sC9]
      refine wl_take (v := ?_) (by kernel_rfl) (by go_simp; exact rfl) ?_
      simp only [Act.put, gA9, gZ9, gC9, sA9, sZ9, sC9]
      refine wl_take (v := ?_) (by kernel_rfl) (by go_simp; exact rfl) ?_
      simp only [Act.put, gA9, gZ9, gC9, sA9, sZ9, sC9]
      refine ⟨?_⟩
      go_wp2
      go_ret
      exact ⟨by simp, HB.out⟩
    | true =>
      cases h3 : inR 1 4611686018427387904 v.i with
      | false =>
        go_enter Try.func55, Try.ntmps55
        go_wp2_with (first | (refine wl_at 3 rfl ?_) | fail)
        refine wl_take (v := ?_) (by kernel_rfl) (by go_simp; exact rfl) ?_
        simp only [Act.put, gA9, gZ9, gC9, sA9, sZ9, sC9]
        refine wl_take (v := ?_) (by kernel_rfl) (by go_simp; exact rfl) ?_
        simp only [Act.put, gA9, gZ9, gC9, sA9, sZ9, sC9]
        refine wl_step (by kernel_rfl) fun K hK => ?_
        go_simp
        refine (Hw.out _ _ _ _ h1).mono ?_
        rintro e w2 ⟨rfl, rfl⟩
        refine hK _ _ ?_
        clear hK K
        try (simp only [Act.put, gA9, gZ9, gC9, sA9, sZ9, sC9])
        refine wl_take (v := ?_) (by kernel_rfl) (by go_simp; exact rfl) ?_
        simp only [Act.put, gA9, gZ9, gC9, sA9, sZ9, sC9]
        refine wl_take (v := ?_) (by kernel_rfl) (by go_simp; exact rfl) ?_
        simp only [Act.put, gA9, gZ9, gC9, sA9, sZ9, sC9]
        refine wl_take (v := ?_) (by kernel_rfl) (by go_simp; exact rfl) ?_
        simp only [Act.put, gA9, gZ9, gC9, sA9, sZ9, sC9]
        refine wl_step (by kernel_rfl) fun K hK => ?_
        go_simp
        refine (Hw.out _ _ _ _ h2).mono ?_
        rintro e w2 ⟨rfl, rfl⟩
        refine hK _ _ ?_
        clear hK K
        try (simp only [Act.put, gA9, gZ9, gC9, sA9, sZ9, sC9])
        refine wl_take (v := ?_) (by kernel_rfl) (by go_simp; exact rfl) ?_
        simp only [Act.put, gA9, gZ9, gC9, sA9, sZ9, sC9]
        refine wl_take (v := ?_) (by kernel_rfl) (by go_simp; exact rfl) ?_
        simp only [Act.put, gA9, gZ9, gC9, sA9, sZ9, sC9]
        refine wl_take (v := ?_) (by kernel_rfl) (by go_simp; exact rfl) ?_
        simp only [Act.put, gA9, gZ9, gC9, sA9, sZ9, sC9]
        refine wl_take (v := ?_) (by kernel_rfl) (by go_simp; exact rfl) ?_
        simp only [Act.put, gA9, gZ9, gC9, sA9, sZ9, sC9]
        refine wl_step (by kernel_rfl) fun K hK => ?_
        go_simp
        refine (Hw.out _ _ _ _ h3).mono ?_
        rintro e w2 ⟨rfl, rfl⟩
        refine hK _ _ ?_
        clear hK K
        try (simp only [Act.put, gA9, gZ9, gC9, sA9, sZ9, sC9])
        refine wl_take (v := ?_) (by kernel_rfl) (by go_simp; exact rfl) ?_
        simp only [Act.put, gA9, gZ9, gC9, sA9, sZ9, sC9]
        refine wl_take (v := ?_) (by kernel_rfl) (by go_simp; exact rfl) ?_
        simp only [Act.put, gA9, gZ9, gC9, sA9, sZ9, sC9]
        refine wl_skip (by kernel_rfl) ?_
        simp only [Act.put, gA9, gZ9, gC9, sA9, sZ9, sC9]
        refine wl_skip (by kernel_rfl) ?_
        simp only [Act.put, gA9, gZ9, gC9, sA9, sZ9, sC9]
        refine wl_skip (by kernel_rfl) ?_
        simp only [Act.put, gA9, gZ9, gC9, sA9, sZ9, sC9]
        refine wl_take (v := ?_) (by kernel_rfl) (by go_simp; exact rfl) ?_
        simp only [Act.put, gA9, gZ9, gC9, sA9, sZ9, sC9]
        refine wl_take (v := ?_) (by kernel_rfl) (by go_simp; exact rfl) ?_
        simp only [Act.put, gA9, gZ9, gC9, sA9, sZ9, sC9]
        refine ⟨?_⟩
        go_wp2
        go_ret
        exact ⟨by simp, HB.out⟩
      | true =>
        cases h4 : inR 1 4611686018427387904 v.c with
        | false =>
          go_enter Try.func55, Try.ntmps55
          go_wp2_with (first | (refine wl_at 3 rfl ?_) | fail)
          refine wl_take (v := ?_) (by kernel_rfl) (by go_simp; exact rfl) ?_
          simp only [Act.put, gA9, gZ9, gC9, sA9, sZ9, sC9]
          refine wl_take (v := ?_) (by kernel_rfl) (by go_simp; exact rfl) ?_
          simp only [Act.put, gA9, gZ9, gC9, sA9, sZ9, sC9]
          refine wl_step (by kernel_rfl) fun K hK => ?_
          go_simp
          refine (Hw.out _ _ _ _ h1).mono ?_
          rintro e w2 ⟨rfl, rfl⟩
          refine hK _ _ ?_
          clear hK K
          try (simp only [Act.put, gA9, gZ9, gC9, sA9, sZ9, sC9])
          refine wl_take (v := ?_) (by kernel_rfl) (by go_simp; exact rfl) ?_
          simp only [Act.put, gA9, gZ9, gC9, sA9, sZ9, sC9]
          refine wl_take (v := ?_) (by kernel_rfl) (by go_simp; exact rfl) ?_
          simp only [Act.put, gA9, gZ9, gC9, sA9, sZ9, sC9]
          refine wl_take (v := ?_) (by kernel_rfl) (by go_simp; exact rfl) ?_
          simp only [Act.put, gA9, gZ9, gC9, sA9, sZ9, sC9]
          refine wl_step (by kernel_rfl) fun K hK => ?_
          go_simp
          refine (Hw.out _ _ _ _ h2).mono ?_
          rintro e w2 ⟨rfl, rfl⟩
          refine hK _ _ ?_
          clear hK K
          try (simp only [Act.put, gA9, gZ9, gC9, sA9, sZ9, sC9])
          refine wl_take (v := ?_) (by kernel_rfl) (by go_simp; exact rfl) ?_
          simp only [Act.put, gA9, gZ9, gC9, sA9, sZ9, sC9]
          refine wl_take (v := ?_) (by kernel_rfl) (by go_simp; exact rfl) ?_
          simp only [Act.put, gA9, gZ9, gC9, sA9, sZ9, sC9]
          refine wl_take (v := ?_) (by kernel_rfl) (by go_simp; exact rfl) ?_
          simp only [Act.put, gA9, gZ9, gC9, sA9, sZ9, sC9]
          refine wl_take (v := ?_) (by kernel_rfl) (by go_simp; exact rfl) ?_
          simp only [Act.put, gA9, gZ9, gC9, sA9, sZ9, sC9]
          refine wl_step (by kernel_rfl) fun K hK => ?_
          go_simp
          refine (Hw.out _ _ _ _ h3).mono ?_
          rintro e w2 ⟨rfl, rfl⟩
          refine hK _ _ ?_
          clear hK K
          try (simp only [Act.put, gA9, gZ9, gC9, sA9, sZ9, sC9])
          refine wl_take (v := ?_) (by kernel_rfl) (by go_simp; exact rfl) ?_
          simp only [Act.put, gA9, gZ9, gC9, sA9, sZ9, sC9]
          refine wl_take (v := ?_) (by kernel_rfl) (by go_simp; exact rfl) ?_
          simp only [Act.put, gA9, gZ9, gC9, sA9, sZ9, sC9]
          refine wl_take (v := ?_) (by kernel_rfl) (by go_simp; exact rfl) ?_
          simp only [Act.put, gA9, gZ9, gC9, sA9, sZ9, sC9]
          refine wl_take (v := ?_) (by kernel_rfl) (by go_simp; exact rfl) ?_
          simp only [Act.put, gA9, gZ9, gC9, sA9, sZ9, sC9]
          refine wl_step (by kernel_rfl) fun K hK => ?_
          go_simp
          refine (Hw.out _ _ _ _ h4).mono ?_
          rintro e w2 ⟨rfl, rfl⟩
          refine hK _ _ ?_
          clear hK K
          try (simp only [Act.put, gA9, gZ9, gC9, sA9, sZ9, sC9])
          refine wl_take (v := ?_) (by kernel_rfl) (by go_simp; exact rfl) ?_
          simp only [Act.put, gA9, gZ9, gC9, sA9, sZ9, sC9]
          refine wl_take (v := ?_) (by kernel_rfl) (by go_simp; exact rfl) ?_
          simp only [Act.put, gA9, gZ9, gC9, sA9, sZ9, sC9]
          refine ⟨?_⟩
          go_wp2
          go_ret
          exact ⟨by simp, HB.out⟩
        | true =>
          go_enter Try.func55, Try.ntmps55
          go_wp2_with (first | (refine wl_at 3 rfl ?_) | fail)
          refine wl_take (v := ?_) (by kernel_rfl) (by go_simp; exact rfl) ?_
          simp only [Act.put, gA9, gZ9, gC9, sA9, sZ9, sC9]
          refine wl_take (v := ?_) (by kernel_rfl) (by go_simp; exact rfl) ?_
          simp only [Act.put, gA9, gZ9, gC9, sA9, sZ9, sC9]
          refine wl_step (by kernel_rfl) fun K hK => ?_
          go_simp
          refine (Hw.out _ _ _ _ h1).mono ?_
          rintro e w2 ⟨rfl, rfl⟩
          refine hK _ _ ?_
          clear hK K
          try (simp only [Act.put, gA9, gZ9, gC9, sA9, sZ9, sC9])
          refine wl_take (v := ?_) (by kernel_rfl) (by go_simp; exact rfl) ?_
          simp only [Act.put, gA9, gZ9, gC9, sA9, sZ9, sC9]
          refine wl_take (v := ?_) (by kernel_rfl) (by go_simp; exact rfl) ?_
          simp only [Act.put, gA9, gZ9, gC9, sA9, sZ9, sC9]
          refine wl_take (v := ?_) (by kernel_rfl) (by go_simp; exact rfl) ?_
          simp only [Act.put, gA9, gZ9, gC9, sA9, sZ9, sC9]
          refine wl_step (by kernel_rfl) fun K hK => ?_
          go_simp
          refine (Hw.out _ _ _ _ h2).mono ?_
          rintro e w2 ⟨rfl, rfl⟩
          refine hK _ _ ?_
          clear hK K
          try (simp only [Act.put, gA9, gZ9, gC9, sA9, sZ9, sC9])
          refine wl_take (v := ?_) (by kernel_rfl) (by go_simp; exact rfl) ?_
          simp only [Act.put, gA9, gZ9, gC9, sA9, sZ9, sC9]
          refine wl_take (v := ?_) (by kernel_rfl) (by go_simp; exact rfl) ?_
          simp only [Act.put, gA9, gZ9, gC9, sA9, sZ9, sC9]
          refine wl_take (v := ?_) (by kernel_rfl) (by go_simp; exact rfl) ?_
          simp only [Act.put, gA9, gZ9, gC9, sA9, sZ9, sC9]
          refine wl_take (v := ?_) (by kernel_rfl) (by go_simp; exact rfl) ?_
          simp only [Act.put, gA9, gZ9, gC9, sA9, sZ9, sC9]
          refine wl_step (by kernel_rfl) fun K hK => ?_
          go_simp
          refine (Hw.out _ _ _ _ h3).mono ?_
          rintro e w2 ⟨rfl, rfl⟩
          refine hK _ _ ?_
          clear hK K
          try (simp only [Act.put, gA9, gZ9, gC9, sA9, sZ9, sC9])
          refine wl_take (v := ?_) (by kernel_rfl) (by go_simp; exact rfl) ?_
          simp only [Act.put, gA9, gZ9, gC9, sA9, sZ9, sC9]
          refine wl_take (v := ?_) (by kernel_rfl) (by go_simp; exact rfl) ?_
          simp only [Act.put, gA9, gZ9, gC9, sA9, sZ9, sC9]
          refine wl_take (v := ?_) (by kernel_rfl) (by go_simp; exact rfl) ?_
          simp only [Act.put, gA9, gZ9, gC9, sA9, sZ9, sC9]
          refine wl_take (v := ?_) (by kernel_rfl) (by go_simp; exact rfl) ?_
          simp only [Act.put, gA9, gZ9, gC9, sA9, sZ9, sC9]
          refine wl_step (by kernel_rfl) fun K hK => ?_
          go_simp
          refine (Hw.out _ _ _ _ h4).mono ?_
          rintro e w2 ⟨rfl, rfl⟩
          refine hK _ _ ?_
          clear hK K
          try (simp only [Act.put, gA9, gZ9, gC9, sA9, sZ9, sC9])
          refine wl_take (v := ?_) (by kernel_rfl) (by go_simp; exact rfl) ?_
          simp only [Act.put, gA9, gZ9, gC9, sA9, sZ9, sC9]
          refine wl_take (v := ?_) (by kernel_rfl) (by go_simp; exact rfl) ?_
          simp only [Act.put, gA9, gZ9, gC9, sA9, sZ9, sC9]
          refine ⟨?_⟩
          go_wp2
          go_ret
          exact ⟨by simp, HB.out⟩
end
end Go.Proofs.Ytihcaopcfhbofaa.Fm
