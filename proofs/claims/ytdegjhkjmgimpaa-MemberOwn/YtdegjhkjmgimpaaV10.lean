import Derived.Test.YtdegjhkjmgimpaaV07
namespace Go.Proofs.Ytdegjhkjmgimpaa.Mb
open Go.RowKit
set_option linter.unusedVariables false
set_option maxRecDepth 100000
set_option linter.unusedSimpArgs false
section
variable {A A' : Ag} {w w' W : World} {B : Nat} {T : Int}
theorem list16 (xs : List Int) (h : xs.length = 16) : ∃ a0 a1 a2 a3 a4 a5 a6 a7 a8 a9 a10 a11 a12 a13 a14 a15 : Int, xs = [a0, a1, a2, a3, a4, a5, a6, a7, a8, a9, a10, a11, a12, a13, a14, a15] := by
  match xs, h with
  | [a0, a1, a2, a3, a4, a5, a6, a7, a8, a9, a10, a11, a12, a13, a14, a15], _ => exact ⟨a0, a1, a2, a3, a4, a5, a6, a7, a8, a9, a10, a11, a12, a13, a14, a15, rfl⟩
theorem list4e (xs : List Int) (h : xs.length = 4) : ∃ a b c d : Int, xs = [a, b, c, d] := by
  match xs, h with
  | [a, b, c, d], _ => exact ⟨a, b, c, d, rfl⟩
theorem built_prop (p : Pp) (hp : p.L) : Try.prog.built 63 [(0, .agg (ints p.set).toArray), (1, .int .i64 p.cid), (2, .int .i64 p.rev), (3, .int .i64 p.top), (4, .agg (ints p.prev).toArray), (5, .agg (ints p.vec).toArray)] = some (ints p.fl).toArray := by
  obtain ⟨set, cid, rev, top, prev, vec⟩ := p
  obtain ⟨h1, h2, h3⟩ := hp
  obtain ⟨a0, a1, a2, a3, a4, a5, a6, a7, a8, a9, a10, a11, a12, a13, a14, a15, rfl⟩ := list16 set h1
  obtain ⟨b0, b1, b2, b3, b4, b5, b6, b7, b8, b9, b10, b11, b12, b13, b14, b15, rfl⟩ := list16 vec h3
  obtain ⟨c0, c1, c2, c3, rfl⟩ := list4e prev h2
  kernel_rfl
end
end Go.Proofs.Ytdegjhkjmgimpaa.Mb
namespace Go.Proofs.Ytdegjhkjmgimpaa.Mb
open Go.RowKit
set_option linter.unusedVariables false
set_option maxRecDepth 100000
set_option linter.unusedSimpArgs false
section
variable {A A' : Ag} {w w' W : World} {B : Nat} {T : Int}
def wB (v lo hi : Int) : Bool := decide (lo ≤ v ∧ v ≤ hi)
theorem within_w (v lo hi : Int) : Calls Try.prog 26 #[.int .i64 v, .int .i64 lo, .int .i64 hi] w fun e w' => e = .returned (.bool (wB v lo hi)) ∧ w = w' := within_any v lo hi
def prevOk (id : List Int) (n : Nat) : Bool := decide (id = [0, 0, 0, 0]) || (wB (id.getD 0 0) 1 4611686018427387904 && wB (id.getD 1 0) 0 ((n : Int) - 1) && wB (id.getD 2 0) 1 4611686018427387904 && wB (id.getD 3 0) 1 4611686018427387904)
structure WpL (ops : Array Oper) (Q : Exit → Act → World → Prop) (l : List Oper) (a : Act) (w : World) : Prop where
  out : wpList Try.prog ops Q l a w
theorem wl_step {ops : Array Oper} {rest : List Oper} {o : Oper} {a : Act} {Q : Exit → Act → World → Prop} (hw : Region.wanted o (yielded ops a.tmps) = true) (h : ∀ K : Act → World → Prop, (∀ a w, WpL ops Q rest a w → K a w) → o.wp Try.prog a w K Q) : WpL ops Q (o :: rest) a w :=
  ⟨wpList_step fun K hK => by
    rw [if_pos hw]
    exact h K (fun a w h => hK a w h.out)⟩
theorem wl_take {ops : Array Oper} {rest : List Oper} {o : Oper} {a : Act} {Q : Exit → Act → World → Prop} {v : Value} (hw : Region.wanted o (yielded ops a.tmps) = true) (hx : (execOp a.eval o).run Try.prog w = .ok (.value v) w) (h : WpL ops Q rest (a.put o.dst v) w) : WpL ops Q (o :: rest) a w :=
  wl_step hw fun K hK => by
    unfold Oper.wp
    rw [hx]
    exact hK _ _ h
theorem wl_skip {ops : Array Oper} {rest : List Oper} {o : Oper} {a : Act} {Q : Exit → Act → World → Prop} (hw : Region.wanted o (yielded ops a.tmps) = false) (h : WpL ops Q rest (a.put o.dst undef) w) : WpL ops Q (o :: rest) a w :=
  ⟨wpList_step fun K hK => by
    rw [if_neg (by rw [hw]; simp)]
    exact hK _ _ h.out⟩
set_option maxHeartbeats 4000000 in
theorem prev4 (x0 x1 x2 x3 : Int) (n : Nat) (hn : n ≤ 16) (g g0 g1 g2 g3 : Bool) (HE : Hid (∀ W, (Op.equalIn 10000 31 (.agg #[.int .i64 x0, .int .i64 x1, .int .i64 x2, .int .i64 x3]) (.agg #[.int .i64 0, .int .i64 0, .int .i64 0, .int .i64 0])).run Try.prog W = .ok g W)) (G0 : Hid (wB x0 1 4611686018427387904 = g0)) (G1 : Hid (wB x1 0 ((n : Int) - 1) = g1)) (G2 : Hid (wB x2 1 4611686018427387904 = g2)) (G3 : Hid (wB x3 1 4611686018427387904 = g3)) : Calls Try.prog 40 #[.agg #[.int .i64 x0, .int .i64 x1, .int .i64 x2, .int .i64 x3], .int .i64 n] w fun e w' => e = .returned (.bool (g || (g0 && g1 && g2 && g3))) ∧ Below w.heap.size w w' := by
  generalize hW1 : w.alloc (.cells #[.int .i64 x0, .int .i64 x1, .int .i64 x2, .int .i64 x3] 31) = W1
  have HB1 : Hid (Below w.heap.size w W1) := by rw [← hW1]; exact balloc (Below.refl _ _)
  have k1 : W1.heap[w.heap.size]? = some (.cells #[.int .i64 x0, .int .i64 x1, .int .i64 x2, .int .i64 x3] 31 (0, 0)) := by rw [← hW1]; exact heap_alloc_new w _
  have d0 : W1.cell? ⟨w.heap.size, 0, none⟩ = some (.int .i64 x0) := blk_cell k1 0
  have d1 : W1.cell? ⟨w.heap.size, 1, none⟩ = some (.int .i64 x1) := blk_cell k1 1
  have d2 : W1.cell? ⟨w.heap.size, 2, none⟩ = some (.int .i64 x2) := blk_cell k1 2
  have d3 : W1.cell? ⟨w.heap.size, 3, none⟩ = some (.int .i64 x3) := blk_cell k1 3
  have H0 : Hid (∀ W, Calls Try.prog 26 #[.int .i64 x0, .int .i64 1, .int .i64 4611686018427387904] W fun e w' => e = .returned (.bool g0) ∧ W = w') := fun W => G0.out ▸ within_w _ _ _
  have H1 : Hid (∀ W, Calls Try.prog 26 #[.int .i64 x1, .int .i64 0, .int .i64 ((n : Int) - 1)] W fun e w' => e = .returned (.bool g1) ∧ W = w') := fun W => G1.out ▸ within_w _ _ _
  have H2 : Hid (∀ W, Calls Try.prog 26 #[.int .i64 x2, .int .i64 1, .int .i64 4611686018427387904] W fun e w' => e = .returned (.bool g2) ∧ W = w') := fun W => G2.out ▸ within_w _ _ _
  have H3 : Hid (∀ W, Calls Try.prog 26 #[.int .i64 x3, .int .i64 1, .int .i64 4611686018427387904] W fun e w' => e = .returned (.bool g3) ∧ W = w') := fun W => G3.out ▸ within_w _ _ _
  clear k1 G0 G1 G2 G3
  cases g with
  | true =>
    go_enter Try.func40, Try.ntmps40
    go_wp2_with (first | (refine eql_step 31 (.tmp 5) (.tmp 6) 31 (HE.out _) (by kernel_rfl) rfl rfl rfl rfl ?_; (simp only [Act.put, gA9, gZ9, gC9, sA9, sZ9, sC9]); refine WpL.out ?_) | fail)
    refine wl_take (v := .bool true) (by kernel_rfl) (by (go_simp; done)) ?_
    simp only [Act.put, gA9, gZ9, gC9, sA9, sZ9, sC9]
    refine wl_skip (by kernel_rfl) ?_
    simp only [Act.put, gA9, gZ9, gC9, sA9, sZ9, sC9]
    refine wl_skip (by kernel_rfl) ?_
    simp only [Act.put, gA9, gZ9, gC9, sA9, sZ9, sC9]
    refine wl_skip (by kernel_rfl) ?_
    simp only [Act.put, gA9, gZ9, gC9, sA9, sZ9, sC9]
    refine wl_skip (by kernel_rfl) ?_
    simp only [Act.put, gA9, gZ9, gC9, sA9, sZ9, sC9]
    refine wl_skip (by kernel_rfl) ?_
    simp only [Act.put, gA9, gZ9, gC9, sA9, sZ9, sC9]
    refine wl_skip (by kernel_rfl) ?_
    simp only [Act.put, gA9, gZ9, gC9, sA9, sZ9, sC9]
    refine wl_skip (by kernel_rfl) ?_
    simp only [Act.put, gA9, gZ9, gC9, sA9, sZ9, sC9]
    refine wl_skip (by kernel_rfl) ?_
    simp only [Act.put, gA9, gZ9, gC9, sA9, sZ9, sC9]
    refine wl_skip (by kernel_rfl) ?_
    simp only [Act.put, gA9, gZ9, gC9, sA9, sZ9, sC9]
    refine wl_skip (by kernel_rfl) ?_
    simp only [Act.put, gA9, gZ9, gC9, sA9, sZ9, sC9]
    refine wl_skip (by kernel_rfl) ?_
    simp only [Act.put, gA9, gZ9, gC9, sA9, sZ9, sC9]
    refine wl_skip (by kernel_rfl) ?_
    simp only [Act.put, gA9, gZ9, gC9, sA9, sZ9, sC9]
    refine wl_skip (by kernel_rfl) ?_
    simp only [Act.put, gA9, gZ9, gC9, sA9, sZ9, sC9]
    refine wl_skip (by kernel_rfl) ?_
    simp only [Act.put, gA9, gZ9, gC9, sA9, sZ9, sC9]
    refine wl_skip (by kernel_rfl) ?_
    simp only [Act.put, gA9, gZ9, gC9, sA9, sZ9, sC9]
    refine wl_skip (by kernel_rfl) ?_
    simp only [Act.put, gA9, gZ9, gC9, sA9, sZ9, sC9]
    refine wl_skip (by kernel_rfl) ?_
    simp only [Act.put, gA9, gZ9, gC9, sA9, sZ9, sC9]
    refine wl_skip (by kernel_rfl) ?_
    simp only [Act.put, gA9, gZ9, gC9, sA9, sZ9, sC9]
    refine wl_skip (by kernel_rfl) ?_
    simp only [Act.put, gA9, gZ9, gC9, sA9, sZ9, sC9]
    refine wl_skip (by kernel_rfl) ?_
    simp only [Act.put, gA9, gZ9, gC9, sA9, sZ9, sC9]
    refine ⟨?_⟩
    go_wp2
    go_ret
    exact ⟨by rfl, HB1.out⟩
  | false =>
    cases g0 with
    | false =>
      go_enter Try.func40, Try.ntmps40
      go_wp2_with (first | (refine eql_step 31 (.tmp 5) (.tmp 6) 31 (HE.out _) (by kernel_rfl) rfl rfl rfl rfl ?_; (simp only [Act.put, gA9, gZ9, gC9, sA9, sZ9, sC9]); refine WpL.out ?_) | fail)
      refine wl_take (v := .bool false) (by kernel_rfl) (by (go_simp; done)) ?_
      simp only [Act.put, gA9, gZ9, gC9, sA9, sZ9, sC9]
      refine wl_take (v := .pointer (some ⟨w.heap.size, 0, none⟩)) (by kernel_rfl) (by go_simp) ?_
      simp only [Act.put, gA9, gZ9, gC9, sA9, sZ9, sC9]
      refine wl_take (v := .int .i64 x0) (by kernel_rfl) (by go_simp) ?_
      simp only [Act.put, gA9, gZ9, gC9, sA9, sZ9, sC9]
      refine wl_step (by kernel_rfl) fun K hK => ?_
      go_simp
      refine (H0.out _).mono ?_
      rintro e w2 ⟨rfl, rfl⟩
      refine hK _ _ ?_
      clear hK K
      try (simp only [Act.put, gA9, gZ9, gC9, sA9, sZ9, sC9])
      refine wl_take (v := .bool false) (by kernel_rfl) (by go_simp) ?_
      simp only [Act.put, gA9, gZ9, gC9, sA9, sZ9, sC9]
      refine wl_skip (by kernel_rfl) ?_
      simp only [Act.put, gA9, gZ9, gC9, sA9, sZ9, sC9]
      refine wl_skip (by kernel_rfl) ?_
      simp only [Act.put, gA9, gZ9, gC9, sA9, sZ9, sC9]
      refine wl_skip (by kernel_rfl) ?_
      simp only [Act.put, gA9, gZ9, gC9, sA9, sZ9, sC9]
      refine wl_skip (by kernel_rfl) ?_
      simp only [Act.put, gA9, gZ9, gC9, sA9, sZ9, sC9]
      refine wl_skip (by kernel_rfl) ?_
      simp only [Act.put, gA9, gZ9, gC9, sA9, sZ9, sC9]
      refine wl_take (v := .bool false) (by kernel_rfl) (by go_simp) ?_
      simp only [Act.put, gA9, gZ9, gC9, sA9, sZ9, sC9]
      refine wl_take (v := .bool false) (by kernel_rfl) (by go_simp) ?_
      simp only [Act.put, gA9, gZ9, gC9, sA9, sZ9, sC9]
      refine wl_skip (by kernel_rfl) ?_
      simp only [Act.put, gA9, gZ9, gC9, sA9, sZ9, sC9]
      refine wl_skip (by kernel_rfl) ?_
      simp only [Act.put, gA9, gZ9, gC9, sA9, sZ9, sC9]
      refine wl_skip (by kernel_rfl) ?_
      simp only [Act.put, gA9, gZ9, gC9, sA9, sZ9, sC9]
      refine wl_take (v := .bool false) (by kernel_rfl) (by go_simp) ?_
      simp only [Act.put, gA9, gZ9, gC9, sA9, sZ9, sC9]
      refine wl_take (v := .bool false) (by kernel_rfl) (by go_simp) ?_
      simp only [Act.put, gA9, gZ9, gC9, sA9, sZ9, sC9]
      refine wl_skip (by kernel_rfl) ?_
      simp only [Act.put, gA9, gZ9, gC9, sA9, sZ9, sC9]
      refine wl_skip (by kernel_rfl) ?_
      simp only [Act.put, gA9, gZ9, gC9, sA9, sZ9, sC9]
      refine wl_skip (by kernel_rfl) ?_
      simp only [Act.put, gA9, gZ9, gC9, sA9, sZ9, sC9]
      refine wl_take (v := .bool false) (by kernel_rfl) (by go_simp) ?_
      simp only [Act.put, gA9, gZ9, gC9, sA9, sZ9, sC9]
      refine ⟨?_⟩
      go_wp2
      go_ret
      exact ⟨by rfl, HB1.out⟩
    | true =>
      cases g1 with
      | false =>
        go_enter Try.func40, Try.ntmps40
        go_wp2_with (first | (refine eql_step 31 (.tmp 5) (.tmp 6) 31 (HE.out _) (by kernel_rfl) rfl rfl rfl rfl ?_; (simp only [Act.put, gA9, gZ9, gC9, sA9, sZ9, sC9]); refine WpL.out ?_) | fail)
        refine wl_take (v := .bool false) (by kernel_rfl) (by (go_simp; done)) ?_
        simp only [Act.put, gA9, gZ9, gC9, sA9, sZ9, sC9]
        refine wl_take (v := .pointer (some ⟨w.heap.size, 0, none⟩)) (by kernel_rfl) (by go_simp) ?_
        simp only [Act.put, gA9, gZ9, gC9, sA9, sZ9, sC9]
        refine wl_take (v := .int .i64 x0) (by kernel_rfl) (by go_simp) ?_
        simp only [Act.put, gA9, gZ9, gC9, sA9, sZ9, sC9]
        refine wl_step (by kernel_rfl) fun K hK => ?_
        go_simp
        refine (H0.out _).mono ?_
        rintro e w2 ⟨rfl, rfl⟩
        refine hK _ _ ?_
        clear hK K
        try (simp only [Act.put, gA9, gZ9, gC9, sA9, sZ9, sC9])
        refine wl_take (v := .bool true) (by kernel_rfl) (by go_simp) ?_
        simp only [Act.put, gA9, gZ9, gC9, sA9, sZ9, sC9]
        refine wl_take (v := .pointer (some ⟨w.heap.size, 1, none⟩)) (by kernel_rfl) (by go_simp) ?_
        simp only [Act.put, gA9, gZ9, gC9, sA9, sZ9, sC9]
        refine wl_take (v := .int .i64 x1) (by kernel_rfl) (by go_simp) ?_
        simp only [Act.put, gA9, gZ9, gC9, sA9, sZ9, sC9]
        refine wl_take (v := .int .i64 (n : Int)) (by kernel_rfl) (by go_simp) ?_
        simp only [Act.put, gA9, gZ9, gC9, sA9, sZ9, sC9]
        refine wl_take (v := .int .i64 ((n : Int) - 1)) (by kernel_rfl) (by (go_simp; exact wrap_id (by omega) (by omega))) ?_
        simp only [Act.put, gA9, gZ9, gC9, sA9, sZ9, sC9]
        refine wl_step (by kernel_rfl) fun K hK => ?_
        go_simp
        refine (H1.out _).mono ?_
        rintro e w2 ⟨rfl, rfl⟩
        refine hK _ _ ?_
        clear hK K
        try (simp only [Act.put, gA9, gZ9, gC9, sA9, sZ9, sC9])
        refine wl_take (v := .bool false) (by kernel_rfl) (by go_simp) ?_
        simp only [Act.put, gA9, gZ9, gC9, sA9, sZ9, sC9]
        refine wl_take (v := .bool false) (by kernel_rfl) (by go_simp) ?_
        simp only [Act.put, gA9, gZ9, gC9, sA9, sZ9, sC9]
        refine wl_skip (by kernel_rfl) ?_
        simp only [Act.put, gA9, gZ9, gC9, sA9, sZ9, sC9]
        refine wl_skip (by kernel_rfl) ?_
        simp only [Act.put, gA9, gZ9, gC9, sA9, sZ9, sC9]
        refine wl_skip (by kernel_rfl) ?_
        simp only [Act.put, gA9, gZ9, gC9, sA9, sZ9, sC9]
        refine wl_take (v := .bool false) (by kernel_rfl) (by go_simp) ?_
        simp only [Act.put, gA9, gZ9, gC9, sA9, sZ9, sC9]
        refine wl_take (v := .bool false) (by kernel_rfl) (by go_simp) ?_
        simp only [Act.put, gA9, gZ9, gC9, sA9, sZ9, sC9]
        refine wl_skip (by kernel_rfl) ?_
        simp only [Act.put, gA9, gZ9, gC9, sA9, sZ9, sC9]
        refine wl_skip (by kernel_rfl) ?_
        simp only [Act.put, gA9, gZ9, gC9, sA9, sZ9, sC9]
        refine wl_skip (by kernel_rfl) ?_
        simp only [Act.put, gA9, gZ9, gC9, sA9, sZ9, sC9]
        refine wl_take (v := .bool false) (by kernel_rfl) (by go_simp) ?_
        simp only [Act.put, gA9, gZ9, gC9, sA9, sZ9, sC9]
        refine ⟨?_⟩
        go_wp2
        go_ret
        exact ⟨by rfl, HB1.out⟩
      | true =>
        cases g2 with
        | false =>
          go_enter Try.func40, Try.ntmps40
          go_wp2_with (first | (refine eql_step 31 (.tmp 5) (.tmp 6) 31 (HE.out _) (by kernel_rfl) rfl rfl rfl rfl ?_; (simp only [Act.put, gA9, gZ9, gC9, sA9, sZ9, sC9]); refine WpL.out ?_) | fail)
          refine wl_take (v := .bool false) (by kernel_rfl) (by (go_simp; done)) ?_
          simp only [Act.put, gA9, gZ9, gC9, sA9, sZ9, sC9]
          refine wl_take (v := .pointer (some ⟨w.heap.size, 0, none⟩)) (by kernel_rfl) (by go_simp) ?_
          simp only [Act.put, gA9, gZ9, gC9, sA9, sZ9, sC9]
          refine wl_take (v := .int .i64 x0) (by kernel_rfl) (by go_simp) ?_
          simp only [Act.put, gA9, gZ9, gC9, sA9, sZ9, sC9]
          refine wl_step (by kernel_rfl) fun K hK => ?_
          go_simp
          refine (H0.out _).mono ?_
          rintro e w2 ⟨rfl, rfl⟩
          refine hK _ _ ?_
          clear hK K
          try (simp only [Act.put, gA9, gZ9, gC9, sA9, sZ9, sC9])
          refine wl_take (v := .bool true) (by kernel_rfl) (by go_simp) ?_
          simp only [Act.put, gA9, gZ9, gC9, sA9, sZ9, sC9]
          refine wl_take (v := .pointer (some ⟨w.heap.size, 1, none⟩)) (by kernel_rfl) (by go_simp) ?_
          simp only [Act.put, gA9, gZ9, gC9, sA9, sZ9, sC9]
          refine wl_take (v := .int .i64 x1) (by kernel_rfl) (by go_simp) ?_
          simp only [Act.put, gA9, gZ9, gC9, sA9, sZ9, sC9]
          refine wl_take (v := .int .i64 (n : Int)) (by kernel_rfl) (by go_simp) ?_
          simp only [Act.put, gA9, gZ9, gC9, sA9, sZ9, sC9]
          refine wl_take (v := .int .i64 ((n : Int) - 1)) (by kernel_rfl) (by (go_simp; exact wrap_id (by omega) (by omega))) ?_
          simp only [Act.put, gA9, gZ9, gC9, sA9, sZ9, sC9]
          refine wl_step (by kernel_rfl) fun K hK => ?_
          go_simp
          refine (H1.out _).mono ?_
          rintro e w2 ⟨rfl, rfl⟩
          refine hK _ _ ?_
          clear hK K
          try (simp only [Act.put, gA9, gZ9, gC9, sA9, sZ9, sC9])
          refine wl_take (v := .bool true) (by kernel_rfl) (by go_simp) ?_
          simp only [Act.put, gA9, gZ9, gC9, sA9, sZ9, sC9]
          refine wl_take (v := .bool true) (by kernel_rfl) (by go_simp) ?_
          simp only [Act.put, gA9, gZ9, gC9, sA9, sZ9, sC9]
          refine wl_take (v := .pointer (some ⟨w.heap.size, 2, none⟩)) (by kernel_rfl) (by go_simp) ?_
          simp only [Act.put, gA9, gZ9, gC9, sA9, sZ9, sC9]
          refine wl_take (v := .int .i64 x2) (by kernel_rfl) (by go_simp) ?_
          simp only [Act.put, gA9, gZ9, gC9, sA9, sZ9, sC9]
          refine wl_step (by kernel_rfl) fun K hK => ?_
          go_simp
          refine (H2.out _).mono ?_
          rintro e w2 ⟨rfl, rfl⟩
          refine hK _ _ ?_
          clear hK K
          try (simp only [Act.put, gA9, gZ9, gC9, sA9, sZ9, sC9])
          refine wl_take (v := .bool false) (by kernel_rfl) (by go_simp) ?_
          simp only [Act.put, gA9, gZ9, gC9, sA9, sZ9, sC9]
          refine wl_take (v := .bool false) (by kernel_rfl) (by go_simp) ?_
          simp only [Act.put, gA9, gZ9, gC9, sA9, sZ9, sC9]
          refine wl_skip (by kernel_rfl) ?_
          simp only [Act.put, gA9, gZ9, gC9, sA9, sZ9, sC9]
          refine wl_skip (by kernel_rfl) ?_
          simp only [Act.put, gA9, gZ9, gC9, sA9, sZ9, sC9]
          refine wl_skip (by kernel_rfl) ?_
          simp only [Act.put, gA9, gZ9, gC9, sA9, sZ9, sC9]
          refine wl_take (v := .bool false) (by kernel_rfl) (by go_simp) ?_
          simp only [Act.put, gA9, gZ9, gC9, sA9, sZ9, sC9]
          refine ⟨?_⟩
          go_wp2
          go_ret
          exact ⟨by rfl, HB1.out⟩
        | true =>
          cases g3 with
          | false =>
            go_enter Try.func40, Try.ntmps40
            go_wp2_with (first | (refine eql_step 31 (.tmp 5) (.tmp 6) 31 (HE.out _) (by kernel_rfl) rfl rfl rfl rfl ?_; (simp only [Act.put, gA9, gZ9, gC9, sA9, sZ9, sC9]); refine WpL.out ?_) | fail)
            refine wl_take (v := .bool false) (by kernel_rfl) (by (go_simp; done)) ?_
            simp only [Act.put, gA9, gZ9, gC9, sA9, sZ9, sC9]
            refine wl_take (v := .pointer (some ⟨w.heap.size, 0, none⟩)) (by kernel_rfl) (by go_simp) ?_
            simp only [Act.put, gA9, gZ9, gC9, sA9, sZ9, sC9]
            refine wl_take (v := .int .i64 x0) (by kernel_rfl) (by go_simp) ?_
            simp only [Act.put, gA9, gZ9, gC9, sA9, sZ9, sC9]
            refine wl_step (by kernel_rfl) fun K hK => ?_
            go_simp
            refine (H0.out _).mono ?_
            rintro e w2 ⟨rfl, rfl⟩
            refine hK _ _ ?_
            clear hK K
            try (simp only [Act.put, gA9, gZ9, gC9, sA9, sZ9, sC9])
            refine wl_take (v := .bool true) (by kernel_rfl) (by go_simp) ?_
            simp only [Act.put, gA9, gZ9, gC9, sA9, sZ9, sC9]
            refine wl_take (v := .pointer (some ⟨w.heap.size, 1, none⟩)) (by kernel_rfl) (by go_simp) ?_
            simp only [Act.put, gA9, gZ9, gC9, sA9, sZ9, sC9]
            refine wl_take (v := .int .i64 x1) (by kernel_rfl) (by go_simp) ?_
            simp only [Act.put, gA9, gZ9, gC9, sA9, sZ9, sC9]
            refine wl_take (v := .int .i64 (n : Int)) (by kernel_rfl) (by go_simp) ?_
            simp only [Act.put, gA9, gZ9, gC9, sA9, sZ9, sC9]
            refine wl_take (v := .int .i64 ((n : Int) - 1)) (by kernel_rfl) (by (go_simp; exact wrap_id (by omega) (by omega))) ?_
            simp only [Act.put, gA9, gZ9, gC9, sA9, sZ9, sC9]
            refine wl_step (by kernel_rfl) fun K hK => ?_
            go_simp
            refine (H1.out _).mono ?_
            rintro e w2 ⟨rfl, rfl⟩
            refine hK _ _ ?_
            clear hK K
            try (simp only [Act.put, gA9, gZ9, gC9, sA9, sZ9, sC9])
            refine wl_take (v := .bool true) (by kernel_rfl) (by go_simp) ?_
            simp only [Act.put, gA9, gZ9, gC9, sA9, sZ9, sC9]
            refine wl_take (v := .bool true) (by kernel_rfl) (by go_simp) ?_
            simp only [Act.put, gA9, gZ9, gC9, sA9, sZ9, sC9]
            refine wl_take (v := .pointer (some ⟨w.heap.size, 2, none⟩)) (by kernel_rfl) (by go_simp) ?_
            simp only [Act.put, gA9, gZ9, gC9, sA9, sZ9, sC9]
            refine wl_take (v := .int .i64 x2) (by kernel_rfl) (by go_simp) ?_
            simp only [Act.put, gA9, gZ9, gC9, sA9, sZ9, sC9]
            refine wl_step (by kernel_rfl) fun K hK => ?_
            go_simp
            refine (H2.out _).mono ?_
            rintro e w2 ⟨rfl, rfl⟩
            refine hK _ _ ?_
            clear hK K
            try (simp only [Act.put, gA9, gZ9, gC9, sA9, sZ9, sC9])
            refine wl_take (v := .bool true) (by kernel_rfl) (by go_simp) ?_
            simp only [Act.put, gA9, gZ9, gC9, sA9, sZ9, sC9]
            refine wl_take (v := .bool true) (by kernel_rfl) (by go_simp) ?_
            simp only [Act.put, gA9, gZ9, gC9, sA9, sZ9, sC9]
            refine wl_take (v := .pointer (some ⟨w.heap.size, 3, none⟩)) (by kernel_rfl) (by go_simp) ?_
            simp only [Act.put, gA9, gZ9, gC9, sA9, sZ9, sC9]
            refine wl_take (v := .int .i64 x3) (by kernel_rfl) (by go_simp) ?_
            simp only [Act.put, gA9, gZ9, gC9, sA9, sZ9, sC9]
            refine wl_step (by kernel_rfl) fun K hK => ?_
            go_simp
            refine (H3.out _).mono ?_
            rintro e w2 ⟨rfl, rfl⟩
            refine hK _ _ ?_
            clear hK K
            try (simp only [Act.put, gA9, gZ9, gC9, sA9, sZ9, sC9])
            refine wl_take (v := .bool false) (by kernel_rfl) (by go_simp) ?_
            simp only [Act.put, gA9, gZ9, gC9, sA9, sZ9, sC9]
            refine ⟨?_⟩
            go_wp2
            go_ret
            exact ⟨by rfl, HB1.out⟩
          | true =>
            go_enter Try.func40, Try.ntmps40
            go_wp2_with (first | (refine eql_step 31 (.tmp 5) (.tmp 6) 31 (HE.out _) (by kernel_rfl) rfl rfl rfl rfl ?_; (simp only [Act.put, gA9, gZ9, gC9, sA9, sZ9, sC9]); refine WpL.out ?_) | fail)
            refine wl_take (v := .bool false) (by kernel_rfl) (by (go_simp; done)) ?_
            simp only [Act.put, gA9, gZ9, gC9, sA9, sZ9, sC9]
            refine wl_take (v := .pointer (some ⟨w.heap.size, 0, none⟩)) (by kernel_rfl) (by go_simp) ?_
            simp only [Act.put, gA9, gZ9, gC9, sA9, sZ9, sC9]
            refine wl_take (v := .int .i64 x0) (by kernel_rfl) (by go_simp) ?_
            simp only [Act.put, gA9, gZ9, gC9, sA9, sZ9, sC9]
            refine wl_step (by kernel_rfl) fun K hK => ?_
            go_simp
            refine (H0.out _).mono ?_
            rintro e w2 ⟨rfl, rfl⟩
            refine hK _ _ ?_
            clear hK K
            try (simp only [Act.put, gA9, gZ9, gC9, sA9, sZ9, sC9])
            refine wl_take (v := .bool true) (by kernel_rfl) (by go_simp) ?_
            simp only [Act.put, gA9, gZ9, gC9, sA9, sZ9, sC9]
            refine wl_take (v := .pointer (some ⟨w.heap.size, 1, none⟩)) (by kernel_rfl) (by go_simp) ?_
            simp only [Act.put, gA9, gZ9, gC9, sA9, sZ9, sC9]
            refine wl_take (v := .int .i64 x1) (by kernel_rfl) (by go_simp) ?_
            simp only [Act.put, gA9, gZ9, gC9, sA9, sZ9, sC9]
            refine wl_take (v := .int .i64 (n : Int)) (by kernel_rfl) (by go_simp) ?_
            simp only [Act.put, gA9, gZ9, gC9, sA9, sZ9, sC9]
            refine wl_take (v := .int .i64 ((n : Int) - 1)) (by kernel_rfl) (by (go_simp; exact wrap_id (by omega) (by omega))) ?_
            simp only [Act.put, gA9, gZ9, gC9, sA9, sZ9, sC9]
            refine wl_step (by kernel_rfl) fun K hK => ?_
            go_simp
            refine (H1.out _).mono ?_
            rintro e w2 ⟨rfl, rfl⟩
            refine hK _ _ ?_
            clear hK K
            try (simp only [Act.put, gA9, gZ9, gC9, sA9, sZ9, sC9])
            refine wl_take (v := .bool true) (by kernel_rfl) (by go_simp) ?_
            simp only [Act.put, gA9, gZ9, gC9, sA9, sZ9, sC9]
            refine wl_take (v := .bool true) (by kernel_rfl) (by go_simp) ?_
            simp only [Act.put, gA9, gZ9, gC9, sA9, sZ9, sC9]
            refine wl_take (v := .pointer (some ⟨w.heap.size, 2, none⟩)) (by kernel_rfl) (by go_simp) ?_
            simp only [Act.put, gA9, gZ9, gC9, sA9, sZ9, sC9]
            refine wl_take (v := .int .i64 x2) (by kernel_rfl) (by go_simp) ?_
            simp only [Act.put, gA9, gZ9, gC9, sA9, sZ9, sC9]
            refine wl_step (by kernel_rfl) fun K hK => ?_
            go_simp
            refine (H2.out _).mono ?_
            rintro e w2 ⟨rfl, rfl⟩
            refine hK _ _ ?_
            clear hK K
            try (simp only [Act.put, gA9, gZ9, gC9, sA9, sZ9, sC9])
            refine wl_take (v := .bool true) (by kernel_rfl) (by go_simp) ?_
            simp only [Act.put, gA9, gZ9, gC9, sA9, sZ9, sC9]
            refine wl_take (v := .bool true) (by kernel_rfl) (by go_simp) ?_
            simp only [Act.put, gA9, gZ9, gC9, sA9, sZ9, sC9]
            refine wl_take (v := .pointer (some ⟨w.heap.size, 3, none⟩)) (by kernel_rfl) (by go_simp) ?_
            simp only [Act.put, gA9, gZ9, gC9, sA9, sZ9, sC9]
            refine wl_take (v := .int .i64 x3) (by kernel_rfl) (by go_simp) ?_
            simp only [Act.put, gA9, gZ9, gC9, sA9, sZ9, sC9]
            refine wl_step (by kernel_rfl) fun K hK => ?_
            go_simp
            refine (H3.out _).mono ?_
            rintro e w2 ⟨rfl, rfl⟩
            refine hK _ _ ?_
            clear hK K
            try (simp only [Act.put, gA9, gZ9, gC9, sA9, sZ9, sC9])
            refine wl_take (v := .bool true) (by kernel_rfl) (by go_simp) ?_
            simp only [Act.put, gA9, gZ9, gC9, sA9, sZ9, sC9]
            refine ⟨?_⟩
            go_wp2
            go_ret
            exact ⟨by rfl, HB1.out⟩
theorem prev_any (id : List Int) (hi : id.length = 4) (n : Nat) (hn : n ≤ 16) : Calls Try.prog 40 #[.agg (ints id).toArray, .int .i64 n] w fun e w' => e = .returned (.bool (prevOk id n)) ∧ Below w.heap.size w w' := by
  have HE : Hid (∀ W, (Op.equalIn 10000 31 (.agg (ints id).toArray) (.agg (ints [0, 0, 0, 0]).toArray)).run Try.prog W = .ok (decide (id = [0, 0, 0, 0])) W) := fun W => eq_id_ id [0, 0, 0, 0] hi rfl
  unfold prevOk
  match id, hi with
  | [x0, x1, x2, x3], _ => exact prev4 x0 x1 x2 x3 n hn _ _ _ _ _ HE rfl rfl rfl rfl
end
end Go.Proofs.Ytdegjhkjmgimpaa.Mb
namespace Go.Proofs.Ytdegjhkjmgimpaa.Mb
open Go.RowKit
set_option linter.unusedVariables false
set_option maxRecDepth 100000
set_option linter.unusedSimpArgs false
section
variable {A A' : Ag} {w w' W : World} {B : Nat} {T : Int}
structure Pq where
  sa : Option Addr
  sn : Nat
  sc : Nat
  ss : List Int
  cid : Int
  rev : Int
  top : Int
  prev : List Int
  va : Option Addr
  vn : Nat
  vc : Nat
  vs : List Int
def Pq.cs (p : Pq) : Array Value := #[.slice p.sa p.sn p.sc, .int .i64 p.cid, .int .i64 p.rev, .int .i64 p.top, .int .i64 (p.prev.getD 0 0), .int .i64 (p.prev.getD 1 0), .int .i64 (p.prev.getD 2 0), .int .i64 (p.prev.getD 3 0), .slice p.va p.vn p.vc]
structure Pq.Rd (p : Pq) (w : World) : Prop where
  s : RdI w p.sa p.sn p.ss
  v : RdI w p.va p.vn p.vs
  l : p.prev.length = 4
  sn : p.sn ≤ 17592186044416
  vn : p.vn ≤ 17592186044416
theorem Pq.Rd.still {p : Pq} (h : p.Rd w) (hb : Below w.heap.size w w') : p.Rd w' := { h with s := h.s.still hb, v := h.v.still hb }
def Pq.pp (p : Pq) : Pp := ⟨pad p.ss, p.cid, p.rev, p.top, p.prev, pad p.vs⟩
theorem Pq.Rd.L {p : Pq} (h : p.Rd w) : p.pp.L := ⟨pad_len _, h.l, pad_len _⟩
def Pq.valid (p : Pq) (q : Nat) (inc : Int) (n : Nat) : Bool := okL p.ss n && okL p.vs n && ((pad p.ss).getD q 0 == inc) && ((pad p.vs).getD q 0 == p.cid) && honly (pad p.vs) (pad p.ss) && wB p.cid 1 4611686018427387904 && wB p.rev 1 4611686018427387904 && wB p.top 0 4611686018427387903 && prevOk p.prev n
theorem rng_below {b o : Nat} {cs : List Value} (h : w.rangeAt b o cs) (hb : Below w.heap.size w w') : w'.rangeAt b o cs := fun j v hv => below_at hb (h j v hv)
theorem build_prop_step {ops : Array Oper} {rest : List Oper} {o : Oper} {a : Act} {Q : Exit → Act → World → Prop} (p : Pp) (hp : p.L) (x0 x1 x2 x3 x4 x5 : Operand) (hg : o.guard = none) (ho : o.op = .build 63 #[(0, x0), (1, x1), (2, x2), (3, x3), (4, x4), (5, x5)])
    (h0 : a.eval x0 = .agg (ints p.set).toArray) (h1 : a.eval x1 = .int .i64 p.cid) (h2 : a.eval x2 = .int .i64 p.rev) (h3 : a.eval x3 = .int .i64 p.top) (h4 : a.eval x4 = .agg (ints p.prev).toArray) (h5 : a.eval x5 = .agg (ints p.vec).toArray)
    (h : wpList Try.prog ops Q rest (a.put o.dst (.agg (ints p.fl).toArray)) w) : wpList Try.prog ops Q (o :: rest) a w := by
  have e : (((#[(0, x0), (1, x1), (2, x2), (3, x3), (4, x4), (5, x5)] : Array (Nat × Operand)).map fun (i, x) => (i, a.eval x)).toList) = [(0, .agg (ints p.set).toArray), (1, .int .i64 p.cid), (2, .int .i64 p.rev), (3, .int .i64 p.top), (4, .agg (ints p.prev).toArray), (5, .agg (ints p.vec).toArray)] := by
    simp [h0, h1, h2, h3, h4, h5]
  refine wpList_build hg 63 _ ho (by rw [e, built_prop p hp]; rfl) ?_
  rw [e, built_prop p hp]
  exact h
theorem prev_range {p : Pq} {k : Nat} (h : w.heap[k]? = some (.cells p.cs 33 (0, 0))) (hl : p.prev.length = 4) : w.rangeAt k 4 (ints p.prev) := fun j v hv => by
  rw [blk_cell h]
  have hj : j < p.prev.length := by have := (List.getElem?_eq_some_iff.1 hv).1; rwa [ints_len] at this
  rw [ints_at _ _ hj] at hv
  cases hv
  match j, hj with
  | 0, _ => rfl
  | 1, _ => rfl
  | 2, _ => rfl
  | 3, _ => rfl
  | j + 4, hj => omega
def Pq.SA (p : Pq) (q : Nat) (inc : Int) (n : Nat) : Bool := okL p.ss n && okL p.vs n && ((pad p.ss).getD q 0 == inc)
def Pq.SB (p : Pq) (q : Nat) : Bool := ((pad p.vs).getD q 0 == p.cid) && honly (pad p.vs) (pad p.ss) && wB p.cid 1 4611686018427387904 && wB p.rev 1 4611686018427387904
end
end Go.Proofs.Ytdegjhkjmgimpaa.Mb
