import Derived.Test.YtbdefhagpgpoiacQ00
import Derived.Test.YtbdefhagpgpoiacQ05
namespace Go.Proofs.Ytbdefhagpgpoiac.Mb
open Go.RowKit
set_option linter.unusedVariables false
set_option maxRecDepth 100000
set_option linter.unusedSimpArgs false
section
variable {A A' : Ag} {w w' W : World} {B : Nat} {T : Int}
def wB (v lo hi : Int) : Bool := decide (lo ≤ v ∧ v ≤ hi)
theorem within_w (v lo hi : Int) : Calls Try.prog 9 #[.int .i64 v, .int .i64 lo, .int .i64 hi] w fun e w' => e = .returned (.bool (wB v lo hi)) ∧ w = w' := within_any v lo hi
def prevOk (id : List Int) (n : Nat) : Bool := decide (id = [0, 0, 0, 0]) || (wB (id.getD 0 0) 1 4611686018427387904 && wB (id.getD 1 0) 0 ((n : Int) - 1) && wB (id.getD 2 0) 1 4611686018427387904 && wB (id.getD 3 0) 1 4611686018427387904)
structure WpL (ops : Array Oper) (Q : Exit → Act → World → Prop) (l : List Oper) (a : Act) (w : World) : Prop where
  out : wpList Try.prog ops Q l a w
theorem wl_step {ops : Array Oper} {rest : List Oper} {o : Oper} {a : Act} {Q : Exit → Act → World → Prop} (hw : Region.wanted o (yielded ops a.tmps) = true) (h : ∀ K : Act → World → Prop, (∀ a w, WpL ops Q rest a w → K a w) → o.wp Try.prog a w K Q) : WpL ops Q (o :: rest) a w :=
  ⟨wpList_step fun K hK => by
    rw [if_pos hw]
    exact h K (fun a w h => hK a w h.out)⟩
theorem wl_take {ops : Array Oper} {rest : List Oper} {o : Oper} {a : Act} {Q : Exit → Act → World → Prop} {v : Value} (hw : Region.wanted o (yielded ops a.tmps) = true) (hx : (execOp a.eval o).run Try.prog w = .ok (.value v) w) (h : WpL ops Q rest (a.put o.dst v) w) : WpL ops Q (o :: rest) a w :=
  wl_step hw fun K hK => by
    unfold Oper.wp
    rw [hx]
    exact hK _ _ h
theorem wl_skip {ops : Array Oper} {rest : List Oper} {o : Oper} {a : Act} {Q : Exit → Act → World → Prop} (hw : Region.wanted o (yielded ops a.tmps) = false) (h : WpL ops Q rest (a.put o.dst undef) w) : WpL ops Q (o :: rest) a w :=
  ⟨wpList_step fun K hK => by
    rw [if_neg (by rw [hw]; simp)]
    exact hK _ _ h.out⟩
theorem wlT {ops : Array Oper} {rest : List Oper} {o : Oper} {a : Act} {Q : Exit → Act → World → Prop} (v : Value) (h : WpL ops Q rest (a.put o.dst v) w) (hw : Region.wanted o (yielded ops a.tmps) = true := by kernel_rfl) (hx : (execOp a.eval o).run Try.prog w = .ok (.value v) w := by go_simp) : WpL ops Q (o :: rest) a w := wl_take hw hx h
theorem wlS {ops : Array Oper} {rest : List Oper} {o : Oper} {a : Act} {Q : Exit → Act → World → Prop} (h : WpL ops Q rest (a.put o.dst undef) w) (hw : Region.wanted o (yielded ops a.tmps) = false := by kernel_rfl) : WpL ops Q (o :: rest) a w := wl_skip hw h
set_option maxHeartbeats 4000000 in
theorem prev4 (x0 x1 x2 x3 : Int) (n : Nat) (hn : n ≤ 16) (g g0 g1 g2 g3 : Bool) (HE : Hid (∀ W, (Op.equalIn 10000 38 (.agg #[.int .i64 x0, .int .i64 x1, .int .i64 x2, .int .i64 x3]) (.agg #[.int .i64 0, .int .i64 0, .int .i64 0, .int .i64 0])).run Try.prog W = .ok g W)) (G0 : Hid (wB x0 1 4611686018427387904 = g0)) (G1 : Hid (wB x1 0 ((n : Int) - 1) = g1)) (G2 : Hid (wB x2 1 4611686018427387904 = g2)) (G3 : Hid (wB x3 1 4611686018427387904 = g3)) : Calls Try.prog 57 #[.agg #[.int .i64 x0, .int .i64 x1, .int .i64 x2, .int .i64 x3], .int .i64 n] w fun e w' => e = .returned (.bool (g || (g0 && g1 && g2 && g3))) ∧ Below w.heap.size w w' := by
  generalize hW1 : w.alloc (.cells #[.int .i64 x0, .int .i64 x1, .int .i64 x2, .int .i64 x3] 38) = W1
  have HB1 : Hid (Below w.heap.size w W1) := by rw [← hW1]; exact balloc (Below.refl _ _)
  have k1 : W1.heap[w.heap.size]? = some (.cells #[.int .i64 x0, .int .i64 x1, .int .i64 x2, .int .i64 x3] 38 (0, 0)) := by rw [← hW1]; exact heap_alloc_new w _
  have d0 : W1.cell? ⟨w.heap.size, 0, none⟩ = some (.int .i64 x0) := blk_cell k1 0
  have d1 : W1.cell? ⟨w.heap.size, 1, none⟩ = some (.int .i64 x1) := blk_cell k1 1
  have d2 : W1.cell? ⟨w.heap.size, 2, none⟩ = some (.int .i64 x2) := blk_cell k1 2
  have d3 : W1.cell? ⟨w.heap.size, 3, none⟩ = some (.int .i64 x3) := blk_cell k1 3
  have H0 : Hid (∀ W, Calls Try.prog 9 #[.int .i64 x0, .int .i64 1, .int .i64 4611686018427387904] W fun e w' => e = .returned (.bool g0) ∧ W = w') := fun W => G0.out ▸ within_w _ _ _
  have H1 : Hid (∀ W, Calls Try.prog 9 #[.int .i64 x1, .int .i64 0, .int .i64 ((n : Int) - 1)] W fun e w' => e = .returned (.bool g1) ∧ W = w') := fun W => G1.out ▸ within_w _ _ _
  have H2 : Hid (∀ W, Calls Try.prog 9 #[.int .i64 x2, .int .i64 1, .int .i64 4611686018427387904] W fun e w' => e = .returned (.bool g2) ∧ W = w') := fun W => G2.out ▸ within_w _ _ _
  have H3 : Hid (∀ W, Calls Try.prog 9 #[.int .i64 x3, .int .i64 1, .int .i64 4611686018427387904] W fun e w' => e = .returned (.bool g3) ∧ W = w') := fun W => G3.out ▸ within_w _ _ _
  clear k1 G0 G1 G2 G3
  cases g with
  | true =>
    go_enter Try.func57, Try.ntmps57
    go_wp2_with (first | (refine eql_step 38 (.tmp 5) (.tmp 6) 38 (HE.out _) (by kernel_rfl) rfl rfl rfl rfl ?_; (simp only [Act.put, gA, gB, gC, gD, gE, gF]); refine WpL.out ?_) | fail)
    refine wl_take (v := .bool true) (by kernel_rfl) (by (go_simp; done)) ?_
    simp only [Act.put, gA, gB, gC, gD, gE, gF]
    refine wlS ?_
    simp only [Act.put, gA, gB, gC, gD, gE, gF]
    refine wlS ?_
    simp only [Act.put, gA, gB, gC, gD, gE, gF]
    refine wlS ?_
    simp only [Act.put, gA, gB, gC, gD, gE, gF]
    refine wlS ?_
    simp only [Act.put, gA, gB, gC, gD, gE, gF]
    refine wlS ?_
    simp only [Act.put, gA, gB, gC, gD, gE, gF]
    refine wlS ?_
    simp only [Act.put, gA, gB, gC, gD, gE, gF]
    refine wlS ?_
    simp only [Act.put, gA, gB, gC, gD, gE, gF]
    refine wlS ?_
    simp only [Act.put, gA, gB, gC, gD, gE, gF]
    refine wlS ?_
    simp only [Act.put, gA, gB, gC, gD, gE, gF]
    refine wlS ?_
    simp only [Act.put, gA, gB, gC, gD, gE, gF]
    refine wlS ?_
    simp only [Act.put, gA, gB, gC, gD, gE, gF]
    refine wlS ?_
    simp only [Act.put, gA, gB, gC, gD, gE, gF]
    refine wlS ?_
    simp only [Act.put, gA, gB, gC, gD, gE, gF]
    refine wlS ?_
    simp only [Act.put, gA, gB, gC, gD, gE, gF]
    refine wlS ?_
    simp only [Act.put, gA, gB, gC, gD, gE, gF]
    refine wlS ?_
    simp only [Act.put, gA, gB, gC, gD, gE, gF]
    refine wlS ?_
    simp only [Act.put, gA, gB, gC, gD, gE, gF]
    refine wlS ?_
    simp only [Act.put, gA, gB, gC, gD, gE, gF]
    refine wlS ?_
    simp only [Act.put, gA, gB, gC, gD, gE, gF]
    refine wlS ?_
    simp only [Act.put, gA, gB, gC, gD, gE, gF]
    refine ⟨?_⟩
    go_wp2
    go_ret
    exact ⟨by rfl, HB1.out⟩
  | false =>
    cases g0 with
    | false =>
      go_enter Try.func57, Try.ntmps57
      go_wp2_with (first | (refine eql_step 38 (.tmp 5) (.tmp 6) 38 (HE.out _) (by kernel_rfl) rfl rfl rfl rfl ?_; (simp only [Act.put, gA, gB, gC, gD, gE, gF]); refine WpL.out ?_) | fail)
      refine wl_take (v := .bool false) (by kernel_rfl) (by (go_simp; done)) ?_
      simp only [Act.put, gA, gB, gC, gD, gE, gF]
      refine wlT (.pointer (some ⟨w.heap.size, 0, none⟩)) ?_
      simp only [Act.put, gA, gB, gC, gD, gE, gF]
      refine wlT (.int .i64 x0) ?_
      simp only [Act.put, gA, gB, gC, gD, gE, gF]
      refine wl_step (by kernel_rfl) fun K hK => ?_
      go_simp
      refine (H0.out _).mono ?_
      rintro e w2 ⟨rfl, rfl⟩
      refine hK _ _ ?_
      clear hK K
      try (simp only [Act.put, gA, gB, gC, gD, gE, gF])
      refine wlT (.bool false) ?_
      simp only [Act.put, gA, gB, gC, gD, gE, gF]
      refine wlS ?_
      simp only [Act.put, gA, gB, gC, gD, gE, gF]
      refine wlS ?_
      simp only [Act.put, gA, gB, gC, gD, gE, gF]
      refine wlS ?_
      simp only [Act.put, gA, gB, gC, gD, gE, gF]
      refine wlS ?_
      simp only [Act.put, gA, gB, gC, gD, gE, gF]
      refine wlS ?_
      simp only [Act.put, gA, gB, gC, gD, gE, gF]
      refine wlT (.bool false) ?_
      simp only [Act.put, gA, gB, gC, gD, gE, gF]
      refine wlT (.bool false) ?_
      simp only [Act.put, gA, gB, gC, gD, gE, gF]
      refine wlS ?_
      simp only [Act.put, gA, gB, gC, gD, gE, gF]
      refine wlS ?_
      simp only [Act.put, gA, gB, gC, gD, gE, gF]
      refine wlS ?_
      simp only [Act.put, gA, gB, gC, gD, gE, gF]
      refine wlT (.bool false) ?_
      simp only [Act.put, gA, gB, gC, gD, gE, gF]
      refine wlT (.bool false) ?_
      simp only [Act.put, gA, gB, gC, gD, gE, gF]
      refine wlS ?_
      simp only [Act.put, gA, gB, gC, gD, gE, gF]
      refine wlS ?_
      simp only [Act.put, gA, gB, gC, gD, gE, gF]
      refine wlS ?_
      simp only [Act.put, gA, gB, gC, gD, gE, gF]
      refine wlT (.bool false) ?_
      simp only [Act.put, gA, gB, gC, gD, gE, gF]
      refine ⟨?_⟩
      go_wp2
      go_ret
      exact ⟨by rfl, HB1.out⟩
    | true =>
      cases g1 with
      | false =>
        go_enter Try.func57, Try.ntmps57
        go_wp2_with (first | (refine eql_step 38 (.tmp 5) (.tmp 6) 38 (HE.out _) (by kernel_rfl) rfl rfl rfl rfl ?_; (simp only [Act.put, gA, gB, gC, gD, gE, gF]); refine WpL.out ?_) | fail)
        refine wl_take (v := .bool false) (by kernel_rfl) (by (go_simp; done)) ?_
        simp only [Act.put, gA, gB, gC, gD, gE, gF]
        refine wlT (.pointer (some ⟨w.heap.size, 0, none⟩)) ?_
        simp only [Act.put, gA, gB, gC, gD, gE, gF]
        refine wlT (.int .i64 x0) ?_
        simp only [Act.put, gA, gB, gC, gD, gE, gF]
        refine wl_step (by kernel_rfl) fun K hK => ?_
        go_simp
        refine (H0.out _).mono ?_
        rintro e w2 ⟨rfl, rfl⟩
        refine hK _ _ ?_
        clear hK K
        try (simp only [Act.put, gA, gB, gC, gD, gE, gF])
        refine wlT (.bool true) ?_
        simp only [Act.put, gA, gB, gC, gD, gE, gF]
        refine wlT (.pointer (some ⟨w.heap.size, 1, none⟩)) ?_
        simp only [Act.put, gA, gB, gC, gD, gE, gF]
        refine wlT (.int .i64 x1) ?_
        simp only [Act.put, gA, gB, gC, gD, gE, gF]
        refine wlT (.int .i64 (n : Int)) ?_
        simp only [Act.put, gA, gB, gC, gD, gE, gF]
        refine wl_take (v := .int .i64 ((n : Int) - 1)) (by kernel_rfl) (by (go_simp; exact wrap_id (by omega) (by omega))) ?_
        simp only [Act.put, gA, gB, gC, gD, gE, gF]
        refine wl_step (by kernel_rfl) fun K hK => ?_
        go_simp
        refine (H1.out _).mono ?_
        rintro e w2 ⟨rfl, rfl⟩
        refine hK _ _ ?_
        clear hK K
        try (simp only [Act.put, gA, gB, gC, gD, gE, gF])
        refine wlT (.bool false) ?_
        simp only [Act.put, gA, gB, gC, gD, gE, gF]
        refine wlT (.bool false) ?_
        simp only [Act.put, gA, gB, gC, gD, gE, gF]
        refine wlS ?_
        simp only [Act.put, gA, gB, gC, gD, gE, gF]
        refine wlS ?_
        simp only [Act.put, gA, gB, gC, gD, gE, gF]
        refine wlS ?_
        simp only [Act.put, gA, gB, gC, gD, gE, gF]
        refine wlT (.bool false) ?_
        simp only [Act.put, gA, gB, gC, gD, gE, gF]
        refine wlT (.bool false) ?_
        simp only [Act.put, gA, gB, gC, gD, gE, gF]
        refine wlS ?_
        simp only [Act.put, gA, gB, gC, gD, gE, gF]
        refine wlS ?_
        simp only [Act.put, gA, gB, gC, gD, gE, gF]
        refine wlS ?_
        simp only [Act.put, gA, gB, gC, gD, gE, gF]
        refine wlT (.bool false) ?_
        simp only [Act.put, gA, gB, gC, gD, gE, gF]
        refine ⟨?_⟩
        go_wp2
        go_ret
        exact ⟨by rfl, HB1.out⟩
      | true =>
        cases g2 with
        | false =>
          go_enter Try.func57, Try.ntmps57
          go_wp2_with (first | (refine eql_step 38 (.tmp 5) (.tmp 6) 38 (HE.out _) (by kernel_rfl) rfl rfl rfl rfl ?_; (simp only [Act.put, gA, gB, gC, gD, gE, gF]); refine WpL.out ?_) | fail)
          refine wl_take (v := .bool false) (by kernel_rfl) (by (go_simp; done)) ?_
          simp only [Act.put, gA, gB, gC, gD, gE, gF]
          refine wlT (.pointer (some ⟨w.heap.size, 0, none⟩)) ?_
          simp only [Act.put, gA, gB, gC, gD, gE, gF]
          refine wlT (.int .i64 x0) ?_
          simp only [Act.put, gA, gB, gC, gD, gE, gF]
          refine wl_step (by kernel_rfl) fun K hK => ?_
          go_simp
          refine (H0.out _).mono ?_
          rintro e w2 ⟨rfl, rfl⟩
          refine hK _ _ ?_
          clear hK K
          try (simp only [Act.put, gA, gB, gC, gD, gE, gF])
          refine wlT (.bool true) ?_
          simp only [Act.put, gA, gB, gC, gD, gE, gF]
          refine wlT (.pointer (some ⟨w.heap.size, 1, none⟩)) ?_
          simp only [Act.put, gA, gB, gC, gD, gE, gF]
          refine wlT (.int .i64 x1) ?_
          simp only [Act.put, gA, gB, gC, gD, gE, gF]
          refine wlT (.int .i64 (n : Int)) ?_
          simp only [Act.put, gA, gB, gC, gD, gE, gF]
          refine wl_take (v := .int .i64 ((n : Int) - 1)) (by kernel_rfl) (by (go_simp; exact wrap_id (by omega) (by omega))) ?_
          simp only [Act.put, gA, gB, gC, gD, gE, gF]
          refine wl_step (by kernel_rfl) fun K hK => ?_
          go_simp
          refine (H1.out _).mono ?_
          rintro e w2 ⟨rfl, rfl⟩
          refine hK _ _ ?_
          clear hK K
          try (simp only [Act.put, gA, gB, gC, gD, gE, gF])
          refine wlT (.bool true) ?_
          simp only [Act.put, gA, gB, gC, gD, gE, gF]
          refine wlT (.bool true) ?_
          simp only [Act.put, gA, gB, gC, gD, gE, gF]
          refine wlT (.pointer (some ⟨w.heap.size, 2, none⟩)) ?_
          simp only [Act.put, gA, gB, gC, gD, gE, gF]
          refine wlT (.int .i64 x2) ?_
          simp only [Act.put, gA, gB, gC, gD, gE, gF]
          refine wl_step (by kernel_rfl) fun K hK => ?_
          go_simp
          refine (H2.out _).mono ?_
          rintro e w2 ⟨rfl, rfl⟩
          refine hK _ _ ?_
          clear hK K
          try (simp only [Act.put, gA, gB, gC, gD, gE, gF])
          refine wlT (.bool false) ?_
          simp only [Act.put, gA, gB, gC, gD, gE, gF]
          refine wlT (.bool false) ?_
          simp only [Act.put, gA, gB, gC, gD, gE, gF]
          refine wlS ?_
          simp only [Act.put, gA, gB, gC, gD, gE, gF]
          refine wlS ?_
          simp only [Act.put, gA, gB, gC, gD, gE, gF]
          refine wlS ?_
          simp only [Act.put, gA, gB, gC, gD, gE, gF]
          refine wlT (.bool false) ?_
          simp only [Act.put, gA, gB, gC, gD, gE, gF]
          refine ⟨?_⟩
          go_wp2
          go_ret
          exact ⟨by rfl, HB1.out⟩
        | true =>
          cases g3 with
          | false =>
            go_enter Try.func57, Try.ntmps57
            go_wp2_with (first | (refine eql_step 38 (.tmp 5) (.tmp 6) 38 (HE.out _) (by kernel_rfl) rfl rfl rfl rfl ?_; (simp only [Act.put, gA, gB, gC, gD, gE, gF]); refine WpL.out ?_) | fail)
            refine wl_take (v := .bool false) (by kernel_rfl) (by (go_simp; done)) ?_
            simp only [Act.put, gA, gB, gC, gD, gE, gF]
            refine wlT (.pointer (some ⟨w.heap.size, 0, none⟩)) ?_
            simp only [Act.put, gA, gB, gC, gD, gE, gF]
            refine wlT (.int .i64 x0) ?_
            simp only [Act.put, gA, gB, gC, gD, gE, gF]
            refine wl_step (by kernel_rfl) fun K hK => ?_
            go_simp
            refine (H0.out _).mono ?_
            rintro e w2 ⟨rfl, rfl⟩
            refine hK _ _ ?_
            clear hK K
            try (simp only [Act.put, gA, gB, gC, gD, gE, gF])
            refine wlT (.bool true) ?_
            simp only [Act.put, gA, gB, gC, gD, gE, gF]
            refine wlT (.pointer (some ⟨w.heap.size, 1, none⟩)) ?_
            simp only [Act.put, gA, gB, gC, gD, gE, gF]
            refine wlT (.int .i64 x1) ?_
            simp only [Act.put, gA, gB, gC, gD, gE, gF]
            refine wlT (.int .i64 (n : Int)) ?_
            simp only [Act.put, gA, gB, gC, gD, gE, gF]
            refine wl_take (v := .int .i64 ((n : Int) - 1)) (by kernel_rfl) (by (go_simp; exact wrap_id (by omega) (by omega))) ?_
            simp only [Act.put, gA, gB, gC, gD, gE, gF]
            refine wl_step (by kernel_rfl) fun K hK => ?_
            go_simp
            refine (H1.out _).mono ?_
            rintro e w2 ⟨rfl, rfl⟩
            refine hK _ _ ?_
            clear hK K
            try (simp only [Act.put, gA, gB, gC, gD, gE, gF])
            refine wlT (.bool true) ?_
            simp only [Act.put, gA, gB, gC, gD, gE, gF]
            refine wlT (.bool true) ?_
            simp only [Act.put, gA, gB, gC, gD, gE, gF]
            refine wlT (.pointer (some ⟨w.heap.size, 2, none⟩)) ?_
            simp only [Act.put, gA, gB, gC, gD, gE, gF]
            refine wlT (.int .i64 x2) ?_
            simp only [Act.put, gA, gB, gC, gD, gE, gF]
            refine wl_step (by kernel_rfl) fun K hK => ?_
            go_simp
            refine (H2.out _).mono ?_
            rintro e w2 ⟨rfl, rfl⟩
            refine hK _ _ ?_
            clear hK K
            try (simp only [Act.put, gA, gB, gC, gD, gE, gF])
            refine wlT (.bool true) ?_
            simp only [Act.put, gA, gB, gC, gD, gE, gF]
            refine wlT (.bool true) ?_
            simp only [Act.put, gA, gB, gC, gD, gE, gF]
            refine wlT (.pointer (some ⟨w.heap.size, 3, none⟩)) ?_
            simp only [Act.put, gA, gB, gC, gD, gE, gF]
            refine wlT (.int .i64 x3) ?_
            simp only [Act.put, gA, gB, gC, gD, gE, gF]
            refine wl_step (by kernel_rfl) fun K hK => ?_
            go_simp
            refine (H3.out _).mono ?_
            rintro e w2 ⟨rfl, rfl⟩
            refine hK _ _ ?_
            clear hK K
            try (simp only [Act.put, gA, gB, gC, gD, gE, gF])
            refine wlT (.bool false) ?_
            simp only [Act.put, gA, gB, gC, gD, gE, gF]
            refine ⟨?_⟩
            go_wp2
            go_ret
            exact ⟨by rfl, HB1.out⟩
          | true =>
            go_enter Try.func57, Try.ntmps57
            go_wp2_with (first | (refine eql_step 38 (.tmp 5) (.tmp 6) 38 (HE.out _) (by kernel_rfl) rfl rfl rfl rfl ?_; (simp only [Act.put, gA, gB, gC, gD, gE, gF]); refine WpL.out ?_) | fail)
            refine wl_take (v := .bool false) (by kernel_rfl) (by (go_simp; done)) ?_
            simp only [Act.put, gA, gB, gC, gD, gE, gF]
            refine wlT (.pointer (some ⟨w.heap.size, 0, none⟩)) ?_
            simp only [Act.put, gA, gB, gC, gD, gE, gF]
            refine wlT (.int .i64 x0) ?_
            simp only [Act.put, gA, gB, gC, gD, gE, gF]
            refine wl_step (by kernel_rfl) fun K hK => ?_
            go_simp
            refine (H0.out _).mono ?_
            rintro e w2 ⟨rfl, rfl⟩
            refine hK _ _ ?_
            clear hK K
            try (simp only [Act.put, gA, gB, gC, gD, gE, gF])
            refine wlT (.bool true) ?_
            simp only [Act.put, gA, gB, gC, gD, gE, gF]
            refine wlT (.pointer (some ⟨w.heap.size, 1, none⟩)) ?_
            simp only [Act.put, gA, gB, gC, gD, gE, gF]
            refine wlT (.int .i64 x1) ?_
            simp only [Act.put, gA, gB, gC, gD, gE, gF]
            refine wlT (.int .i64 (n : Int)) ?_
            simp only [Act.put, gA, gB, gC, gD, gE, gF]
            refine wl_take (v := .int .i64 ((n : Int) - 1)) (by kernel_rfl) (by (go_simp; exact wrap_id (by omega) (by omega))) ?_
            simp only [Act.put, gA, gB, gC, gD, gE, gF]
            refine wl_step (by kernel_rfl) fun K hK => ?_
            go_simp
            refine (H1.out _).mono ?_
            rintro e w2 ⟨rfl, rfl⟩
            refine hK _ _ ?_
            clear hK K
            try (simp only [Act.put, gA, gB, gC, gD, gE, gF])
            refine wlT (.bool true) ?_
            simp only [Act.put, gA, gB, gC, gD, gE, gF]
            refine wlT (.bool true) ?_
            simp only [Act.put, gA, gB, gC, gD, gE, gF]
            refine wlT (.pointer (some ⟨w.heap.size, 2, none⟩)) ?_
            simp only [Act.put, gA, gB, gC, gD, gE, gF]
            refine wlT (.int .i64 x2) ?_
            simp only [Act.put, gA, gB, gC, gD, gE, gF]
            refine wl_step (by kernel_rfl) fun K hK => ?_
            go_simp
            refine (H2.out _).mono ?_
            rintro e w2 ⟨rfl, rfl⟩
            refine hK _ _ ?_
            clear hK K
            try (simp only [Act.put, gA, gB, gC, gD, gE, gF])
            refine wlT (.bool true) ?_
            simp only [Act.put, gA, gB, gC, gD, gE, gF]
            refine wlT (.bool true) ?_
            simp only [Act.put, gA, gB, gC, gD, gE, gF]
            refine wlT (.pointer (some ⟨w.heap.size, 3, none⟩)) ?_
            simp only [Act.put, gA, gB, gC, gD, gE, gF]
            refine wlT (.int .i64 x3) ?_
            simp only [Act.put, gA, gB, gC, gD, gE, gF]
            refine wl_step (by kernel_rfl) fun K hK => ?_
            go_simp
            refine (H3.out _).mono ?_
            rintro e w2 ⟨rfl, rfl⟩
            refine hK _ _ ?_
            clear hK K
            try (simp only [Act.put, gA, gB, gC, gD, gE, gF])
            refine wlT (.bool true) ?_
            simp only [Act.put, gA, gB, gC, gD, gE, gF]
            refine ⟨?_⟩
            go_wp2
            go_ret
            exact ⟨by rfl, HB1.out⟩
theorem prev_any (id : List Int) (hi : id.length = 4) (n : Nat) (hn : n ≤ 16) : Calls Try.prog 57 #[.agg (ints id).toArray, .int .i64 n] w fun e w' => e = .returned (.bool (prevOk id n)) ∧ Below w.heap.size w w' := by
  have HE : Hid (∀ W, (Op.equalIn 10000 38 (.agg (ints id).toArray) (.agg (ints [0, 0, 0, 0]).toArray)).run Try.prog W = .ok (decide (id = [0, 0, 0, 0])) W) := fun W => eq_id_ id [0, 0, 0, 0] hi rfl
  unfold prevOk
  match id, hi with
  | [x0, x1, x2, x3], _ => exact prev4 x0 x1 x2 x3 n hn _ _ _ _ _ HE rfl rfl rfl rfl
end
end Go.Proofs.Ytbdefhagpgpoiac.Mb
