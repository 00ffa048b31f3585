import Derived.Test.YtdegjhkjmgimpaaV28
import Derived.Test.YtdegjhkjmgimpaaV14
import Derived.Test.YtdegjhkjmgimpaaV27
namespace Go.Proofs.Ytdegjhkjmgimpaa.Mb
open Go.RowKit
set_option linter.unusedVariables false
set_option maxRecDepth 100000
set_option linter.unusedSimpArgs false
section
variable {A A' : Ag} {w w' W : World} {B : Nat} {T : Int}
set_option maxHeartbeats 8000000 in
theorem begun_no (n s inc fl : Int) (oa : Option Addr) (on oc : Nat) (hn : -9223372036854775808 ≤ n ∧ n ≤ 9223372036854775807) (hno : newOk n s inc fl = false) : Calls Try.prog 4 #[.agg #[.int .i64 n, .int .i64 s, .int .i64 inc, .int .i64 fl, .slice oa on oc]] w fun e w' => e = .returned (.tuple #[.pointer none, .bool true]) ∧ Below w.heap.size w w' := by
  generalize hW1 : w.alloc (.cells #[.int .i64 n, .int .i64 s, .int .i64 inc, .int .i64 fl, .slice oa on oc] 24) = W1
  have b1 : Below w.heap.size w W1 := hW1 ▸ balloc (Below.refl _ _)
  have k1 : W1.heap[w.heap.size]? = some (.cells #[.int .i64 n, .int .i64 s, .int .i64 inc, .int .i64 fl, .slice oa on oc] 24 (0, 0)) := by rw [← hW1]; exact heap_alloc_new w _
  have c0 : W1.cell? ⟨w.heap.size, 0, none⟩ = some (.int .i64 n) := blk_cell k1 0
  have c1 : W1.cell? ⟨w.heap.size, 1, none⟩ = some (.int .i64 s) := blk_cell k1 1
  have c2 : W1.cell? ⟨w.heap.size, 2, none⟩ = some (.int .i64 inc) := blk_cell k1 2
  have c3 : W1.cell? ⟨w.heap.size, 3, none⟩ = some (.int .i64 fl) := blk_cell k1 3
  have HB : Hid (Below w.heap.size w W1) := b1
  have HN : Hid (Calls Try.prog 15 #[.int .i64 n, .int .i64 s, .int .i64 inc, .int .i64 fl] W1 fun e w' => e = .returned (.tuple #[.pointer none, .int .i64 1]) ∧ W1 = w') := new_no n s inc fl hn hno
  have hcase : n < 1 ∨ (1 ≤ n ∧ 16 < n) ∨ ((1 ≤ n ∧ n ≤ 16) ∧ s < 0) ∨ ((1 ≤ n ∧ n ≤ 16) ∧ 0 ≤ s ∧ n ≤ s) ∨ ((1 ≤ n ∧ n ≤ 16) ∧ (0 ≤ s ∧ s < n) ∧ inc < 1) ∨ ((1 ≤ n ∧ n ≤ 16) ∧ (0 ≤ s ∧ s < n) ∧ 1 ≤ inc ∧ 4611686018427387904 < inc) ∨ ((1 ≤ n ∧ n ≤ 16) ∧ (0 ≤ s ∧ s < n) ∧ (1 ≤ inc ∧ inc ≤ 4611686018427387904) ∧ fl < 0) ∨ ((1 ≤ n ∧ n ≤ 16) ∧ (0 ≤ s ∧ s < n) ∧ (1 ≤ inc ∧ inc ≤ 4611686018427387904) ∧ 0 ≤ fl ∧ 4611686018427387904 < fl) := by
    apply Classical.byContradiction
    intro hh
    have : newOk n s inc fl = true := by
      unfold newOk wB
      rw [decide_eq_true (by omega), decide_eq_true (by omega), decide_eq_true (by omega), decide_eq_true (by omega)]
      rfl
    rw [this] at hno
    cases hno
  clear b1 k1 hno
  rcases hcase with hc | hc | hc | hc | hc | hc | hc | hc
  · skip
    go_enter Try.func4, Try.ntmps4
    go_wp2_with (first | (refine wl_at 20 rfl ?_) | (go_at_call 15; refine HN.out.mono ?_; rintro e w2 ⟨rfl, rfl⟩) | fail)
    refine wl_take (v := .bool true) (by kernel_rfl) (by (go_simp <;> first | omega | simp_all | (simp; omega))) ?_
    simp only [Act.put, gA9, gZ9, gC9, sA9, sZ9, sC9]
    refine wl_take (v := .bool true) (by kernel_rfl) (by go_simp) ?_
    simp only [Act.put, gA9, gZ9, gC9, sA9, sZ9, sC9]
    refine wl_skip (by kernel_rfl) ?_
    simp only [Act.put, gA9, gZ9, gC9, sA9, sZ9, sC9]
    refine wl_skip (by kernel_rfl) ?_
    simp only [Act.put, gA9, gZ9, gC9, sA9, sZ9, sC9]
    refine wl_skip (by kernel_rfl) ?_
    simp only [Act.put, gA9, gZ9, gC9, sA9, sZ9, sC9]
    refine wl_take (v := .bool true) (by kernel_rfl) (by go_simp) ?_
    simp only [Act.put, gA9, gZ9, gC9, sA9, sZ9, sC9]
    refine wl_take (v := .bool true) (by kernel_rfl) (by go_simp) ?_
    simp only [Act.put, gA9, gZ9, gC9, sA9, sZ9, sC9]
    refine wl_skip (by kernel_rfl) ?_
    simp only [Act.put, gA9, gZ9, gC9, sA9, sZ9, sC9]
    refine wl_skip (by kernel_rfl) ?_
    simp only [Act.put, gA9, gZ9, gC9, sA9, sZ9, sC9]
    refine wl_skip (by kernel_rfl) ?_
    simp only [Act.put, gA9, gZ9, gC9, sA9, sZ9, sC9]
    refine wl_take (v := .bool true) (by kernel_rfl) (by go_simp) ?_
    simp only [Act.put, gA9, gZ9, gC9, sA9, sZ9, sC9]
    refine wl_take (v := .bool true) (by kernel_rfl) (by go_simp) ?_
    simp only [Act.put, gA9, gZ9, gC9, sA9, sZ9, sC9]
    refine wl_skip (by kernel_rfl) ?_
    simp only [Act.put, gA9, gZ9, gC9, sA9, sZ9, sC9]
    refine wl_skip (by kernel_rfl) ?_
    simp only [Act.put, gA9, gZ9, gC9, sA9, sZ9, sC9]
    refine wl_skip (by kernel_rfl) ?_
    simp only [Act.put, gA9, gZ9, gC9, sA9, sZ9, sC9]
    refine wl_skip (by kernel_rfl) ?_
    simp only [Act.put, gA9, gZ9, gC9, sA9, sZ9, sC9]
    refine wl_skip (by kernel_rfl) ?_
    simp only [Act.put, gA9, gZ9, gC9, sA9, sZ9, sC9]
    refine wl_take (v := .bool true) (by kernel_rfl) (by go_simp) ?_
    simp only [Act.put, gA9, gZ9, gC9, sA9, sZ9, sC9]
    refine wl_take (v := .bool true) (by kernel_rfl) (by go_simp) ?_
    simp only [Act.put, gA9, gZ9, gC9, sA9, sZ9, sC9]
    refine wl_skip (by kernel_rfl) ?_
    simp only [Act.put, gA9, gZ9, gC9, sA9, sZ9, sC9]
    refine wl_skip (by kernel_rfl) ?_
    simp only [Act.put, gA9, gZ9, gC9, sA9, sZ9, sC9]
    refine wl_skip (by kernel_rfl) ?_
    simp only [Act.put, gA9, gZ9, gC9, sA9, sZ9, sC9]
    refine wl_take (v := .bool true) (by kernel_rfl) (by go_simp) ?_
    simp only [Act.put, gA9, gZ9, gC9, sA9, sZ9, sC9]
    refine wl_take (v := .bool true) (by kernel_rfl) (by go_simp) ?_
    simp only [Act.put, gA9, gZ9, gC9, sA9, sZ9, sC9]
    refine wl_skip (by kernel_rfl) ?_
    simp only [Act.put, gA9, gZ9, gC9, sA9, sZ9, sC9]
    refine wl_skip (by kernel_rfl) ?_
    simp only [Act.put, gA9, gZ9, gC9, sA9, sZ9, sC9]
    refine wl_skip (by kernel_rfl) ?_
    simp only [Act.put, gA9, gZ9, gC9, sA9, sZ9, sC9]
    refine wl_take (v := .bool true) (by kernel_rfl) (by go_simp) ?_
    simp only [Act.put, gA9, gZ9, gC9, sA9, sZ9, sC9]
    refine wl_take (v := .bool true) (by kernel_rfl) (by go_simp) ?_
    simp only [Act.put, gA9, gZ9, gC9, sA9, sZ9, sC9]
    refine wl_skip (by kernel_rfl) ?_
    simp only [Act.put, gA9, gZ9, gC9, sA9, sZ9, sC9]
    refine wl_skip (by kernel_rfl) ?_
    simp only [Act.put, gA9, gZ9, gC9, sA9, sZ9, sC9]
    refine wl_skip (by kernel_rfl) ?_
    simp only [Act.put, gA9, gZ9, gC9, sA9, sZ9, sC9]
    refine wl_take (v := .bool true) (by kernel_rfl) (by go_simp) ?_
    simp only [Act.put, gA9, gZ9, gC9, sA9, sZ9, sC9]
    refine wl_take (v := .bool true) (by kernel_rfl) (by go_simp) ?_
    simp only [Act.put, gA9, gZ9, gC9, sA9, sZ9, sC9]
    refine wl_skip (by kernel_rfl) ?_
    simp only [Act.put, gA9, gZ9, gC9, sA9, sZ9, sC9]
    refine wl_skip (by kernel_rfl) ?_
    simp only [Act.put, gA9, gZ9, gC9, sA9, sZ9, sC9]
    refine wl_skip (by kernel_rfl) ?_
    simp only [Act.put, gA9, gZ9, gC9, sA9, sZ9, sC9]
    refine wl_take (v := .bool true) (by kernel_rfl) (by go_simp) ?_
    simp only [Act.put, gA9, gZ9, gC9, sA9, sZ9, sC9]
    refine ⟨?_⟩
    go_wp2
    (try simp only [Exit.inBlock, Exit.then]); refine bodyPost_ret (results_tmp2 rfl _ _ _) rfl ?_
    exact ⟨rfl, HB.out⟩
  · skip
    go_enter Try.func4, Try.ntmps4
    go_wp2_with (first | (refine wl_at 20 rfl ?_) | (go_at_call 15; refine HN.out.mono ?_; rintro e w2 ⟨rfl, rfl⟩) | fail)
    refine wl_take (v := .bool false) (by kernel_rfl) (by (go_simp <;> first | omega | simp_all | (simp; omega))) ?_
    simp only [Act.put, gA9, gZ9, gC9, sA9, sZ9, sC9]
    refine wl_take (v := .bool false) (by kernel_rfl) (by go_simp) ?_
    simp only [Act.put, gA9, gZ9, gC9, sA9, sZ9, sC9]
    refine wl_take (v := .pointer (some ⟨w.heap.size, 0, none⟩)) (by kernel_rfl) (by go_simp) ?_
    simp only [Act.put, gA9, gZ9, gC9, sA9, sZ9, sC9]
    refine wl_take (v := .int .i64 n) (by kernel_rfl) (by go_simp) ?_
    simp only [Act.put, gA9, gZ9, gC9, sA9, sZ9, sC9]
    refine wl_take (v := .bool true) (by kernel_rfl) (by (go_simp <;> first | omega | simp_all | (simp; omega))) ?_
    simp only [Act.put, gA9, gZ9, gC9, sA9, sZ9, sC9]
    refine wl_take (v := .bool true) (by kernel_rfl) (by go_simp) ?_
    simp only [Act.put, gA9, gZ9, gC9, sA9, sZ9, sC9]
    refine wl_take (v := .bool true) (by kernel_rfl) (by go_simp) ?_
    simp only [Act.put, gA9, gZ9, gC9, sA9, sZ9, sC9]
    refine wl_skip (by kernel_rfl) ?_
    simp only [Act.put, gA9, gZ9, gC9, sA9, sZ9, sC9]
    refine wl_skip (by kernel_rfl) ?_
    simp only [Act.put, gA9, gZ9, gC9, sA9, sZ9, sC9]
    refine wl_skip (by kernel_rfl) ?_
    simp only [Act.put, gA9, gZ9, gC9, sA9, sZ9, sC9]
    refine wl_take (v := .bool true) (by kernel_rfl) (by go_simp) ?_
    simp only [Act.put, gA9, gZ9, gC9, sA9, sZ9, sC9]
    refine wl_take (v := .bool true) (by kernel_rfl) (by go_simp) ?_
    simp only [Act.put, gA9, gZ9, gC9, sA9, sZ9, sC9]
    refine wl_skip (by kernel_rfl) ?_
    simp only [Act.put, gA9, gZ9, gC9, sA9, sZ9, sC9]
    refine wl_skip (by kernel_rfl) ?_
    simp only [Act.put, gA9, gZ9, gC9, sA9, sZ9, sC9]
    refine wl_skip (by kernel_rfl) ?_
    simp only [Act.put, gA9, gZ9, gC9, sA9, sZ9, sC9]
    refine wl_skip (by kernel_rfl) ?_
    simp only [Act.put, gA9, gZ9, gC9, sA9, sZ9, sC9]
    refine wl_skip (by kernel_rfl) ?_
    simp only [Act.put, gA9, gZ9, gC9, sA9, sZ9, sC9]
    refine wl_take (v := .bool true) (by kernel_rfl) (by go_simp) ?_
    simp only [Act.put, gA9, gZ9, gC9, sA9, sZ9, sC9]
    refine wl_take (v := .bool true) (by kernel_rfl) (by go_simp) ?_
    simp only [Act.put, gA9, gZ9, gC9, sA9, sZ9, sC9]
    refine wl_skip (by kernel_rfl) ?_
    simp only [Act.put, gA9, gZ9, gC9, sA9, sZ9, sC9]
    refine wl_skip (by kernel_rfl) ?_
    simp only [Act.put, gA9, gZ9, gC9, sA9, sZ9, sC9]
    refine wl_skip (by kernel_rfl) ?_
    simp only [Act.put, gA9, gZ9, gC9, sA9, sZ9, sC9]
    refine wl_take (v := .bool true) (by kernel_rfl) (by go_simp) ?_
    simp only [Act.put, gA9, gZ9, gC9, sA9, sZ9, sC9]
    refine wl_take (v := .bool true) (by kernel_rfl) (by go_simp) ?_
    simp only [Act.put, gA9, gZ9, gC9, sA9, sZ9, sC9]
    refine wl_skip (by kernel_rfl) ?_
    simp only [Act.put, gA9, gZ9, gC9, sA9, sZ9, sC9]
    refine wl_skip (by kernel_rfl) ?_
    simp only [Act.put, gA9, gZ9, gC9, sA9, sZ9, sC9]
    refine wl_skip (by kernel_rfl) ?_
    simp only [Act.put, gA9, gZ9, gC9, sA9, sZ9, sC9]
    refine wl_take (v := .bool true) (by kernel_rfl) (by go_simp) ?_
    simp only [Act.put, gA9, gZ9, gC9, sA9, sZ9, sC9]
    refine wl_take (v := .bool true) (by kernel_rfl) (by go_simp) ?_
    simp only [Act.put, gA9, gZ9, gC9, sA9, sZ9, sC9]
    refine wl_skip (by kernel_rfl) ?_
    simp only [Act.put, gA9, gZ9, gC9, sA9, sZ9, sC9]
    refine wl_skip (by kernel_rfl) ?_
    simp only [Act.put, gA9, gZ9, gC9, sA9, sZ9, sC9]
    refine wl_skip (by kernel_rfl) ?_
    simp only [Act.put, gA9, gZ9, gC9, sA9, sZ9, sC9]
    refine wl_take (v := .bool true) (by kernel_rfl) (by go_simp) ?_
    simp only [Act.put, gA9, gZ9, gC9, sA9, sZ9, sC9]
    refine wl_take (v := .bool true) (by kernel_rfl) (by go_simp) ?_
    simp only [Act.put, gA9, gZ9, gC9, sA9, sZ9, sC9]
    refine wl_skip (by kernel_rfl) ?_
    simp only [Act.put, gA9, gZ9, gC9, sA9, sZ9, sC9]
    refine wl_skip (by kernel_rfl) ?_
    simp only [Act.put, gA9, gZ9, gC9, sA9, sZ9, sC9]
    refine wl_skip (by kernel_rfl) ?_
    simp only [Act.put, gA9, gZ9, gC9, sA9, sZ9, sC9]
    refine wl_take (v := .bool true) (by kernel_rfl) (by go_simp) ?_
    simp only [Act.put, gA9, gZ9, gC9, sA9, sZ9, sC9]
    refine ⟨?_⟩
    go_wp2
    (try simp only [Exit.inBlock, Exit.then]); refine bodyPost_ret (results_tmp2 rfl _ _ _) rfl ?_
    exact ⟨rfl, HB.out⟩
  · skip
    go_enter Try.func4, Try.ntmps4
    go_wp2_with (first | (refine wl_at 20 rfl ?_) | (go_at_call 15; refine HN.out.mono ?_; rintro e w2 ⟨rfl, rfl⟩) | fail)
    refine wl_take (v := .bool false) (by kernel_rfl) (by (go_simp <;> first | omega | simp_all | (simp; omega))) ?_
    simp only [Act.put, gA9, gZ9, gC9, sA9, sZ9, sC9]
    refine wl_take (v := .bool false) (by kernel_rfl) (by go_simp) ?_
    simp only [Act.put, gA9, gZ9, gC9, sA9, sZ9, sC9]
    refine wl_take (v := .pointer (some ⟨w.heap.size, 0, none⟩)) (by kernel_rfl) (by go_simp) ?_
    simp only [Act.put, gA9, gZ9, gC9, sA9, sZ9, sC9]
    refine wl_take (v := .int .i64 n) (by kernel_rfl) (by go_simp) ?_
    simp only [Act.put, gA9, gZ9, gC9, sA9, sZ9, sC9]
    refine wl_take (v := .bool false) (by kernel_rfl) (by (go_simp <;> first | omega | simp_all | (simp; omega))) ?_
    simp only [Act.put, gA9, gZ9, gC9, sA9, sZ9, sC9]
    refine wl_take (v := .bool false) (by kernel_rfl) (by go_simp) ?_
    simp only [Act.put, gA9, gZ9, gC9, sA9, sZ9, sC9]
    refine wl_take (v := .bool false) (by kernel_rfl) (by go_simp) ?_
    simp only [Act.put, gA9, gZ9, gC9, sA9, sZ9, sC9]
    refine wl_take (v := .pointer (some ⟨w.heap.size, 1, none⟩)) (by kernel_rfl) (by go_simp) ?_
    simp only [Act.put, gA9, gZ9, gC9, sA9, sZ9, sC9]
    refine wl_take (v := .int .i64 s) (by kernel_rfl) (by go_simp) ?_
    simp only [Act.put, gA9, gZ9, gC9, sA9, sZ9, sC9]
    refine wl_take (v := .bool true) (by kernel_rfl) (by (go_simp <;> first | omega | simp_all | (simp; omega))) ?_
    simp only [Act.put, gA9, gZ9, gC9, sA9, sZ9, sC9]
    refine wl_take (v := .bool true) (by kernel_rfl) (by go_simp) ?_
    simp only [Act.put, gA9, gZ9, gC9, sA9, sZ9, sC9]
    refine wl_take (v := .bool true) (by kernel_rfl) (by go_simp) ?_
    simp only [Act.put, gA9, gZ9, gC9, sA9, sZ9, sC9]
    refine wl_skip (by kernel_rfl) ?_
    simp only [Act.put, gA9, gZ9, gC9, sA9, sZ9, sC9]
    refine wl_skip (by kernel_rfl) ?_
    simp only [Act.put, gA9, gZ9, gC9, sA9, sZ9, sC9]
    refine wl_skip (by kernel_rfl) ?_
    simp only [Act.put, gA9, gZ9, gC9, sA9, sZ9, sC9]
    refine wl_skip (by kernel_rfl) ?_
    simp only [Act.put, gA9, gZ9, gC9, sA9, sZ9, sC9]
    refine wl_skip (by kernel_rfl) ?_
    simp only [Act.put, gA9, gZ9, gC9, sA9, sZ9, sC9]
    refine wl_take (v := .bool true) (by kernel_rfl) (by go_simp) ?_
    simp only [Act.put, gA9, gZ9, gC9, sA9, sZ9, sC9]
    refine wl_take (v := .bool true) (by kernel_rfl) (by go_simp) ?_
    simp only [Act.put, gA9, gZ9, gC9, sA9, sZ9, sC9]
    refine wl_skip (by kernel_rfl) ?_
    simp only [Act.put, gA9, gZ9, gC9, sA9, sZ9, sC9]
    refine wl_skip (by kernel_rfl) ?_
    simp only [Act.put, gA9, gZ9, gC9, sA9, sZ9, sC9]
    refine wl_skip (by kernel_rfl) ?_
    simp only [Act.put, gA9, gZ9, gC9, sA9, sZ9, sC9]
    refine wl_take (v := .bool true) (by kernel_rfl) (by go_simp) ?_
    simp only [Act.put, gA9, gZ9, gC9, sA9, sZ9, sC9]
    refine wl_take (v := .bool true) (by kernel_rfl) (by go_simp) ?_
    simp only [Act.put, gA9, gZ9, gC9, sA9, sZ9, sC9]
    refine wl_skip (by kernel_rfl) ?_
    simp only [Act.put, gA9, gZ9, gC9, sA9, sZ9, sC9]
    refine wl_skip (by kernel_rfl) ?_
    simp only [Act.put, gA9, gZ9, gC9, sA9, sZ9, sC9]
    refine wl_skip (by kernel_rfl) ?_
    simp only [Act.put, gA9, gZ9, gC9, sA9, sZ9, sC9]
    refine wl_take (v := .bool true) (by kernel_rfl) (by go_simp) ?_
    simp only [Act.put, gA9, gZ9, gC9, sA9, sZ9, sC9]
    refine wl_take (v := .bool true) (by kernel_rfl) (by go_simp) ?_
    simp only [Act.put, gA9, gZ9, gC9, sA9, sZ9, sC9]
    refine wl_skip (by kernel_rfl) ?_
    simp only [Act.put, gA9, gZ9, gC9, sA9, sZ9, sC9]
    refine wl_skip (by kernel_rfl) ?_
    simp only [Act.put, gA9, gZ9, gC9, sA9, sZ9, sC9]
    refine wl_skip (by kernel_rfl) ?_
    simp only [Act.put, gA9, gZ9, gC9, sA9, sZ9, sC9]
    refine wl_take (v := .bool true) (by kernel_rfl) (by go_simp) ?_
    simp only [Act.put, gA9, gZ9, gC9, sA9, sZ9, sC9]
    refine wl_take (v := .bool true) (by kernel_rfl) (by go_simp) ?_
    simp only [Act.put, gA9, gZ9, gC9, sA9, sZ9, sC9]
    refine wl_skip (by kernel_rfl) ?_
    simp only [Act.put, gA9, gZ9, gC9, sA9, sZ9, sC9]
    refine wl_skip (by kernel_rfl) ?_
    simp only [Act.put, gA9, gZ9, gC9, sA9, sZ9, sC9]
    refine wl_skip (by kernel_rfl) ?_
    simp only [Act.put, gA9, gZ9, gC9, sA9, sZ9, sC9]
    refine wl_take (v := .bool true) (by kernel_rfl) (by go_simp) ?_
    simp only [Act.put, gA9, gZ9, gC9, sA9, sZ9, sC9]
    refine ⟨?_⟩
    go_wp2
    (try simp only [Exit.inBlock, Exit.then]); refine bodyPost_ret (results_tmp2 rfl _ _ _) rfl ?_
    exact ⟨rfl, HB.out⟩
  · skip
    go_enter Try.func4, Try.ntmps4
    go_wp2_with (first | (refine wl_at 20 rfl ?_) | (go_at_call 15; refine HN.out.mono ?_; rintro e w2 ⟨rfl, rfl⟩) | fail)
    refine wl_take (v := .bool false) (by kernel_rfl) (by (go_simp <;> first | omega | simp_all | (simp; omega))) ?_
    simp only [Act.put, gA9, gZ9, gC9, sA9, sZ9, sC9]
    refine wl_take (v := .bool false) (by kernel_rfl) (by go_simp) ?_
    simp only [Act.put, gA9, gZ9, gC9, sA9, sZ9, sC9]
    refine wl_take (v := .pointer (some ⟨w.heap.size, 0, none⟩)) (by kernel_rfl) (by go_simp) ?_
    simp only [Act.put, gA9, gZ9, gC9, sA9, sZ9, sC9]
    refine wl_take (v := .int .i64 n) (by kernel_rfl) (by go_simp) ?_
    simp only [Act.put, gA9, gZ9, gC9, sA9, sZ9, sC9]
    refine wl_take (v := .bool false) (by kernel_rfl) (by (go_simp <;> first | omega | simp_all | (simp; omega))) ?_
    simp only [Act.put, gA9, gZ9, gC9, sA9, sZ9, sC9]
    refine wl_take (v := .bool false) (by kernel_rfl) (by go_simp) ?_
    simp only [Act.put, gA9, gZ9, gC9, sA9, sZ9, sC9]
    refine wl_take (v := .bool false) (by kernel_rfl) (by go_simp) ?_
    simp only [Act.put, gA9, gZ9, gC9, sA9, sZ9, sC9]
    refine wl_take (v := .pointer (some ⟨w.heap.size, 1, none⟩)) (by kernel_rfl) (by go_simp) ?_
    simp only [Act.put, gA9, gZ9, gC9, sA9, sZ9, sC9]
    refine wl_take (v := .int .i64 s) (by kernel_rfl) (by go_simp) ?_
    simp only [Act.put, gA9, gZ9, gC9, sA9, sZ9, sC9]
    refine wl_take (v := .bool false) (by kernel_rfl) (by (go_simp <;> first | omega | simp_all | (simp; omega))) ?_
    simp only [Act.put, gA9, gZ9, gC9, sA9, sZ9, sC9]
    refine wl_take (v := .bool false) (by kernel_rfl) (by go_simp) ?_
    simp only [Act.put, gA9, gZ9, gC9, sA9, sZ9, sC9]
    refine wl_take (v := .bool false) (by kernel_rfl) (by go_simp) ?_
    simp only [Act.put, gA9, gZ9, gC9, sA9, sZ9, sC9]
    refine wl_take (v := .pointer (some ⟨w.heap.size, 1, none⟩)) (by kernel_rfl) (by go_simp) ?_
    simp only [Act.put, gA9, gZ9, gC9, sA9, sZ9, sC9]
    refine wl_take (v := .int .i64 s) (by kernel_rfl) (by go_simp) ?_
    simp only [Act.put, gA9, gZ9, gC9, sA9, sZ9, sC9]
    refine wl_take (v := .pointer (some ⟨w.heap.size, 0, none⟩)) (by kernel_rfl) (by go_simp) ?_
    simp only [Act.put, gA9, gZ9, gC9, sA9, sZ9, sC9]
    refine wl_take (v := .int .i64 n) (by kernel_rfl) (by go_simp) ?_
    simp only [Act.put, gA9, gZ9, gC9, sA9, sZ9, sC9]
    refine wl_take (v := .bool true) (by kernel_rfl) (by (go_simp <;> first | omega | simp_all | (simp; omega))) ?_
    simp only [Act.put, gA9, gZ9, gC9, sA9, sZ9, sC9]
    refine wl_take (v := .bool true) (by kernel_rfl) (by go_simp) ?_
    simp only [Act.put, gA9, gZ9, gC9, sA9, sZ9, sC9]
    refine wl_take (v := .bool true) (by kernel_rfl) (by go_simp) ?_
    simp only [Act.put, gA9, gZ9, gC9, sA9, sZ9, sC9]
    refine wl_skip (by kernel_rfl) ?_
    simp only [Act.put, gA9, gZ9, gC9, sA9, sZ9, sC9]
    refine wl_skip (by kernel_rfl) ?_
    simp only [Act.put, gA9, gZ9, gC9, sA9, sZ9, sC9]
    refine wl_skip (by kernel_rfl) ?_
    simp only [Act.put, gA9, gZ9, gC9, sA9, sZ9, sC9]
    refine wl_take (v := .bool true) (by kernel_rfl) (by go_simp) ?_
    simp only [Act.put, gA9, gZ9, gC9, sA9, sZ9, sC9]
    refine wl_take (v := .bool true) (by kernel_rfl) (by go_simp) ?_
    simp only [Act.put, gA9, gZ9, gC9, sA9, sZ9, sC9]
    refine wl_skip (by kernel_rfl) ?_
    simp only [Act.put, gA9, gZ9, gC9, sA9, sZ9, sC9]
    refine wl_skip (by kernel_rfl) ?_
    simp only [Act.put, gA9, gZ9, gC9, sA9, sZ9, sC9]
    refine wl_skip (by kernel_rfl) ?_
    simp only [Act.put, gA9, gZ9, gC9, sA9, sZ9, sC9]
    refine wl_take (v := .bool true) (by kernel_rfl) (by go_simp) ?_
    simp only [Act.put, gA9, gZ9, gC9, sA9, sZ9, sC9]
    refine wl_take (v := .bool true) (by kernel_rfl) (by go_simp) ?_
    simp only [Act.put, gA9, gZ9, gC9, sA9, sZ9, sC9]
    refine wl_skip (by kernel_rfl) ?_
    simp only [Act.put, gA9, gZ9, gC9, sA9, sZ9, sC9]
    refine wl_skip (by kernel_rfl) ?_
    simp only [Act.put, gA9, gZ9, gC9, sA9, sZ9, sC9]
    refine wl_skip (by kernel_rfl) ?_
    simp only [Act.put, gA9, gZ9, gC9, sA9, sZ9, sC9]
    refine wl_take (v := .bool true) (by kernel_rfl) (by go_simp) ?_
    simp only [Act.put, gA9, gZ9, gC9, sA9, sZ9, sC9]
    refine wl_take (v := .bool true) (by kernel_rfl) (by go_simp) ?_
    simp only [Act.put, gA9, gZ9, gC9, sA9, sZ9, sC9]
    refine wl_skip (by kernel_rfl) ?_
    simp only [Act.put, gA9, gZ9, gC9, sA9, sZ9, sC9]
    refine wl_skip (by kernel_rfl) ?_
    simp only [Act.put, gA9, gZ9, gC9, sA9, sZ9, sC9]
    refine wl_skip (by kernel_rfl) ?_
    simp only [Act.put, gA9, gZ9, gC9, sA9, sZ9, sC9]
    refine wl_take (v := .bool true) (by kernel_rfl) (by go_simp) ?_
    simp only [Act.put, gA9, gZ9, gC9, sA9, sZ9, sC9]
    refine ⟨?_⟩
    go_wp2
    (try simp only [Exit.inBlock, Exit.then]); refine bodyPost_ret (results_tmp2 rfl _ _ _) rfl ?_
    exact ⟨rfl, HB.out⟩
  · skip
    go_enter Try.func4, Try.ntmps4
    go_wp2_with (first | (refine wl_at 20 rfl ?_) | (go_at_call 15; refine HN.out.mono ?_; rintro e w2 ⟨rfl, rfl⟩) | fail)
    refine wl_take (v := .bool false) (by kernel_rfl) (by (go_simp <;> first | omega | simp_all | (simp; omega))) ?_
    simp only [Act.put, gA9, gZ9, gC9, sA9, sZ9, sC9]
    refine wl_take (v := .bool false) (by kernel_rfl) (by go_simp) ?_
    simp only [Act.put, gA9, gZ9, gC9, sA9, sZ9, sC9]
    refine wl_take (v := .pointer (some ⟨w.heap.size, 0, none⟩)) (by kernel_rfl) (by go_simp) ?_
    simp only [Act.put, gA9, gZ9, gC9, sA9, sZ9, sC9]
    refine wl_take (v := .int .i64 n) (by kernel_rfl) (by go_simp) ?_
    simp only [Act.put, gA9, gZ9, gC9, sA9, sZ9, sC9]
    refine wl_take (v := .bool false) (by kernel_rfl) (by (go_simp <;> first | omega | simp_all | (simp; omega))) ?_
    simp only [Act.put, gA9, gZ9, gC9, sA9, sZ9, sC9]
    refine wl_take (v := .bool false) (by kernel_rfl) (by go_simp) ?_
    simp only [Act.put, gA9, gZ9, gC9, sA9, sZ9, sC9]
    refine wl_take (v := .bool false) (by kernel_rfl) (by go_simp) ?_
    simp only [Act.put, gA9, gZ9, gC9, sA9, sZ9, sC9]
    refine wl_take (v := .pointer (some ⟨w.heap.size, 1, none⟩)) (by kernel_rfl) (by go_simp) ?_
    simp only [Act.put, gA9, gZ9, gC9, sA9, sZ9, sC9]
    refine wl_take (v := .int .i64 s) (by kernel_rfl) (by go_simp) ?_
    simp only [Act.put, gA9, gZ9, gC9, sA9, sZ9, sC9]
    refine wl_take (v := .bool false) (by kernel_rfl) (by (go_simp <;> first | omega | simp_all | (simp; omega))) ?_
    simp only [Act.put, gA9, gZ9, gC9, sA9, sZ9, sC9]
    refine wl_take (v := .bool false) (by kernel_rfl) (by go_simp) ?_
    simp only [Act.put, gA9, gZ9, gC9, sA9, sZ9, sC9]
    refine wl_take (v := .bool false) (by kernel_rfl) (by go_simp) ?_
    simp only [Act.put, gA9, gZ9, gC9, sA9, sZ9, sC9]
    refine wl_take (v := .pointer (some ⟨w.heap.size, 1, none⟩)) (by kernel_rfl) (by go_simp) ?_
    simp only [Act.put, gA9, gZ9, gC9, sA9, sZ9, sC9]
    refine wl_take (v := .int .i64 s) (by kernel_rfl) (by go_simp) ?_
    simp only [Act.put, gA9, gZ9, gC9, sA9, sZ9, sC9]
    refine wl_take (v := .pointer (some ⟨w.heap.size, 0, none⟩)) (by kernel_rfl) (by go_simp) ?_
    simp only [Act.put, gA9, gZ9, gC9, sA9, sZ9, sC9]
    refine wl_take (v := .int .i64 n) (by kernel_rfl) (by go_simp) ?_
    simp only [Act.put, gA9, gZ9, gC9, sA9, sZ9, sC9]
    refine wl_take (v := .bool false) (by kernel_rfl) (by (go_simp <;> first | omega | simp_all | (simp; omega))) ?_
    simp only [Act.put, gA9, gZ9, gC9, sA9, sZ9, sC9]
    refine wl_take (v := .bool false) (by kernel_rfl) (by go_simp) ?_
    simp only [Act.put, gA9, gZ9, gC9, sA9, sZ9, sC9]
    refine wl_take (v := .bool false) (by kernel_rfl) (by go_simp) ?_
    simp only [Act.put, gA9, gZ9, gC9, sA9, sZ9, sC9]
    refine wl_take (v := .pointer (some ⟨w.heap.size, 2, none⟩)) (by kernel_rfl) (by go_simp) ?_
    simp only [Act.put, gA9, gZ9, gC9, sA9, sZ9, sC9]
    refine wl_take (v := .int .i64 inc) (by kernel_rfl) (by go_simp) ?_
    simp only [Act.put, gA9, gZ9, gC9, sA9, sZ9, sC9]
    refine wl_take (v := .bool true) (by kernel_rfl) (by (go_simp <;> first | omega | simp_all | (simp; omega))) ?_
    simp only [Act.put, gA9, gZ9, gC9, sA9, sZ9, sC9]
    refine wl_take (v := .bool true) (by kernel_rfl) (by go_simp) ?_
    simp only [Act.put, gA9, gZ9, gC9, sA9, sZ9, sC9]
    refine wl_take (v := .bool true) (by kernel_rfl) (by go_simp) ?_
    simp only [Act.put, gA9, gZ9, gC9, sA9, sZ9, sC9]
    refine wl_skip (by kernel_rfl) ?_
    simp only [Act.put, gA9, gZ9, gC9, sA9, sZ9, sC9]
    refine wl_skip (by kernel_rfl) ?_
    simp only [Act.put, gA9, gZ9, gC9, sA9, sZ9, sC9]
    refine wl_skip (by kernel_rfl) ?_
    simp only [Act.put, gA9, gZ9, gC9, sA9, sZ9, sC9]
    refine wl_take (v := .bool true) (by kernel_rfl) (by go_simp) ?_
    simp only [Act.put, gA9, gZ9, gC9, sA9, sZ9, sC9]
    refine wl_take (v := .bool true) (by kernel_rfl) (by go_simp) ?_
    simp only [Act.put, gA9, gZ9, gC9, sA9, sZ9, sC9]
    refine wl_skip (by kernel_rfl) ?_
    simp only [Act.put, gA9, gZ9, gC9, sA9, sZ9, sC9]
    refine wl_skip (by kernel_rfl) ?_
    simp only [Act.put, gA9, gZ9, gC9, sA9, sZ9, sC9]
    refine wl_skip (by kernel_rfl) ?_
    simp only [Act.put, gA9, gZ9, gC9, sA9, sZ9, sC9]
    refine wl_take (v := .bool true) (by kernel_rfl) (by go_simp) ?_
    simp only [Act.put, gA9, gZ9, gC9, sA9, sZ9, sC9]
    refine wl_take (v := .bool true) (by kernel_rfl) (by go_simp) ?_
    simp only [Act.put, gA9, gZ9, gC9, sA9, sZ9, sC9]
    refine wl_skip (by kernel_rfl) ?_
    simp only [Act.put, gA9, gZ9, gC9, sA9, sZ9, sC9]
    refine wl_skip (by kernel_rfl) ?_
    simp only [Act.put, gA9, gZ9, gC9, sA9, sZ9, sC9]
    refine wl_skip (by kernel_rfl) ?_
    simp only [Act.put, gA9, gZ9, gC9, sA9, sZ9, sC9]
    refine wl_take (v := .bool true) (by kernel_rfl) (by go_simp) ?_
    simp only [Act.put, gA9, gZ9, gC9, sA9, sZ9, sC9]
    refine ⟨?_⟩
    go_wp2
    (try simp only [Exit.inBlock, Exit.then]); refine bodyPost_ret (results_tmp2 rfl _ _ _) rfl ?_
    exact ⟨rfl, HB.out⟩
  · skip
    go_enter Try.func4, Try.ntmps4
    go_wp2_with (first | (refine wl_at 20 rfl ?_) | (go_at_call 15; refine HN.out.mono ?_; rintro e w2 ⟨rfl, rfl⟩) | fail)
    refine wl_take (v := .bool false) (by kernel_rfl) (by (go_simp <;> first | omega | simp_all | (simp; omega))) ?_
    simp only [Act.put, gA9, gZ9, gC9, sA9, sZ9, sC9]
    refine wl_take (v := .bool false) (by kernel_rfl) (by go_simp) ?_
    simp only [Act.put, gA9, gZ9, gC9, sA9, sZ9, sC9]
    refine wl_take (v := .pointer (some ⟨w.heap.size, 0, none⟩)) (by kernel_rfl) (by go_simp) ?_
    simp only [Act.put, gA9, gZ9, gC9, sA9, sZ9, sC9]
    refine wl_take (v := .int .i64 n) (by kernel_rfl) (by go_simp) ?_
    simp only [Act.put, gA9, gZ9, gC9, sA9, sZ9, sC9]
    refine wl_take (v := .bool false) (by kernel_rfl) (by (go_simp <;> first | omega | simp_all | (simp; omega))) ?_
    simp only [Act.put, gA9, gZ9, gC9, sA9, sZ9, sC9]
    refine wl_take (v := .bool false) (by kernel_rfl) (by go_simp) ?_
    simp only [Act.put, gA9, gZ9, gC9, sA9, sZ9, sC9]
    refine wl_take (v := .bool false) (by kernel_rfl) (by go_simp) ?_
    simp only [Act.put, gA9, gZ9, gC9, sA9, sZ9, sC9]
    refine wl_take (v := .pointer (some ⟨w.heap.size, 1, none⟩)) (by kernel_rfl) (by go_simp) ?_
    simp only [Act.put, gA9, gZ9, gC9, sA9, sZ9, sC9]
    refine wl_take (v := .int .i64 s) (by kernel_rfl) (by go_simp) ?_
    simp only [Act.put, gA9, gZ9, gC9, sA9, sZ9, sC9]
    refine wl_take (v := .bool false) (by kernel_rfl) (by (go_simp <;> first | omega | simp_all | (simp; omega))) ?_
    simp only [Act.put, gA9, gZ9, gC9, sA9, sZ9, sC9]
    refine wl_take (v := .bool false) (by kernel_rfl) (by go_simp) ?_
    simp only [Act.put, gA9, gZ9, gC9, sA9, sZ9, sC9]
    refine wl_take (v := .bool false) (by kernel_rfl) (by go_simp) ?_
    simp only [Act.put, gA9, gZ9, gC9, sA9, sZ9, sC9]
    refine wl_take (v := .pointer (some ⟨w.heap.size, 1, none⟩)) (by kernel_rfl) (by go_simp) ?_
    simp only [Act.put, gA9, gZ9, gC9, sA9, sZ9, sC9]
    refine wl_take (v := .int .i64 s) (by kernel_rfl) (by go_simp) ?_
    simp only [Act.put, gA9, gZ9, gC9, sA9, sZ9, sC9]
    refine wl_take (v := .pointer (some ⟨w.heap.size, 0, none⟩)) (by kernel_rfl) (by go_simp) ?_
    simp only [Act.put, gA9, gZ9, gC9, sA9, sZ9, sC9]
    refine wl_take (v := .int .i64 n) (by kernel_rfl) (by go_simp) ?_
    simp only [Act.put, gA9, gZ9, gC9, sA9, sZ9, sC9]
    refine wl_take (v := .bool false) (by kernel_rfl) (by (go_simp <;> first | omega | simp_all | (simp; omega))) ?_
    simp only [Act.put, gA9, gZ9, gC9, sA9, sZ9, sC9]
    refine wl_take (v := .bool false) (by kernel_rfl) (by go_simp) ?_
    simp only [Act.put, gA9, gZ9, gC9, sA9, sZ9, sC9]
    refine wl_take (v := .bool false) (by kernel_rfl) (by go_simp) ?_
    simp only [Act.put, gA9, gZ9, gC9, sA9, sZ9, sC9]
    refine wl_take (v := .pointer (some ⟨w.heap.size, 2, none⟩)) (by kernel_rfl) (by go_simp) ?_
    simp only [Act.put, gA9, gZ9, gC9, sA9, sZ9, sC9]
    refine wl_take (v := .int .i64 inc) (by kernel_rfl) (by go_simp) ?_
    simp only [Act.put, gA9, gZ9, gC9, sA9, sZ9, sC9]
    refine wl_take (v := .bool false) (by kernel_rfl) (by (go_simp <;> first | omega | simp_all | (simp; omega))) ?_
    simp only [Act.put, gA9, gZ9, gC9, sA9, sZ9, sC9]
    refine wl_take (v := .bool false) (by kernel_rfl) (by go_simp) ?_
    simp only [Act.put, gA9, gZ9, gC9, sA9, sZ9, sC9]
    refine wl_take (v := .bool false) (by kernel_rfl) (by go_simp) ?_
    simp only [Act.put, gA9, gZ9, gC9, sA9, sZ9, sC9]
    refine wl_take (v := .pointer (some ⟨w.heap.size, 2, none⟩)) (by kernel_rfl) (by go_simp) ?_
    simp only [Act.put, gA9, gZ9, gC9, sA9, sZ9, sC9]
    refine wl_take (v := .int .i64 inc) (by kernel_rfl) (by go_simp) ?_
    simp only [Act.put, gA9, gZ9, gC9, sA9, sZ9, sC9]
    refine wl_take (v := .bool true) (by kernel_rfl) (by (go_simp <;> first | omega | simp_all | (simp; omega))) ?_
    simp only [Act.put, gA9, gZ9, gC9, sA9, sZ9, sC9]
    refine wl_take (v := .bool true) (by kernel_rfl) (by go_simp) ?_
    simp only [Act.put, gA9, gZ9, gC9, sA9, sZ9, sC9]
    refine wl_take (v := .bool true) (by kernel_rfl) (by go_simp) ?_
    simp only [Act.put, gA9, gZ9, gC9, sA9, sZ9, sC9]
    refine wl_skip (by kernel_rfl) ?_
    simp only [Act.put, gA9, gZ9, gC9, sA9, sZ9, sC9]
    refine wl_skip (by kernel_rfl) ?_
    simp only [Act.put, gA9, gZ9, gC9, sA9, sZ9, sC9]
    refine wl_skip (by kernel_rfl) ?_
    simp only [Act.put, gA9, gZ9, gC9, sA9, sZ9, sC9]
    refine wl_take (v := .bool true) (by kernel_rfl) (by go_simp) ?_
    simp only [Act.put, gA9, gZ9, gC9, sA9, sZ9, sC9]
    refine wl_take (v := .bool true) (by kernel_rfl) (by go_simp) ?_
    simp only [Act.put, gA9, gZ9, gC9, sA9, sZ9, sC9]
    refine wl_skip (by kernel_rfl) ?_
    simp only [Act.put, gA9, gZ9, gC9, sA9, sZ9, sC9]
    refine wl_skip (by kernel_rfl) ?_
    simp only [Act.put, gA9, gZ9, gC9, sA9, sZ9, sC9]
    refine wl_skip (by kernel_rfl) ?_
    simp only [Act.put, gA9, gZ9, gC9, sA9, sZ9, sC9]
    refine wl_take (v := .bool true) (by kernel_rfl) (by go_simp) ?_
    simp only [Act.put, gA9, gZ9, gC9, sA9, sZ9, sC9]
    refine ⟨?_⟩
    go_wp2
    (try simp only [Exit.inBlock, Exit.then]); refine bodyPost_ret (results_tmp2 rfl _ _ _) rfl ?_
    exact ⟨rfl, HB.out⟩
  · skip
    go_enter Try.func4, Try.ntmps4
    go_wp2_with (first | (refine wl_at 20 rfl ?_) | (go_at_call 15; refine HN.out.mono ?_; rintro e w2 ⟨rfl, rfl⟩) | fail)
    refine wl_take (v := .bool false) (by kernel_rfl) (by (go_simp <;> first | omega | simp_all | (simp; omega))) ?_
    simp only [Act.put, gA9, gZ9, gC9, sA9, sZ9, sC9]
    refine wl_take (v := .bool false) (by kernel_rfl) (by go_simp) ?_
    simp only [Act.put, gA9, gZ9, gC9, sA9, sZ9, sC9]
    refine wl_take (v := .pointer (some ⟨w.heap.size, 0, none⟩)) (by kernel_rfl) (by go_simp) ?_
    simp only [Act.put, gA9, gZ9, gC9, sA9, sZ9, sC9]
    refine wl_take (v := .int .i64 n) (by kernel_rfl) (by go_simp) ?_
    simp only [Act.put, gA9, gZ9, gC9, sA9, sZ9, sC9]
    refine wl_take (v := .bool false) (by kernel_rfl) (by (go_simp <;> first | omega | simp_all | (simp; omega))) ?_
    simp only [Act.put, gA9, gZ9, gC9, sA9, sZ9, sC9]
    refine wl_take (v := .bool false) (by kernel_rfl) (by go_simp) ?_
    simp only [Act.put, gA9, gZ9, gC9, sA9, sZ9, sC9]
    refine wl_take (v := .bool false) (by kernel_rfl) (by go_simp) ?_
    simp only [Act.put, gA9, gZ9, gC9, sA9, sZ9, sC9]
    refine wl_take (v := .pointer (some ⟨w.heap.size, 1, none⟩)) (by kernel_rfl) (by go_simp) ?_
    simp only [Act.put, gA9, gZ9, gC9, sA9, sZ9, sC9]
    refine wl_take (v := .int .i64 s) (by kernel_rfl) (by go_simp) ?_
    simp only [Act.put, gA9, gZ9, gC9, sA9, sZ9, sC9]
    refine wl_take (v := .bool false) (by kernel_rfl) (by (go_simp <;> first | omega | simp_all | (simp; omega))) ?_
    simp only [Act.put, gA9, gZ9, gC9, sA9, sZ9, sC9]
    refine wl_take (v := .bool false) (by kernel_rfl) (by go_simp) ?_
    simp only [Act.put, gA9, gZ9, gC9, sA9, sZ9, sC9]
    refine wl_take (v := .bool false) (by kernel_rfl) (by go_simp) ?_
    simp only [Act.put, gA9, gZ9, gC9, sA9, sZ9, sC9]
    refine wl_take (v := .pointer (some ⟨w.heap.size, 1, none⟩)) (by kernel_rfl) (by go_simp) ?_
    simp only [Act.put, gA9, gZ9, gC9, sA9, sZ9, sC9]
    refine wl_take (v := .int .i64 s) (by kernel_rfl) (by go_simp) ?_
    simp only [Act.put, gA9, gZ9, gC9, sA9, sZ9, sC9]
    refine wl_take (v := .pointer (some ⟨w.heap.size, 0, none⟩)) (by kernel_rfl) (by go_simp) ?_
    simp only [Act.put, gA9, gZ9, gC9, sA9, sZ9, sC9]
    refine wl_take (v := .int .i64 n) (by kernel_rfl) (by go_simp) ?_
    simp only [Act.put, gA9, gZ9, gC9, sA9, sZ9, sC9]
    refine wl_take (v := .bool false) (by kernel_rfl) (by (go_simp <;> first | omega | simp_all | (simp; omega))) ?_
    simp only [Act.put, gA9, gZ9, gC9, sA9, sZ9, sC9]
    refine wl_take (v := .bool false) (by kernel_rfl) (by go_simp) ?_
    simp only [Act.put, gA9, gZ9, gC9, sA9, sZ9, sC9]
    refine wl_take (v := .bool false) (by kernel_rfl) (by go_simp) ?_
    simp only [Act.put, gA9, gZ9, gC9, sA9, sZ9, sC9]
    refine wl_take (v := .pointer (some ⟨w.heap.size, 2, none⟩)) (by kernel_rfl) (by go_simp) ?_
    simp only [Act.put, gA9, gZ9, gC9, sA9, sZ9, sC9]
    refine wl_take (v := .int .i64 inc) (by kernel_rfl) (by go_simp) ?_
    simp only [Act.put, gA9, gZ9, gC9, sA9, sZ9, sC9]
    refine wl_take (v := .bool false) (by kernel_rfl) (by (go_simp <;> first | omega | simp_all | (simp; omega))) ?_
    simp only [Act.put, gA9, gZ9, gC9, sA9, sZ9, sC9]
    refine wl_take (v := .bool false) (by kernel_rfl) (by go_simp) ?_
    simp only [Act.put, gA9, gZ9, gC9, sA9, sZ9, sC9]
    refine wl_take (v := .bool false) (by kernel_rfl) (by go_simp) ?_
    simp only [Act.put, gA9, gZ9, gC9, sA9, sZ9, sC9]
    refine wl_take (v := .pointer (some ⟨w.heap.size, 2, none⟩)) (by kernel_rfl) (by go_simp) ?_
    simp only [Act.put, gA9, gZ9, gC9, sA9, sZ9, sC9]
    refine wl_take (v := .int .i64 inc) (by kernel_rfl) (by go_simp) ?_
    simp only [Act.put, gA9, gZ9, gC9, sA9, sZ9, sC9]
    refine wl_take (v := .bool false) (by kernel_rfl) (by (go_simp <;> first | omega | simp_all | (simp; omega))) ?_
    simp only [Act.put, gA9, gZ9, gC9, sA9, sZ9, sC9]
    refine wl_take (v := .bool false) (by kernel_rfl) (by go_simp) ?_
    simp only [Act.put, gA9, gZ9, gC9, sA9, sZ9, sC9]
    refine wl_take (v := .bool false) (by kernel_rfl) (by go_simp) ?_
    simp only [Act.put, gA9, gZ9, gC9, sA9, sZ9, sC9]
    refine wl_take (v := .pointer (some ⟨w.heap.size, 3, none⟩)) (by kernel_rfl) (by go_simp) ?_
    simp only [Act.put, gA9, gZ9, gC9, sA9, sZ9, sC9]
    refine wl_take (v := .int .i64 fl) (by kernel_rfl) (by go_simp) ?_
    simp only [Act.put, gA9, gZ9, gC9, sA9, sZ9, sC9]
    refine wl_take (v := .bool true) (by kernel_rfl) (by (go_simp <;> first | omega | simp_all | (simp; omega))) ?_
    simp only [Act.put, gA9, gZ9, gC9, sA9, sZ9, sC9]
    refine wl_take (v := .bool true) (by kernel_rfl) (by go_simp) ?_
    simp only [Act.put, gA9, gZ9, gC9, sA9, sZ9, sC9]
    refine wl_take (v := .bool true) (by kernel_rfl) (by go_simp) ?_
    simp only [Act.put, gA9, gZ9, gC9, sA9, sZ9, sC9]
    refine wl_skip (by kernel_rfl) ?_
    simp only [Act.put, gA9, gZ9, gC9, sA9, sZ9, sC9]
    refine wl_skip (by kernel_rfl) ?_
    simp only [Act.put, gA9, gZ9, gC9, sA9, sZ9, sC9]
    refine wl_skip (by kernel_rfl) ?_
    simp only [Act.put, gA9, gZ9, gC9, sA9, sZ9, sC9]
    refine wl_take (v := .bool true) (by kernel_rfl) (by go_simp) ?_
    simp only [Act.put, gA9, gZ9, gC9, sA9, sZ9, sC9]
    refine ⟨?_⟩
    go_wp2
    (try simp only [Exit.inBlock, Exit.then]); refine bodyPost_ret (results_tmp2 rfl _ _ _) rfl ?_
    exact ⟨rfl, HB.out⟩
  · skip
    go_enter Try.func4, Try.ntmps4
    go_wp2_with (first | (refine wl_at 20 rfl ?_) | (go_at_call 15; refine HN.out.mono ?_; rintro e w2 ⟨rfl, rfl⟩) | fail)
    refine wl_take (v := .bool false) (by kernel_rfl) (by (go_simp <;> first | omega | simp_all | (simp; omega))) ?_
    simp only [Act.put, gA9, gZ9, gC9, sA9, sZ9, sC9]
    refine wl_take (v := .bool false) (by kernel_rfl) (by go_simp) ?_
    simp only [Act.put, gA9, gZ9, gC9, sA9, sZ9, sC9]
    refine wl_take (v := .pointer (some ⟨w.heap.size, 0, none⟩)) (by kernel_rfl) (by go_simp) ?_
    simp only [Act.put, gA9, gZ9, gC9, sA9, sZ9, sC9]
    refine wl_take (v := .int .i64 n) (by kernel_rfl) (by go_simp) ?_
    simp only [Act.put, gA9, gZ9, gC9, sA9, sZ9, sC9]
    refine wl_take (v := .bool false) (by kernel_rfl) (by (go_simp <;> first | omega | simp_all | (simp; omega))) ?_
    simp only [Act.put, gA9, gZ9, gC9, sA9, sZ9, sC9]
    refine wl_take (v := .bool false) (by kernel_rfl) (by go_simp) ?_
    simp only [Act.put, gA9, gZ9, gC9, sA9, sZ9, sC9]
    refine wl_take (v := .bool false) (by kernel_rfl) (by go_simp) ?_
    simp only [Act.put, gA9, gZ9, gC9, sA9, sZ9, sC9]
    refine wl_take (v := .pointer (some ⟨w.heap.size, 1, none⟩)) (by kernel_rfl) (by go_simp) ?_
    simp only [Act.put, gA9, gZ9, gC9, sA9, sZ9, sC9]
    refine wl_take (v := .int .i64 s) (by kernel_rfl) (by go_simp) ?_
    simp only [Act.put, gA9, gZ9, gC9, sA9, sZ9, sC9]
    refine wl_take (v := .bool false) (by kernel_rfl) (by (go_simp <;> first | omega | simp_all | (simp; omega))) ?_
    simp only [Act.put, gA9, gZ9, gC9, sA9, sZ9, sC9]
    refine wl_take (v := .bool false) (by kernel_rfl) (by go_simp) ?_
    simp only [Act.put, gA9, gZ9, gC9, sA9, sZ9, sC9]
    refine wl_take (v := .bool false) (by kernel_rfl) (by go_simp) ?_
    simp only [Act.put, gA9, gZ9, gC9, sA9, sZ9, sC9]
    refine wl_take (v := .pointer (some ⟨w.heap.size, 1, none⟩)) (by kernel_rfl) (by go_simp) ?_
    simp only [Act.put, gA9, gZ9, gC9, sA9, sZ9, sC9]
    refine wl_take (v := .int .i64 s) (by kernel_rfl) (by go_simp) ?_
    simp only [Act.put, gA9, gZ9, gC9, sA9, sZ9, sC9]
    refine wl_take (v := .pointer (some ⟨w.heap.size, 0, none⟩)) (by kernel_rfl) (by go_simp) ?_
    simp only [Act.put, gA9, gZ9, gC9, sA9, sZ9, sC9]
    refine wl_take (v := .int .i64 n) (by kernel_rfl) (by go_simp) ?_
    simp only [Act.put, gA9, gZ9, gC9, sA9, sZ9, sC9]
    refine wl_take (v := .bool false) (by kernel_rfl) (by (go_simp <;> first | omega | simp_all | (simp; omega))) ?_
    simp only [Act.put, gA9, gZ9, gC9, sA9, sZ9, sC9]
    refine wl_take (v := .bool false) (by kernel_rfl) (by go_simp) ?_
    simp only [Act.put, gA9, gZ9, gC9, sA9, sZ9, sC9]
    refine wl_take (v := .bool false) (by kernel_rfl) (by go_simp) ?_
    simp only [Act.put, gA9, gZ9, gC9, sA9, sZ9, sC9]
    refine wl_take (v := .pointer (some ⟨w.heap.size, 2, none⟩)) (by kernel_rfl) (by go_simp) ?_
    simp only [Act.put, gA9, gZ9, gC9, sA9, sZ9, sC9]
    refine wl_take (v := .int .i64 inc) (by kernel_rfl) (by go_simp) ?_
    simp only [Act.put, gA9, gZ9, gC9, sA9, sZ9, sC9]
    refine wl_take (v := .bool false) (by kernel_rfl) (by (go_simp <;> first | omega | simp_all | (simp; omega))) ?_
    simp only [Act.put, gA9, gZ9, gC9, sA9, sZ9, sC9]
    refine wl_take (v := .bool false) (by kernel_rfl) (by go_simp) ?_
    simp only [Act.put, gA9, gZ9, gC9, sA9, sZ9, sC9]
    refine wl_take (v := .bool false) (by kernel_rfl) (by go_simp) ?_
    simp only [Act.put, gA9, gZ9, gC9, sA9, sZ9, sC9]
    refine wl_take (v := .pointer (some ⟨w.heap.size, 2, none⟩)) (by kernel_rfl) (by go_simp) ?_
    simp only [Act.put, gA9, gZ9, gC9, sA9, sZ9, sC9]
    refine wl_take (v := .int .i64 inc) (by kernel_rfl) (by go_simp) ?_
    simp only [Act.put, gA9, gZ9, gC9, sA9, sZ9, sC9]
    refine wl_take (v := .bool false) (by kernel_rfl) (by (go_simp <;> first | omega | simp_all | (simp; omega))) ?_
    simp only [Act.put, gA9, gZ9, gC9, sA9, sZ9, sC9]
    refine wl_take (v := .bool false) (by kernel_rfl) (by go_simp) ?_
    simp only [Act.put, gA9, gZ9, gC9, sA9, sZ9, sC9]
    refine wl_take (v := .bool false) (by kernel_rfl) (by go_simp) ?_
    simp only [Act.put, gA9, gZ9, gC9, sA9, sZ9, sC9]
    refine wl_take (v := .pointer (some ⟨w.heap.size, 3, none⟩)) (by kernel_rfl) (by go_simp) ?_
    simp only [Act.put, gA9, gZ9, gC9, sA9, sZ9, sC9]
    refine wl_take (v := .int .i64 fl) (by kernel_rfl) (by go_simp) ?_
    simp only [Act.put, gA9, gZ9, gC9, sA9, sZ9, sC9]
    refine wl_take (v := .bool false) (by kernel_rfl) (by (go_simp <;> first | omega | simp_all | (simp; omega))) ?_
    simp only [Act.put, gA9, gZ9, gC9, sA9, sZ9, sC9]
    refine wl_take (v := .bool false) (by kernel_rfl) (by go_simp) ?_
    simp only [Act.put, gA9, gZ9, gC9, sA9, sZ9, sC9]
    refine wl_take (v := .bool false) (by kernel_rfl) (by go_simp) ?_
    simp only [Act.put, gA9, gZ9, gC9, sA9, sZ9, sC9]
    refine wl_take (v := .pointer (some ⟨w.heap.size, 3, none⟩)) (by kernel_rfl) (by go_simp) ?_
    simp only [Act.put, gA9, gZ9, gC9, sA9, sZ9, sC9]
    refine wl_take (v := .int .i64 fl) (by kernel_rfl) (by go_simp) ?_
    simp only [Act.put, gA9, gZ9, gC9, sA9, sZ9, sC9]
    refine wl_take (v := .bool true) (by kernel_rfl) (by (go_simp <;> first | omega | simp_all | (simp; omega))) ?_
    simp only [Act.put, gA9, gZ9, gC9, sA9, sZ9, sC9]
    refine wl_take (v := .bool true) (by kernel_rfl) (by go_simp) ?_
    simp only [Act.put, gA9, gZ9, gC9, sA9, sZ9, sC9]
    refine ⟨?_⟩
    go_wp2
    (try simp only [Exit.inBlock, Exit.then]); refine bodyPost_ret (results_tmp2 rfl _ _ _) rfl ?_
    exact ⟨rfl, HB.out⟩
end
end Go.Proofs.Ytdegjhkjmgimpaa.Mb
