import Derived.Test.YtbdefhagpgpoiacQ00
import Derived.Test.YtbdefhagpgpoiacQ17
namespace Go.Proofs.Ytbdefhagpgpoiac.Mb
open Go.RowKit
set_option linter.unusedVariables false
set_option maxRecDepth 100000
set_option linter.unusedSimpArgs false
section
variable {A A' : Ag} {w w' W : World} {B : Nat} {T : Int}
def whB (x0 x1 x2 x3 : Int) (n : Nat) : Bool := wB x0 1 4611686018427387904 && wB x1 0 ((n : Int) - 1) && wB x2 1 4611686018427387904 && wB x3 1 4611686018427387904
set_option maxHeartbeats 8000000 in
theorem qwhole_any (x0 x1 x2 x3 : Int) (n : Nat) : Calls Try.prog 59 #[.agg #[.int .i64 x0, .int .i64 x1, .int .i64 x2, .int .i64 x3], .int .i64 n] w fun e w' => e = .returned (.bool (whB x0 x1 x2 x3 n)) ∧ Below w.heap.size w w' := by
  generalize hW1 : w.alloc (.cells #[.int .i64 x0, .int .i64 x1, .int .i64 x2, .int .i64 x3] 38) = W1
  have b1 : Below w.heap.size w W1 := hW1 ▸ balloc (Below.refl _ _)
  have k1 : W1.heap[w.heap.size]? = some (.cells #[.int .i64 x0, .int .i64 x1, .int .i64 x2, .int .i64 x3] 38 (0, 0)) := by rw [← hW1]; exact heap_alloc_new w _
  have c0 : W1.cell? ⟨w.heap.size, 0, none⟩ = some (.int .i64 x0) := blk_cell k1 0
  have c1 : W1.cell? ⟨w.heap.size, 1, none⟩ = some (.int .i64 x1) := blk_cell k1 1
  have c2 : W1.cell? ⟨w.heap.size, 2, none⟩ = some (.int .i64 x2) := blk_cell k1 2
  have c3 : W1.cell? ⟨w.heap.size, 3, none⟩ = some (.int .i64 x3) := blk_cell k1 3
  have HB : Hid (Below w.heap.size w W1) := b1
  clear b1 k1
  have hcase : (x0 < 1) ∨ (1 ≤ x0 ∧ 4611686018427387904 < x0) ∨ ((1 ≤ x0 ∧ x0 ≤ 4611686018427387904) ∧ x2 < 1) ∨ ((1 ≤ x0 ∧ x0 ≤ 4611686018427387904) ∧ 1 ≤ x2 ∧ 4611686018427387904 < x2) ∨ ((1 ≤ x0 ∧ x0 ≤ 4611686018427387904) ∧ (1 ≤ x2 ∧ x2 ≤ 4611686018427387904) ∧ x3 < 1) ∨ ((1 ≤ x0 ∧ x0 ≤ 4611686018427387904) ∧ (1 ≤ x2 ∧ x2 ≤ 4611686018427387904) ∧ 1 ≤ x3 ∧ 4611686018427387904 < x3) ∨ ((1 ≤ x0 ∧ x0 ≤ 4611686018427387904) ∧ (1 ≤ x2 ∧ x2 ≤ 4611686018427387904) ∧ (1 ≤ x3 ∧ x3 ≤ 4611686018427387904) ∧ x1 < 0) ∨ ((1 ≤ x0 ∧ x0 ≤ 4611686018427387904) ∧ (1 ≤ x2 ∧ x2 ≤ 4611686018427387904) ∧ (1 ≤ x3 ∧ x3 ≤ 4611686018427387904) ∧ 0 ≤ x1) := by omega
  have hbad : ∀ {p q r t : Bool}, (p = false ∨ q = false ∨ r = false ∨ t = false) → (p && q && r && t) = false := by
    intro p q r t h
    rcases h with rfl | rfl | rfl | rfl <;> simp
  rcases hcase with hc | hc | hc | hc | hc | hc | hc | hc
  · skip
    have hv : whB x0 x1 x2 x3 n = false := by unfold whB; exact hbad ((Or.inl) (by unfold wB; exact decide_eq_false (by omega)))
    rw [hv]
    clear hv hbad
    go_enter Try.func59, Try.ntmps59
    go_wp2_with (first | (refine wl_at 7 rfl ?_) | fail)
    refine wl_take (v := .bool true) (by kernel_rfl) (by (go_simp <;> first | omega | simp_all | (simp; omega))) ?_
    simp only [Act.put, gA, gB, gC, gD, gE, gF]
    refine wlT (.bool true) ?_
    simp only [Act.put, gA, gB, gC, gD, gE, gF]
    refine wlS ?_
    simp only [Act.put, gA, gB, gC, gD, gE, gF]
    refine wlS ?_
    simp only [Act.put, gA, gB, gC, gD, gE, gF]
    refine wlS ?_
    simp only [Act.put, gA, gB, gC, gD, gE, gF]
    refine wlT (.bool true) ?_
    simp only [Act.put, gA, gB, gC, gD, gE, gF]
    refine wlT (.bool true) ?_
    simp only [Act.put, gA, gB, gC, gD, gE, gF]
    refine wlS ?_
    simp only [Act.put, gA, gB, gC, gD, gE, gF]
    refine wlS ?_
    simp only [Act.put, gA, gB, gC, gD, gE, gF]
    refine wlS ?_
    simp only [Act.put, gA, gB, gC, gD, gE, gF]
    refine wlT (.bool true) ?_
    simp only [Act.put, gA, gB, gC, gD, gE, gF]
    refine wlT (.bool true) ?_
    simp only [Act.put, gA, gB, gC, gD, gE, gF]
    refine wlS ?_
    simp only [Act.put, gA, gB, gC, gD, gE, gF]
    refine wlS ?_
    simp only [Act.put, gA, gB, gC, gD, gE, gF]
    refine wlS ?_
    simp only [Act.put, gA, gB, gC, gD, gE, gF]
    refine wlT (.bool true) ?_
    simp only [Act.put, gA, gB, gC, gD, gE, gF]
    refine wlT (.bool true) ?_
    simp only [Act.put, gA, gB, gC, gD, gE, gF]
    refine wlS ?_
    simp only [Act.put, gA, gB, gC, gD, gE, gF]
    refine wlS ?_
    simp only [Act.put, gA, gB, gC, gD, gE, gF]
    refine wlS ?_
    simp only [Act.put, gA, gB, gC, gD, gE, gF]
    refine wlT (.bool true) ?_
    simp only [Act.put, gA, gB, gC, gD, gE, gF]
    refine wlT (.bool true) ?_
    simp only [Act.put, gA, gB, gC, gD, gE, gF]
    refine wlS ?_
    simp only [Act.put, gA, gB, gC, gD, gE, gF]
    refine wlS ?_
    simp only [Act.put, gA, gB, gC, gD, gE, gF]
    refine wlS ?_
    simp only [Act.put, gA, gB, gC, gD, gE, gF]
    refine wlT (.bool true) ?_
    simp only [Act.put, gA, gB, gC, gD, gE, gF]
    refine ⟨?_⟩
    go_wp2
    go_ret
    exact ⟨rfl, HB.out⟩
  · skip
    have hv : whB x0 x1 x2 x3 n = false := by unfold whB; exact hbad ((Or.inl) (by unfold wB; exact decide_eq_false (by omega)))
    rw [hv]
    clear hv hbad
    go_enter Try.func59, Try.ntmps59
    go_wp2_with (first | (refine wl_at 7 rfl ?_) | fail)
    refine wl_take (v := .bool false) (by kernel_rfl) (by (go_simp <;> first | omega | simp_all | (simp; omega))) ?_
    simp only [Act.put, gA, gB, gC, gD, gE, gF]
    refine wlT (.bool false) ?_
    simp only [Act.put, gA, gB, gC, gD, gE, gF]
    refine wlT (.pointer (some ⟨w.heap.size, 0, none⟩)) ?_
    simp only [Act.put, gA, gB, gC, gD, gE, gF]
    refine wlT (.int .i64 x0) ?_
    simp only [Act.put, gA, gB, gC, gD, gE, gF]
    refine wl_take (v := .bool true) (by kernel_rfl) (by (go_simp <;> first | omega | simp_all | (simp; omega))) ?_
    simp only [Act.put, gA, gB, gC, gD, gE, gF]
    refine wlT (.bool true) ?_
    simp only [Act.put, gA, gB, gC, gD, gE, gF]
    refine wlT (.bool true) ?_
    simp only [Act.put, gA, gB, gC, gD, gE, gF]
    refine wlS ?_
    simp only [Act.put, gA, gB, gC, gD, gE, gF]
    refine wlS ?_
    simp only [Act.put, gA, gB, gC, gD, gE, gF]
    refine wlS ?_
    simp only [Act.put, gA, gB, gC, gD, gE, gF]
    refine wlT (.bool true) ?_
    simp only [Act.put, gA, gB, gC, gD, gE, gF]
    refine wlT (.bool true) ?_
    simp only [Act.put, gA, gB, gC, gD, gE, gF]
    refine wlS ?_
    simp only [Act.put, gA, gB, gC, gD, gE, gF]
    refine wlS ?_
    simp only [Act.put, gA, gB, gC, gD, gE, gF]
    refine wlS ?_
    simp only [Act.put, gA, gB, gC, gD, gE, gF]
    refine wlT (.bool true) ?_
    simp only [Act.put, gA, gB, gC, gD, gE, gF]
    refine wlT (.bool true) ?_
    simp only [Act.put, gA, gB, gC, gD, gE, gF]
    refine wlS ?_
    simp only [Act.put, gA, gB, gC, gD, gE, gF]
    refine wlS ?_
    simp only [Act.put, gA, gB, gC, gD, gE, gF]
    refine wlS ?_
    simp only [Act.put, gA, gB, gC, gD, gE, gF]
    refine wlT (.bool true) ?_
    simp only [Act.put, gA, gB, gC, gD, gE, gF]
    refine wlT (.bool true) ?_
    simp only [Act.put, gA, gB, gC, gD, gE, gF]
    refine wlS ?_
    simp only [Act.put, gA, gB, gC, gD, gE, gF]
    refine wlS ?_
    simp only [Act.put, gA, gB, gC, gD, gE, gF]
    refine wlS ?_
    simp only [Act.put, gA, gB, gC, gD, gE, gF]
    refine wlT (.bool true) ?_
    simp only [Act.put, gA, gB, gC, gD, gE, gF]
    refine ⟨?_⟩
    go_wp2
    go_ret
    exact ⟨rfl, HB.out⟩
  · skip
    have hv : whB x0 x1 x2 x3 n = false := by unfold whB; exact hbad ((fun h => Or.inr (Or.inr (Or.inl h))) (by unfold wB; exact decide_eq_false (by omega)))
    rw [hv]
    clear hv hbad
    go_enter Try.func59, Try.ntmps59
    go_wp2_with (first | (refine wl_at 7 rfl ?_) | fail)
    refine wl_take (v := .bool false) (by kernel_rfl) (by (go_simp <;> first | omega | simp_all | (simp; omega))) ?_
    simp only [Act.put, gA, gB, gC, gD, gE, gF]
    refine wlT (.bool false) ?_
    simp only [Act.put, gA, gB, gC, gD, gE, gF]
    refine wlT (.pointer (some ⟨w.heap.size, 0, none⟩)) ?_
    simp only [Act.put, gA, gB, gC, gD, gE, gF]
    refine wlT (.int .i64 x0) ?_
    simp only [Act.put, gA, gB, gC, gD, gE, gF]
    refine wl_take (v := .bool false) (by kernel_rfl) (by (go_simp <;> first | omega | simp_all | (simp; omega))) ?_
    simp only [Act.put, gA, gB, gC, gD, gE, gF]
    refine wlT (.bool false) ?_
    simp only [Act.put, gA, gB, gC, gD, gE, gF]
    refine wlT (.bool false) ?_
    simp only [Act.put, gA, gB, gC, gD, gE, gF]
    refine wlT (.pointer (some ⟨w.heap.size, 2, none⟩)) ?_
    simp only [Act.put, gA, gB, gC, gD, gE, gF]
    refine wlT (.int .i64 x2) ?_
    simp only [Act.put, gA, gB, gC, gD, gE, gF]
    refine wl_take (v := .bool true) (by kernel_rfl) (by (go_simp <;> first | omega | simp_all | (simp; omega))) ?_
    simp only [Act.put, gA, gB, gC, gD, gE, gF]
    refine wlT (.bool true) ?_
    simp only [Act.put, gA, gB, gC, gD, gE, gF]
    refine wlT (.bool true) ?_
    simp only [Act.put, gA, gB, gC, gD, gE, gF]
    refine wlS ?_
    simp only [Act.put, gA, gB, gC, gD, gE, gF]
    refine wlS ?_
    simp only [Act.put, gA, gB, gC, gD, gE, gF]
    refine wlS ?_
    simp only [Act.put, gA, gB, gC, gD, gE, gF]
    refine wlT (.bool true) ?_
    simp only [Act.put, gA, gB, gC, gD, gE, gF]
    refine wlT (.bool true) ?_
    simp only [Act.put, gA, gB, gC, gD, gE, gF]
    refine wlS ?_
    simp only [Act.put, gA, gB, gC, gD, gE, gF]
    refine wlS ?_
    simp only [Act.put, gA, gB, gC, gD, gE, gF]
    refine wlS ?_
    simp only [Act.put, gA, gB, gC, gD, gE, gF]
    refine wlT (.bool true) ?_
    simp only [Act.put, gA, gB, gC, gD, gE, gF]
    refine wlT (.bool true) ?_
    simp only [Act.put, gA, gB, gC, gD, gE, gF]
    refine wlS ?_
    simp only [Act.put, gA, gB, gC, gD, gE, gF]
    refine wlS ?_
    simp only [Act.put, gA, gB, gC, gD, gE, gF]
    refine wlS ?_
    simp only [Act.put, gA, gB, gC, gD, gE, gF]
    refine wlT (.bool true) ?_
    simp only [Act.put, gA, gB, gC, gD, gE, gF]
    refine ⟨?_⟩
    go_wp2
    go_ret
    exact ⟨rfl, HB.out⟩
  · skip
    have hv : whB x0 x1 x2 x3 n = false := by unfold whB; exact hbad ((fun h => Or.inr (Or.inr (Or.inl h))) (by unfold wB; exact decide_eq_false (by omega)))
    rw [hv]
    clear hv hbad
    go_enter Try.func59, Try.ntmps59
    go_wp2_with (first | (refine wl_at 7 rfl ?_) | fail)
    refine wl_take (v := .bool false) (by kernel_rfl) (by (go_simp <;> first | omega | simp_all | (simp; omega))) ?_
    simp only [Act.put, gA, gB, gC, gD, gE, gF]
    refine wlT (.bool false) ?_
    simp only [Act.put, gA, gB, gC, gD, gE, gF]
    refine wlT (.pointer (some ⟨w.heap.size, 0, none⟩)) ?_
    simp only [Act.put, gA, gB, gC, gD, gE, gF]
    refine wlT (.int .i64 x0) ?_
    simp only [Act.put, gA, gB, gC, gD, gE, gF]
    refine wl_take (v := .bool false) (by kernel_rfl) (by (go_simp <;> first | omega | simp_all | (simp; omega))) ?_
    simp only [Act.put, gA, gB, gC, gD, gE, gF]
    refine wlT (.bool false) ?_
    simp only [Act.put, gA, gB, gC, gD, gE, gF]
    refine wlT (.bool false) ?_
    simp only [Act.put, gA, gB, gC, gD, gE, gF]
    refine wlT (.pointer (some ⟨w.heap.size, 2, none⟩)) ?_
    simp only [Act.put, gA, gB, gC, gD, gE, gF]
    refine wlT (.int .i64 x2) ?_
    simp only [Act.put, gA, gB, gC, gD, gE, gF]
    refine wl_take (v := .bool false) (by kernel_rfl) (by (go_simp <;> first | omega | simp_all | (simp; omega))) ?_
    simp only [Act.put, gA, gB, gC, gD, gE, gF]
    refine wlT (.bool false) ?_
    simp only [Act.put, gA, gB, gC, gD, gE, gF]
    refine wlT (.bool false) ?_
    simp only [Act.put, gA, gB, gC, gD, gE, gF]
    refine wlT (.pointer (some ⟨w.heap.size, 2, none⟩)) ?_
    simp only [Act.put, gA, gB, gC, gD, gE, gF]
    refine wlT (.int .i64 x2) ?_
    simp only [Act.put, gA, gB, gC, gD, gE, gF]
    refine wl_take (v := .bool true) (by kernel_rfl) (by (go_simp <;> first | omega | simp_all | (simp; omega))) ?_
    simp only [Act.put, gA, gB, gC, gD, gE, gF]
    refine wlT (.bool true) ?_
    simp only [Act.put, gA, gB, gC, gD, gE, gF]
    refine wlT (.bool true) ?_
    simp only [Act.put, gA, gB, gC, gD, gE, gF]
    refine wlS ?_
    simp only [Act.put, gA, gB, gC, gD, gE, gF]
    refine wlS ?_
    simp only [Act.put, gA, gB, gC, gD, gE, gF]
    refine wlS ?_
    simp only [Act.put, gA, gB, gC, gD, gE, gF]
    refine wlT (.bool true) ?_
    simp only [Act.put, gA, gB, gC, gD, gE, gF]
    refine wlT (.bool true) ?_
    simp only [Act.put, gA, gB, gC, gD, gE, gF]
    refine wlS ?_
    simp only [Act.put, gA, gB, gC, gD, gE, gF]
    refine wlS ?_
    simp only [Act.put, gA, gB, gC, gD, gE, gF]
    refine wlS ?_
    simp only [Act.put, gA, gB, gC, gD, gE, gF]
    refine wlT (.bool true) ?_
    simp only [Act.put, gA, gB, gC, gD, gE, gF]
    refine ⟨?_⟩
    go_wp2
    go_ret
    exact ⟨rfl, HB.out⟩
  · skip
    have hv : whB x0 x1 x2 x3 n = false := by unfold whB; exact hbad ((fun h => Or.inr (Or.inr (Or.inr h))) (by unfold wB; exact decide_eq_false (by omega)))
    rw [hv]
    clear hv hbad
    go_enter Try.func59, Try.ntmps59
    go_wp2_with (first | (refine wl_at 7 rfl ?_) | fail)
    refine wl_take (v := .bool false) (by kernel_rfl) (by (go_simp <;> first | omega | simp_all | (simp; omega))) ?_
    simp only [Act.put, gA, gB, gC, gD, gE, gF]
    refine wlT (.bool false) ?_
    simp only [Act.put, gA, gB, gC, gD, gE, gF]
    refine wlT (.pointer (some ⟨w.heap.size, 0, none⟩)) ?_
    simp only [Act.put, gA, gB, gC, gD, gE, gF]
    refine wlT (.int .i64 x0) ?_
    simp only [Act.put, gA, gB, gC, gD, gE, gF]
    refine wl_take (v := .bool false) (by kernel_rfl) (by (go_simp <;> first | omega | simp_all | (simp; omega))) ?_
    simp only [Act.put, gA, gB, gC, gD, gE, gF]
    refine wlT (.bool false) ?_
    simp only [Act.put, gA, gB, gC, gD, gE, gF]
    refine wlT (.bool false) ?_
    simp only [Act.put, gA, gB, gC, gD, gE, gF]
    refine wlT (.pointer (some ⟨w.heap.size, 2, none⟩)) ?_
    simp only [Act.put, gA, gB, gC, gD, gE, gF]
    refine wlT (.int .i64 x2) ?_
    simp only [Act.put, gA, gB, gC, gD, gE, gF]
    refine wl_take (v := .bool false) (by kernel_rfl) (by (go_simp <;> first | omega | simp_all | (simp; omega))) ?_
    simp only [Act.put, gA, gB, gC, gD, gE, gF]
    refine wlT (.bool false) ?_
    simp only [Act.put, gA, gB, gC, gD, gE, gF]
    refine wlT (.bool false) ?_
    simp only [Act.put, gA, gB, gC, gD, gE, gF]
    refine wlT (.pointer (some ⟨w.heap.size, 2, none⟩)) ?_
    simp only [Act.put, gA, gB, gC, gD, gE, gF]
    refine wlT (.int .i64 x2) ?_
    simp only [Act.put, gA, gB, gC, gD, gE, gF]
    refine wl_take (v := .bool false) (by kernel_rfl) (by (go_simp <;> first | omega | simp_all | (simp; omega))) ?_
    simp only [Act.put, gA, gB, gC, gD, gE, gF]
    refine wlT (.bool false) ?_
    simp only [Act.put, gA, gB, gC, gD, gE, gF]
    refine wlT (.bool false) ?_
    simp only [Act.put, gA, gB, gC, gD, gE, gF]
    refine wlT (.pointer (some ⟨w.heap.size, 3, none⟩)) ?_
    simp only [Act.put, gA, gB, gC, gD, gE, gF]
    refine wlT (.int .i64 x3) ?_
    simp only [Act.put, gA, gB, gC, gD, gE, gF]
    refine wl_take (v := .bool true) (by kernel_rfl) (by (go_simp <;> first | omega | simp_all | (simp; omega))) ?_
    simp only [Act.put, gA, gB, gC, gD, gE, gF]
    refine wlT (.bool true) ?_
    simp only [Act.put, gA, gB, gC, gD, gE, gF]
    refine wlT (.bool true) ?_
    simp only [Act.put, gA, gB, gC, gD, gE, gF]
    refine wlS ?_
    simp only [Act.put, gA, gB, gC, gD, gE, gF]
    refine wlS ?_
    simp only [Act.put, gA, gB, gC, gD, gE, gF]
    refine wlS ?_
    simp only [Act.put, gA, gB, gC, gD, gE, gF]
    refine wlT (.bool true) ?_
    simp only [Act.put, gA, gB, gC, gD, gE, gF]
    refine ⟨?_⟩
    go_wp2
    go_ret
    exact ⟨rfl, HB.out⟩
  · skip
    have hv : whB x0 x1 x2 x3 n = false := by unfold whB; exact hbad ((fun h => Or.inr (Or.inr (Or.inr h))) (by unfold wB; exact decide_eq_false (by omega)))
    rw [hv]
    clear hv hbad
    go_enter Try.func59, Try.ntmps59
    go_wp2_with (first | (refine wl_at 7 rfl ?_) | fail)
    refine wl_take (v := .bool false) (by kernel_rfl) (by (go_simp <;> first | omega | simp_all | (simp; omega))) ?_
    simp only [Act.put, gA, gB, gC, gD, gE, gF]
    refine wlT (.bool false) ?_
    simp only [Act.put, gA, gB, gC, gD, gE, gF]
    refine wlT (.pointer (some ⟨w.heap.size, 0, none⟩)) ?_
    simp only [Act.put, gA, gB, gC, gD, gE, gF]
    refine wlT (.int .i64 x0) ?_
    simp only [Act.put, gA, gB, gC, gD, gE, gF]
    refine wl_take (v := .bool false) (by kernel_rfl) (by (go_simp <;> first | omega | simp_all | (simp; omega))) ?_
    simp only [Act.put, gA, gB, gC, gD, gE, gF]
    refine wlT (.bool false) ?_
    simp only [Act.put, gA, gB, gC, gD, gE, gF]
    refine wlT (.bool false) ?_
    simp only [Act.put, gA, gB, gC, gD, gE, gF]
    refine wlT (.pointer (some ⟨w.heap.size, 2, none⟩)) ?_
    simp only [Act.put, gA, gB, gC, gD, gE, gF]
    refine wlT (.int .i64 x2) ?_
    simp only [Act.put, gA, gB, gC, gD, gE, gF]
    refine wl_take (v := .bool false) (by kernel_rfl) (by (go_simp <;> first | omega | simp_all | (simp; omega))) ?_
    simp only [Act.put, gA, gB, gC, gD, gE, gF]
    refine wlT (.bool false) ?_
    simp only [Act.put, gA, gB, gC, gD, gE, gF]
    refine wlT (.bool false) ?_
    simp only [Act.put, gA, gB, gC, gD, gE, gF]
    refine wlT (.pointer (some ⟨w.heap.size, 2, none⟩)) ?_
    simp only [Act.put, gA, gB, gC, gD, gE, gF]
    refine wlT (.int .i64 x2) ?_
    simp only [Act.put, gA, gB, gC, gD, gE, gF]
    refine wl_take (v := .bool false) (by kernel_rfl) (by (go_simp <;> first | omega | simp_all | (simp; omega))) ?_
    simp only [Act.put, gA, gB, gC, gD, gE, gF]
    refine wlT (.bool false) ?_
    simp only [Act.put, gA, gB, gC, gD, gE, gF]
    refine wlT (.bool false) ?_
    simp only [Act.put, gA, gB, gC, gD, gE, gF]
    refine wlT (.pointer (some ⟨w.heap.size, 3, none⟩)) ?_
    simp only [Act.put, gA, gB, gC, gD, gE, gF]
    refine wlT (.int .i64 x3) ?_
    simp only [Act.put, gA, gB, gC, gD, gE, gF]
    refine wl_take (v := .bool false) (by kernel_rfl) (by (go_simp <;> first | omega | simp_all | (simp; omega))) ?_
    simp only [Act.put, gA, gB, gC, gD, gE, gF]
    refine wlT (.bool false) ?_
    simp only [Act.put, gA, gB, gC, gD, gE, gF]
    refine wlT (.bool false) ?_
    simp only [Act.put, gA, gB, gC, gD, gE, gF]
    refine wlT (.pointer (some ⟨w.heap.size, 3, none⟩)) ?_
    simp only [Act.put, gA, gB, gC, gD, gE, gF]
    refine wlT (.int .i64 x3) ?_
    simp only [Act.put, gA, gB, gC, gD, gE, gF]
    refine wl_take (v := .bool true) (by kernel_rfl) (by (go_simp <;> first | omega | simp_all | (simp; omega))) ?_
    simp only [Act.put, gA, gB, gC, gD, gE, gF]
    refine wlT (.bool true) ?_
    simp only [Act.put, gA, gB, gC, gD, gE, gF]
    refine ⟨?_⟩
    go_wp2
    go_ret
    exact ⟨rfl, HB.out⟩
  · skip
    have hv : whB x0 x1 x2 x3 n = false := by unfold whB; exact hbad ((fun h => Or.inr (Or.inl h)) (by unfold wB; exact decide_eq_false (by omega)))
    rw [hv]
    clear hv hbad
    go_enter Try.func59, Try.ntmps59
    go_wp2_with (first | (refine wl_at 7 rfl ?_) | fail)
    refine wl_take (v := .bool false) (by kernel_rfl) (by (go_simp <;> first | omega | simp_all | (simp; omega))) ?_
    simp only [Act.put, gA, gB, gC, gD, gE, gF]
    refine wlT (.bool false) ?_
    simp only [Act.put, gA, gB, gC, gD, gE, gF]
    refine wlT (.pointer (some ⟨w.heap.size, 0, none⟩)) ?_
    simp only [Act.put, gA, gB, gC, gD, gE, gF]
    refine wlT (.int .i64 x0) ?_
    simp only [Act.put, gA, gB, gC, gD, gE, gF]
    refine wl_take (v := .bool false) (by kernel_rfl) (by (go_simp <;> first | omega | simp_all | (simp; omega))) ?_
    simp only [Act.put, gA, gB, gC, gD, gE, gF]
    refine wlT (.bool false) ?_
    simp only [Act.put, gA, gB, gC, gD, gE, gF]
    refine wlT (.bool false) ?_
    simp only [Act.put, gA, gB, gC, gD, gE, gF]
    refine wlT (.pointer (some ⟨w.heap.size, 2, none⟩)) ?_
    simp only [Act.put, gA, gB, gC, gD, gE, gF]
    refine wlT (.int .i64 x2) ?_
    simp only [Act.put, gA, gB, gC, gD, gE, gF]
    refine wl_take (v := .bool false) (by kernel_rfl) (by (go_simp <;> first | omega | simp_all | (simp; omega))) ?_
    simp only [Act.put, gA, gB, gC, gD, gE, gF]
    refine wlT (.bool false) ?_
    simp only [Act.put, gA, gB, gC, gD, gE, gF]
    refine wlT (.bool false) ?_
    simp only [Act.put, gA, gB, gC, gD, gE, gF]
    refine wlT (.pointer (some ⟨w.heap.size, 2, none⟩)) ?_
    simp only [Act.put, gA, gB, gC, gD, gE, gF]
    refine wlT (.int .i64 x2) ?_
    simp only [Act.put, gA, gB, gC, gD, gE, gF]
    refine wl_take (v := .bool false) (by kernel_rfl) (by (go_simp <;> first | omega | simp_all | (simp; omega))) ?_
    simp only [Act.put, gA, gB, gC, gD, gE, gF]
    refine wlT (.bool false) ?_
    simp only [Act.put, gA, gB, gC, gD, gE, gF]
    refine wlT (.bool false) ?_
    simp only [Act.put, gA, gB, gC, gD, gE, gF]
    refine wlT (.pointer (some ⟨w.heap.size, 3, none⟩)) ?_
    simp only [Act.put, gA, gB, gC, gD, gE, gF]
    refine wlT (.int .i64 x3) ?_
    simp only [Act.put, gA, gB, gC, gD, gE, gF]
    refine wl_take (v := .bool false) (by kernel_rfl) (by (go_simp <;> first | omega | simp_all | (simp; omega))) ?_
    simp only [Act.put, gA, gB, gC, gD, gE, gF]
    refine wlT (.bool false) ?_
    simp only [Act.put, gA, gB, gC, gD, gE, gF]
    refine wlT (.bool false) ?_
    simp only [Act.put, gA, gB, gC, gD, gE, gF]
    refine wlT (.pointer (some ⟨w.heap.size, 3, none⟩)) ?_
    simp only [Act.put, gA, gB, gC, gD, gE, gF]
    refine wlT (.int .i64 x3) ?_
    simp only [Act.put, gA, gB, gC, gD, gE, gF]
    refine wl_take (v := .bool false) (by kernel_rfl) (by (go_simp <;> first | omega | simp_all | (simp; omega))) ?_
    simp only [Act.put, gA, gB, gC, gD, gE, gF]
    refine wlT (.bool false) ?_
    simp only [Act.put, gA, gB, gC, gD, gE, gF]
    refine ⟨?_⟩
    have hx : decide (0 ≤ x1) = false := decide_eq_false (by omega)
    go_wp2
    go_ret
    exact ⟨rfl, HB.out⟩
  · skip
    have hv : whB x0 x1 x2 x3 n = decide (x1 < (n : Int)) := by
      unfold whB wB
      rw [decide_eq_true (show 1 ≤ x0 ∧ x0 ≤ 4611686018427387904 by omega), decide_eq_true (show 1 ≤ x2 ∧ x2 ≤ 4611686018427387904 by omega), decide_eq_true (show 1 ≤ x3 ∧ x3 ≤ 4611686018427387904 by omega), Bool.true_and, Bool.and_true, Bool.and_true]
      by_cases h : x1 < (n : Int)
      · rw [decide_eq_true h, decide_eq_true (by omega)]
      · rw [decide_eq_false h, decide_eq_false (by omega)]
    rw [hv]
    have hx1 : 0 ≤ x1 := by omega
    clear hv hbad
    by_cases h : x1 < (n : Int)
    · rw [decide_eq_true h]
      go_enter Try.func59, Try.ntmps59
      go_wp2_with (first | (refine wl_at 7 rfl ?_) | fail)
      refine wl_take (v := .bool false) (by kernel_rfl) (by (go_simp <;> first | omega | simp_all | (simp; omega))) ?_
      simp only [Act.put, gA, gB, gC, gD, gE, gF]
      refine wlT (.bool false) ?_
      simp only [Act.put, gA, gB, gC, gD, gE, gF]
      refine wlT (.pointer (some ⟨w.heap.size, 0, none⟩)) ?_
      simp only [Act.put, gA, gB, gC, gD, gE, gF]
      refine wlT (.int .i64 x0) ?_
      simp only [Act.put, gA, gB, gC, gD, gE, gF]
      refine wl_take (v := .bool false) (by kernel_rfl) (by (go_simp <;> first | omega | simp_all | (simp; omega))) ?_
      simp only [Act.put, gA, gB, gC, gD, gE, gF]
      refine wlT (.bool false) ?_
      simp only [Act.put, gA, gB, gC, gD, gE, gF]
      refine wlT (.bool false) ?_
      simp only [Act.put, gA, gB, gC, gD, gE, gF]
      refine wlT (.pointer (some ⟨w.heap.size, 2, none⟩)) ?_
      simp only [Act.put, gA, gB, gC, gD, gE, gF]
      refine wlT (.int .i64 x2) ?_
      simp only [Act.put, gA, gB, gC, gD, gE, gF]
      refine wl_take (v := .bool false) (by kernel_rfl) (by (go_simp <;> first | omega | simp_all | (simp; omega))) ?_
      simp only [Act.put, gA, gB, gC, gD, gE, gF]
      refine wlT (.bool false) ?_
      simp only [Act.put, gA, gB, gC, gD, gE, gF]
      refine wlT (.bool false) ?_
      simp only [Act.put, gA, gB, gC, gD, gE, gF]
      refine wlT (.pointer (some ⟨w.heap.size, 2, none⟩)) ?_
      simp only [Act.put, gA, gB, gC, gD, gE, gF]
      refine wlT (.int .i64 x2) ?_
      simp only [Act.put, gA, gB, gC, gD, gE, gF]
      refine wl_take (v := .bool false) (by kernel_rfl) (by (go_simp <;> first | omega | simp_all | (simp; omega))) ?_
      simp only [Act.put, gA, gB, gC, gD, gE, gF]
      refine wlT (.bool false) ?_
      simp only [Act.put, gA, gB, gC, gD, gE, gF]
      refine wlT (.bool false) ?_
      simp only [Act.put, gA, gB, gC, gD, gE, gF]
      refine wlT (.pointer (some ⟨w.heap.size, 3, none⟩)) ?_
      simp only [Act.put, gA, gB, gC, gD, gE, gF]
      refine wlT (.int .i64 x3) ?_
      simp only [Act.put, gA, gB, gC, gD, gE, gF]
      refine wl_take (v := .bool false) (by kernel_rfl) (by (go_simp <;> first | omega | simp_all | (simp; omega))) ?_
      simp only [Act.put, gA, gB, gC, gD, gE, gF]
      refine wlT (.bool false) ?_
      simp only [Act.put, gA, gB, gC, gD, gE, gF]
      refine wlT (.bool false) ?_
      simp only [Act.put, gA, gB, gC, gD, gE, gF]
      refine wlT (.pointer (some ⟨w.heap.size, 3, none⟩)) ?_
      simp only [Act.put, gA, gB, gC, gD, gE, gF]
      refine wlT (.int .i64 x3) ?_
      simp only [Act.put, gA, gB, gC, gD, gE, gF]
      refine wl_take (v := .bool false) (by kernel_rfl) (by (go_simp <;> first | omega | simp_all | (simp; omega))) ?_
      simp only [Act.put, gA, gB, gC, gD, gE, gF]
      refine wlT (.bool false) ?_
      simp only [Act.put, gA, gB, gC, gD, gE, gF]
      refine ⟨?_⟩
      go_wp2
      go_ret
      exact ⟨rfl, HB.out⟩
    · have h' : decide (x1 < (n : Int)) = false := decide_eq_false h
      rw [h']
      clear h
      go_enter Try.func59, Try.ntmps59
      go_wp2_with (first | (refine wl_at 7 rfl ?_) | fail)
      refine wl_take (v := .bool false) (by kernel_rfl) (by (go_simp <;> first | omega | simp_all | (simp; omega))) ?_
      simp only [Act.put, gA, gB, gC, gD, gE, gF]
      refine wlT (.bool false) ?_
      simp only [Act.put, gA, gB, gC, gD, gE, gF]
      refine wlT (.pointer (some ⟨w.heap.size, 0, none⟩)) ?_
      simp only [Act.put, gA, gB, gC, gD, gE, gF]
      refine wlT (.int .i64 x0) ?_
      simp only [Act.put, gA, gB, gC, gD, gE, gF]
      refine wl_take (v := .bool false) (by kernel_rfl) (by (go_simp <;> first | omega | simp_all | (simp; omega))) ?_
      simp only [Act.put, gA, gB, gC, gD, gE, gF]
      refine wlT (.bool false) ?_
      simp only [Act.put, gA, gB, gC, gD, gE, gF]
      refine wlT (.bool false) ?_
      simp only [Act.put, gA, gB, gC, gD, gE, gF]
      refine wlT (.pointer (some ⟨w.heap.size, 2, none⟩)) ?_
      simp only [Act.put, gA, gB, gC, gD, gE, gF]
      refine wlT (.int .i64 x2) ?_
      simp only [Act.put, gA, gB, gC, gD, gE, gF]
      refine wl_take (v := .bool false) (by kernel_rfl) (by (go_simp <;> first | omega | simp_all | (simp; omega))) ?_
      simp only [Act.put, gA, gB, gC, gD, gE, gF]
      refine wlT (.bool false) ?_
      simp only [Act.put, gA, gB, gC, gD, gE, gF]
      refine wlT (.bool false) ?_
      simp only [Act.put, gA, gB, gC, gD, gE, gF]
      refine wlT (.pointer (some ⟨w.heap.size, 2, none⟩)) ?_
      simp only [Act.put, gA, gB, gC, gD, gE, gF]
      refine wlT (.int .i64 x2) ?_
      simp only [Act.put, gA, gB, gC, gD, gE, gF]
      refine wl_take (v := .bool false) (by kernel_rfl) (by (go_simp <;> first | omega | simp_all | (simp; omega))) ?_
      simp only [Act.put, gA, gB, gC, gD, gE, gF]
      refine wlT (.bool false) ?_
      simp only [Act.put, gA, gB, gC, gD, gE, gF]
      refine wlT (.bool false) ?_
      simp only [Act.put, gA, gB, gC, gD, gE, gF]
      refine wlT (.pointer (some ⟨w.heap.size, 3, none⟩)) ?_
      simp only [Act.put, gA, gB, gC, gD, gE, gF]
      refine wlT (.int .i64 x3) ?_
      simp only [Act.put, gA, gB, gC, gD, gE, gF]
      refine wl_take (v := .bool false) (by kernel_rfl) (by (go_simp <;> first | omega | simp_all | (simp; omega))) ?_
      simp only [Act.put, gA, gB, gC, gD, gE, gF]
      refine wlT (.bool false) ?_
      simp only [Act.put, gA, gB, gC, gD, gE, gF]
      refine wlT (.bool false) ?_
      simp only [Act.put, gA, gB, gC, gD, gE, gF]
      refine wlT (.pointer (some ⟨w.heap.size, 3, none⟩)) ?_
      simp only [Act.put, gA, gB, gC, gD, gE, gF]
      refine wlT (.int .i64 x3) ?_
      simp only [Act.put, gA, gB, gC, gD, gE, gF]
      refine wl_take (v := .bool false) (by kernel_rfl) (by (go_simp <;> first | omega | simp_all | (simp; omega))) ?_
      simp only [Act.put, gA, gB, gC, gD, gE, gF]
      refine wlT (.bool false) ?_
      simp only [Act.put, gA, gB, gC, gD, gE, gF]
      refine ⟨?_⟩
      go_wp2
      go_ret
      exact ⟨rfl, HB.out⟩
end
end Go.Proofs.Ytbdefhagpgpoiac.Mb
