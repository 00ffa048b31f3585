import Derived.Test.YtbdefhagpgpoiacQ00
import Derived.Test.YtbdefhagpgpoiacQ37
import Derived.Test.YtbdefhagpgpoiacQ13
import Derived.Test.YtbdefhagpgpoiacQ28
namespace Go.Proofs.Ytbdefhagpgpoiac.Mb
open Go.RowKit
set_option linter.unusedVariables false
set_option maxRecDepth 100000
set_option linter.unusedSimpArgs false
section
variable {A A' : Ag} {w w' W : World} {B : Nat} {T : Int} {R R' : Rg}
theorem newOk_iff (nI sI inc fl : Int) : newOk nI sI inc fl = true ↔ (1 ≤ nI ∧ nI ≤ 16) ∧ (0 ≤ sI ∧ sI < nI) ∧ (1 ≤ inc ∧ inc ≤ 4611686018427387904) ∧ 0 ≤ fl ∧ fl ≤ 4611686018427387904 := by
  unfold newOk wB
  simp only [Bool.and_eq_true, decide_eq_true_eq]
  constructor
  · rintro ⟨⟨⟨h1, h2⟩, h3⟩, h4⟩
    omega
  · rintro ⟨h1, h2, h3, h4⟩
    omega
set_option maxHeartbeats 4000000 in
theorem qnew_no (nI sI inc fl : Int) (hno : newOk nI sI inc fl = false) : Calls Try.prog 6 #[.int .i64 nI, .int .i64 sI, .int .i64 inc, .int .i64 fl] w fun e w' => e = .returned (.tuple #[.pointer none, .int .i64 1]) ∧ w = w' := by
  have hcase : (nI < 1) ∨ (1 ≤ nI ∧ 16 < nI) ∨ ((1 ≤ nI ∧ nI ≤ 16) ∧ sI < 0) ∨ ((1 ≤ nI ∧ nI ≤ 16) ∧ 0 ≤ sI ∧ nI ≤ sI) ∨ ((1 ≤ nI ∧ nI ≤ 16) ∧ (0 ≤ sI ∧ sI < nI) ∧ inc < 1) ∨ ((1 ≤ nI ∧ nI ≤ 16) ∧ (0 ≤ sI ∧ sI < nI) ∧ 1 ≤ inc ∧ 4611686018427387904 < inc) ∨ ((1 ≤ nI ∧ nI ≤ 16) ∧ (0 ≤ sI ∧ sI < nI) ∧ (1 ≤ inc ∧ inc ≤ 4611686018427387904) ∧ fl < 0) ∨ ((1 ≤ nI ∧ nI ≤ 16) ∧ (0 ≤ sI ∧ sI < nI) ∧ (1 ≤ inc ∧ inc ≤ 4611686018427387904) ∧ 0 ≤ fl ∧ 4611686018427387904 < fl) := by
    have := newOk_iff nI sI inc fl
    rw [hno] at this
    by_cases h : (1 ≤ nI ∧ nI ≤ 16) ∧ (0 ≤ sI ∧ sI < nI) ∧ (1 ≤ inc ∧ inc ≤ 4611686018427387904) ∧ 0 ≤ fl ∧ fl ≤ 4611686018427387904
    · exact absurd (this.2 h) (by simp)
    · omega
  clear hno
  rcases hcase with hc | hc | hc | hc | hc | hc | hc | hc
  · skip
    go_enter Try.func6, Try.ntmps6
    go_wp2_with (first | (refine wl_at 15 rfl ?_) | fail)
    refine wl_take (v := .bool true) (by kernel_rfl) (by (go_simp <;> first | omega | simp_all | (simp; omega))) ?_
    simp only [Act.put, gA, gB, gC, gD, gE, gF]
    refine wlT (.bool true) ?_
    simp only [Act.put, gA, gB, gC, gD, gE, gF]
    refine wlS ?_
    simp only [Act.put, gA, gB, gC, gD, gE, gF]
    refine wlS ?_
    simp only [Act.put, gA, gB, gC, gD, gE, gF]
    refine wlT (.bool true) ?_
    simp only [Act.put, gA, gB, gC, gD, gE, gF]
    refine wlT (.bool true) ?_
    simp only [Act.put, gA, gB, gC, gD, gE, gF]
    refine wlS ?_
    simp only [Act.put, gA, gB, gC, gD, gE, gF]
    refine wlS ?_
    simp only [Act.put, gA, gB, gC, gD, gE, gF]
    refine wlT (.bool true) ?_
    simp only [Act.put, gA, gB, gC, gD, gE, gF]
    refine wlT (.bool true) ?_
    simp only [Act.put, gA, gB, gC, gD, gE, gF]
    refine wlS ?_
    simp only [Act.put, gA, gB, gC, gD, gE, gF]
    refine wlS ?_
    simp only [Act.put, gA, gB, gC, gD, gE, gF]
    refine wlS ?_
    simp only [Act.put, gA, gB, gC, gD, gE, gF]
    refine wlT (.bool true) ?_
    simp only [Act.put, gA, gB, gC, gD, gE, gF]
    refine wlT (.bool true) ?_
    simp only [Act.put, gA, gB, gC, gD, gE, gF]
    refine wlS ?_
    simp only [Act.put, gA, gB, gC, gD, gE, gF]
    refine wlS ?_
    simp only [Act.put, gA, gB, gC, gD, gE, gF]
    refine wlT (.bool true) ?_
    simp only [Act.put, gA, gB, gC, gD, gE, gF]
    refine wlT (.bool true) ?_
    simp only [Act.put, gA, gB, gC, gD, gE, gF]
    refine wlS ?_
    simp only [Act.put, gA, gB, gC, gD, gE, gF]
    refine wlS ?_
    simp only [Act.put, gA, gB, gC, gD, gE, gF]
    refine wlT (.bool true) ?_
    simp only [Act.put, gA, gB, gC, gD, gE, gF]
    refine wlT (.bool true) ?_
    simp only [Act.put, gA, gB, gC, gD, gE, gF]
    refine wlS ?_
    simp only [Act.put, gA, gB, gC, gD, gE, gF]
    refine wlS ?_
    simp only [Act.put, gA, gB, gC, gD, gE, gF]
    refine wlT (.bool true) ?_
    simp only [Act.put, gA, gB, gC, gD, gE, gF]
    refine wlT (.bool true) ?_
    simp only [Act.put, gA, gB, gC, gD, gE, gF]
    refine wlS ?_
    simp only [Act.put, gA, gB, gC, gD, gE, gF]
    refine wlS ?_
    simp only [Act.put, gA, gB, gC, gD, gE, gF]
    refine wlT (.bool true) ?_
    simp only [Act.put, gA, gB, gC, gD, gE, gF]
    refine ⟨?_⟩
    go_wp2
    (try simp only [Exit.inBlock, Exit.then]); refine bodyPost_ret (results_tmp2 rfl _ _ _) rfl ?_
    exact ⟨rfl, rfl⟩
  · skip
    go_enter Try.func6, Try.ntmps6
    go_wp2_with (first | (refine wl_at 15 rfl ?_) | fail)
    refine wl_take (v := .bool false) (by kernel_rfl) (by (go_simp <;> first | omega | simp_all | (simp; omega))) ?_
    simp only [Act.put, gA, gB, gC, gD, gE, gF]
    refine wlT (.bool false) ?_
    simp only [Act.put, gA, gB, gC, gD, gE, gF]
    refine wlT (.int .i64 nI) ?_
    simp only [Act.put, gA, gB, gC, gD, gE, gF]
    refine wl_take (v := .bool true) (by kernel_rfl) (by (go_simp <;> first | omega | simp_all | (simp; omega))) ?_
    simp only [Act.put, gA, gB, gC, gD, gE, gF]
    refine wlT (.bool true) ?_
    simp only [Act.put, gA, gB, gC, gD, gE, gF]
    refine wlT (.bool true) ?_
    simp only [Act.put, gA, gB, gC, gD, gE, gF]
    refine wlS ?_
    simp only [Act.put, gA, gB, gC, gD, gE, gF]
    refine wlS ?_
    simp only [Act.put, gA, gB, gC, gD, gE, gF]
    refine wlT (.bool true) ?_
    simp only [Act.put, gA, gB, gC, gD, gE, gF]
    refine wlT (.bool true) ?_
    simp only [Act.put, gA, gB, gC, gD, gE, gF]
    refine wlS ?_
    simp only [Act.put, gA, gB, gC, gD, gE, gF]
    refine wlS ?_
    simp only [Act.put, gA, gB, gC, gD, gE, gF]
    refine wlS ?_
    simp only [Act.put, gA, gB, gC, gD, gE, gF]
    refine wlT (.bool true) ?_
    simp only [Act.put, gA, gB, gC, gD, gE, gF]
    refine wlT (.bool true) ?_
    simp only [Act.put, gA, gB, gC, gD, gE, gF]
    refine wlS ?_
    simp only [Act.put, gA, gB, gC, gD, gE, gF]
    refine wlS ?_
    simp only [Act.put, gA, gB, gC, gD, gE, gF]
    refine wlT (.bool true) ?_
    simp only [Act.put, gA, gB, gC, gD, gE, gF]
    refine wlT (.bool true) ?_
    simp only [Act.put, gA, gB, gC, gD, gE, gF]
    refine wlS ?_
    simp only [Act.put, gA, gB, gC, gD, gE, gF]
    refine wlS ?_
    simp only [Act.put, gA, gB, gC, gD, gE, gF]
    refine wlT (.bool true) ?_
    simp only [Act.put, gA, gB, gC, gD, gE, gF]
    refine wlT (.bool true) ?_
    simp only [Act.put, gA, gB, gC, gD, gE, gF]
    refine wlS ?_
    simp only [Act.put, gA, gB, gC, gD, gE, gF]
    refine wlS ?_
    simp only [Act.put, gA, gB, gC, gD, gE, gF]
    refine wlT (.bool true) ?_
    simp only [Act.put, gA, gB, gC, gD, gE, gF]
    refine wlT (.bool true) ?_
    simp only [Act.put, gA, gB, gC, gD, gE, gF]
    refine wlS ?_
    simp only [Act.put, gA, gB, gC, gD, gE, gF]
    refine wlS ?_
    simp only [Act.put, gA, gB, gC, gD, gE, gF]
    refine wlT (.bool true) ?_
    simp only [Act.put, gA, gB, gC, gD, gE, gF]
    refine ⟨?_⟩
    go_wp2
    (try simp only [Exit.inBlock, Exit.then]); refine bodyPost_ret (results_tmp2 rfl _ _ _) rfl ?_
    exact ⟨rfl, rfl⟩
  · skip
    go_enter Try.func6, Try.ntmps6
    go_wp2_with (first | (refine wl_at 15 rfl ?_) | fail)
    refine wl_take (v := .bool false) (by kernel_rfl) (by (go_simp <;> first | omega | simp_all | (simp; omega))) ?_
    simp only [Act.put, gA, gB, gC, gD, gE, gF]
    refine wlT (.bool false) ?_
    simp only [Act.put, gA, gB, gC, gD, gE, gF]
    refine wlT (.int .i64 nI) ?_
    simp only [Act.put, gA, gB, gC, gD, gE, gF]
    refine wl_take (v := .bool false) (by kernel_rfl) (by (go_simp <;> first | omega | simp_all | (simp; omega))) ?_
    simp only [Act.put, gA, gB, gC, gD, gE, gF]
    refine wlT (.bool false) ?_
    simp only [Act.put, gA, gB, gC, gD, gE, gF]
    refine wlT (.bool false) ?_
    simp only [Act.put, gA, gB, gC, gD, gE, gF]
    refine wlT (.int .i64 sI) ?_
    simp only [Act.put, gA, gB, gC, gD, gE, gF]
    refine wl_take (v := .bool true) (by kernel_rfl) (by (go_simp <;> first | omega | simp_all | (simp; omega))) ?_
    simp only [Act.put, gA, gB, gC, gD, gE, gF]
    refine wlT (.bool true) ?_
    simp only [Act.put, gA, gB, gC, gD, gE, gF]
    refine wlT (.bool true) ?_
    simp only [Act.put, gA, gB, gC, gD, gE, gF]
    refine wlS ?_
    simp only [Act.put, gA, gB, gC, gD, gE, gF]
    refine wlS ?_
    simp only [Act.put, gA, gB, gC, gD, gE, gF]
    refine wlS ?_
    simp only [Act.put, gA, gB, gC, gD, gE, gF]
    refine wlT (.bool true) ?_
    simp only [Act.put, gA, gB, gC, gD, gE, gF]
    refine wlT (.bool true) ?_
    simp only [Act.put, gA, gB, gC, gD, gE, gF]
    refine wlS ?_
    simp only [Act.put, gA, gB, gC, gD, gE, gF]
    refine wlS ?_
    simp only [Act.put, gA, gB, gC, gD, gE, gF]
    refine wlT (.bool true) ?_
    simp only [Act.put, gA, gB, gC, gD, gE, gF]
    refine wlT (.bool true) ?_
    simp only [Act.put, gA, gB, gC, gD, gE, gF]
    refine wlS ?_
    simp only [Act.put, gA, gB, gC, gD, gE, gF]
    refine wlS ?_
    simp only [Act.put, gA, gB, gC, gD, gE, gF]
    refine wlT (.bool true) ?_
    simp only [Act.put, gA, gB, gC, gD, gE, gF]
    refine wlT (.bool true) ?_
    simp only [Act.put, gA, gB, gC, gD, gE, gF]
    refine wlS ?_
    simp only [Act.put, gA, gB, gC, gD, gE, gF]
    refine wlS ?_
    simp only [Act.put, gA, gB, gC, gD, gE, gF]
    refine wlT (.bool true) ?_
    simp only [Act.put, gA, gB, gC, gD, gE, gF]
    refine wlT (.bool true) ?_
    simp only [Act.put, gA, gB, gC, gD, gE, gF]
    refine wlS ?_
    simp only [Act.put, gA, gB, gC, gD, gE, gF]
    refine wlS ?_
    simp only [Act.put, gA, gB, gC, gD, gE, gF]
    refine wlT (.bool true) ?_
    simp only [Act.put, gA, gB, gC, gD, gE, gF]
    refine ⟨?_⟩
    go_wp2
    (try simp only [Exit.inBlock, Exit.then]); refine bodyPost_ret (results_tmp2 rfl _ _ _) rfl ?_
    exact ⟨rfl, rfl⟩
  · skip
    go_enter Try.func6, Try.ntmps6
    go_wp2_with (first | (refine wl_at 15 rfl ?_) | fail)
    refine wl_take (v := .bool false) (by kernel_rfl) (by (go_simp <;> first | omega | simp_all | (simp; omega))) ?_
    simp only [Act.put, gA, gB, gC, gD, gE, gF]
    refine wlT (.bool false) ?_
    simp only [Act.put, gA, gB, gC, gD, gE, gF]
    refine wlT (.int .i64 nI) ?_
    simp only [Act.put, gA, gB, gC, gD, gE, gF]
    refine wl_take (v := .bool false) (by kernel_rfl) (by (go_simp <;> first | omega | simp_all | (simp; omega))) ?_
    simp only [Act.put, gA, gB, gC, gD, gE, gF]
    refine wlT (.bool false) ?_
    simp only [Act.put, gA, gB, gC, gD, gE, gF]
    refine wlT (.bool false) ?_
    simp only [Act.put, gA, gB, gC, gD, gE, gF]
    refine wlT (.int .i64 sI) ?_
    simp only [Act.put, gA, gB, gC, gD, gE, gF]
    refine wl_take (v := .bool false) (by kernel_rfl) (by (go_simp <;> first | omega | simp_all | (simp; omega))) ?_
    simp only [Act.put, gA, gB, gC, gD, gE, gF]
    refine wlT (.bool false) ?_
    simp only [Act.put, gA, gB, gC, gD, gE, gF]
    refine wlT (.bool false) ?_
    simp only [Act.put, gA, gB, gC, gD, gE, gF]
    refine wlT (.int .i64 sI) ?_
    simp only [Act.put, gA, gB, gC, gD, gE, gF]
    refine wlT (.int .i64 nI) ?_
    simp only [Act.put, gA, gB, gC, gD, gE, gF]
    refine wl_take (v := .bool true) (by kernel_rfl) (by (go_simp <;> first | omega | simp_all | (simp; omega))) ?_
    simp only [Act.put, gA, gB, gC, gD, gE, gF]
    refine wlT (.bool true) ?_
    simp only [Act.put, gA, gB, gC, gD, gE, gF]
    refine wlT (.bool true) ?_
    simp only [Act.put, gA, gB, gC, gD, gE, gF]
    refine wlS ?_
    simp only [Act.put, gA, gB, gC, gD, gE, gF]
    refine wlS ?_
    simp only [Act.put, gA, gB, gC, gD, gE, gF]
    refine wlT (.bool true) ?_
    simp only [Act.put, gA, gB, gC, gD, gE, gF]
    refine wlT (.bool true) ?_
    simp only [Act.put, gA, gB, gC, gD, gE, gF]
    refine wlS ?_
    simp only [Act.put, gA, gB, gC, gD, gE, gF]
    refine wlS ?_
    simp only [Act.put, gA, gB, gC, gD, gE, gF]
    refine wlT (.bool true) ?_
    simp only [Act.put, gA, gB, gC, gD, gE, gF]
    refine wlT (.bool true) ?_
    simp only [Act.put, gA, gB, gC, gD, gE, gF]
    refine wlS ?_
    simp only [Act.put, gA, gB, gC, gD, gE, gF]
    refine wlS ?_
    simp only [Act.put, gA, gB, gC, gD, gE, gF]
    refine wlT (.bool true) ?_
    simp only [Act.put, gA, gB, gC, gD, gE, gF]
    refine wlT (.bool true) ?_
    simp only [Act.put, gA, gB, gC, gD, gE, gF]
    refine wlS ?_
    simp only [Act.put, gA, gB, gC, gD, gE, gF]
    refine wlS ?_
    simp only [Act.put, gA, gB, gC, gD, gE, gF]
    refine wlT (.bool true) ?_
    simp only [Act.put, gA, gB, gC, gD, gE, gF]
    refine ⟨?_⟩
    go_wp2
    (try simp only [Exit.inBlock, Exit.then]); refine bodyPost_ret (results_tmp2 rfl _ _ _) rfl ?_
    exact ⟨rfl, rfl⟩
  · skip
    go_enter Try.func6, Try.ntmps6
    go_wp2_with (first | (refine wl_at 15 rfl ?_) | fail)
    refine wl_take (v := .bool false) (by kernel_rfl) (by (go_simp <;> first | omega | simp_all | (simp; omega))) ?_
    simp only [Act.put, gA, gB, gC, gD, gE, gF]
    refine wlT (.bool false) ?_
    simp only [Act.put, gA, gB, gC, gD, gE, gF]
    refine wlT (.int .i64 nI) ?_
    simp only [Act.put, gA, gB, gC, gD, gE, gF]
    refine wl_take (v := .bool false) (by kernel_rfl) (by (go_simp <;> first | omega | simp_all | (simp; omega))) ?_
    simp only [Act.put, gA, gB, gC, gD, gE, gF]
    refine wlT (.bool false) ?_
    simp only [Act.put, gA, gB, gC, gD, gE, gF]
    refine wlT (.bool false) ?_
    simp only [Act.put, gA, gB, gC, gD, gE, gF]
    refine wlT (.int .i64 sI) ?_
    simp only [Act.put, gA, gB, gC, gD, gE, gF]
    refine wl_take (v := .bool false) (by kernel_rfl) (by (go_simp <;> first | omega | simp_all | (simp; omega))) ?_
    simp only [Act.put, gA, gB, gC, gD, gE, gF]
    refine wlT (.bool false) ?_
    simp only [Act.put, gA, gB, gC, gD, gE, gF]
    refine wlT (.bool false) ?_
    simp only [Act.put, gA, gB, gC, gD, gE, gF]
    refine wlT (.int .i64 sI) ?_
    simp only [Act.put, gA, gB, gC, gD, gE, gF]
    refine wlT (.int .i64 nI) ?_
    simp only [Act.put, gA, gB, gC, gD, gE, gF]
    refine wl_take (v := .bool false) (by kernel_rfl) (by (go_simp <;> first | omega | simp_all | (simp; omega))) ?_
    simp only [Act.put, gA, gB, gC, gD, gE, gF]
    refine wlT (.bool false) ?_
    simp only [Act.put, gA, gB, gC, gD, gE, gF]
    refine wlT (.bool false) ?_
    simp only [Act.put, gA, gB, gC, gD, gE, gF]
    refine wlT (.int .i64 inc) ?_
    simp only [Act.put, gA, gB, gC, gD, gE, gF]
    refine wl_take (v := .bool true) (by kernel_rfl) (by (go_simp <;> first | omega | simp_all | (simp; omega))) ?_
    simp only [Act.put, gA, gB, gC, gD, gE, gF]
    refine wlT (.bool true) ?_
    simp only [Act.put, gA, gB, gC, gD, gE, gF]
    refine wlT (.bool true) ?_
    simp only [Act.put, gA, gB, gC, gD, gE, gF]
    refine wlS ?_
    simp only [Act.put, gA, gB, gC, gD, gE, gF]
    refine wlS ?_
    simp only [Act.put, gA, gB, gC, gD, gE, gF]
    refine wlT (.bool true) ?_
    simp only [Act.put, gA, gB, gC, gD, gE, gF]
    refine wlT (.bool true) ?_
    simp only [Act.put, gA, gB, gC, gD, gE, gF]
    refine wlS ?_
    simp only [Act.put, gA, gB, gC, gD, gE, gF]
    refine wlS ?_
    simp only [Act.put, gA, gB, gC, gD, gE, gF]
    refine wlT (.bool true) ?_
    simp only [Act.put, gA, gB, gC, gD, gE, gF]
    refine wlT (.bool true) ?_
    simp only [Act.put, gA, gB, gC, gD, gE, gF]
    refine wlS ?_
    simp only [Act.put, gA, gB, gC, gD, gE, gF]
    refine wlS ?_
    simp only [Act.put, gA, gB, gC, gD, gE, gF]
    refine wlT (.bool true) ?_
    simp only [Act.put, gA, gB, gC, gD, gE, gF]
    refine ⟨?_⟩
    go_wp2
    (try simp only [Exit.inBlock, Exit.then]); refine bodyPost_ret (results_tmp2 rfl _ _ _) rfl ?_
    exact ⟨rfl, rfl⟩
  · skip
    go_enter Try.func6, Try.ntmps6
    go_wp2_with (first | (refine wl_at 15 rfl ?_) | fail)
    refine wl_take (v := .bool false) (by kernel_rfl) (by (go_simp <;> first | omega | simp_all | (simp; omega))) ?_
    simp only [Act.put, gA, gB, gC, gD, gE, gF]
    refine wlT (.bool false) ?_
    simp only [Act.put, gA, gB, gC, gD, gE, gF]
    refine wlT (.int .i64 nI) ?_
    simp only [Act.put, gA, gB, gC, gD, gE, gF]
    refine wl_take (v := .bool false) (by kernel_rfl) (by (go_simp <;> first | omega | simp_all | (simp; omega))) ?_
    simp only [Act.put, gA, gB, gC, gD, gE, gF]
    refine wlT (.bool false) ?_
    simp only [Act.put, gA, gB, gC, gD, gE, gF]
    refine wlT (.bool false) ?_
    simp only [Act.put, gA, gB, gC, gD, gE, gF]
    refine wlT (.int .i64 sI) ?_
    simp only [Act.put, gA, gB, gC, gD, gE, gF]
    refine wl_take (v := .bool false) (by kernel_rfl) (by (go_simp <;> first | omega | simp_all | (simp; omega))) ?_
    simp only [Act.put, gA, gB, gC, gD, gE, gF]
    refine wlT (.bool false) ?_
    simp only [Act.put, gA, gB, gC, gD, gE, gF]
    refine wlT (.bool false) ?_
    simp only [Act.put, gA, gB, gC, gD, gE, gF]
    refine wlT (.int .i64 sI) ?_
    simp only [Act.put, gA, gB, gC, gD, gE, gF]
    refine wlT (.int .i64 nI) ?_
    simp only [Act.put, gA, gB, gC, gD, gE, gF]
    refine wl_take (v := .bool false) (by kernel_rfl) (by (go_simp <;> first | omega | simp_all | (simp; omega))) ?_
    simp only [Act.put, gA, gB, gC, gD, gE, gF]
    refine wlT (.bool false) ?_
    simp only [Act.put, gA, gB, gC, gD, gE, gF]
    refine wlT (.bool false) ?_
    simp only [Act.put, gA, gB, gC, gD, gE, gF]
    refine wlT (.int .i64 inc) ?_
    simp only [Act.put, gA, gB, gC, gD, gE, gF]
    refine wl_take (v := .bool false) (by kernel_rfl) (by (go_simp <;> first | omega | simp_all | (simp; omega))) ?_
    simp only [Act.put, gA, gB, gC, gD, gE, gF]
    refine wlT (.bool false) ?_
    simp only [Act.put, gA, gB, gC, gD, gE, gF]
    refine wlT (.bool false) ?_
    simp only [Act.put, gA, gB, gC, gD, gE, gF]
    refine wlT (.int .i64 inc) ?_
    simp only [Act.put, gA, gB, gC, gD, gE, gF]
    refine wl_take (v := .bool true) (by kernel_rfl) (by (go_simp <;> first | omega | simp_all | (simp; omega))) ?_
    simp only [Act.put, gA, gB, gC, gD, gE, gF]
    refine wlT (.bool true) ?_
    simp only [Act.put, gA, gB, gC, gD, gE, gF]
    refine wlT (.bool true) ?_
    simp only [Act.put, gA, gB, gC, gD, gE, gF]
    refine wlS ?_
    simp only [Act.put, gA, gB, gC, gD, gE, gF]
    refine wlS ?_
    simp only [Act.put, gA, gB, gC, gD, gE, gF]
    refine wlT (.bool true) ?_
    simp only [Act.put, gA, gB, gC, gD, gE, gF]
    refine wlT (.bool true) ?_
    simp only [Act.put, gA, gB, gC, gD, gE, gF]
    refine wlS ?_
    simp only [Act.put, gA, gB, gC, gD, gE, gF]
    refine wlS ?_
    simp only [Act.put, gA, gB, gC, gD, gE, gF]
    refine wlT (.bool true) ?_
    simp only [Act.put, gA, gB, gC, gD, gE, gF]
    refine ⟨?_⟩
    go_wp2
    (try simp only [Exit.inBlock, Exit.then]); refine bodyPost_ret (results_tmp2 rfl _ _ _) rfl ?_
    exact ⟨rfl, rfl⟩
  · skip
    go_enter Try.func6, Try.ntmps6
    go_wp2_with (first | (refine wl_at 15 rfl ?_) | fail)
    refine wl_take (v := .bool false) (by kernel_rfl) (by (go_simp <;> first | omega | simp_all | (simp; omega))) ?_
    simp only [Act.put, gA, gB, gC, gD, gE, gF]
    refine wlT (.bool false) ?_
    simp only [Act.put, gA, gB, gC, gD, gE, gF]
    refine wlT (.int .i64 nI) ?_
    simp only [Act.put, gA, gB, gC, gD, gE, gF]
    refine wl_take (v := .bool false) (by kernel_rfl) (by (go_simp <;> first | omega | simp_all | (simp; omega))) ?_
    simp only [Act.put, gA, gB, gC, gD, gE, gF]
    refine wlT (.bool false) ?_
    simp only [Act.put, gA, gB, gC, gD, gE, gF]
    refine wlT (.bool false) ?_
    simp only [Act.put, gA, gB, gC, gD, gE, gF]
    refine wlT (.int .i64 sI) ?_
    simp only [Act.put, gA, gB, gC, gD, gE, gF]
    refine wl_take (v := .bool false) (by kernel_rfl) (by (go_simp <;> first | omega | simp_all | (simp; omega))) ?_
    simp only [Act.put, gA, gB, gC, gD, gE, gF]
    refine wlT (.bool false) ?_
    simp only [Act.put, gA, gB, gC, gD, gE, gF]
    refine wlT (.bool false) ?_
    simp only [Act.put, gA, gB, gC, gD, gE, gF]
    refine wlT (.int .i64 sI) ?_
    simp only [Act.put, gA, gB, gC, gD, gE, gF]
    refine wlT (.int .i64 nI) ?_
    simp only [Act.put, gA, gB, gC, gD, gE, gF]
    refine wl_take (v := .bool false) (by kernel_rfl) (by (go_simp <;> first | omega | simp_all | (simp; omega))) ?_
    simp only [Act.put, gA, gB, gC, gD, gE, gF]
    refine wlT (.bool false) ?_
    simp only [Act.put, gA, gB, gC, gD, gE, gF]
    refine wlT (.bool false) ?_
    simp only [Act.put, gA, gB, gC, gD, gE, gF]
    refine wlT (.int .i64 inc) ?_
    simp only [Act.put, gA, gB, gC, gD, gE, gF]
    refine wl_take (v := .bool false) (by kernel_rfl) (by (go_simp <;> first | omega | simp_all | (simp; omega))) ?_
    simp only [Act.put, gA, gB, gC, gD, gE, gF]
    refine wlT (.bool false) ?_
    simp only [Act.put, gA, gB, gC, gD, gE, gF]
    refine wlT (.bool false) ?_
    simp only [Act.put, gA, gB, gC, gD, gE, gF]
    refine wlT (.int .i64 inc) ?_
    simp only [Act.put, gA, gB, gC, gD, gE, gF]
    refine wl_take (v := .bool false) (by kernel_rfl) (by (go_simp <;> first | omega | simp_all | (simp; omega))) ?_
    simp only [Act.put, gA, gB, gC, gD, gE, gF]
    refine wlT (.bool false) ?_
    simp only [Act.put, gA, gB, gC, gD, gE, gF]
    refine wlT (.bool false) ?_
    simp only [Act.put, gA, gB, gC, gD, gE, gF]
    refine wlT (.int .i64 fl) ?_
    simp only [Act.put, gA, gB, gC, gD, gE, gF]
    refine wl_take (v := .bool true) (by kernel_rfl) (by (go_simp <;> first | omega | simp_all | (simp; omega))) ?_
    simp only [Act.put, gA, gB, gC, gD, gE, gF]
    refine wlT (.bool true) ?_
    simp only [Act.put, gA, gB, gC, gD, gE, gF]
    refine wlT (.bool true) ?_
    simp only [Act.put, gA, gB, gC, gD, gE, gF]
    refine wlS ?_
    simp only [Act.put, gA, gB, gC, gD, gE, gF]
    refine wlS ?_
    simp only [Act.put, gA, gB, gC, gD, gE, gF]
    refine wlT (.bool true) ?_
    simp only [Act.put, gA, gB, gC, gD, gE, gF]
    refine ⟨?_⟩
    go_wp2
    (try simp only [Exit.inBlock, Exit.then]); refine bodyPost_ret (results_tmp2 rfl _ _ _) rfl ?_
    exact ⟨rfl, rfl⟩
  · skip
    go_enter Try.func6, Try.ntmps6
    go_wp2_with (first | (refine wl_at 15 rfl ?_) | fail)
    refine wl_take (v := .bool false) (by kernel_rfl) (by (go_simp <;> first | omega | simp_all | (simp; omega))) ?_
    simp only [Act.put, gA, gB, gC, gD, gE, gF]
    refine wlT (.bool false) ?_
    simp only [Act.put, gA, gB, gC, gD, gE, gF]
    refine wlT (.int .i64 nI) ?_
    simp only [Act.put, gA, gB, gC, gD, gE, gF]
    refine wl_take (v := .bool false) (by kernel_rfl) (by (go_simp <;> first | omega | simp_all | (simp; omega))) ?_
    simp only [Act.put, gA, gB, gC, gD, gE, gF]
    refine wlT (.bool false) ?_
    simp only [Act.put, gA, gB, gC, gD, gE, gF]
    refine wlT (.bool false) ?_
    simp only [Act.put, gA, gB, gC, gD, gE, gF]
    refine wlT (.int .i64 sI) ?_
    simp only [Act.put, gA, gB, gC, gD, gE, gF]
    refine wl_take (v := .bool false) (by kernel_rfl) (by (go_simp <;> first | omega | simp_all | (simp; omega))) ?_
    simp only [Act.put, gA, gB, gC, gD, gE, gF]
    refine wlT (.bool false) ?_
    simp only [Act.put, gA, gB, gC, gD, gE, gF]
    refine wlT (.bool false) ?_
    simp only [Act.put, gA, gB, gC, gD, gE, gF]
    refine wlT (.int .i64 sI) ?_
    simp only [Act.put, gA, gB, gC, gD, gE, gF]
    refine wlT (.int .i64 nI) ?_
    simp only [Act.put, gA, gB, gC, gD, gE, gF]
    refine wl_take (v := .bool false) (by kernel_rfl) (by (go_simp <;> first | omega | simp_all | (simp; omega))) ?_
    simp only [Act.put, gA, gB, gC, gD, gE, gF]
    refine wlT (.bool false) ?_
    simp only [Act.put, gA, gB, gC, gD, gE, gF]
    refine wlT (.bool false) ?_
    simp only [Act.put, gA, gB, gC, gD, gE, gF]
    refine wlT (.int .i64 inc) ?_
    simp only [Act.put, gA, gB, gC, gD, gE, gF]
    refine wl_take (v := .bool false) (by kernel_rfl) (by (go_simp <;> first | omega | simp_all | (simp; omega))) ?_
    simp only [Act.put, gA, gB, gC, gD, gE, gF]
    refine wlT (.bool false) ?_
    simp only [Act.put, gA, gB, gC, gD, gE, gF]
    refine wlT (.bool false) ?_
    simp only [Act.put, gA, gB, gC, gD, gE, gF]
    refine wlT (.int .i64 inc) ?_
    simp only [Act.put, gA, gB, gC, gD, gE, gF]
    refine wl_take (v := .bool false) (by kernel_rfl) (by (go_simp <;> first | omega | simp_all | (simp; omega))) ?_
    simp only [Act.put, gA, gB, gC, gD, gE, gF]
    refine wlT (.bool false) ?_
    simp only [Act.put, gA, gB, gC, gD, gE, gF]
    refine wlT (.bool false) ?_
    simp only [Act.put, gA, gB, gC, gD, gE, gF]
    refine wlT (.int .i64 fl) ?_
    simp only [Act.put, gA, gB, gC, gD, gE, gF]
    refine wl_take (v := .bool false) (by kernel_rfl) (by (go_simp <;> first | omega | simp_all | (simp; omega))) ?_
    simp only [Act.put, gA, gB, gC, gD, gE, gF]
    refine wlT (.bool false) ?_
    simp only [Act.put, gA, gB, gC, gD, gE, gF]
    refine wlT (.bool false) ?_
    simp only [Act.put, gA, gB, gC, gD, gE, gF]
    refine wlT (.int .i64 fl) ?_
    simp only [Act.put, gA, gB, gC, gD, gE, gF]
    refine wl_take (v := .bool true) (by kernel_rfl) (by (go_simp <;> first | omega | simp_all | (simp; omega))) ?_
    simp only [Act.put, gA, gB, gC, gD, gE, gF]
    refine wlT (.bool true) ?_
    simp only [Act.put, gA, gB, gC, gD, gE, gF]
    refine ⟨?_⟩
    go_wp2
    (try simp only [Exit.inBlock, Exit.then]); refine bodyPost_ret (results_tmp2 rfl _ _ _) rfl ?_
    exact ⟨rfl, rfl⟩
set_option maxHeartbeats 4000000 in
theorem qnew_spent (nI sI inc fl : Int) (hok : newOk nI sI inc fl = true) (hf : fl = 4611686018427387904) : Calls Try.prog 6 #[.int .i64 nI, .int .i64 sI, .int .i64 inc, .int .i64 fl] w fun e w' => e = .returned (.tuple #[.pointer none, .int .i64 3]) ∧ w = w' := by
  have hc := (newOk_iff nI sI inc fl).1 hok
  clear hok
  subst hf
  go_enter Try.func6, Try.ntmps6
  go_wp2_with (first | (refine wl_at 15 rfl ?_) | fail)
  refine wl_take (v := .bool false) (by kernel_rfl) (by (go_simp <;> first | omega | simp_all | (simp; omega))) ?_
  simp only [Act.put, gA, gB, gC, gD, gE, gF]
  refine wlT (.bool false) ?_
  simp only [Act.put, gA, gB, gC, gD, gE, gF]
  refine wlT (.int .i64 nI) ?_
  simp only [Act.put, gA, gB, gC, gD, gE, gF]
  refine wl_take (v := .bool false) (by kernel_rfl) (by (go_simp <;> first | omega | simp_all | (simp; omega))) ?_
  simp only [Act.put, gA, gB, gC, gD, gE, gF]
  refine wlT (.bool false) ?_
  simp only [Act.put, gA, gB, gC, gD, gE, gF]
  refine wlT (.bool false) ?_
  simp only [Act.put, gA, gB, gC, gD, gE, gF]
  refine wlT (.int .i64 sI) ?_
  simp only [Act.put, gA, gB, gC, gD, gE, gF]
  refine wl_take (v := .bool false) (by kernel_rfl) (by (go_simp <;> first | omega | simp_all | (simp; omega))) ?_
  simp only [Act.put, gA, gB, gC, gD, gE, gF]
  refine wlT (.bool false) ?_
  simp only [Act.put, gA, gB, gC, gD, gE, gF]
  refine wlT (.bool false) ?_
  simp only [Act.put, gA, gB, gC, gD, gE, gF]
  refine wlT (.int .i64 sI) ?_
  simp only [Act.put, gA, gB, gC, gD, gE, gF]
  refine wlT (.int .i64 nI) ?_
  simp only [Act.put, gA, gB, gC, gD, gE, gF]
  refine wl_take (v := .bool false) (by kernel_rfl) (by (go_simp <;> first | omega | simp_all | (simp; omega))) ?_
  simp only [Act.put, gA, gB, gC, gD, gE, gF]
  refine wlT (.bool false) ?_
  simp only [Act.put, gA, gB, gC, gD, gE, gF]
  refine wlT (.bool false) ?_
  simp only [Act.put, gA, gB, gC, gD, gE, gF]
  refine wlT (.int .i64 inc) ?_
  simp only [Act.put, gA, gB, gC, gD, gE, gF]
  refine wl_take (v := .bool false) (by kernel_rfl) (by (go_simp <;> first | omega | simp_all | (simp; omega))) ?_
  simp only [Act.put, gA, gB, gC, gD, gE, gF]
  refine wlT (.bool false) ?_
  simp only [Act.put, gA, gB, gC, gD, gE, gF]
  refine wlT (.bool false) ?_
  simp only [Act.put, gA, gB, gC, gD, gE, gF]
  refine wlT (.int .i64 inc) ?_
  simp only [Act.put, gA, gB, gC, gD, gE, gF]
  refine wl_take (v := .bool false) (by kernel_rfl) (by (go_simp <;> first | omega | simp_all | (simp; omega))) ?_
  simp only [Act.put, gA, gB, gC, gD, gE, gF]
  refine wlT (.bool false) ?_
  simp only [Act.put, gA, gB, gC, gD, gE, gF]
  refine wlT (.bool false) ?_
  simp only [Act.put, gA, gB, gC, gD, gE, gF]
  refine wlT (.int .i64 4611686018427387904) ?_
  simp only [Act.put, gA, gB, gC, gD, gE, gF]
  refine wl_take (v := .bool false) (by kernel_rfl) (by (go_simp <;> first | omega | simp_all | (simp; omega))) ?_
  simp only [Act.put, gA, gB, gC, gD, gE, gF]
  refine wlT (.bool false) ?_
  simp only [Act.put, gA, gB, gC, gD, gE, gF]
  refine wlT (.bool false) ?_
  simp only [Act.put, gA, gB, gC, gD, gE, gF]
  refine wlT (.int .i64 4611686018427387904) ?_
  simp only [Act.put, gA, gB, gC, gD, gE, gF]
  refine wl_take (v := .bool false) (by kernel_rfl) (by (go_simp <;> first | omega | simp_all | (simp; omega))) ?_
  simp only [Act.put, gA, gB, gC, gD, gE, gF]
  refine wlT (.bool false) ?_
  simp only [Act.put, gA, gB, gC, gD, gE, gF]
  refine ⟨?_⟩
  go_wp2
  (try simp only [Exit.inBlock, Exit.then]); refine bodyPost_ret (results_tmp2 rfl _ _ _) rfl ?_
  exact ⟨rfl, rfl⟩
def ssL (s : Nat) (x : Int) (k : Nat) : List Int := (List.range k).map fun i => if i = s then x else 0
theorem ssL_next (s : Nat) (x : Int) (k : Nat) : ints (ssL s x (k + 1)) = ints (ssL s x k) ++ [.int .i64 (if k = s then x else 0)] := by simp [ssL, List.range_succ, ints]
theorem ssL_len (s : Nat) (x : Int) (k : Nat) : (ssL s x k).length = k := by simp [ssL]
theorem built_ref (n s inc : Int) : Try.prog.built 57 [(0, .int .i64 n), (1, .int .i64 s), (2, .int .i64 inc), (4, .bool true)] = some [.int .i64 (n : Int), .int .i64 (s : Int), .int .i64 inc, .int .i64 0, .int .i64 0, .int .i64 0, .int .i64 0, .slice none 0 0, .bool true, .slice none 0 0, .int .i64 0, .int .i64 0, .int .i64 0, .int .i64 0, .int .i64 0, .int .i64 0, .int .i64 0, .slice none 0 0, .slice none 0 0].toArray := by kernel_rfl
theorem build_stepG {ops : Array Oper} {rest : List Oper} {o : Oper} {a : Act} {Q : Exit → Act → World → Prop} (t : TypeId) (parts : Array (Nat × Operand)) (cells : Array Value) (ho : o.op = .build t parts) (hg : o.guard = none) (hb : Try.prog.built t ((parts.map fun (i, x) => (i, a.eval x)).toList) = some cells) (h : wpList Try.prog ops Q rest (a.put o.dst (.agg cells)) w) : wpList Try.prog ops Q (o :: rest) a w := by
  refine wpList_build hg t _ ho (by rw [hb]; rfl) ?_
  rw [hb]
  exact h
structure NS (w wr : World) (n s : Nat) (inc fl : Int) (k j : Nat) (vS vV : Value) : Prop where
  blk : wr.heap[w.heap.size]? = some (.cells [.int .i64 (n : Int), .int .i64 (s : Int), .int .i64 inc, .int .i64 0, .int .i64 0, .int .i64 0, .int .i64 0, .slice none 0 0, .bool true, vS, .int .i64 0, .int .i64 0, .int .i64 0, .int .i64 0, .int .i64 0, .int .i64 0, .int .i64 0, vV, .slice none 0 0].toArray 57 (0, 0))
  os : wr.ownsRow w.heap.size 3 1 vS k (ints (ssL s inc k))
  ov : wr.ownsRow w.heap.size 3 1 vV j (ints (ssL s (fl + 1) j))
  sep : ∀ g, vS.ownBlock = some g → vV.ownBlock = some g → False
  bl : Below w.heap.size w wr
theorem NS.putS {wr w3 : World} {n s k j : Nat} {inc fl : Int} {vS vV : Value} {o : Obj} (h : NS w wr n s inc fl k j vS vV) {g3 cap3 : Nat} (ho : w3.ownsRow w.heap.size 3 1 (.slice (some ⟨g3, 0, none⟩) (k + 1) cap3) (k + 1) (ints (ssL s inc k) ++ [.int .i64 (if k = s then inc else 0)])) (hg : (wr.alloc o).grownBy w3 vS.ownBlock) (hat : vS.ownBlock = some g3 ∨ g3 = (wr.alloc o).heap.size) : w3.cell? ⟨w.heap.size, 9, none⟩ = some vS ∧ w3.frozen? ⟨w.heap.size, 9, none⟩ = false ∧ NS w (w3.setCell ⟨w.heap.size, 9, none⟩ (.slice (some ⟨g3, 0, none⟩) (k + 1) cap3)) n s inc fl (k + 1) j (.slice (some ⟨g3, 0, none⟩) (k + 1) cap3) vV := by
  have ba : Below wr.heap.size wr (wr.alloc o) := balloc (Below.refl _ _)
  have k1 := (ba.block _ (lt_heap h.blk)).trans h.blk
  have osA := own_still h.os ba
  have ovA := own_still h.ov ba
  have kg := Kept.ofGrown hg
  have k3 := kg.obj k1 (fun e => own_ne osA k1 (by decide) _ e.symm rfl)
  have ov3 := kg.owns ovA (fun q hq e => h.sep q e.symm hq)
  have kk : Kept w3 (w3.setCell ⟨w.heap.size, 9, none⟩ (.slice (some ⟨g3, 0, none⟩) (k + 1) cap3)) (fun j => j = w.heap.size) := kset _ _ _ _ rfl
  have bg : Below w.heap.size w w3 := (bstep h.bl ba).grown hg (by have := h.bl.size; have := ba.size; omega) (fun q hq => (World.ownsRow.lt osA q hq).1)
  refine ⟨blk_cell k3 9, frozen_of_row w3 _ _ _ _ k3, blk_set k3 rfl, ?_, kk.owns ov3 (own_ne ov3 k3 (by decide)), fun g e1 e2 => ?_, bg.trans (kk.below bg.size (fun q hq e => by omega))⟩
  · rw [ssL_next]
    exact kk.owns ho (own_ne ho k3 (by decide))
  · obtain rfl : g3 = g := by simpa [Value.ownBlock] using e1
    rcases hat with hat | hat
    · exact h.sep _ hat e2
    · have := (World.ownsRow.lt ovA _ e2).2
      omega
theorem NS.putV {wr w3 : World} {n s k j : Nat} {inc fl : Int} {vS vV : Value} {o : Obj} (h : NS w wr n s inc fl k j vS vV) {g3 cap3 : Nat} (ho : w3.ownsRow w.heap.size 3 1 (.slice (some ⟨g3, 0, none⟩) (j + 1) cap3) (j + 1) (ints (ssL s (fl + 1) j) ++ [.int .i64 (if j = s then fl + 1 else 0)])) (hg : (wr.alloc o).grownBy w3 vV.ownBlock) (hat : vV.ownBlock = some g3 ∨ g3 = (wr.alloc o).heap.size) : w3.cell? ⟨w.heap.size, 17, none⟩ = some vV ∧ w3.frozen? ⟨w.heap.size, 17, none⟩ = false ∧ NS w (w3.setCell ⟨w.heap.size, 17, none⟩ (.slice (some ⟨g3, 0, none⟩) (j + 1) cap3)) n s inc fl k (j + 1) vS (.slice (some ⟨g3, 0, none⟩) (j + 1) cap3) := by
  have ba : Below wr.heap.size wr (wr.alloc o) := balloc (Below.refl _ _)
  have k1 := (ba.block _ (lt_heap h.blk)).trans h.blk
  have osA := own_still h.os ba
  have ovA := own_still h.ov ba
  have kg := Kept.ofGrown hg
  have k3 := kg.obj k1 (fun e => own_ne ovA k1 (by decide) _ e.symm rfl)
  have os3 := kg.owns osA (fun q hq e => h.sep q hq e.symm)
  have kk : Kept w3 (w3.setCell ⟨w.heap.size, 17, none⟩ (.slice (some ⟨g3, 0, none⟩) (j + 1) cap3)) (fun j => j = w.heap.size) := kset _ _ _ _ rfl
  have bg : Below w.heap.size w w3 := (bstep h.bl ba).grown hg (by have := h.bl.size; have := ba.size; omega) (fun q hq => (World.ownsRow.lt ovA q hq).1)
  refine ⟨blk_cell k3 17, frozen_of_row w3 _ _ _ _ k3, blk_set k3 rfl, kk.owns os3 (own_ne os3 k3 (by decide)), ?_, fun g e1 e2 => ?_, bg.trans (kk.below bg.size (fun q hq e => by omega))⟩
  · rw [ssL_next]
    exact kk.owns ho (own_ne ho k3 (by decide))
  · obtain rfl : g3 = g := by simpa [Value.ownBlock] using e2
    rcases hat with hat | hat
    · exact h.sep _ e1 hat
    · have := (World.ownsRow.lt osA _ e1).2
      omega
structure RNew (R : Rg) (n s : Nat) (inc fl : Int) : Prop where
  en : R.n = n
  eself : R.self = s
  einc : R.inc = inc
  id : R.id = [0, 0, 0, 0]
  k : R.k = 0
  ms : R.ms = []
  op : R.op = true
  ss : R.own.ss = ssL s inc n
  vs : R.own.vs = ssL s (fl + 1) n
  cid : R.own.cid = fl + 1
  rev : R.own.rev = 1
  top : R.own.top = fl
  prev : R.own.prev = [0, 0, 0, 0]
  all : R.all = []
set_option maxHeartbeats 8000000 in
theorem qnew_yes (n s : Nat) (inc fl : Int) (h16 : 1 ≤ n ∧ n ≤ 16 ∧ s < n) (hok : newOk (n : Int) (s : Int) inc fl = true) (hf : fl < 4611686018427387904) : Calls Try.prog 6 #[.int .i64 (n : Int), .int .i64 (s : Int), .int .i64 inc, .int .i64 fl] w fun e w' => ∃ R : Rg, e = .returned (.tuple #[.pointer (some ⟨R.b, 0, none⟩), .int .i64 0]) ∧ R.Ok w' w.heap.size ∧ RNew R n s inc fl ∧ Below w.heap.size w w' := by
  have hc := (newOk_iff (n : Int) (s : Int) inc fl).1 hok
  obtain ⟨i0, hi, hz0, hz1, hz2⟩ := info_parts info_i
  have hne : (fl == 4611686018427387904) = false := by simp; omega
  have hfl1 : 0 ≤ fl := by omega
  have HC : Hid (Try.prog.built 57 [(0, .int .i64 (n : Int)), (1, .int .i64 (s : Int)), (2, .int .i64 inc), (4, .bool true)] = some [.int .i64 (n : Int), .int .i64 (s : Int), .int .i64 inc, .int .i64 0, .int .i64 0, .int .i64 0, .int .i64 0, .slice none 0 0, .bool true, .slice none 0 0, .int .i64 0, .int .i64 0, .int .i64 0, .int .i64 0, .int .i64 0, .int .i64 0, .int .i64 0, .slice none 0 0, .slice none 0 0].toArray) := built_ref _ _ _
  generalize hW1 : w.alloc (.cells [.int .i64 (n : Int), .int .i64 (s : Int), .int .i64 inc, .int .i64 0, .int .i64 0, .int .i64 0, .int .i64 0, .slice none 0 0, .bool true, .slice none 0 0, .int .i64 0, .int .i64 0, .int .i64 0, .int .i64 0, .int .i64 0, .int .i64 0, .int .i64 0, .slice none 0 0, .slice none 0 0].toArray 57) = W1
  have b1 : Below w.heap.size w W1 := by rw [← hW1]; exact balloc (Below.refl _ _)
  have k1 : W1.heap[w.heap.size]? = some (.cells [.int .i64 (n : Int), .int .i64 (s : Int), .int .i64 inc, .int .i64 0, .int .i64 0, .int .i64 0, .int .i64 0, .slice none 0 0, .bool true, .slice none 0 0, .int .i64 0, .int .i64 0, .int .i64 0, .int .i64 0, .int .i64 0, .int .i64 0, .int .i64 0, .slice none 0 0, .slice none 0 0].toArray 57 (0, 0)) := by rw [← hW1]; exact heap_alloc_new w _
  have HS : Hid (NS w W1 n s inc fl 0 0 (.slice none 0 0) (.slice none 0 0)) := ⟨k1, row_nil _ _ _ _, row_nil _ _ _ _, fun g e => by simp [Value.ownBlock] at e, b1⟩
  simp only [List.toArray] at hW1
  clear hok b1 k1
  go_enter Try.func6, Try.ntmps6
  go_wp2_with (first | (refine wl_at 15 rfl ?_) | fail)
  refine wl_take (v := .bool false) (by kernel_rfl) (by (go_simp <;> first | omega | simp_all | (simp; omega))) ?_
  simp only [Act.put, gA, gB, gC, gD, gE, gF]
  refine wlT (.bool false) ?_
  simp only [Act.put, gA, gB, gC, gD, gE, gF]
  refine wlT (.int .i64 (n : Int)) ?_
  simp only [Act.put, gA, gB, gC, gD, gE, gF]
  refine wl_take (v := .bool false) (by kernel_rfl) (by (go_simp <;> first | omega | simp_all | (simp; omega))) ?_
  simp only [Act.put, gA, gB, gC, gD, gE, gF]
  refine wlT (.bool false) ?_
  simp only [Act.put, gA, gB, gC, gD, gE, gF]
  refine wlT (.bool false) ?_
  simp only [Act.put, gA, gB, gC, gD, gE, gF]
  refine wlT (.int .i64 (s : Int)) ?_
  simp only [Act.put, gA, gB, gC, gD, gE, gF]
  refine wl_take (v := .bool false) (by kernel_rfl) (by (go_simp <;> first | omega | simp_all | (simp; omega))) ?_
  simp only [Act.put, gA, gB, gC, gD, gE, gF]
  refine wlT (.bool false) ?_
  simp only [Act.put, gA, gB, gC, gD, gE, gF]
  refine wlT (.bool false) ?_
  simp only [Act.put, gA, gB, gC, gD, gE, gF]
  refine wlT (.int .i64 (s : Int)) ?_
  simp only [Act.put, gA, gB, gC, gD, gE, gF]
  refine wlT (.int .i64 (n : Int)) ?_
  simp only [Act.put, gA, gB, gC, gD, gE, gF]
  refine wl_take (v := .bool false) (by kernel_rfl) (by (go_simp <;> first | omega | simp_all | (simp; omega))) ?_
  simp only [Act.put, gA, gB, gC, gD, gE, gF]
  refine wlT (.bool false) ?_
  simp only [Act.put, gA, gB, gC, gD, gE, gF]
  refine wlT (.bool false) ?_
  simp only [Act.put, gA, gB, gC, gD, gE, gF]
  refine wlT (.int .i64 inc) ?_
  simp only [Act.put, gA, gB, gC, gD, gE, gF]
  refine wl_take (v := .bool false) (by kernel_rfl) (by (go_simp <;> first | omega | simp_all | (simp; omega))) ?_
  simp only [Act.put, gA, gB, gC, gD, gE, gF]
  refine wlT (.bool false) ?_
  simp only [Act.put, gA, gB, gC, gD, gE, gF]
  refine wlT (.bool false) ?_
  simp only [Act.put, gA, gB, gC, gD, gE, gF]
  refine wlT (.int .i64 inc) ?_
  simp only [Act.put, gA, gB, gC, gD, gE, gF]
  refine wl_take (v := .bool false) (by kernel_rfl) (by (go_simp <;> first | omega | simp_all | (simp; omega))) ?_
  simp only [Act.put, gA, gB, gC, gD, gE, gF]
  refine wlT (.bool false) ?_
  simp only [Act.put, gA, gB, gC, gD, gE, gF]
  refine wlT (.bool false) ?_
  simp only [Act.put, gA, gB, gC, gD, gE, gF]
  refine wlT (.int .i64 fl) ?_
  simp only [Act.put, gA, gB, gC, gD, gE, gF]
  refine wl_take (v := .bool false) (by kernel_rfl) (by (go_simp <;> first | omega | simp_all | (simp; omega))) ?_
  simp only [Act.put, gA, gB, gC, gD, gE, gF]
  refine wlT (.bool false) ?_
  simp only [Act.put, gA, gB, gC, gD, gE, gF]
  refine wlT (.bool false) ?_
  simp only [Act.put, gA, gB, gC, gD, gE, gF]
  refine wlT (.int .i64 fl) ?_
  simp only [Act.put, gA, gB, gC, gD, gE, gF]
  refine wl_take (v := .bool false) (by kernel_rfl) (by (go_simp <;> first | omega | simp_all | (simp; omega))) ?_
  simp only [Act.put, gA, gB, gC, gD, gE, gF]
  refine wlT (.bool false) ?_
  simp only [Act.put, gA, gB, gC, gD, gE, gF]
  refine ⟨?_⟩
  go_wp2_with (first | (refine build_stepG 57 _ _ rfl rfl (built_eq (by kernel_rfl) HC.out) ?_) | fail)
  go_loopw [11] (fun v11 wr => ∃ (k : Nat) (vS vV : Value), k ≤ n ∧ v11 = .int .i64 (k : Int) ∧ NS w wr n s inc fl k k vS vV) (fun v11 _ => n - (intOf v11).toNat)
  case atStart => exact ⟨0, _, _, Nat.zero_le _, rfl, HS.out⟩
  case round =>
    obtain ⟨k, vS, vV, hk, rfl, hns⟩ := hrel
    clear HC HS hW1
    by_cases hlt : k < n
    · have HNS0 : Hid (NS w wr n s inc fl k k vS vV) := hns
      have c9 : wr.cell? ⟨w.heap.size, 9, none⟩ = some vS := blk_cell hns.blk 9
      have hos := hns.os
      have hws := hns.bl.size
      generalize hIS : ints (ssL s inc k) = IS at hos
      have HOS : Hid (wr.ownsRow w.heap.size 3 1 vS k IS) := hos
      have i1' : (0 : Int) ≤ (k : Int) := Int.natCast_nonneg _
      have i2' : (k : Int) < (n : Int) := by omega
      have hQX : (if k = s then inc else 0) = (if k = s then inc else 0) := rfl
      have HPSg : ∀ x, (if k = s then inc else 0) = x → ∀ (g3 cap3 : Nat) (w3 : World) (o : Obj), w3.ownsRow w.heap.size 3 1 (.slice (some ⟨g3, 0, none⟩) (k + 1) cap3) (k + 1) (IS ++ [.int .i64 x]) → (wr.alloc o).grownBy w3 vS.ownBlock → (vS.ownBlock = some g3 ∨ g3 = (wr.alloc o).heap.size) → w3.cell? ⟨w.heap.size, 9, none⟩ = some vS ∧ w3.frozen? ⟨w.heap.size, 9, none⟩ = false ∧ NS w (w3.setCell ⟨w.heap.size, 9, none⟩ (.slice (some ⟨g3, 0, none⟩) (k + 1) cap3)) n s inc fl (k + 1) k (.slice (some ⟨g3, 0, none⟩) (k + 1) cap3) vV := fun x hx g3 cap3 w3 o ho hg hat => HNS0.out.putS (by rw [hIS, hx]; exact ho) hg hat
      clear hns hos hQX
      by_cases hq : k = s
      · have e1 : ((k : Int) == (s : Int)) = true := by simp [hq]
        have HPS : Hid (∀ (g3 cap3 : Nat) (w3 : World) (o : Obj), w3.ownsRow w.heap.size 3 1 (.slice (some ⟨g3, 0, none⟩) (k + 1) cap3) (k + 1) (IS ++ [.int .i64 inc]) → (wr.alloc o).grownBy w3 vS.ownBlock → (vS.ownBlock = some g3 ∨ g3 = (wr.alloc o).heap.size) → w3.cell? ⟨w.heap.size, 9, none⟩ = some vS ∧ w3.frozen? ⟨w.heap.size, 9, none⟩ = false ∧ NS w (w3.setCell ⟨w.heap.size, 9, none⟩ (.slice (some ⟨g3, 0, none⟩) (k + 1) cap3)) n s inc fl (k + 1) k (.slice (some ⟨g3, 0, none⟩) (k + 1) cap3) vV) := HPSg inc (if_pos hq)
        have HQY : Hid ((if k = s then fl + 1 else 0) = fl + 1) := if_pos hq
        clear HPSg hq
        go_wp2_with (first
          | (at_builtin
             refine wpList_append_lies _ rfl _ _ 36 rfl w.heap.size 3 i0 (.int .i64 0) 1 8 Try.underlying36 hi hz0 hz1 hz2 rfl (by omega) vS k IS rfl (World.ownsRow.alloc HOS.out _) _ 1 1 _ rfl rfl (World.news_of_block (heap_alloc_new _ _)) (by simp [Value.oneCell']) (by omega) (by unfold maxLen; omega) (by omega) (by simp; omega) _ rfl ?_
             intro g3 cap3 w3 hown3 hgrow3 hat3 hlt3
             obtain ⟨y9, z9, hns⟩ := HPS.out g3 cap3 w3 _ (by simpa using hown3) hgrow3 hat3
             generalize hM : w3.setCell ⟨w.heap.size, 9, none⟩ (.slice (some ⟨g3, 0, none⟩) (k + 1) cap3) = M at hns
             have HNS : Hid (NS w M n s inc fl (k + 1) k (.slice (some ⟨g3, 0, none⟩) (k + 1) cap3) vV) := hns
             have c17 : M.cell? ⟨w.heap.size, 17, none⟩ = some vV := blk_cell hns.blk 17
             have hov := hns.ov
             have hMs := hns.bl.size
             generalize hIV : ints (ssL s (fl + 1) k) = IV at hov
             have HOV : Hid (M.ownsRow w.heap.size 3 1 vV k IV) := hov
             have HPV : Hid (∀ (g4 cap4 : Nat) (w4 : World) (o : Obj), w4.ownsRow w.heap.size 3 1 (.slice (some ⟨g4, 0, none⟩) (k + 1) cap4) (k + 1) (IV ++ [.int .i64 (fl + 1)]) → (M.alloc o).grownBy w4 vV.ownBlock → (vV.ownBlock = some g4 ∨ g4 = (M.alloc o).heap.size) → w4.cell? ⟨w.heap.size, 17, none⟩ = some vV ∧ w4.frozen? ⟨w.heap.size, 17, none⟩ = false ∧ NS w (w4.setCell ⟨w.heap.size, 17, none⟩ (.slice (some ⟨g4, 0, none⟩) (k + 1) cap4)) n s inc fl (k + 1) (k + 1) (.slice (some ⟨g3, 0, none⟩) (k + 1) cap3) (.slice (some ⟨g4, 0, none⟩) (k + 1) cap4)) := fun g4 cap4 w4 o ho hg hat => HNS.out.putV (by rw [hIV, HQY.out]; exact ho) hg hat
             clear hown3 hgrow3 hat3 hlt3 hns hov HPS HOS)
          | (at_builtin
             refine wpList_append_lies _ rfl _ _ 36 rfl w.heap.size 3 i0 (.int .i64 0) 1 8 Try.underlying36 hi hz0 hz1 hz2 rfl (by omega) vV k IV rfl (World.ownsRow.alloc HOV.out _) _ 1 1 _ rfl rfl (World.news_of_block (heap_alloc_new _ _)) (by simp [Value.oneCell']) (by omega) (by unfold maxLen; omega) (by omega) (by simp; omega) _ rfl ?_
             intro g4 cap4 w4 hown4 hgrow4 hat4 hlt4
             obtain ⟨y17, z17, hns⟩ := HPV.out g4 cap4 w4 _ (by simpa using hown4) hgrow4 hat4
             generalize hM2 : w4.setCell ⟨w.heap.size, 17, none⟩ (.slice (some ⟨g4, 0, none⟩) (k + 1) cap4) = M2 at hns
             have HE : Hid (∃ (k_1 : Nat) (vS vV : Value), k_1 ≤ n ∧ Value.int .i64 ((k : Int) + 1) = .int .i64 (k_1 : Int) ∧ NS w M2 n s inc fl k_1 k_1 vS vV) := ⟨k + 1, _, _, by omega, by simp, hns⟩
             clear hown4 hgrow4 hat4 hlt4 hns HPV HOV HNS)
          | fail)
        first
          | exact ⟨HE.out, by simp [intOf]; omega⟩
          | (go_roundw
             case rel => exact HE.out
             case measure => simp [intOf]; omega)
      · have e1 : ((k : Int) == (s : Int)) = false := by simp; omega
        have HPS : Hid (∀ (g3 cap3 : Nat) (w3 : World) (o : Obj), w3.ownsRow w.heap.size 3 1 (.slice (some ⟨g3, 0, none⟩) (k + 1) cap3) (k + 1) (IS ++ [.int .i64 0]) → (wr.alloc o).grownBy w3 vS.ownBlock → (vS.ownBlock = some g3 ∨ g3 = (wr.alloc o).heap.size) → w3.cell? ⟨w.heap.size, 9, none⟩ = some vS ∧ w3.frozen? ⟨w.heap.size, 9, none⟩ = false ∧ NS w (w3.setCell ⟨w.heap.size, 9, none⟩ (.slice (some ⟨g3, 0, none⟩) (k + 1) cap3)) n s inc fl (k + 1) k (.slice (some ⟨g3, 0, none⟩) (k + 1) cap3) vV) := HPSg 0 (if_neg hq)
        have HQY : Hid ((if k = s then fl + 1 else 0) = 0) := if_neg hq
        clear HPSg hq
        go_wp2_with (first
          | (at_builtin
             refine wpList_append_lies _ rfl _ _ 36 rfl w.heap.size 3 i0 (.int .i64 0) 1 8 Try.underlying36 hi hz0 hz1 hz2 rfl (by omega) vS k IS rfl (World.ownsRow.alloc HOS.out _) _ 1 1 _ rfl rfl (World.news_of_block (heap_alloc_new _ _)) (by simp [Value.oneCell']) (by omega) (by unfold maxLen; omega) (by omega) (by simp; omega) _ rfl ?_
             intro g3 cap3 w3 hown3 hgrow3 hat3 hlt3
             obtain ⟨y9, z9, hns⟩ := HPS.out g3 cap3 w3 _ (by simpa using hown3) hgrow3 hat3
             generalize hM : w3.setCell ⟨w.heap.size, 9, none⟩ (.slice (some ⟨g3, 0, none⟩) (k + 1) cap3) = M at hns
             have HNS : Hid (NS w M n s inc fl (k + 1) k (.slice (some ⟨g3, 0, none⟩) (k + 1) cap3) vV) := hns
             have c17 : M.cell? ⟨w.heap.size, 17, none⟩ = some vV := blk_cell hns.blk 17
             have hov := hns.ov
             have hMs := hns.bl.size
             generalize hIV : ints (ssL s (fl + 1) k) = IV at hov
             have HOV : Hid (M.ownsRow w.heap.size 3 1 vV k IV) := hov
             have HPV : Hid (∀ (g4 cap4 : Nat) (w4 : World) (o : Obj), w4.ownsRow w.heap.size 3 1 (.slice (some ⟨g4, 0, none⟩) (k + 1) cap4) (k + 1) (IV ++ [.int .i64 0]) → (M.alloc o).grownBy w4 vV.ownBlock → (vV.ownBlock = some g4 ∨ g4 = (M.alloc o).heap.size) → w4.cell? ⟨w.heap.size, 17, none⟩ = some vV ∧ w4.frozen? ⟨w.heap.size, 17, none⟩ = false ∧ NS w (w4.setCell ⟨w.heap.size, 17, none⟩ (.slice (some ⟨g4, 0, none⟩) (k + 1) cap4)) n s inc fl (k + 1) (k + 1) (.slice (some ⟨g3, 0, none⟩) (k + 1) cap3) (.slice (some ⟨g4, 0, none⟩) (k + 1) cap4)) := fun g4 cap4 w4 o ho hg hat => HNS.out.putV (by rw [hIV, HQY.out]; exact ho) hg hat
             clear hown3 hgrow3 hat3 hlt3 hns hov HPS HOS)
          | (at_builtin
             refine wpList_append_lies _ rfl _ _ 36 rfl w.heap.size 3 i0 (.int .i64 0) 1 8 Try.underlying36 hi hz0 hz1 hz2 rfl (by omega) vV k IV rfl (World.ownsRow.alloc HOV.out _) _ 1 1 _ rfl rfl (World.news_of_block (heap_alloc_new _ _)) (by simp [Value.oneCell']) (by omega) (by unfold maxLen; omega) (by omega) (by simp; omega) _ rfl ?_
             intro g4 cap4 w4 hown4 hgrow4 hat4 hlt4
             obtain ⟨y17, z17, hns⟩ := HPV.out g4 cap4 w4 _ (by simpa using hown4) hgrow4 hat4
             generalize hM2 : w4.setCell ⟨w.heap.size, 17, none⟩ (.slice (some ⟨g4, 0, none⟩) (k + 1) cap4) = M2 at hns
             have HE : Hid (∃ (k_1 : Nat) (vS vV : Value), k_1 ≤ n ∧ Value.int .i64 ((k : Int) + 1) = .int .i64 (k_1 : Int) ∧ NS w M2 n s inc fl k_1 k_1 vS vV) := ⟨k + 1, _, _, by omega, by simp, hns⟩
             clear hown4 hgrow4 hat4 hlt4 hns HPV HOV HNS)
          | fail)
        first
          | exact ⟨HE.out, by simp [intOf]; omega⟩
          | (go_roundw
             case rel => exact HE.out
             case measure => simp [intOf]; omega)
    · obtain rfl : k = n := by omega
      have j2 : decide ((k : Int) < (k : Int)) = false := decide_eq_false (by omega)
      obtain ⟨sa, sc, rfl⟩ := own_slice hns.os
      obtain ⟨va, vc, rfl⟩ := own_slice hns.ov
      have f10 : wr.cell? ⟨w.heap.size, 10, none⟩ = some (.int .i64 0) := blk_cell hns.blk 10
      have z10 : wr.frozen? ⟨w.heap.size, 10, none⟩ = false := frozen_of_row wr _ _ _ _ hns.blk
      generalize hX1 : wr.setCell ⟨w.heap.size, 10, none⟩ (.int .i64 (fl + 1)) = X1
      have m1 : X1.heap[w.heap.size]? = some (.cells [.int .i64 (k : Int), .int .i64 (s : Int), .int .i64 inc, .int .i64 0, .int .i64 0, .int .i64 0, .int .i64 0, .slice none 0 0, .bool true, .slice sa k sc, .int .i64 (fl + 1), .int .i64 0, .int .i64 0, .int .i64 0, .int .i64 0, .int .i64 0, .int .i64 0, .slice va k vc, .slice none 0 0].toArray 57 (0, 0)) := by rw [← hX1]; exact blk_set hns.blk rfl
      have q1 : Kept wr X1 (fun j => j = w.heap.size) := by rw [← hX1]; exact kset _ _ _ _ rfl
      have f11 : X1.cell? ⟨w.heap.size, 11, none⟩ = some (.int .i64 0) := blk_cell m1 11
      have z11 : X1.frozen? ⟨w.heap.size, 11, none⟩ = false := frozen_of_row X1 _ _ _ _ m1
      generalize hX2 : X1.setCell ⟨w.heap.size, 11, none⟩ (.int .i64 1) = X2
      have m2 : X2.heap[w.heap.size]? = some (.cells [.int .i64 (k : Int), .int .i64 (s : Int), .int .i64 inc, .int .i64 0, .int .i64 0, .int .i64 0, .int .i64 0, .slice none 0 0, .bool true, .slice sa k sc, .int .i64 (fl + 1), .int .i64 1, .int .i64 0, .int .i64 0, .int .i64 0, .int .i64 0, .int .i64 0, .slice va k vc, .slice none 0 0].toArray 57 (0, 0)) := by rw [← hX2]; exact blk_set m1 rfl
      have q2 : Kept X1 X2 (fun j => j = w.heap.size) := by rw [← hX2]; exact kset _ _ _ _ rfl
      have f12 : X2.cell? ⟨w.heap.size, 12, none⟩ = some (.int .i64 0) := blk_cell m2 12
      have z12 : X2.frozen? ⟨w.heap.size, 12, none⟩ = false := frozen_of_row X2 _ _ _ _ m2
      generalize hX3 : X2.setCell ⟨w.heap.size, 12, none⟩ (.int .i64 fl) = X3
      have m3 : X3.heap[w.heap.size]? = some (.cells [.int .i64 (k : Int), .int .i64 (s : Int), .int .i64 inc, .int .i64 0, .int .i64 0, .int .i64 0, .int .i64 0, .slice none 0 0, .bool true, .slice sa k sc, .int .i64 (fl + 1), .int .i64 1, .int .i64 fl, .int .i64 0, .int .i64 0, .int .i64 0, .int .i64 0, .slice va k vc, .slice none 0 0].toArray 57 (0, 0)) := by rw [← hX3]; exact blk_set m2 rfl
      have q3 : Kept X2 X3 (fun j => j = w.heap.size) := by rw [← hX3]; exact kset _ _ _ _ rfl
      have qq := (q1.trans q2).trans q3
      have HFin : Hid (∃ R : Rg, Ending.returned (.tuple #[.pointer (some ⟨w.heap.size, 0, none⟩), .int .i64 0]) = .returned (.tuple #[.pointer (some ⟨R.b, 0, none⟩), .int .i64 0]) ∧ R.Ok X3 w.heap.size ∧ RNew R k s inc fl ∧ Below w.heap.size w X3) := ⟨⟨w.heap.size, k, s, inc, [0, 0, 0, 0], .slice none 0 0, 0, [], true, ⟨sa, k, sc, ssL s inc k, fl + 1, 1, fl, [0, 0, 0, 0], va, k, vc, ssL s (fl + 1) k⟩, none, 0, []⟩, rfl, ⟨m3, Nat.le_refl _, h16, rfl, rfl, row_nil _ _ _ _, Nat.zero_le _, qq.owns hns.os (own_ne hns.os hns.blk (by decide)), qq.owns hns.ov (own_ne hns.ov hns.blk (by decide)), ssL_len _ _ _, ssL_len _ _ _, row_nil _ _ _ _, fun h hh => by simp at hh⟩, ⟨rfl, rfl, rfl, rfl, rfl, rfl, rfl, rfl, rfl, rfl, rfl, rfl, rfl, rfl⟩, hns.bl.trans (qq.below hns.bl.size (fun q hq e => by omega))⟩
      clear hns m1 m2 m3 q1 q2 q3 qq
      go_wp2
      (try simp only [Exit.inBlock, Exit.then]); refine bodyPost_ret (results_tmp2 rfl _ _ _) rfl ?_
      exact HFin.out
end
end Go.Proofs.Ytbdefhagpgpoiac.Mb
