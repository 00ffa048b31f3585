import Derived.Test.YtdegjhkjmgimpaaV42
import Derived.Test.YtdegjhkjmgimpaaV43
namespace Go.Proofs.Ytdegjhkjmgimpaa.Ms
open Go.RowKit Go.Maps Mb Oe
set_option linter.unusedVariables false
set_option linter.unusedSimpArgs false
set_option maxRecDepth 100000
section
variable {w w' W : World}
theorem okf_of (n s inc fl : Int) (h : newOk n s inc fl = true) : ∃ n' s' : Nat, n = (n' : Int) ∧ s = (s' : Int) ∧ (1 ≤ n' ∧ n' ≤ 16 ∧ s' < n') ∧ (1 ≤ inc ∧ inc ≤ 4611686018427387904) ∧ 0 ≤ fl ∧ fl ≤ 4611686018427387904 := by
  unfold newOk wB at h
  simp only [Bool.and_eq_true, decide_eq_true_eq] at h
  obtain ⟨⟨⟨h1, h2⟩, h3⟩, h4⟩ := h
  exact ⟨n.toNat, s.toNat, by omega, by omega, by omega, h3, h4⟩
set_option maxHeartbeats 2000000 in
theorem mown_none (n s inc fl : Int) (oa : Option Addr) (on oc : Nat) (HN : ∀ W : World, Calls Try.prog 4 #[.agg #[.int .i64 n, .int .i64 s, .int .i64 inc, .int .i64 fl, .slice oa on oc]] W fun e w' => e = .returned (.tuple #[.pointer none, .bool true]) ∧ Below W.heap.size W w') : Calls Try.prog 3 #[.agg #[.int .i64 n, .int .i64 s, .int .i64 inc, .int .i64 fl, .slice oa on oc]] w fun e w' => e = .returned (.bool true) ∧ Below w.heap.size w w' := by
  generalize hW1 : w.alloc (.cells #[.int .i64 n, .int .i64 s, .int .i64 inc, .int .i64 fl, .slice oa on oc] 24) = W1
  have b1 : Below w.heap.size w W1 := hW1 ▸ balloc (Below.refl _ _)
  have k1 : W1.heap[w.heap.size]? = some (.cells #[.int .i64 n, .int .i64 s, .int .i64 inc, .int .i64 fl, .slice oa on oc] 24 (0, 0)) := by rw [← hW1]; exact heap_alloc_new w _
  have c0 : W1.cell? ⟨w.heap.size, 0, none⟩ = some (.int .i64 n) := blk_cell k1 0
  have c1 : W1.cell? ⟨w.heap.size, 1, none⟩ = some (.int .i64 s) := blk_cell k1 1
  have c2 : W1.cell? ⟨w.heap.size, 2, none⟩ = some (.int .i64 inc) := blk_cell k1 2
  have c3 : W1.cell? ⟨w.heap.size, 3, none⟩ = some (.int .i64 fl) := blk_cell k1 3
  have c4 : W1.cell? ⟨w.heap.size, 4, none⟩ = some (.slice oa on oc) := blk_cell k1 4
  have HB1 : Hid (Below w.heap.size w W1) := b1
  have HN1 := HN W1
  clear b1 k1 HN
  go_enter Try.func3, Try.ntmps3
  go_wp2_with (first | (go_at_call 4; refine HN1.mono ?_; rintro e w2 ⟨rfl, hb2⟩) | fail)
  go_ret
  exact ⟨rfl, bstep HB1.out hb2⟩
theorem mown_any (n s inc fl : Int) (oa : Option Addr) (on oc : Nat) (os : Nat → Opx) (hn : -9223372036854775808 ≤ n ∧ n ≤ 9223372036854775807) (ho : RdOps w oa on os) : Calls Try.prog 3 #[.agg #[.int .i64 n, .int .i64 s, .int .i64 inc, .int .i64 fl, .slice oa on oc]] w fun e w' => e = .returned (.bool true) ∧ Below w.heap.size w w' := by
  cases hok : newOk n s inc fl with
  | false => exact mown_none n s inc fl oa on oc fun W => begun_no n s inc fl oa on oc hn hok
  | true =>
    obtain ⟨n', s', rfl, rfl, h16, hi, hf⟩ := okf_of n s inc fl hok
    by_cases hm : fl = 4611686018427387904
    · subst hm
      exact mown_none n' s' inc _ oa on oc fun W => begun_spent n' s' inc oa on oc h16 hi
    · exact mown_yes n' s' inc fl oa on oc os ho h16 hi ⟨hf.1, by omega⟩
end
end Go.Proofs.Ytdegjhkjmgimpaa.Ms
