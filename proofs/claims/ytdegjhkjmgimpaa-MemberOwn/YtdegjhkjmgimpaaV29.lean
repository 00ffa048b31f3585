import Derived.Test.YtdegjhkjmgimpaaV28
import Derived.Test.YtdegjhkjmgimpaaV14
import Derived.Test.YtdegjhkjmgimpaaV27
namespace Go.Proofs.Ytdegjhkjmgimpaa.Mb
open Go.RowKit
set_option linter.unusedVariables false
set_option maxRecDepth 100000
set_option linter.unusedSimpArgs false
section
variable {A A' : Ag} {w w' W : World} {B : Nat} {T : Int}
theorem a0_spent (b n s : Nat) (inc : Int) : (A0 b n s 4611686018427387904).begE (zs.set s inc) = 3 := if_pos (.inl rfl)
theorem a0_fine (b n s : Nat) (inc fl : Int) (hf : fl < 4611686018427387904) : (A0 b n s fl).begE (zs.set s inc) = 0 := by
  unfold Ag.begE
  have h1 : ¬ ((A0 b n s fl).own.cid = 4611686018427387904 ∨ (A0 b n s fl).id.getD 0 0 = 4611686018427387904) := by
    intro hh
    rcases hh with hh | hh
    · have : fl = 4611686018427387904 := hh
      omega
    · have : (0 : Int) = 4611686018427387904 := hh
      omega
  rw [if_neg h1]
  unfold Ag.revE
  split
  · rfl
  · rw [if_neg (by rw [begP_rev]; show ¬ (0 : Int) = 4611686018427387904; omega)]
def newA (b n s : Nat) (inc fl : Int) : Ag := (A0 b n s fl).begA (zs.set s inc)
set_option maxHeartbeats 4000000 in
theorem begun_yes (n s : Nat) (inc fl : Int) (oa : Option Addr) (on oc : Nat) (h16 : 1 ≤ n ∧ n ≤ 16 ∧ s < n) (hi : 1 ≤ inc ∧ inc ≤ 4611686018427387904) (hf : 0 ≤ fl ∧ fl < 4611686018427387904) : Calls Try.prog 4 #[.agg #[.int .i64 (n : Int), .int .i64 (s : Int), .int .i64 inc, .int .i64 fl, .slice oa on oc]] w fun e w' => ∃ b, e = .returned (.tuple #[.pointer (some ⟨b, 0, none⟩), .bool true]) ∧ (newA b n s inc fl).Ok w' b 4611686018427387903 ∧ w.heap.size ≤ b ∧ (newA b n s inc fl).b = b ∧ Below w.heap.size w w' := by
  generalize hW1 : w.alloc (.cells #[.int .i64 (n : Int), .int .i64 (s : Int), .int .i64 inc, .int .i64 fl, .slice oa on oc] 24) = W1
  have b1 : Below w.heap.size w W1 := hW1 ▸ balloc (Below.refl _ _)
  have k1 : W1.heap[w.heap.size]? = some (.cells #[.int .i64 (n : Int), .int .i64 (s : Int), .int .i64 inc, .int .i64 fl, .slice oa on oc] 24 (0, 0)) := by rw [← hW1]; exact heap_alloc_new w _
  have HK : Hid (W1.heap[w.heap.size]? = some (.cells #[.int .i64 (n : Int), .int .i64 (s : Int), .int .i64 inc, .int .i64 fl, .slice oa on oc] 24 (0, 0))) := k1
  have HB : Hid (Below w.heap.size w W1) := b1
  have hok : newOk n s inc fl = true := by
    unfold newOk wB
    rw [decide_eq_true (by omega), decide_eq_true (by omega), decide_eq_true (by omega), decide_eq_true (by omega)]
    rfl
  have HN : Hid (Calls Try.prog 15 #[.int .i64 (n : Int), .int .i64 (s : Int), .int .i64 inc, .int .i64 fl] W1 fun e w' => e = .returned (.tuple #[.pointer (some ⟨W1.heap.size, 0, none⟩), .int .i64 0]) ∧ (newA W1.heap.size n s inc fl).Ok w' W1.heap.size 4611686018427387903 ∧ Below W1.heap.size W1 w') := by
    have := new_run (w := W1) (T := 4611686018427387903) n s inc fl h16 hok (by omega) (by omega) (by omega)
    rw [a0_fine _ _ _ _ _ hf.2, if_pos rfl] at this
    exact this
  have c0 : W1.cell? ⟨w.heap.size, 0, none⟩ = some (.int .i64 (n : Int)) := blk_cell k1 0
  have c1 : W1.cell? ⟨w.heap.size, 1, none⟩ = some (.int .i64 (s : Int)) := blk_cell k1 1
  have c2 : W1.cell? ⟨w.heap.size, 2, none⟩ = some (.int .i64 inc) := blk_cell k1 2
  have c3 : W1.cell? ⟨w.heap.size, 3, none⟩ = some (.int .i64 fl) := blk_cell k1 3
  clear b1 k1 hok
  go_enter Try.func4, Try.ntmps4
  go_wp2_with (first | (refine wl_at 20 rfl ?_) | (go_at_call 15; refine HN.out.mono ?_; rintro e w2 ⟨rfl, hO, hb2⟩; have HO : Hid ((newA W1.heap.size n s inc fl).Ok w2 W1.heap.size 4611686018427387903) := hO; have HB2 : Hid (Below W1.heap.size W1 w2) := hb2; have e0 := below_at hb2 c0; have e1 := below_at hb2 c1; have e2 := below_at hb2 c2; have e3 := below_at hb2 c3; clear hO hb2) | fail)
  refine wl_take (v := .bool false) (by kernel_rfl) (by (go_simp <;> first | omega | simp_all | (simp; omega))) ?_
  simp only [Act.put, gA9, gZ9, gC9, sA9, sZ9, sC9]
  refine wl_take (v := .bool false) (by kernel_rfl) (by go_simp) ?_
  simp only [Act.put, gA9, gZ9, gC9, sA9, sZ9, sC9]
  refine wl_take (v := .pointer (some ⟨w.heap.size, 0, none⟩)) (by kernel_rfl) (by go_simp) ?_
  simp only [Act.put, gA9, gZ9, gC9, sA9, sZ9, sC9]
  refine wl_take (v := .int .i64 (n : Int)) (by kernel_rfl) (by go_simp) ?_
  simp only [Act.put, gA9, gZ9, gC9, sA9, sZ9, sC9]
  refine wl_take (v := .bool false) (by kernel_rfl) (by (go_simp <;> first | omega | simp_all | (simp; omega))) ?_
  simp only [Act.put, gA9, gZ9, gC9, sA9, sZ9, sC9]
  refine wl_take (v := .bool false) (by kernel_rfl) (by go_simp) ?_
  simp only [Act.put, gA9, gZ9, gC9, sA9, sZ9, sC9]
  refine wl_take (v := .bool false) (by kernel_rfl) (by go_simp) ?_
  simp only [Act.put, gA9, gZ9, gC9, sA9, sZ9, sC9]
  refine wl_take (v := .pointer (some ⟨w.heap.size, 1, none⟩)) (by kernel_rfl) (by go_simp) ?_
  simp only [Act.put, gA9, gZ9, gC9, sA9, sZ9, sC9]
  refine wl_take (v := .int .i64 (s : Int)) (by kernel_rfl) (by go_simp) ?_
  simp only [Act.put, gA9, gZ9, gC9, sA9, sZ9, sC9]
  refine wl_take (v := .bool false) (by kernel_rfl) (by (go_simp <;> first | omega | simp_all | (simp; omega))) ?_
  simp only [Act.put, gA9, gZ9, gC9, sA9, sZ9, sC9]
  refine wl_take (v := .bool false) (by kernel_rfl) (by go_simp) ?_
  simp only [Act.put, gA9, gZ9, gC9, sA9, sZ9, sC9]
  refine wl_take (v := .bool false) (by kernel_rfl) (by go_simp) ?_
  simp only [Act.put, gA9, gZ9, gC9, sA9, sZ9, sC9]
  refine wl_take (v := .pointer (some ⟨w.heap.size, 1, none⟩)) (by kernel_rfl) (by go_simp) ?_
  simp only [Act.put, gA9, gZ9, gC9, sA9, sZ9, sC9]
  refine wl_take (v := .int .i64 (s : Int)) (by kernel_rfl) (by go_simp) ?_
  simp only [Act.put, gA9, gZ9, gC9, sA9, sZ9, sC9]
  refine wl_take (v := .pointer (some ⟨w.heap.size, 0, none⟩)) (by kernel_rfl) (by go_simp) ?_
  simp only [Act.put, gA9, gZ9, gC9, sA9, sZ9, sC9]
  refine wl_take (v := .int .i64 (n : Int)) (by kernel_rfl) (by go_simp) ?_
  simp only [Act.put, gA9, gZ9, gC9, sA9, sZ9, sC9]
  refine wl_take (v := .bool false) (by kernel_rfl) (by (go_simp <;> first | omega | simp_all | (simp; omega))) ?_
  simp only [Act.put, gA9, gZ9, gC9, sA9, sZ9, sC9]
  refine wl_take (v := .bool false) (by kernel_rfl) (by go_simp) ?_
  simp only [Act.put, gA9, gZ9, gC9, sA9, sZ9, sC9]
  refine wl_take (v := .bool false) (by kernel_rfl) (by go_simp) ?_
  simp only [Act.put, gA9, gZ9, gC9, sA9, sZ9, sC9]
  refine wl_take (v := .pointer (some ⟨w.heap.size, 2, none⟩)) (by kernel_rfl) (by go_simp) ?_
  simp only [Act.put, gA9, gZ9, gC9, sA9, sZ9, sC9]
  refine wl_take (v := .int .i64 inc) (by kernel_rfl) (by go_simp) ?_
  simp only [Act.put, gA9, gZ9, gC9, sA9, sZ9, sC9]
  refine wl_take (v := .bool false) (by kernel_rfl) (by (go_simp <;> first | omega | simp_all | (simp; omega))) ?_
  simp only [Act.put, gA9, gZ9, gC9, sA9, sZ9, sC9]
  refine wl_take (v := .bool false) (by kernel_rfl) (by go_simp) ?_
  simp only [Act.put, gA9, gZ9, gC9, sA9, sZ9, sC9]
  refine wl_take (v := .bool false) (by kernel_rfl) (by go_simp) ?_
  simp only [Act.put, gA9, gZ9, gC9, sA9, sZ9, sC9]
  refine wl_take (v := .pointer (some ⟨w.heap.size, 2, none⟩)) (by kernel_rfl) (by go_simp) ?_
  simp only [Act.put, gA9, gZ9, gC9, sA9, sZ9, sC9]
  refine wl_take (v := .int .i64 inc) (by kernel_rfl) (by go_simp) ?_
  simp only [Act.put, gA9, gZ9, gC9, sA9, sZ9, sC9]
  refine wl_take (v := .bool false) (by kernel_rfl) (by (go_simp <;> first | omega | simp_all | (simp; omega))) ?_
  simp only [Act.put, gA9, gZ9, gC9, sA9, sZ9, sC9]
  refine wl_take (v := .bool false) (by kernel_rfl) (by go_simp) ?_
  simp only [Act.put, gA9, gZ9, gC9, sA9, sZ9, sC9]
  refine wl_take (v := .bool false) (by kernel_rfl) (by go_simp) ?_
  simp only [Act.put, gA9, gZ9, gC9, sA9, sZ9, sC9]
  refine wl_take (v := .pointer (some ⟨w.heap.size, 3, none⟩)) (by kernel_rfl) (by go_simp) ?_
  simp only [Act.put, gA9, gZ9, gC9, sA9, sZ9, sC9]
  refine wl_take (v := .int .i64 fl) (by kernel_rfl) (by go_simp) ?_
  simp only [Act.put, gA9, gZ9, gC9, sA9, sZ9, sC9]
  refine wl_take (v := .bool false) (by kernel_rfl) (by (go_simp <;> first | omega | simp_all | (simp; omega))) ?_
  simp only [Act.put, gA9, gZ9, gC9, sA9, sZ9, sC9]
  refine wl_take (v := .bool false) (by kernel_rfl) (by go_simp) ?_
  simp only [Act.put, gA9, gZ9, gC9, sA9, sZ9, sC9]
  refine wl_take (v := .bool false) (by kernel_rfl) (by go_simp) ?_
  simp only [Act.put, gA9, gZ9, gC9, sA9, sZ9, sC9]
  refine wl_take (v := .pointer (some ⟨w.heap.size, 3, none⟩)) (by kernel_rfl) (by go_simp) ?_
  simp only [Act.put, gA9, gZ9, gC9, sA9, sZ9, sC9]
  refine wl_take (v := .int .i64 fl) (by kernel_rfl) (by go_simp) ?_
  simp only [Act.put, gA9, gZ9, gC9, sA9, sZ9, sC9]
  refine wl_take (v := .bool false) (by kernel_rfl) (by (go_simp <;> first | omega | simp_all | (simp; omega))) ?_
  simp only [Act.put, gA9, gZ9, gC9, sA9, sZ9, sC9]
  refine wl_take (v := .bool false) (by kernel_rfl) (by go_simp) ?_
  simp only [Act.put, gA9, gZ9, gC9, sA9, sZ9, sC9]
  refine ⟨?_⟩
  have f1 : (fl == 4611686018427387904) = false := by simp; omega
  go_wp2
  (try simp only [Exit.inBlock, Exit.then]); refine bodyPost_ret (results_tmp2 rfl _ _ _) rfl ?_
  exact ⟨W1.heap.size, rfl, HO.out, HB.out.size, begA_b _ _, bstep HB.out HB2.out⟩
set_option maxHeartbeats 4000000 in
theorem begun_spent (n s : Nat) (inc : Int) (oa : Option Addr) (on oc : Nat) (h16 : 1 ≤ n ∧ n ≤ 16 ∧ s < n) (hi : 1 ≤ inc ∧ inc ≤ 4611686018427387904) : Calls Try.prog 4 #[.agg #[.int .i64 (n : Int), .int .i64 (s : Int), .int .i64 inc, .int .i64 4611686018427387904, .slice oa on oc]] w fun e w' => e = .returned (.tuple #[.pointer none, .bool true]) ∧ Below w.heap.size w w' := by
  generalize hW1 : w.alloc (.cells #[.int .i64 (n : Int), .int .i64 (s : Int), .int .i64 inc, .int .i64 4611686018427387904, .slice oa on oc] 24) = W1
  have b1 : Below w.heap.size w W1 := hW1 ▸ balloc (Below.refl _ _)
  have k1 : W1.heap[w.heap.size]? = some (.cells #[.int .i64 (n : Int), .int .i64 (s : Int), .int .i64 inc, .int .i64 4611686018427387904, .slice oa on oc] 24 (0, 0)) := by rw [← hW1]; exact heap_alloc_new w _
  have HK : Hid (W1.heap[w.heap.size]? = some (.cells #[.int .i64 (n : Int), .int .i64 (s : Int), .int .i64 inc, .int .i64 4611686018427387904, .slice oa on oc] 24 (0, 0))) := k1
  have HB : Hid (Below w.heap.size w W1) := b1
  have hok : newOk n s inc 4611686018427387904 = true := by
    unfold newOk wB
    rw [decide_eq_true (by omega), decide_eq_true (by omega), decide_eq_true (by omega), decide_eq_true (by omega)]
    rfl
  have HN : Hid (Calls Try.prog 15 #[.int .i64 (n : Int), .int .i64 (s : Int), .int .i64 inc, .int .i64 4611686018427387904] W1 fun e w' => e = .returned (.tuple #[.pointer none, .int .i64 3]) ∧ Below W1.heap.size W1 w') := by
    have := new_run (w := W1) (T := 4611686018427387904) n s inc 4611686018427387904 h16 hok (by omega) (by omega) (by omega)
    rw [a0_spent, if_neg (by omega)] at this
    exact this.mono (fun e w' hh => ⟨hh.1, hh.2.2⟩)
  have c0 : W1.cell? ⟨w.heap.size, 0, none⟩ = some (.int .i64 (n : Int)) := blk_cell k1 0
  have c1 : W1.cell? ⟨w.heap.size, 1, none⟩ = some (.int .i64 (s : Int)) := blk_cell k1 1
  have c2 : W1.cell? ⟨w.heap.size, 2, none⟩ = some (.int .i64 inc) := blk_cell k1 2
  have c3 : W1.cell? ⟨w.heap.size, 3, none⟩ = some (.int .i64 4611686018427387904) := blk_cell k1 3
  clear b1 k1 hok
  go_enter Try.func4, Try.ntmps4
  go_wp2_with (first | (refine wl_at 20 rfl ?_) | (go_at_call 15; refine HN.out.mono ?_; rintro e w2 ⟨rfl, hb2⟩; have HB2 : Hid (Below W1.heap.size W1 w2) := hb2; have e0 := below_at hb2 c0; have e1 := below_at hb2 c1; have e2 := below_at hb2 c2; have e3 := below_at hb2 c3; clear hb2) | fail)
  refine wl_take (v := .bool false) (by kernel_rfl) (by (go_simp <;> first | omega | simp_all | (simp; omega))) ?_
  simp only [Act.put, gA9, gZ9, gC9, sA9, sZ9, sC9]
  refine wl_take (v := .bool false) (by kernel_rfl) (by go_simp) ?_
  simp only [Act.put, gA9, gZ9, gC9, sA9, sZ9, sC9]
  refine wl_take (v := .pointer (some ⟨w.heap.size, 0, none⟩)) (by kernel_rfl) (by go_simp) ?_
  simp only [Act.put, gA9, gZ9, gC9, sA9, sZ9, sC9]
  refine wl_take (v := .int .i64 (n : Int)) (by kernel_rfl) (by go_simp) ?_
  simp only [Act.put, gA9, gZ9, gC9, sA9, sZ9, sC9]
  refine wl_take (v := .bool false) (by kernel_rfl) (by (go_simp <;> first | omega | simp_all | (simp; omega))) ?_
  simp only [Act.put, gA9, gZ9, gC9, sA9, sZ9, sC9]
  refine wl_take (v := .bool false) (by kernel_rfl) (by go_simp) ?_
  simp only [Act.put, gA9, gZ9, gC9, sA9, sZ9, sC9]
  refine wl_take (v := .bool false) (by kernel_rfl) (by go_simp) ?_
  simp only [Act.put, gA9, gZ9, gC9, sA9, sZ9, sC9]
  refine wl_take (v := .pointer (some ⟨w.heap.size, 1, none⟩)) (by kernel_rfl) (by go_simp) ?_
  simp only [Act.put, gA9, gZ9, gC9, sA9, sZ9, sC9]
  refine wl_take (v := .int .i64 (s : Int)) (by kernel_rfl) (by go_simp) ?_
  simp only [Act.put, gA9, gZ9, gC9, sA9, sZ9, sC9]
  refine wl_take (v := .bool false) (by kernel_rfl) (by (go_simp <;> first | omega | simp_all | (simp; omega))) ?_
  simp only [Act.put, gA9, gZ9, gC9, sA9, sZ9, sC9]
  refine wl_take (v := .bool false) (by kernel_rfl) (by go_simp) ?_
  simp only [Act.put, gA9, gZ9, gC9, sA9, sZ9, sC9]
  refine wl_take (v := .bool false) (by kernel_rfl) (by go_simp) ?_
  simp only [Act.put, gA9, gZ9, gC9, sA9, sZ9, sC9]
  refine wl_take (v := .pointer (some ⟨w.heap.size, 1, none⟩)) (by kernel_rfl) (by go_simp) ?_
  simp only [Act.put, gA9, gZ9, gC9, sA9, sZ9, sC9]
  refine wl_take (v := .int .i64 (s : Int)) (by kernel_rfl) (by go_simp) ?_
  simp only [Act.put, gA9, gZ9, gC9, sA9, sZ9, sC9]
  refine wl_take (v := .pointer (some ⟨w.heap.size, 0, none⟩)) (by kernel_rfl) (by go_simp) ?_
  simp only [Act.put, gA9, gZ9, gC9, sA9, sZ9, sC9]
  refine wl_take (v := .int .i64 (n : Int)) (by kernel_rfl) (by go_simp) ?_
  simp only [Act.put, gA9, gZ9, gC9, sA9, sZ9, sC9]
  refine wl_take (v := .bool false) (by kernel_rfl) (by (go_simp <;> first | omega | simp_all | (simp; omega))) ?_
  simp only [Act.put, gA9, gZ9, gC9, sA9, sZ9, sC9]
  refine wl_take (v := .bool false) (by kernel_rfl) (by go_simp) ?_
  simp only [Act.put, gA9, gZ9, gC9, sA9, sZ9, sC9]
  refine wl_take (v := .bool false) (by kernel_rfl) (by go_simp) ?_
  simp only [Act.put, gA9, gZ9, gC9, sA9, sZ9, sC9]
  refine wl_take (v := .pointer (some ⟨w.heap.size, 2, none⟩)) (by kernel_rfl) (by go_simp) ?_
  simp only [Act.put, gA9, gZ9, gC9, sA9, sZ9, sC9]
  refine wl_take (v := .int .i64 inc) (by kernel_rfl) (by go_simp) ?_
  simp only [Act.put, gA9, gZ9, gC9, sA9, sZ9, sC9]
  refine wl_take (v := .bool false) (by kernel_rfl) (by (go_simp <;> first | omega | simp_all | (simp; omega))) ?_
  simp only [Act.put, gA9, gZ9, gC9, sA9, sZ9, sC9]
  refine wl_take (v := .bool false) (by kernel_rfl) (by go_simp) ?_
  simp only [Act.put, gA9, gZ9, gC9, sA9, sZ9, sC9]
  refine wl_take (v := .bool false) (by kernel_rfl) (by go_simp) ?_
  simp only [Act.put, gA9, gZ9, gC9, sA9, sZ9, sC9]
  refine wl_take (v := .pointer (some ⟨w.heap.size, 2, none⟩)) (by kernel_rfl) (by go_simp) ?_
  simp only [Act.put, gA9, gZ9, gC9, sA9, sZ9, sC9]
  refine wl_take (v := .int .i64 inc) (by kernel_rfl) (by go_simp) ?_
  simp only [Act.put, gA9, gZ9, gC9, sA9, sZ9, sC9]
  refine wl_take (v := .bool false) (by kernel_rfl) (by (go_simp <;> first | omega | simp_all | (simp; omega))) ?_
  simp only [Act.put, gA9, gZ9, gC9, sA9, sZ9, sC9]
  refine wl_take (v := .bool false) (by kernel_rfl) (by go_simp) ?_
  simp only [Act.put, gA9, gZ9, gC9, sA9, sZ9, sC9]
  refine wl_take (v := .bool false) (by kernel_rfl) (by go_simp) ?_
  simp only [Act.put, gA9, gZ9, gC9, sA9, sZ9, sC9]
  refine wl_take (v := .pointer (some ⟨w.heap.size, 3, none⟩)) (by kernel_rfl) (by go_simp) ?_
  simp only [Act.put, gA9, gZ9, gC9, sA9, sZ9, sC9]
  refine wl_take (v := .int .i64 4611686018427387904) (by kernel_rfl) (by go_simp) ?_
  simp only [Act.put, gA9, gZ9, gC9, sA9, sZ9, sC9]
  refine wl_take (v := .bool false) (by kernel_rfl) (by (go_simp <;> first | omega | simp_all | (simp; omega))) ?_
  simp only [Act.put, gA9, gZ9, gC9, sA9, sZ9, sC9]
  refine wl_take (v := .bool false) (by kernel_rfl) (by go_simp) ?_
  simp only [Act.put, gA9, gZ9, gC9, sA9, sZ9, sC9]
  refine wl_take (v := .bool false) (by kernel_rfl) (by go_simp) ?_
  simp only [Act.put, gA9, gZ9, gC9, sA9, sZ9, sC9]
  refine wl_take (v := .pointer (some ⟨w.heap.size, 3, none⟩)) (by kernel_rfl) (by go_simp) ?_
  simp only [Act.put, gA9, gZ9, gC9, sA9, sZ9, sC9]
  refine wl_take (v := .int .i64 4611686018427387904) (by kernel_rfl) (by go_simp) ?_
  simp only [Act.put, gA9, gZ9, gC9, sA9, sZ9, sC9]
  refine wl_take (v := .bool false) (by kernel_rfl) (by (go_simp <;> first | omega | simp_all | (simp; omega))) ?_
  simp only [Act.put, gA9, gZ9, gC9, sA9, sZ9, sC9]
  refine wl_take (v := .bool false) (by kernel_rfl) (by go_simp) ?_
  simp only [Act.put, gA9, gZ9, gC9, sA9, sZ9, sC9]
  refine ⟨?_⟩
  go_wp2
  (try simp only [Exit.inBlock, Exit.then]); refine bodyPost_ret (results_tmp2 rfl _ _ _) rfl ?_
  exact ⟨rfl, bstep HB.out HB2.out⟩
end
end Go.Proofs.Ytdegjhkjmgimpaa.Mb
