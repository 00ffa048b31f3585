import Derived.Test.YtfodkackfahldaaBpk
namespace Go.Proofs.Ytfodkackfahldaa.Lo
open Go.RowKit
set_option linter.unusedVariables false
set_option linter.unusedSimpArgs false

def k4 (kd : Int) : Prop := kd = 5 ∨ kd = 6 ∨ kd = 7 ∨ kd = 18
instance (kd : Int) : Decidable (k4 kd) := by unfold k4; infer_instance
def k3 (kd : Int) : Prop := kd = 8 ∨ kd = 9 ∨ kd = 10
instance (kd : Int) : Decidable (k3 kd) := by unfold k3; infer_instance
set_option maxRecDepth 100000 in
set_option maxHeartbeats 2000000 in
theorem happen_no (b : Nat) (kd : Int) (v1 v2 v3 v4 v5 v6 v7 v8 v9 v10 v11 v12 : Value) (w : World) (h4 : ¬ k4 kd) (h3 : ¬ k3 kd) (h1 : ¬ kd = 11) : Calls Try.prog 25 #[.pointer (some ⟨b, 0, none⟩), .agg #[.int .i64 kd, v1, v2, v3, v4, v5, v6, v7, v8, v9, v10, v11, v12]] w fun e w' => e = .returned (.tuple #[]) ∧ Below w.heap.size w w' := by
  have HB : Hid (Below w.heap.size w (w.alloc (.cells #[.int .i64 kd, v1, v2, v3, v4, v5, v6, v7, v8, v9, v10, v11, v12] 36))) := bsp _ _ _
  have hkk := heap_new w #[.int .i64 kd, v1, v2, v3, v4, v5, v6, v7, v8, v9, v10, v11, v12] 36
  generalize hW : w.alloc (.cells #[.int .i64 kd, v1, v2, v3, v4, v5, v6, v7, v8, v9, v10, v11, v12] 36) = W at *
  have c0 : W.cell? ⟨w.heap.size, 0, none⟩ = some (.int .i64 kd) := blk_cell hkk 0
  clear hkk
  unfold k4 at h4
  unfold k3 at h3
  have d5 : (kd == 5) = false := by rw [beq_eq_false_iff_ne]; omega
  have d6 : (kd == 6) = false := by rw [beq_eq_false_iff_ne]; omega
  have d7 : (kd == 7) = false := by rw [beq_eq_false_iff_ne]; omega
  have d18 : (kd == 18) = false := by rw [beq_eq_false_iff_ne]; omega
  have d8 : (kd == 8) = false := by rw [beq_eq_false_iff_ne]; omega
  have d9 : (kd == 9) = false := by rw [beq_eq_false_iff_ne]; omega
  have d10 : (kd == 10) = false := by rw [beq_eq_false_iff_ne]; omega
  have d11 : (kd == 11) = false := by rw [beq_eq_false_iff_ne]; omega
  clear h4 h3 h1
  go_enter Try.func25, Try.ntmps25
  go_wp2_with fail
  (first | go_end0 | ((try simp only [Exit.inBlock, Exit.then]); refine bodyPost_ret (results_none rfl _ _ _) rfl ?_))
  exact ⟨rfl, HB.out⟩
end Go.Proofs.Ytfodkackfahldaa.Lo
