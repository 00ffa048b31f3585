import Derived.Test.YtjgjpepmfiklfaaGreatDoorMha
namespace Go.Proofs.YtjgjpepmfiklfaaGreatDoor.Mh
open Go.RowKit Mb
set_option linter.unusedVariables false
set_option maxRecDepth 100000
set_option linter.unusedSimpArgs false
section
variable {w w' W : World} {B : Nat}
def fv (k : Nat) : Value := .func (.func k) #[] #[]
def OPS : List Value := [.nilFunc, .nilFunc, .nilFunc, .nilFunc, fv 46, fv 47, fv 48, fv 49, fv 46, fv 48, fv 48, fv 50, fv 46, fv 47, fv 47, fv 51, fv 46, fv 48, fv 48, fv 52, fv 46, fv 53, fv 48, fv 54, fv 46, fv 48, fv 48, fv 55, fv 46, fv 48, fv 48, fv 56, fv 46, fv 57, fv 48, fv 58, fv 48, fv 59, fv 48, fv 60]
theorem ops_one : ∀ u ∈ OPS, u.oneCell' = true := by
  intro u hu
  simp only [OPS, List.mem_cons, List.not_mem_nil, or_false] at hu
  rcases hu with rfl | rfl | rfl | rfl | rfl | rfl | rfl | rfl | rfl | rfl | rfl | rfl | rfl | rfl | rfl | rfl | rfl | rfl | rfl | rfl | rfl | rfl | rfl | rfl | rfl | rfl | rfl | rfl | rfl | rfl | rfl | rfl | rfl | rfl | rfl | rfl | rfl | rfl | rfl | rfl <;> rfl
theorem ops_info : (Tryz.prog.info? 62).map (·.size) = some OPS.length := by kernel_rfl
theorem newOps (w : World) : ∃ A1 V, w.alloc (.cells #[.nilFunc, .nilFunc, .nilFunc, .nilFunc, .nilFunc, .nilFunc, .nilFunc, .nilFunc, .nilFunc, .nilFunc, .nilFunc, .nilFunc, .nilFunc, .nilFunc, .nilFunc, .nilFunc, .nilFunc, .nilFunc, .nilFunc, .nilFunc, .nilFunc, .nilFunc, .nilFunc, .nilFunc, .nilFunc, .nilFunc, .nilFunc, .nilFunc, .nilFunc, .nilFunc, .nilFunc, .nilFunc, .nilFunc, .nilFunc, .nilFunc, .nilFunc, .nilFunc, .nilFunc, .nilFunc, .nilFunc] 62) = A1 ∧ Hid (A1.there w.heap.size 0 OPS.length) ∧ A1.setCells w.heap.size 0 OPS = V ∧ Hid (V.rangeAt w.heap.size 0 OPS) ∧ Hid (Below w.heap.size w V) := by
  refine ⟨_, _, rfl, ?_, rfl, ?_, ?_⟩
  · exact blk_there (heap_alloc_new w _) rfl
  · exact blk_range (sets_whole (heap_alloc_new w _) rfl)
  · exact bsets (Nat.le_refl _) _ _ (balloc (Below.refl _ _))
set_option maxHeartbeats 2000000 in
theorem operations_any : Calls Tryz.prog 29 #[] w fun e w' => e = .returned (.agg OPS.toArray) ∧ Below w.heap.size w w' := by
  obtain ⟨A1, V, hA1, HTh, hV, HVr, HVb⟩ := newOps w
  go_enter Tryz.func29, Tryz.ntmps29
  go_wp2_with (first
    | (refine store_rowL 62 (.tmp 0) (.tmp 10) HTh.out ops_info ops_one rfl rfl rfl rfl ?_; rw [hV])
    | fail)
  (try simp only [Exit.inBlock, Exit.then])
  exact bodyPost_ret (results_cell (b := w.heap.size) Tryz.results29 rfl HVr.out _ Tryz.underlying62 rfl ops_info) rfl ⟨rfl, HVb.out⟩
end
end Go.Proofs.YtjgjpepmfiklfaaGreatDoor.Mh
