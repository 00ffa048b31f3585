import Derived.Test.YtpgckdbjedepcaaDoorMha
namespace Go.Proofs.YtpgckdbjedepcaaDoor.Mh
open Go.RowKit Mb
set_option linter.unusedVariables false
set_option maxRecDepth 100000
set_option linter.unusedSimpArgs false
section
variable {w w' W : World} {B : Nat}
def fv (k : Nat) : Value := .func (.func k) #[] #[]
def OPS : List Value := [.nilFunc, .nilFunc, .nilFunc, .nilFunc, fv 15, fv 16, fv 17, fv 18, fv 15, fv 17, fv 17, fv 19, fv 15, fv 16, fv 16, fv 20, fv 15, fv 17, fv 17, fv 21, fv 15, fv 22, fv 17, fv 23, fv 15, fv 17, fv 17, fv 24, fv 15, fv 17, fv 17, fv 25, fv 15, fv 26, fv 17, fv 27, fv 17, fv 28, fv 17, fv 29]
theorem ops_one : ∀ u ∈ OPS, u.oneCell' = true := by
  intro u hu
  simp only [OPS, List.mem_cons, List.not_mem_nil, or_false] at hu
  rcases hu with rfl | rfl | rfl | rfl | rfl | rfl | rfl | rfl | rfl | rfl | rfl | rfl | rfl | rfl | rfl | rfl | rfl | rfl | rfl | rfl | rfl | rfl | rfl | rfl | rfl | rfl | rfl | rfl | rfl | rfl | rfl | rfl | rfl | rfl | rfl | rfl | rfl | rfl | rfl | rfl <;> rfl
theorem ops_info : (Tryd.prog.info? 53).map (·.size) = some OPS.length := by kernel_rfl
theorem newOps (w : World) : ∃ A1 V, w.alloc (.cells #[.nilFunc, .nilFunc, .nilFunc, .nilFunc, .nilFunc, .nilFunc, .nilFunc, .nilFunc, .nilFunc, .nilFunc, .nilFunc, .nilFunc, .nilFunc, .nilFunc, .nilFunc, .nilFunc, .nilFunc, .nilFunc, .nilFunc, .nilFunc, .nilFunc, .nilFunc, .nilFunc, .nilFunc, .nilFunc, .nilFunc, .nilFunc, .nilFunc, .nilFunc, .nilFunc, .nilFunc, .nilFunc, .nilFunc, .nilFunc, .nilFunc, .nilFunc, .nilFunc, .nilFunc, .nilFunc, .nilFunc] 53) = A1 ∧ Hid (A1.there w.heap.size 0 OPS.length) ∧ A1.setCells w.heap.size 0 OPS = V ∧ Hid (V.rangeAt w.heap.size 0 OPS) ∧ Hid (Below w.heap.size w V) := by
  refine ⟨_, _, rfl, ?_, rfl, ?_, ?_⟩
  · exact blk_there (heap_alloc_new w _) rfl
  · exact blk_range (sets_whole (heap_alloc_new w _) rfl)
  · exact bsets (Nat.le_refl _) _ _ (balloc (Below.refl _ _))
set_option maxHeartbeats 2000000 in
theorem operations_any : Calls Tryd.prog 12 #[] w fun e w' => e = .returned (.agg OPS.toArray) ∧ Below w.heap.size w w' := by
  obtain ⟨A1, V, hA1, HTh, hV, HVr, HVb⟩ := newOps w
  go_enter Tryd.func12, Tryd.ntmps12
  go_wp2_with (first
    | (refine store_rowL 53 (.tmp 0) (.tmp 10) HTh.out ops_info ops_one rfl rfl rfl rfl ?_; rw [hV])
    | fail)
  (try simp only [Exit.inBlock, Exit.then])
  exact bodyPost_ret (results_cell (b := w.heap.size) Tryd.results12 rfl HVr.out _ Tryd.underlying53 rfl ops_info) rfl ⟨rfl, HVb.out⟩
end
end Go.Proofs.YtpgckdbjedepcaaDoor.Mh
