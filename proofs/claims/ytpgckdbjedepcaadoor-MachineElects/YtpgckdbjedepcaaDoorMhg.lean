import Derived.Test.YtpgckdbjedepcaaDoorMhe
import Derived.Maps.RangeWalk
namespace Go.Proofs.YtpgckdbjedepcaaDoor.Mh
open Go.RowKit Mb Go.Maps
set_option linter.unusedVariables false
set_option maxRecDepth 100000
set_option linter.unusedSimpArgs false
section
variable {w w' W : World} {B : Nat}
theorem ins_nil : Calls Tryd.prog 52 #[.slice none 0 0, .int .i64 0, .int .i64 0] w fun e w' => e = .returned (.tuple #[]) ∧ w = w' := by
  go_enter Tryd.func52, Tryd.ntmps52
  go_wp2_with (fail)
  refine wp_loop_rounds 1 ?_
  rw [rounds_succ]
  go_wp2
  (try simp only [Exit.inBlock, Exit.then])
  exact bodyPost_end (results_none Tryd.results52 _ _ _) rfl ⟨rfl, rfl⟩
theorem len64_0 : Calls Tryd.prog 62 #[.int .u64 0] w fun e w' => e = .returned (.int .i64 0) ∧ w = w' := by
  go_enter Tryd.func62, Tryd.ntmps62
  go_wp2
  go_ret
  refine ⟨?_, rfl⟩
  first | kernel_rfl | (simp; done) | trace_state
theorem len_0 : Calls Tryd.prog 48 #[.int .u64 0] w fun e w' => e = .returned (.int .i64 0) ∧ w = w' := by
  go_enter Tryd.func48, Tryd.ntmps48
  go_wp2_with (first | (go_at_call 62; refine (len64_0).mono ?_; rintro e wx ⟨rfl, rfl⟩) | fail)
  go_ret
  exact ⟨rfl, rfl⟩
theorem pdq_nil : Calls Tryd.prog 47 #[.slice none 0 0, .int .i64 0, .int .i64 0, .int .i64 0] w fun e w' => e = .returned (.tuple #[]) ∧ w = w' := by
  go_enter Tryd.func47, Tryd.ntmps47
  go_wp2_with (fail)
  refine wp_loop_rounds 1 ?_
  rw [rounds_succ]
  go_wp2_with (first | (go_at_call 52; refine (ins_nil).mono ?_; rintro e wx ⟨rfl, rfl⟩) | fail)
  (try simp only [Exit.inBlock, Exit.then])
  exact bodyPost_ret (results_none Tryd.results47 _ _ _) rfl ⟨rfl, rfl⟩
theorem sort_nil : Calls Tryd.prog 42 #[.slice none 0 0] w fun e w' => e = .returned (.tuple #[]) ∧ w = w' := by
  go_enter Tryd.func42, Tryd.ntmps42
  go_wp2_with (first | (go_at_call 48; refine (len_0).mono ?_; rintro e wx ⟨rfl, rfl⟩) | (go_at_call 47; refine (pdq_nil).mono ?_; rintro e wx ⟨rfl, rfl⟩) | fail)
  (try simp only [Exit.inBlock, Exit.then])
  exact bodyPost_end (results_none Tryd.results42 _ _ _) rfl ⟨rfl, rfl⟩
end
end Go.Proofs.YtpgckdbjedepcaaDoor.Mh
