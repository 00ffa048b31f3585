import Derived.Test.YtihcaopcfhbofaaX04
namespace Go.Proofs.Ytihcaopcfhbofaa.Fm
open Go.RowKit Go.Maps Mb
set_option linter.unusedVariables false
set_option maxRecDepth 100000
set_option linter.unusedSimpArgs false
section
variable {w w' W : World} {B : Nat}
theorem inR_t {a b x : Int} (h1 : a ≤ x) (h2 : x ≤ b) : inR a b x = true := by simp [inR, h1, h2]
theorem inR_f1 {a b x : Int} (h1 : ¬ a ≤ x) : inR a b x = false := by simp [inR, h1]
theorem inR_f2 {a b x : Int} (h2 : ¬ x ≤ b) : inR a b x = false := by simp [inR, h2]
theorem within_any (v lo hi : Int) : Calls Try.prog 19 #[.int .i64 v, .int .i64 lo, .int .i64 hi] w fun e w' => e = .returned (.bool (inR lo hi v)) ∧ w' = w := by
  go_enter Try.func19, Try.ntmps19
  go_wp2
  all_goals (go_ret; exact ⟨by simp [inR]; first | assumption | omega, rfl⟩)
set_option maxHeartbeats 1000000 in
theorem noCount_any (x : Int) : Calls Try.prog 54 #[.int .i64 x] w fun e w' => e = .returned (.bool (!inR 0 4611686018427387904 x)) ∧ w' = w := by
  have Hw : Hid (Calls Try.prog 19 #[.int .i64 x, .int .i64 0, .int .i64 4611686018427387904] w fun e w' => e = .returned (.bool (inR 0 4611686018427387904 x)) ∧ w' = w) := within_any x _ _
  cases h : inR 0 4611686018427387904 x with
  | true =>
    rw [h] at Hw
    go_enter Try.func54, Try.ntmps54
    go_wp2_with (first | (go_at_call 19; refine Hw.out.mono ?_; rintro e w2 ⟨rfl, rfl⟩) | fail)
    go_ret
    exact ⟨rfl, rfl⟩
  | false =>
    rw [h] at Hw
    go_enter Try.func54, Try.ntmps54
    go_wp2_with (first | (go_at_call 19; refine Hw.out.mono ?_; rintro e w2 ⟨rfl, rfl⟩) | fail)
    go_ret
    exact ⟨rfl, rfl⟩
end
end Go.Proofs.Ytihcaopcfhbofaa.Fm
