import Derived.Test.YtmkopbbbonggdaaUa
import Derived.Test.YtmkopbbbonggdaaAa
namespace Go.Proofs.Ytmkopbbbonggdaa.Fg
open Go.RowKit Mb
set_option linter.unusedVariables false
set_option maxRecDepth 100000
set_option linter.unusedSimpArgs false
section
variable {w w' W : World} {B : Nat}
def inR (lo hi x : Int) : Bool := decide (lo ≤ x) && decide (x ≤ hi)
theorem inR_t {a b x : Int} (h1 : a ≤ x) (h2 : x ≤ b) : inR a b x = true := by simp [inR, h1, h2]
theorem inR_f {a b x : Int} (h : ¬ (a ≤ x ∧ x ≤ b)) : inR a b x = false := by
  simp [inR]; omega
def cntI (x : Int) : Int := if 0 ≤ x ∧ x ≤ 4000 then max 1 ((x + 247) / 248) else 0
theorem cntI_nat (n : Nat) : cntI (n : Int) = ((cnt n : Nat) : Int) := by
  unfold cntI cnt
  by_cases h : n ≤ 4000
  · rw [if_pos (by omega), if_pos h]; omega
  · rw [if_neg (by omega), if_neg h]; rfl
theorem ret_int {k : IntKind} {a b : Int} (h : a = b) : Ending.returned (.int k a) = .returned (.int k b) := by rw [h]
end
end Go.Proofs.Ytmkopbbbonggdaa.Fg
