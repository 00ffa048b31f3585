import Derived.Test.YtnhhjelplmdloaaV33
namespace Go.Proofs.Ytnhhjelplmdloaa.Et
open Go.RowKit Go.Maps
set_option linter.unusedVariables false
set_option linter.unusedSimpArgs false
set_option maxRecDepth 100000
section
variable {E E1 E' : En} {w w' w1 w2 w3 : World} {B K m : Nat}
end
end Go.Proofs.Ytnhhjelplmdloaa.Et
namespace Go.Proofs.Ytnhhjelplmdloaa.Et
open Go.RowKit Go.Maps
set_option linter.unusedVariables false
set_option linter.unusedSimpArgs false
set_option maxRecDepth 100000
section
variable {E E1 E' : En} {w w' w1 w2 w3 : World} {B K m : Nat}
theorem zFl : (Try.prog.info? 43).map (·.zero) = some (some (.agg f0.cs)) := by kernel_rfl
theorem iFl : (Try.prog.info? 43).map (·.size) = some 5 := by kernel_rfl
theorem fx_one (f : Fx) : ∀ u ∈ f.cs.toList, u.oneCell' = true := by
  intro u hu
  simp only [Fx.cs, List.mem_cons, List.not_mem_nil, or_false] at hu
  rcases hu with rfl | rfl | rfl | rfl | rfl <;> rfl
end
end Go.Proofs.Ytnhhjelplmdloaa.Et
