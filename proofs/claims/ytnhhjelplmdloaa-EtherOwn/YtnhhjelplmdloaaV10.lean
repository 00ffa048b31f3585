import Derived.Test.YtnhhjelplmdloaaV09
import Derived.LoopN
namespace Go.Proofs.Ytnhhjelplmdloaa.Et
open Go.RowKit Go.Maps
set_option linter.unusedVariables false
set_option linter.unusedSimpArgs false
set_option maxRecDepth 100000
section
variable {E E' : En} {w w' W w1 : World} {B m : Nat}
end
end Go.Proofs.Ytnhhjelplmdloaa.Et
