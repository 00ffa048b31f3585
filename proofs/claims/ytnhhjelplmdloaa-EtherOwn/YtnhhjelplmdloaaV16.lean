import Derived.Test.YtnhhjelplmdloaaV15
namespace Go.Proofs.Ytnhhjelplmdloaa.Et
open Go.RowKit Go.Maps
set_option linter.unusedVariables false
set_option linter.unusedSimpArgs false
set_option maxRecDepth 100000
section
variable {R R' : Rn} {w w' W : World} {B : Nat}
end
end Go.Proofs.Ytnhhjelplmdloaa.Et
namespace Go.Proofs.Ytnhhjelplmdloaa.Et
open Go.RowKit Go.Maps
set_option linter.unusedVariables false
set_option linter.unusedSimpArgs false
set_option maxRecDepth 100000
section
variable {R R' : Rn} {w w' W : World} {B : Nat}
end
end Go.Proofs.Ytnhhjelplmdloaa.Et
