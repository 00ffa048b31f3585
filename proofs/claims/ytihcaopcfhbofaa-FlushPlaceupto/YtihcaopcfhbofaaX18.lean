import Derived.Test.YtihcaopcfhbofaaX13
import Derived.Test.YtihcaopcfhbofaaX10
namespace Go.Proofs.Ytihcaopcfhbofaa.Fm
open Go.RowKit Go.Maps Mb
set_option linter.unusedVariables false
set_option maxRecDepth 100000
set_option linter.unusedSimpArgs false
section
variable {w w' W : World} {B : Nat}
end
end Go.Proofs.Ytihcaopcfhbofaa.Fm
