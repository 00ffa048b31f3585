import Derived.Test.YtihcaopcfhbofaaX17
import Derived.Test.YtihcaopcfhbofaaX18
import Derived.Test.YtihcaopcfhbofaaX19
namespace Go.Proofs.Ytihcaopcfhbofaa.Fm
open Go.RowKit Go.Maps Mb
set_option linter.unusedVariables false
set_option maxRecDepth 100000
set_option linter.unusedSimpArgs false
section
variable {w w' W : World} {B : Nat}
end
end Go.Proofs.Ytihcaopcfhbofaa.Fm
