import Derived.Test.YtdegjhkjmgimpaaV26
namespace Go.Proofs.Ytdegjhkjmgimpaa.Mb
open Go.RowKit
set_option linter.unusedVariables false
set_option maxRecDepth 100000
set_option linter.unusedSimpArgs false
section
variable {A A' : Ag} {w w' W : World} {B : Nat} {T : Int}
def hitB (ms : List Int) (pid inc : Int) (i : Nat) : Bool := (ms.getD (i * 3) 0 == pid) && (ms.getD (i * 3 + 1) 0 == inc)
def hld (ms : List Int) (pid inc : Int) (k : Nat) : Int := match (List.range k).find? (hitB ms pid inc) with | some i => ms.getD (i * 3 + 2) 0 | none => 0
end
end Go.Proofs.Ytdegjhkjmgimpaa.Mb
