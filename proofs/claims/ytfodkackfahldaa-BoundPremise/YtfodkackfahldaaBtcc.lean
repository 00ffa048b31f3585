import Derived.Test.YtfodkackfahldaaBtc
namespace Go.Proofs.Ytfodkackfahldaa.Lo
open Go.RowKit
set_option linter.unusedVariables false
set_option linter.unusedSimpArgs false

def rafB (b : Nat → Bool) (N : Nat) (xs : List Int) (k n : Int) (nd up pt : Bool) (m r : Nat) : Nat → Bool :=
  if (k = 5 ∧ up = true) ∨ (k = 7 ∧ up = true ∧ 0 ≤ n) then upB b (1 + m) false
  else if k = 6 ∧ nd = true ∧ up = false then upB (upB b (1 + m) true) (17 + m) false
  else if k = 18 ∧ up = true then upB b (17 + m) true
  else if k = 8 ∧ pt = true then upB b (33 + m * 16 + r) true
  else if k = 9 ∧ pt = true then upB b (33 + m * 16 + r) false
  else if k = 11 then rsB b N xs else b
def rafS (s : Nat → Int) (k n : Int) (pt : Bool) (m r : Nat) : Nat → Int := if k = 10 ∧ pt = true ∧ 1 ≤ n ∧ n ≤ 16 then upF s (289 + m * 16 + r) n else s
end Go.Proofs.Ytfodkackfahldaa.Lo
