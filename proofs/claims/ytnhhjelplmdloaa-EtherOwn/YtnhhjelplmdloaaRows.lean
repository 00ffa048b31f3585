/-
  No cell of these rows narrows 'for every input' (looked for: loops, veiled, ifaces, maps, wideKeys, modest, calm, conditions, laid).
  DERIVED. THE GIVEN ROWS OF THIS SEAT. 3 by the template 'for every input the law returns true; each argument reads behind the call as it read before'; 0 by the template 'total and deterministic' (their statements: YtnhhjelplmdloaaTotals.lean).
  GIVEN WITH THE SEED: the statements are not yours to turn. If you find one false, say at which input.
  Laid BY PROGRAM, IN A SANDBOX (cutbox-rows.mjs): the forced cells as the released guide's own fill.sh prints them over the translation 3fdff1689079217a… (all of the seat's roots in one cut). By AI agents, Wed Nov 11 2026. No macro, syntax, notation, axiom, sorry.
-/
import Derived.Test.YtnhhjelplmdloaaChecked
import GoSem.Claim
import GoSem.ClaimJoined
import GoSem.ClaimMapViews
import Derived.JoinedTies
import Derived.KernelRfl
namespace Go.Proofs.Ytnhhjelplmdloaa
/- THE CELL 'sum', in the pinned program and in every row, IS THE sha256 OF THE DUMP (.gsa) THAT YtnhhjelplmdloaaProg.lean LOADS. Nothing in Lean hashes anything: it is a label: what it is worth is what the hold of that sum in a sandbox is worth. -/
noncomputable def Try.pinned : Pinned := { name := "ytnhhjelplmdloaa", sum := "3fdff1689079217a37d25b0fe350f98c65af3b8fc60a049b01cd81420af8d6a5", checked := Try.checked }
namespace Rows
def none {H : Type} : Left H := { results := [], args := [] }

/-- 'quoratelaw03.EtherNoneFromNothing': WHATEVER THE INPUT: true; the input reads as it did. -/
def etherNoneFromNothingSpec : ChangeSpec := { name := "etherNoneFromNothing", fn := fun _ => fun
  | [d] => { results := [.lit (.bool true)], args := [d] }
  | _ => none }
def etherNoneFromNothingRow : OpenClaim := { program := "ytnhhjelplmdloaa", sum := "3fdff1689079217a37d25b0fe350f98c65af3b8fc60a049b01cd81420af8d6a5", func := "quorate/quoratelaw03.EtherNoneFromNothing", spec := "etherNoneFromNothing", plainKeys := false, apart := false }
def EtherNoneFromNothingSaid : Prop := etherNoneFromNothingRow.holds Try.pinned (OpenSpec.ofChange etherNoneFromNothingSpec)

/-- ITS FALSE NEIGHBOUR: 'it returns false'. Refute it at one input. -/
def etherNoneFromNothingWrong : ChangeSpec := { name := "etherNoneFromNothing", fn := fun _ => fun
  | [d] => { results := [.lit (.bool false)], args := [d] }
  | _ => none }
def EtherNoneFromNothingWrongFalsely : Prop := etherNoneFromNothingRow.holds Try.pinned (OpenSpec.ofChange etherNoneFromNothingWrong)

/-- 'quoratelaw03.EtherRefusals': WHATEVER THE INPUT: true; the input reads as it did. -/
def etherRefusalsSpec : ChangeSpec := { name := "etherRefusals", fn := fun _ => fun
  | [d] => { results := [.lit (.bool true)], args := [d] }
  | _ => none }
def etherRefusalsRow : OpenClaim := { program := "ytnhhjelplmdloaa", sum := "3fdff1689079217a37d25b0fe350f98c65af3b8fc60a049b01cd81420af8d6a5", func := "quorate/quoratelaw03.EtherRefusals", spec := "etherRefusals", plainKeys := false, apart := false }
def EtherRefusalsSaid : Prop := etherRefusalsRow.holds Try.pinned (OpenSpec.ofChange etherRefusalsSpec)

/-- ITS FALSE NEIGHBOUR: 'it returns false'. Refute it at one input. -/
def etherRefusalsWrong : ChangeSpec := { name := "etherRefusals", fn := fun _ => fun
  | [d] => { results := [.lit (.bool false)], args := [d] }
  | _ => none }
def EtherRefusalsWrongFalsely : Prop := etherRefusalsRow.holds Try.pinned (OpenSpec.ofChange etherRefusalsWrong)

/-- 'quoratelaw03.EtherOwn': WHATEVER THE INPUT: true; the input reads as it did. -/
def etherOwnSpec : ChangeSpec := { name := "etherOwn", fn := fun _ => fun
  | [d] => { results := [.lit (.bool true)], args := [d] }
  | _ => none }
def etherOwnRow : OpenClaim := { program := "ytnhhjelplmdloaa", sum := "3fdff1689079217a37d25b0fe350f98c65af3b8fc60a049b01cd81420af8d6a5", func := "quorate/quoratelaw03.EtherOwn", spec := "etherOwn", plainKeys := false, apart := false }
def EtherOwnSaid : Prop := etherOwnRow.holds Try.pinned (OpenSpec.ofChange etherOwnSpec)

/-- ITS FALSE NEIGHBOUR: 'it returns false'. Refute it at one input. -/
def etherOwnWrong : ChangeSpec := { name := "etherOwn", fn := fun _ => fun
  | [d] => { results := [.lit (.bool false)], args := [d] }
  | _ => none }
def EtherOwnWrongFalsely : Prop := etherOwnRow.holds Try.pinned (OpenSpec.ofChange etherOwnWrong)

/- THE SECOND FORM. 'bulk': how many values and letters a reading holds, each counted each time it is reached (what is shared counts as often as it is met; a slice's spare places count too). A statement '..UptoSaid' is the law's where the arguments, and the package variables that the reading takes, are together of bulk at most 1048576: NARROWER than '..Said'. Prove '..Said' where nothing that the law and all that it calls make is longer than what came in: it says more and counts as full. Else prove '..UptoSaid'. A law counts once. -/
mutual
def uptoBulk {H : Type} : DataW H → Nat
  | .lit (.string bytes) => bytes.length + 1
  | .lit _ => 1
  | .nil => 1
  | .ptr d => uptoBulk d + 1
  | .slice elems spare => uptoBulkAll elems + uptoBulkAll spare + 1
  | .agg parts => uptoBulkAll parts + 1
  | .iface _ d => uptoBulk d + 1
  | .map entries => uptoBulkEntries entries + 1
  | .held _ => 1
def uptoBulkAll {H : Type} : List (DataW H) → Nat
  | [] => 0
  | d :: r => uptoBulk d + uptoBulkAll r
def uptoBulkEntries {H : Type} : List (Lit × DataW H) → Nat
  | [] => 0
  | x :: r => uptoBulkEntry x + uptoBulkEntries r
def uptoBulkEntry {H : Type} : Lit × DataW H → Nat
  | (.string bytes, d) => bytes.length + uptoBulk d + 1
  | (_, d) => uptoBulk d + 1
 end
def uptoSmall : (H : Type) → List (DataW H) → Bool := fun _ ds => decide (uptoBulkAll ds ≤ 1048576)
def OpenSpec.upto (s : _root_.Go.ChangeSpec) : _root_.Go.OpenSpec := { _root_.Go.OpenSpec.ofChange s with cond := some uptoSmall }

/-- 'quoratelaw03.EtherNoneFromNothing', WHERE WHAT IT READS IS OF BULK AT MOST 1048576: true; the input reads as it did. -/
def etherNoneFromNothingUptoRow : OpenClaim := { program := "ytnhhjelplmdloaa", sum := "3fdff1689079217a37d25b0fe350f98c65af3b8fc60a049b01cd81420af8d6a5", func := "quorate/quoratelaw03.EtherNoneFromNothing", spec := "etherNoneFromNothing", plainKeys := false, apart := false, narrowed := true }
def EtherNoneFromNothingUptoSaid : Prop := etherNoneFromNothingUptoRow.holds Try.pinned (OpenSpec.upto etherNoneFromNothingSpec)

/-- 'quoratelaw03.EtherRefusals', WHERE WHAT IT READS IS OF BULK AT MOST 1048576: true; the input reads as it did. -/
def etherRefusalsUptoRow : OpenClaim := { program := "ytnhhjelplmdloaa", sum := "3fdff1689079217a37d25b0fe350f98c65af3b8fc60a049b01cd81420af8d6a5", func := "quorate/quoratelaw03.EtherRefusals", spec := "etherRefusals", plainKeys := false, apart := false, narrowed := true }
def EtherRefusalsUptoSaid : Prop := etherRefusalsUptoRow.holds Try.pinned (OpenSpec.upto etherRefusalsSpec)

/-- 'quoratelaw03.EtherOwn', WHERE WHAT IT READS IS OF BULK AT MOST 1048576: true; the input reads as it did. -/
def etherOwnUptoRow : OpenClaim := { program := "ytnhhjelplmdloaa", sum := "3fdff1689079217a37d25b0fe350f98c65af3b8fc60a049b01cd81420af8d6a5", func := "quorate/quoratelaw03.EtherOwn", spec := "etherOwn", plainKeys := false, apart := false, narrowed := true }
def EtherOwnUptoSaid : Prop := etherOwnUptoRow.holds Try.pinned (OpenSpec.upto etherOwnSpec)

end Rows
end Go.Proofs.Ytnhhjelplmdloaa
