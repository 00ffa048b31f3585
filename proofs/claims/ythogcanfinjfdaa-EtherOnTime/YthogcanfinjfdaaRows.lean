/-
  No cell of these rows narrows 'for every input' (looked for: loops, veiled, ifaces, maps, wideKeys, modest, calm, conditions, laid).
  DERIVED. THE GIVEN ROWS OF THIS SEAT. 6 by the template 'for every input the law returns true; each argument reads behind the call as it read before'; 0 by the template 'total and deterministic' (their statements: YthogcanfinjfdaaTotals.lean).
  GIVEN WITH THE SEED: the statements are not yours to turn. If you find one false, say at which input.
  Laid BY PROGRAM, IN A SANDBOX (cutbox-rows.mjs): the forced cells as the released guide's own fill.sh prints them over the translation 11025882de8c4d3c… (all of the seat's roots in one cut). By AI agents, Wed Nov 11 2026. No macro, syntax, notation, axiom, sorry.
-/
import Derived.Test.YthogcanfinjfdaaChecked
import GoSem.Claim
import GoSem.ClaimJoined
import GoSem.ClaimMapViews
import Derived.JoinedTies
import Derived.KernelRfl
namespace Go.Proofs.Ythogcanfinjfdaa
/- THE CELL 'sum', in the pinned program and in every row, IS THE sha256 OF THE DUMP (.gsa) THAT YthogcanfinjfdaaProg.lean LOADS. Nothing in Lean hashes anything: it is a label: what it is worth is what the hold of that sum in a sandbox is worth. -/
noncomputable def Try.pinned : Pinned := { name := "ythogcanfinjfdaa", sum := "11025882de8c4d3cb08952b1d6931f82be7a34082d0b6e72abe9b5697635c1ed", checked := Try.checked }
namespace Rows
def none {H : Type} : Left H := { results := [], args := [] }

/-- 'quoratelaw03.EtherOnTime': WHATEVER THE INPUT: true; the input reads as it did. -/
def etherOnTimeSpec : ChangeSpec := { name := "etherOnTime", fn := fun _ => fun
  | [d1, d2, d3] => { results := [.lit (.bool true)], args := [d1, d2, d3] }
  | _ => none }
def etherOnTimeRow : OpenClaim := { program := "ythogcanfinjfdaa", sum := "11025882de8c4d3cb08952b1d6931f82be7a34082d0b6e72abe9b5697635c1ed", func := "quorate/quoratelaw03.EtherOnTime", spec := "etherOnTime", plainKeys := false, apart := false }
def EtherOnTimeSaid : Prop := etherOnTimeRow.holds Try.pinned (OpenSpec.ofChange etherOnTimeSpec)

/-- ITS FALSE NEIGHBOUR: 'it returns false'. Refute it at one input. -/
def etherOnTimeWrong : ChangeSpec := { name := "etherOnTime", fn := fun _ => fun
  | [d1, d2, d3] => { results := [.lit (.bool false)], args := [d1, d2, d3] }
  | _ => none }
def EtherOnTimeWrongFalsely : Prop := etherOnTimeRow.holds Try.pinned (OpenSpec.ofChange etherOnTimeWrong)

/-- 'quoratelaw03.EtherRoomy': WHATEVER THE INPUT: true; the input reads as it did. -/
def etherRoomySpec : ChangeSpec := { name := "etherRoomy", fn := fun _ => fun
  | [d1, d2] => { results := [.lit (.bool true)], args := [d1, d2] }
  | _ => none }
def etherRoomyRow : OpenClaim := { program := "ythogcanfinjfdaa", sum := "11025882de8c4d3cb08952b1d6931f82be7a34082d0b6e72abe9b5697635c1ed", func := "quorate/quoratelaw03.EtherRoomy", spec := "etherRoomy", plainKeys := false, apart := false }
def EtherRoomySaid : Prop := etherRoomyRow.holds Try.pinned (OpenSpec.ofChange etherRoomySpec)

/-- ITS FALSE NEIGHBOUR: 'it returns false'. Refute it at one input. -/
def etherRoomyWrong : ChangeSpec := { name := "etherRoomy", fn := fun _ => fun
  | [d1, d2] => { results := [.lit (.bool false)], args := [d1, d2] }
  | _ => none }
def EtherRoomyWrongFalsely : Prop := etherRoomyRow.holds Try.pinned (OpenSpec.ofChange etherRoomyWrong)

/-- 'quoratelaw03.EtherNoneFromNothing': WHATEVER THE INPUT: true; the input reads as it did. -/
def etherNoneFromNothingSpec : ChangeSpec := { name := "etherNoneFromNothing", fn := fun _ => fun
  | [d] => { results := [.lit (.bool true)], args := [d] }
  | _ => none }
def etherNoneFromNothingRow : OpenClaim := { program := "ythogcanfinjfdaa", sum := "11025882de8c4d3cb08952b1d6931f82be7a34082d0b6e72abe9b5697635c1ed", func := "quorate/quoratelaw03.EtherNoneFromNothing", spec := "etherNoneFromNothing", plainKeys := false, apart := false }
def EtherNoneFromNothingSaid : Prop := etherNoneFromNothingRow.holds Try.pinned (OpenSpec.ofChange etherNoneFromNothingSpec)

/-- ITS FALSE NEIGHBOUR: 'it returns false'. Refute it at one input. -/
def etherNoneFromNothingWrong : ChangeSpec := { name := "etherNoneFromNothing", fn := fun _ => fun
  | [d] => { results := [.lit (.bool false)], args := [d] }
  | _ => none }
def EtherNoneFromNothingWrongFalsely : Prop := etherNoneFromNothingRow.holds Try.pinned (OpenSpec.ofChange etherNoneFromNothingWrong)

/-- 'quoratelaw03.EtherRefusals': WHATEVER THE INPUT: true; the input reads as it did. -/
def etherRefusalsSpec : ChangeSpec := { name := "etherRefusals", fn := fun _ => fun
  | [d] => { results := [.lit (.bool true)], args := [d] }
  | _ => none }
def etherRefusalsRow : OpenClaim := { program := "ythogcanfinjfdaa", sum := "11025882de8c4d3cb08952b1d6931f82be7a34082d0b6e72abe9b5697635c1ed", func := "quorate/quoratelaw03.EtherRefusals", spec := "etherRefusals", plainKeys := false, apart := false }
def EtherRefusalsSaid : Prop := etherRefusalsRow.holds Try.pinned (OpenSpec.ofChange etherRefusalsSpec)

/-- ITS FALSE NEIGHBOUR: 'it returns false'. Refute it at one input. -/
def etherRefusalsWrong : ChangeSpec := { name := "etherRefusals", fn := fun _ => fun
  | [d] => { results := [.lit (.bool false)], args := [d] }
  | _ => none }
def EtherRefusalsWrongFalsely : Prop := etherRefusalsRow.holds Try.pinned (OpenSpec.ofChange etherRefusalsWrong)

/-- 'quoratelaw03.EtherOwn': WHATEVER THE INPUT: true; the input reads as it did. -/
def etherOwnSpec : ChangeSpec := { name := "etherOwn", fn := fun _ => fun
  | [d] => { results := [.lit (.bool true)], args := [d] }
  | _ => none }
def etherOwnRow : OpenClaim := { program := "ythogcanfinjfdaa", sum := "11025882de8c4d3cb08952b1d6931f82be7a34082d0b6e72abe9b5697635c1ed", func := "quorate/quoratelaw03.EtherOwn", spec := "etherOwn", plainKeys := false, apart := false }
def EtherOwnSaid : Prop := etherOwnRow.holds Try.pinned (OpenSpec.ofChange etherOwnSpec)

/-- ITS FALSE NEIGHBOUR: 'it returns false'. Refute it at one input. -/
def etherOwnWrong : ChangeSpec := { name := "etherOwn", fn := fun _ => fun
  | [d] => { results := [.lit (.bool false)], args := [d] }
  | _ => none }
def EtherOwnWrongFalsely : Prop := etherOwnRow.holds Try.pinned (OpenSpec.ofChange etherOwnWrong)

/-- 'quoratelaw03.EtherTurns': WHATEVER THE INPUT: true; the input reads as it did. -/
def etherTurnsSpec : ChangeSpec := { name := "etherTurns", fn := fun _ => fun
  | [d1, d2] => { results := [.lit (.bool true)], args := [d1, d2] }
  | _ => none }
def etherTurnsRow : OpenClaim := { program := "ythogcanfinjfdaa", sum := "11025882de8c4d3cb08952b1d6931f82be7a34082d0b6e72abe9b5697635c1ed", func := "quorate/quoratelaw03.EtherTurns", spec := "etherTurns", plainKeys := false, apart := false }
def EtherTurnsSaid : Prop := etherTurnsRow.holds Try.pinned (OpenSpec.ofChange etherTurnsSpec)

/-- ITS FALSE NEIGHBOUR: 'it returns false'. Refute it at one input. -/
def etherTurnsWrong : ChangeSpec := { name := "etherTurns", fn := fun _ => fun
  | [d1, d2] => { results := [.lit (.bool false)], args := [d1, d2] }
  | _ => none }
def EtherTurnsWrongFalsely : Prop := etherTurnsRow.holds Try.pinned (OpenSpec.ofChange etherTurnsWrong)

/- THE SECOND FORM. 'bulk': how many values and letters a reading holds, each counted each time it is reached (what is shared counts as often as it is met; a slice's spare places count too). A statement '..UptoSaid' is the law's where the arguments, and the package variables that the reading takes, are together of bulk at most 1048576: NARROWER than '..Said'. Prove '..Said' where nothing that the law and all that it calls make is longer than what came in: it says more and counts as full. Else prove '..UptoSaid'. A law counts once. -/
mutual
def uptoBulk {H : Type} : DataW H → Nat
  | .lit (.string bytes) => bytes.length + 1
  | .lit _ => 1
  | .nil => 1
  | .ptr d => uptoBulk d + 1
  | .slice elems spare => uptoBulkAll elems + uptoBulkAll spare + 1
  | .agg parts => uptoBulkAll parts + 1
  | .iface _ d => uptoBulk d + 1
  | .map entries => uptoBulkEntries entries + 1
  | .held _ => 1
def uptoBulkAll {H : Type} : List (DataW H) → Nat
  | [] => 0
  | d :: r => uptoBulk d + uptoBulkAll r
def uptoBulkEntries {H : Type} : List (Lit × DataW H) → Nat
  | [] => 0
  | x :: r => uptoBulkEntry x + uptoBulkEntries r
def uptoBulkEntry {H : Type} : Lit × DataW H → Nat
  | (.string bytes, d) => bytes.length + uptoBulk d + 1
  | (_, d) => uptoBulk d + 1
 end
def uptoSmall : (H : Type) → List (DataW H) → Bool := fun _ ds => decide (uptoBulkAll ds ≤ 1048576)
def OpenSpec.upto (s : _root_.Go.ChangeSpec) : _root_.Go.OpenSpec := { _root_.Go.OpenSpec.ofChange s with cond := some uptoSmall }

/-- 'quoratelaw03.EtherOnTime', WHERE WHAT IT READS IS OF BULK AT MOST 1048576: true; the input reads as it did. -/
def etherOnTimeUptoRow : OpenClaim := { program := "ythogcanfinjfdaa", sum := "11025882de8c4d3cb08952b1d6931f82be7a34082d0b6e72abe9b5697635c1ed", func := "quorate/quoratelaw03.EtherOnTime", spec := "etherOnTime", plainKeys := false, apart := false, narrowed := true }
def EtherOnTimeUptoSaid : Prop := etherOnTimeUptoRow.holds Try.pinned (OpenSpec.upto etherOnTimeSpec)

/-- 'quoratelaw03.EtherRoomy', WHERE WHAT IT READS IS OF BULK AT MOST 1048576: true; the input reads as it did. -/
def etherRoomyUptoRow : OpenClaim := { program := "ythogcanfinjfdaa", sum := "11025882de8c4d3cb08952b1d6931f82be7a34082d0b6e72abe9b5697635c1ed", func := "quorate/quoratelaw03.EtherRoomy", spec := "etherRoomy", plainKeys := false, apart := false, narrowed := true }
def EtherRoomyUptoSaid : Prop := etherRoomyUptoRow.holds Try.pinned (OpenSpec.upto etherRoomySpec)

/-- 'quoratelaw03.EtherNoneFromNothing', WHERE WHAT IT READS IS OF BULK AT MOST 1048576: true; the input reads as it did. -/
def etherNoneFromNothingUptoRow : OpenClaim := { program := "ythogcanfinjfdaa", sum := "11025882de8c4d3cb08952b1d6931f82be7a34082d0b6e72abe9b5697635c1ed", func := "quorate/quoratelaw03.EtherNoneFromNothing", spec := "etherNoneFromNothing", plainKeys := false, apart := false, narrowed := true }
def EtherNoneFromNothingUptoSaid : Prop := etherNoneFromNothingUptoRow.holds Try.pinned (OpenSpec.upto etherNoneFromNothingSpec)

/-- 'quoratelaw03.EtherRefusals', WHERE WHAT IT READS IS OF BULK AT MOST 1048576: true; the input reads as it did. -/
def etherRefusalsUptoRow : OpenClaim := { program := "ythogcanfinjfdaa", sum := "11025882de8c4d3cb08952b1d6931f82be7a34082d0b6e72abe9b5697635c1ed", func := "quorate/quoratelaw03.EtherRefusals", spec := "etherRefusals", plainKeys := false, apart := false, narrowed := true }
def EtherRefusalsUptoSaid : Prop := etherRefusalsUptoRow.holds Try.pinned (OpenSpec.upto etherRefusalsSpec)

/-- 'quoratelaw03.EtherOwn', WHERE WHAT IT READS IS OF BULK AT MOST 1048576: true; the input reads as it did. -/
def etherOwnUptoRow : OpenClaim := { program := "ythogcanfinjfdaa", sum := "11025882de8c4d3cb08952b1d6931f82be7a34082d0b6e72abe9b5697635c1ed", func := "quorate/quoratelaw03.EtherOwn", spec := "etherOwn", plainKeys := false, apart := false, narrowed := true }
def EtherOwnUptoSaid : Prop := etherOwnUptoRow.holds Try.pinned (OpenSpec.upto etherOwnSpec)

/-- 'quoratelaw03.EtherTurns', WHERE WHAT IT READS IS OF BULK AT MOST 1048576: true; the input reads as it did. -/
def etherTurnsUptoRow : OpenClaim := { program := "ythogcanfinjfdaa", sum := "11025882de8c4d3cb08952b1d6931f82be7a34082d0b6e72abe9b5697635c1ed", func := "quorate/quoratelaw03.EtherTurns", spec := "etherTurns", plainKeys := false, apart := false, narrowed := true }
def EtherTurnsUptoSaid : Prop := etherTurnsUptoRow.holds Try.pinned (OpenSpec.upto etherTurnsSpec)

end Rows
end Go.Proofs.Ythogcanfinjfdaa
