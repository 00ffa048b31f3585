/-
  No cell of these rows narrows 'for every input' (looked for: loops, veiled, ifaces, maps, wideKeys, modest, calm, conditions, laid).
  DERIVED. THE GIVEN ROWS OF THIS SEAT. 6 by the template 'for every input the law returns true; each argument reads behind the call as it read before'; 0 by the template 'total and deterministic' (their statements: YtcieinejjkddfaaTotals.lean).
  GIVEN WITH THE SEED: the statements are not yours to turn. If you find one false, say at which input.
  Laid BY PROGRAM, IN A SANDBOX (cutbox-rows.mjs): the forced cells as the released guide's own fill.sh prints them over the translation 7fda38addd116c0b… (all of the seat's roots in one cut). By AI agents, Wed Nov 11 2026. No macro, syntax, notation, axiom, sorry.
-/
import Derived.Test.YtcieinejjkddfaaChecked
import GoSem.Claim
import GoSem.ClaimJoined
import GoSem.ClaimMapViews
import Derived.JoinedTies
import Derived.KernelRfl
namespace Go.Proofs.Ytcieinejjkddfaa
/- THE CELL 'sum', in the pinned program and in every row, IS THE sha256 OF THE DUMP (.gsa) THAT YtcieinejjkddfaaProg.lean LOADS. Nothing in Lean hashes anything: it is a label: what it is worth is what the hold of that sum in a sandbox is worth. -/
noncomputable def Try.pinned : Pinned := { name := "ytcieinejjkddfaa", sum := "7fda38addd116c0b7e2a80634bf7bfa072b2bfa730e1a3d2a3f07339326304fa", checked := Try.checked }
namespace Rows
def none {H : Type} : Left H := { results := [], args := [] }

/-- 'quoratelaw11.QuorumBest': WHATEVER THE INPUT: true; the input reads as it did. -/
def quorumBestSpec : ChangeSpec := { name := "quorumBest", fn := fun _ => fun
  | [d] => { results := [.lit (.bool true)], args := [d] }
  | _ => none }
def quorumBestRow : OpenClaim := { program := "ytcieinejjkddfaa", sum := "7fda38addd116c0b7e2a80634bf7bfa072b2bfa730e1a3d2a3f07339326304fa", func := "quorate/quoratelaw11.QuorumBest", spec := "quorumBest", apart := false }
def QuorumBestSaid : Prop := quorumBestRow.holds Try.pinned (OpenSpec.ofChange quorumBestSpec)

/-- ITS FALSE NEIGHBOUR: 'it returns false'. Refute it at one input. -/
def quorumBestWrong : ChangeSpec := { name := "quorumBest", fn := fun _ => fun
  | [d] => { results := [.lit (.bool false)], args := [d] }
  | _ => none }
def QuorumBestWrongFalsely : Prop := quorumBestRow.holds Try.pinned (OpenSpec.ofChange quorumBestWrong)

/-- 'quoratelaw11.QuorumHalf': WHATEVER THE INPUT: true; the input reads as it did. -/
def quorumHalfSpec : ChangeSpec := { name := "quorumHalf", fn := fun _ => fun
  | [d] => { results := [.lit (.bool true)], args := [d] }
  | _ => none }
def quorumHalfRow : OpenClaim := { program := "ytcieinejjkddfaa", sum := "7fda38addd116c0b7e2a80634bf7bfa072b2bfa730e1a3d2a3f07339326304fa", func := "quorate/quoratelaw11.QuorumHalf", spec := "quorumHalf", apart := false }
def QuorumHalfSaid : Prop := quorumHalfRow.holds Try.pinned (OpenSpec.ofChange quorumHalfSpec)

/-- ITS FALSE NEIGHBOUR: 'it returns false'. Refute it at one input. -/
def quorumHalfWrong : ChangeSpec := { name := "quorumHalf", fn := fun _ => fun
  | [d] => { results := [.lit (.bool false)], args := [d] }
  | _ => none }
def QuorumHalfWrongFalsely : Prop := quorumHalfRow.holds Try.pinned (OpenSpec.ofChange quorumHalfWrong)

/-- 'quoratelaw11.QuorumMeet': WHATEVER THE INPUT: true; the input reads as it did. -/
def quorumMeetSpec : ChangeSpec := { name := "quorumMeet", fn := fun _ => fun
  | [d] => { results := [.lit (.bool true)], args := [d] }
  | _ => none }
def quorumMeetRow : OpenClaim := { program := "ytcieinejjkddfaa", sum := "7fda38addd116c0b7e2a80634bf7bfa072b2bfa730e1a3d2a3f07339326304fa", func := "quorate/quoratelaw11.QuorumMeet", spec := "quorumMeet", apart := false }
def QuorumMeetSaid : Prop := quorumMeetRow.holds Try.pinned (OpenSpec.ofChange quorumMeetSpec)

/-- ITS FALSE NEIGHBOUR: 'it returns false'. Refute it at one input. -/
def quorumMeetWrong : ChangeSpec := { name := "quorumMeet", fn := fun _ => fun
  | [d] => { results := [.lit (.bool false)], args := [d] }
  | _ => none }
def QuorumMeetWrongFalsely : Prop := quorumMeetRow.holds Try.pinned (OpenSpec.ofChange quorumMeetWrong)

/-- 'quoratelaw11.QuorumBears': WHATEVER THE INPUT: true; the input reads as it did. -/
def quorumBearsSpec : ChangeSpec := { name := "quorumBears", fn := fun _ => fun
  | [d] => { results := [.lit (.bool true)], args := [d] }
  | _ => none }
def quorumBearsRow : OpenClaim := { program := "ytcieinejjkddfaa", sum := "7fda38addd116c0b7e2a80634bf7bfa072b2bfa730e1a3d2a3f07339326304fa", func := "quorate/quoratelaw11.QuorumBears", spec := "quorumBears", apart := false }
def QuorumBearsSaid : Prop := quorumBearsRow.holds Try.pinned (OpenSpec.ofChange quorumBearsSpec)

/-- ITS FALSE NEIGHBOUR: 'it returns false'. Refute it at one input. -/
def quorumBearsWrong : ChangeSpec := { name := "quorumBears", fn := fun _ => fun
  | [d] => { results := [.lit (.bool false)], args := [d] }
  | _ => none }
def QuorumBearsWrongFalsely : Prop := quorumBearsRow.holds Try.pinned (OpenSpec.ofChange quorumBearsWrong)

/-- 'quoratelaw11.QuorumPrimary': WHATEVER THE INPUT: true; the input reads as it did. -/
def quorumPrimarySpec : ChangeSpec := { name := "quorumPrimary", fn := fun _ => fun
  | [d] => { results := [.lit (.bool true)], args := [d] }
  | _ => none }
def quorumPrimaryRow : OpenClaim := { program := "ytcieinejjkddfaa", sum := "7fda38addd116c0b7e2a80634bf7bfa072b2bfa730e1a3d2a3f07339326304fa", func := "quorate/quoratelaw11.QuorumPrimary", spec := "quorumPrimary", apart := false }
def QuorumPrimarySaid : Prop := quorumPrimaryRow.holds Try.pinned (OpenSpec.ofChange quorumPrimarySpec)

/-- ITS FALSE NEIGHBOUR: 'it returns false'. Refute it at one input. -/
def quorumPrimaryWrong : ChangeSpec := { name := "quorumPrimary", fn := fun _ => fun
  | [d] => { results := [.lit (.bool false)], args := [d] }
  | _ => none }
def QuorumPrimaryWrongFalsely : Prop := quorumPrimaryRow.holds Try.pinned (OpenSpec.ofChange quorumPrimaryWrong)

/-- 'quoratelaw11.QuorumSets': WHATEVER THE INPUT: true; the input reads as it did. -/
def quorumSetsSpec : ChangeSpec := { name := "quorumSets", fn := fun _ => fun
  | [d] => { results := [.lit (.bool true)], args := [d] }
  | _ => none }
def quorumSetsRow : OpenClaim := { program := "ytcieinejjkddfaa", sum := "7fda38addd116c0b7e2a80634bf7bfa072b2bfa730e1a3d2a3f07339326304fa", func := "quorate/quoratelaw11.QuorumSets", spec := "quorumSets", apart := false }
def QuorumSetsSaid : Prop := quorumSetsRow.holds Try.pinned (OpenSpec.ofChange quorumSetsSpec)

/-- ITS FALSE NEIGHBOUR: 'it returns false'. Refute it at one input. -/
def quorumSetsWrong : ChangeSpec := { name := "quorumSets", fn := fun _ => fun
  | [d] => { results := [.lit (.bool false)], args := [d] }
  | _ => none }
def QuorumSetsWrongFalsely : Prop := quorumSetsRow.holds Try.pinned (OpenSpec.ofChange quorumSetsWrong)

/- THE SECOND FORM. 'bulk': how many values and letters a reading holds, each counted each time it is reached (what is shared counts as often as it is met; a slice's spare places count too). A statement '..UptoSaid' is the law's where the arguments, and the package variables that the reading takes, are together of bulk at most 1048576: NARROWER than '..Said'. Prove '..Said' where nothing that the law and all that it calls make is longer than what came in: it says more and counts as full. Else prove '..UptoSaid'. A law counts once. -/
mutual
def uptoBulk {H : Type} : DataW H → Nat
  | .lit (.string bytes) => bytes.length + 1
  | .lit _ => 1
  | .nil => 1
  | .ptr d => uptoBulk d + 1
  | .slice elems spare => uptoBulkAll elems + uptoBulkAll spare + 1
  | .agg parts => uptoBulkAll parts + 1
  | .iface _ d => uptoBulk d + 1
  | .map entries => uptoBulkEntries entries + 1
  | .held _ => 1
def uptoBulkAll {H : Type} : List (DataW H) → Nat
  | [] => 0
  | d :: r => uptoBulk d + uptoBulkAll r
def uptoBulkEntries {H : Type} : List (Lit × DataW H) → Nat
  | [] => 0
  | x :: r => uptoBulkEntry x + uptoBulkEntries r
def uptoBulkEntry {H : Type} : Lit × DataW H → Nat
  | (.string bytes, d) => bytes.length + uptoBulk d + 1
  | (_, d) => uptoBulk d + 1
 end
def uptoSmall : (H : Type) → List (DataW H) → Bool := fun _ ds => decide (uptoBulkAll ds ≤ 1048576)
def OpenSpec.upto (s : _root_.Go.ChangeSpec) : _root_.Go.OpenSpec := { _root_.Go.OpenSpec.ofChange s with cond := some uptoSmall }

/-- 'quoratelaw11.QuorumBest', WHERE WHAT IT READS IS OF BULK AT MOST 1048576: true; the input reads as it did. -/
def quorumBestUptoRow : OpenClaim := { program := "ytcieinejjkddfaa", sum := "7fda38addd116c0b7e2a80634bf7bfa072b2bfa730e1a3d2a3f07339326304fa", func := "quorate/quoratelaw11.QuorumBest", spec := "quorumBest", apart := false, narrowed := true }
def QuorumBestUptoSaid : Prop := quorumBestUptoRow.holds Try.pinned (OpenSpec.upto quorumBestSpec)

/-- 'quoratelaw11.QuorumHalf', WHERE WHAT IT READS IS OF BULK AT MOST 1048576: true; the input reads as it did. -/
def quorumHalfUptoRow : OpenClaim := { program := "ytcieinejjkddfaa", sum := "7fda38addd116c0b7e2a80634bf7bfa072b2bfa730e1a3d2a3f07339326304fa", func := "quorate/quoratelaw11.QuorumHalf", spec := "quorumHalf", apart := false, narrowed := true }
def QuorumHalfUptoSaid : Prop := quorumHalfUptoRow.holds Try.pinned (OpenSpec.upto quorumHalfSpec)

/-- 'quoratelaw11.QuorumMeet', WHERE WHAT IT READS IS OF BULK AT MOST 1048576: true; the input reads as it did. -/
def quorumMeetUptoRow : OpenClaim := { program := "ytcieinejjkddfaa", sum := "7fda38addd116c0b7e2a80634bf7bfa072b2bfa730e1a3d2a3f07339326304fa", func := "quorate/quoratelaw11.QuorumMeet", spec := "quorumMeet", apart := false, narrowed := true }
def QuorumMeetUptoSaid : Prop := quorumMeetUptoRow.holds Try.pinned (OpenSpec.upto quorumMeetSpec)

/-- 'quoratelaw11.QuorumBears', WHERE WHAT IT READS IS OF BULK AT MOST 1048576: true; the input reads as it did. -/
def quorumBearsUptoRow : OpenClaim := { program := "ytcieinejjkddfaa", sum := "7fda38addd116c0b7e2a80634bf7bfa072b2bfa730e1a3d2a3f07339326304fa", func := "quorate/quoratelaw11.QuorumBears", spec := "quorumBears", apart := false, narrowed := true }
def QuorumBearsUptoSaid : Prop := quorumBearsUptoRow.holds Try.pinned (OpenSpec.upto quorumBearsSpec)

/-- 'quoratelaw11.QuorumPrimary', WHERE WHAT IT READS IS OF BULK AT MOST 1048576: true; the input reads as it did. -/
def quorumPrimaryUptoRow : OpenClaim := { program := "ytcieinejjkddfaa", sum := "7fda38addd116c0b7e2a80634bf7bfa072b2bfa730e1a3d2a3f07339326304fa", func := "quorate/quoratelaw11.QuorumPrimary", spec := "quorumPrimary", apart := false, narrowed := true }
def QuorumPrimaryUptoSaid : Prop := quorumPrimaryUptoRow.holds Try.pinned (OpenSpec.upto quorumPrimarySpec)

/-- 'quoratelaw11.QuorumSets', WHERE WHAT IT READS IS OF BULK AT MOST 1048576: true; the input reads as it did. -/
def quorumSetsUptoRow : OpenClaim := { program := "ytcieinejjkddfaa", sum := "7fda38addd116c0b7e2a80634bf7bfa072b2bfa730e1a3d2a3f07339326304fa", func := "quorate/quoratelaw11.QuorumSets", spec := "quorumSets", apart := false, narrowed := true }
def QuorumSetsUptoSaid : Prop := quorumSetsUptoRow.holds Try.pinned (OpenSpec.upto quorumSetsSpec)

end Rows
end Go.Proofs.Ytcieinejjkddfaa
