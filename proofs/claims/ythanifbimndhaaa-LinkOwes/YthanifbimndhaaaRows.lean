/-
  No cell of these rows narrows 'for every input' (looked for: loops, veiled, ifaces, maps, wideKeys, modest, calm, conditions, laid).
  DERIVED. THE GIVEN ROWS OF THIS SEAT. 6 by the template 'for every input the law returns true; each argument reads behind the call as it read before'; 0 by the template 'total and deterministic' (their statements: YthanifbimndhaaaTotals.lean).
  GIVEN WITH THE SEED: the statements are not yours to turn. If you find one false, say at which input.
  Laid BY PROGRAM, IN A SANDBOX (cutbox-rows.mjs): the forced cells as the released guide's own fill.sh prints them over the translation abff58d178806f7a… (all of the seat's roots in one cut). By AI agents, Wed Nov 11 2026. No macro, syntax, notation, axiom, sorry.
-/
import Derived.Test.YthanifbimndhaaaChecked
import GoSem.Claim
import GoSem.ClaimJoined
import GoSem.ClaimMapViews
import Derived.JoinedTies
import Derived.KernelRfl
namespace Go.Proofs.Ythanifbimndhaaa
/- THE CELL 'sum', in the pinned program and in every row, IS THE sha256 OF THE DUMP (.gsa) THAT YthanifbimndhaaaProg.lean LOADS. Nothing in Lean hashes anything: it is a label: what it is worth is what the hold of that sum in a sandbox is worth. -/
noncomputable def Try.pinned : Pinned := { name := "ythanifbimndhaaa", sum := "abff58d178806f7a90961608d410db267baaf41f5a21288c2999bd2bdbbbf63b", checked := Try.checked }
namespace Rows
def none {H : Type} : Left H := { results := [], args := [] }

/-- 'quoratelaw04.LinkNews': WHATEVER THE INPUT: true; the input reads as it did. -/
def linkNewsSpec : ChangeSpec := { name := "linkNews", fn := fun _ => fun
  | [d] => { results := [.lit (.bool true)], args := [d] }
  | _ => none }
def linkNewsRow : OpenClaim := { program := "ythanifbimndhaaa", sum := "abff58d178806f7a90961608d410db267baaf41f5a21288c2999bd2bdbbbf63b", func := "quorate/quoratelaw04.LinkNews", spec := "linkNews", apart := false }
def LinkNewsSaid : Prop := linkNewsRow.holds Try.pinned (OpenSpec.ofChange linkNewsSpec)

/-- ITS FALSE NEIGHBOUR: 'it returns false'. Refute it at one input. -/
def linkNewsWrong : ChangeSpec := { name := "linkNews", fn := fun _ => fun
  | [d] => { results := [.lit (.bool false)], args := [d] }
  | _ => none }
def LinkNewsWrongFalsely : Prop := linkNewsRow.holds Try.pinned (OpenSpec.ofChange linkNewsWrong)

/-- 'quoratelaw04.LinkPushes': WHATEVER THE INPUT: true; the input reads as it did. -/
def linkPushesSpec : ChangeSpec := { name := "linkPushes", fn := fun _ => fun
  | [d] => { results := [.lit (.bool true)], args := [d] }
  | _ => none }
def linkPushesRow : OpenClaim := { program := "ythanifbimndhaaa", sum := "abff58d178806f7a90961608d410db267baaf41f5a21288c2999bd2bdbbbf63b", func := "quorate/quoratelaw04.LinkPushes", spec := "linkPushes", apart := false }
def LinkPushesSaid : Prop := linkPushesRow.holds Try.pinned (OpenSpec.ofChange linkPushesSpec)

/-- ITS FALSE NEIGHBOUR: 'it returns false'. Refute it at one input. -/
def linkPushesWrong : ChangeSpec := { name := "linkPushes", fn := fun _ => fun
  | [d] => { results := [.lit (.bool false)], args := [d] }
  | _ => none }
def LinkPushesWrongFalsely : Prop := linkPushesRow.holds Try.pinned (OpenSpec.ofChange linkPushesWrong)

/-- 'quoratelaw04.LinkFrames': WHATEVER THE INPUT: true; the input reads as it did. -/
def linkFramesSpec : ChangeSpec := { name := "linkFrames", fn := fun _ => fun
  | [d] => { results := [.lit (.bool true)], args := [d] }
  | _ => none }
def linkFramesRow : OpenClaim := { program := "ythanifbimndhaaa", sum := "abff58d178806f7a90961608d410db267baaf41f5a21288c2999bd2bdbbbf63b", func := "quorate/quoratelaw04.LinkFrames", spec := "linkFrames", apart := false }
def LinkFramesSaid : Prop := linkFramesRow.holds Try.pinned (OpenSpec.ofChange linkFramesSpec)

/-- ITS FALSE NEIGHBOUR: 'it returns false'. Refute it at one input. -/
def linkFramesWrong : ChangeSpec := { name := "linkFrames", fn := fun _ => fun
  | [d] => { results := [.lit (.bool false)], args := [d] }
  | _ => none }
def LinkFramesWrongFalsely : Prop := linkFramesRow.holds Try.pinned (OpenSpec.ofChange linkFramesWrong)

/-- 'quoratelaw04.LinkAcks': WHATEVER THE INPUT: true; the input reads as it did. -/
def linkAcksSpec : ChangeSpec := { name := "linkAcks", fn := fun _ => fun
  | [d] => { results := [.lit (.bool true)], args := [d] }
  | _ => none }
def linkAcksRow : OpenClaim := { program := "ythanifbimndhaaa", sum := "abff58d178806f7a90961608d410db267baaf41f5a21288c2999bd2bdbbbf63b", func := "quorate/quoratelaw04.LinkAcks", spec := "linkAcks", apart := false }
def LinkAcksSaid : Prop := linkAcksRow.holds Try.pinned (OpenSpec.ofChange linkAcksSpec)

/-- ITS FALSE NEIGHBOUR: 'it returns false'. Refute it at one input. -/
def linkAcksWrong : ChangeSpec := { name := "linkAcks", fn := fun _ => fun
  | [d] => { results := [.lit (.bool false)], args := [d] }
  | _ => none }
def LinkAcksWrongFalsely : Prop := linkAcksRow.holds Try.pinned (OpenSpec.ofChange linkAcksWrong)

/-- 'quoratelaw04.LinkTakes': WHATEVER THE INPUT: true; the input reads as it did. -/
def linkTakesSpec : ChangeSpec := { name := "linkTakes", fn := fun _ => fun
  | [d] => { results := [.lit (.bool true)], args := [d] }
  | _ => none }
def linkTakesRow : OpenClaim := { program := "ythanifbimndhaaa", sum := "abff58d178806f7a90961608d410db267baaf41f5a21288c2999bd2bdbbbf63b", func := "quorate/quoratelaw04.LinkTakes", spec := "linkTakes", apart := false }
def LinkTakesSaid : Prop := linkTakesRow.holds Try.pinned (OpenSpec.ofChange linkTakesSpec)

/-- ITS FALSE NEIGHBOUR: 'it returns false'. Refute it at one input. -/
def linkTakesWrong : ChangeSpec := { name := "linkTakes", fn := fun _ => fun
  | [d] => { results := [.lit (.bool false)], args := [d] }
  | _ => none }
def LinkTakesWrongFalsely : Prop := linkTakesRow.holds Try.pinned (OpenSpec.ofChange linkTakesWrong)

/-- 'quoratelaw04.LinkOwes': WHATEVER THE INPUT: true; the input reads as it did. -/
def linkOwesSpec : ChangeSpec := { name := "linkOwes", fn := fun _ => fun
  | [d] => { results := [.lit (.bool true)], args := [d] }
  | _ => none }
def linkOwesRow : OpenClaim := { program := "ythanifbimndhaaa", sum := "abff58d178806f7a90961608d410db267baaf41f5a21288c2999bd2bdbbbf63b", func := "quorate/quoratelaw04.LinkOwes", spec := "linkOwes", apart := false }
def LinkOwesSaid : Prop := linkOwesRow.holds Try.pinned (OpenSpec.ofChange linkOwesSpec)

/-- ITS FALSE NEIGHBOUR: 'it returns false'. Refute it at one input. -/
def linkOwesWrong : ChangeSpec := { name := "linkOwes", fn := fun _ => fun
  | [d] => { results := [.lit (.bool false)], args := [d] }
  | _ => none }
def LinkOwesWrongFalsely : Prop := linkOwesRow.holds Try.pinned (OpenSpec.ofChange linkOwesWrong)

/- THE SECOND FORM. 'bulk': how many values and letters a reading holds, each counted each time it is reached (what is shared counts as often as it is met; a slice's spare places count too). A statement '..UptoSaid' is the law's where the arguments, and the package variables that the reading takes, are together of bulk at most 1048576: NARROWER than '..Said'. Prove '..Said' where nothing that the law and all that it calls make is longer than what came in: it says more and counts as full. Else prove '..UptoSaid'. A law counts once. -/
mutual
def uptoBulk {H : Type} : DataW H → Nat
  | .lit (.string bytes) => bytes.length + 1
  | .lit _ => 1
  | .nil => 1
  | .ptr d => uptoBulk d + 1
  | .slice elems spare => uptoBulkAll elems + uptoBulkAll spare + 1
  | .agg parts => uptoBulkAll parts + 1
  | .iface _ d => uptoBulk d + 1
  | .map entries => uptoBulkEntries entries + 1
  | .held _ => 1
def uptoBulkAll {H : Type} : List (DataW H) → Nat
  | [] => 0
  | d :: r => uptoBulk d + uptoBulkAll r
def uptoBulkEntries {H : Type} : List (Lit × DataW H) → Nat
  | [] => 0
  | x :: r => uptoBulkEntry x + uptoBulkEntries r
def uptoBulkEntry {H : Type} : Lit × DataW H → Nat
  | (.string bytes, d) => bytes.length + uptoBulk d + 1
  | (_, d) => uptoBulk d + 1
 end
def uptoSmall : (H : Type) → List (DataW H) → Bool := fun _ ds => decide (uptoBulkAll ds ≤ 1048576)
def OpenSpec.upto (s : _root_.Go.ChangeSpec) : _root_.Go.OpenSpec := { _root_.Go.OpenSpec.ofChange s with cond := some uptoSmall }

/-- 'quoratelaw04.LinkNews', WHERE WHAT IT READS IS OF BULK AT MOST 1048576: true; the input reads as it did. -/
def linkNewsUptoRow : OpenClaim := { program := "ythanifbimndhaaa", sum := "abff58d178806f7a90961608d410db267baaf41f5a21288c2999bd2bdbbbf63b", func := "quorate/quoratelaw04.LinkNews", spec := "linkNews", apart := false, narrowed := true }
def LinkNewsUptoSaid : Prop := linkNewsUptoRow.holds Try.pinned (OpenSpec.upto linkNewsSpec)

/-- 'quoratelaw04.LinkPushes', WHERE WHAT IT READS IS OF BULK AT MOST 1048576: true; the input reads as it did. -/
def linkPushesUptoRow : OpenClaim := { program := "ythanifbimndhaaa", sum := "abff58d178806f7a90961608d410db267baaf41f5a21288c2999bd2bdbbbf63b", func := "quorate/quoratelaw04.LinkPushes", spec := "linkPushes", apart := false, narrowed := true }
def LinkPushesUptoSaid : Prop := linkPushesUptoRow.holds Try.pinned (OpenSpec.upto linkPushesSpec)

/-- 'quoratelaw04.LinkFrames', WHERE WHAT IT READS IS OF BULK AT MOST 1048576: true; the input reads as it did. -/
def linkFramesUptoRow : OpenClaim := { program := "ythanifbimndhaaa", sum := "abff58d178806f7a90961608d410db267baaf41f5a21288c2999bd2bdbbbf63b", func := "quorate/quoratelaw04.LinkFrames", spec := "linkFrames", apart := false, narrowed := true }
def LinkFramesUptoSaid : Prop := linkFramesUptoRow.holds Try.pinned (OpenSpec.upto linkFramesSpec)

/-- 'quoratelaw04.LinkAcks', WHERE WHAT IT READS IS OF BULK AT MOST 1048576: true; the input reads as it did. -/
def linkAcksUptoRow : OpenClaim := { program := "ythanifbimndhaaa", sum := "abff58d178806f7a90961608d410db267baaf41f5a21288c2999bd2bdbbbf63b", func := "quorate/quoratelaw04.LinkAcks", spec := "linkAcks", apart := false, narrowed := true }
def LinkAcksUptoSaid : Prop := linkAcksUptoRow.holds Try.pinned (OpenSpec.upto linkAcksSpec)

/-- 'quoratelaw04.LinkTakes', WHERE WHAT IT READS IS OF BULK AT MOST 1048576: true; the input reads as it did. -/
def linkTakesUptoRow : OpenClaim := { program := "ythanifbimndhaaa", sum := "abff58d178806f7a90961608d410db267baaf41f5a21288c2999bd2bdbbbf63b", func := "quorate/quoratelaw04.LinkTakes", spec := "linkTakes", apart := false, narrowed := true }
def LinkTakesUptoSaid : Prop := linkTakesUptoRow.holds Try.pinned (OpenSpec.upto linkTakesSpec)

/-- 'quoratelaw04.LinkOwes', WHERE WHAT IT READS IS OF BULK AT MOST 1048576: true; the input reads as it did. -/
def linkOwesUptoRow : OpenClaim := { program := "ythanifbimndhaaa", sum := "abff58d178806f7a90961608d410db267baaf41f5a21288c2999bd2bdbbbf63b", func := "quorate/quoratelaw04.LinkOwes", spec := "linkOwes", apart := false, narrowed := true }
def LinkOwesUptoSaid : Prop := linkOwesUptoRow.holds Try.pinned (OpenSpec.upto linkOwesSpec)

end Rows
end Go.Proofs.Ythanifbimndhaaa
