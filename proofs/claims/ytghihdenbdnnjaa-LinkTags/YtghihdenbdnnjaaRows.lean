/-
  No cell of these rows narrows 'for every input' (looked for: loops, veiled, ifaces, maps, wideKeys, modest, calm, conditions, laid).
  DERIVED. THE GIVEN ROWS OF THIS SEAT. 4 by the template 'for every input the law returns true; each argument reads behind the call as it read before'; 0 by the template 'total and deterministic' (their statements: YtghihdenbdnnjaaTotals.lean).
  GIVEN WITH THE SEED: the statements are not yours to turn. If you find one false, say at which input.
  Laid BY PROGRAM, IN A SANDBOX (cutbox-rows.mjs): the forced cells as the released guide's own fill.sh prints them over the translation b90fc57663f76fd2… (all of the seat's roots in one cut). By AI agents, Wed Nov 11 2026. No macro, syntax, notation, axiom, sorry.
-/
import Derived.Test.YtghihdenbdnnjaaChecked
import GoSem.Claim
import GoSem.ClaimJoined
import GoSem.ClaimMapViews
import Derived.JoinedTies
import Derived.KernelRfl
namespace Go.Proofs.Ytghihdenbdnnjaa
/- THE CELL 'sum', in the pinned program and in every row, IS THE sha256 OF THE DUMP (.gsa) THAT YtghihdenbdnnjaaProg.lean LOADS. Nothing in Lean hashes anything: it is a label: what it is worth is what the hold of that sum in a sandbox is worth. -/
noncomputable def Try.pinned : Pinned := { name := "ytghihdenbdnnjaa", sum := "b90fc57663f76fd2b5024e495d6ac5cccd5d2ba68b601c07e32604c634911a93", checked := Try.checked }
namespace Rows
def none {H : Type} : Left H := { results := [], args := [] }

/-- 'quoratelaw04.LinkFifo': WHATEVER THE INPUT: true; the input reads as it did. -/
def linkFifoSpec : ChangeSpec := { name := "linkFifo", fn := fun _ => fun
  | [d] => { results := [.lit (.bool true)], args := [d] }
  | _ => none }
def linkFifoRow : OpenClaim := { program := "ytghihdenbdnnjaa", sum := "b90fc57663f76fd2b5024e495d6ac5cccd5d2ba68b601c07e32604c634911a93", func := "quorate/quoratelaw04.LinkFifo", spec := "linkFifo", apart := false }
def LinkFifoSaid : Prop := linkFifoRow.holds Try.pinned (OpenSpec.ofChange linkFifoSpec)

/-- ITS FALSE NEIGHBOUR: 'it returns false'. Refute it at one input. -/
def linkFifoWrong : ChangeSpec := { name := "linkFifo", fn := fun _ => fun
  | [d] => { results := [.lit (.bool false)], args := [d] }
  | _ => none }
def LinkFifoWrongFalsely : Prop := linkFifoRow.holds Try.pinned (OpenSpec.ofChange linkFifoWrong)

/-- 'quoratelaw04.LinkTags': WHATEVER THE INPUT: true; the input reads as it did. -/
def linkTagsSpec : ChangeSpec := { name := "linkTags", fn := fun _ => fun
  | [d] => { results := [.lit (.bool true)], args := [d] }
  | _ => none }
def linkTagsRow : OpenClaim := { program := "ytghihdenbdnnjaa", sum := "b90fc57663f76fd2b5024e495d6ac5cccd5d2ba68b601c07e32604c634911a93", func := "quorate/quoratelaw04.LinkTags", spec := "linkTags", apart := false }
def LinkTagsSaid : Prop := linkTagsRow.holds Try.pinned (OpenSpec.ofChange linkTagsSpec)

/-- ITS FALSE NEIGHBOUR: 'it returns false'. Refute it at one input. -/
def linkTagsWrong : ChangeSpec := { name := "linkTags", fn := fun _ => fun
  | [d] => { results := [.lit (.bool false)], args := [d] }
  | _ => none }
def LinkTagsWrongFalsely : Prop := linkTagsRow.holds Try.pinned (OpenSpec.ofChange linkTagsWrong)

/-- 'quoratelaw04.LinkFresh': WHATEVER THE INPUT: true; the input reads as it did. -/
def linkFreshSpec : ChangeSpec := { name := "linkFresh", fn := fun _ => fun
  | [d] => { results := [.lit (.bool true)], args := [d] }
  | _ => none }
def linkFreshRow : OpenClaim := { program := "ytghihdenbdnnjaa", sum := "b90fc57663f76fd2b5024e495d6ac5cccd5d2ba68b601c07e32604c634911a93", func := "quorate/quoratelaw04.LinkFresh", spec := "linkFresh", apart := false }
def LinkFreshSaid : Prop := linkFreshRow.holds Try.pinned (OpenSpec.ofChange linkFreshSpec)

/-- ITS FALSE NEIGHBOUR: 'it returns false'. Refute it at one input. -/
def linkFreshWrong : ChangeSpec := { name := "linkFresh", fn := fun _ => fun
  | [d] => { results := [.lit (.bool false)], args := [d] }
  | _ => none }
def LinkFreshWrongFalsely : Prop := linkFreshRow.holds Try.pinned (OpenSpec.ofChange linkFreshWrong)

/-- 'quoratelaw04.LinkCalm': WHATEVER THE INPUT: true; the input reads as it did. -/
def linkCalmSpec : ChangeSpec := { name := "linkCalm", fn := fun _ => fun
  | [d] => { results := [.lit (.bool true)], args := [d] }
  | _ => none }
def linkCalmRow : OpenClaim := { program := "ytghihdenbdnnjaa", sum := "b90fc57663f76fd2b5024e495d6ac5cccd5d2ba68b601c07e32604c634911a93", func := "quorate/quoratelaw04.LinkCalm", spec := "linkCalm", apart := false }
def LinkCalmSaid : Prop := linkCalmRow.holds Try.pinned (OpenSpec.ofChange linkCalmSpec)

/-- ITS FALSE NEIGHBOUR: 'it returns false'. Refute it at one input. -/
def linkCalmWrong : ChangeSpec := { name := "linkCalm", fn := fun _ => fun
  | [d] => { results := [.lit (.bool false)], args := [d] }
  | _ => none }
def LinkCalmWrongFalsely : Prop := linkCalmRow.holds Try.pinned (OpenSpec.ofChange linkCalmWrong)

/- THE SECOND FORM. 'bulk': how many values and letters a reading holds, each counted each time it is reached (what is shared counts as often as it is met; a slice's spare places count too). A statement '..UptoSaid' is the law's where the arguments, and the package variables that the reading takes, are together of bulk at most 1048576: NARROWER than '..Said'. Prove '..Said' where nothing that the law and all that it calls make is longer than what came in: it says more and counts as full. Else prove '..UptoSaid'. A law counts once. -/
mutual
def uptoBulk {H : Type} : DataW H → Nat
  | .lit (.string bytes) => bytes.length + 1
  | .lit _ => 1
  | .nil => 1
  | .ptr d => uptoBulk d + 1
  | .slice elems spare => uptoBulkAll elems + uptoBulkAll spare + 1
  | .agg parts => uptoBulkAll parts + 1
  | .iface _ d => uptoBulk d + 1
  | .map entries => uptoBulkEntries entries + 1
  | .held _ => 1
def uptoBulkAll {H : Type} : List (DataW H) → Nat
  | [] => 0
  | d :: r => uptoBulk d + uptoBulkAll r
def uptoBulkEntries {H : Type} : List (Lit × DataW H) → Nat
  | [] => 0
  | x :: r => uptoBulkEntry x + uptoBulkEntries r
def uptoBulkEntry {H : Type} : Lit × DataW H → Nat
  | (.string bytes, d) => bytes.length + uptoBulk d + 1
  | (_, d) => uptoBulk d + 1
 end
def uptoSmall : (H : Type) → List (DataW H) → Bool := fun _ ds => decide (uptoBulkAll ds ≤ 1048576)
def OpenSpec.upto (s : _root_.Go.ChangeSpec) : _root_.Go.OpenSpec := { _root_.Go.OpenSpec.ofChange s with cond := some uptoSmall }

/-- 'quoratelaw04.LinkFifo', WHERE WHAT IT READS IS OF BULK AT MOST 1048576: true; the input reads as it did. -/
def linkFifoUptoRow : OpenClaim := { program := "ytghihdenbdnnjaa", sum := "b90fc57663f76fd2b5024e495d6ac5cccd5d2ba68b601c07e32604c634911a93", func := "quorate/quoratelaw04.LinkFifo", spec := "linkFifo", apart := false, narrowed := true }
def LinkFifoUptoSaid : Prop := linkFifoUptoRow.holds Try.pinned (OpenSpec.upto linkFifoSpec)

/-- 'quoratelaw04.LinkTags', WHERE WHAT IT READS IS OF BULK AT MOST 1048576: true; the input reads as it did. -/
def linkTagsUptoRow : OpenClaim := { program := "ytghihdenbdnnjaa", sum := "b90fc57663f76fd2b5024e495d6ac5cccd5d2ba68b601c07e32604c634911a93", func := "quorate/quoratelaw04.LinkTags", spec := "linkTags", apart := false, narrowed := true }
def LinkTagsUptoSaid : Prop := linkTagsUptoRow.holds Try.pinned (OpenSpec.upto linkTagsSpec)

/-- 'quoratelaw04.LinkFresh', WHERE WHAT IT READS IS OF BULK AT MOST 1048576: true; the input reads as it did. -/
def linkFreshUptoRow : OpenClaim := { program := "ytghihdenbdnnjaa", sum := "b90fc57663f76fd2b5024e495d6ac5cccd5d2ba68b601c07e32604c634911a93", func := "quorate/quoratelaw04.LinkFresh", spec := "linkFresh", apart := false, narrowed := true }
def LinkFreshUptoSaid : Prop := linkFreshUptoRow.holds Try.pinned (OpenSpec.upto linkFreshSpec)

/-- 'quoratelaw04.LinkCalm', WHERE WHAT IT READS IS OF BULK AT MOST 1048576: true; the input reads as it did. -/
def linkCalmUptoRow : OpenClaim := { program := "ytghihdenbdnnjaa", sum := "b90fc57663f76fd2b5024e495d6ac5cccd5d2ba68b601c07e32604c634911a93", func := "quorate/quoratelaw04.LinkCalm", spec := "linkCalm", apart := false, narrowed := true }
def LinkCalmUptoSaid : Prop := linkCalmUptoRow.holds Try.pinned (OpenSpec.upto linkCalmSpec)

end Rows
end Go.Proofs.Ytghihdenbdnnjaa
