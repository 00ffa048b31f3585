/-
  No cell of these rows narrows 'for every input' (looked for: loops, veiled, ifaces, maps, wideKeys, modest, calm, conditions, laid).
  DERIVED. THE GIVEN ROWS OF THIS SEAT. 6 by the template 'for every input the law returns true; each argument reads behind the call as it read before'; 0 by the template 'total and deterministic' (their statements: YtbdefhagpgpoiaaTotals.lean).
  GIVEN WITH THE SEED: the statements are not yours to turn. If you find one false, say at which input.
  Laid BY PROGRAM, IN A SANDBOX (cutbox-rows.mjs): the forced cells as the released guide's own fill.sh prints them over the translation 11dc47aae31eb111… (all of the seat's roots in one cut). By AI agents, Wed Nov 11 2026. No macro, syntax, notation, axiom, sorry.
-/
import Derived.Test.YtbdefhagpgpoiaaChecked
import GoSem.Claim
import GoSem.ClaimJoined
import GoSem.ClaimMapViews
import Derived.JoinedTies
import Derived.KernelRfl
namespace Go.Proofs.Ytbdefhagpgpoiaa
/- THE CELL 'sum', in the pinned program and in every row, IS THE sha256 OF THE DUMP (.gsa) THAT YtbdefhagpgpoiaaProg.lean LOADS. Nothing in Lean hashes anything: it is a label: what it is worth is what the hold of that sum in a sandbox is worth. -/
noncomputable def Try.pinned : Pinned := { name := "ytbdefhagpgpoiaa", sum := "11dc47aae31eb11165292b8b2674ebdea2ff447689fc2d5b42283f3920326d54", checked := Try.checked }
namespace Rows
def none {H : Type} : Left H := { results := [], args := [] }

/-- 'quoratelaw06.MemberRises': WHATEVER THE INPUT: true; the input reads as it did. -/
def memberRisesSpec : ChangeSpec := { name := "memberRises", fn := fun _ => fun
  | [d] => { results := [.lit (.bool true)], args := [d] }
  | _ => none }
def memberRisesRow : OpenClaim := { program := "ytbdefhagpgpoiaa", sum := "11dc47aae31eb11165292b8b2674ebdea2ff447689fc2d5b42283f3920326d54", func := "quorate/quoratelaw06.MemberRises", spec := "memberRises", unfollowed := true, recurses := true, apart := false }
def MemberRisesSaid : Prop := memberRisesRow.holds Try.pinned (OpenSpec.ofChange memberRisesSpec)

/-- ITS FALSE NEIGHBOUR: 'it returns false'. Refute it at one input. -/
def memberRisesWrong : ChangeSpec := { name := "memberRises", fn := fun _ => fun
  | [d] => { results := [.lit (.bool false)], args := [d] }
  | _ => none }
def MemberRisesWrongFalsely : Prop := memberRisesRow.holds Try.pinned (OpenSpec.ofChange memberRisesWrong)

/-- 'quoratelaw06.MemberRefusals': WHATEVER THE INPUT: true; the input reads as it did. -/
def memberRefusalsSpec : ChangeSpec := { name := "memberRefusals", fn := fun _ => fun
  | [d] => { results := [.lit (.bool true)], args := [d] }
  | _ => none }
def memberRefusalsRow : OpenClaim := { program := "ytbdefhagpgpoiaa", sum := "11dc47aae31eb11165292b8b2674ebdea2ff447689fc2d5b42283f3920326d54", func := "quorate/quoratelaw06.MemberRefusals", spec := "memberRefusals", unfollowed := true, recurses := true, apart := false }
def MemberRefusalsSaid : Prop := memberRefusalsRow.holds Try.pinned (OpenSpec.ofChange memberRefusalsSpec)

/-- ITS FALSE NEIGHBOUR: 'it returns false'. Refute it at one input. -/
def memberRefusalsWrong : ChangeSpec := { name := "memberRefusals", fn := fun _ => fun
  | [d] => { results := [.lit (.bool false)], args := [d] }
  | _ => none }
def MemberRefusalsWrongFalsely : Prop := memberRefusalsRow.holds Try.pinned (OpenSpec.ofChange memberRefusalsWrong)

/-- 'quoratelaw06.MemberOrderless': WHATEVER THE INPUT: true; the input reads as it did. -/
def memberOrderlessSpec : ChangeSpec := { name := "memberOrderless", fn := fun _ => fun
  | [d1, d2] => { results := [.lit (.bool true)], args := [d1, d2] }
  | _ => none }
def memberOrderlessRow : OpenClaim := { program := "ytbdefhagpgpoiaa", sum := "11dc47aae31eb11165292b8b2674ebdea2ff447689fc2d5b42283f3920326d54", func := "quorate/quoratelaw06.MemberOrderless", spec := "memberOrderless", unfollowed := true, recurses := true, apart := false }
def MemberOrderlessSaid : Prop := memberOrderlessRow.holds Try.pinned (OpenSpec.ofChange memberOrderlessSpec)

/-- ITS FALSE NEIGHBOUR: 'it returns false'. Refute it at one input. -/
def memberOrderlessWrong : ChangeSpec := { name := "memberOrderless", fn := fun _ => fun
  | [d1, d2] => { results := [.lit (.bool false)], args := [d1, d2] }
  | _ => none }
def MemberOrderlessWrongFalsely : Prop := memberOrderlessRow.holds Try.pinned (OpenSpec.ofChange memberOrderlessWrong)

/-- 'quoratelaw06.MemberOwn': WHATEVER THE INPUT: true; the input reads as it did. -/
def memberOwnSpec : ChangeSpec := { name := "memberOwn", fn := fun _ => fun
  | [d] => { results := [.lit (.bool true)], args := [d] }
  | _ => none }
def memberOwnRow : OpenClaim := { program := "ytbdefhagpgpoiaa", sum := "11dc47aae31eb11165292b8b2674ebdea2ff447689fc2d5b42283f3920326d54", func := "quorate/quoratelaw06.MemberOwn", spec := "memberOwn", unfollowed := true, recurses := true, apart := false }
def MemberOwnSaid : Prop := memberOwnRow.holds Try.pinned (OpenSpec.ofChange memberOwnSpec)

/-- ITS FALSE NEIGHBOUR: 'it returns false'. Refute it at one input. -/
def memberOwnWrong : ChangeSpec := { name := "memberOwn", fn := fun _ => fun
  | [d] => { results := [.lit (.bool false)], args := [d] }
  | _ => none }
def MemberOwnWrongFalsely : Prop := memberOwnRow.holds Try.pinned (OpenSpec.ofChange memberOwnWrong)

/-- 'quoratelaw06.MemberOneView': WHATEVER THE INPUT: true; the input reads as it did. -/
def memberOneViewSpec : ChangeSpec := { name := "memberOneView", fn := fun _ => fun
  | [d1, d2, d3] => { results := [.lit (.bool true)], args := [d1, d2, d3] }
  | _ => none }
def memberOneViewRow : OpenClaim := { program := "ytbdefhagpgpoiaa", sum := "11dc47aae31eb11165292b8b2674ebdea2ff447689fc2d5b42283f3920326d54", func := "quorate/quoratelaw06.MemberOneView", spec := "memberOneView", unfollowed := true, recurses := true, apart := false }
def MemberOneViewSaid : Prop := memberOneViewRow.holds Try.pinned (OpenSpec.ofChange memberOneViewSpec)

/-- ITS FALSE NEIGHBOUR: 'it returns false'. Refute it at one input. -/
def memberOneViewWrong : ChangeSpec := { name := "memberOneView", fn := fun _ => fun
  | [d1, d2, d3] => { results := [.lit (.bool false)], args := [d1, d2, d3] }
  | _ => none }
def MemberOneViewWrongFalsely : Prop := memberOneViewRow.holds Try.pinned (OpenSpec.ofChange memberOneViewWrong)

/-- 'quoratelaw06.MemberFollows': WHATEVER THE INPUT: true; the input reads as it did. -/
def memberFollowsSpec : ChangeSpec := { name := "memberFollows", fn := fun _ => fun
  | [d1, d2, d3, d4] => { results := [.lit (.bool true)], args := [d1, d2, d3, d4] }
  | _ => none }
def memberFollowsRow : OpenClaim := { program := "ytbdefhagpgpoiaa", sum := "11dc47aae31eb11165292b8b2674ebdea2ff447689fc2d5b42283f3920326d54", func := "quorate/quoratelaw06.MemberFollows", spec := "memberFollows", unfollowed := true, recurses := true, apart := false }
def MemberFollowsSaid : Prop := memberFollowsRow.holds Try.pinned (OpenSpec.ofChange memberFollowsSpec)

/-- ITS FALSE NEIGHBOUR: 'it returns false'. Refute it at one input. -/
def memberFollowsWrong : ChangeSpec := { name := "memberFollows", fn := fun _ => fun
  | [d1, d2, d3, d4] => { results := [.lit (.bool false)], args := [d1, d2, d3, d4] }
  | _ => none }
def MemberFollowsWrongFalsely : Prop := memberFollowsRow.holds Try.pinned (OpenSpec.ofChange memberFollowsWrong)

/- THE SECOND FORM. 'bulk': how many values and letters a reading holds, each counted each time it is reached (what is shared counts as often as it is met; a slice's spare places count too). A statement '..UptoSaid' is the law's where the arguments, and the package variables that the reading takes, are together of bulk at most 1048576: NARROWER than '..Said'. Prove '..Said' where nothing that the law and all that it calls make is longer than what came in: it says more and counts as full. Else prove '..UptoSaid'. A law counts once. -/
mutual
def uptoBulk {H : Type} : DataW H → Nat
  | .lit (.string bytes) => bytes.length + 1
  | .lit _ => 1
  | .nil => 1
  | .ptr d => uptoBulk d + 1
  | .slice elems spare => uptoBulkAll elems + uptoBulkAll spare + 1
  | .agg parts => uptoBulkAll parts + 1
  | .iface _ d => uptoBulk d + 1
  | .map entries => uptoBulkEntries entries + 1
  | .held _ => 1
def uptoBulkAll {H : Type} : List (DataW H) → Nat
  | [] => 0
  | d :: r => uptoBulk d + uptoBulkAll r
def uptoBulkEntries {H : Type} : List (Lit × DataW H) → Nat
  | [] => 0
  | x :: r => uptoBulkEntry x + uptoBulkEntries r
def uptoBulkEntry {H : Type} : Lit × DataW H → Nat
  | (.string bytes, d) => bytes.length + uptoBulk d + 1
  | (_, d) => uptoBulk d + 1
 end
def uptoSmall : (H : Type) → List (DataW H) → Bool := fun _ ds => decide (uptoBulkAll ds ≤ 1048576)
def OpenSpec.upto (s : _root_.Go.ChangeSpec) : _root_.Go.OpenSpec := { _root_.Go.OpenSpec.ofChange s with cond := some uptoSmall }

/-- 'quoratelaw06.MemberRises', WHERE WHAT IT READS IS OF BULK AT MOST 1048576: true; the input reads as it did. -/
def memberRisesUptoRow : OpenClaim := { program := "ytbdefhagpgpoiaa", sum := "11dc47aae31eb11165292b8b2674ebdea2ff447689fc2d5b42283f3920326d54", func := "quorate/quoratelaw06.MemberRises", spec := "memberRises", unfollowed := true, recurses := true, apart := false, narrowed := true }
def MemberRisesUptoSaid : Prop := memberRisesUptoRow.holds Try.pinned (OpenSpec.upto memberRisesSpec)

/-- 'quoratelaw06.MemberRefusals', WHERE WHAT IT READS IS OF BULK AT MOST 1048576: true; the input reads as it did. -/
def memberRefusalsUptoRow : OpenClaim := { program := "ytbdefhagpgpoiaa", sum := "11dc47aae31eb11165292b8b2674ebdea2ff447689fc2d5b42283f3920326d54", func := "quorate/quoratelaw06.MemberRefusals", spec := "memberRefusals", unfollowed := true, recurses := true, apart := false, narrowed := true }
def MemberRefusalsUptoSaid : Prop := memberRefusalsUptoRow.holds Try.pinned (OpenSpec.upto memberRefusalsSpec)

/-- 'quoratelaw06.MemberOrderless', WHERE WHAT IT READS IS OF BULK AT MOST 1048576: true; the input reads as it did. -/
def memberOrderlessUptoRow : OpenClaim := { program := "ytbdefhagpgpoiaa", sum := "11dc47aae31eb11165292b8b2674ebdea2ff447689fc2d5b42283f3920326d54", func := "quorate/quoratelaw06.MemberOrderless", spec := "memberOrderless", unfollowed := true, recurses := true, apart := false, narrowed := true }
def MemberOrderlessUptoSaid : Prop := memberOrderlessUptoRow.holds Try.pinned (OpenSpec.upto memberOrderlessSpec)

/-- 'quoratelaw06.MemberOwn', WHERE WHAT IT READS IS OF BULK AT MOST 1048576: true; the input reads as it did. -/
def memberOwnUptoRow : OpenClaim := { program := "ytbdefhagpgpoiaa", sum := "11dc47aae31eb11165292b8b2674ebdea2ff447689fc2d5b42283f3920326d54", func := "quorate/quoratelaw06.MemberOwn", spec := "memberOwn", unfollowed := true, recurses := true, apart := false, narrowed := true }
def MemberOwnUptoSaid : Prop := memberOwnUptoRow.holds Try.pinned (OpenSpec.upto memberOwnSpec)

/-- 'quoratelaw06.MemberOneView', WHERE WHAT IT READS IS OF BULK AT MOST 1048576: true; the input reads as it did. -/
def memberOneViewUptoRow : OpenClaim := { program := "ytbdefhagpgpoiaa", sum := "11dc47aae31eb11165292b8b2674ebdea2ff447689fc2d5b42283f3920326d54", func := "quorate/quoratelaw06.MemberOneView", spec := "memberOneView", unfollowed := true, recurses := true, apart := false, narrowed := true }
def MemberOneViewUptoSaid : Prop := memberOneViewUptoRow.holds Try.pinned (OpenSpec.upto memberOneViewSpec)

/-- 'quoratelaw06.MemberFollows', WHERE WHAT IT READS IS OF BULK AT MOST 1048576: true; the input reads as it did. -/
def memberFollowsUptoRow : OpenClaim := { program := "ytbdefhagpgpoiaa", sum := "11dc47aae31eb11165292b8b2674ebdea2ff447689fc2d5b42283f3920326d54", func := "quorate/quoratelaw06.MemberFollows", spec := "memberFollows", unfollowed := true, recurses := true, apart := false, narrowed := true }
def MemberFollowsUptoSaid : Prop := memberFollowsUptoRow.holds Try.pinned (OpenSpec.upto memberFollowsSpec)

end Rows
end Go.Proofs.Ytbdefhagpgpoiaa
