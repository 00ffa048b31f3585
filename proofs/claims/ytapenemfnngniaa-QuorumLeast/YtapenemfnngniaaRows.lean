/-
  No cell of these rows narrows 'for every input' (looked for: loops, veiled, ifaces, maps, wideKeys, modest, calm, conditions, laid).
  DERIVED. THE GIVEN ROWS OF THIS SEAT. 4 by the template 'for every input the law returns true; each argument reads behind the call as it read before'; 0 by the template 'total and deterministic' (their statements: YtapenemfnngniaaTotals.lean).
  GIVEN WITH THE SEED: the statements are not yours to turn. If you find one false, say at which input.
  Laid BY PROGRAM, IN A SANDBOX (cutbox-rows.mjs): the forced cells as the released guide's own fill.sh prints them over the translation d1960552926fbc4a… (all of the seat's roots in one cut). By AI agents, Wed Nov 11 2026. No macro, syntax, notation, axiom, sorry.
-/
import Derived.Test.YtapenemfnngniaaChecked
import GoSem.Claim
import GoSem.ClaimJoined
import GoSem.ClaimMapViews
import Derived.JoinedTies
import Derived.KernelRfl
namespace Go.Proofs.Ytapenemfnngniaa
/- THE CELL 'sum', in the pinned program and in every row, IS THE sha256 OF THE DUMP (.gsa) THAT YtapenemfnngniaaProg.lean LOADS. Nothing in Lean hashes anything: it is a label: what it is worth is what the hold of that sum in a sandbox is worth. -/
noncomputable def Try.pinned : Pinned := { name := "ytapenemfnngniaa", sum := "d1960552926fbc4a79237bf7d6251e2eda6c82449f4c5b092171cf7d08a1409d", checked := Try.checked }
namespace Rows
def none {H : Type} : Left H := { results := [], args := [] }

/-- 'quoratelaw11.QuorumPrimary': WHATEVER THE INPUT: true; the input reads as it did. -/
def quorumPrimarySpec : ChangeSpec := { name := "quorumPrimary", fn := fun _ => fun
  | [d] => { results := [.lit (.bool true)], args := [d] }
  | _ => none }
def quorumPrimaryRow : OpenClaim := { program := "ytapenemfnngniaa", sum := "d1960552926fbc4a79237bf7d6251e2eda6c82449f4c5b092171cf7d08a1409d", func := "quorate/quoratelaw11.QuorumPrimary", spec := "quorumPrimary", apart := false }
def QuorumPrimarySaid : Prop := quorumPrimaryRow.holds Try.pinned (OpenSpec.ofChange quorumPrimarySpec)

/-- ITS FALSE NEIGHBOUR: 'it returns false'. Refute it at one input. -/
def quorumPrimaryWrong : ChangeSpec := { name := "quorumPrimary", fn := fun _ => fun
  | [d] => { results := [.lit (.bool false)], args := [d] }
  | _ => none }
def QuorumPrimaryWrongFalsely : Prop := quorumPrimaryRow.holds Try.pinned (OpenSpec.ofChange quorumPrimaryWrong)

/-- 'quoratelaw11.QuorumGround': WHATEVER THE INPUT: true; the input reads as it did. -/
def quorumGroundSpec : ChangeSpec := { name := "quorumGround", fn := fun _ => fun
  | [d] => { results := [.lit (.bool true)], args := [d] }
  | _ => none }
def quorumGroundRow : OpenClaim := { program := "ytapenemfnngniaa", sum := "d1960552926fbc4a79237bf7d6251e2eda6c82449f4c5b092171cf7d08a1409d", func := "quorate/quoratelaw11.QuorumGround", spec := "quorumGround", unfollowed := true, recurses := true, apart := false }
def QuorumGroundSaid : Prop := quorumGroundRow.holds Try.pinned (OpenSpec.ofChange quorumGroundSpec)

/-- ITS FALSE NEIGHBOUR: 'it returns false'. Refute it at one input. -/
def quorumGroundWrong : ChangeSpec := { name := "quorumGround", fn := fun _ => fun
  | [d] => { results := [.lit (.bool false)], args := [d] }
  | _ => none }
def QuorumGroundWrongFalsely : Prop := quorumGroundRow.holds Try.pinned (OpenSpec.ofChange quorumGroundWrong)

/-- 'quoratelaw11.QuorumLeast': WHATEVER THE INPUT: true; the input reads as it did. -/
def quorumLeastSpec : ChangeSpec := { name := "quorumLeast", fn := fun _ => fun
  | [d1, d2] => { results := [.lit (.bool true)], args := [d1, d2] }
  | _ => none }
def quorumLeastRow : OpenClaim := { program := "ytapenemfnngniaa", sum := "d1960552926fbc4a79237bf7d6251e2eda6c82449f4c5b092171cf7d08a1409d", func := "quorate/quoratelaw11.QuorumLeast", spec := "quorumLeast", unfollowed := true, recurses := true, apart := false }
def QuorumLeastSaid : Prop := quorumLeastRow.holds Try.pinned (OpenSpec.ofChange quorumLeastSpec)

/-- ITS FALSE NEIGHBOUR: 'it returns false'. Refute it at one input. -/
def quorumLeastWrong : ChangeSpec := { name := "quorumLeast", fn := fun _ => fun
  | [d1, d2] => { results := [.lit (.bool false)], args := [d1, d2] }
  | _ => none }
def QuorumLeastWrongFalsely : Prop := quorumLeastRow.holds Try.pinned (OpenSpec.ofChange quorumLeastWrong)

/-- 'quoratelaw11.QuorumPlace': WHATEVER THE INPUT: true; the input reads as it did. -/
def quorumPlaceSpec : ChangeSpec := { name := "quorumPlace", fn := fun _ => fun
  | [d1, d2, d3] => { results := [.lit (.bool true)], args := [d1, d2, d3] }
  | _ => none }
def quorumPlaceRow : OpenClaim := { program := "ytapenemfnngniaa", sum := "d1960552926fbc4a79237bf7d6251e2eda6c82449f4c5b092171cf7d08a1409d", func := "quorate/quoratelaw11.QuorumPlace", spec := "quorumPlace", unfollowed := true, recurses := true, apart := false }
def QuorumPlaceSaid : Prop := quorumPlaceRow.holds Try.pinned (OpenSpec.ofChange quorumPlaceSpec)

/-- ITS FALSE NEIGHBOUR: 'it returns false'. Refute it at one input. -/
def quorumPlaceWrong : ChangeSpec := { name := "quorumPlace", fn := fun _ => fun
  | [d1, d2, d3] => { results := [.lit (.bool false)], args := [d1, d2, d3] }
  | _ => none }
def QuorumPlaceWrongFalsely : Prop := quorumPlaceRow.holds Try.pinned (OpenSpec.ofChange quorumPlaceWrong)

/- THE SECOND FORM. 'bulk': how many values and letters a reading holds, each counted each time it is reached (what is shared counts as often as it is met; a slice's spare places count too). A statement '..UptoSaid' is the law's where the arguments, and the package variables that the reading takes, are together of bulk at most 1048576: NARROWER than '..Said'. Prove '..Said' where nothing that the law and all that it calls make is longer than what came in: it says more and counts as full. Else prove '..UptoSaid'. A law counts once. -/
mutual
def uptoBulk {H : Type} : DataW H → Nat
  | .lit (.string bytes) => bytes.length + 1
  | .lit _ => 1
  | .nil => 1
  | .ptr d => uptoBulk d + 1
  | .slice elems spare => uptoBulkAll elems + uptoBulkAll spare + 1
  | .agg parts => uptoBulkAll parts + 1
  | .iface _ d => uptoBulk d + 1
  | .map entries => uptoBulkEntries entries + 1
  | .held _ => 1
def uptoBulkAll {H : Type} : List (DataW H) → Nat
  | [] => 0
  | d :: r => uptoBulk d + uptoBulkAll r
def uptoBulkEntries {H : Type} : List (Lit × DataW H) → Nat
  | [] => 0
  | x :: r => uptoBulkEntry x + uptoBulkEntries r
def uptoBulkEntry {H : Type} : Lit × DataW H → Nat
  | (.string bytes, d) => bytes.length + uptoBulk d + 1
  | (_, d) => uptoBulk d + 1
 end
def uptoSmall : (H : Type) → List (DataW H) → Bool := fun _ ds => decide (uptoBulkAll ds ≤ 1048576)
def OpenSpec.upto (s : _root_.Go.ChangeSpec) : _root_.Go.OpenSpec := { _root_.Go.OpenSpec.ofChange s with cond := some uptoSmall }

/-- 'quoratelaw11.QuorumPrimary', WHERE WHAT IT READS IS OF BULK AT MOST 1048576: true; the input reads as it did. -/
def quorumPrimaryUptoRow : OpenClaim := { program := "ytapenemfnngniaa", sum := "d1960552926fbc4a79237bf7d6251e2eda6c82449f4c5b092171cf7d08a1409d", func := "quorate/quoratelaw11.QuorumPrimary", spec := "quorumPrimary", apart := false, narrowed := true }
def QuorumPrimaryUptoSaid : Prop := quorumPrimaryUptoRow.holds Try.pinned (OpenSpec.upto quorumPrimarySpec)

/-- 'quoratelaw11.QuorumGround', WHERE WHAT IT READS IS OF BULK AT MOST 1048576: true; the input reads as it did. -/
def quorumGroundUptoRow : OpenClaim := { program := "ytapenemfnngniaa", sum := "d1960552926fbc4a79237bf7d6251e2eda6c82449f4c5b092171cf7d08a1409d", func := "quorate/quoratelaw11.QuorumGround", spec := "quorumGround", unfollowed := true, recurses := true, apart := false, narrowed := true }
def QuorumGroundUptoSaid : Prop := quorumGroundUptoRow.holds Try.pinned (OpenSpec.upto quorumGroundSpec)

/-- 'quoratelaw11.QuorumLeast', WHERE WHAT IT READS IS OF BULK AT MOST 1048576: true; the input reads as it did. -/
def quorumLeastUptoRow : OpenClaim := { program := "ytapenemfnngniaa", sum := "d1960552926fbc4a79237bf7d6251e2eda6c82449f4c5b092171cf7d08a1409d", func := "quorate/quoratelaw11.QuorumLeast", spec := "quorumLeast", unfollowed := true, recurses := true, apart := false, narrowed := true }
def QuorumLeastUptoSaid : Prop := quorumLeastUptoRow.holds Try.pinned (OpenSpec.upto quorumLeastSpec)

/-- 'quoratelaw11.QuorumPlace', WHERE WHAT IT READS IS OF BULK AT MOST 1048576: true; the input reads as it did. -/
def quorumPlaceUptoRow : OpenClaim := { program := "ytapenemfnngniaa", sum := "d1960552926fbc4a79237bf7d6251e2eda6c82449f4c5b092171cf7d08a1409d", func := "quorate/quoratelaw11.QuorumPlace", spec := "quorumPlace", unfollowed := true, recurses := true, apart := false, narrowed := true }
def QuorumPlaceUptoSaid : Prop := quorumPlaceUptoRow.holds Try.pinned (OpenSpec.upto quorumPlaceSpec)

end Rows
end Go.Proofs.Ytapenemfnngniaa
