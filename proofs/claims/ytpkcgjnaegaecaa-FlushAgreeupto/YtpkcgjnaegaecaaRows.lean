/-
  No cell of these rows narrows 'for every input' (looked for: loops, veiled, ifaces, maps, wideKeys, modest, calm, conditions, laid).
  DERIVED. THE GIVEN ROWS OF THIS SEAT. 3 by the template 'for every input the law returns true; each argument reads behind the call as it read before'; 0 by the template 'total and deterministic' (their statements: YtpkcgjnaegaecaaTotals.lean).
  GIVEN WITH THE SEED: the statements are not yours to turn. If you find one false, say at which input.
  Laid BY PROGRAM, IN A SANDBOX (cutbox-rows.mjs): the forced cells as the released guide's own fill.sh prints them over the translation c4cd3a450b67df5f… (all of the seat's roots in one cut). By AI agents, Wed Nov 11 2026. No macro, syntax, notation, axiom, sorry.
-/
import Derived.Test.YtpkcgjnaegaecaaChecked
import GoSem.Claim
import GoSem.ClaimJoined
import GoSem.ClaimMapViews
import Derived.JoinedTies
import Derived.KernelRfl
namespace Go.Proofs.Ytpkcgjnaegaecaa
/- THE CELL 'sum', in the pinned program and in every row, IS THE sha256 OF THE DUMP (.gsa) THAT YtpkcgjnaegaecaaProg.lean LOADS. Nothing in Lean hashes anything: it is a label: what it is worth is what the hold of that sum in a sandbox is worth. -/
noncomputable def Try.pinned : Pinned := { name := "ytpkcgjnaegaecaa", sum := "c4cd3a450b67df5f2b5c72f4c2db020aacb7062eeb2f82684985f1a27602ec90", checked := Try.checked }
namespace Rows
def none {H : Type} : Left H := { results := [], args := [] }

/-- 'quoratelaw08.FlushShares': WHATEVER THE INPUT: true; the input reads as it did. -/
def flushSharesSpec : ChangeSpec := { name := "flushShares", fn := fun _ => fun
  | [d] => { results := [.lit (.bool true)], args := [d] }
  | _ => none }
def flushSharesRow : OpenClaim := { program := "ytpkcgjnaegaecaa", sum := "c4cd3a450b67df5f2b5c72f4c2db020aacb7062eeb2f82684985f1a27602ec90", func := "quorate/quoratelaw08.FlushShares", spec := "flushShares", unfollowed := true, recurses := true, plainKeys := false, apart := false }
def FlushSharesSaid : Prop := flushSharesRow.holds Try.pinned (OpenSpec.ofChange flushSharesSpec)

/-- ITS FALSE NEIGHBOUR: 'it returns false'. Refute it at one input. -/
def flushSharesWrong : ChangeSpec := { name := "flushShares", fn := fun _ => fun
  | [d] => { results := [.lit (.bool false)], args := [d] }
  | _ => none }
def FlushSharesWrongFalsely : Prop := flushSharesRow.holds Try.pinned (OpenSpec.ofChange flushSharesWrong)

/-- 'quoratelaw08.FlushAgree': WHATEVER THE INPUT: true; the input reads as it did. -/
def flushAgreeSpec : ChangeSpec := { name := "flushAgree", fn := fun _ => fun
  | [d] => { results := [.lit (.bool true)], args := [d] }
  | _ => none }
def flushAgreeRow : OpenClaim := { program := "ytpkcgjnaegaecaa", sum := "c4cd3a450b67df5f2b5c72f4c2db020aacb7062eeb2f82684985f1a27602ec90", func := "quorate/quoratelaw08.FlushAgree", spec := "flushAgree", unfollowed := true, recurses := true, plainKeys := false, apart := false }
def FlushAgreeSaid : Prop := flushAgreeRow.holds Try.pinned (OpenSpec.ofChange flushAgreeSpec)

/-- ITS FALSE NEIGHBOUR: 'it returns false'. Refute it at one input. -/
def flushAgreeWrong : ChangeSpec := { name := "flushAgree", fn := fun _ => fun
  | [d] => { results := [.lit (.bool false)], args := [d] }
  | _ => none }
def FlushAgreeWrongFalsely : Prop := flushAgreeRow.holds Try.pinned (OpenSpec.ofChange flushAgreeWrong)

/-- 'quoratelaw08.FlushDuty': WHATEVER THE INPUT: true; the input reads as it did. -/
def flushDutySpec : ChangeSpec := { name := "flushDuty", fn := fun _ => fun
  | [d] => { results := [.lit (.bool true)], args := [d] }
  | _ => none }
def flushDutyRow : OpenClaim := { program := "ytpkcgjnaegaecaa", sum := "c4cd3a450b67df5f2b5c72f4c2db020aacb7062eeb2f82684985f1a27602ec90", func := "quorate/quoratelaw08.FlushDuty", spec := "flushDuty", unfollowed := true, recurses := true, plainKeys := false, apart := false }
def FlushDutySaid : Prop := flushDutyRow.holds Try.pinned (OpenSpec.ofChange flushDutySpec)

/-- ITS FALSE NEIGHBOUR: 'it returns false'. Refute it at one input. -/
def flushDutyWrong : ChangeSpec := { name := "flushDuty", fn := fun _ => fun
  | [d] => { results := [.lit (.bool false)], args := [d] }
  | _ => none }
def FlushDutyWrongFalsely : Prop := flushDutyRow.holds Try.pinned (OpenSpec.ofChange flushDutyWrong)

/- THE SECOND FORM. 'bulk': how many values and letters a reading holds, each counted each time it is reached (what is shared counts as often as it is met; a slice's spare places count too). A statement '..UptoSaid' is the law's where the arguments, and the package variables that the reading takes, are together of bulk at most 1048576: NARROWER than '..Said'. Prove '..Said' where nothing that the law and all that it calls make is longer than what came in: it says more and counts as full. Else prove '..UptoSaid'. A law counts once. -/
mutual
def uptoBulk {H : Type} : DataW H → Nat
  | .lit (.string bytes) => bytes.length + 1
  | .lit _ => 1
  | .nil => 1
  | .ptr d => uptoBulk d + 1
  | .slice elems spare => uptoBulkAll elems + uptoBulkAll spare + 1
  | .agg parts => uptoBulkAll parts + 1
  | .iface _ d => uptoBulk d + 1
  | .map entries => uptoBulkEntries entries + 1
  | .held _ => 1
def uptoBulkAll {H : Type} : List (DataW H) → Nat
  | [] => 0
  | d :: r => uptoBulk d + uptoBulkAll r
def uptoBulkEntries {H : Type} : List (Lit × DataW H) → Nat
  | [] => 0
  | x :: r => uptoBulkEntry x + uptoBulkEntries r
def uptoBulkEntry {H : Type} : Lit × DataW H → Nat
  | (.string bytes, d) => bytes.length + uptoBulk d + 1
  | (_, d) => uptoBulk d + 1
 end
def uptoSmall : (H : Type) → List (DataW H) → Bool := fun _ ds => decide (uptoBulkAll ds ≤ 1048576)
def OpenSpec.upto (s : _root_.Go.ChangeSpec) : _root_.Go.OpenSpec := { _root_.Go.OpenSpec.ofChange s with cond := some uptoSmall }

/-- 'quoratelaw08.FlushShares', WHERE WHAT IT READS IS OF BULK AT MOST 1048576: true; the input reads as it did. -/
def flushSharesUptoRow : OpenClaim := { program := "ytpkcgjnaegaecaa", sum := "c4cd3a450b67df5f2b5c72f4c2db020aacb7062eeb2f82684985f1a27602ec90", func := "quorate/quoratelaw08.FlushShares", spec := "flushShares", unfollowed := true, recurses := true, plainKeys := false, apart := false, narrowed := true }
def FlushSharesUptoSaid : Prop := flushSharesUptoRow.holds Try.pinned (OpenSpec.upto flushSharesSpec)

/-- 'quoratelaw08.FlushAgree', WHERE WHAT IT READS IS OF BULK AT MOST 1048576: true; the input reads as it did. -/
def flushAgreeUptoRow : OpenClaim := { program := "ytpkcgjnaegaecaa", sum := "c4cd3a450b67df5f2b5c72f4c2db020aacb7062eeb2f82684985f1a27602ec90", func := "quorate/quoratelaw08.FlushAgree", spec := "flushAgree", unfollowed := true, recurses := true, plainKeys := false, apart := false, narrowed := true }
def FlushAgreeUptoSaid : Prop := flushAgreeUptoRow.holds Try.pinned (OpenSpec.upto flushAgreeSpec)

/-- 'quoratelaw08.FlushDuty', WHERE WHAT IT READS IS OF BULK AT MOST 1048576: true; the input reads as it did. -/
def flushDutyUptoRow : OpenClaim := { program := "ytpkcgjnaegaecaa", sum := "c4cd3a450b67df5f2b5c72f4c2db020aacb7062eeb2f82684985f1a27602ec90", func := "quorate/quoratelaw08.FlushDuty", spec := "flushDuty", unfollowed := true, recurses := true, plainKeys := false, apart := false, narrowed := true }
def FlushDutyUptoSaid : Prop := flushDutyUptoRow.holds Try.pinned (OpenSpec.upto flushDutySpec)

end Rows
end Go.Proofs.Ytpkcgjnaegaecaa
