/-
  NARROWER THAN 'FOR EVERY INPUT', by the rows' own cells (each row's printed sentence says how): WireLinear: laid · WireResidue: laid · WireSums: laid.
  DERIVED. THE GIVEN ROWS OF THIS SEAT. 3 by the template 'for every input the law returns true; each argument reads behind the call as it read before'; 0 by the template 'total and deterministic' (their statements: YtbjpbcanmpimnaaDoorTotals.lean).
  GIVEN WITH THE SEED: the statements are not yours to turn. If you find one false, say at which input.
  Laid BY PROGRAM, IN A SANDBOX (cutbox-rows.mjs): the forced cells as the released guide's own fill.sh prints them over the translation d76e3168b7a6da53… (all of the seat's roots in one cut). By AI agents, Wed Nov 11 2026. No macro, syntax, notation, axiom, sorry.
-/
import Derived.Test.YtbjpbcanmpimnaaDoorChecked
import GoSem.Claim
import GoSem.ClaimJoined
import GoSem.ClaimMapViews
import Derived.JoinedTies
import Derived.KernelRfl
namespace Go.Proofs.YtbjpbcanmpimnaaDoor
/- THE CELL 'sum', in the pinned program and in every row, IS THE sha256 OF THE DUMP (.gsa) THAT YtbjpbcanmpimnaaDoorProg.lean LOADS. Nothing in Lean hashes anything: it is a label: what it is worth is what the hold of that sum in a sandbox is worth. -/
noncomputable def Tryd.pinned : Pinned := { name := "ytbjpbcanmpimnaadoor", sum := "d76e3168b7a6da53fd32289351b84f60947e44ec717368f1c14ec376f879abff", checked := Tryd.checked }
namespace Rows
def none {H : Type} : Left H := { results := [], args := [] }

/- WHAT THE LISTED PACKAGE-LEVEL VARIABLES READ AS WHEN THE CALL BEGINS. Each datum BY PROGRAM (the guide's laid-datum.mjs) off the statement by which the dump's own 'gosem.cut.vars' lays the variable. In a bare row this is a premise. The card (YtbjpbcanmpimnaaDoorCards.lean) ties it to the program's text. -/
def laid_quorate_wire_sumTable {H : Type} : DataW H := .agg [.lit (.int .u32 0), .lit (.int .u32 498536548), .lit (.int .u32 997073096), .lit (.int .u32 651767980), .lit (.int .u32 1994146192), .lit (.int .u32 1802195444), .lit (.int .u32 1303535960), .lit (.int .u32 1342533948), .lit (.int .u32 3988292384), .lit (.int .u32 4027552580), .lit (.int .u32 3604390888), .lit (.int .u32 3412177804), .lit (.int .u32 2607071920), .lit (.int .u32 2262029012), .lit (.int .u32 2685067896), .lit (.int .u32 3183342108)]

/-- 'quoratelaw01.WireLinear': WHATEVER THE INPUT: true; the input reads as it did. -/
def wireLinearSpec : ChangeSpec := { name := "wireLinear", fn := fun _ => fun
  | [d1, d2, d3] => { results := [.lit (.bool true)], args := [d1, d2, d3] }
  | _ => none }
def wireLinearRow : OpenClaim := { program := "ytbjpbcanmpimnaadoor", sum := "d76e3168b7a6da53fd32289351b84f60947e44ec717368f1c14ec376f879abff", func := "quorate/quoratelaw01.WireLinear", spec := "wireLinear", named := ["quorate/wire.sumTable"], apart := false, laid := [("quorate/wire.sumTable", laid_quorate_wire_sumTable)] }
def WireLinearSaid : Prop := wireLinearRow.holds Tryd.pinned (OpenSpec.ofChange wireLinearSpec)

/-- ITS FALSE NEIGHBOUR: 'it returns false'. Refute it at one input. -/
def wireLinearWrong : ChangeSpec := { name := "wireLinear", fn := fun _ => fun
  | [d1, d2, d3] => { results := [.lit (.bool false)], args := [d1, d2, d3] }
  | _ => none }
def WireLinearWrongFalsely : Prop := wireLinearRow.holds Tryd.pinned (OpenSpec.ofChange wireLinearWrong)

/-- 'quoratelaw01.WireResidue': WHATEVER THE INPUT: true; the input reads as it did. -/
def wireResidueSpec : ChangeSpec := { name := "wireResidue", fn := fun _ => fun
  | [d] => { results := [.lit (.bool true)], args := [d] }
  | _ => none }
def wireResidueRow : OpenClaim := { program := "ytbjpbcanmpimnaadoor", sum := "d76e3168b7a6da53fd32289351b84f60947e44ec717368f1c14ec376f879abff", func := "quorate/quoratelaw01.WireResidue", spec := "wireResidue", named := ["quorate/wire.sumTable"], apart := false, laid := [("quorate/wire.sumTable", laid_quorate_wire_sumTable)] }
def WireResidueSaid : Prop := wireResidueRow.holds Tryd.pinned (OpenSpec.ofChange wireResidueSpec)

/-- ITS FALSE NEIGHBOUR: 'it returns false'. Refute it at one input. -/
def wireResidueWrong : ChangeSpec := { name := "wireResidue", fn := fun _ => fun
  | [d] => { results := [.lit (.bool false)], args := [d] }
  | _ => none }
def WireResidueWrongFalsely : Prop := wireResidueRow.holds Tryd.pinned (OpenSpec.ofChange wireResidueWrong)

/-- 'quoratelaw01.WireSums': WHATEVER THE INPUT: true; the input reads as it did. -/
def wireSumsSpec : ChangeSpec := { name := "wireSums", fn := fun _ => fun
  | [d] => { results := [.lit (.bool true)], args := [d] }
  | _ => none }
def wireSumsRow : OpenClaim := { program := "ytbjpbcanmpimnaadoor", sum := "d76e3168b7a6da53fd32289351b84f60947e44ec717368f1c14ec376f879abff", func := "quorate/quoratelaw01.WireSums", spec := "wireSums", named := ["quorate/wire.sumTable"], apart := false, laid := [("quorate/wire.sumTable", laid_quorate_wire_sumTable)] }
def WireSumsSaid : Prop := wireSumsRow.holds Tryd.pinned (OpenSpec.ofChange wireSumsSpec)

/-- ITS FALSE NEIGHBOUR: 'it returns false'. Refute it at one input. -/
def wireSumsWrong : ChangeSpec := { name := "wireSums", fn := fun _ => fun
  | [d] => { results := [.lit (.bool false)], args := [d] }
  | _ => none }
def WireSumsWrongFalsely : Prop := wireSumsRow.holds Tryd.pinned (OpenSpec.ofChange wireSumsWrong)

/- THE SECOND FORM. 'bulk': how many values and letters a reading holds, each counted each time it is reached (what is shared counts as often as it is met; a slice's spare places count too). A statement '..UptoSaid' is the law's where the arguments, and the package variables that the reading takes, are together of bulk at most 1048576: NARROWER than '..Said'. Prove '..Said' where nothing that the law and all that it calls make is longer than what came in: it says more and counts as full. Else prove '..UptoSaid'. A law counts once. -/
mutual
def uptoBulk {H : Type} : DataW H → Nat
  | .lit (.string bytes) => bytes.length + 1
  | .lit _ => 1
  | .nil => 1
  | .ptr d => uptoBulk d + 1
  | .slice elems spare => uptoBulkAll elems + uptoBulkAll spare + 1
  | .agg parts => uptoBulkAll parts + 1
  | .iface _ d => uptoBulk d + 1
  | .map entries => uptoBulkEntries entries + 1
  | .held _ => 1
def uptoBulkAll {H : Type} : List (DataW H) → Nat
  | [] => 0
  | d :: r => uptoBulk d + uptoBulkAll r
def uptoBulkEntries {H : Type} : List (Lit × DataW H) → Nat
  | [] => 0
  | x :: r => uptoBulkEntry x + uptoBulkEntries r
def uptoBulkEntry {H : Type} : Lit × DataW H → Nat
  | (.string bytes, d) => bytes.length + uptoBulk d + 1
  | (_, d) => uptoBulk d + 1
 end
def uptoSmall : (H : Type) → List (DataW H) → Bool := fun _ ds => decide (uptoBulkAll ds ≤ 1048576)
def OpenSpec.upto (s : _root_.Go.ChangeSpec) : _root_.Go.OpenSpec := { _root_.Go.OpenSpec.ofChange s with cond := some uptoSmall }

/-- 'quoratelaw01.WireLinear', WHERE WHAT IT READS IS OF BULK AT MOST 1048576: true; the input reads as it did. -/
def wireLinearUptoRow : OpenClaim := { program := "ytbjpbcanmpimnaadoor", sum := "d76e3168b7a6da53fd32289351b84f60947e44ec717368f1c14ec376f879abff", func := "quorate/quoratelaw01.WireLinear", spec := "wireLinear", named := ["quorate/wire.sumTable"], apart := false, laid := [("quorate/wire.sumTable", laid_quorate_wire_sumTable)], narrowed := true }
def WireLinearUptoSaid : Prop := wireLinearUptoRow.holds Tryd.pinned (OpenSpec.upto wireLinearSpec)

/-- 'quoratelaw01.WireResidue', WHERE WHAT IT READS IS OF BULK AT MOST 1048576: true; the input reads as it did. -/
def wireResidueUptoRow : OpenClaim := { program := "ytbjpbcanmpimnaadoor", sum := "d76e3168b7a6da53fd32289351b84f60947e44ec717368f1c14ec376f879abff", func := "quorate/quoratelaw01.WireResidue", spec := "wireResidue", named := ["quorate/wire.sumTable"], apart := false, laid := [("quorate/wire.sumTable", laid_quorate_wire_sumTable)], narrowed := true }
def WireResidueUptoSaid : Prop := wireResidueUptoRow.holds Tryd.pinned (OpenSpec.upto wireResidueSpec)

/-- 'quoratelaw01.WireSums', WHERE WHAT IT READS IS OF BULK AT MOST 1048576: true; the input reads as it did. -/
def wireSumsUptoRow : OpenClaim := { program := "ytbjpbcanmpimnaadoor", sum := "d76e3168b7a6da53fd32289351b84f60947e44ec717368f1c14ec376f879abff", func := "quorate/quoratelaw01.WireSums", spec := "wireSums", named := ["quorate/wire.sumTable"], apart := false, laid := [("quorate/wire.sumTable", laid_quorate_wire_sumTable)], narrowed := true }
def WireSumsUptoSaid : Prop := wireSumsUptoRow.holds Tryd.pinned (OpenSpec.upto wireSumsSpec)

end Rows
end Go.Proofs.YtbjpbcanmpimnaaDoor
