/-
  DERIVED. GIVEN WITH THE SEED: THE CARDS: each row of YtbjpbcanmpimnaaDoorRows.lean that lists a variable, with what it lists TIED to the program's text (the seventh form; the later family's looks); each row that meets fmt, with fmt's text TOLD by the authors' own Lean function (tested against real Go, not proved from fmt's source: count such statements apart). THE CARD IS WHAT COUNTS. Prove the row's statement (the work); the ties are given (YtbjpbcanmpimnaaDoorTie.lean); close each card by the builder's one call (the guide's Derived/Test/ToyasCard.lean, 'card_holds'). Laid BY PROGRAM, IN A SANDBOX (cutbox-door.mjs). By AI agents, Wed Nov 11 2026. No macro, syntax, notation, axiom, sorry.
-/
import Derived.Test.YtbjpbcanmpimnaaDoorRows
import GoSem.ClaimSeven
namespace Go.Proofs.YtbjpbcanmpimnaaDoor
namespace Rows

/-- THE TIED CARD OF 'quoratelaw01.WireLinear'. -/
def wireLinearCard : Claim7 := { stood := { row := wireLinearRow, standIns := [], harness := (true, "cd587abbf4c66b0f9aeb0e331382e8727344124d22cf3b00cbe6d4581c213e94"), looks := false }, kinds := [], alts := [], laidByText := true, laidKinds := [.data], laidTests := true, laidLooks := .later }
def WireLinearCardSaid : Prop := Claim7.holds Tryd.pinned (.plain (OpenSpec.ofChange wireLinearSpec)) wireLinearCard

/-- THE TIED CARD OF 'quoratelaw01.WireResidue'. -/
def wireResidueCard : Claim7 := { stood := { row := wireResidueRow, standIns := [], harness := (true, "cd587abbf4c66b0f9aeb0e331382e8727344124d22cf3b00cbe6d4581c213e94"), looks := false }, kinds := [], alts := [], laidByText := true, laidKinds := [.data], laidTests := true, laidLooks := .later }
def WireResidueCardSaid : Prop := Claim7.holds Tryd.pinned (.plain (OpenSpec.ofChange wireResidueSpec)) wireResidueCard

/-- THE TIED CARD OF 'quoratelaw01.WireSums'. -/
def wireSumsCard : Claim7 := { stood := { row := wireSumsRow, standIns := [], harness := (true, "cd587abbf4c66b0f9aeb0e331382e8727344124d22cf3b00cbe6d4581c213e94"), looks := false }, kinds := [], alts := [], laidByText := true, laidKinds := [.data], laidTests := true, laidLooks := .later }
def WireSumsCardSaid : Prop := Claim7.holds Tryd.pinned (.plain (OpenSpec.ofChange wireSumsSpec)) wireSumsCard

/-- THE SECOND FORM's CARD OF 'quoratelaw01.WireLinear'. -/
def wireLinearUptoCard : Claim7 := { stood := { row := wireLinearUptoRow, standIns := [], harness := (true, "cd587abbf4c66b0f9aeb0e331382e8727344124d22cf3b00cbe6d4581c213e94"), looks := false }, kinds := [], alts := [], laidByText := true, laidKinds := [.data], laidTests := true, laidLooks := .later }
def WireLinearUptoCardSaid : Prop := Claim7.holds Tryd.pinned (.plain (OpenSpec.upto wireLinearSpec)) wireLinearUptoCard

/-- THE SECOND FORM's CARD OF 'quoratelaw01.WireResidue'. -/
def wireResidueUptoCard : Claim7 := { stood := { row := wireResidueUptoRow, standIns := [], harness := (true, "cd587abbf4c66b0f9aeb0e331382e8727344124d22cf3b00cbe6d4581c213e94"), looks := false }, kinds := [], alts := [], laidByText := true, laidKinds := [.data], laidTests := true, laidLooks := .later }
def WireResidueUptoCardSaid : Prop := Claim7.holds Tryd.pinned (.plain (OpenSpec.upto wireResidueSpec)) wireResidueUptoCard

/-- THE SECOND FORM's CARD OF 'quoratelaw01.WireSums'. -/
def wireSumsUptoCard : Claim7 := { stood := { row := wireSumsUptoRow, standIns := [], harness := (true, "cd587abbf4c66b0f9aeb0e331382e8727344124d22cf3b00cbe6d4581c213e94"), looks := false }, kinds := [], alts := [], laidByText := true, laidKinds := [.data], laidTests := true, laidLooks := .later }
def WireSumsUptoCardSaid : Prop := Claim7.holds Tryd.pinned (.plain (OpenSpec.upto wireSumsSpec)) wireSumsUptoCard
end Rows
end Go.Proofs.YtbjpbcanmpimnaaDoor
