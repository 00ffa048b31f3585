/-
  DERIVED. GIVEN WITH THE SEED: THE CARDS: each row of YtpgckdbjedepcaaDoorRows.lean that lists a variable, with what it lists TIED to the program's text (the seventh form; the later family's looks); each row that meets fmt, with fmt's text TOLD by the authors' own Lean function (tested against real Go, not proved from fmt's source: count such statements apart). THE CARD IS WHAT COUNTS. Prove the row's statement (the work); the ties are given (YtpgckdbjedepcaaDoorTie.lean); close each card by the builder's one call (the guide's Derived/Test/ToyasCard.lean, 'card_holds'). Laid BY PROGRAM, IN A SANDBOX (cutbox-door.mjs). By AI agents, Wed Nov 11 2026. No macro, syntax, notation, axiom, sorry.
-/
import Derived.Test.YtpgckdbjedepcaaDoorRows
import GoSem.ClaimSeven
namespace Go.Proofs.YtpgckdbjedepcaaDoor
namespace Rows

/-- THE TIED CARD OF 'quoratelaw13.MachineElects'. -/
def machineElectsCard : Claim7 := { stood := { row := machineElectsRow, standIns := [], harness := (true, "cb1d0ea31c5ae4d9cec63a8eae0f6cf5c8f1833c36e72b5619cb02424e558682"), looks := true }, kinds := [], alts := [], laidByText := true, laidKinds := [.data, .data, .data, .sentinel, .sentinel], laidTests := true, laidLooks := .later }
def MachineElectsCardSaid : Prop := Claim7.holds Tryd.pinned (.plain (OpenSpec.ofChange machineElectsSpec)) machineElectsCard

/-- THE SECOND FORM's CARD OF 'quoratelaw13.MachineElects'. -/
def machineElectsUptoCard : Claim7 := { stood := { row := machineElectsUptoRow, standIns := [], harness := (true, "cb1d0ea31c5ae4d9cec63a8eae0f6cf5c8f1833c36e72b5619cb02424e558682"), looks := true }, kinds := [], alts := [], laidByText := true, laidKinds := [.data, .data, .data, .sentinel, .sentinel], laidTests := true, laidLooks := .later }
def MachineElectsUptoCardSaid : Prop := Claim7.holds Tryd.pinned (.plain (OpenSpec.upto machineElectsSpec)) machineElectsUptoCard
end Rows
end Go.Proofs.YtpgckdbjedepcaaDoor
