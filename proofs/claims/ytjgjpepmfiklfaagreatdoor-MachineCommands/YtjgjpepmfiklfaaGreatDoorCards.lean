/-
  DERIVED. GIVEN WITH THE SEED: THE CARDS: each row of YtjgjpepmfiklfaaGreatDoorRows.lean that lists a variable, with what it lists TIED to the program's text (the seventh form; the later family's looks); each row that meets fmt, with fmt's text TOLD by the authors' own Lean function (tested against real Go, not proved from fmt's source: count such statements apart). THE CARD IS WHAT COUNTS. Prove the row's statement (the work); the ties are given (YtjgjpepmfiklfaaGreatDoorTie.lean); close each card by the builder's one call (the guide's Derived/Test/ToyasCard.lean, 'card_holds'). Laid BY PROGRAM, IN A SANDBOX (cutbox-door.mjs). By AI agents, Wed Nov 11 2026. No macro, syntax, notation, axiom, sorry.
-/
import Derived.Test.YtjgjpepmfiklfaaGreatDoorRows
import GoSem.ClaimSeven
namespace Go.Proofs.YtjgjpepmfiklfaaGreatDoor
namespace Rows

/-- THE TIED CARD OF 'quoratelaw13.MachineBack'. -/
def machineBackCard : Claim7 := { stood := { row := machineBackRow, standIns := [], harness := (true, "23dfb6506b72ed7b954a69c8277e9d5e6f7dfcfb67ae8066e39c3642459f5322"), looks := true }, kinds := [], alts := [], laidByText := true, laidKinds := [.data, .data, .data, .sentinel, .sentinel], laidTests := true, laidLooks := .later }
def MachineBackCardSaid : Prop := Claim7.holds Tryz.pinned (.plain (OpenSpec.ofChange machineBackSpec)) machineBackCard

/-- THE TIED CARD OF 'quoratelaw13.MachineCommands'. -/
def machineCommandsCard : Claim7 := { stood := { row := machineCommandsRow, standIns := [], harness := (true, "23dfb6506b72ed7b954a69c8277e9d5e6f7dfcfb67ae8066e39c3642459f5322"), looks := true }, kinds := [], alts := [], laidByText := true, laidKinds := [.data, .data, .data, .sentinel, .sentinel], laidTests := true, laidLooks := .later }
def MachineCommandsCardSaid : Prop := Claim7.holds Tryz.pinned (.plain (OpenSpec.ofChange machineCommandsSpec)) machineCommandsCard

/-- THE SECOND FORM's CARD OF 'quoratelaw13.MachineBack'. -/
def machineBackUptoCard : Claim7 := { stood := { row := machineBackUptoRow, standIns := [], harness := (true, "23dfb6506b72ed7b954a69c8277e9d5e6f7dfcfb67ae8066e39c3642459f5322"), looks := true }, kinds := [], alts := [], laidByText := true, laidKinds := [.data, .data, .data, .sentinel, .sentinel], laidTests := true, laidLooks := .later }
def MachineBackUptoCardSaid : Prop := Claim7.holds Tryz.pinned (.plain (OpenSpec.upto machineBackSpec)) machineBackUptoCard

/-- THE SECOND FORM's CARD OF 'quoratelaw13.MachineCommands'. -/
def machineCommandsUptoCard : Claim7 := { stood := { row := machineCommandsUptoRow, standIns := [], harness := (true, "23dfb6506b72ed7b954a69c8277e9d5e6f7dfcfb67ae8066e39c3642459f5322"), looks := true }, kinds := [], alts := [], laidByText := true, laidKinds := [.data, .data, .data, .sentinel, .sentinel], laidTests := true, laidLooks := .later }
def MachineCommandsUptoCardSaid : Prop := Claim7.holds Tryz.pinned (.plain (OpenSpec.upto machineCommandsSpec)) machineCommandsUptoCard
end Rows
end Go.Proofs.YtjgjpepmfiklfaaGreatDoor
