/-
  DERIVED. GIVEN WITH THE SEED: THE CARDS: each row of YtmphabgpabbbjabDoorRows.lean that lists a variable, with what it lists TIED to the program's text (the seventh form; the later family's looks); each row that meets fmt, with fmt's text TOLD by the authors' own Lean function (tested against real Go, not proved from fmt's source: count such statements apart). THE CARD IS WHAT COUNTS. Prove the row's statement (the work); the ties are given (YtmphabgpabbbjabDoorTie.lean); close each card by the builder's one call (the guide's Derived/Test/ToyasCard.lean, 'card_holds'). Laid BY PROGRAM, IN A SANDBOX (cutbox-door.mjs). By AI agents, Wed Nov 11 2026. No macro, syntax, notation, axiom, sorry.
-/
import Derived.Test.YtmphabgpabbbjabDoorRows
import GoSem.ClaimSeven
namespace Go.Proofs.YtmphabgpabbbjabDoor
namespace Rows

/-- THE TIED CARD OF 'quoratelaw09.FragJoins'. -/
def fragJoinsCard : Claim7 := { stood := { row := fragJoinsRow, standIns := [], harness := (true, "a2b9cfbea05db3bb39ceeae51ae961bf3127e1c9ba3273eab2ac145e29e8ff24"), looks := false }, kinds := [], alts := [], laidByText := true, laidKinds := [.data], laidTests := true, laidLooks := .later }
def FragJoinsCardSaid : Prop := Claim7.holds Tryd.pinned (.plain (OpenSpec.ofChange fragJoinsSpec)) fragJoinsCard

/-- THE TIED CARD OF 'quoratelaw09.FragTurns'. -/
def fragTurnsCard : Claim7 := { stood := { row := fragTurnsRow, standIns := [], harness := (true, "a2b9cfbea05db3bb39ceeae51ae961bf3127e1c9ba3273eab2ac145e29e8ff24"), looks := false }, kinds := [], alts := [], laidByText := true, laidKinds := [.data], laidTests := true, laidLooks := .later }
def FragTurnsCardSaid : Prop := Claim7.holds Tryd.pinned (.plain (OpenSpec.ofChange fragTurnsSpec)) fragTurnsCard

/-- THE SECOND FORM's CARD OF 'quoratelaw09.FragJoins'. -/
def fragJoinsUptoCard : Claim7 := { stood := { row := fragJoinsUptoRow, standIns := [], harness := (true, "a2b9cfbea05db3bb39ceeae51ae961bf3127e1c9ba3273eab2ac145e29e8ff24"), looks := false }, kinds := [], alts := [], laidByText := true, laidKinds := [.data], laidTests := true, laidLooks := .later }
def FragJoinsUptoCardSaid : Prop := Claim7.holds Tryd.pinned (.plain (OpenSpec.upto fragJoinsSpec)) fragJoinsUptoCard

/-- THE SECOND FORM's CARD OF 'quoratelaw09.FragTurns'. -/
def fragTurnsUptoCard : Claim7 := { stood := { row := fragTurnsUptoRow, standIns := [], harness := (true, "a2b9cfbea05db3bb39ceeae51ae961bf3127e1c9ba3273eab2ac145e29e8ff24"), looks := false }, kinds := [], alts := [], laidByText := true, laidKinds := [.data], laidTests := true, laidLooks := .later }
def FragTurnsUptoCardSaid : Prop := Claim7.holds Tryd.pinned (.plain (OpenSpec.upto fragTurnsSpec)) fragTurnsUptoCard
end Rows
end Go.Proofs.YtmphabgpabbbjabDoor
