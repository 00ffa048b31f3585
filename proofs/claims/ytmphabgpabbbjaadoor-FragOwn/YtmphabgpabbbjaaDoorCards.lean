/-
  DERIVED. GIVEN WITH THE SEED: THE CARDS: each row of YtmphabgpabbbjaaDoorRows.lean that lists a variable, with what it lists TIED to the program's text (the seventh form; the later family's looks); each row that meets fmt, with fmt's text TOLD by the authors' own Lean function (tested against real Go, not proved from fmt's source: count such statements apart). THE CARD IS WHAT COUNTS. Prove the row's statement (the work); the ties are given (YtmphabgpabbbjaaDoorTie.lean); close each card by the builder's one call (the guide's Derived/Test/ToyasCard.lean, 'card_holds'). Laid BY PROGRAM, IN A SANDBOX (cutbox-door.mjs). By AI agents, Wed Nov 11 2026. No macro, syntax, notation, axiom, sorry.
-/
import Derived.Test.YtmphabgpabbbjaaDoorRows
import GoSem.ClaimSeven
namespace Go.Proofs.YtmphabgpabbbjaaDoor
namespace Rows

/-- THE TIED CARD OF 'quoratelaw09.FragNothingWrong'. -/
def fragNothingWrongCard : Claim7 := { stood := { row := fragNothingWrongRow, standIns := [], harness := (true, "0877037bff1ca6526b1ff434b03f2613500f6f4555b0f68869389206d0be5e50"), looks := false }, kinds := [], alts := [], laidByText := true, laidKinds := [.data], laidTests := true, laidLooks := .later }
def FragNothingWrongCardSaid : Prop := Claim7.holds Tryd.pinned (.plain (OpenSpec.ofChange fragNothingWrongSpec)) fragNothingWrongCard

/-- THE TIED CARD OF 'quoratelaw09.FragGap'. -/
def fragGapCard : Claim7 := { stood := { row := fragGapRow, standIns := [], harness := (true, "0877037bff1ca6526b1ff434b03f2613500f6f4555b0f68869389206d0be5e50"), looks := false }, kinds := [], alts := [], laidByText := true, laidKinds := [.data], laidTests := true, laidLooks := .later }
def FragGapCardSaid : Prop := Claim7.holds Tryd.pinned (.plain (OpenSpec.ofChange fragGapSpec)) fragGapCard

/-- THE TIED CARD OF 'quoratelaw09.FragThereAndBack'. -/
def fragThereAndBackCard : Claim7 := { stood := { row := fragThereAndBackRow, standIns := [], harness := (true, "0877037bff1ca6526b1ff434b03f2613500f6f4555b0f68869389206d0be5e50"), looks := false }, kinds := [], alts := [], laidByText := true, laidKinds := [.data], laidTests := true, laidLooks := .later }
def FragThereAndBackCardSaid : Prop := Claim7.holds Tryd.pinned (.plain (OpenSpec.ofChange fragThereAndBackSpec)) fragThereAndBackCard

/-- THE TIED CARD OF 'quoratelaw09.FragSplits'. -/
def fragSplitsCard : Claim7 := { stood := { row := fragSplitsRow, standIns := [], harness := (true, "0877037bff1ca6526b1ff434b03f2613500f6f4555b0f68869389206d0be5e50"), looks := false }, kinds := [], alts := [], laidByText := true, laidKinds := [.data], laidTests := true, laidLooks := .later }
def FragSplitsCardSaid : Prop := Claim7.holds Tryd.pinned (.plain (OpenSpec.ofChange fragSplitsSpec)) fragSplitsCard

/-- THE TIED CARD OF 'quoratelaw09.FragOwn'. -/
def fragOwnCard : Claim7 := { stood := { row := fragOwnRow, standIns := [], harness := (true, "0877037bff1ca6526b1ff434b03f2613500f6f4555b0f68869389206d0be5e50"), looks := false }, kinds := [], alts := [], laidByText := true, laidKinds := [.data], laidTests := true, laidLooks := .later }
def FragOwnCardSaid : Prop := Claim7.holds Tryd.pinned (.plain (OpenSpec.ofChange fragOwnSpec)) fragOwnCard

/-- THE SECOND FORM's CARD OF 'quoratelaw09.FragNothingWrong'. -/
def fragNothingWrongUptoCard : Claim7 := { stood := { row := fragNothingWrongUptoRow, standIns := [], harness := (true, "0877037bff1ca6526b1ff434b03f2613500f6f4555b0f68869389206d0be5e50"), looks := false }, kinds := [], alts := [], laidByText := true, laidKinds := [.data], laidTests := true, laidLooks := .later }
def FragNothingWrongUptoCardSaid : Prop := Claim7.holds Tryd.pinned (.plain (OpenSpec.upto fragNothingWrongSpec)) fragNothingWrongUptoCard

/-- THE SECOND FORM's CARD OF 'quoratelaw09.FragGap'. -/
def fragGapUptoCard : Claim7 := { stood := { row := fragGapUptoRow, standIns := [], harness := (true, "0877037bff1ca6526b1ff434b03f2613500f6f4555b0f68869389206d0be5e50"), looks := false }, kinds := [], alts := [], laidByText := true, laidKinds := [.data], laidTests := true, laidLooks := .later }
def FragGapUptoCardSaid : Prop := Claim7.holds Tryd.pinned (.plain (OpenSpec.upto fragGapSpec)) fragGapUptoCard

/-- THE SECOND FORM's CARD OF 'quoratelaw09.FragThereAndBack'. -/
def fragThereAndBackUptoCard : Claim7 := { stood := { row := fragThereAndBackUptoRow, standIns := [], harness := (true, "0877037bff1ca6526b1ff434b03f2613500f6f4555b0f68869389206d0be5e50"), looks := false }, kinds := [], alts := [], laidByText := true, laidKinds := [.data], laidTests := true, laidLooks := .later }
def FragThereAndBackUptoCardSaid : Prop := Claim7.holds Tryd.pinned (.plain (OpenSpec.upto fragThereAndBackSpec)) fragThereAndBackUptoCard

/-- THE SECOND FORM's CARD OF 'quoratelaw09.FragSplits'. -/
def fragSplitsUptoCard : Claim7 := { stood := { row := fragSplitsUptoRow, standIns := [], harness := (true, "0877037bff1ca6526b1ff434b03f2613500f6f4555b0f68869389206d0be5e50"), looks := false }, kinds := [], alts := [], laidByText := true, laidKinds := [.data], laidTests := true, laidLooks := .later }
def FragSplitsUptoCardSaid : Prop := Claim7.holds Tryd.pinned (.plain (OpenSpec.upto fragSplitsSpec)) fragSplitsUptoCard

/-- THE SECOND FORM's CARD OF 'quoratelaw09.FragOwn'. -/
def fragOwnUptoCard : Claim7 := { stood := { row := fragOwnUptoRow, standIns := [], harness := (true, "0877037bff1ca6526b1ff434b03f2613500f6f4555b0f68869389206d0be5e50"), looks := false }, kinds := [], alts := [], laidByText := true, laidKinds := [.data], laidTests := true, laidLooks := .later }
def FragOwnUptoCardSaid : Prop := Claim7.holds Tryd.pinned (.plain (OpenSpec.upto fragOwnSpec)) fragOwnUptoCard
end Rows
end Go.Proofs.YtmphabgpabbbjaaDoor
