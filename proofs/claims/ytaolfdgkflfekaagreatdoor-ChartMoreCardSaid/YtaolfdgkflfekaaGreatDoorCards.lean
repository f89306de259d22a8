/-
  DERIVED. GIVEN WITH THE SEED: THE CARDS: each row of YtaolfdgkflfekaaGreatDoorRows.lean that lists a variable, with what it lists TIED to the program's text (the seventh form; the later family's looks); each row that meets fmt, with fmt's text TOLD by the authors' own Lean function (tested against real Go, not proved from fmt's source: count such statements apart). THE CARD IS WHAT COUNTS. Prove the row's statement (the work); the ties are given (YtaolfdgkflfekaaGreatDoorTie.lean); close each card by the builder's one call (the guide's Derived/Test/ToyasCard.lean, 'card_holds'). Laid BY PROGRAM, IN A SANDBOX (cutbox-door.mjs). By AI agents, Wed Nov 11 2026. No macro, syntax, notation, axiom, sorry.
-/
import Derived.Test.YtaolfdgkflfekaaGreatDoorRows
import GoSem.ClaimSeven
namespace Go.Proofs.YtaolfdgkflfekaaGreatDoor
namespace Rows

/-- THE TIED CARD OF 'isobarlaw03.ChartFits'. -/
def chartFitsCard : Claim7 := { stood := { row := chartFitsRow, standIns := [], harness := (true, "bf911bf4c913c80cc97850e65d73334d7e1477e176b8db7d5e985a15b9e09704"), looks := true }, kinds := [], alts := [], laidByText := true, laidKinds := [.data, .data, .data], laidTests := true, laidLooks := .later }
def ChartFitsCardSaid : Prop := Claim7.holds Tryz.pinned (.plain (OpenSpec.ofChange chartFitsSpec)) chartFitsCard

/-- THE TIED CARD OF 'isobarlaw03.ChartTrue'. -/
def chartTrueCard : Claim7 := { stood := { row := chartTrueRow, standIns := [], harness := (true, "bf911bf4c913c80cc97850e65d73334d7e1477e176b8db7d5e985a15b9e09704"), looks := true }, kinds := [], alts := [], laidByText := true, laidKinds := [.data, .data, .data], laidTests := true, laidLooks := .later }
def ChartTrueCardSaid : Prop := Claim7.holds Tryz.pinned (.plain (OpenSpec.ofChange chartTrueSpec)) chartTrueCard

/-- THE TIED CARD OF 'isobarlaw03.ChartSharp'. -/
def chartSharpCard : Claim7 := { stood := { row := chartSharpRow, standIns := [], harness := (true, "bf911bf4c913c80cc97850e65d73334d7e1477e176b8db7d5e985a15b9e09704"), looks := true }, kinds := [], alts := [], laidByText := true, laidKinds := [.data, .data, .data], laidTests := true, laidLooks := .later }
def ChartSharpCardSaid : Prop := Claim7.holds Tryz.pinned (.plain (OpenSpec.ofChange chartSharpSpec)) chartSharpCard

/-- THE TIED CARD OF 'isobarlaw03.ChartSheets'. -/
def chartSheetsCard : Claim7 := { stood := { row := chartSheetsRow, standIns := [], harness := (true, "bf911bf4c913c80cc97850e65d73334d7e1477e176b8db7d5e985a15b9e09704"), looks := true }, kinds := [], alts := [], laidByText := true, laidKinds := [.data, .data, .data, .data, .pinned], laidTests := true, laidLooks := .later }
def ChartSheetsCardSaid : Prop := Claim7.holds Tryz.pinned (.plain (OpenSpec.ofChange chartSheetsSpec)) chartSheetsCard

/-- THE TIED CARD OF 'isobarlaw03.ChartReads'. -/
def chartReadsCard : Claim7 := { stood := { row := chartReadsRow, standIns := [], harness := (true, "bf911bf4c913c80cc97850e65d73334d7e1477e176b8db7d5e985a15b9e09704"), looks := true }, kinds := [], alts := [], laidByText := true, laidKinds := [.data, .data, .data, .data, .pinned], laidTests := true, laidLooks := .later }
def ChartReadsCardSaid : Prop := Claim7.holds Tryz.pinned (.plain (OpenSpec.ofChange chartReadsSpec)) chartReadsCard

/-- THE TIED CARD OF 'isobarlaw03.ChartSpoilt'. -/
def chartSpoiltCard : Claim7 := { stood := { row := chartSpoiltRow, standIns := [], harness := (true, "bf911bf4c913c80cc97850e65d73334d7e1477e176b8db7d5e985a15b9e09704"), looks := true }, kinds := [], alts := [], laidByText := true, laidKinds := [.data, .data, .data, .data, .pinned], laidTests := true, laidLooks := .later }
def ChartSpoiltCardSaid : Prop := Claim7.holds Tryz.pinned (.plain (OpenSpec.ofChange chartSpoiltSpec)) chartSpoiltCard

/-- THE TIED CARD OF 'isobarlaw03.ChartMore'. -/
def chartMoreCard : Claim7 := { stood := { row := chartMoreRow, standIns := [], harness := (true, "bf911bf4c913c80cc97850e65d73334d7e1477e176b8db7d5e985a15b9e09704"), looks := true }, kinds := [], alts := [], laidByText := true, laidKinds := [.data, .data, .data], laidTests := true, laidLooks := .later }
def ChartMoreCardSaid : Prop := Claim7.holds Tryz.pinned (.plain (OpenSpec.ofChange chartMoreSpec)) chartMoreCard

/-- THE SECOND FORM's CARD OF 'isobarlaw03.ChartFits'. -/
def chartFitsUptoCard : Claim7 := { stood := { row := chartFitsUptoRow, standIns := [], harness := (true, "bf911bf4c913c80cc97850e65d73334d7e1477e176b8db7d5e985a15b9e09704"), looks := true }, kinds := [], alts := [], laidByText := true, laidKinds := [.data, .data, .data], laidTests := true, laidLooks := .later }
def ChartFitsUptoCardSaid : Prop := Claim7.holds Tryz.pinned (.plain (OpenSpec.upto chartFitsSpec)) chartFitsUptoCard

/-- THE SECOND FORM's CARD OF 'isobarlaw03.ChartTrue'. -/
def chartTrueUptoCard : Claim7 := { stood := { row := chartTrueUptoRow, standIns := [], harness := (true, "bf911bf4c913c80cc97850e65d73334d7e1477e176b8db7d5e985a15b9e09704"), looks := true }, kinds := [], alts := [], laidByText := true, laidKinds := [.data, .data, .data], laidTests := true, laidLooks := .later }
def ChartTrueUptoCardSaid : Prop := Claim7.holds Tryz.pinned (.plain (OpenSpec.upto chartTrueSpec)) chartTrueUptoCard

/-- THE SECOND FORM's CARD OF 'isobarlaw03.ChartSharp'. -/
def chartSharpUptoCard : Claim7 := { stood := { row := chartSharpUptoRow, standIns := [], harness := (true, "bf911bf4c913c80cc97850e65d73334d7e1477e176b8db7d5e985a15b9e09704"), looks := true }, kinds := [], alts := [], laidByText := true, laidKinds := [.data, .data, .data], laidTests := true, laidLooks := .later }
def ChartSharpUptoCardSaid : Prop := Claim7.holds Tryz.pinned (.plain (OpenSpec.upto chartSharpSpec)) chartSharpUptoCard

/-- THE SECOND FORM's CARD OF 'isobarlaw03.ChartSheets'. -/
def chartSheetsUptoCard : Claim7 := { stood := { row := chartSheetsUptoRow, standIns := [], harness := (true, "bf911bf4c913c80cc97850e65d73334d7e1477e176b8db7d5e985a15b9e09704"), looks := true }, kinds := [], alts := [], laidByText := true, laidKinds := [.data, .data, .data, .data, .pinned], laidTests := true, laidLooks := .later }
def ChartSheetsUptoCardSaid : Prop := Claim7.holds Tryz.pinned (.plain (OpenSpec.upto chartSheetsSpec)) chartSheetsUptoCard

/-- THE SECOND FORM's CARD OF 'isobarlaw03.ChartReads'. -/
def chartReadsUptoCard : Claim7 := { stood := { row := chartReadsUptoRow, standIns := [], harness := (true, "bf911bf4c913c80cc97850e65d73334d7e1477e176b8db7d5e985a15b9e09704"), looks := true }, kinds := [], alts := [], laidByText := true, laidKinds := [.data, .data, .data, .data, .pinned], laidTests := true, laidLooks := .later }
def ChartReadsUptoCardSaid : Prop := Claim7.holds Tryz.pinned (.plain (OpenSpec.upto chartReadsSpec)) chartReadsUptoCard

/-- THE SECOND FORM's CARD OF 'isobarlaw03.ChartSpoilt'. -/
def chartSpoiltUptoCard : Claim7 := { stood := { row := chartSpoiltUptoRow, standIns := [], harness := (true, "bf911bf4c913c80cc97850e65d73334d7e1477e176b8db7d5e985a15b9e09704"), looks := true }, kinds := [], alts := [], laidByText := true, laidKinds := [.data, .data, .data, .data, .pinned], laidTests := true, laidLooks := .later }
def ChartSpoiltUptoCardSaid : Prop := Claim7.holds Tryz.pinned (.plain (OpenSpec.upto chartSpoiltSpec)) chartSpoiltUptoCard

/-- THE SECOND FORM's CARD OF 'isobarlaw03.ChartMore'. -/
def chartMoreUptoCard : Claim7 := { stood := { row := chartMoreUptoRow, standIns := [], harness := (true, "bf911bf4c913c80cc97850e65d73334d7e1477e176b8db7d5e985a15b9e09704"), looks := true }, kinds := [], alts := [], laidByText := true, laidKinds := [.data, .data, .data], laidTests := true, laidLooks := .later }
def ChartMoreUptoCardSaid : Prop := Claim7.holds Tryz.pinned (.plain (OpenSpec.upto chartMoreSpec)) chartMoreUptoCard
end Rows
end Go.Proofs.YtaolfdgkflfekaaGreatDoor
