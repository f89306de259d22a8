/-
  DERIVED. GIVEN WITH THE SEED: THE CARDS: each row of YtpkmojcppdogkaaGreatDoorRows.lean that lists a variable, with what it lists TIED to the program's text (the seventh form; the later family's looks); each row that meets fmt, with fmt's text TOLD by the authors' own Lean function (tested against real Go, not proved from fmt's source: count such statements apart). THE CARD IS WHAT COUNTS. Prove the row's statement (the work); the ties are given (YtpkmojcppdogkaaGreatDoorTie.lean); close each card by the builder's one call (the guide's Derived/Test/ToyasCard.lean, 'card_holds'). Laid BY PROGRAM, IN A SANDBOX (cutbox-door.mjs). By AI agents, Wed Nov 11 2026. No macro, syntax, notation, axiom, sorry.
-/
import Derived.Test.YtpkmojcppdogkaaGreatDoorRows
import GoSem.ClaimSeven
namespace Go.Proofs.YtpkmojcppdogkaaGreatDoor
namespace Rows

/-- THE TIED CARD OF 'isobarlaw03.ChartDrawn'. -/
def chartDrawnCard : Claim7 := { stood := { row := chartDrawnRow, standIns := [], harness := (true, "52fb4fd465b56cee4834d163b85070946898d154e8b35fa88fb2b290e653716d"), looks := true }, kinds := [], alts := [], laidByText := true, laidKinds := [.data, .data, .data], laidTests := true, laidLooks := .later }
def ChartDrawnCardSaid : Prop := Claim7.holds Tryz.pinned (.plain (OpenSpec.ofChange chartDrawnSpec)) chartDrawnCard

/-- THE TIED CARD OF 'isobarlaw03.ChartLines'. -/
def chartLinesCard : Claim7 := { stood := { row := chartLinesRow, standIns := [], harness := (true, "52fb4fd465b56cee4834d163b85070946898d154e8b35fa88fb2b290e653716d"), looks := true }, kinds := [], alts := [], laidByText := true, laidKinds := [.data, .data, .data], laidTests := true, laidLooks := .later }
def ChartLinesCardSaid : Prop := Claim7.holds Tryz.pinned (.plain (OpenSpec.ofChange chartLinesSpec)) chartLinesCard

/-- THE TIED CARD OF 'isobarlaw03.ChartWhole'. -/
def chartWholeCard : Claim7 := { stood := { row := chartWholeRow, standIns := [], harness := (true, "52fb4fd465b56cee4834d163b85070946898d154e8b35fa88fb2b290e653716d"), looks := true }, kinds := [], alts := [], laidByText := true, laidKinds := [.data, .data, .data], laidTests := true, laidLooks := .later }
def ChartWholeCardSaid : Prop := Claim7.holds Tryz.pinned (.plain (OpenSpec.ofChange chartWholeSpec)) chartWholeCard

/-- THE TIED CARD OF 'isobarlaw03.ChartApart'. -/
def chartApartCard : Claim7 := { stood := { row := chartApartRow, standIns := [], harness := (true, "52fb4fd465b56cee4834d163b85070946898d154e8b35fa88fb2b290e653716d"), looks := true }, kinds := [], alts := [], laidByText := true, laidKinds := [.data, .data, .data], laidTests := true, laidLooks := .later }
def ChartApartCardSaid : Prop := Claim7.holds Tryz.pinned (.plain (OpenSpec.ofChange chartApartSpec)) chartApartCard

/-- THE TIED CARD OF 'isobarlaw03.ChartWords'. -/
def chartWordsCard : Claim7 := { stood := { row := chartWordsRow, standIns := [], harness := (true, "52fb4fd465b56cee4834d163b85070946898d154e8b35fa88fb2b290e653716d"), looks := true }, kinds := [], alts := [], laidByText := true, laidKinds := [.data, .data, .data], laidTests := true, laidLooks := .later }
def ChartWordsCardSaid : Prop := Claim7.holds Tryz.pinned (.plain (OpenSpec.ofChange chartWordsSpec)) chartWordsCard

/-- THE TIED CARD OF 'isobarlaw03.ChartClosed'. -/
def chartClosedCard : Claim7 := { stood := { row := chartClosedRow, standIns := [], harness := (true, "52fb4fd465b56cee4834d163b85070946898d154e8b35fa88fb2b290e653716d"), looks := true }, kinds := [], alts := [], laidByText := true, laidKinds := [.data, .data, .data], laidTests := true, laidLooks := .later }
def ChartClosedCardSaid : Prop := Claim7.holds Tryz.pinned (.plain (OpenSpec.ofChange chartClosedSpec)) chartClosedCard

/-- THE TIED CARD OF 'isobarlaw03.ChartSheets'. -/
def chartSheetsCard : Claim7 := { stood := { row := chartSheetsRow, standIns := [], harness := (true, "52fb4fd465b56cee4834d163b85070946898d154e8b35fa88fb2b290e653716d"), looks := true }, kinds := [], alts := [], laidByText := true, laidKinds := [.data, .data, .data, .data, .pinned], laidTests := true, laidLooks := .later }
def ChartSheetsCardSaid : Prop := Claim7.holds Tryz.pinned (.plain (OpenSpec.ofChange chartSheetsSpec)) chartSheetsCard

/-- THE TIED CARD OF 'isobarlaw03.ChartReads'. -/
def chartReadsCard : Claim7 := { stood := { row := chartReadsRow, standIns := [], harness := (true, "52fb4fd465b56cee4834d163b85070946898d154e8b35fa88fb2b290e653716d"), looks := true }, kinds := [], alts := [], laidByText := true, laidKinds := [.data, .data, .data, .data, .pinned], laidTests := true, laidLooks := .later }
def ChartReadsCardSaid : Prop := Claim7.holds Tryz.pinned (.plain (OpenSpec.ofChange chartReadsSpec)) chartReadsCard

/-- THE TIED CARD OF 'isobarlaw03.ChartSpoilt'. -/
def chartSpoiltCard : Claim7 := { stood := { row := chartSpoiltRow, standIns := [], harness := (true, "52fb4fd465b56cee4834d163b85070946898d154e8b35fa88fb2b290e653716d"), looks := true }, kinds := [], alts := [], laidByText := true, laidKinds := [.data, .data, .data, .data, .pinned], laidTests := true, laidLooks := .later }
def ChartSpoiltCardSaid : Prop := Claim7.holds Tryz.pinned (.plain (OpenSpec.ofChange chartSpoiltSpec)) chartSpoiltCard

/-- THE SECOND FORM's CARD OF 'isobarlaw03.ChartDrawn'. -/
def chartDrawnUptoCard : Claim7 := { stood := { row := chartDrawnUptoRow, standIns := [], harness := (true, "52fb4fd465b56cee4834d163b85070946898d154e8b35fa88fb2b290e653716d"), looks := true }, kinds := [], alts := [], laidByText := true, laidKinds := [.data, .data, .data], laidTests := true, laidLooks := .later }
def ChartDrawnUptoCardSaid : Prop := Claim7.holds Tryz.pinned (.plain (OpenSpec.upto chartDrawnSpec)) chartDrawnUptoCard

/-- THE SECOND FORM's CARD OF 'isobarlaw03.ChartLines'. -/
def chartLinesUptoCard : Claim7 := { stood := { row := chartLinesUptoRow, standIns := [], harness := (true, "52fb4fd465b56cee4834d163b85070946898d154e8b35fa88fb2b290e653716d"), looks := true }, kinds := [], alts := [], laidByText := true, laidKinds := [.data, .data, .data], laidTests := true, laidLooks := .later }
def ChartLinesUptoCardSaid : Prop := Claim7.holds Tryz.pinned (.plain (OpenSpec.upto chartLinesSpec)) chartLinesUptoCard

/-- THE SECOND FORM's CARD OF 'isobarlaw03.ChartWhole'. -/
def chartWholeUptoCard : Claim7 := { stood := { row := chartWholeUptoRow, standIns := [], harness := (true, "52fb4fd465b56cee4834d163b85070946898d154e8b35fa88fb2b290e653716d"), looks := true }, kinds := [], alts := [], laidByText := true, laidKinds := [.data, .data, .data], laidTests := true, laidLooks := .later }
def ChartWholeUptoCardSaid : Prop := Claim7.holds Tryz.pinned (.plain (OpenSpec.upto chartWholeSpec)) chartWholeUptoCard

/-- THE SECOND FORM's CARD OF 'isobarlaw03.ChartApart'. -/
def chartApartUptoCard : Claim7 := { stood := { row := chartApartUptoRow, standIns := [], harness := (true, "52fb4fd465b56cee4834d163b85070946898d154e8b35fa88fb2b290e653716d"), looks := true }, kinds := [], alts := [], laidByText := true, laidKinds := [.data, .data, .data], laidTests := true, laidLooks := .later }
def ChartApartUptoCardSaid : Prop := Claim7.holds Tryz.pinned (.plain (OpenSpec.upto chartApartSpec)) chartApartUptoCard

/-- THE SECOND FORM's CARD OF 'isobarlaw03.ChartWords'. -/
def chartWordsUptoCard : Claim7 := { stood := { row := chartWordsUptoRow, standIns := [], harness := (true, "52fb4fd465b56cee4834d163b85070946898d154e8b35fa88fb2b290e653716d"), looks := true }, kinds := [], alts := [], laidByText := true, laidKinds := [.data, .data, .data], laidTests := true, laidLooks := .later }
def ChartWordsUptoCardSaid : Prop := Claim7.holds Tryz.pinned (.plain (OpenSpec.upto chartWordsSpec)) chartWordsUptoCard

/-- THE SECOND FORM's CARD OF 'isobarlaw03.ChartClosed'. -/
def chartClosedUptoCard : Claim7 := { stood := { row := chartClosedUptoRow, standIns := [], harness := (true, "52fb4fd465b56cee4834d163b85070946898d154e8b35fa88fb2b290e653716d"), looks := true }, kinds := [], alts := [], laidByText := true, laidKinds := [.data, .data, .data], laidTests := true, laidLooks := .later }
def ChartClosedUptoCardSaid : Prop := Claim7.holds Tryz.pinned (.plain (OpenSpec.upto chartClosedSpec)) chartClosedUptoCard

/-- THE SECOND FORM's CARD OF 'isobarlaw03.ChartSheets'. -/
def chartSheetsUptoCard : Claim7 := { stood := { row := chartSheetsUptoRow, standIns := [], harness := (true, "52fb4fd465b56cee4834d163b85070946898d154e8b35fa88fb2b290e653716d"), looks := true }, kinds := [], alts := [], laidByText := true, laidKinds := [.data, .data, .data, .data, .pinned], laidTests := true, laidLooks := .later }
def ChartSheetsUptoCardSaid : Prop := Claim7.holds Tryz.pinned (.plain (OpenSpec.upto chartSheetsSpec)) chartSheetsUptoCard

/-- THE SECOND FORM's CARD OF 'isobarlaw03.ChartReads'. -/
def chartReadsUptoCard : Claim7 := { stood := { row := chartReadsUptoRow, standIns := [], harness := (true, "52fb4fd465b56cee4834d163b85070946898d154e8b35fa88fb2b290e653716d"), looks := true }, kinds := [], alts := [], laidByText := true, laidKinds := [.data, .data, .data, .data, .pinned], laidTests := true, laidLooks := .later }
def ChartReadsUptoCardSaid : Prop := Claim7.holds Tryz.pinned (.plain (OpenSpec.upto chartReadsSpec)) chartReadsUptoCard

/-- THE SECOND FORM's CARD OF 'isobarlaw03.ChartSpoilt'. -/
def chartSpoiltUptoCard : Claim7 := { stood := { row := chartSpoiltUptoRow, standIns := [], harness := (true, "52fb4fd465b56cee4834d163b85070946898d154e8b35fa88fb2b290e653716d"), looks := true }, kinds := [], alts := [], laidByText := true, laidKinds := [.data, .data, .data, .data, .pinned], laidTests := true, laidLooks := .later }
def ChartSpoiltUptoCardSaid : Prop := Claim7.holds Tryz.pinned (.plain (OpenSpec.upto chartSpoiltSpec)) chartSpoiltUptoCard
end Rows
end Go.Proofs.YtpkmojcppdogkaaGreatDoor
