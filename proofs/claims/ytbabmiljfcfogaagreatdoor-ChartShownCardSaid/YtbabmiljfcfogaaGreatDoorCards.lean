/-
  DERIVED. GIVEN WITH THE SEED: THE CARDS: each row of YtbabmiljfcfogaaGreatDoorRows.lean that lists a variable, with what it lists TIED to the program's text (the seventh form; the later family's looks); each row that meets fmt, with fmt's text TOLD by the authors' own Lean function (tested against real Go, not proved from fmt's source: count such statements apart). THE CARD IS WHAT COUNTS. Prove the row's statement (the work); the ties are given (YtbabmiljfcfogaaGreatDoorTie.lean); close each card by the builder's one call (the guide's Derived/Test/ToyasCard.lean, 'card_holds'). Laid BY PROGRAM, IN A SANDBOX (cutbox-door.mjs). By AI agents, Wed Nov 11 2026. No macro, syntax, notation, axiom, sorry.
-/
import Derived.Test.YtbabmiljfcfogaaGreatDoorRows
import GoSem.ClaimSeven
namespace Go.Proofs.YtbabmiljfcfogaaGreatDoor
namespace Rows

/-- THE TIED CARD OF 'isobarlaw03.ChartBounds'. -/
def chartBoundsCard : Claim7 := { stood := { row := chartBoundsRow, standIns := [], harness := (true, "1bbecf4d073c836f212c1bc478286f73004e72b1cbdbd6fcf9f96a6bc8891af3"), looks := true }, kinds := [], alts := [], laidByText := true, laidKinds := [.data, .data, .data], laidTests := true, laidLooks := .later }
def ChartBoundsCardSaid : Prop := Claim7.holds Tryz.pinned (.plain (OpenSpec.ofChange chartBoundsSpec)) chartBoundsCard

/-- THE TIED CARD OF 'isobarlaw03.ChartFits'. -/
def chartFitsCard : Claim7 := { stood := { row := chartFitsRow, standIns := [], harness := (true, "1bbecf4d073c836f212c1bc478286f73004e72b1cbdbd6fcf9f96a6bc8891af3"), looks := true }, kinds := [], alts := [], laidByText := true, laidKinds := [.data, .data, .data], laidTests := true, laidLooks := .later }
def ChartFitsCardSaid : Prop := Claim7.holds Tryz.pinned (.plain (OpenSpec.ofChange chartFitsSpec)) chartFitsCard

/-- THE TIED CARD OF 'isobarlaw03.ChartTrue'. -/
def chartTrueCard : Claim7 := { stood := { row := chartTrueRow, standIns := [], harness := (true, "1bbecf4d073c836f212c1bc478286f73004e72b1cbdbd6fcf9f96a6bc8891af3"), looks := true }, kinds := [], alts := [], laidByText := true, laidKinds := [.data, .data, .data], laidTests := true, laidLooks := .later }
def ChartTrueCardSaid : Prop := Claim7.holds Tryz.pinned (.plain (OpenSpec.ofChange chartTrueSpec)) chartTrueCard

/-- THE TIED CARD OF 'isobarlaw03.ChartSharp'. -/
def chartSharpCard : Claim7 := { stood := { row := chartSharpRow, standIns := [], harness := (true, "1bbecf4d073c836f212c1bc478286f73004e72b1cbdbd6fcf9f96a6bc8891af3"), looks := true }, kinds := [], alts := [], laidByText := true, laidKinds := [.data, .data, .data], laidTests := true, laidLooks := .later }
def ChartSharpCardSaid : Prop := Claim7.holds Tryz.pinned (.plain (OpenSpec.ofChange chartSharpSpec)) chartSharpCard

/-- THE TIED CARD OF 'isobarlaw03.ChartClashes'. -/
def chartClashesCard : Claim7 := { stood := { row := chartClashesRow, standIns := [], harness := (true, "1bbecf4d073c836f212c1bc478286f73004e72b1cbdbd6fcf9f96a6bc8891af3"), looks := true }, kinds := [], alts := [], laidByText := true, laidKinds := [.data, .data, .data], laidTests := true, laidLooks := .later }
def ChartClashesCardSaid : Prop := Claim7.holds Tryz.pinned (.plain (OpenSpec.ofChange chartClashesSpec)) chartClashesCard

/-- THE TIED CARD OF 'isobarlaw03.ChartShown'. -/
def chartShownCard : Claim7 := { stood := { row := chartShownRow, standIns := [], harness := (true, "1bbecf4d073c836f212c1bc478286f73004e72b1cbdbd6fcf9f96a6bc8891af3"), looks := true }, kinds := [], alts := [], laidByText := true, laidKinds := [.data, .data, .data], laidTests := true, laidLooks := .later }
def ChartShownCardSaid : Prop := Claim7.holds Tryz.pinned (.plain (OpenSpec.ofChange chartShownSpec)) chartShownCard

/-- THE TIED CARD OF 'isobarlaw03.ChartDraws'. -/
def chartDrawsCard : Claim7 := { stood := { row := chartDrawsRow, standIns := [], harness := (true, "1bbecf4d073c836f212c1bc478286f73004e72b1cbdbd6fcf9f96a6bc8891af3"), looks := true }, kinds := [], alts := [], laidByText := true, laidKinds := [.data, .data, .data], laidTests := true, laidLooks := .later }
def ChartDrawsCardSaid : Prop := Claim7.holds Tryz.pinned (.plain (OpenSpec.ofChange chartDrawsSpec)) chartDrawsCard

/-- THE SECOND FORM's CARD OF 'isobarlaw03.ChartBounds'. -/
def chartBoundsUptoCard : Claim7 := { stood := { row := chartBoundsUptoRow, standIns := [], harness := (true, "1bbecf4d073c836f212c1bc478286f73004e72b1cbdbd6fcf9f96a6bc8891af3"), looks := true }, kinds := [], alts := [], laidByText := true, laidKinds := [.data, .data, .data], laidTests := true, laidLooks := .later }
def ChartBoundsUptoCardSaid : Prop := Claim7.holds Tryz.pinned (.plain (OpenSpec.upto chartBoundsSpec)) chartBoundsUptoCard

/-- THE SECOND FORM's CARD OF 'isobarlaw03.ChartFits'. -/
def chartFitsUptoCard : Claim7 := { stood := { row := chartFitsUptoRow, standIns := [], harness := (true, "1bbecf4d073c836f212c1bc478286f73004e72b1cbdbd6fcf9f96a6bc8891af3"), looks := true }, kinds := [], alts := [], laidByText := true, laidKinds := [.data, .data, .data], laidTests := true, laidLooks := .later }
def ChartFitsUptoCardSaid : Prop := Claim7.holds Tryz.pinned (.plain (OpenSpec.upto chartFitsSpec)) chartFitsUptoCard

/-- THE SECOND FORM's CARD OF 'isobarlaw03.ChartTrue'. -/
def chartTrueUptoCard : Claim7 := { stood := { row := chartTrueUptoRow, standIns := [], harness := (true, "1bbecf4d073c836f212c1bc478286f73004e72b1cbdbd6fcf9f96a6bc8891af3"), looks := true }, kinds := [], alts := [], laidByText := true, laidKinds := [.data, .data, .data], laidTests := true, laidLooks := .later }
def ChartTrueUptoCardSaid : Prop := Claim7.holds Tryz.pinned (.plain (OpenSpec.upto chartTrueSpec)) chartTrueUptoCard

/-- THE SECOND FORM's CARD OF 'isobarlaw03.ChartSharp'. -/
def chartSharpUptoCard : Claim7 := { stood := { row := chartSharpUptoRow, standIns := [], harness := (true, "1bbecf4d073c836f212c1bc478286f73004e72b1cbdbd6fcf9f96a6bc8891af3"), looks := true }, kinds := [], alts := [], laidByText := true, laidKinds := [.data, .data, .data], laidTests := true, laidLooks := .later }
def ChartSharpUptoCardSaid : Prop := Claim7.holds Tryz.pinned (.plain (OpenSpec.upto chartSharpSpec)) chartSharpUptoCard

/-- THE SECOND FORM's CARD OF 'isobarlaw03.ChartClashes'. -/
def chartClashesUptoCard : Claim7 := { stood := { row := chartClashesUptoRow, standIns := [], harness := (true, "1bbecf4d073c836f212c1bc478286f73004e72b1cbdbd6fcf9f96a6bc8891af3"), looks := true }, kinds := [], alts := [], laidByText := true, laidKinds := [.data, .data, .data], laidTests := true, laidLooks := .later }
def ChartClashesUptoCardSaid : Prop := Claim7.holds Tryz.pinned (.plain (OpenSpec.upto chartClashesSpec)) chartClashesUptoCard

/-- THE SECOND FORM's CARD OF 'isobarlaw03.ChartShown'. -/
def chartShownUptoCard : Claim7 := { stood := { row := chartShownUptoRow, standIns := [], harness := (true, "1bbecf4d073c836f212c1bc478286f73004e72b1cbdbd6fcf9f96a6bc8891af3"), looks := true }, kinds := [], alts := [], laidByText := true, laidKinds := [.data, .data, .data], laidTests := true, laidLooks := .later }
def ChartShownUptoCardSaid : Prop := Claim7.holds Tryz.pinned (.plain (OpenSpec.upto chartShownSpec)) chartShownUptoCard

/-- THE SECOND FORM's CARD OF 'isobarlaw03.ChartDraws'. -/
def chartDrawsUptoCard : Claim7 := { stood := { row := chartDrawsUptoRow, standIns := [], harness := (true, "1bbecf4d073c836f212c1bc478286f73004e72b1cbdbd6fcf9f96a6bc8891af3"), looks := true }, kinds := [], alts := [], laidByText := true, laidKinds := [.data, .data, .data], laidTests := true, laidLooks := .later }
def ChartDrawsUptoCardSaid : Prop := Claim7.holds Tryz.pinned (.plain (OpenSpec.upto chartDrawsSpec)) chartDrawsUptoCard
end Rows
end Go.Proofs.YtbabmiljfcfogaaGreatDoor
