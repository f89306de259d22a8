/-
  DERIVED. GIVEN WITH THE SEED: THE CARDS: each row of YtiindlbllhbofaaGreatDoorRows.lean that lists a variable, with what it lists TIED to the program's text (the seventh form; the later family's looks); each row that meets fmt, with fmt's text TOLD by the authors' own Lean function (tested against real Go, not proved from fmt's source: count such statements apart). THE CARD IS WHAT COUNTS. Prove the row's statement (the work); the ties are given (YtiindlbllhbofaaGreatDoorTie.lean); close each card by the builder's one call (the guide's Derived/Test/ToyasCard.lean, 'card_holds'). Laid BY PROGRAM, IN A SANDBOX (cutbox-door.mjs). By AI agents, Wed Nov 11 2026. No macro, syntax, notation, axiom, sorry.
-/
import Derived.Test.YtiindlbllhbofaaGreatDoorRows
import GoSem.ClaimSeven
namespace Go.Proofs.YtiindlbllhbofaaGreatDoor
namespace Rows

/-- THE TIED CARD OF 'isobarlaw01.GlassSheets'. -/
def glassSheetsCard : Claim7 := { stood := { row := glassSheetsRow, standIns := [], harness := (true, "41de2e7fcb757c9e3191ccdcea04c173616ad95a531a225246fa8b4bad29b6b0"), looks := true }, kinds := [], alts := [], laidByText := true, laidKinds := [.data, .data, .data, .data, .data, .pinned], laidTests := true, laidLooks := .later }
def GlassSheetsCardSaid : Prop := Claim7.holds Tryz.pinned (.plain (OpenSpec.ofChange glassSheetsSpec)) glassSheetsCard

/-- THE TIED CARD OF 'isobarlaw01.GlassReads'. -/
def glassReadsCard : Claim7 := { stood := { row := glassReadsRow, standIns := [], harness := (true, "41de2e7fcb757c9e3191ccdcea04c173616ad95a531a225246fa8b4bad29b6b0"), looks := true }, kinds := [], alts := [], laidByText := true, laidKinds := [.data, .data, .data, .data, .data, .pinned], laidTests := true, laidLooks := .later }
def GlassReadsCardSaid : Prop := Claim7.holds Tryz.pinned (.plain (OpenSpec.ofChange glassReadsSpec)) glassReadsCard

/-- THE SECOND FORM's CARD OF 'isobarlaw01.GlassSheets'. -/
def glassSheetsUptoCard : Claim7 := { stood := { row := glassSheetsUptoRow, standIns := [], harness := (true, "41de2e7fcb757c9e3191ccdcea04c173616ad95a531a225246fa8b4bad29b6b0"), looks := true }, kinds := [], alts := [], laidByText := true, laidKinds := [.data, .data, .data, .data, .data, .pinned], laidTests := true, laidLooks := .later }
def GlassSheetsUptoCardSaid : Prop := Claim7.holds Tryz.pinned (.plain (OpenSpec.upto glassSheetsSpec)) glassSheetsUptoCard

/-- THE SECOND FORM's CARD OF 'isobarlaw01.GlassReads'. -/
def glassReadsUptoCard : Claim7 := { stood := { row := glassReadsUptoRow, standIns := [], harness := (true, "41de2e7fcb757c9e3191ccdcea04c173616ad95a531a225246fa8b4bad29b6b0"), looks := true }, kinds := [], alts := [], laidByText := true, laidKinds := [.data, .data, .data, .data, .data, .pinned], laidTests := true, laidLooks := .later }
def GlassReadsUptoCardSaid : Prop := Claim7.holds Tryz.pinned (.plain (OpenSpec.upto glassReadsSpec)) glassReadsUptoCard
end Rows
end Go.Proofs.YtiindlbllhbofaaGreatDoor
