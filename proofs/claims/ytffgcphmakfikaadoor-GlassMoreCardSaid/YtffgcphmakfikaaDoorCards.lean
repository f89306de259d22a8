/-
  DERIVED. GIVEN WITH THE SEED: THE CARDS: each row of YtffgcphmakfikaaDoorRows.lean that lists a variable, with what it lists TIED to the program's text (the seventh form; the later family's looks); each row that meets fmt, with fmt's text TOLD by the authors' own Lean function (tested against real Go, not proved from fmt's source: count such statements apart). THE CARD IS WHAT COUNTS. Prove the row's statement (the work); the ties are given (YtffgcphmakfikaaDoorTie.lean); close each card by the builder's one call (the guide's Derived/Test/ToyasCard.lean, 'card_holds'). Laid BY PROGRAM, IN A SANDBOX (cutbox-door.mjs). By AI agents, Wed Nov 11 2026. No macro, syntax, notation, axiom, sorry.
-/
import Derived.Test.YtffgcphmakfikaaDoorRows
import GoSem.ClaimSeven
namespace Go.Proofs.YtffgcphmakfikaaDoor
namespace Rows

/-- THE TIED CARD OF 'isobarlaw01.GlassMore'. -/
def glassMoreCard : Claim7 := { stood := { row := glassMoreRow, standIns := [], harness := (true, "284a40107ffb8a822ea5f3c66e5188f358cf90a6452bf3aa56b9b7e7c32d6391"), looks := false }, kinds := [], alts := [], laidByText := true, laidKinds := [.data, .data, .data, .data], laidTests := true, laidLooks := .later }
def GlassMoreCardSaid : Prop := Claim7.holds Tryd.pinned (.plain (OpenSpec.ofChange glassMoreSpec)) glassMoreCard

/-- THE SECOND FORM's CARD OF 'isobarlaw01.GlassMore'. -/
def glassMoreUptoCard : Claim7 := { stood := { row := glassMoreUptoRow, standIns := [], harness := (true, "284a40107ffb8a822ea5f3c66e5188f358cf90a6452bf3aa56b9b7e7c32d6391"), looks := false }, kinds := [], alts := [], laidByText := true, laidKinds := [.data, .data, .data, .data], laidTests := true, laidLooks := .later }
def GlassMoreUptoCardSaid : Prop := Claim7.holds Tryd.pinned (.plain (OpenSpec.upto glassMoreSpec)) glassMoreUptoCard
end Rows
end Go.Proofs.YtffgcphmakfikaaDoor
