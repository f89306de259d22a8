/-
  DERIVED. GIVEN WITH THE SEED: THE CARDS: each row of YtbpkkphmmengnaaDoorRows.lean that lists a variable, with what it lists TIED to the program's text (the seventh form; the later family's looks); each row that meets fmt, with fmt's text TOLD by the authors' own Lean function (tested against real Go, not proved from fmt's source: count such statements apart). THE CARD IS WHAT COUNTS. Prove the row's statement (the work); the ties are given (YtbpkkphmmengnaaDoorTie.lean); close each card by the builder's one call (the guide's Derived/Test/ToyasCard.lean, 'card_holds'). Laid BY PROGRAM, IN A SANDBOX (cutbox-door.mjs). By AI agents, Wed Nov 11 2026. No macro, syntax, notation, axiom, sorry.
-/
import Derived.Test.YtbpkkphmmengnaaDoorRows
import GoSem.ClaimSeven
namespace Go.Proofs.YtbpkkphmmengnaaDoor
namespace Rows

/-- THE TIED CARD OF 'isobarlaw01.GlassRose'. -/
def glassRoseCard : Claim7 := { stood := { row := glassRoseRow, standIns := [], harness := (true, "b1b6c3db2b63b14007c53c8175fd235d9cd233bdae5c497f225429a0d629eaae"), looks := false }, kinds := [], alts := [], laidByText := true, laidKinds := [.data, .data, .data, .data], laidTests := true, laidLooks := .later }
def GlassRoseCardSaid : Prop := Claim7.holds Tryd.pinned (.plain (OpenSpec.ofChange glassRoseSpec)) glassRoseCard

/-- THE TIED CARD OF 'isobarlaw01.GlassMore'. -/
def glassMoreCard : Claim7 := { stood := { row := glassMoreRow, standIns := [], harness := (true, "b1b6c3db2b63b14007c53c8175fd235d9cd233bdae5c497f225429a0d629eaae"), looks := false }, kinds := [], alts := [], laidByText := true, laidKinds := [.data, .data, .data, .data], laidTests := true, laidLooks := .later }
def GlassMoreCardSaid : Prop := Claim7.holds Tryd.pinned (.plain (OpenSpec.ofChange glassMoreSpec)) glassMoreCard

/-- THE SECOND FORM's CARD OF 'isobarlaw01.GlassRose'. -/
def glassRoseUptoCard : Claim7 := { stood := { row := glassRoseUptoRow, standIns := [], harness := (true, "b1b6c3db2b63b14007c53c8175fd235d9cd233bdae5c497f225429a0d629eaae"), looks := false }, kinds := [], alts := [], laidByText := true, laidKinds := [.data, .data, .data, .data], laidTests := true, laidLooks := .later }
def GlassRoseUptoCardSaid : Prop := Claim7.holds Tryd.pinned (.plain (OpenSpec.upto glassRoseSpec)) glassRoseUptoCard

/-- THE SECOND FORM's CARD OF 'isobarlaw01.GlassMore'. -/
def glassMoreUptoCard : Claim7 := { stood := { row := glassMoreUptoRow, standIns := [], harness := (true, "b1b6c3db2b63b14007c53c8175fd235d9cd233bdae5c497f225429a0d629eaae"), looks := false }, kinds := [], alts := [], laidByText := true, laidKinds := [.data, .data, .data, .data], laidTests := true, laidLooks := .later }
def GlassMoreUptoCardSaid : Prop := Claim7.holds Tryd.pinned (.plain (OpenSpec.upto glassMoreSpec)) glassMoreUptoCard
end Rows
end Go.Proofs.YtbpkkphmmengnaaDoor
