/-
  DERIVED. GIVEN WITH THE SEED: THE CARDS: each row of YtkdbfpllibjniaaDoorRows.lean that lists a variable, with what it lists TIED to the program's text (the seventh form; the later family's looks); each row that meets fmt, with fmt's text TOLD by the authors' own Lean function (tested against real Go, not proved from fmt's source: count such statements apart). THE CARD IS WHAT COUNTS. Prove the row's statement (the work); the ties are given (YtkdbfpllibjniaaDoorTie.lean); close each card by the builder's one call (the guide's Derived/Test/ToyasCard.lean, 'card_holds'). Laid BY PROGRAM, IN A SANDBOX (cutbox-door.mjs). By AI agents, Wed Nov 11 2026. No macro, syntax, notation, axiom, sorry.
-/
import Derived.Test.YtkdbfpllibjniaaDoorRows
import GoSem.ClaimSeven
namespace Go.Proofs.YtkdbfpllibjniaaDoor
namespace Rows

/-- THE TIED CARD OF 'isobarlaw01.GlassRose'. -/
def glassRoseCard : Claim7 := { stood := { row := glassRoseRow, standIns := [], harness := (true, "7002f3ec3ef4d7c88c34e711125a25c29591b263c9ff398fb3e89ea4d3ddafe9"), looks := false }, kinds := [], alts := [], laidByText := true, laidKinds := [.data, .data, .data, .data], laidTests := true, laidLooks := .later }
def GlassRoseCardSaid : Prop := Claim7.holds Tryd.pinned (.plain (OpenSpec.ofChange glassRoseSpec)) glassRoseCard

/-- THE TIED CARD OF 'isobarlaw01.GlassWhens'. -/
def glassWhensCard : Claim7 := { stood := { row := glassWhensRow, standIns := [], harness := (true, "7002f3ec3ef4d7c88c34e711125a25c29591b263c9ff398fb3e89ea4d3ddafe9"), looks := false }, kinds := [], alts := [], laidByText := true, laidKinds := [.data, .data, .data, .data], laidTests := true, laidLooks := .later }
def GlassWhensCardSaid : Prop := Claim7.holds Tryd.pinned (.plain (OpenSpec.ofChange glassWhensSpec)) glassWhensCard

/-- THE TIED CARD OF 'isobarlaw01.GlassMinutes'. -/
def glassMinutesCard : Claim7 := { stood := { row := glassMinutesRow, standIns := [], harness := (true, "7002f3ec3ef4d7c88c34e711125a25c29591b263c9ff398fb3e89ea4d3ddafe9"), looks := false }, kinds := [], alts := [], laidByText := true, laidKinds := [.data, .data, .data, .data], laidTests := true, laidLooks := .later }
def GlassMinutesCardSaid : Prop := Claim7.holds Tryd.pinned (.plain (OpenSpec.ofChange glassMinutesSpec)) glassMinutesCard

/-- THE TIED CARD OF 'isobarlaw01.GlassMore'. -/
def glassMoreCard : Claim7 := { stood := { row := glassMoreRow, standIns := [], harness := (true, "7002f3ec3ef4d7c88c34e711125a25c29591b263c9ff398fb3e89ea4d3ddafe9"), looks := false }, kinds := [], alts := [], laidByText := true, laidKinds := [.data, .data, .data, .data], laidTests := true, laidLooks := .later }
def GlassMoreCardSaid : Prop := Claim7.holds Tryd.pinned (.plain (OpenSpec.ofChange glassMoreSpec)) glassMoreCard

/-- THE SECOND FORM's CARD OF 'isobarlaw01.GlassRose'. -/
def glassRoseUptoCard : Claim7 := { stood := { row := glassRoseUptoRow, standIns := [], harness := (true, "7002f3ec3ef4d7c88c34e711125a25c29591b263c9ff398fb3e89ea4d3ddafe9"), looks := false }, kinds := [], alts := [], laidByText := true, laidKinds := [.data, .data, .data, .data], laidTests := true, laidLooks := .later }
def GlassRoseUptoCardSaid : Prop := Claim7.holds Tryd.pinned (.plain (OpenSpec.upto glassRoseSpec)) glassRoseUptoCard

/-- THE SECOND FORM's CARD OF 'isobarlaw01.GlassWhens'. -/
def glassWhensUptoCard : Claim7 := { stood := { row := glassWhensUptoRow, standIns := [], harness := (true, "7002f3ec3ef4d7c88c34e711125a25c29591b263c9ff398fb3e89ea4d3ddafe9"), looks := false }, kinds := [], alts := [], laidByText := true, laidKinds := [.data, .data, .data, .data], laidTests := true, laidLooks := .later }
def GlassWhensUptoCardSaid : Prop := Claim7.holds Tryd.pinned (.plain (OpenSpec.upto glassWhensSpec)) glassWhensUptoCard

/-- THE SECOND FORM's CARD OF 'isobarlaw01.GlassMinutes'. -/
def glassMinutesUptoCard : Claim7 := { stood := { row := glassMinutesUptoRow, standIns := [], harness := (true, "7002f3ec3ef4d7c88c34e711125a25c29591b263c9ff398fb3e89ea4d3ddafe9"), looks := false }, kinds := [], alts := [], laidByText := true, laidKinds := [.data, .data, .data, .data], laidTests := true, laidLooks := .later }
def GlassMinutesUptoCardSaid : Prop := Claim7.holds Tryd.pinned (.plain (OpenSpec.upto glassMinutesSpec)) glassMinutesUptoCard

/-- THE SECOND FORM's CARD OF 'isobarlaw01.GlassMore'. -/
def glassMoreUptoCard : Claim7 := { stood := { row := glassMoreUptoRow, standIns := [], harness := (true, "7002f3ec3ef4d7c88c34e711125a25c29591b263c9ff398fb3e89ea4d3ddafe9"), looks := false }, kinds := [], alts := [], laidByText := true, laidKinds := [.data, .data, .data, .data], laidTests := true, laidLooks := .later }
def GlassMoreUptoCardSaid : Prop := Claim7.holds Tryd.pinned (.plain (OpenSpec.upto glassMoreSpec)) glassMoreUptoCard
end Rows
end Go.Proofs.YtkdbfpllibjniaaDoor
