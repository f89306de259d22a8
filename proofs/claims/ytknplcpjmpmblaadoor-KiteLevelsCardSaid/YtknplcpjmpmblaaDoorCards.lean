/-
  DERIVED. GIVEN WITH THE SEED: THE CARDS: each row of YtknplcpjmpmblaaDoorRows.lean that lists a variable, with what it lists TIED to the program's text (the seventh form; the later family's looks); each row that meets fmt, with fmt's text TOLD by the authors' own Lean function (tested against real Go, not proved from fmt's source: count such statements apart). THE CARD IS WHAT COUNTS. Prove the row's statement (the work); the ties are given (YtknplcpjmpmblaaDoorTie.lean); close each card by the builder's one call (the guide's Derived/Test/ToyasCard.lean, 'card_holds'). Laid BY PROGRAM, IN A SANDBOX (cutbox-door.mjs). By AI agents, Wed Nov 11 2026. No macro, syntax, notation, axiom, sorry.
-/
import Derived.Test.YtknplcpjmpmblaaDoorRows
import GoSem.ClaimSeven
namespace Go.Proofs.YtknplcpjmpmblaaDoor
namespace Rows

/-- THE TIED CARD OF 'isobarlaw07.KiteHeights'. -/
def kiteHeightsCard : Claim7 := { stood := { row := kiteHeightsRow, standIns := [], harness := (true, "8cde88885a69570a2cb056ad2f9a0041fc869445db3c9b54f7bb83042d8b7865"), looks := true }, kinds := [], alts := [], laidByText := true, laidKinds := [.data], laidTests := true, laidLooks := .later }
def KiteHeightsCardSaid : Prop := Claim7.holds Tryd.pinned (.plain (OpenSpec.ofChange kiteHeightsSpec)) kiteHeightsCard

/-- THE TIED CARD OF 'isobarlaw07.KiteClimbs'. -/
def kiteClimbsCard : Claim7 := { stood := { row := kiteClimbsRow, standIns := [], harness := (true, "8cde88885a69570a2cb056ad2f9a0041fc869445db3c9b54f7bb83042d8b7865"), looks := true }, kinds := [], alts := [], laidByText := true, laidKinds := [.data], laidTests := true, laidLooks := .later }
def KiteClimbsCardSaid : Prop := Claim7.holds Tryd.pinned (.plain (OpenSpec.ofChange kiteClimbsSpec)) kiteClimbsCard

/-- THE TIED CARD OF 'isobarlaw07.KiteHolds'. -/
def kiteHoldsCard : Claim7 := { stood := { row := kiteHoldsRow, standIns := [], harness := (true, "8cde88885a69570a2cb056ad2f9a0041fc869445db3c9b54f7bb83042d8b7865"), looks := true }, kinds := [], alts := [], laidByText := true, laidKinds := [.data], laidTests := true, laidLooks := .later }
def KiteHoldsCardSaid : Prop := Claim7.holds Tryd.pinned (.plain (OpenSpec.ofChange kiteHoldsSpec)) kiteHoldsCard

/-- THE TIED CARD OF 'isobarlaw07.KiteLevels'. -/
def kiteLevelsCard : Claim7 := { stood := { row := kiteLevelsRow, standIns := [], harness := (true, "8cde88885a69570a2cb056ad2f9a0041fc869445db3c9b54f7bb83042d8b7865"), looks := true }, kinds := [], alts := [], laidByText := true, laidKinds := [.data], laidTests := true, laidLooks := .later }
def KiteLevelsCardSaid : Prop := Claim7.holds Tryd.pinned (.plain (OpenSpec.ofChange kiteLevelsSpec)) kiteLevelsCard

/-- THE TIED CARD OF 'isobarlaw07.KiteRises'. -/
def kiteRisesCard : Claim7 := { stood := { row := kiteRisesRow, standIns := [], harness := (true, "8cde88885a69570a2cb056ad2f9a0041fc869445db3c9b54f7bb83042d8b7865"), looks := true }, kinds := [], alts := [], laidByText := true, laidKinds := [.data], laidTests := true, laidLooks := .later }
def KiteRisesCardSaid : Prop := Claim7.holds Tryd.pinned (.plain (OpenSpec.ofChange kiteRisesSpec)) kiteRisesCard

/-- THE TIED CARD OF 'isobarlaw07.KiteMarked'. -/
def kiteMarkedCard : Claim7 := { stood := { row := kiteMarkedRow, standIns := [], harness := (true, "8cde88885a69570a2cb056ad2f9a0041fc869445db3c9b54f7bb83042d8b7865"), looks := true }, kinds := [], alts := [], laidByText := true, laidKinds := [.data], laidTests := true, laidLooks := .later }
def KiteMarkedCardSaid : Prop := Claim7.holds Tryd.pinned (.plain (OpenSpec.ofChange kiteMarkedSpec)) kiteMarkedCard

/-- THE TIED CARD OF 'isobarlaw07.KiteLands'. -/
def kiteLandsCard : Claim7 := { stood := { row := kiteLandsRow, standIns := [], harness := (true, "8cde88885a69570a2cb056ad2f9a0041fc869445db3c9b54f7bb83042d8b7865"), looks := true }, kinds := [], alts := [], laidByText := true, laidKinds := [.data], laidTests := true, laidLooks := .later }
def KiteLandsCardSaid : Prop := Claim7.holds Tryd.pinned (.plain (OpenSpec.ofChange kiteLandsSpec)) kiteLandsCard

/-- THE TIED CARD OF 'isobarlaw07.KitePlays'. -/
def kitePlaysCard : Claim7 := { stood := { row := kitePlaysRow, standIns := [], harness := (true, "8cde88885a69570a2cb056ad2f9a0041fc869445db3c9b54f7bb83042d8b7865"), looks := true }, kinds := [], alts := [], laidByText := true, laidKinds := [.data], laidTests := true, laidLooks := .later }
def KitePlaysCardSaid : Prop := Claim7.holds Tryd.pinned (.plain (OpenSpec.ofChange kitePlaysSpec)) kitePlaysCard

/-- THE TIED CARD OF 'isobarlaw07.KiteLanded'. -/
def kiteLandedCard : Claim7 := { stood := { row := kiteLandedRow, standIns := [], harness := (true, "8cde88885a69570a2cb056ad2f9a0041fc869445db3c9b54f7bb83042d8b7865"), looks := true }, kinds := [], alts := [], laidByText := true, laidKinds := [.data], laidTests := true, laidLooks := .later }
def KiteLandedCardSaid : Prop := Claim7.holds Tryd.pinned (.plain (OpenSpec.ofChange kiteLandedSpec)) kiteLandedCard

/-- THE TIED CARD OF 'isobarlaw07.KiteWinds'. -/
def kiteWindsCard : Claim7 := { stood := { row := kiteWindsRow, standIns := [], harness := (true, "8cde88885a69570a2cb056ad2f9a0041fc869445db3c9b54f7bb83042d8b7865"), looks := true }, kinds := [], alts := [], laidByText := true, laidKinds := [.data], laidTests := true, laidLooks := .later }
def KiteWindsCardSaid : Prop := Claim7.holds Tryd.pinned (.plain (OpenSpec.ofChange kiteWindsSpec)) kiteWindsCard

/-- THE TIED CARD OF 'isobarlaw07.KiteFirsts'. -/
def kiteFirstsCard : Claim7 := { stood := { row := kiteFirstsRow, standIns := [], harness := (true, "8cde88885a69570a2cb056ad2f9a0041fc869445db3c9b54f7bb83042d8b7865"), looks := true }, kinds := [], alts := [], laidByText := true, laidKinds := [.data], laidTests := true, laidLooks := .later }
def KiteFirstsCardSaid : Prop := Claim7.holds Tryd.pinned (.plain (OpenSpec.ofChange kiteFirstsSpec)) kiteFirstsCard

/-- THE TIED CARD OF 'isobarlaw07.KiteShows'. -/
def kiteShowsCard : Claim7 := { stood := { row := kiteShowsRow, standIns := [], harness := (true, "8cde88885a69570a2cb056ad2f9a0041fc869445db3c9b54f7bb83042d8b7865"), looks := true }, kinds := [], alts := [], laidByText := true, laidKinds := [.data], laidTests := true, laidLooks := .later }
def KiteShowsCardSaid : Prop := Claim7.holds Tryd.pinned (.plain (OpenSpec.ofChange kiteShowsSpec)) kiteShowsCard

/-- THE TIED CARD OF 'isobarlaw07.KiteBlown'. -/
def kiteBlownCard : Claim7 := { stood := { row := kiteBlownRow, standIns := [], harness := (true, "8cde88885a69570a2cb056ad2f9a0041fc869445db3c9b54f7bb83042d8b7865"), looks := true }, kinds := [], alts := [], laidByText := true, laidKinds := [.data], laidTests := true, laidLooks := .later }
def KiteBlownCardSaid : Prop := Claim7.holds Tryd.pinned (.plain (OpenSpec.ofChange kiteBlownSpec)) kiteBlownCard

/-- THE TIED CARD OF 'isobarlaw07.KiteMore'. -/
def kiteMoreCard : Claim7 := { stood := { row := kiteMoreRow, standIns := [], harness := (true, "8cde88885a69570a2cb056ad2f9a0041fc869445db3c9b54f7bb83042d8b7865"), looks := true }, kinds := [], alts := [], laidByText := true, laidKinds := [.data], laidTests := true, laidLooks := .later }
def KiteMoreCardSaid : Prop := Claim7.holds Tryd.pinned (.plain (OpenSpec.ofChange kiteMoreSpec)) kiteMoreCard

/-- THE SECOND FORM's CARD OF 'isobarlaw07.KiteHeights'. -/
def kiteHeightsUptoCard : Claim7 := { stood := { row := kiteHeightsUptoRow, standIns := [], harness := (true, "8cde88885a69570a2cb056ad2f9a0041fc869445db3c9b54f7bb83042d8b7865"), looks := true }, kinds := [], alts := [], laidByText := true, laidKinds := [.data], laidTests := true, laidLooks := .later }
def KiteHeightsUptoCardSaid : Prop := Claim7.holds Tryd.pinned (.plain (OpenSpec.upto kiteHeightsSpec)) kiteHeightsUptoCard

/-- THE SECOND FORM's CARD OF 'isobarlaw07.KiteClimbs'. -/
def kiteClimbsUptoCard : Claim7 := { stood := { row := kiteClimbsUptoRow, standIns := [], harness := (true, "8cde88885a69570a2cb056ad2f9a0041fc869445db3c9b54f7bb83042d8b7865"), looks := true }, kinds := [], alts := [], laidByText := true, laidKinds := [.data], laidTests := true, laidLooks := .later }
def KiteClimbsUptoCardSaid : Prop := Claim7.holds Tryd.pinned (.plain (OpenSpec.upto kiteClimbsSpec)) kiteClimbsUptoCard

/-- THE SECOND FORM's CARD OF 'isobarlaw07.KiteHolds'. -/
def kiteHoldsUptoCard : Claim7 := { stood := { row := kiteHoldsUptoRow, standIns := [], harness := (true, "8cde88885a69570a2cb056ad2f9a0041fc869445db3c9b54f7bb83042d8b7865"), looks := true }, kinds := [], alts := [], laidByText := true, laidKinds := [.data], laidTests := true, laidLooks := .later }
def KiteHoldsUptoCardSaid : Prop := Claim7.holds Tryd.pinned (.plain (OpenSpec.upto kiteHoldsSpec)) kiteHoldsUptoCard

/-- THE SECOND FORM's CARD OF 'isobarlaw07.KiteLevels'. -/
def kiteLevelsUptoCard : Claim7 := { stood := { row := kiteLevelsUptoRow, standIns := [], harness := (true, "8cde88885a69570a2cb056ad2f9a0041fc869445db3c9b54f7bb83042d8b7865"), looks := true }, kinds := [], alts := [], laidByText := true, laidKinds := [.data], laidTests := true, laidLooks := .later }
def KiteLevelsUptoCardSaid : Prop := Claim7.holds Tryd.pinned (.plain (OpenSpec.upto kiteLevelsSpec)) kiteLevelsUptoCard

/-- THE SECOND FORM's CARD OF 'isobarlaw07.KiteRises'. -/
def kiteRisesUptoCard : Claim7 := { stood := { row := kiteRisesUptoRow, standIns := [], harness := (true, "8cde88885a69570a2cb056ad2f9a0041fc869445db3c9b54f7bb83042d8b7865"), looks := true }, kinds := [], alts := [], laidByText := true, laidKinds := [.data], laidTests := true, laidLooks := .later }
def KiteRisesUptoCardSaid : Prop := Claim7.holds Tryd.pinned (.plain (OpenSpec.upto kiteRisesSpec)) kiteRisesUptoCard

/-- THE SECOND FORM's CARD OF 'isobarlaw07.KiteMarked'. -/
def kiteMarkedUptoCard : Claim7 := { stood := { row := kiteMarkedUptoRow, standIns := [], harness := (true, "8cde88885a69570a2cb056ad2f9a0041fc869445db3c9b54f7bb83042d8b7865"), looks := true }, kinds := [], alts := [], laidByText := true, laidKinds := [.data], laidTests := true, laidLooks := .later }
def KiteMarkedUptoCardSaid : Prop := Claim7.holds Tryd.pinned (.plain (OpenSpec.upto kiteMarkedSpec)) kiteMarkedUptoCard

/-- THE SECOND FORM's CARD OF 'isobarlaw07.KiteLands'. -/
def kiteLandsUptoCard : Claim7 := { stood := { row := kiteLandsUptoRow, standIns := [], harness := (true, "8cde88885a69570a2cb056ad2f9a0041fc869445db3c9b54f7bb83042d8b7865"), looks := true }, kinds := [], alts := [], laidByText := true, laidKinds := [.data], laidTests := true, laidLooks := .later }
def KiteLandsUptoCardSaid : Prop := Claim7.holds Tryd.pinned (.plain (OpenSpec.upto kiteLandsSpec)) kiteLandsUptoCard

/-- THE SECOND FORM's CARD OF 'isobarlaw07.KitePlays'. -/
def kitePlaysUptoCard : Claim7 := { stood := { row := kitePlaysUptoRow, standIns := [], harness := (true, "8cde88885a69570a2cb056ad2f9a0041fc869445db3c9b54f7bb83042d8b7865"), looks := true }, kinds := [], alts := [], laidByText := true, laidKinds := [.data], laidTests := true, laidLooks := .later }
def KitePlaysUptoCardSaid : Prop := Claim7.holds Tryd.pinned (.plain (OpenSpec.upto kitePlaysSpec)) kitePlaysUptoCard

/-- THE SECOND FORM's CARD OF 'isobarlaw07.KiteLanded'. -/
def kiteLandedUptoCard : Claim7 := { stood := { row := kiteLandedUptoRow, standIns := [], harness := (true, "8cde88885a69570a2cb056ad2f9a0041fc869445db3c9b54f7bb83042d8b7865"), looks := true }, kinds := [], alts := [], laidByText := true, laidKinds := [.data], laidTests := true, laidLooks := .later }
def KiteLandedUptoCardSaid : Prop := Claim7.holds Tryd.pinned (.plain (OpenSpec.upto kiteLandedSpec)) kiteLandedUptoCard

/-- THE SECOND FORM's CARD OF 'isobarlaw07.KiteWinds'. -/
def kiteWindsUptoCard : Claim7 := { stood := { row := kiteWindsUptoRow, standIns := [], harness := (true, "8cde88885a69570a2cb056ad2f9a0041fc869445db3c9b54f7bb83042d8b7865"), looks := true }, kinds := [], alts := [], laidByText := true, laidKinds := [.data], laidTests := true, laidLooks := .later }
def KiteWindsUptoCardSaid : Prop := Claim7.holds Tryd.pinned (.plain (OpenSpec.upto kiteWindsSpec)) kiteWindsUptoCard

/-- THE SECOND FORM's CARD OF 'isobarlaw07.KiteFirsts'. -/
def kiteFirstsUptoCard : Claim7 := { stood := { row := kiteFirstsUptoRow, standIns := [], harness := (true, "8cde88885a69570a2cb056ad2f9a0041fc869445db3c9b54f7bb83042d8b7865"), looks := true }, kinds := [], alts := [], laidByText := true, laidKinds := [.data], laidTests := true, laidLooks := .later }
def KiteFirstsUptoCardSaid : Prop := Claim7.holds Tryd.pinned (.plain (OpenSpec.upto kiteFirstsSpec)) kiteFirstsUptoCard

/-- THE SECOND FORM's CARD OF 'isobarlaw07.KiteShows'. -/
def kiteShowsUptoCard : Claim7 := { stood := { row := kiteShowsUptoRow, standIns := [], harness := (true, "8cde88885a69570a2cb056ad2f9a0041fc869445db3c9b54f7bb83042d8b7865"), looks := true }, kinds := [], alts := [], laidByText := true, laidKinds := [.data], laidTests := true, laidLooks := .later }
def KiteShowsUptoCardSaid : Prop := Claim7.holds Tryd.pinned (.plain (OpenSpec.upto kiteShowsSpec)) kiteShowsUptoCard

/-- THE SECOND FORM's CARD OF 'isobarlaw07.KiteBlown'. -/
def kiteBlownUptoCard : Claim7 := { stood := { row := kiteBlownUptoRow, standIns := [], harness := (true, "8cde88885a69570a2cb056ad2f9a0041fc869445db3c9b54f7bb83042d8b7865"), looks := true }, kinds := [], alts := [], laidByText := true, laidKinds := [.data], laidTests := true, laidLooks := .later }
def KiteBlownUptoCardSaid : Prop := Claim7.holds Tryd.pinned (.plain (OpenSpec.upto kiteBlownSpec)) kiteBlownUptoCard

/-- THE SECOND FORM's CARD OF 'isobarlaw07.KiteMore'. -/
def kiteMoreUptoCard : Claim7 := { stood := { row := kiteMoreUptoRow, standIns := [], harness := (true, "8cde88885a69570a2cb056ad2f9a0041fc869445db3c9b54f7bb83042d8b7865"), looks := true }, kinds := [], alts := [], laidByText := true, laidKinds := [.data], laidTests := true, laidLooks := .later }
def KiteMoreUptoCardSaid : Prop := Claim7.holds Tryd.pinned (.plain (OpenSpec.upto kiteMoreSpec)) kiteMoreUptoCard
end Rows
end Go.Proofs.YtknplcpjmpmblaaDoor
