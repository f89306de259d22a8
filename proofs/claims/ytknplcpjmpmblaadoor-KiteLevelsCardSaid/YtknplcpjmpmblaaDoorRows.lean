/-
  NARROWER THAN 'FOR EVERY INPUT', by the rows' own cells (each row's printed sentence says how): KiteHeights: laid · KiteClimbs: laid · KiteHolds: laid · KiteLevels: laid · KiteRises: laid · KiteMarked: laid · KiteLands: laid · KitePlays: laid · KiteLanded: laid · KiteWinds: laid · KiteFirsts: laid · KiteShows: laid · KiteBlown: laid · KiteMore: laid.
  DERIVED. THE GIVEN ROWS OF THIS SEAT. 14 by the template 'for every input the law returns true; each argument reads behind the call as it read before'; 0 by the template 'total and deterministic' (their statements: YtknplcpjmpmblaaDoorTotals.lean).
  GIVEN WITH THE SEED: the statements are not yours to turn. If you find one false, say at which input.
  Laid BY PROGRAM, IN A SANDBOX (cutbox-rows.mjs): the forced cells as the released guide's own fill.sh prints them over the translation fbc6be8d5fe8bf51… (all of the seat's roots in one cut). By AI agents, Wed Nov 11 2026. No macro, syntax, notation, axiom, sorry.
-/
import Derived.Test.YtknplcpjmpmblaaDoorChecked
import GoSem.Claim
import GoSem.ClaimJoined
import GoSem.ClaimMapViews
import Derived.JoinedTies
import Derived.KernelRfl
namespace Go.Proofs.YtknplcpjmpmblaaDoor
/- THE CELL 'sum', in the pinned program and in every row, IS THE sha256 OF THE DUMP (.gsa) THAT YtknplcpjmpmblaaDoorProg.lean LOADS. Nothing in Lean hashes anything: it is a label: what it is worth is what the hold of that sum in a sandbox is worth. -/
noncomputable def Tryd.pinned : Pinned := { name := "ytknplcpjmpmblaadoor", sum := "fbc6be8d5fe8bf51eb0d6b66a4a121613d93ac0d6a0b4e9eb7274bb660e81087", checked := Tryd.checked }
namespace Rows
def none {H : Type} : Left H := { results := [], args := [] }

/- WHAT THE LISTED PACKAGE-LEVEL VARIABLES READ AS WHEN THE CALL BEGINS. Each datum BY PROGRAM (the guide's laid-datum.mjs) off the statement by which the dump's own 'gosem.cut.vars' lays the variable. In a bare row this is a premise. The card (YtknplcpjmpmblaaDoorCards.lean) ties it to the program's text. -/
def laid_isobar_kite_sines {H : Type} : DataW H := .agg [.lit (.int .i64 0), .lit (.int .i64 872), .lit (.int .i64 1736), .lit (.int .i64 2588), .lit (.int .i64 3420), .lit (.int .i64 4226), .lit (.int .i64 5000), .lit (.int .i64 5736), .lit (.int .i64 6428), .lit (.int .i64 7071), .lit (.int .i64 7660), .lit (.int .i64 8192), .lit (.int .i64 8660), .lit (.int .i64 9063), .lit (.int .i64 9397), .lit (.int .i64 9659), .lit (.int .i64 9848), .lit (.int .i64 9962), .lit (.int .i64 10000)]

/-- 'isobarlaw07.KiteHeights': WHATEVER THE INPUT: true; the input reads as it did. -/
def kiteHeightsSpec : ChangeSpec := { name := "kiteHeights", fn := fun _ => fun
  | [d] => { results := [.lit (.bool true)], args := [d] }
  | _ => none }
def kiteHeightsRow : OpenClaim := { program := "ytknplcpjmpmblaadoor", sum := "fbc6be8d5fe8bf51eb0d6b66a4a121613d93ac0d6a0b4e9eb7274bb660e81087", func := "isobar/isobarlaw07.KiteHeights", spec := "kiteHeights", unfollowed := true, recurses := true, named := ["isobar/kite.sines"], plainKeys := false, apart := false, laid := [("isobar/kite.sines", laid_isobar_kite_sines)] }
def KiteHeightsSaid : Prop := kiteHeightsRow.holds Tryd.pinned (OpenSpec.ofChange kiteHeightsSpec)

/-- ITS FALSE NEIGHBOUR: 'it returns false'. Refute it at one input. -/
def kiteHeightsWrong : ChangeSpec := { name := "kiteHeights", fn := fun _ => fun
  | [d] => { results := [.lit (.bool false)], args := [d] }
  | _ => none }
def KiteHeightsWrongFalsely : Prop := kiteHeightsRow.holds Tryd.pinned (OpenSpec.ofChange kiteHeightsWrong)

/-- 'isobarlaw07.KiteClimbs': WHATEVER THE INPUT: true; the input reads as it did. -/
def kiteClimbsSpec : ChangeSpec := { name := "kiteClimbs", fn := fun _ => fun
  | [d1, d2, d3, d4] => { results := [.lit (.bool true)], args := [d1, d2, d3, d4] }
  | _ => none }
def kiteClimbsRow : OpenClaim := { program := "ytknplcpjmpmblaadoor", sum := "fbc6be8d5fe8bf51eb0d6b66a4a121613d93ac0d6a0b4e9eb7274bb660e81087", func := "isobar/isobarlaw07.KiteClimbs", spec := "kiteClimbs", unfollowed := true, recurses := true, named := ["isobar/kite.sines"], plainKeys := false, apart := false, laid := [("isobar/kite.sines", laid_isobar_kite_sines)] }
def KiteClimbsSaid : Prop := kiteClimbsRow.holds Tryd.pinned (OpenSpec.ofChange kiteClimbsSpec)

/-- ITS FALSE NEIGHBOUR: 'it returns false'. Refute it at one input. -/
def kiteClimbsWrong : ChangeSpec := { name := "kiteClimbs", fn := fun _ => fun
  | [d1, d2, d3, d4] => { results := [.lit (.bool false)], args := [d1, d2, d3, d4] }
  | _ => none }
def KiteClimbsWrongFalsely : Prop := kiteClimbsRow.holds Tryd.pinned (OpenSpec.ofChange kiteClimbsWrong)

/-- 'isobarlaw07.KiteHolds': WHATEVER THE INPUT: true; the input reads as it did. -/
def kiteHoldsSpec : ChangeSpec := { name := "kiteHolds", fn := fun _ => fun
  | [d1, d2, d3, d4] => { results := [.lit (.bool true)], args := [d1, d2, d3, d4] }
  | _ => none }
def kiteHoldsRow : OpenClaim := { program := "ytknplcpjmpmblaadoor", sum := "fbc6be8d5fe8bf51eb0d6b66a4a121613d93ac0d6a0b4e9eb7274bb660e81087", func := "isobar/isobarlaw07.KiteHolds", spec := "kiteHolds", unfollowed := true, recurses := true, named := ["isobar/kite.sines"], plainKeys := false, apart := false, laid := [("isobar/kite.sines", laid_isobar_kite_sines)] }
def KiteHoldsSaid : Prop := kiteHoldsRow.holds Tryd.pinned (OpenSpec.ofChange kiteHoldsSpec)

/-- ITS FALSE NEIGHBOUR: 'it returns false'. Refute it at one input. -/
def kiteHoldsWrong : ChangeSpec := { name := "kiteHolds", fn := fun _ => fun
  | [d1, d2, d3, d4] => { results := [.lit (.bool false)], args := [d1, d2, d3, d4] }
  | _ => none }
def KiteHoldsWrongFalsely : Prop := kiteHoldsRow.holds Tryd.pinned (OpenSpec.ofChange kiteHoldsWrong)

/-- 'isobarlaw07.KiteLevels': WHATEVER THE INPUT: true; the input reads as it did. -/
def kiteLevelsSpec : ChangeSpec := { name := "kiteLevels", fn := fun _ => fun
  | [d1, d2] => { results := [.lit (.bool true)], args := [d1, d2] }
  | _ => none }
def kiteLevelsRow : OpenClaim := { program := "ytknplcpjmpmblaadoor", sum := "fbc6be8d5fe8bf51eb0d6b66a4a121613d93ac0d6a0b4e9eb7274bb660e81087", func := "isobar/isobarlaw07.KiteLevels", spec := "kiteLevels", unfollowed := true, recurses := true, named := ["isobar/kite.sines"], plainKeys := false, apart := false, laid := [("isobar/kite.sines", laid_isobar_kite_sines)] }
def KiteLevelsSaid : Prop := kiteLevelsRow.holds Tryd.pinned (OpenSpec.ofChange kiteLevelsSpec)

/-- ITS FALSE NEIGHBOUR: 'it returns false'. Refute it at one input. -/
def kiteLevelsWrong : ChangeSpec := { name := "kiteLevels", fn := fun _ => fun
  | [d1, d2] => { results := [.lit (.bool false)], args := [d1, d2] }
  | _ => none }
def KiteLevelsWrongFalsely : Prop := kiteLevelsRow.holds Tryd.pinned (OpenSpec.ofChange kiteLevelsWrong)

/-- 'isobarlaw07.KiteRises': WHATEVER THE INPUT: true; the input reads as it did. -/
def kiteRisesSpec : ChangeSpec := { name := "kiteRises", fn := fun _ => fun
  | [d1, d2, d3] => { results := [.lit (.bool true)], args := [d1, d2, d3] }
  | _ => none }
def kiteRisesRow : OpenClaim := { program := "ytknplcpjmpmblaadoor", sum := "fbc6be8d5fe8bf51eb0d6b66a4a121613d93ac0d6a0b4e9eb7274bb660e81087", func := "isobar/isobarlaw07.KiteRises", spec := "kiteRises", unfollowed := true, recurses := true, named := ["isobar/kite.sines"], plainKeys := false, apart := false, laid := [("isobar/kite.sines", laid_isobar_kite_sines)] }
def KiteRisesSaid : Prop := kiteRisesRow.holds Tryd.pinned (OpenSpec.ofChange kiteRisesSpec)

/-- ITS FALSE NEIGHBOUR: 'it returns false'. Refute it at one input. -/
def kiteRisesWrong : ChangeSpec := { name := "kiteRises", fn := fun _ => fun
  | [d1, d2, d3] => { results := [.lit (.bool false)], args := [d1, d2, d3] }
  | _ => none }
def KiteRisesWrongFalsely : Prop := kiteRisesRow.holds Tryd.pinned (OpenSpec.ofChange kiteRisesWrong)

/-- 'isobarlaw07.KiteMarked': WHATEVER THE INPUT: true; the input reads as it did. -/
def kiteMarkedSpec : ChangeSpec := { name := "kiteMarked", fn := fun _ => fun
  | [d1, d2, d3, d4] => { results := [.lit (.bool true)], args := [d1, d2, d3, d4] }
  | _ => none }
def kiteMarkedRow : OpenClaim := { program := "ytknplcpjmpmblaadoor", sum := "fbc6be8d5fe8bf51eb0d6b66a4a121613d93ac0d6a0b4e9eb7274bb660e81087", func := "isobar/isobarlaw07.KiteMarked", spec := "kiteMarked", unfollowed := true, recurses := true, named := ["isobar/kite.sines"], plainKeys := false, apart := false, laid := [("isobar/kite.sines", laid_isobar_kite_sines)] }
def KiteMarkedSaid : Prop := kiteMarkedRow.holds Tryd.pinned (OpenSpec.ofChange kiteMarkedSpec)

/-- ITS FALSE NEIGHBOUR: 'it returns false'. Refute it at one input. -/
def kiteMarkedWrong : ChangeSpec := { name := "kiteMarked", fn := fun _ => fun
  | [d1, d2, d3, d4] => { results := [.lit (.bool false)], args := [d1, d2, d3, d4] }
  | _ => none }
def KiteMarkedWrongFalsely : Prop := kiteMarkedRow.holds Tryd.pinned (OpenSpec.ofChange kiteMarkedWrong)

/-- 'isobarlaw07.KiteLands': WHATEVER THE INPUT: true; the input reads as it did. -/
def kiteLandsSpec : ChangeSpec := { name := "kiteLands", fn := fun _ => fun
  | [d] => { results := [.lit (.bool true)], args := [d] }
  | _ => none }
def kiteLandsRow : OpenClaim := { program := "ytknplcpjmpmblaadoor", sum := "fbc6be8d5fe8bf51eb0d6b66a4a121613d93ac0d6a0b4e9eb7274bb660e81087", func := "isobar/isobarlaw07.KiteLands", spec := "kiteLands", unfollowed := true, recurses := true, named := ["isobar/kite.sines"], plainKeys := false, apart := false, laid := [("isobar/kite.sines", laid_isobar_kite_sines)] }
def KiteLandsSaid : Prop := kiteLandsRow.holds Tryd.pinned (OpenSpec.ofChange kiteLandsSpec)

/-- ITS FALSE NEIGHBOUR: 'it returns false'. Refute it at one input. -/
def kiteLandsWrong : ChangeSpec := { name := "kiteLands", fn := fun _ => fun
  | [d] => { results := [.lit (.bool false)], args := [d] }
  | _ => none }
def KiteLandsWrongFalsely : Prop := kiteLandsRow.holds Tryd.pinned (OpenSpec.ofChange kiteLandsWrong)

/-- 'isobarlaw07.KitePlays': WHATEVER THE INPUT: true; the input reads as it did. -/
def kitePlaysSpec : ChangeSpec := { name := "kitePlays", fn := fun _ => fun
  | [d1, d2] => { results := [.lit (.bool true)], args := [d1, d2] }
  | _ => none }
def kitePlaysRow : OpenClaim := { program := "ytknplcpjmpmblaadoor", sum := "fbc6be8d5fe8bf51eb0d6b66a4a121613d93ac0d6a0b4e9eb7274bb660e81087", func := "isobar/isobarlaw07.KitePlays", spec := "kitePlays", unfollowed := true, recurses := true, named := ["isobar/kite.sines"], plainKeys := false, apart := false, laid := [("isobar/kite.sines", laid_isobar_kite_sines)] }
def KitePlaysSaid : Prop := kitePlaysRow.holds Tryd.pinned (OpenSpec.ofChange kitePlaysSpec)

/-- ITS FALSE NEIGHBOUR: 'it returns false'. Refute it at one input. -/
def kitePlaysWrong : ChangeSpec := { name := "kitePlays", fn := fun _ => fun
  | [d1, d2] => { results := [.lit (.bool false)], args := [d1, d2] }
  | _ => none }
def KitePlaysWrongFalsely : Prop := kitePlaysRow.holds Tryd.pinned (OpenSpec.ofChange kitePlaysWrong)

/-- 'isobarlaw07.KiteLanded': WHATEVER THE INPUT: true; the input reads as it did. -/
def kiteLandedSpec : ChangeSpec := { name := "kiteLanded", fn := fun _ => fun
  | [d1, d2] => { results := [.lit (.bool true)], args := [d1, d2] }
  | _ => none }
def kiteLandedRow : OpenClaim := { program := "ytknplcpjmpmblaadoor", sum := "fbc6be8d5fe8bf51eb0d6b66a4a121613d93ac0d6a0b4e9eb7274bb660e81087", func := "isobar/isobarlaw07.KiteLanded", spec := "kiteLanded", unfollowed := true, recurses := true, named := ["isobar/kite.sines"], plainKeys := false, apart := false, laid := [("isobar/kite.sines", laid_isobar_kite_sines)] }
def KiteLandedSaid : Prop := kiteLandedRow.holds Tryd.pinned (OpenSpec.ofChange kiteLandedSpec)

/-- ITS FALSE NEIGHBOUR: 'it returns false'. Refute it at one input. -/
def kiteLandedWrong : ChangeSpec := { name := "kiteLanded", fn := fun _ => fun
  | [d1, d2] => { results := [.lit (.bool false)], args := [d1, d2] }
  | _ => none }
def KiteLandedWrongFalsely : Prop := kiteLandedRow.holds Tryd.pinned (OpenSpec.ofChange kiteLandedWrong)

/-- 'isobarlaw07.KiteWinds': WHATEVER THE INPUT: true; the input reads as it did. -/
def kiteWindsSpec : ChangeSpec := { name := "kiteWinds", fn := fun _ => fun
  | [d] => { results := [.lit (.bool true)], args := [d] }
  | _ => none }
def kiteWindsRow : OpenClaim := { program := "ytknplcpjmpmblaadoor", sum := "fbc6be8d5fe8bf51eb0d6b66a4a121613d93ac0d6a0b4e9eb7274bb660e81087", func := "isobar/isobarlaw07.KiteWinds", spec := "kiteWinds", unfollowed := true, recurses := true, named := ["isobar/kite.sines"], plainKeys := false, apart := false, laid := [("isobar/kite.sines", laid_isobar_kite_sines)] }
def KiteWindsSaid : Prop := kiteWindsRow.holds Tryd.pinned (OpenSpec.ofChange kiteWindsSpec)

/-- ITS FALSE NEIGHBOUR: 'it returns false'. Refute it at one input. -/
def kiteWindsWrong : ChangeSpec := { name := "kiteWinds", fn := fun _ => fun
  | [d] => { results := [.lit (.bool false)], args := [d] }
  | _ => none }
def KiteWindsWrongFalsely : Prop := kiteWindsRow.holds Tryd.pinned (OpenSpec.ofChange kiteWindsWrong)

/-- 'isobarlaw07.KiteFirsts': WHATEVER THE INPUT: true; the input reads as it did. -/
def kiteFirstsSpec : ChangeSpec := { name := "kiteFirsts", fn := fun _ => fun
  | [d] => { results := [.lit (.bool true)], args := [d] }
  | _ => none }
def kiteFirstsRow : OpenClaim := { program := "ytknplcpjmpmblaadoor", sum := "fbc6be8d5fe8bf51eb0d6b66a4a121613d93ac0d6a0b4e9eb7274bb660e81087", func := "isobar/isobarlaw07.KiteFirsts", spec := "kiteFirsts", unfollowed := true, recurses := true, named := ["isobar/kite.sines"], plainKeys := false, apart := false, laid := [("isobar/kite.sines", laid_isobar_kite_sines)] }
def KiteFirstsSaid : Prop := kiteFirstsRow.holds Tryd.pinned (OpenSpec.ofChange kiteFirstsSpec)

/-- ITS FALSE NEIGHBOUR: 'it returns false'. Refute it at one input. -/
def kiteFirstsWrong : ChangeSpec := { name := "kiteFirsts", fn := fun _ => fun
  | [d] => { results := [.lit (.bool false)], args := [d] }
  | _ => none }
def KiteFirstsWrongFalsely : Prop := kiteFirstsRow.holds Tryd.pinned (OpenSpec.ofChange kiteFirstsWrong)

/-- 'isobarlaw07.KiteShows': WHATEVER THE INPUT: true; the input reads as it did. -/
def kiteShowsSpec : ChangeSpec := { name := "kiteShows", fn := fun _ => fun
  | [d1, d2, d3, d4] => { results := [.lit (.bool true)], args := [d1, d2, d3, d4] }
  | _ => none }
def kiteShowsRow : OpenClaim := { program := "ytknplcpjmpmblaadoor", sum := "fbc6be8d5fe8bf51eb0d6b66a4a121613d93ac0d6a0b4e9eb7274bb660e81087", func := "isobar/isobarlaw07.KiteShows", spec := "kiteShows", unfollowed := true, recurses := true, named := ["isobar/kite.sines"], plainKeys := false, apart := false, laid := [("isobar/kite.sines", laid_isobar_kite_sines)] }
def KiteShowsSaid : Prop := kiteShowsRow.holds Tryd.pinned (OpenSpec.ofChange kiteShowsSpec)

/-- ITS FALSE NEIGHBOUR: 'it returns false'. Refute it at one input. -/
def kiteShowsWrong : ChangeSpec := { name := "kiteShows", fn := fun _ => fun
  | [d1, d2, d3, d4] => { results := [.lit (.bool false)], args := [d1, d2, d3, d4] }
  | _ => none }
def KiteShowsWrongFalsely : Prop := kiteShowsRow.holds Tryd.pinned (OpenSpec.ofChange kiteShowsWrong)

/-- 'isobarlaw07.KiteBlown': WHATEVER THE INPUT: true; the input reads as it did. -/
def kiteBlownSpec : ChangeSpec := { name := "kiteBlown", fn := fun _ => fun
  | [d1, d2, d3, d4, d5] => { results := [.lit (.bool true)], args := [d1, d2, d3, d4, d5] }
  | _ => none }
def kiteBlownRow : OpenClaim := { program := "ytknplcpjmpmblaadoor", sum := "fbc6be8d5fe8bf51eb0d6b66a4a121613d93ac0d6a0b4e9eb7274bb660e81087", func := "isobar/isobarlaw07.KiteBlown", spec := "kiteBlown", unfollowed := true, recurses := true, named := ["isobar/kite.sines"], plainKeys := false, apart := false, laid := [("isobar/kite.sines", laid_isobar_kite_sines)] }
def KiteBlownSaid : Prop := kiteBlownRow.holds Tryd.pinned (OpenSpec.ofChange kiteBlownSpec)

/-- ITS FALSE NEIGHBOUR: 'it returns false'. Refute it at one input. -/
def kiteBlownWrong : ChangeSpec := { name := "kiteBlown", fn := fun _ => fun
  | [d1, d2, d3, d4, d5] => { results := [.lit (.bool false)], args := [d1, d2, d3, d4, d5] }
  | _ => none }
def KiteBlownWrongFalsely : Prop := kiteBlownRow.holds Tryd.pinned (OpenSpec.ofChange kiteBlownWrong)

/-- 'isobarlaw07.KiteMore': WHATEVER THE INPUT: true; the input reads as it did. -/
def kiteMoreSpec : ChangeSpec := { name := "kiteMore", fn := fun _ => fun
  | [d1, d2, d3, d4, d5] => { results := [.lit (.bool true)], args := [d1, d2, d3, d4, d5] }
  | _ => none }
def kiteMoreRow : OpenClaim := { program := "ytknplcpjmpmblaadoor", sum := "fbc6be8d5fe8bf51eb0d6b66a4a121613d93ac0d6a0b4e9eb7274bb660e81087", func := "isobar/isobarlaw07.KiteMore", spec := "kiteMore", unfollowed := true, recurses := true, named := ["isobar/kite.sines"], plainKeys := false, apart := false, laid := [("isobar/kite.sines", laid_isobar_kite_sines)] }
def KiteMoreSaid : Prop := kiteMoreRow.holds Tryd.pinned (OpenSpec.ofChange kiteMoreSpec)

/-- ITS FALSE NEIGHBOUR: 'it returns false'. Refute it at one input. -/
def kiteMoreWrong : ChangeSpec := { name := "kiteMore", fn := fun _ => fun
  | [d1, d2, d3, d4, d5] => { results := [.lit (.bool false)], args := [d1, d2, d3, d4, d5] }
  | _ => none }
def KiteMoreWrongFalsely : Prop := kiteMoreRow.holds Tryd.pinned (OpenSpec.ofChange kiteMoreWrong)

/- THE SECOND FORM. 'bulk': how many values and letters a reading holds, each counted each time it is reached (what is shared counts as often as it is met; a slice's spare places count too). A statement '..UptoSaid' is the law's where the arguments, and the package variables that the reading takes, are together of bulk at most 1048576: NARROWER than '..Said'. Prove '..Said' where nothing that the law and all that it calls make is longer than what came in: it says more and counts as full. Else prove '..UptoSaid'. A law counts once. -/
mutual
def uptoBulk {H : Type} : DataW H → Nat
  | .lit (.string bytes) => bytes.length + 1
  | .lit _ => 1
  | .nil => 1
  | .ptr d => uptoBulk d + 1
  | .slice elems spare => uptoBulkAll elems + uptoBulkAll spare + 1
  | .agg parts => uptoBulkAll parts + 1
  | .iface _ d => uptoBulk d + 1
  | .map entries => uptoBulkEntries entries + 1
  | .held _ => 1
def uptoBulkAll {H : Type} : List (DataW H) → Nat
  | [] => 0
  | d :: r => uptoBulk d + uptoBulkAll r
def uptoBulkEntries {H : Type} : List (Lit × DataW H) → Nat
  | [] => 0
  | x :: r => uptoBulkEntry x + uptoBulkEntries r
def uptoBulkEntry {H : Type} : Lit × DataW H → Nat
  | (.string bytes, d) => bytes.length + uptoBulk d + 1
  | (_, d) => uptoBulk d + 1
 end
def uptoSmall : (H : Type) → List (DataW H) → Bool := fun _ ds => decide (uptoBulkAll ds ≤ 1048576)
def OpenSpec.upto (s : _root_.Go.ChangeSpec) : _root_.Go.OpenSpec := { _root_.Go.OpenSpec.ofChange s with cond := some uptoSmall }

/-- 'isobarlaw07.KiteHeights', WHERE WHAT IT READS IS OF BULK AT MOST 1048576: true; the input reads as it did. -/
def kiteHeightsUptoRow : OpenClaim := { program := "ytknplcpjmpmblaadoor", sum := "fbc6be8d5fe8bf51eb0d6b66a4a121613d93ac0d6a0b4e9eb7274bb660e81087", func := "isobar/isobarlaw07.KiteHeights", spec := "kiteHeights", unfollowed := true, recurses := true, named := ["isobar/kite.sines"], plainKeys := false, apart := false, laid := [("isobar/kite.sines", laid_isobar_kite_sines)], narrowed := true }
def KiteHeightsUptoSaid : Prop := kiteHeightsUptoRow.holds Tryd.pinned (OpenSpec.upto kiteHeightsSpec)

/-- 'isobarlaw07.KiteClimbs', WHERE WHAT IT READS IS OF BULK AT MOST 1048576: true; the input reads as it did. -/
def kiteClimbsUptoRow : OpenClaim := { program := "ytknplcpjmpmblaadoor", sum := "fbc6be8d5fe8bf51eb0d6b66a4a121613d93ac0d6a0b4e9eb7274bb660e81087", func := "isobar/isobarlaw07.KiteClimbs", spec := "kiteClimbs", unfollowed := true, recurses := true, named := ["isobar/kite.sines"], plainKeys := false, apart := false, laid := [("isobar/kite.sines", laid_isobar_kite_sines)], narrowed := true }
def KiteClimbsUptoSaid : Prop := kiteClimbsUptoRow.holds Tryd.pinned (OpenSpec.upto kiteClimbsSpec)

/-- 'isobarlaw07.KiteHolds', WHERE WHAT IT READS IS OF BULK AT MOST 1048576: true; the input reads as it did. -/
def kiteHoldsUptoRow : OpenClaim := { program := "ytknplcpjmpmblaadoor", sum := "fbc6be8d5fe8bf51eb0d6b66a4a121613d93ac0d6a0b4e9eb7274bb660e81087", func := "isobar/isobarlaw07.KiteHolds", spec := "kiteHolds", unfollowed := true, recurses := true, named := ["isobar/kite.sines"], plainKeys := false, apart := false, laid := [("isobar/kite.sines", laid_isobar_kite_sines)], narrowed := true }
def KiteHoldsUptoSaid : Prop := kiteHoldsUptoRow.holds Tryd.pinned (OpenSpec.upto kiteHoldsSpec)

/-- 'isobarlaw07.KiteLevels', WHERE WHAT IT READS IS OF BULK AT MOST 1048576: true; the input reads as it did. -/
def kiteLevelsUptoRow : OpenClaim := { program := "ytknplcpjmpmblaadoor", sum := "fbc6be8d5fe8bf51eb0d6b66a4a121613d93ac0d6a0b4e9eb7274bb660e81087", func := "isobar/isobarlaw07.KiteLevels", spec := "kiteLevels", unfollowed := true, recurses := true, named := ["isobar/kite.sines"], plainKeys := false, apart := false, laid := [("isobar/kite.sines", laid_isobar_kite_sines)], narrowed := true }
def KiteLevelsUptoSaid : Prop := kiteLevelsUptoRow.holds Tryd.pinned (OpenSpec.upto kiteLevelsSpec)

/-- 'isobarlaw07.KiteRises', WHERE WHAT IT READS IS OF BULK AT MOST 1048576: true; the input reads as it did. -/
def kiteRisesUptoRow : OpenClaim := { program := "ytknplcpjmpmblaadoor", sum := "fbc6be8d5fe8bf51eb0d6b66a4a121613d93ac0d6a0b4e9eb7274bb660e81087", func := "isobar/isobarlaw07.KiteRises", spec := "kiteRises", unfollowed := true, recurses := true, named := ["isobar/kite.sines"], plainKeys := false, apart := false, laid := [("isobar/kite.sines", laid_isobar_kite_sines)], narrowed := true }
def KiteRisesUptoSaid : Prop := kiteRisesUptoRow.holds Tryd.pinned (OpenSpec.upto kiteRisesSpec)

/-- 'isobarlaw07.KiteMarked', WHERE WHAT IT READS IS OF BULK AT MOST 1048576: true; the input reads as it did. -/
def kiteMarkedUptoRow : OpenClaim := { program := "ytknplcpjmpmblaadoor", sum := "fbc6be8d5fe8bf51eb0d6b66a4a121613d93ac0d6a0b4e9eb7274bb660e81087", func := "isobar/isobarlaw07.KiteMarked", spec := "kiteMarked", unfollowed := true, recurses := true, named := ["isobar/kite.sines"], plainKeys := false, apart := false, laid := [("isobar/kite.sines", laid_isobar_kite_sines)], narrowed := true }
def KiteMarkedUptoSaid : Prop := kiteMarkedUptoRow.holds Tryd.pinned (OpenSpec.upto kiteMarkedSpec)

/-- 'isobarlaw07.KiteLands', WHERE WHAT IT READS IS OF BULK AT MOST 1048576: true; the input reads as it did. -/
def kiteLandsUptoRow : OpenClaim := { program := "ytknplcpjmpmblaadoor", sum := "fbc6be8d5fe8bf51eb0d6b66a4a121613d93ac0d6a0b4e9eb7274bb660e81087", func := "isobar/isobarlaw07.KiteLands", spec := "kiteLands", unfollowed := true, recurses := true, named := ["isobar/kite.sines"], plainKeys := false, apart := false, laid := [("isobar/kite.sines", laid_isobar_kite_sines)], narrowed := true }
def KiteLandsUptoSaid : Prop := kiteLandsUptoRow.holds Tryd.pinned (OpenSpec.upto kiteLandsSpec)

/-- 'isobarlaw07.KitePlays', WHERE WHAT IT READS IS OF BULK AT MOST 1048576: true; the input reads as it did. -/
def kitePlaysUptoRow : OpenClaim := { program := "ytknplcpjmpmblaadoor", sum := "fbc6be8d5fe8bf51eb0d6b66a4a121613d93ac0d6a0b4e9eb7274bb660e81087", func := "isobar/isobarlaw07.KitePlays", spec := "kitePlays", unfollowed := true, recurses := true, named := ["isobar/kite.sines"], plainKeys := false, apart := false, laid := [("isobar/kite.sines", laid_isobar_kite_sines)], narrowed := true }
def KitePlaysUptoSaid : Prop := kitePlaysUptoRow.holds Tryd.pinned (OpenSpec.upto kitePlaysSpec)

/-- 'isobarlaw07.KiteLanded', WHERE WHAT IT READS IS OF BULK AT MOST 1048576: true; the input reads as it did. -/
def kiteLandedUptoRow : OpenClaim := { program := "ytknplcpjmpmblaadoor", sum := "fbc6be8d5fe8bf51eb0d6b66a4a121613d93ac0d6a0b4e9eb7274bb660e81087", func := "isobar/isobarlaw07.KiteLanded", spec := "kiteLanded", unfollowed := true, recurses := true, named := ["isobar/kite.sines"], plainKeys := false, apart := false, laid := [("isobar/kite.sines", laid_isobar_kite_sines)], narrowed := true }
def KiteLandedUptoSaid : Prop := kiteLandedUptoRow.holds Tryd.pinned (OpenSpec.upto kiteLandedSpec)

/-- 'isobarlaw07.KiteWinds', WHERE WHAT IT READS IS OF BULK AT MOST 1048576: true; the input reads as it did. -/
def kiteWindsUptoRow : OpenClaim := { program := "ytknplcpjmpmblaadoor", sum := "fbc6be8d5fe8bf51eb0d6b66a4a121613d93ac0d6a0b4e9eb7274bb660e81087", func := "isobar/isobarlaw07.KiteWinds", spec := "kiteWinds", unfollowed := true, recurses := true, named := ["isobar/kite.sines"], plainKeys := false, apart := false, laid := [("isobar/kite.sines", laid_isobar_kite_sines)], narrowed := true }
def KiteWindsUptoSaid : Prop := kiteWindsUptoRow.holds Tryd.pinned (OpenSpec.upto kiteWindsSpec)

/-- 'isobarlaw07.KiteFirsts', WHERE WHAT IT READS IS OF BULK AT MOST 1048576: true; the input reads as it did. -/
def kiteFirstsUptoRow : OpenClaim := { program := "ytknplcpjmpmblaadoor", sum := "fbc6be8d5fe8bf51eb0d6b66a4a121613d93ac0d6a0b4e9eb7274bb660e81087", func := "isobar/isobarlaw07.KiteFirsts", spec := "kiteFirsts", unfollowed := true, recurses := true, named := ["isobar/kite.sines"], plainKeys := false, apart := false, laid := [("isobar/kite.sines", laid_isobar_kite_sines)], narrowed := true }
def KiteFirstsUptoSaid : Prop := kiteFirstsUptoRow.holds Tryd.pinned (OpenSpec.upto kiteFirstsSpec)

/-- 'isobarlaw07.KiteShows', WHERE WHAT IT READS IS OF BULK AT MOST 1048576: true; the input reads as it did. -/
def kiteShowsUptoRow : OpenClaim := { program := "ytknplcpjmpmblaadoor", sum := "fbc6be8d5fe8bf51eb0d6b66a4a121613d93ac0d6a0b4e9eb7274bb660e81087", func := "isobar/isobarlaw07.KiteShows", spec := "kiteShows", unfollowed := true, recurses := true, named := ["isobar/kite.sines"], plainKeys := false, apart := false, laid := [("isobar/kite.sines", laid_isobar_kite_sines)], narrowed := true }
def KiteShowsUptoSaid : Prop := kiteShowsUptoRow.holds Tryd.pinned (OpenSpec.upto kiteShowsSpec)

/-- 'isobarlaw07.KiteBlown', WHERE WHAT IT READS IS OF BULK AT MOST 1048576: true; the input reads as it did. -/
def kiteBlownUptoRow : OpenClaim := { program := "ytknplcpjmpmblaadoor", sum := "fbc6be8d5fe8bf51eb0d6b66a4a121613d93ac0d6a0b4e9eb7274bb660e81087", func := "isobar/isobarlaw07.KiteBlown", spec := "kiteBlown", unfollowed := true, recurses := true, named := ["isobar/kite.sines"], plainKeys := false, apart := false, laid := [("isobar/kite.sines", laid_isobar_kite_sines)], narrowed := true }
def KiteBlownUptoSaid : Prop := kiteBlownUptoRow.holds Tryd.pinned (OpenSpec.upto kiteBlownSpec)

/-- 'isobarlaw07.KiteMore', WHERE WHAT IT READS IS OF BULK AT MOST 1048576: true; the input reads as it did. -/
def kiteMoreUptoRow : OpenClaim := { program := "ytknplcpjmpmblaadoor", sum := "fbc6be8d5fe8bf51eb0d6b66a4a121613d93ac0d6a0b4e9eb7274bb660e81087", func := "isobar/isobarlaw07.KiteMore", spec := "kiteMore", unfollowed := true, recurses := true, named := ["isobar/kite.sines"], plainKeys := false, apart := false, laid := [("isobar/kite.sines", laid_isobar_kite_sines)], narrowed := true }
def KiteMoreUptoSaid : Prop := kiteMoreUptoRow.holds Tryd.pinned (OpenSpec.upto kiteMoreSpec)

end Rows
end Go.Proofs.YtknplcpjmpmblaaDoor
