/- The reference's Station and Reading. -/
import Derived.Test.YtbpkkphmmengnaaGreatDoorRefa
set_option linter.unusedVariables false
set_option linter.unusedSimpArgs false
namespace Go.Proofs.YtbpkkphmmengnaaGreatDoor
open Go.RowKit

end Go.Proofs.YtbpkkphmmengnaaGreatDoor
