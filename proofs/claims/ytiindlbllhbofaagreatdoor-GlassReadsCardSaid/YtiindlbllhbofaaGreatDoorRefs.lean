/- The reference's Station and Reading. -/
import Derived.Test.YtiindlbllhbofaaGreatDoorRefa
set_option linter.unusedVariables false
set_option linter.unusedSimpArgs false
namespace Go.Proofs.YtiindlbllhbofaaGreatDoor
open Go.RowKit

end Go.Proofs.YtiindlbllhbofaaGreatDoor
