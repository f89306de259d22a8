/- The reference's Bound. -/
import Derived.Test.YtaolfdgkflfekaaGreatDoorCz
import Derived.BigRegion
set_option linter.unusedVariables false
set_option linter.unusedSimpArgs false
namespace Go.Proofs.YtaolfdgkflfekaaGreatDoor
open Go.RowKit
open Go.Maps
end Go.Proofs.YtaolfdgkflfekaaGreatDoor
