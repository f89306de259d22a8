/- The functions Check and Clash of the program. -/
import Derived.Test.YtpkmojcppdogkaaGreatDoorCr
set_option linter.unusedVariables false
set_option linter.unusedSimpArgs false
namespace Go.Proofs.YtpkmojcppdogkaaGreatDoor
open Go.RowKit
end Go.Proofs.YtpkmojcppdogkaaGreatDoor
