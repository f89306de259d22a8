/- The program's function Bounds. -/
import Derived.Test.YtpkmojcppdogkaaGreatDoorCy
set_option linter.unusedVariables false
set_option linter.unusedSimpArgs false
namespace Go.Proofs.YtpkmojcppdogkaaGreatDoor
open Go.RowKit
open Go.Maps
end Go.Proofs.YtpkmojcppdogkaaGreatDoor
