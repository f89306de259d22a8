import Derived.Test.YtbjffjnmjkogkaaGreatVs
set_option linter.unusedVariables false
set_option linter.unusedSimpArgs false
namespace Go.Proofs.YtbjffjnmjkogkaaGreat
open Go.RowKit
open Go.Shelf
open Go.Maps
end Go.Proofs.YtbjffjnmjkogkaaGreat
