import Derived.Test.YtbjffjnmjkogkaaGreatVi
set_option linter.unusedVariables false
set_option linter.unusedSimpArgs false
namespace Go.Proofs.YtbjffjnmjkogkaaGreat
open Go.RowKit
@[reducible] def lookV (m : Wn) (R L P M : Value) : Value := .agg #[.int .i64 m.n, R, L, P, .int .i64 m.fall, .int .i64 m.win, .int .i64 m.hold, .int .i64 m.dawn, .int .i64 m.dusk, M]
end Go.Proofs.YtbjffjnmjkogkaaGreat
