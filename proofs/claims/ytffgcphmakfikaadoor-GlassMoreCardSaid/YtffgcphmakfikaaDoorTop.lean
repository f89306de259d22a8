/- The functions Check, Index, Clash and Know of the program. -/
import Derived.Test.YtffgcphmakfikaaDoorKn
set_option linter.unusedVariables false
set_option linter.unusedSimpArgs false
namespace Go.Proofs.YtffgcphmakfikaaDoor
open Go.RowKit Go.Maps

/-- The value of a station, and the slice of its comparisons. -/
theorem Chks.shape {w : World} {v : Value} {cs : List Chk} (h : Chks w v cs) : ∃ A n c, v = .slice A n c := h.elim fun A h => h.elim fun c h => ⟨A, _, c, h.1⟩
@[reducible] def stBox (s : Stn) (v : Value) : Obj := .cells #[.int .i64 s.hl, .int .i64 s.hh, .int .i64 s.gl, .int .i64 s.gh, .int .i64 s.dr, .int .i64 s.rd, .int .i64 s.ea, .int .i64 s.sl, v] 26

end Go.Proofs.YtffgcphmakfikaaDoor
