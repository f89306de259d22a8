/- The law GlassClashes, walked. -/
import Derived.Test.YtffgcphmakfikaaDoorRag
set_option linter.unusedVariables false
set_option linter.unusedSimpArgs false
namespace Go.Proofs.YtffgcphmakfikaaDoor
open Go.RowKit Go.Maps

theorem First.uniq {s : Stn} {cs : List Chk} {i j i' j' : Nat} (h : First s cs i j) (h' : First s cs i' j') : i = i' ∧ j = j' := by
  have h1 := h.2.2 i' j' h'.1 h'.2.1
  have h2 := h'.2.2 i j h.1 h.2.1
  omega
end Go.Proofs.YtffgcphmakfikaaDoor
