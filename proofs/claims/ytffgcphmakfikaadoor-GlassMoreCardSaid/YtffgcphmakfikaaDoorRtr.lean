/- The reference's Truth. -/
import Derived.Test.YtffgcphmakfikaaDoorRri
set_option linter.unusedVariables false
set_option linter.unusedSimpArgs false
namespace Go.Proofs.YtffgcphmakfikaaDoor
open Go.RowKit Go.Maps

theorem agreed_is {s : Stn} {v : Value} {cs : List Chk} {b : Bool} {w : World} (hc : Chks w v cs) (h : (soundB s cs && agB s cs) = b) :
    Calls Tryd.prog 4 #[stV s v] w fun e w' => e = .returned (.bool b) ∧ Below w.heap.size w w' := by
  rw [← h]; exact agreed_any hc

end Go.Proofs.YtffgcphmakfikaaDoor
