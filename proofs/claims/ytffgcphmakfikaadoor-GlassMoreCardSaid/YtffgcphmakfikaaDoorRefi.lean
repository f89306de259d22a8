/- The reference's Index. -/
import Derived.Test.YtffgcphmakfikaaDoorRefr
import Derived.Test.YtffgcphmakfikaaDoorWhn
import Derived.StillTailTactics
import Derived.IntWalk
set_option linter.unusedVariables false
set_option linter.unusedSimpArgs false
namespace Go.Proofs.YtffgcphmakfikaaDoor
open Go.RowKit
theorem lowF_succ {s : Stn} {day : Int} {cs : List Chk} {n : Nat} {c : Chk} (h : cs[n]? = some c) : lowF s day (cs.take (n + 1)) = max (lowF s day (cs.take n)) (c.lo - s.dr * farI day c.day) := by
  simp [lowF, List.take_add_one, h, List.foldl_append]
theorem highF_succ {s : Stn} {day : Int} {cs : List Chk} {n : Nat} {c : Chk} (h : cs[n]? = some c) : highF s day (cs.take (n + 1)) = min (highF s day (cs.take n)) (c.hi + s.dr * farI day c.day) := by
  simp [highF, List.take_add_one, h, List.foldl_append]
end Go.Proofs.YtffgcphmakfikaaDoor
