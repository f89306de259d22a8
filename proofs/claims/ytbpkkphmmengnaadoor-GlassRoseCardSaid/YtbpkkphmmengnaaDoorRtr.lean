/- The reference's Truth. -/
import Derived.Test.YtbpkkphmmengnaaDoorRri
set_option linter.unusedVariables false
set_option linter.unusedSimpArgs false
namespace Go.Proofs.YtbpkkphmmengnaaDoor
open Go.RowKit Go.Maps

theorem agreed_is {s : Stn} {v : Value} {cs : List Chk} {b : Bool} {w : World} (hc : Chks w v cs) (h : (soundB s cs && agB s cs) = b) :
    Calls Tryd.prog 5 #[stV s v] w fun e w' => e = .returned (.bool b) ∧ Below w.heap.size w w' := by
  rw [← h]; exact agreed_any hc

set_option maxHeartbeats 400000 in
theorem lwithin_yes {n a b : Int} (h1 : a ≤ n) (h2 : n ≤ b) (w : World) :
    Calls Tryd.prog 13 #[.int .i64 n, .agg #[.int .i64 a, .int .i64 b]] w fun e w' => e = .returned (.bool true) ∧ Below w.heap.size w w' := by
  go_enter Tryd.func13, Tryd.ntmps13
  go_wp2
  go_ret
  exact ⟨rfl, below_al (Below.refl _ _) _⟩

end Go.Proofs.YtbpkkphmmengnaaDoor
