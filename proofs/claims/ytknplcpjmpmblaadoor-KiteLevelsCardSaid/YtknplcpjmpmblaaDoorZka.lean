/- A run worked out: the tables of the kite's layer. -/
import Derived.Test.YtknplcpjmpmblaaDoorZxr
import Derived.Test.YtknplcpjmpmblaaDoorSin
set_option linter.unusedVariables false
set_option linter.unusedSimpArgs false
namespace Go.Proofs.YtknplcpjmpmblaaDoor.GX
open Go Go.RowKit
def kiFns : List Nat := [17, 19, 25, 27, 30, 34, 36, 41, 51, 53, 55, 56, 58, 65, 66, 67, 69, 70, 71, 72, 73, 76, 77, 78, 82, 83, 84, 85, 94, 96, 99, 101, 102, 103, 105, 106, 107, 108, 109, 110, 111, 112, 113, 114, 115, 117, 118, 119, 120, 121, 123, 124, 125, 127, 128, 129, 130, 131, 132, 133, 134, 135, 136, 137, 138, 139]
def kiTypes : List Nat := List.range 200
noncomputable def natSin : AH → List AV → Option AV := fun _ args => match args with
  | [.lit (.int .i64 a)] => if 0 ≤ a ∧ a ≤ 90 then some (.lit (.int .i64 (sinF a))) else none
  | _ => none
noncomputable def purSpan : List Value → Option AV := fun vs => match vs with
  | [.int .i64 a, .int .i64 b] => some (.agg [.lit (.int .i64 a), .lit (.int .i64 b)])
  | _ => none
/-- The tables without what recovers. -/
noncomputable def kiTab0 : Tab where
  ty := tyTab Tryd.prog kiTypes
  fn := fnTab Tryd.prog kiFns
  nat := T.set (some natSin) 11 .e 104
  dnat := .e
  keyEq := T.set (some 2) 11 (T.set (some 2) 11 .e 179) 23
  eqs := T.set (some 6) 11 .e 67
  pur := T.set (some purSpan) 11 .e 25
end Go.Proofs.YtknplcpjmpmblaaDoor.GX
