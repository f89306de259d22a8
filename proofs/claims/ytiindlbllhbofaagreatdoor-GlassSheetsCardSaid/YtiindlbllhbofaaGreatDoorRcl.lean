/- The reference's search for comparisons that contradict each other. -/
import Derived.Test.YtiindlbllhbofaaGreatDoorKno
set_option linter.unusedVariables false
set_option linter.unusedSimpArgs false
namespace Go.Proofs.YtiindlbllhbofaaGreatDoor
open Go.RowKit Go.Maps

/-- What a search for the first two comparisons that contradict each other returns. -/
def ClRet (s : Stn) (cs : List Chk) (w : World) (e : Ending) (w' : World) : Prop :=
  Below w.heap.size w w' ∧ ((Agreed s cs ∧ e = .returned (.tuple #[.int .i64 0, .int .i64 0, .bool false])) ∨ ∃ i j : Nat, First s cs i j ∧ j < cs.length ∧ e = .returned (.tuple #[.int .i64 i, .int .i64 j, .bool true]))
theorem contra_lt {s : Stn} {cs : List Chk} {i j : Nat} (h : Contra s cs i j) : i < cs.length ∧ j < cs.length := by
  obtain ⟨a, b, ha, hb, _⟩ := h
  exact ⟨(List.getElem?_eq_some_iff.1 ha).1, (List.getElem?_eq_some_iff.1 hb).1⟩

end Go.Proofs.YtiindlbllhbofaaGreatDoor
