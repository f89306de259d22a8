/- The variable of the library's that Cut and Split read; texts as arguments. -/
import Derived.Test.YtpkmojcppdogkaaGreatDoorKr
import Derived.Test.YtpkmojcppdogkaaGreatDoorTxa
set_option linter.unusedVariables false
set_option linter.unusedSimpArgs false
namespace Go.Proofs.YtpkmojcppdogkaaGreatDoor
open Go Go.ChangeShapes Go.WideShapes Go.ChangeAt Go.RowKit
theorem maxLen_of {w : World} (h : w.ShapedOpen Tryz.prog) : ∃ m, w.cell? ⟨0, 0, none⟩ = some (.int .i64 m) :=
  cell_of_shapedOpen_int (P := Tryz.prog) (g := 0) (t := 3) (zero := #[.int .i64 0]) h (of_decide_eq_true (by kernel_rfl)) (by kernel_rfl) rfl (by kernel_rfl) (by kernel_rfl) Tryz.underlying3
set_option maxRecDepth 100000 in
theorem open_text {w : World} {v : Value} {b0 : Nat} (hv : Value.okWide Tryz.prog w .any b0 9 v) : ∃ T : List UInt8, v = str T := by
  obtain ⟨s, rfl⟩ := okWide_string Tryz.underlying9 hv
  exact ⟨s.data.toList, by cases s; rfl⟩
end Go.Proofs.YtpkmojcppdogkaaGreatDoor
