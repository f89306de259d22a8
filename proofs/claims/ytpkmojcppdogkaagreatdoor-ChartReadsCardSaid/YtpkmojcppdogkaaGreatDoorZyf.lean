/- The law's known() of the chart's layer, worked out by the kernel. -/
import Derived.Test.YtpkmojcppdogkaaGreatDoorZye
set_option linter.unusedVariables false
set_option linter.unusedSimpArgs false
namespace Go.Proofs.YtpkmojcppdogkaaGreatDoor.GX
open Go Go.RowKit
set_option maxRecDepth 1000000 in
theorem known_run : isTrue (xcall chTab (exec chTab 400) 17 [] { m := .e, next := 0 }) = true := by decide +kernel
/-- The law's known() is true, in every world where the library's table of powers of ten lies. -/
theorem known_true (w : World) (ht : Lib.TabIs Tryz.prog w "internal/strconv.uint64pow10" .u64 Lib.pow10Tab) :
    Calls Tryz.prog 17 #[] w fun e w' => e = .returned (.bool true) ∧ Below w.heap.size w w' :=
  run_true w (chTab_ok (tabAt_of ht)) known_run
end Go.Proofs.YtpkmojcppdogkaaGreatDoor.GX
