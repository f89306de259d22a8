/- The reference's Fall and Rise. -/
import Derived.Test.YtffgcphmakfikaaDoorRag
set_option linter.unusedVariables false
set_option linter.unusedSimpArgs false
namespace Go.Proofs.YtffgcphmakfikaaDoor
open Go.RowKit Go.Maps

theorem fallHi_bd {s : Stn} {cs : List Chk} {a b : Int} (hs : Sane s cs) (a0 : 0 ≤ a) (a1 : a ≤ 400) (b0 : 0 ≤ b) (b1 : b ≤ 400) : -10000000 ≤ fallHi s cs a b ∧ fallHi s cs a b ≤ 10000000 := by
  have h := change_bounds hs.d0 hs.d1 a0 (show a ≤ 10000 by omega) b0 (show b ≤ 10000 by omega)
  have A1 := lowF_bd hs a0 a1; have A2 := highF_bd hs a0 a1; have B1 := lowF_bd hs b0 b1; have B2 := highF_bd hs b0 b1
  unfold fallHi
  omega
theorem fallLo_eq (s : Stn) (cs : List Chk) (a b : Int) : fallLo s cs a b = -fallHi s cs b a := by
  have : farI b a = farI a b := by unfold farI; omega
  unfold fallLo fallHi
  rw [this]
  omega

end Go.Proofs.YtffgcphmakfikaaDoor
