/- Part of a claim on cone. -/
import Derived.Test.YtldimlnllmojiaaGreatVf
set_option linter.unusedVariables false
set_option linter.unusedSimpArgs false
namespace Go.Proofs.YtldimlnllmojiaaGreat
open Go.RowKit
def boatB (llo lhi alo ahi : Int) : Bool := spanB llo lhi 20000 && decide (lhi - llo ≤ 300) && spanB alo ahi 50000
theorem boat_bounds {llo lhi alo ahi : Int} (h : boatB llo lhi alo ahi = true) : (0 ≤ llo ∧ llo ≤ lhi ∧ lhi ≤ 20000) ∧ lhi - llo ≤ 300 ∧ 0 ≤ alo ∧ alo ≤ ahi ∧ ahi ≤ 50000 := by
  simpa [boatB, spanB, and_assoc] using h
end Go.Proofs.YtldimlnllmojiaaGreat
