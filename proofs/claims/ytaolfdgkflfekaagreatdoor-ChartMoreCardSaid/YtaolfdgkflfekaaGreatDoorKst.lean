/- A station out of a row's data. -/
import Derived.Test.YtaolfdgkflfekaaGreatDoorKr
set_option linter.unusedVariables false
set_option linter.unusedSimpArgs false
namespace Go.Proofs.YtaolfdgkflfekaaGreatDoor
open Go Go.ChangeShapes Go.WideShapes Go.ChangeAt Go.RowKit
section
variable {H : Type} {enc : TypeId × Value → H} {w : World} {base : Nat} {held : Bool}
set_option maxRecDepth 100000 in
theorem open_sta {v : Value} {d : DataW H} {ps : List MemPlace} {b0 : Nat} (hv : Value.okWide Tryz.prog w .any b0 57 v) (h : DataW.Trod enc Tryz.prog w base (fun _ => true) held 57 v d ps) :
    ∃ s : Sta, v = .agg #[.int .i64 s.pt, .int .i64 s.lo, .int .i64 s.hi] := by
  obtain ⟨fuel, h⟩ := h
  obtain ⟨cs, rfl, hsz⟩ := okWide_struct Tryz.underlying57 hv
  obtain ⟨s, hs⟩ := sta_fields h
  obtain ⟨l⟩ := cs
  have e : l = [.int .i64 s.pt, .int .i64 s.lo, .int .i64 s.hi] := hs
  exact ⟨s, by rw [e]⟩
end
end Go.Proofs.YtaolfdgkflfekaaGreatDoor
