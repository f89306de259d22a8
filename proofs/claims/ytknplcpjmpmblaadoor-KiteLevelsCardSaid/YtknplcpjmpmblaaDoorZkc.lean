/- The law's known() of the kite's layer, worked out by the kernel. -/
import Derived.Test.YtknplcpjmpmblaaDoorZkb
set_option linter.unusedVariables false
set_option linter.unusedSimpArgs false
namespace Go.Proofs.YtknplcpjmpmblaaDoor.GX
open Go Go.RowKit

noncomputable def isTrue : Option (AV × AH) → Bool
  | some (.lit (.bool true), _) => true
  | _ => false
theorem isTrue_is {x : Option (AV × AH)} (h : isTrue x = true) : ∃ h', x = some (.lit (.bool true), h') := by
  unfold isTrue at h
  split at h
  · exact ⟨_, rfl⟩
  · cases h
theorem r_empty (w : World) (θ : Th) : R ⟨w.heap.size, w⟩ θ { m := .e, next := 0 } w :=
  ⟨fun id o h => by simp at h, fun id id' o o' h => by simp at h, Nat.le_refl _, fun _ _ => rfl⟩
/-- A function without arguments that is worked out to 'true' in an empty memory returns true in every world. -/
theorem run_true {P : Program} {tb : Tab} {f : FuncId} {n : Nat} (w : World) (hB : TabOK P tb ⟨w.heap.size, w⟩) (hx : isTrue (xcall tb (exec tb n) f [] { m := .e, next := 0 }) = true) :
    Calls P f #[] w fun e w' => e = .returned (.bool true) ∧ Below w.heap.size w w' := by
  obtain ⟨h', hx⟩ := isTrue_is hx
  have := (xcall_ok hB (exec_sound hB n) (r_empty w fun _ => ⟨0, 0, none⟩) (args := []) (by intro v hv; cases hv) hx).2
  refine (callsIn_wide.1 this).mono fun e w' h => ?_
  obtain ⟨θ', he, _, hp⟩ := h
  exact ⟨by rw [he]; simp [conc], hp.below⟩
set_option maxRecDepth 1000000 in
theorem known_run : isTrue (xcall kiTab (exec kiTab 400) 19 [] { m := .e, next := 0 }) = true := by decide +kernel
/-- The law's known() is true, in every world where the table of sines lies. -/
theorem known_true (w : World) (hs : SinAt w) : Calls Tryd.prog 19 #[] w fun e w' => e = .returned (.bool true) ∧ Below w.heap.size w w' :=
  run_true w (kiTab_ok (base := ⟨w.heap.size, w⟩) ⟨hs.1, hs⟩) known_run
end Go.Proofs.YtknplcpjmpmblaaDoor.GX
