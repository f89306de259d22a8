/- A run worked out: what a run that was worked out to 'true' says of the program. -/
import Derived.Test.YtpkmojcppdogkaaGreatDoorZyd
set_option linter.unusedVariables false
set_option linter.unusedSimpArgs false
namespace Go.Proofs.YtpkmojcppdogkaaGreatDoor.GX
open Go Go.RowKit

noncomputable def isTrue : Option (AV × AH) → Bool
  | some (.lit (.bool true), _) => true
  | _ => false
theorem isTrue_is {x : Option (AV × AH)} (h : isTrue x = true) : ∃ h', x = some (.lit (.bool true), h') := by
  unfold isTrue at h
  split at h
  · exact ⟨_, rfl⟩
  · cases h
theorem r_empty (w : World) (θ : Th) : R ⟨w.heap.size, w⟩ θ { m := .e, next := 0 } w :=
  ⟨fun id o h => by simp at h, fun id id' o o' h => by simp at h, Nat.le_refl _, fun _ _ => rfl⟩
/-- A function without arguments that is worked out to 'true' in an empty memory returns true in every world. -/
theorem run_true {P : Program} {tb : Tab} {f : FuncId} {n : Nat} (w : World) (hB : TabOK P tb ⟨w.heap.size, w⟩) (hx : isTrue (xcall tb (exec tb n) f [] { m := .e, next := 0 }) = true) :
    Calls P f #[] w fun e w' => e = .returned (.bool true) ∧ Below w.heap.size w w' := by
  obtain ⟨h', hx⟩ := isTrue_is hx
  have := (xcall_ok hB (exec_sound hB n) (r_empty w fun _ => ⟨0, 0, none⟩) (args := []) (by intro v hv; cases hv) hx).2
  refine (callsIn_wide.1 this).mono fun e w' h => ?_
  obtain ⟨θ', he, _, hp⟩ := h
  exact ⟨by rw [he]; simp [conc], hp.below⟩
theorem tabAt_of {w : World} (ht : Lib.TabIs Tryz.prog w "internal/strconv.uint64pow10" .u64 Lib.pow10Tab) : TabAt Tryz.prog ⟨w.heap.size, w⟩ := by
  refine ⟨ht, fun g hg => ?_⟩
  unfold Lib.TabIs World.var? at ht
  rw [hg] at ht
  simp only [Option.bind_some] at ht
  rcases Nat.lt_or_ge g w.heap.size with h' | h'
  · exact h'
  · rw [Array.getElem?_eq_none h'] at ht; cases ht
end Go.Proofs.YtpkmojcppdogkaaGreatDoor.GX
