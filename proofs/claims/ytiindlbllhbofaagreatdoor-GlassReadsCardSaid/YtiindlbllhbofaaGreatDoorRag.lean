/- The reference's Clash and Agree, and the law's short, agreed and asked. -/
import Derived.Test.YtiindlbllhbofaaGreatDoorRcl
set_option linter.unusedVariables false
set_option linter.unusedSimpArgs false
namespace Go.Proofs.YtiindlbllhbofaaGreatDoor
open Go.RowKit Go.Maps

noncomputable def agB (s : Stn) (cs : List Chk) : Bool := @decide (Agreed s cs) (Classical.propDecidable _)
theorem agB_yes {s : Stn} {cs : List Chk} (h : Agreed s cs) : agB s cs = true := by simp [agB, h]
theorem agB_no {s : Stn} {cs : List Chk} (h : ¬ Agreed s cs) : agB s cs = false := by simp [agB, h]
theorem agB_iff {s : Stn} {cs : List Chk} : agB s cs = true ↔ Agreed s cs := by simp [agB]
theorem First.not {s : Stn} {cs : List Chk} {i j : Nat} (h : First s cs i j) : ¬ Agreed s cs := fun ha => ha i j h.1 h.2.1

/-- The error of a station of which something is asked that is as defined or not. -/
noncomputable def askF (s : Stn) (cs : List Chk) (fine : Bool) : Int := if soundB s cs = false ∨ fine = false then 2 else if agB s cs then 0 else 7
theorem rDay_is {n : Int} {b : Bool} (h : betw n 0 400 = b) (w : World) :
    Calls Tryz.prog 47 #[.int .i64 n] w fun e w' => e = .returned (.bool b) ∧ w = w' := by
  rw [← h]; exact rDay_any n w
theorem rReading_is {r : Rdg} {b : Bool} (h : readB r = b) (w : World) :
    Calls Tryz.prog 26 #[rdV r] w fun e w' => e = .returned (.bool b) ∧ Below w.heap.size w w' := by
  rw [← h]; exact rReading_any r w
theorem in_is {n lo hi : Int} {b : Bool} (h : betw n lo hi = b) (w : World) :
    Calls Tryz.prog 48 #[.int .i64 n, .int .i64 lo, .int .i64 hi] w fun e w' => e = .returned (.bool b) ∧ w = w' := by
  rw [← h]; exact in_any n lo hi w
theorem askF_bad {s : Stn} {cs : List Chk} {fine : Bool} (h : soundB s cs = false) : askF s cs fine = 2 := by simp [askF, h]
theorem askF_not {s : Stn} {cs : List Chk} : askF s cs false = 2 := by simp [askF]
theorem askF_ok {s : Stn} {cs : List Chk} (h : soundB s cs = true) (ha : Agreed s cs) : askF s cs true = 0 := by simp [askF, h, agB_yes ha]
theorem askF_rule {s : Stn} {cs : List Chk} {i j : Nat} (h : soundB s cs = true) (hf : First s cs i j) : askF s cs true = 7 := by simp [askF, h, agB_no hf.not]
theorem soundB_16 {s : Stn} {cs : List Chk} (h : ¬ cs.length ≤ 16) : soundB s cs = false := by simp [soundB]; omega

end Go.Proofs.YtiindlbllhbofaaGreatDoor
