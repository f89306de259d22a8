/- The sine of an angle, out of the program's table. -/
import Derived.Test.YtknplcpjmpmblaaDoorRows
import Derived.Test.YtknplcpjmpmblaaDoorProg
import Derived.WalkKit
import Derived.WalkSpells
import Derived.WalkLawsBesides
import Derived.Lib.Hide
import Derived.Below
import Derived.Orders
import Derived.Still
set_option linter.unusedVariables false
set_option linter.unusedSimpArgs false
namespace Go.Proofs.YtknplcpjmpmblaaDoor
open Go.RowKit
def sinL : List Int := [0, 872, 1736, 2588, 3420, 4226, 5000, 5736, 6428, 7071, 7660, 8192, 8660, 9063, 9397, 9659, 9848, 9962, 10000]
def sinT (i : Int) : Int := sinL.getD i.toNat 0
def sinF (a : Int) : Int := if a % 5 = 0 then sinT (a / 5) else sinT (a / 5) + (sinT (a / 5 + 1) - sinT (a / 5)) * (a % 5) / 5
/-- The program's table lies where it was laid. -/
def SinAt (w : World) : Prop := 0 < w.heap.size ∧ ∀ i : Nat, i < 19 → w.cell? ⟨0, i, none⟩ = some (.int .i64 (sinL.getD i 0))
theorem SinAt.below {w w' : World} (h : SinAt w) (hb : Below w.heap.size w w') : SinAt w' := ⟨Nat.lt_of_lt_of_le h.1 hb.size, fun i hi => (hb.cell (p := ⟨0, i, none⟩) h.1).trans (h.2 i hi)⟩
theorem sin_pos : ∀ i : Nat, i < 19 → 0 ≤ sinL.getD i 0 ∧ sinL.getD i 0 ≤ 10000 := by decide +kernel
theorem sin_mono : ∀ i : Nat, i < 18 → sinL.getD i 0 ≤ sinL.getD (i + 1) 0 := by decide +kernel
theorem ret_int' {a b : Int} {k : IntKind} (h : a = b) : Ending.returned (.int k a) = .returned (.int k b) := by rw [h]
set_option maxHeartbeats 400000 in
theorem sine_any (t : Int) (w : World) (hw : SinAt w) (h0 : 0 ≤ t) (h1 : t ≤ 90) :
    Calls Tryd.prog 104 #[.int .i64 t] w fun e w' => e = .returned (.int .i64 (sinF t)) ∧ w = w' := by
  obtain ⟨a, ha⟩ : ∃ a : Nat, t = a := ⟨t.toNat, by omega⟩
  subst ha
  have c0 := hw.2 (a / 5) (by omega)
  have p0 := sin_pos (a / 5) (by omega)
  by_cases hr : a % 5 = 0
  · have Hf := Lib.hid (show sinL.getD (a / 5) 0 = sinF (a : Int) by
      unfold sinF sinT
      rw [if_pos (by omega)]
      congr 1)
    go_enter Tryd.func104, Tryd.ntmps104
    generalize sinL.getD (a / 5) 0 = x at *
    go_wp2
    go_ret
    exact ⟨ret_int' Hf.out, rfl⟩
  · have c1 := hw.2 (a / 5 + 1) (by omega)
    have p1 := sin_pos (a / 5 + 1) (by omega)
    have pm := sin_mono (a / 5) (by omega)
    have hnb : ((a : Int) % 5 == 0) = false := by simp; omega
    have hf : sinL.getD (a / 5) 0 + (sinL.getD (a / 5 + 1) 0 - sinL.getD (a / 5) 0) * ((a : Int) % 5) / 5 = sinF (a : Int) := by
      unfold sinF sinT
      rw [if_neg (by omega), show ((a : Int) / 5).toNat = a / 5 by omega, show ((a : Int) / 5 + 1).toNat = a / 5 + 1 by omega]
    have Hf := Lib.hid hf
    clear hf
    generalize sinL.getD (a / 5) 0 = x at *
    generalize sinL.getD (a / 5 + 1) 0 = y at *
    have m0 : 0 ≤ (y - x) * ((a : Int) % 5) := Int.mul_nonneg (by omega) (by omega)
    have m1 : (y - x) * ((a : Int) % 5) ≤ 10000 * 5 := Int.mul_le_mul (by omega) (by omega) (by omega) (by omega)
    go_enter Tryd.func104, Tryd.ntmps104
    go_wp2
    go_ret
    exact ⟨ret_int' Hf.out, rfl⟩
theorem span_any (a b : Int) (w : World) : Calls Tryd.prog 25 #[.int .i64 a, .int .i64 b] w fun e w' => e = .returned (.agg #[.int .i64 a, .int .i64 b]) ∧ Below w.heap.size w w' := by
  go_enter Tryd.func25, Tryd.ntmps25
  go_wp2
  refine bodyPost_ret (v := .agg #[.int .i64 a, .int .i64 b]) (by simp [results, Tryd.results25, go_sem]) rfl ⟨rfl, ?_⟩
  exact (Below.refl _ w).alloc (Nat.le_refl _) _
end Go.Proofs.YtknplcpjmpmblaaDoor
