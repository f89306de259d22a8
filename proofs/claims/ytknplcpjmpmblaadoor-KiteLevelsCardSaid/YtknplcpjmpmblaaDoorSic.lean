/- The height of a kite in truth. -/
import Derived.Test.YtknplcpjmpmblaaDoorSin
set_option linter.unusedVariables false
set_option linter.unusedSimpArgs false
namespace Go.Proofs.YtknplcpjmpmblaaDoor
open Go.RowKit
def climbF (a g s : Int) : Int := a * (1000 - s) / 1000 * sinF g / 10000
theorem sinF_bounds {g : Int} (h0 : 0 ≤ g) (h1 : g ≤ 90) : 0 ≤ sinF g ∧ sinF g ≤ 10000 := by
  have key : ∀ n : Nat, n < 91 → 0 ≤ sinF (n : Int) ∧ sinF (n : Int) ≤ 10000 := by decide +kernel
  have := key g.toNat (by omega)
  rwa [Int.toNat_of_nonneg h0] at this
theorem climb_parts {a s : Int} {g : Int} (ha0 : 0 ≤ a) (ha1 : a ≤ 10000) (hg0 : 0 ≤ g) (hg1 : g ≤ 90) (hs0 : 0 ≤ s) (hs1 : s ≤ 1000) :
    (0 ≤ a * (1000 - s) ∧ a * (1000 - s) ≤ a * 1000) ∧ (0 ≤ a * (1000 - s) / 1000 ∧ a * (1000 - s) / 1000 ≤ a) ∧ (0 ≤ a * (1000 - s) / 1000 * sinF g ∧ a * (1000 - s) / 1000 * sinF g ≤ a * 10000) := by
  obtain ⟨s0, s1⟩ := sinF_bounds hg0 hg1
  have m0 : 0 ≤ a * (1000 - s) := Int.mul_nonneg ha0 (by omega)
  have m1 : a * (1000 - s) ≤ a * 1000 := Int.mul_le_mul_of_nonneg_left (by omega) ha0
  have q0 : 0 ≤ a * (1000 - s) / 1000 := by omega
  have q1 : a * (1000 - s) / 1000 ≤ a := by omega
  have p0 : 0 ≤ a * (1000 - s) / 1000 * sinF g := Int.mul_nonneg q0 s0
  have p1 : a * (1000 - s) / 1000 * sinF g ≤ a * 10000 := Int.mul_le_mul q1 s1 s0 ha0
  exact ⟨⟨m0, m1⟩, ⟨q0, q1⟩, p0, p1⟩
theorem climbF_bounds {a s : Int} {g : Int} (ha0 : 0 ≤ a) (ha1 : a ≤ 10000) (hg0 : 0 ≤ g) (hg1 : g ≤ 90) (hs0 : 0 ≤ s) (hs1 : s ≤ 1000) : 0 ≤ climbF a g s ∧ climbF a g s ≤ a := by
  obtain ⟨_, _, p0, p1⟩ := climb_parts ha0 ha1 hg0 hg1 hs0 hs1
  unfold climbF
  omega
theorem sinF_mono {g h : Int} (h0 : 0 ≤ g) (h1 : g ≤ h) (h2 : h ≤ 90) : sinF g ≤ sinF h := by
  have key : ∀ n : Nat, n < 90 → sinF (n : Int) ≤ sinF ((n : Int) + 1) := by decide +kernel
  have ind : ∀ (k n : Nat), n + k ≤ 90 → sinF (n : Int) ≤ sinF ((n : Int) + k) := by
    intro k
    induction k with
    | zero => intro n _; simp
    | succ k ih =>
      intro n hn
      refine Int.le_trans (ih n (by omega)) ?_
      have := key (n + k) (by omega)
      rw [show ((n + k : Nat) : Int) = (n : Int) + k by omega] at this
      rw [show ((n : Int) + ((k + 1 : Nat) : Int)) = (n : Int) + k + 1 by omega]
      exact this
  have := ind (h - g).toNat g.toNat (by omega)
  rw [Int.toNat_of_nonneg h0, Int.toNat_of_nonneg (by omega), show g + (h - g) = h by omega] at this
  exact this
theorem climbF_mono {a a' g g' s s' : Int} (ha0 : 0 ≤ a) (haa : a ≤ a') (ha1 : a' ≤ 10000) (hg0 : 0 ≤ g) (hgg : g ≤ g') (hg1 : g' ≤ 90) (hs0 : 0 ≤ s') (hss : s' ≤ s) (hs1 : s ≤ 1000) : climbF a g s ≤ climbF a' g' s' := by
  obtain ⟨_, ⟨q0, _⟩, p0, _⟩ := climb_parts ha0 (by omega) hg0 (by omega) (show 0 ≤ s by omega) hs1
  obtain ⟨_, ⟨q0', _⟩, p0', _⟩ := climb_parts (show 0 ≤ a' by omega) ha1 (show 0 ≤ g' by omega) hg1 hs0 (by omega)
  have m1 : a * (1000 - s) ≤ a' * (1000 - s') := Int.mul_le_mul haa (by omega) (by omega) (by omega)
  have m2 : a * (1000 - s) / 1000 ≤ a' * (1000 - s') / 1000 := Int.ediv_le_ediv (by omega) m1
  have m3 := Int.mul_le_mul m2 (sinF_mono hg0 hgg hg1) (sinF_bounds hg0 (by omega)).1 q0'
  exact Int.ediv_le_ediv (by omega) m3
set_option maxHeartbeats 400000 in
theorem climb_any (a g s : Int) (w : World) (hw : SinAt w) (ha0 : 0 ≤ a) (ha1 : a ≤ 10000) (hg0 : 0 ≤ g) (hg1 : g ≤ 90) (hs0 : 0 ≤ s) (hs1 : s ≤ 1000) :
    Calls Tryd.prog 73 #[.int .i64 a, .int .i64 g, .int .i64 s] w fun e w' => e = .returned (.int .i64 (climbF a g s)) ∧ w = w' := by
  obtain ⟨⟨m0, m1⟩, ⟨q0, q1⟩, p0, p1⟩ := climb_parts ha0 ha1 hg0 hg1 hs0 hs1
  have hf := Lib.hid (show a * (1000 - s) / 1000 * sinF g / 10000 = climbF a g s from rfl)
  have hsi := sine_any g w hw hg0 hg1
  generalize climbF a g s = r at *
  generalize sinF g = x at *
  go_enter Tryd.func73, Tryd.ntmps73
  go_wp2_with (first | (go_at_call 104; refine hsi.mono ?_; rintro e w1 ⟨rfl, rfl⟩))
  go_ret
  exact ⟨ret_int' hf.out, rfl⟩
end Go.Proofs.YtknplcpjmpmblaaDoor
