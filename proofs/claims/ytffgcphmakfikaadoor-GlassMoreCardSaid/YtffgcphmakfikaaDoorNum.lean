/- Quotients, and what air can hold. -/
import Derived.Test.YtffgcphmakfikaaDoorVar
import Derived.BigQuiet
import Derived.Deep.QuietTactic
set_option linter.unusedVariables false
set_option linter.unusedSimpArgs false
namespace Go.Proofs.YtffgcphmakfikaaDoor
open Go.RowKit

theorem ediv_uniq {n b q r : Int} (hb : 0 < b) (h : n = r + b * q) (h0 : 0 ≤ r) (h1 : r < b) : n / b = q := by
  rw [h, Int.add_mul_ediv_left _ _ (by omega), Int.ediv_eq_zero_of_lt h0 h1]; omega
theorem quot_neg {n b : Int} (hb : 1 ≤ b) (h : n.tmod b < 0) : n.tdiv b - 1 = n / b := by
  have h1 := Int.mul_tdiv_add_tmod n b
  have h6 : - b < n.tmod b := Int.lt_tmod_of_pos n (by omega)
  exact (ediv_uniq (by omega) (r := n.tmod b + b) (by rw [Int.mul_sub]; omega) (by omega) (by omega)).symm
theorem quot_pos {n b : Int} (hb : 1 ≤ b) (h : 0 ≤ n.tmod b) : n.tdiv b = n / b := by
  have h1 := Int.mul_tdiv_add_tmod n b
  have h5 : n.tmod b < b := Int.tmod_lt_of_pos n (by omega)
  exact (ediv_uniq (by omega) (r := n.tmod b) (by omega) (by omega) (by omega)).symm
theorem tdiv_bounds {n b : Int} {N : Int} (hb : 1 ≤ b) (h1 : -N ≤ n) (h2 : n ≤ N) : -N ≤ n.tdiv b ∧ n.tdiv b ≤ N := by
  have := Int.natAbs_tdiv_le_natAbs n b
  omega

set_option maxHeartbeats 400000 in
theorem quotient_any (n b : Int) (w : World) (hn : -1000000000000000 ≤ n) (hn' : n ≤ 1000000000000000) (hb : 1 ≤ b) (hb' : b ≤ 1000000000) :
    Calls Tryd.prog 73 #[.int .i64 n, .int .i64 b] w fun e w' => e = .returned (.int .i64 (n / b)) ∧ w = w' := by
  obtain ⟨t0, t1⟩ := tdiv_bounds hb hn hn'
  by_cases h : n.tmod b < 0
  · have Hq := Lib.hid (quot_neg hb h)
    go_enter Tryd.func73, Tryd.ntmps73
    go_wp2
    go_ret
    exact ⟨ret_int Hq.out, rfl⟩
  · have Hq := Lib.hid (quot_pos hb (by omega : 0 ≤ n.tmod b))
    go_enter Tryd.func73, Tryd.ntmps73
    go_wp2
    go_ret
    exact ⟨ret_int Hq.out, rfl⟩

/-- What air can hold at -300 tenths, and at each whole multiple of 50 from there on. -/
def tabL : List Int := [38, 61, 96, 144, 216, 316, 458, 654, 921, 1279, 1753, 2376, 3182, 4218, 5532, 7188, 9251]
def tabF (i : Int) : Int := tabL.getD i.toNat 0
def airF (t : Int) : Int := if (t + 300) % 50 = 0 then tabF ((t + 300) / 50) else tabF ((t + 300) / 50) + (tabF ((t + 300) / 50 + 1) - tabF ((t + 300) / 50)) * ((t + 300) % 50) / 50
/-- The program's table lies where it was laid. -/
def Holds (w : World) : Prop := 0 < w.heap.size ∧ ∀ i : Nat, i < 17 → w.cell? ⟨0, i, none⟩ = some (.int .i64 (tabL.getD i 0))
theorem Holds.below {w w' : World} (h : Holds w) (hb : Below w.heap.size w w') : Holds w' := ⟨Nat.lt_of_lt_of_le h.1 hb.size, fun i hi => (hb.cell (p := ⟨0, i, none⟩) h.1).trans (h.2 i hi)⟩
theorem tab_pos : ∀ i : Nat, i < 17 → 38 ≤ tabL.getD i 0 ∧ tabL.getD i 0 ≤ 9251 := by decide +kernel
theorem tab_mono : ∀ i : Nat, i < 16 → tabL.getD i 0 ≤ tabL.getD (i + 1) 0 := by decide +kernel

set_option maxHeartbeats 400000 in
theorem hold_any (t : Int) (w : World) (hw : Holds w) (h0 : -300 ≤ t) (h1 : t ≤ 500) :
    Calls Tryd.prog 74 #[.int .i64 t] w fun e w' => e = .returned (.int .i64 (airF t)) ∧ w = w' := by
  obtain ⟨a, ha⟩ : ∃ a : Nat, t + 300 = a := ⟨(t + 300).toNat, by omega⟩
  obtain rfl : t = (a : Int) - 300 := by omega
  have c0 := hw.2 (a / 50) (by omega)
  have p0 := tab_pos (a / 50) (by omega)
  by_cases hr : a % 50 = 0
  · have Hf := Lib.hid (show tabL.getD (a / 50) 0 = airF ((a : Int) - 300) by
      unfold airF tabF
      rw [if_pos (by omega)]
      congr 1
      omega)
    go_enter Tryd.func74, Tryd.ntmps74
    generalize tabL.getD (a / 50) 0 = x at *
    go_wp2
    go_ret
    exact ⟨ret_int Hf.out, rfl⟩
  · have c1 := hw.2 (a / 50 + 1) (by omega)
    have p1 := tab_pos (a / 50 + 1) (by omega)
    have pm := tab_mono (a / 50) (by omega)
    have hnb : ((a : Int) % 50 == 0) = false := by simp; omega
    have hf : tabL.getD (a / 50) 0 + (tabL.getD (a / 50 + 1) 0 - tabL.getD (a / 50) 0) * ((a : Int) % 50) / 50 = airF ((a : Int) - 300) := by
      unfold airF tabF
      rw [if_neg (by omega), show ((a : Int) - 300 + 300) = a by omega, show ((a : Int) / 50).toNat = a / 50 by omega, show ((a : Int) / 50 + 1).toNat = a / 50 + 1 by omega]
    have Hf := Lib.hid hf
    clear hf
    generalize tabL.getD (a / 50) 0 = x at *
    generalize tabL.getD (a / 50 + 1) 0 = y at *
    have m0 : 0 ≤ (y - x) * ((a : Int) % 50) := Int.mul_nonneg (by omega) (by omega)
    have m1 : (y - x) * ((a : Int) % 50) ≤ 9251 * 50 := Int.mul_le_mul (by omega) (by omega) (by omega) (by omega)
    go_enter Tryd.func74, Tryd.ntmps74
    go_wp2
    go_ret
    exact ⟨ret_int Hf.out, rfl⟩
end Go.Proofs.YtffgcphmakfikaaDoor
