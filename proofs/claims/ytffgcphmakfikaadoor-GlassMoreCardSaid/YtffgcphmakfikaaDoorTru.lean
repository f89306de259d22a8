/- The corrections of a reading, by the program. -/
import Derived.Test.YtffgcphmakfikaaDoorNum
import Derived.Deep.RegionHeld3
set_option linter.unusedVariables false
set_option linter.unusedSimpArgs false
namespace Go.Proofs.YtffgcphmakfikaaDoor
open Go.RowKit

/-- What is true of a reading. -/
structure Tru where
  ix : Int
  er : Int
  gr : Int
  he : Int
  aT : Int
  dT : Int
  wT : Int
@[reducible] def trV (t : Tru) : Value := .agg #[.int .i64 t.ix, .int .i64 t.er, .int .i64 t.gr, .int .i64 t.he, .int .i64 t.aT, .int .i64 t.dT, .int .i64 t.wT]
@[reducible] def weV (a b c : Int) : Value := .agg #[.int .i64 a, .int .i64 b, .int .i64 c]
/-- A truth whose numbers are within the limits. -/
structure Tru.Sane (t : Tru) : Prop where
  i0 : -2000 ≤ t.ix
  i1 : t.ix ≤ 2000
  e0 : -200 ≤ t.er
  e1 : t.er ≤ 200
  g0 : -3000 ≤ t.gr
  g1 : t.gr ≤ 3000
  h0 : 0 ≤ t.he
  h1 : t.he ≤ 3000
  a0 : -300 ≤ t.aT
  a1 : t.aT ≤ 500
  d0 : -300 ≤ t.dT
  d1 : t.dT ≤ 500
  w0 : -300 ≤ t.wT
  w1 : t.wT ≤ 500
def exactF (m : Int) (t : Tru) : Int := m - t.ix - t.er
def cooledF (m : Int) (t : Tru) : Int := m - m * t.aT * 163 / 10000000
def weighedF (m : Int) (t : Tru) : Int := m + m * t.gr / 1000000
def loweredF (h : Int) (t : Tru) : Int := h + h * t.he * 10 / (79900 + 29 * t.dT)
def bulbF (t : Tru) : Int := min t.wT t.dT
def vapourF (h : Int) (t : Tru) : Int := airF (bulbF t) - h * (t.dT - bulbF t) * 8 / 100000
def humidF (h : Int) (t : Tru) : Int := 100 * max (vapourF h t) 0 / airF t.dT
def hereF (m : Int) (t : Tru) : Int := weighedF (cooledF (exactF m t) t) t

theorem mul_bd {a b A B : Int} (h0 : 0 ≤ a) (h1 : a ≤ A) (h2 : -B ≤ b) (h3 : b ≤ B) : -(A * B) ≤ a * b ∧ a * b ≤ A * B := by
  have hB : 0 ≤ B := by omega
  have e1 : a * b ≤ a * B := Int.mul_le_mul_of_nonneg_left h3 h0
  have e2 : a * B ≤ A * B := Int.mul_le_mul_of_nonneg_right h1 hB
  have e3 : a * (-B) ≤ a * b := Int.mul_le_mul_of_nonneg_left h2 h0
  have e4 : a * (-B) = - (a * B) := Int.mul_neg a B
  omega

set_option maxHeartbeats 400000 in
theorem exact_any (m : Int) (t : Tru) (w : World) (ht : t.Sane) (h0 : 0 ≤ m) (h1 : m ≤ 200000) :
    Calls Tryd.prog 58 #[trV t, .int .i64 m] w fun e w' => e = .returned (.int .i64 (exactF m t)) ∧ Below w.heap.size w w' := by
  obtain ⟨i0, i1, e0, e1, -⟩ := ht
  go_enter Tryd.func58, Tryd.ntmps58
  go_wp2
  go_ret
  exact ⟨rfl, (Below.refl _ _).alloc (Nat.le_refl _) _⟩

set_option maxHeartbeats 400000 in
theorem cooled_any (m : Int) (t : Tru) (w : World) (ht : t.Sane) (h0 : 0 ≤ m) (h1 : m ≤ 200000) :
    Calls Tryd.prog 59 #[trV t, .int .i64 m] w fun e w' => e = .returned (.int .i64 (cooledF m t)) ∧ Below w.heap.size w w' := by
  have a0 := ht.a0; have a1 := ht.a1
  obtain ⟨p0, p1⟩ := mul_bd h0 h1 (show -500 ≤ t.aT by omega) a1
  go_enter Tryd.func59, Tryd.ntmps59
  go_wp2_with (go_at_call 73; refine (quotient_any (m * t.aT * 163) 10000000 _ (by omega) (by omega) (by omega) (by omega)).mono ?_; rintro e w' ⟨rfl, rfl⟩)
  go_ret
  exact ⟨rfl, (Below.refl _ _).alloc (Nat.le_refl _) _⟩

set_option maxHeartbeats 400000 in
theorem weighed_any (m : Int) (t : Tru) (w : World) (ht : t.Sane) (h0 : 0 ≤ m) (h1 : m ≤ 200000) :
    Calls Tryd.prog 60 #[trV t, .int .i64 m] w fun e w' => e = .returned (.int .i64 (weighedF m t)) ∧ Below w.heap.size w w' := by
  obtain ⟨p0, p1⟩ := mul_bd h0 h1 ht.g0 ht.g1
  go_enter Tryd.func60, Tryd.ntmps60
  go_wp2_with (go_at_call 73; refine (quotient_any (m * t.gr) 1000000 _ (by omega) (by omega) (by omega) (by omega)).mono ?_; rintro e w' ⟨rfl, rfl⟩)
  go_ret
  exact ⟨rfl, (Below.refl _ _).alloc (Nat.le_refl _) _⟩

theorem ediv_bd {n b N : Int} (hb : 1 ≤ b) (h1 : -N ≤ n) (h2 : n ≤ N) : -N - 1 ≤ n / b ∧ n / b ≤ N + 1 := by
  have e1 := Int.mul_ediv_add_emod n b
  have e2 := Int.emod_nonneg n (show b ≠ 0 by omega)
  have e3 := Int.emod_lt_of_pos n (show 0 < b by omega)
  constructor
  · refine Classical.byContradiction fun hc => ?_
    have : b * (n / b) ≤ b * (-N - 2) := Int.mul_le_mul_of_nonneg_left (by omega) (by omega)
    have h4 : b * (-N - 2) = - (b * (N + 2)) := by rw [show -N - 2 = -(N + 2) by omega, Int.mul_neg]
    have h5 : 1 * (N + 2) ≤ b * (N + 2) := Int.mul_le_mul_of_nonneg_right hb (by omega)
    have h6 : b * (N + 2) = b * (N + 1) + b := by rw [show N + 2 = (N + 1) + 1 by omega, Int.mul_add]; omega
    have h7 : 1 * (N + 1) ≤ b * (N + 1) := Int.mul_le_mul_of_nonneg_right hb (by omega)
    omega
  · refine Classical.byContradiction fun hc => ?_
    have : b * (N + 2) ≤ b * (n / b) := Int.mul_le_mul_of_nonneg_left (by omega) (by omega)
    have h5 : 1 * (N + 2) ≤ b * (N + 2) := Int.mul_le_mul_of_nonneg_right hb (by omega)
    omega

set_option maxHeartbeats 400000 in
theorem lowered_any (m : Int) (t : Tru) (w : World) (ht : t.Sane) (h0 : 0 ≤ m) (h1 : m ≤ 200000) :
    Calls Tryd.prog 61 #[trV t, .int .i64 m] w fun e w' => e = .returned (.int .i64 (loweredF m t)) ∧ Below w.heap.size w w' := by
  have g0 := ht.h0; have g1 := ht.h1; have d0 := ht.d0; have d1 := ht.d1
  obtain ⟨p0, p1⟩ := mul_bd h0 h1 (show -3000 ≤ t.he by omega) g1
  obtain ⟨r0, r1⟩ := ediv_bd (n := m * t.he * 10) (b := 79900 + 29 * t.dT) (N := 10000000000) (by omega) (by omega) (by omega)
  go_enter Tryd.func61, Tryd.ntmps61
  go_wp2_with (go_at_call 73; refine (quotient_any (m * t.he * 10) (79900 + 29 * t.dT) _ (by omega) (by omega) (by omega) (by omega)).mono ?_; rintro e w' ⟨rfl, rfl⟩)
  go_ret
  exact ⟨rfl, (Below.refl _ _).alloc (Nat.le_refl _) _⟩

theorem airF_bd {t : Int} (h0 : -300 ≤ t) (h1 : t ≤ 500) : 38 ≤ airF t ∧ airF t ≤ 9251 := by
  have p0 := tab_pos ((t + 300) / 50).toNat (by omega)
  unfold airF tabF
  split
  · exact p0
  · have p1 := tab_pos ((t + 300) / 50 + 1).toNat (by omega)
    have pm := tab_mono ((t + 300) / 50).toNat (by omega)
    rw [show ((t + 300) / 50).toNat + 1 = ((t + 300) / 50 + 1).toNat by omega] at pm
    generalize tabL.getD ((t + 300) / 50).toNat 0 = x at *
    generalize tabL.getD ((t + 300) / 50 + 1).toNat 0 = y at *
    have m0 : 0 ≤ (y - x) * ((t + 300) % 50) := Int.mul_nonneg (by omega) (by omega)
    have m1 : (y - x) * ((t + 300) % 50) ≤ (y - x) * 50 := Int.mul_le_mul_of_nonneg_left (by omega) (by omega)
    omega
end Go.Proofs.YtffgcphmakfikaaDoor
