/- How the weather of a reading changes with what is true: pure arithmetic. -/
import Derived.Test.YtipckgojoanokaaDoorKn
set_option linter.unusedVariables false
set_option linter.unusedSimpArgs false
namespace Go.Proofs.YtipckgojoanokaaDoor
open Go.RowKit

theorem ediv_mono {a b c : Int} (hc : 0 < c) (h : a ≤ b) : a / c ≤ b / c := Int.ediv_le_ediv hc h
theorem ediv_add {a d c : Int} (hc : 0 < c) : (a + d * c) / c = a / c + d := Int.add_mul_ediv_right a d (by omega)
theorem cool_le {x x' a a' : Int} (hx : 0 ≤ x) (hxx : x ≤ x') (ha : a' ≤ a) (h1 : a' ≤ 500) : x - x * a * 163 / 10000000 ≤ x' - x' * a' * 163 / 10000000 := by
  have s1 : x * a' ≤ x * a := Int.mul_le_mul_of_nonneg_left ha hx
  have s2 : x * a' * 163 / 10000000 ≤ x * a * 163 / 10000000 := ediv_mono (by omega) (by omega)
  have s3 : (x' - x) * a' ≤ (x' - x) * 500 := Int.mul_le_mul_of_nonneg_left h1 (by omega)
  have s4 : x' * a' = x * a' + (x' - x) * a' := by rw [← Int.add_mul]; congr 1; omega
  have s5 : x' * a' * 163 / 10000000 ≤ (x * a' * 163 + (x' - x) * 10000000) / 10000000 := ediv_mono (by omega) (by rw [s4]; omega)
  rw [ediv_add (by omega)] at s5
  omega
theorem weigh_le {y y' g g' : Int} (hy : 0 ≤ y) (hyy : y ≤ y') (hg : g ≤ g') (h1 : -3000 ≤ g') : y + y * g / 1000000 ≤ y' + y' * g' / 1000000 := by
  have s1 : y * g ≤ y * g' := Int.mul_le_mul_of_nonneg_left hg hy
  have s2 : y * g / 1000000 ≤ y * g' / 1000000 := ediv_mono (by omega) s1
  have s3 : (y' - y) * (-3000) ≤ (y' - y) * g' := Int.mul_le_mul_of_nonneg_left h1 (by omega)
  have s4 : y' * g' = y * g' + (y' - y) * g' := by rw [← Int.add_mul]; congr 1; omega
  have s5 : (y * g' + (y - y') * 1000000) / 1000000 ≤ y' * g' / 1000000 := ediv_mono (by omega) (by rw [s4]; omega)
  rw [ediv_add (by omega)] at s5
  omega
theorem ediv_anti {n c c' : Int} (hn : 0 ≤ n) (hc : 0 < c) (h : c ≤ c') : n / c' ≤ n / c := by
  have hq : 0 ≤ n / c' := Int.ediv_nonneg hn (by omega)
  have h1 : n / c' * c' ≤ n := Int.ediv_mul_le n (by omega)
  have h2 : n / c' * c ≤ n / c' * c' := Int.mul_le_mul_of_nonneg_left h hq
  exact Int.le_ediv_of_mul_le hc (by omega)
theorem lower_le {z z' h h' d d' : Int} (hz : 0 ≤ z) (hzz : z ≤ z') (h0 : 0 ≤ h) (hh : h ≤ h') (hd : d' ≤ d) (hd0 : -300 ≤ d') : z + z * h * 10 / (79900 + 29 * d) ≤ z' + z' * h' * 10 / (79900 + 29 * d') := by
  have s1 : z * h ≤ z' * h' := Int.mul_le_mul hzz hh h0 (by omega)
  have s0 : 0 ≤ z * h := Int.mul_nonneg hz h0
  have s2 : z * h * 10 / (79900 + 29 * d) ≤ z * h * 10 / (79900 + 29 * d') := ediv_anti (by omega) (by omega) (by omega)
  have s3 : z * h * 10 / (79900 + 29 * d') ≤ z' * h' * 10 / (79900 + 29 * d') := ediv_mono (by omega) (by omega)
  omega
theorem air_step : ∀ i : Nat, i < 800 → airF ((i : Int) - 300) ≤ airF ((i : Int) + 1 - 300) := by decide +kernel
theorem air_mono {a b : Int} (ha : -300 ≤ a) (hab : a ≤ b) (hb : b ≤ 500) : airF a ≤ airF b := by
  obtain ⟨n, rfl⟩ : ∃ n : Nat, b = a + n := ⟨(b - a).toNat, by omega⟩
  induction n with
  | zero => simp
  | succ n ih =>
    have h1 := ih (by omega) (by omega)
    have h2 := air_step (a + n + 300).toNat (by omega)
    rw [show (((a + n + 300).toNat : Nat) : Int) = a + n + 300 by omega, show a + (n : Int) + 300 - 300 = a + n by omega, show a + (n : Int) + 300 + 1 - 300 = a + ((n + 1 : Nat) : Int) by omega] at h2
    omega

/-- The vapour falls as the pressure and the dry bulb rise, and rises with the wet bulb. -/
def vapI (z d w : Int) : Int := airF (min w d) - z * (d - min w d) * 8 / 100000
def humI (z d w : Int) : Int := 100 * max (vapI z d w) 0 / airF d
theorem vap_air {z d w : Int} (hz : 0 ≤ z) (hd0 : -300 ≤ d) (hd1 : d ≤ 500) (hw : -300 ≤ w) : vapI z d w ≤ airF d := by
  have h1 : airF (min w d) ≤ airF d := air_mono (by omega) (by omega) hd1
  have h2 : 0 ≤ z * (d - min w d) := Int.mul_nonneg hz (by omega)
  have h3 : 0 ≤ z * (d - min w d) * 8 / 100000 := Int.ediv_nonneg (by omega) (by omega)
  unfold vapI
  omega
theorem hum_bd {z d w : Int} (hz : 0 ≤ z) (hd0 : -300 ≤ d) (hd1 : d ≤ 500) (hw : -300 ≤ w) : 0 ≤ humI z d w ∧ humI z d w ≤ 100 := by
  have h1 := vap_air hz hd0 hd1 hw
  obtain ⟨a0, a1⟩ := airF_bd hd0 hd1
  unfold humI
  constructor
  · exact Int.ediv_nonneg (by omega) (by omega)
  · have : 100 * max (vapI z d w) 0 / airF d ≤ (100 * airF d) / airF d := ediv_mono (by omega) (by omega)
    rwa [Int.mul_ediv_cancel _ (by omega)] at this
theorem hum_le {z z' d d' w w' : Int} (hz : 0 ≤ z') (hzz : z' ≤ z) (hd0 : -300 ≤ d') (hdd : d' ≤ d) (hd1 : d ≤ 500) (hw0 : -300 ≤ w) (hww : w ≤ w') : humI z d w ≤ humI z' d' w' := by
  have hb := hum_bd (z := z) (d := d) (w := w) (by omega) (by omega) hd1 hw0
  obtain ⟨a0, a1⟩ := airF_bd hd0 (show d' ≤ 500 by omega)
  rcases Int.lt_or_le w' d' with hlt | hle
  · have m1 : min w d = w := by omega
    have m2 : min w' d' = w' := by omega
    have h1 : airF w ≤ airF w' := air_mono hw0 hww (by omega)
    have h2 : z' * (d' - w') ≤ z * (d - w) := Int.mul_le_mul hzz (by omega) (by omega) (by omega)
    have h3 : z' * (d' - w') * 8 / 100000 ≤ z * (d - w) * 8 / 100000 := ediv_mono (by omega) (by omega)
    have h4 : vapI z d w ≤ vapI z' d' w' := by unfold vapI; rw [m1, m2]; omega
    have h5 : airF d' ≤ airF d := air_mono hd0 hdd hd1
    have h6 : 100 * max (vapI z d w) 0 / airF d ≤ 100 * max (vapI z d w) 0 / airF d' := ediv_anti (by omega) (by omega) h5
    have h7 : 100 * max (vapI z d w) 0 / airF d' ≤ 100 * max (vapI z' d' w') 0 / airF d' := ediv_mono (by omega) (by omega)
    unfold humI
    omega
  · have m2 : min w' d' = d' := by omega
    have h1 : vapI z' d' w' = airF d' := by unfold vapI; rw [m2]; simp
    have h2 : humI z' d' w' = 100 := by
      unfold humI
      rw [h1, show max (airF d') 0 = airF d' by omega, Int.mul_ediv_cancel _ (by omega)]
    omega
theorem humidF_eq (h : Int) (t : Tru) : humidF h t = humI h t.dT t.wT := rfl

/-- The pressure here is no more where the mercury is corrected by more. -/
theorem here_le {m : Int} {t t' : Tru} (ht : t.Sane) (ht' : t'.Sane) (h0 : 40000 ≤ m) (h1 : m ≤ 90000) (hi : t'.ix ≤ t.ix) (he : t'.er ≤ t.er) (hg : t.gr ≤ t'.gr) (ha : t'.aT ≤ t.aT) : hereF m t ≤ hereF m t' := by
  obtain ⟨⟨x0, _⟩, ⟨y0, _⟩, _⟩ := here_bd ht h0 h1
  have hx : exactF m t ≤ exactF m t' := by unfold exactF; omega
  have hy : cooledF (exactF m t) t ≤ cooledF (exactF m t') t' := cool_le (by omega) hx ha ht'.a1
  exact weigh_le (by omega) hy hg ht'.g0
theorem sea_ge {z : Int} {t : Tru} (ht : t.Sane) (hz : 0 ≤ z) : z ≤ loweredF z t := by
  have h1 := ht.h0; have h2 := ht.d0
  have h3 : 0 ≤ z * t.he := Int.mul_nonneg hz h1
  have h4 : 0 ≤ z * t.he * 10 / (79900 + 29 * t.dT) := Int.ediv_nonneg (by omega) (by omega)
  unfold loweredF
  omega
theorem sea_le {z z' : Int} {t t' : Tru} (ht : t.Sane) (ht' : t'.Sane) (hz : 0 ≤ z) (hzz : z ≤ z') (hh : t.he ≤ t'.he) (hd : t'.dT ≤ t.dT) : loweredF z t ≤ loweredF z' t' := lower_le hz hzz ht.h0 hh hd ht'.d0
theorem humid_le {z z' : Int} {t t' : Tru} (ht : t.Sane) (ht' : t'.Sane) (hz : 0 ≤ z') (hzz : z' ≤ z) (hd : t'.dT ≤ t.dT) (hw : t.wT ≤ t'.wT) : humidF z t ≤ humidF z' t' := by
  rw [humidF_eq, humidF_eq]
  exact hum_le hz hzz ht'.d0 hd ht.d1 ht.w0 hw
theorem humid_bd {z : Int} {t : Tru} (ht : t.Sane) (hz : 0 ≤ z) : 0 ≤ humidF z t ∧ humidF z t ≤ 100 := by
  rw [humidF_eq]; exact hum_bd hz ht.d0 ht.d1 ht.w0
end Go.Proofs.YtipckgojoanokaaDoor
