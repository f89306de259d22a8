/- A run worked out: the tables of the cone's layer tell the truth. -/
import Derived.Test.YtbepafkenandfaaGreatZva
set_option linter.unusedVariables false
set_option linter.unusedSimpArgs false
namespace Go.Proofs.YtbepafkenandfaaGreat.GX
open Go Go.RowKit

def coFns : List Nat := [18, 19, 20, 22, 24, 27, 29, 36, 53, 33, 40, 54, 44, 48, 55, 56, 57, 58, 59, 64, 65, 66, 67, 70, 71, 72, 73, 74, 68, 75, 76, 79, 80, 82, 83, 84, 85, 86, 87, 88, 89, 90, 92, 93, 94, 95, 96, 97, 98, 99, 100, 101, 102, 104, 105, 106, 107, 78, 108, 109, 110, 111, 112, 113, 114, 115, 116, 118, 120, 121, 122, 123, 124, 125, 103, 126, 127, 129, 130, 131, 132, 119, 133, 134, 135, 136, 137, 138, 139, 140, 141, 142, 143, 144, 145, 146, 147, 148]
def coTypes : List Nat := List.range 184
noncomputable def coTab : Tab where
  ty := tyTab Tryz.prog coTypes
  fn := fnTab Tryz.prog coFns
  nat := T.set (some natThr) 11 .e 117
  dnat := .e
  keyEq := T.set (some 2) 11 .e 86
theorem set_one {α : Type} {v u : α} {i j : Nat} {t : T α} (hi : i < 1000) (h : (T.set (some v) 11 t i).get j = some u) : (j = i ∧ u = v) ∨ t.get j = some u := by
  by_cases hj : j = i
  · subst hj
    rw [T.get_set_same _ 11 _ _ (Nat.lt_of_le_of_lt (Nat.succ_le_succ (Nat.le_of_lt hi)) (by decide))] at h
    cases h; exact .inl ⟨rfl, rfl⟩
  · rw [T.get_set_other _ 11 _ _ _ hj] at h; exact .inr h
theorem coTab_ok {base : Bs} : TabOK Tryz.prog coTab base where
  mixed := by kernel_rfl
  ty := fun t i h => by
    simp only [coTab] at h
    exact tyTab_ok coTypes t i h
  fn := fun t i h => by
    simp only [coTab] at h
    exact fnTab_ok coFns t i h
  key := fun t n h => by
    simp only [coTab] at h
    rcases set_one (by decide) h with ⟨rfl, rfl⟩ | h
    · exact keyPair (P := Tryz.prog) (kt := 86) Tryz.underlying86 (by kernel_rfl) (by decide) (by decide) rfl rfl (by kernel_rfl) (by kernel_rfl)
    · cases h
  pair := fun t n h => by
    simp only [coTab] at h
    rcases set_one (by decide) h with ⟨rfl, rfl⟩ | h
    · exact fun _ => ⟨by kernel_rfl, fun a b c d w => equal_pair (P := Tryz.prog) (kt := 86) Tryz.underlying86 (by kernel_rfl) (by decide) (by decide) rfl rfl (by kernel_rfl) (by kernel_rfl) a b c d w⟩
    · cases h
  nat := fun f g h => by
    simp only [coTab] at h
    rcases set_one (by decide) h with ⟨rfl, rfl⟩ | h
    · exact ⟨enter_of Tryz.func117 (by kernel_rfl) (by kernel_rfl), fun θ h w args v hR hb hx => thr_ok hR hb hx⟩
    cases h
  dnat := fun f g h => by
    simp only [coTab] at h
    cases h
end Go.Proofs.YtbepafkenandfaaGreat.GX
