/- A run worked out: the tables of the chart's layer tell the truth. -/
import Derived.Test.YtaolfdgkflfekaaGreatDoorZyc
set_option linter.unusedVariables false
set_option linter.unusedSimpArgs false
namespace Go.Proofs.YtaolfdgkflfekaaGreatDoor.GX
open Go Go.RowKit

def chFns : List Nat := [174, 12, 27, 25, 29, 22, 30, 31, 32, 33, 34, 35, 44, 45, 36, 37, 46, 55, 51, 56, 48, 57, 58, 59, 60, 61, 62, 63, 64, 65, 66, 70, 67, 68, 69, 71, 72, 73, 75, 76, 77, 82, 83, 84, 85, 86, 87, 88, 89, 90, 91, 92, 93, 97, 98, 94, 95, 96, 99, 100, 104, 109, 110, 111, 112, 113, 114, 115, 116, 117, 118, 119, 120, 121, 122, 124, 125, 126, 128, 127, 136, 137, 138, 139, 147, 148, 149, 150, 161]
def chTypes : List Nat := List.range 215
noncomputable def chTab : Tab where
  ty := tyTab Tryz.prog chTypes
  fn := fnTab Tryz.prog chFns
  nat := (T.set (some natItoa) 11 (T.set (some natJoin) 11 (T.set (some natLowest) 11 (T.set (some natHighest) 11 (T.set (some natDistance) 11 (T.set (some natApart) 11 .e 127) 95) 98) 97) 103) 102)
  dnat := T.set (some dIdle) 11 .e 123
  keyEq := T.set (some 2) 11 .e 70
theorem set_one {α : Type} {v u : α} {i j : Nat} {t : T α} (hi : i < 1000) (h : (T.set (some v) 11 t i).get j = some u) : (j = i ∧ u = v) ∨ t.get j = some u := by
  by_cases hj : j = i
  · subst hj
    rw [T.get_set_same _ 11 _ _ (Nat.lt_of_le_of_lt (Nat.succ_le_succ (Nat.le_of_lt hi)) (by decide))] at h
    cases h; exact .inl ⟨rfl, rfl⟩
  · rw [T.get_set_other _ 11 _ _ _ hj] at h; exact .inr h
theorem chTab_ok {base : Bs} (ht : TabAt Tryz.prog base) : TabOK Tryz.prog chTab base where
  mixed := by kernel_rfl
  ty := fun t i h => by
    simp only [chTab] at h
    exact tyTab_ok chTypes t i h
  fn := fun t i h => by
    simp only [chTab] at h
    exact fnTab_ok chFns t i h
  key := fun t n h => by
    simp only [chTab] at h
    rcases set_one (by decide) h with ⟨rfl, rfl⟩ | h
    · exact keyPair (P := Tryz.prog) (kt := 70) Tryz.underlying70 (by kernel_rfl) (by decide) (by decide) rfl rfl (by kernel_rfl) (by kernel_rfl)
    · cases h
  pair := fun t n h => by
    simp only [chTab] at h
    rcases set_one (by decide) h with ⟨rfl, rfl⟩ | h
    · exact fun _ => ⟨by kernel_rfl, fun a b c d w => equal_pair (P := Tryz.prog) (kt := 70) Tryz.underlying70 (by kernel_rfl) (by decide) (by decide) rfl rfl (by kernel_rfl) (by kernel_rfl) a b c d w⟩
    · cases h
  nat := fun f g h => by
    simp only [chTab] at h
    rcases set_one (by decide) h with ⟨rfl, rfl⟩ | h
    · exact ⟨enter_of Tryz.func102 (by kernel_rfl) (by kernel_rfl), fun θ h w args v hR hb hx => itoa_ok ht hR hx⟩
    rcases set_one (by decide) h with ⟨rfl, rfl⟩ | h
    · exact ⟨enter_of Tryz.func103 (by kernel_rfl) (by kernel_rfl), fun θ h w args v hR hb hx => join_ok hR hb hx⟩
    rcases set_one (by decide) h with ⟨rfl, rfl⟩ | h
    · exact ⟨enter_of Tryz.func97 (by kernel_rfl) (by kernel_rfl), fun θ h w args v hR hb hx => lowest_ok hR hb hx⟩
    rcases set_one (by decide) h with ⟨rfl, rfl⟩ | h
    · exact ⟨enter_of Tryz.func98 (by kernel_rfl) (by kernel_rfl), fun θ h w args v hR hb hx => highest_ok hR hb hx⟩
    rcases set_one (by decide) h with ⟨rfl, rfl⟩ | h
    · exact ⟨enter_of Tryz.func95 (by kernel_rfl) (by kernel_rfl), fun θ h w args v hR hb hx => distance_ok hx⟩
    rcases set_one (by decide) h with ⟨rfl, rfl⟩ | h
    · exact ⟨enter_of Tryz.func127 (by kernel_rfl) (by kernel_rfl), fun θ h w args v hR hb hx => gapart_ok hx⟩
    cases h
  dnat := fun f g h => by
    simp only [chTab] at h
    rcases set_one (by decide) h with ⟨rfl, rfl⟩ | h
    · exact ⟨enter_of Tryz.func123 (by kernel_rfl) (by kernel_rfl), fun θ h w args h' hR hb hx => idle_ok hR hx⟩
    · cases h
end Go.Proofs.YtaolfdgkflfekaaGreatDoor.GX
