/- A run worked out: the tables of the chart's layer tell the truth. -/
import Derived.Test.YtpkmojcppdogkaaGreatDoorZyc
set_option linter.unusedVariables false
set_option linter.unusedSimpArgs false
namespace Go.Proofs.YtpkmojcppdogkaaGreatDoor.GX
open Go Go.RowKit

def chFns : List Nat := [190, 17, 19, 33, 46, 39, 20, 28, 47, 30, 21, 48, 52, 93, 49, 50, 92, 53, 71, 85, 79, 54, 55, 56, 66, 67, 68, 69, 86, 87, 88, 122, 89, 90, 91, 119, 120, 121, 109, 110, 111, 94, 95, 96, 97, 98, 99, 101, 102, 103, 104, 105, 106, 152, 153, 116, 117, 118, 150, 151, 144, 123, 124, 125, 126, 127, 128, 129, 130, 131, 132, 133, 134, 135, 136, 138, 139, 140, 176, 149, 154, 155, 156, 157, 165, 166, 167, 168, 177]
def chTypes : List Nat := List.range 215
noncomputable def chTab : Tab where
  ty := tyTab Tryz.prog chTypes
  fn := fnTab Tryz.prog chFns
  nat := (T.set (some natItoa) 11 (T.set (some natJoin) 11 (T.set (some natLowest) 11 (T.set (some natHighest) 11 (T.set (some natDistance) 11 (T.set (some natApart) 11 .e 149) 117) 153) 152) 143) 142)
  dnat := T.set (some dIdle) 11 .e 137
  keyEq := T.set (some 2) 11 .e 45
theorem set_one {α : Type} {v u : α} {i j : Nat} {t : T α} (hi : i < 1000) (h : (T.set (some v) 11 t i).get j = some u) : (j = i ∧ u = v) ∨ t.get j = some u := by
  by_cases hj : j = i
  · subst hj
    rw [T.get_set_same _ 11 _ _ (Nat.lt_of_le_of_lt (Nat.succ_le_succ (Nat.le_of_lt hi)) (by decide))] at h
    cases h; exact .inl ⟨rfl, rfl⟩
  · rw [T.get_set_other _ 11 _ _ _ hj] at h; exact .inr h
theorem chTab_ok {base : Bs} (ht : TabAt Tryz.prog base) : TabOK Tryz.prog chTab base where
  mixed := by kernel_rfl
  ty := fun t i h => by
    simp only [chTab] at h
    exact tyTab_ok chTypes t i h
  fn := fun t i h => by
    simp only [chTab] at h
    exact fnTab_ok chFns t i h
  key := fun t n h => by
    simp only [chTab] at h
    rcases set_one (by decide) h with ⟨rfl, rfl⟩ | h
    · exact keyPair (P := Tryz.prog) (kt := 45) Tryz.underlying45 (by kernel_rfl) (by decide) (by decide) rfl rfl (by kernel_rfl) (by kernel_rfl)
    · cases h
  pair := fun t n h => by
    simp only [chTab] at h
    rcases set_one (by decide) h with ⟨rfl, rfl⟩ | h
    · exact fun _ => ⟨by kernel_rfl, fun a b c d w => equal_pair (P := Tryz.prog) (kt := 45) Tryz.underlying45 (by kernel_rfl) (by decide) (by decide) rfl rfl (by kernel_rfl) (by kernel_rfl) a b c d w⟩
    · cases h
  nat := fun f g h => by
    simp only [chTab] at h
    rcases set_one (by decide) h with ⟨rfl, rfl⟩ | h
    · exact ⟨enter_of Tryz.func142 (by kernel_rfl) (by kernel_rfl), fun θ h w args v hR hb hx => itoa_ok ht hR hx⟩
    rcases set_one (by decide) h with ⟨rfl, rfl⟩ | h
    · exact ⟨enter_of Tryz.func143 (by kernel_rfl) (by kernel_rfl), fun θ h w args v hR hb hx => join_ok hR hb hx⟩
    rcases set_one (by decide) h with ⟨rfl, rfl⟩ | h
    · exact ⟨enter_of Tryz.func152 (by kernel_rfl) (by kernel_rfl), fun θ h w args v hR hb hx => lowest_ok hR hb hx⟩
    rcases set_one (by decide) h with ⟨rfl, rfl⟩ | h
    · exact ⟨enter_of Tryz.func153 (by kernel_rfl) (by kernel_rfl), fun θ h w args v hR hb hx => highest_ok hR hb hx⟩
    rcases set_one (by decide) h with ⟨rfl, rfl⟩ | h
    · exact ⟨enter_of Tryz.func117 (by kernel_rfl) (by kernel_rfl), fun θ h w args v hR hb hx => distance_ok hx⟩
    rcases set_one (by decide) h with ⟨rfl, rfl⟩ | h
    · exact ⟨enter_of Tryz.func149 (by kernel_rfl) (by kernel_rfl), fun θ h w args v hR hb hx => gapart_ok hx⟩
    cases h
  dnat := fun f g h => by
    simp only [chTab] at h
    rcases set_one (by decide) h with ⟨rfl, rfl⟩ | h
    · exact ⟨enter_of Tryz.func137 (by kernel_rfl) (by kernel_rfl), fun θ h w args h' hR hb hx => idle_ok hR hx⟩
    · cases h
end Go.Proofs.YtpkmojcppdogkaaGreatDoor.GX
