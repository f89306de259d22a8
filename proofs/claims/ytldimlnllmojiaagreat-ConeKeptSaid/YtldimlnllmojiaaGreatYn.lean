/- Part of a claim on cone. -/
import Derived.Test.YtldimlnllmojiaaGreatYm
set_option linter.unusedVariables false
set_option linter.unusedSimpArgs false
namespace Go.Proofs.YtldimlnllmojiaaGreat
section
variable {m : Wn} {rs : List Rep} {ls : List Lnk} {ps : List Prt} {x : Prt}
theorem boat_same {n : Int} : boatB n n 0 0 = betw n 0 20000 := by
  unfold boatB spanB betw
  by_cases h1 : 0 ≤ n <;> by_cases h2 : n ≤ 20000 <;> simp [h1, h2]
theorem kept_may (hs : Sane m rs ls ps) (hx : x ∈ ps) {t : Int} (h : wordP m rs ls x t t 0 0 = 2) : (minsL x.olo x.ohi).any (fun n => seenB (siL m ls rs (loD rs)) (t - n)) = true ∧ (minsL x.olo x.ohi).any (fun n => !seenB (siL m ls rs (hiD rs)) (t - n)) = true := by
  have h1 : surB m x (siL m ls rs (hiD rs)) t t 0 = false := by
    cases hq : surB m x (siL m ls rs (hiD rs)) t t 0 with
    | false => rfl
    | true => rw [wordP_3.2 hq] at h; omega
  have h2 : perB m x (siL m ls rs (loD rs)) t t 0 = true := by
    cases hq : perB m x (siL m ls rs (loD rs)) t t 0 with
    | true => rfl
    | false => unfold wordP at h; rw [h1, hq] at h; simp at h
  constructor
  · obtain ⟨n, a, b, c⟩ := (per_up hs hx).1 h2
    exact List.any_eq_true.2 ⟨n, minsL_mem.2 ⟨a, b⟩, c⟩
  · cases hq : (minsL x.olo x.ohi).any (fun n => !seenB (siL m ls rs (hiD rs)) (t - n)) with
    | true => rfl
    | false =>
      rw [List.any_eq_false] at hq
      have : surB m x (siL m ls rs (hiD rs)) t t 0 = true := (sur_up hs hx).2 fun n a b => by
        have := hq n (minsL_mem.2 ⟨a, b⟩)
        simpa using this
      rw [h1] at this
      cases this
theorem kept_true (hs : Sane m rs ls ps) (hx : x ∈ ps) {zs : List Int} (hd : delB rs zs = true) {order minute : Int} (ho : x.olo ≤ order ∧ order ≤ x.ohi) (hm : 0 ≤ minute) {iv : Bool} (his : seenB (siL m ls rs (ev zs)) (minute - order) = iv) {u : Int} (hu : wordP m rs ls x minute minute 0 0 = u) :
    (iv = true → u ≠ 1) ∧ (u = 3 → iv = true) ∧ (siL m ls rs (ev zs) = [] → iv = false) ∧ (siL m ls rs (ev zs) ≠ [] → (iv = true → soonF (siL m ls rs (ev zs)) ≤ minute - order) ∧ (iv = false → minute - order ≠ soonF (siL m ls rs (ev zs)))) := by
  have hf : (seenB (siL m ls rs (ev zs)) (minute - order) && decide ((0 : Int) ≤ farB m x minute)) = iv := by
    have h1 := far_pos hs hx minute
    rw [farT_is hm] at h1
    rw [show decide ((0 : Int) ≤ farB m x minute) = true by simpa using h1, Bool.and_true]
    exact his
  have h0 := warned_true hs hx hd ho hm ⟨Int.le_refl minute, Int.le_refl minute⟩ ⟨Int.le_refl 0, Int.le_refl 0⟩ hf hu hu
  refine ⟨fun h => (h0.1 h).1, fun h => (h0.2 h).1, fun h => ?_, fun h => ⟨fun h1 => ?_, fun h1 h2 => ?_⟩⟩
  · rw [← his, h]; rfl
  · subst h1
    obtain ⟨y, hy, a, b⟩ := seenB_iff.1 his
    have := (soon_least h).2 y hy
    omega
  · subst h1
    obtain ⟨⟨y, hy, e⟩, _⟩ := soon_least h
    obtain ⟨p, _, _, hle⟩ := mem_siL.1 hy
    have : seenB (siL m ls rs (ev zs)) (minute - order) = true := seenB_iff.2 ⟨y, hy, by omega, by omega⟩
    rw [his] at this
    cases this
theorem ends_del (hs : Sane m rs ls ps) (g : Bool) : delB rs (delsL (endD rs g) rs.length) = true := by
  rw [del_iff]
  refine ⟨delsL_len _ _, fun i hi => ?_⟩
  have h := hs.rep _ (repAt_mem hi)
  rw [ev_dels hi]
  unfold endD hiD loD
  cases g <;> simp <;> omega
end
end Go.Proofs.YtldimlnllmojiaaGreat
