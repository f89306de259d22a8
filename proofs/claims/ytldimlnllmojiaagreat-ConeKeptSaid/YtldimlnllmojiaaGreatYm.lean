/- Part of a claim on cone. -/
import Derived.Test.YtldimlnllmojiaaGreatXe
import Derived.Test.YtldimlnllmojiaaGreatXf
set_option linter.unusedVariables false
set_option linter.unusedSimpArgs false
namespace Go.Proofs.YtldimlnllmojiaaGreat
section
variable {m : Wn} {rs : List Rep} {ls : List Lnk} {ps : List Prt} {x : Prt}
theorem hi_lo (hs : Sane m rs ls ps) {t : Int} (h : seenB (siL m ls rs (hiD rs)) t = true) : seenB (siL m ls rs (loD rs)) t = true :=
  seen_mono (fun i hi => by have := hs.rep _ (repAt_mem hi); show (repAt rs i).dlo ≤ (repAt rs i).dhi; omega) h
theorem wordI_1 {a s : Bool} : wordI a s = 1 ↔ a = false ∧ s = false := by cases a <;> cases s <;> simp [wordI]
theorem wordI_3 {a s : Bool} : wordI a s = 3 ↔ a = true := by cases a <;> cases s <;> simp [wordI]
theorem upI_3 {t : Int} : upI m rs ls x t = 3 ↔ ∀ n, x.olo ≤ n → n ≤ x.ohi → seenB (siL m ls rs (hiD rs)) (t - n) = true := by
  unfold upI
  rw [wordI_3, List.all_eq_true]
  exact ⟨fun h n h1 h2 => h n (minsL_mem.2 ⟨h1, h2⟩), fun h n hn => h n (minsL_mem.1 hn).1 (minsL_mem.1 hn).2⟩
theorem upI_1 (hs : Sane m rs ls ps) (ho : x.olo ≤ x.ohi) {t : Int} : upI m rs ls x t ≠ 1 ↔ ∃ n, x.olo ≤ n ∧ n ≤ x.ohi ∧ seenB (siL m ls rs (loD rs)) (t - n) = true := by
  unfold upI
  rw [ne_eq, wordI_1]
  constructor
  · intro h
    by_cases hsm : (minsL x.olo x.ohi).any (fun n => seenB (siL m ls rs (loD rs)) (t - n)) = true
    · obtain ⟨n, hn, hb⟩ := List.any_eq_true.1 hsm
      exact ⟨n, (minsL_mem.1 hn).1, (minsL_mem.1 hn).2, hb⟩
    · have hal : (minsL x.olo x.ohi).all (fun n => seenB (siL m ls rs (hiD rs)) (t - n)) = true := by
        cases hq : (minsL x.olo x.ohi).all (fun n => seenB (siL m ls rs (hiD rs)) (t - n)) with
        | true => rfl
        | false => exact absurd ⟨hq, by simpa using hsm⟩ h
      exact ⟨x.olo, Int.le_refl _, ho, hi_lo hs (List.all_eq_true.1 hal _ (minsL_mem.2 ⟨Int.le_refl _, ho⟩))⟩
  · rintro ⟨n, h1, h2, h3⟩ ⟨_, h4⟩
    rw [List.any_eq_false] at h4
    exact h4 n (minsL_mem.2 ⟨h1, h2⟩) h3
theorem surB_iff {ss : List (Int × Int)} {llo lhi ahi : Int} : surB m x ss llo lhi ahi = true ↔ (∀ t, llo ≤ t → t ≤ lhi → ahi ≤ farT m x t) ∧ ∀ u, llo - x.ohi ≤ u → u ≤ lhi - x.olo → seenB ss u = true := by
  unfold surB allB
  rw [Bool.and_eq_true, Bool.not_eq_true', List.any_eq_false, List.all_eq_true]
  refine and_congr ⟨fun h t h1 h2 => ?_, fun h t ht => ?_⟩ ⟨fun h u h1 h2 => h u (minsL_mem.2 ⟨h1, h2⟩), fun h u hu => h u (minsL_mem.1 hu).1 (minsL_mem.1 hu).2⟩
  · have := h t (minsL_mem.2 ⟨h1, h2⟩)
    simpa using this
  · have := h t (minsL_mem.1 ht).1 (minsL_mem.1 ht).2
    simpa using this
theorem perB_iff {ss : List (Int × Int)} {llo lhi alo : Int} : perB m x ss llo lhi alo = true ↔ ∃ u v, llo - x.ohi ≤ u ∧ u ≤ lhi - x.olo ∧ seenB ss u = true ∧ llo ≤ v ∧ u + x.olo ≤ v ∧ v ≤ lhi ∧ v ≤ u + x.ohi ∧ alo ≤ farT m x v := by
  unfold perB
  rw [List.any_eq_true]
  constructor
  · rintro ⟨u, hu, h⟩
    rw [Bool.and_eq_true, List.any_eq_true] at h
    obtain ⟨h1, v, hv, h2⟩ := h
    have hu' := minsL_mem.1 hu
    have hv' := minsL_mem.1 hv
    exact ⟨u, v, hu'.1, hu'.2, h1, by omega, by omega, by omega, by omega, by simpa using h2⟩
  · rintro ⟨u, v, h1, h2, h3, h4, h5, h6, h7, h8⟩
    refine ⟨u, minsL_mem.2 ⟨h1, h2⟩, ?_⟩
    rw [Bool.and_eq_true, List.any_eq_true]
    exact ⟨h3, v, minsL_mem.2 ⟨by omega, by omega⟩, by simpa using h8⟩
theorem wordP_eq {llo lhi alo ahi : Int} {A S : Bool} (h1 : surB m x (siL m ls rs (hiD rs)) llo lhi ahi = true ↔ A = true) (h2 : perB m x (siL m ls rs (loD rs)) llo lhi alo = true ↔ S = true) : wordP m rs ls x llo lhi alo ahi = wordI A S := by
  unfold wordP wordI
  rw [Bool.eq_iff_iff.2 h1, Bool.eq_iff_iff.2 h2]
theorem word_war (hs : Sane m rs ls ps) (hx : x ∈ ps) {llo lhi alo ahi : Int} (hb : boatB llo lhi alo ahi = true) : wordP m rs ls x llo lhi alo ahi = warI m rs ls x llo lhi alo ahi := by
  have hb := boat_bounds hb
  have hp := hs.prt x hx
  unfold warI
  refine wordP_eq ?_ ?_
  · rw [surB_iff, List.all_eq_true]
    constructor
    · rintro ⟨h1, h2⟩ t ht
      have ht := minsL_mem.1 ht
      have h3 := h1 t ht.1 ht.2
      rw [farT_is (by omega)] at h3
      rw [Bool.and_eq_true, decide_eq_true_eq, decide_eq_true_eq]
      exact ⟨upI_3.2 fun n h4 h5 => h2 _ (by omega) (by omega), h3⟩
    · intro h
      have h' : ∀ t, llo ≤ t → t ≤ lhi → (∀ n, x.olo ≤ n → n ≤ x.ohi → seenB (siL m ls rs (hiD rs)) (t - n) = true) ∧ ahi ≤ farB m x t := fun t h1 h2 => by
        have := h t (minsL_mem.2 ⟨h1, h2⟩)
        rw [Bool.and_eq_true, decide_eq_true_eq, decide_eq_true_eq] at this
        exact ⟨upI_3.1 this.1, this.2⟩
      refine ⟨fun t h1 h2 => by rw [farT_is (by omega)]; exact (h' t h1 h2).2, fun u h1 h2 => ?_⟩
      have h3 := (h' (max llo (u + x.olo)) (by omega) (by omega)).1 (max llo (u + x.olo) - u) (by omega) (by omega)
      rwa [show max llo (u + x.olo) - (max llo (u + x.olo) - u) = u by omega] at h3
  · rw [perB_iff, List.any_eq_true]
    constructor
    · rintro ⟨u, v, h1, h2, h3, h4, h5, h6, h7, h8⟩
      refine ⟨v, minsL_mem.2 ⟨h4, h6⟩, ?_⟩
      rw [farT_is (by omega)] at h8
      rw [Bool.and_eq_true, Bool.not_eq_true', decide_eq_false_iff_not, decide_eq_true_eq]
      exact ⟨(upI_1 hs hp.2.1).2 ⟨v - u, by omega, by omega, by rwa [show v - (v - u) = u by omega]⟩, h8⟩
    · rintro ⟨t, ht, h⟩
      have ht := minsL_mem.1 ht
      rw [Bool.and_eq_true, Bool.not_eq_true', decide_eq_false_iff_not, decide_eq_true_eq] at h
      obtain ⟨n, h1, h2, h3⟩ := (upI_1 hs hp.2.1).1 h.1
      exact ⟨t - n, t, by omega, by omega, h3, ht.1, by omega, ht.2, by omega, by rw [farT_is (by omega)]; exact h.2⟩
theorem far_pos (hs : Sane m rs ls ps) (hx : x ∈ ps) (t : Int) : 0 ≤ farT m x t := by
  have hp := hs.prt x hx
  unfold farT
  split <;> omega
theorem sur_up (hs : Sane m rs ls ps) (hx : x ∈ ps) {t : Int} : surB m x (siL m ls rs (hiD rs)) t t 0 = true ↔ ∀ n, x.olo ≤ n → n ≤ x.ohi → seenB (siL m ls rs (hiD rs)) (t - n) = true := by
  rw [surB_iff]
  constructor
  · rintro ⟨_, h⟩ n h1 h2
    exact h _ (by omega) (by omega)
  · intro h
    refine ⟨fun t _ _ => far_pos hs hx t, fun u h1 h2 => ?_⟩
    have := h (t - u) (by omega) (by omega)
    rwa [show t - (t - u) = u by omega] at this
theorem per_up (hs : Sane m rs ls ps) (hx : x ∈ ps) {t : Int} : perB m x (siL m ls rs (loD rs)) t t 0 = true ↔ ∃ n, x.olo ≤ n ∧ n ≤ x.ohi ∧ seenB (siL m ls rs (loD rs)) (t - n) = true := by
  rw [perB_iff]
  constructor
  · rintro ⟨u, v, h1, h2, h3, h4, h5, h6, h7, h8⟩
    exact ⟨t - u, by omega, by omega, by rwa [show t - (t - u) = u by omega]⟩
  · rintro ⟨n, h1, h2, h3⟩
    exact ⟨t - n, t, by omega, by omega, h3, by omega, by omega, by omega, by omega, far_pos hs hx t⟩
theorem word_up (hs : Sane m rs ls ps) (hx : x ∈ ps) {t : Int} : wordP m rs ls x t t 0 0 = upI m rs ls x t := by
  unfold upI
  refine wordP_eq ?_ ?_
  · rw [sur_up hs hx, List.all_eq_true]
    exact ⟨fun h n hn => h n (minsL_mem.1 hn).1 (minsL_mem.1 hn).2, fun h n h1 h2 => h n (minsL_mem.2 ⟨h1, h2⟩)⟩
  · rw [per_up hs hx, List.any_eq_true]
    exact ⟨fun ⟨n, h1, h2, h3⟩ => ⟨n, minsL_mem.2 ⟨h1, h2⟩, h3⟩, fun ⟨n, hn, h⟩ => ⟨n, (minsL_mem.1 hn).1, (minsL_mem.1 hn).2, h⟩⟩
theorem wordP_3 {llo lhi alo ahi : Int} : wordP m rs ls x llo lhi alo ahi = 3 ↔ surB m x (siL m ls rs (hiD rs)) llo lhi ahi = true := by
  unfold wordP
  cases surB m x (siL m ls rs (hiD rs)) llo lhi ahi <;> cases perB m x (siL m ls rs (loD rs)) llo lhi alo <;> simp
theorem wordP_1 {llo lhi alo ahi : Int} (h : perB m x (siL m ls rs (loD rs)) llo lhi alo = true) : wordP m rs ls x llo lhi alo ahi ≠ 1 := by
  unfold wordP
  rw [h]
  cases surB m x (siL m ls rs (hiD rs)) llo lhi ahi <;> simp
theorem wordP_is (llo lhi alo ahi : Int) : wordP m rs ls x llo lhi alo ahi = 1 ∨ wordP m rs ls x llo lhi alo ahi = 2 ∨ wordP m rs ls x llo lhi alo ahi = 3 := by
  unfold wordP
  cases surB m x (siL m ls rs (hiD rs)) llo lhi ahi <;> cases perB m x (siL m ls rs (loD rs)) llo lhi alo <;> simp
theorem warned_true (hs : Sane m rs ls ps) (hx : x ∈ ps) {zs : List Int} (hd : delB rs zs = true) {llo lhi alo ahi order leave away : Int} (ho : x.olo ≤ order ∧ order ≤ x.ohi) (hl0 : 0 ≤ llo) (hl : llo ≤ leave ∧ leave ≤ lhi) (ha : alo ≤ away ∧ away ≤ ahi) {is : Bool} (his : (seenB (siL m ls rs (ev zs)) (leave - order) && decide (away ≤ farB m x leave)) = is) {u v : Int} (hu : wordP m rs ls x llo lhi alo ahi = u) (hv : wordP m rs ls x leave leave 0 0 = v) :
    (is = true → u ≠ 1 ∧ v ≠ 1) ∧ (u = 3 → is = true ∧ v = 3) := by
  have hdl := (del_iff.1 hd).2
  subst hu hv his
  constructor
  · intro h
    rw [Bool.and_eq_true, decide_eq_true_eq] at h
    have h1 : seenB (siL m ls rs (loD rs)) (leave - order) = true := seen_mono (fun i hi => (hdl i hi).1) h.1
    refine ⟨wordP_1 (perB_iff.2 ⟨leave - order, leave, by omega, by omega, h1, by omega, by omega, by omega, by omega, by rw [farT_is (by omega)]; omega⟩), wordP_1 ((per_up hs hx).2 ⟨order, ho.1, ho.2, h1⟩)⟩
  · intro h
    obtain ⟨h1, h2⟩ := surB_iff.1 (wordP_3.1 h)
    have h3 := h1 leave hl.1 hl.2
    rw [farT_is (by omega)] at h3
    refine ⟨?_, wordP_3.2 ((sur_up hs hx).2 fun n h4 h5 => h2 _ (by omega) (by omega))⟩
    rw [Bool.and_eq_true, decide_eq_true_eq]
    exact ⟨seen_mono (fun i hi => (hdl i hi).2) (h2 _ (by omega) (by omega)), by omega⟩
end
end Go.Proofs.YtldimlnllmojiaaGreat
