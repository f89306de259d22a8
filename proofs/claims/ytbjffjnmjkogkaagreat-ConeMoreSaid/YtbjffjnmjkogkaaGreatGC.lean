import Derived.Test.YtbjffjnmjkogkaaGreatHa
set_option linter.unusedVariables false
set_option linter.unusedSimpArgs false
namespace Go.Proofs.YtbjffjnmjkogkaaGreat.GY
section PartOfKb
open Go Go.RowKit Go.Proofs
def soonB (a e b f : Int) : Bool := decide ((e = 0 ∧ (f = 5 ∨ (f = 0 ∧ a ≤ b))) ∨ (e = 5 ∧ f = 5))
set_option maxHeartbeats 1000000
noncomputable def FSoo : GSpec := fun gs => match gs with
  | [.lit (.int .i64 a), .lit (.int .i64 e), .lit (.int .i64 b), .lit (.int .i64 f)] => some (.sb (soonB a e b f), [])
  | _ => none
noncomputable def tbSoo : Tab := mkTab tyAll Tryz.prog [] [] []
theorem tbSoo_ok : ∀ base, TabOK Tryz.prog tbSoo base :=
  mkTab_ok mixedP tyAll_ok (fun p hp => by cases hp) (fun p hp => by cases hp)
set_option maxRecDepth 100000 in
theorem spSoo : FnSpec Tryz.prog 52 FSoo := by
  refine spec_body tbSoo_ok Tryz.func52 (by kernel_rfl) (by kernel_rfl) fun gs g ps hF hps => ?_
  unfold FSoo at hF
  split at hF <;> try (cases hF; done)
  rename_i a e b f
  cases hF
  refine ⟨_, _, rfl, ⟨Nat.le_of_ble_eq_true (by kernel_rfl), Nat.le_of_ble_eq_true (by kernel_rfl)⟩, fun base E hE => ?_⟩
  cases ht0 : (decide (e = 0))
  · have hp0 := ht0
    try simp only [decide_eq_true_eq, decide_eq_false_iff_not, Bool.not_eq_true', Bool.not_eq_false', Bool.not_eq_eq_eq_not, Bool.not_true, Bool.not_false] at hp0
    first | (exfalso; omega) | skip
    all_goals
      cases ht1 : (decide (e = 5))
      · have hp1 := ht1
        try simp only [decide_eq_true_eq, decide_eq_false_iff_not, Bool.not_eq_true', Bool.not_eq_false', Bool.not_eq_eq_eq_not, Bool.not_true, Bool.not_false] at hp1
        first | (exfalso; omega) | skip
        all_goals
          refine Tri.run tbSoo_ok [false, false] (of_skel (q := (EqB (decide (e = 5)) false ∧ EqB (decide (e = 0)) false ∧ True) ∧ (EqB false (soonB a e b f) ∧ True) ∧ True) (by kernel_rfl) ?_)
          ((repeat' apply And.intro) <;> (try simp only [soonB]) <;> first | exact trivial | exact ⟨rfl⟩ | (refine ⟨?_⟩; assumption) | (refine inR64 ?_ ?_ <;> omega) | (refine ⟨?_⟩; omega) | (refine ⟨?_⟩; rw [Bool.eq_iff_iff]; simp only [decide_eq_true_eq, decide_eq_false_iff_not, Bool.false_eq_true, Bool.true_eq_false, Bool.not_eq_true', Bool.and_eq_true, Bool.or_eq_true, Bool.not_eq_false', false_iff, iff_false, true_iff, iff_true]; omega) | (refine ⟨?_⟩; simp_all; done) | (refine ⟨?_⟩; simp; omega))
      · have hp1 := ht1
        try simp only [decide_eq_true_eq, decide_eq_false_iff_not, Bool.not_eq_true', Bool.not_eq_false', Bool.not_eq_eq_eq_not, Bool.not_true, Bool.not_false] at hp1
        first | (exfalso; omega) | skip
        all_goals
          refine Tri.run tbSoo_ok [false, true] (of_skel (q := (EqB (decide (e = 5)) true ∧ EqB (decide (e = 0)) false ∧ True) ∧ (EqB (decide (f = 5)) (soonB a e b f) ∧ True) ∧ True) (by kernel_rfl) ?_)
          ((repeat' apply And.intro) <;> (try simp only [soonB]) <;> first | exact trivial | exact ⟨rfl⟩ | (refine ⟨?_⟩; assumption) | (refine inR64 ?_ ?_ <;> omega) | (refine ⟨?_⟩; omega) | (refine ⟨?_⟩; rw [Bool.eq_iff_iff]; simp only [decide_eq_true_eq, decide_eq_false_iff_not, Bool.false_eq_true, Bool.true_eq_false, Bool.not_eq_true', Bool.and_eq_true, Bool.or_eq_true, Bool.not_eq_false', false_iff, iff_false, true_iff, iff_true]; omega) | (refine ⟨?_⟩; simp_all; done) | (refine ⟨?_⟩; simp; omega))
  · have hp0 := ht0
    try simp only [decide_eq_true_eq, decide_eq_false_iff_not, Bool.not_eq_true', Bool.not_eq_false', Bool.not_eq_eq_eq_not, Bool.not_true, Bool.not_false] at hp0
    first | (exfalso; omega) | skip
    all_goals
      cases ht1 : (decide (f = 5))
      · have hp1 := ht1
        try simp only [decide_eq_true_eq, decide_eq_false_iff_not, Bool.not_eq_true', Bool.not_eq_false', Bool.not_eq_eq_eq_not, Bool.not_true, Bool.not_false] at hp1
        first | (exfalso; omega) | skip
        all_goals
          cases ht2 : (decide (f = 0))
          · have hp2 := ht2
            try simp only [decide_eq_true_eq, decide_eq_false_iff_not, Bool.not_eq_true', Bool.not_eq_false', Bool.not_eq_eq_eq_not, Bool.not_true, Bool.not_false] at hp2
            first | (exfalso; omega) | skip
            all_goals
              cases ht3 : (decide (e = 5))
              · have hp3 := ht3
                try simp only [decide_eq_true_eq, decide_eq_false_iff_not, Bool.not_eq_true', Bool.not_eq_false', Bool.not_eq_eq_eq_not, Bool.not_true, Bool.not_false] at hp3
                first | (exfalso; omega) | skip
                all_goals
                  refine Tri.run tbSoo_ok [true, false, false, false] (of_skel (q := (EqB (decide (e = 5)) false ∧ EqB (decide (f = 0)) false ∧ EqB (decide (f = 5)) false ∧ EqB (decide (e = 0)) true ∧ True) ∧ (EqB false (soonB a e b f) ∧ True) ∧ True) (by kernel_rfl) ?_)
                  ((repeat' apply And.intro) <;> (try simp only [soonB]) <;> first | exact trivial | exact ⟨rfl⟩ | (refine ⟨?_⟩; assumption) | (refine inR64 ?_ ?_ <;> omega) | (refine ⟨?_⟩; omega) | (refine ⟨?_⟩; rw [Bool.eq_iff_iff]; simp only [decide_eq_true_eq, decide_eq_false_iff_not, Bool.false_eq_true, Bool.true_eq_false, Bool.not_eq_true', Bool.and_eq_true, Bool.or_eq_true, Bool.not_eq_false', false_iff, iff_false, true_iff, iff_true]; omega) | (refine ⟨?_⟩; simp_all; done) | (refine ⟨?_⟩; simp; omega))
              · have hp3 := ht3
                try simp only [decide_eq_true_eq, decide_eq_false_iff_not, Bool.not_eq_true', Bool.not_eq_false', Bool.not_eq_eq_eq_not, Bool.not_true, Bool.not_false] at hp3
                first | (exfalso; omega) | skip
                all_goals
                  refine Tri.run tbSoo_ok [true, false, false, true] (of_skel (q := (EqB (decide (e = 5)) true ∧ EqB (decide (f = 0)) false ∧ EqB (decide (f = 5)) false ∧ EqB (decide (e = 0)) true ∧ True) ∧ (EqB (decide (f = 5)) (soonB a e b f) ∧ True) ∧ True) (by kernel_rfl) ?_)
                  ((repeat' apply And.intro) <;> (try simp only [soonB]) <;> first | exact trivial | exact ⟨rfl⟩ | (refine ⟨?_⟩; assumption) | (refine inR64 ?_ ?_ <;> omega) | (refine ⟨?_⟩; omega) | (refine ⟨?_⟩; rw [Bool.eq_iff_iff]; simp only [decide_eq_true_eq, decide_eq_false_iff_not, Bool.false_eq_true, Bool.true_eq_false, Bool.not_eq_true', Bool.and_eq_true, Bool.or_eq_true, Bool.not_eq_false', false_iff, iff_false, true_iff, iff_true]; omega) | (refine ⟨?_⟩; simp_all; done) | (refine ⟨?_⟩; simp; omega))
          · have hp2 := ht2
            try simp only [decide_eq_true_eq, decide_eq_false_iff_not, Bool.not_eq_true', Bool.not_eq_false', Bool.not_eq_eq_eq_not, Bool.not_true, Bool.not_false] at hp2
            first | (exfalso; omega) | skip
            all_goals
              cases ht3 : (decide (a ≤ b))
              · have hp3 := ht3
                try simp only [decide_eq_true_eq, decide_eq_false_iff_not, Bool.not_eq_true', Bool.not_eq_false', Bool.not_eq_eq_eq_not, Bool.not_true, Bool.not_false] at hp3
                first | (exfalso; omega) | skip
                all_goals
                  cases ht4 : (decide (e = 5))
                  · have hp4 := ht4
                    try simp only [decide_eq_true_eq, decide_eq_false_iff_not, Bool.not_eq_true', Bool.not_eq_false', Bool.not_eq_eq_eq_not, Bool.not_true, Bool.not_false] at hp4
                    first | (exfalso; omega) | skip
                    all_goals
                      refine Tri.run tbSoo_ok [true, false, true, false, false] (of_skel (q := (EqB (decide (e = 5)) false ∧ EqB (decide (a ≤ b)) false ∧ EqB (decide (f = 0)) true ∧ EqB (decide (f = 5)) false ∧ EqB (decide (e = 0)) true ∧ True) ∧ (EqB false (soonB a e b f) ∧ True) ∧ True) (by kernel_rfl) ?_)
                      ((repeat' apply And.intro) <;> (try simp only [soonB]) <;> first | exact trivial | exact ⟨rfl⟩ | (refine ⟨?_⟩; assumption) | (refine inR64 ?_ ?_ <;> omega) | (refine ⟨?_⟩; omega) | (refine ⟨?_⟩; rw [Bool.eq_iff_iff]; simp only [decide_eq_true_eq, decide_eq_false_iff_not, Bool.false_eq_true, Bool.true_eq_false, Bool.not_eq_true', Bool.and_eq_true, Bool.or_eq_true, Bool.not_eq_false', false_iff, iff_false, true_iff, iff_true]; omega) | (refine ⟨?_⟩; simp_all; done) | (refine ⟨?_⟩; simp; omega))
                  · have hp4 := ht4
                    try simp only [decide_eq_true_eq, decide_eq_false_iff_not, Bool.not_eq_true', Bool.not_eq_false', Bool.not_eq_eq_eq_not, Bool.not_true, Bool.not_false] at hp4
                    first | (exfalso; omega) | skip
                    all_goals
                      refine Tri.run tbSoo_ok [true, false, true, false, true] (of_skel (q := (EqB (decide (e = 5)) true ∧ EqB (decide (a ≤ b)) false ∧ EqB (decide (f = 0)) true ∧ EqB (decide (f = 5)) false ∧ EqB (decide (e = 0)) true ∧ True) ∧ (EqB (decide (f = 5)) (soonB a e b f) ∧ True) ∧ True) (by kernel_rfl) ?_)
                      ((repeat' apply And.intro) <;> (try simp only [soonB]) <;> first | exact trivial | exact ⟨rfl⟩ | (refine ⟨?_⟩; assumption) | (refine inR64 ?_ ?_ <;> omega) | (refine ⟨?_⟩; omega) | (refine ⟨?_⟩; rw [Bool.eq_iff_iff]; simp only [decide_eq_true_eq, decide_eq_false_iff_not, Bool.false_eq_true, Bool.true_eq_false, Bool.not_eq_true', Bool.and_eq_true, Bool.or_eq_true, Bool.not_eq_false', false_iff, iff_false, true_iff, iff_true]; omega) | (refine ⟨?_⟩; simp_all; done) | (refine ⟨?_⟩; simp; omega))
              · have hp3 := ht3
                try simp only [decide_eq_true_eq, decide_eq_false_iff_not, Bool.not_eq_true', Bool.not_eq_false', Bool.not_eq_eq_eq_not, Bool.not_true, Bool.not_false] at hp3
                first | (exfalso; omega) | skip
                all_goals
                  refine Tri.run tbSoo_ok [true, false, true, true] (of_skel (q := (EqB (decide (a ≤ b)) true ∧ EqB (decide (f = 0)) true ∧ EqB (decide (f = 5)) false ∧ EqB (decide (e = 0)) true ∧ True) ∧ (EqB true (soonB a e b f) ∧ True) ∧ True) (by kernel_rfl) ?_)
                  ((repeat' apply And.intro) <;> (try simp only [soonB]) <;> first | exact trivial | exact ⟨rfl⟩ | (refine ⟨?_⟩; assumption) | (refine inR64 ?_ ?_ <;> omega) | (refine ⟨?_⟩; omega) | (refine ⟨?_⟩; rw [Bool.eq_iff_iff]; simp only [decide_eq_true_eq, decide_eq_false_iff_not, Bool.false_eq_true, Bool.true_eq_false, Bool.not_eq_true', Bool.and_eq_true, Bool.or_eq_true, Bool.not_eq_false', false_iff, iff_false, true_iff, iff_true]; omega) | (refine ⟨?_⟩; simp_all; done) | (refine ⟨?_⟩; simp; omega))
      · have hp1 := ht1
        try simp only [decide_eq_true_eq, decide_eq_false_iff_not, Bool.not_eq_true', Bool.not_eq_false', Bool.not_eq_eq_eq_not, Bool.not_true, Bool.not_false] at hp1
        first | (exfalso; omega) | skip
        all_goals
          refine Tri.run tbSoo_ok [true, true] (of_skel (q := (EqB (decide (f = 5)) true ∧ EqB (decide (e = 0)) true ∧ True) ∧ (EqB true (soonB a e b f) ∧ True) ∧ True) (by kernel_rfl) ?_)
          ((repeat' apply And.intro) <;> (try simp only [soonB]) <;> first | exact trivial | exact ⟨rfl⟩ | (refine ⟨?_⟩; assumption) | (refine inR64 ?_ ?_ <;> omega) | (refine ⟨?_⟩; omega) | (refine ⟨?_⟩; rw [Bool.eq_iff_iff]; simp only [decide_eq_true_eq, decide_eq_false_iff_not, Bool.false_eq_true, Bool.true_eq_false, Bool.not_eq_true', Bool.and_eq_true, Bool.or_eq_true, Bool.not_eq_false', false_iff, iff_false, true_iff, iff_true]; omega) | (refine ⟨?_⟩; simp_all; done) | (refine ⟨?_⟩; simp; omega))
end PartOfKb
section PartOfKc
open Go Go.RowKit Go.Proofs
theorem seen_le {m m' : Wn} {ls ls' : List Lnk} {rs rs' : List Rep} {d d' : Nat → Int} (h : ∀ p ∈ alL m ls rs, p ∈ alL m' ls' rs' ∧ (spOf m' rs' d' p).1 ≤ (spOf m rs d p).1 ∧ (spOf m rs d p).2 ≤ (spOf m' rs' d' p).2) {t : Int} (hs : seenB (siL m ls rs d) t = true) : seenB (siL m' ls' rs' d') t = true := by
  rw [seen_al] at hs ⊢
  simp only [List.any_eq_true, Bool.and_eq_true, decide_eq_true_eq] at hs ⊢
  obtain ⟨p, hp, h1, h2⟩ := hs
  obtain ⟨a, b, c⟩ := h p hp
  exact ⟨p, a, by omega, by omega⟩
theorem play_le {m m' : Wn} {ls ls' : List Lnk} {rs rs' : List Rep} {ps ps' : List Prt} {zs zs' : List Int} (hw : watchB m rs ls ps = true) (hd : delB rs zs = true) (hw' : watchB m' rs' ls' ps' = true) (hd' : delB rs' zs' = true)
    (h : ∀ p ∈ alL m ls rs, p ∈ alL m' ls' rs' ∧ (spOf m' rs' (ev zs') p).1 ≤ (spOf m rs (ev zs) p).1 ∧ (spOf m rs (ev zs) p).2 ≤ (spOf m' rs' (ev zs') p).2) :
    soonB (playP m' rs' ls' ps' zs').1 (playP m' rs' ls' ps' zs').2 (playP m rs ls ps zs).1 (playP m rs ls ps zs).2 = true := by
  have e1 : playP m rs ls ps zs = if siL m ls rs (ev zs) = [] then (0, 5) else (soonF (siL m ls rs (ev zs)), 0) := by unfold playP; rw [if_pos (by rw [hw, hd]; rfl)]
  have e2 : playP m' rs' ls' ps' zs' = if siL m' ls' rs' (ev zs') = [] then (0, 5) else (soonF (siL m' ls' rs' (ev zs')), 0) := by unfold playP; rw [if_pos (by rw [hw', hd']; rfl)]
  rw [e1, e2]
  unfold soonB
  by_cases h1 : siL m ls rs (ev zs) = []
  · rw [if_pos h1]
    by_cases h2 : siL m' ls' rs' (ev zs') = []
    · rw [if_pos h2]; decide
    · rw [if_neg h2]; simp
  · have s1 := seen_le h (soon_first h1).1
    have h2 : siL m' ls' rs' (ev zs') ≠ [] := fun e0 => by rw [not_seen e0] at s1; cases s1
    have s2 := (soon_first h2).2.1 _ s1
    rw [if_neg h1, if_neg h2]
    simp only [decide_eq_true_eq]
    exact .inl ⟨trivial, .inr ⟨trivial, s2⟩⟩
theorem repAt_reps {n : Nat} {f : Nat → Nat → Int} {i : Nat} (h : i < n) : repAt (reps n f) i = ⟨f i 0, f i 1, f i 2, f i 3, f i 4, f i 5, f i 6⟩ := repAt_some (by
  unfold reps
  rw [List.getElem?_map, List.getElem?_range h]
  rfl)
theorem ev_nums {n : Nat} {f : Nat → Nat → Int} {i : Nat} (h : i < n) : ev (nums n f) i = f i 0 := by
  unfold ev nums
  simp [List.getD_eq_getElem?_getD, List.getElem?_range h]
theorem al_reps {m : Wn} {ls : List Lnk} {n : Nat} {f : Nat → Nat → Int} {p : Nat × Nat} (h : p ∈ alL m ls (reps n f)) : p.1 < p.2 ∧ p.2 < n := by
  obtain ⟨a, b, _⟩ := mem_alL.1 h
  exact ⟨a, by simpa using b⟩
theorem del_nums {r d : Nat} {fr z : Nat → Nat → Int} : delB (reps r fr) (nums d z) = true ↔ d = r ∧ ∀ i, i < r → fr i 3 ≤ z i 0 ∧ z i 0 ≤ fr i 4 := by
  rw [del_iff, nums_len, reps_len]
  constructor
  · rintro ⟨rfl, h⟩
    refine ⟨rfl, fun i hi => ?_⟩
    have := h i hi
    rw [repAt_reps hi, ev_nums hi] at this
    exact this
  · rintro ⟨rfl, h⟩
    refine ⟨rfl, fun i hi => ?_⟩
    rw [repAt_reps hi, ev_nums hi]
    exact h i hi
theorem less_play {m : Wn} {ls : List Lnk} {ps : List Prt} {r d : Nat} {fr z z' : Nat → Nat → Int} (hw : watchB m (reps r fr) ls ps = true) (hd : delB (reps r fr) (nums d z) = true) (h : ∀ i, i < d → fr i 3 ≤ z' i 0 ∧ z' i 0 ≤ z i 0) :
    soonB (playP m (reps r fr) ls ps (nums d z')).1 (playP m (reps r fr) ls ps (nums d z')).2 (playP m (reps r fr) ls ps (nums d z)).1 (playP m (reps r fr) ls ps (nums d z)).2 = true := by
  obtain ⟨rfl, hz⟩ := del_nums.1 hd
  refine play_le hw hd hw (del_nums.2 ⟨rfl, fun i hi => ?_⟩) fun p hp => ⟨hp, ?_, Int.le_refl _⟩
  · have := h i hi; have := hz i hi; omega
  · obtain ⟨h1, h2⟩ := al_reps hp
    have a1 := h p.1 (by omega)
    have a2 := h p.2 h2
    unfold spOf comeF
    simp only
    rw [ev_nums (by omega : p.1 < d), ev_nums h2, ev_nums (by omega : p.1 < d), ev_nums h2]
    omega
theorem hold_play {n fall win hold dawn dusk hold' : Int} {ls : List Lnk} {rs : List Rep} {ps : List Prt} {zs : List Int} (hw : watchB ⟨n, fall, win, hold, dawn, dusk⟩ rs ls ps = true) (hd : delB rs zs = true) (h1 : hold ≤ hold') (h2 : hold' ≤ 2880) :
    soonB (playP ⟨n, fall, win, hold', dawn, dusk⟩ rs ls ps zs).1 (playP ⟨n, fall, win, hold', dawn, dusk⟩ rs ls ps zs).2 (playP ⟨n, fall, win, hold, dawn, dusk⟩ rs ls ps zs).1 (playP ⟨n, fall, win, hold, dawn, dusk⟩ rs ls ps zs).2 = true := by
  refine play_le hw hd ?_ hd fun p hp => ⟨hp, Int.le_refl _, ?_⟩
  · unfold watchB ruleB betw at hw ⊢
    simp only [Bool.and_eq_true, decide_eq_true_eq] at hw ⊢
    obtain ⟨⟨⟨h0, hb⟩, hc⟩, hd⟩ := hw
    refine ⟨⟨⟨?_, hb⟩, hc⟩, hd⟩
    omega
  · unfold spOf tillF
    simp only
    omega
theorem more_play {m : Wn} {ls : List Lnk} {ps : List Prt} {r d : Nat} {fr fr' z z' : Nat → Nat → Int} (hw : watchB m (reps r fr) ls ps = true) (hd : delB (reps r fr) (nums d z) = true) (hw' : watchB m (reps (r + 1) fr') ls ps = true) (hd' : delB (reps (r + 1) fr') (nums (d + 1) z') = true)
    (hf : ∀ k j, k < r → j < 7 → fr' k j = fr k j) (hz : ∀ k, k < d → z' k 0 = z k 0) :
    soonB (playP m (reps (r + 1) fr') ls ps (nums (d + 1) z')).1 (playP m (reps (r + 1) fr') ls ps (nums (d + 1) z')).2 (playP m (reps r fr) ls ps (nums d z)).1 (playP m (reps r fr) ls ps (nums d z)).2 = true := by
  obtain ⟨rfl, hzz⟩ := del_nums.1 hd
  have hr : ∀ i, i < d → repAt (reps (d + 1) fr') i = repAt (reps d fr) i := fun i hi => by
    rw [repAt_reps (by omega), repAt_reps hi, hf i 0 hi (by omega), hf i 1 hi (by omega), hf i 2 hi (by omega), hf i 3 hi (by omega), hf i 4 hi (by omega), hf i 5 hi (by omega), hf i 6 hi (by omega)]
  refine play_le hw hd hw' hd' fun p hp => ?_
  obtain ⟨h1, h2⟩ := al_reps hp
  have h3 : p.1 < d := by omega
  have e1 := hr _ h3
  have e2 := hr _ h2
  refine ⟨mem_alL.2 ⟨h1, by simp; omega, ?_⟩, ?_, ?_⟩
  · have := (mem_alL.1 hp).2.2
    unfold alF at this ⊢
    rw [e1, e2]; exact this
  · unfold spOf
    simp only
    rw [e1, e2, ev_nums (by omega : p.1 < d + 1), ev_nums (by omega : p.2 < d + 1), ev_nums h3, ev_nums h2, hz _ h3, hz _ h2]
    exact Int.le_refl _
  · unfold spOf
    simp only
    rw [e1, e2]
    exact Int.le_refl _
theorem fall_play {n fall win hold dawn dusk fall' : Int} {l : Nat} {fl fl' : Nat → Nat → Int} {rs : List Rep} {ps : List Prt} {zs : List Int} (hw : watchB ⟨n, fall, win, hold, dawn, dusk⟩ rs (lnks l fl) ps = true) (hd : delB rs zs = true) (h1 : fall ≤ fall') (h2 : fall' ≤ 99999)
    (hl : ∀ k, k < l → fl' k 0 = fl k 0 ∧ fl' k 1 = fl k 1 ∧ fl k 2 ≤ fl' k 2 ∧ fl' k 2 ≤ 99999) :
    soonB (playP ⟨n, fall, win, hold, dawn, dusk⟩ rs (lnks l fl) ps zs).1 (playP ⟨n, fall, win, hold, dawn, dusk⟩ rs (lnks l fl) ps zs).2 (playP ⟨n, fall', win, hold, dawn, dusk⟩ rs (lnks l fl') ps zs).1 (playP ⟨n, fall', win, hold, dawn, dusk⟩ rs (lnks l fl') ps zs).2 = true := by
  refine play_le ?_ hd hw hd fun p hp => ⟨?_, Int.le_refl _, Int.le_refl _⟩
  · unfold watchB ruleB betw lnks at hw ⊢
    simp only [Bool.and_eq_true, decide_eq_true_eq, List.all_eq_true, List.mem_map, List.mem_range, List.length_map, List.length_range] at hw ⊢
    obtain ⟨⟨⟨h0, hb⟩, hc⟩, hd⟩ := hw
    refine ⟨⟨⟨?_, hb⟩, ?_⟩, hd⟩
    · omega
    · rintro x ⟨k, hk, rfl⟩
      have a := hc _ ⟨k, hk, rfl⟩
      obtain ⟨q1, q2, q3, q4⟩ := hl k hk
      unfold lnkB betw at a ⊢
      simp only [Bool.and_eq_true, decide_eq_true_eq] at a ⊢
      rw [q1, q2]
      refine ⟨a.1, ?_, q4⟩
      omega
  · obtain ⟨a, b, c⟩ := mem_alL.1 hp
    refine mem_alL.2 ⟨a, b, ?_⟩
    unfold alF at c ⊢
    rw [alarm_eq] at c ⊢
    unfold alarmR at c ⊢
    simp only [Bool.and_eq_true] at c ⊢
    refine ⟨c.1, ?_⟩
    have c2 := c.2
    split at c2
    · rename_i hst
      rw [if_pos hst]
      simp only [Bool.or_eq_true, Bool.and_eq_true, decide_eq_true_eq] at c2 ⊢
      omega
    · rename_i hst
      rw [if_neg hst]
      simp only [List.any_eq_true] at c2 ⊢
      obtain ⟨x, hx, hc⟩ := c2
      unfold lnks at hx
      obtain ⟨k, hk, rfl⟩ := List.mem_map.1 hx
      have hk := List.mem_range.1 hk
      obtain ⟨q1, q2, q3, q4⟩ := hl k hk
      refine ⟨⟨fl k 0, fl k 1, fl k 2⟩, List.mem_map.2 ⟨k, List.mem_range.2 hk, rfl⟩, ?_⟩
      simp only [Bool.or_eq_true, Bool.and_eq_true, decide_eq_true_eq, q1, q2] at hc ⊢
      refine ⟨hc.1, ?_⟩
      omega
end PartOfKc
section PartOfKd
open Go Go.RowKit Go.Proofs
noncomputable def ldA0 (gs : List GV) : List AV := match lds false gs H0 with
  | some (a, _) => a
  | none => []
noncomputable def ldH0 (gs : List GV) : AH := match lds false gs H0 with
  | some (_, h) => h
  | none => H0
def li (x : Int) : AV := .lit (.int .i64 x)
noncomputable def cw (n : Int) (r l p : Nat) (a b c d e : Int) : Option (List AV) := some [li n, AV.isl 0 r, AV.isl 1 l, AV.isl 2 p, li a, li b, li c, li d, li e]
noncomputable def cr (a b c d e f g : Int) : Option (List AV) := some [li a, li b, li c, li d, li e, li f, li g]
noncomputable def tbM : Tab := mkTab tyAll Tryz.prog [] [(18, FKn), (17, FSh), (21, FWa), (25, FDe), (24, FPl), (52, FSoo)] []
noncomputable def fM : Func := Tryz.f16
noncomputable def gM (e1 e2 e3 e4 : TypeId) (r l p d : Nat) (fr fl fp z : Nat → Nat → Int) (n fall win hold dawn dusk pc a0 a1 a2 a3 a4 a5 a6 dl lo gr : Int) : List GV := [.agg [.lit (.int .i64 n), .rows e1 7 r fr, .rows e2 3 l fl, .rows e3 4 p fp, .lit (.int .i64 fall), .lit (.int .i64 win), .lit (.int .i64 hold), .lit (.int .i64 dawn), .lit (.int .i64 dusk)], .rows e4 1 d z, .lit (.int .i64 pc), .agg [.lit (.int .i64 a0), .lit (.int .i64 a1), .lit (.int .i64 a2), .lit (.int .i64 a3), .lit (.int .i64 a4), .lit (.int .i64 a5), .lit (.int .i64 a6)], .lit (.int .i64 dl), .lit (.int .i64 lo), .lit (.int .i64 gr)]
noncomputable def lessF (fr z : Nat → Nat → Int) (pc : Int) (k : Nat) : Int := fr k 3 + ((z k 0 - fr k 3) * pc).tdiv 100
noncomputable def JM0 (e1 e2 e3 e4 : TypeId) (r l p d : Nat) (fr fl fp z : Nat → Nat → Int) (n fall win hold dawn dusk pc a0 a1 a2 a3 a4 a5 a6 dl lo gr : Int) : JS := ⟨227, [(1, .isl 3 d), (2, .lit (.int .i64 pc)), (4, .lit (.int .i64 dl)), (5, .lit (.int .i64 lo)), (6, .lit (.int .i64 gr)), (7, .ptr 4 0), (10, .ptr 5 0), (14, .lit (.bool false)), (15, .lit (.slice none 0 0)), (16, .lit (.int .i64 0))], [(4, .cells [.lit (.int .i64 n), .isl 0 r, .isl 1 l, .isl 2 p, .lit (.int .i64 fall), .lit (.int .i64 win), .lit (.int .i64 hold), .lit (.int .i64 dawn), .lit (.int .i64 dusk)] 26 none), (5, .cells [.lit (.int .i64 a0), .lit (.int .i64 a1), .lit (.int .i64 a2), .lit (.int .i64 a3), .lit (.int .i64 a4), .lit (.int .i64 a5), .lit (.int .i64 a6)] 77 none)], [(0, ⟨false, e1, 7, r, fr⟩), (1, ⟨false, e2, 3, l, fl⟩), (2, ⟨false, e3, 4, p, fp⟩), (3, ⟨false, e4, 1, d, z⟩)], 6⟩
noncomputable def JM1 (e1 e2 e3 e4 : TypeId) (r l p d : Nat) (fr fl fp z : Nat → Nat → Int) (n fall win hold dawn dusk pc a0 a1 a2 a3 a4 a5 a6 dl lo gr : Int) (i : Nat) : JS := ⟨227, [(1, .isl 3 d), (2, .lit (.int .i64 pc)), (4, .lit (.int .i64 dl)), (5, .lit (.int .i64 lo)), (6, .lit (.int .i64 gr)), (7, .ptr 4 0), (10, .ptr 5 0), (14, .lit (.bool false)), (15, .isl 6 i), (16, .lit (.int .i64 (i : Nat)))], [(4, .cells [.lit (.int .i64 n), .isl 0 r, .isl 1 l, .isl 2 p, .lit (.int .i64 fall), .lit (.int .i64 win), .lit (.int .i64 hold), .lit (.int .i64 dawn), .lit (.int .i64 dusk)] 26 none), (5, .cells [.lit (.int .i64 a0), .lit (.int .i64 a1), .lit (.int .i64 a2), .lit (.int .i64 a3), .lit (.int .i64 a4), .lit (.int .i64 a5), .lit (.int .i64 a6)] 77 none), (6, .irow 3 1 i (fun k _ => lessF fr z pc k))], [(0, ⟨false, e1, 7, r, fr⟩), (1, ⟨false, e2, 3, l, fl⟩), (2, ⟨false, e3, 4, p, fp⟩), (3, ⟨false, e4, 1, d, z⟩)], 7⟩
noncomputable def KM0 (e1 e2 e3 e4 : TypeId) (r l p d : Nat) (fr fl fp z : Nat → Nat → Int) (n fall win hold dawn dusk pc a0 a1 a2 a3 a4 a5 a6 dl lo gr : Int) : JS := ⟨227, [(1, .isl 3 d), (2, .lit (.int .i64 pc)), (4, .lit (.int .i64 dl)), (5, .lit (.int .i64 lo)), (6, .lit (.int .i64 gr)), (7, .ptr 4 0), (10, .ptr 5 0), (14, .lit (.bool false)), (15, .lit (.slice none 0 0))], [(4, .cells [.lit (.int .i64 n), .isl 0 r, .isl 1 l, .isl 2 p, .lit (.int .i64 fall), .lit (.int .i64 win), .lit (.int .i64 hold), .lit (.int .i64 dawn), .lit (.int .i64 dusk)] 26 none), (5, .cells [.lit (.int .i64 a0), .lit (.int .i64 a1), .lit (.int .i64 a2), .lit (.int .i64 a3), .lit (.int .i64 a4), .lit (.int .i64 a5), .lit (.int .i64 a6)] 77 none)], [(0, ⟨false, e1, 7, r, fr⟩), (1, ⟨false, e2, 3, l, fl⟩), (2, ⟨false, e3, 4, p, fp⟩), (3, ⟨false, e4, 1, d, z⟩)], 6⟩
noncomputable def KM1 (e1 e2 e3 e4 : TypeId) (r l p d : Nat) (fr fl fp z : Nat → Nat → Int) (n fall win hold dawn dusk pc a0 a1 a2 a3 a4 a5 a6 dl lo gr : Int) : JS := ⟨227, [(1, .isl 3 d), (2, .lit (.int .i64 pc)), (4, .lit (.int .i64 dl)), (5, .lit (.int .i64 lo)), (6, .lit (.int .i64 gr)), (7, .ptr 4 0), (10, .ptr 5 0), (14, .lit (.bool false)), (15, .isl 6 d)], [(4, .cells [.lit (.int .i64 n), .isl 0 r, .isl 1 l, .isl 2 p, .lit (.int .i64 fall), .lit (.int .i64 win), .lit (.int .i64 hold), .lit (.int .i64 dawn), .lit (.int .i64 dusk)] 26 none), (5, .cells [.lit (.int .i64 a0), .lit (.int .i64 a1), .lit (.int .i64 a2), .lit (.int .i64 a3), .lit (.int .i64 a4), .lit (.int .i64 a5), .lit (.int .i64 a6)] 77 none), (6, .irow 3 1 d (fun k _ => lessF fr z pc k))], [(0, ⟨false, e1, 7, r, fr⟩), (1, ⟨false, e2, 3, l, fl⟩), (2, ⟨false, e3, 4, p, fp⟩), (3, ⟨false, e4, 1, d, z⟩)], 7⟩
noncomputable def mnF (m a b : Int) : Int := if a + b < m then a + b else m
noncomputable def linkF (fl : Nat → Nat → Int) (gr : Int) (i : Nat) : Nat → Nat → Int := fun k j => if k < i ∧ j = 2 then mnF 99999 (fl k 2) gr else fl k j
noncomputable def LM00 (e1 e2 e3 e4 : TypeId) (r l p d : Nat) (fr fl fp z : Nat → Nat → Int) (n fall win hold dawn dusk pc a0 a1 a2 a3 a4 a5 a6 dl lo gr : Int) : JS := ⟨227, [(1, .isl 3 d), (4, .lit (.int .i64 dl)), (6, .lit (.int .i64 gr)), (7, .ptr 4 0), (14, .lit (.bool false)), (15, .lit (.slice none 0 0)), (18, .ptr 7 0), (19, .ptr 8 0), (20, .ptr 9 0), (21, .lit (.int .i64 (0)))], [(4, .cells [.lit (.int .i64 n), .isl 0 r, .isl 1 l, .isl 2 p, .lit (.int .i64 fall), .lit (.int .i64 win), .lit (.int .i64 hold), .lit (.int .i64 dawn), .lit (.int .i64 dusk)] 26 none), (7, .cells [.lit (.int .i64 n), .isl 10 (r + 1), .isl 1 l, .isl 2 p, .lit (.int .i64 fall), .lit (.int .i64 win), .lit (.int .i64 hold), .lit (.int .i64 dawn), .lit (.int .i64 dusk)] 26 none), (8, .cells [.lit (.int .i64 n), .isl 0 r, .isl 1 l, .isl 2 p, .lit (.int .i64 fall), .lit (.int .i64 win), .lit (.int .i64 (mnF 2880 hold lo)), .lit (.int .i64 dawn), .lit (.int .i64 dusk)] 26 none), (9, .cells [.lit (.int .i64 n), .isl 0 r, .lit (.slice none 0 0), .isl 2 p, .lit (.int .i64 (mnF 99999 fall gr)), .lit (.int .i64 win), .lit (.int .i64 hold), .lit (.int .i64 dawn), .lit (.int .i64 dusk)] 26 none), (10, .irow 77 7 (r + 1) (joinF r fr (rowOf [a0, a1, a2, a3, a4, a5, a6] 7)))], [(0, ⟨false, e1, 7, r, fr⟩), (1, ⟨false, e2, 3, l, fl⟩), (2, ⟨false, e3, 4, p, fp⟩), (3, ⟨false, e4, 1, d, z⟩)], 12⟩
noncomputable def LM01 (e1 e2 e3 e4 : TypeId) (r l p d : Nat) (fr fl fp z : Nat → Nat → Int) (n fall win hold dawn dusk pc a0 a1 a2 a3 a4 a5 a6 dl lo gr : Int) (i : Nat) : JS := ⟨227, [(1, .isl 3 d), (4, .lit (.int .i64 dl)), (6, .lit (.int .i64 gr)), (7, .ptr 4 0), (14, .lit (.bool false)), (15, .lit (.slice none 0 0)), (18, .ptr 7 0), (19, .ptr 8 0), (20, .ptr 9 0), (21, .lit (.int .i64 ((i : Nat))))], [(4, .cells [.lit (.int .i64 n), .isl 0 r, .isl 1 l, .isl 2 p, .lit (.int .i64 fall), .lit (.int .i64 win), .lit (.int .i64 hold), .lit (.int .i64 dawn), .lit (.int .i64 dusk)] 26 none), (7, .cells [.lit (.int .i64 n), .isl 10 (r + 1), .isl 1 l, .isl 2 p, .lit (.int .i64 fall), .lit (.int .i64 win), .lit (.int .i64 hold), .lit (.int .i64 dawn), .lit (.int .i64 dusk)] 26 none), (8, .cells [.lit (.int .i64 n), .isl 0 r, .isl 1 l, .isl 2 p, .lit (.int .i64 fall), .lit (.int .i64 win), .lit (.int .i64 (mnF 2880 hold lo)), .lit (.int .i64 dawn), .lit (.int .i64 dusk)] 26 none), (9, .cells [.lit (.int .i64 n), .isl 0 r, .isl 11 l, .isl 2 p, .lit (.int .i64 (mnF 99999 fall gr)), .lit (.int .i64 win), .lit (.int .i64 hold), .lit (.int .i64 dawn), .lit (.int .i64 dusk)] 26 none), (10, .irow 77 7 (r + 1) (joinF r fr (rowOf [a0, a1, a2, a3, a4, a5, a6] 7))), (11, .irow 80 3 l (linkF fl gr i))], [(0, ⟨false, e1, 7, r, fr⟩), (1, ⟨false, e2, 3, l, fl⟩), (2, ⟨false, e3, 4, p, fp⟩), (3, ⟨false, e4, 1, d, z⟩)], 12⟩
noncomputable def NM00 (e1 e2 e3 e4 : TypeId) (r l p d : Nat) (fr fl fp z : Nat → Nat → Int) (n fall win hold dawn dusk pc a0 a1 a2 a3 a4 a5 a6 dl lo gr : Int) : JS := ⟨227, [(1, .isl 3 d), (4, .lit (.int .i64 dl)), (6, .lit (.int .i64 gr)), (7, .ptr 4 0), (14, .lit (.bool false)), (15, .lit (.slice none 0 0)), (18, .ptr 7 0), (19, .ptr 8 0), (20, .ptr 9 0)], [(4, .cells [.lit (.int .i64 n), .isl 0 r, .isl 1 l, .isl 2 p, .lit (.int .i64 fall), .lit (.int .i64 win), .lit (.int .i64 hold), .lit (.int .i64 dawn), .lit (.int .i64 dusk)] 26 none), (7, .cells [.lit (.int .i64 n), .isl 10 (r + 1), .isl 1 l, .isl 2 p, .lit (.int .i64 fall), .lit (.int .i64 win), .lit (.int .i64 hold), .lit (.int .i64 dawn), .lit (.int .i64 dusk)] 26 none), (8, .cells [.lit (.int .i64 n), .isl 0 r, .isl 1 l, .isl 2 p, .lit (.int .i64 fall), .lit (.int .i64 win), .lit (.int .i64 (mnF 2880 hold lo)), .lit (.int .i64 dawn), .lit (.int .i64 dusk)] 26 none), (9, .cells [.lit (.int .i64 n), .isl 0 r, .lit (.slice none 0 0), .isl 2 p, .lit (.int .i64 (mnF 99999 fall gr)), .lit (.int .i64 win), .lit (.int .i64 hold), .lit (.int .i64 dawn), .lit (.int .i64 dusk)] 26 none), (10, .irow 77 7 (r + 1) (joinF r fr (rowOf [a0, a1, a2, a3, a4, a5, a6] 7)))], [(0, ⟨false, e1, 7, r, fr⟩), (1, ⟨false, e2, 3, l, fl⟩), (2, ⟨false, e3, 4, p, fp⟩), (3, ⟨false, e4, 1, d, z⟩)], 12⟩
noncomputable def NM01 (e1 e2 e3 e4 : TypeId) (r l p d : Nat) (fr fl fp z : Nat → Nat → Int) (n fall win hold dawn dusk pc a0 a1 a2 a3 a4 a5 a6 dl lo gr : Int) : JS := ⟨227, [(1, .isl 3 d), (4, .lit (.int .i64 dl)), (6, .lit (.int .i64 gr)), (7, .ptr 4 0), (14, .lit (.bool false)), (15, .lit (.slice none 0 0)), (18, .ptr 7 0), (19, .ptr 8 0), (20, .ptr 9 0)], [(4, .cells [.lit (.int .i64 n), .isl 0 r, .isl 1 l, .isl 2 p, .lit (.int .i64 fall), .lit (.int .i64 win), .lit (.int .i64 hold), .lit (.int .i64 dawn), .lit (.int .i64 dusk)] 26 none), (7, .cells [.lit (.int .i64 n), .isl 10 (r + 1), .isl 1 l, .isl 2 p, .lit (.int .i64 fall), .lit (.int .i64 win), .lit (.int .i64 hold), .lit (.int .i64 dawn), .lit (.int .i64 dusk)] 26 none), (8, .cells [.lit (.int .i64 n), .isl 0 r, .isl 1 l, .isl 2 p, .lit (.int .i64 fall), .lit (.int .i64 win), .lit (.int .i64 (mnF 2880 hold lo)), .lit (.int .i64 dawn), .lit (.int .i64 dusk)] 26 none), (9, .cells [.lit (.int .i64 n), .isl 0 r, .isl 11 l, .isl 2 p, .lit (.int .i64 (mnF 99999 fall gr)), .lit (.int .i64 win), .lit (.int .i64 hold), .lit (.int .i64 dawn), .lit (.int .i64 dusk)] 26 none), (10, .irow 77 7 (r + 1) (joinF r fr (rowOf [a0, a1, a2, a3, a4, a5, a6] 7))), (11, .irow 80 3 l (linkF fl gr l))], [(0, ⟨false, e1, 7, r, fr⟩), (1, ⟨false, e2, 3, l, fl⟩), (2, ⟨false, e3, 4, p, fp⟩), (3, ⟨false, e4, 1, d, z⟩)], 12⟩
noncomputable def LM10 (e1 e2 e3 e4 : TypeId) (r l p d : Nat) (fr fl fp z : Nat → Nat → Int) (n fall win hold dawn dusk pc a0 a1 a2 a3 a4 a5 a6 dl lo gr : Int) : JS := ⟨227, [(1, .isl 3 d), (4, .lit (.int .i64 dl)), (6, .lit (.int .i64 gr)), (7, .ptr 4 0), (14, .lit (.bool false)), (15, .isl 6 d), (18, .ptr 7 0), (19, .ptr 8 0), (20, .ptr 9 0), (21, .lit (.int .i64 (0)))], [(4, .cells [.lit (.int .i64 n), .isl 0 r, .isl 1 l, .isl 2 p, .lit (.int .i64 fall), .lit (.int .i64 win), .lit (.int .i64 hold), .lit (.int .i64 dawn), .lit (.int .i64 dusk)] 26 none), (6, .irow 3 1 d (fun k _ => lessF fr z pc k)), (7, .cells [.lit (.int .i64 n), .isl 10 (r + 1), .isl 1 l, .isl 2 p, .lit (.int .i64 fall), .lit (.int .i64 win), .lit (.int .i64 hold), .lit (.int .i64 dawn), .lit (.int .i64 dusk)] 26 none), (8, .cells [.lit (.int .i64 n), .isl 0 r, .isl 1 l, .isl 2 p, .lit (.int .i64 fall), .lit (.int .i64 win), .lit (.int .i64 (mnF 2880 hold lo)), .lit (.int .i64 dawn), .lit (.int .i64 dusk)] 26 none), (9, .cells [.lit (.int .i64 n), .isl 0 r, .lit (.slice none 0 0), .isl 2 p, .lit (.int .i64 (mnF 99999 fall gr)), .lit (.int .i64 win), .lit (.int .i64 hold), .lit (.int .i64 dawn), .lit (.int .i64 dusk)] 26 none), (10, .irow 77 7 (r + 1) (joinF r fr (rowOf [a0, a1, a2, a3, a4, a5, a6] 7)))], [(0, ⟨false, e1, 7, r, fr⟩), (1, ⟨false, e2, 3, l, fl⟩), (2, ⟨false, e3, 4, p, fp⟩), (3, ⟨false, e4, 1, d, z⟩)], 12⟩
noncomputable def LM11 (e1 e2 e3 e4 : TypeId) (r l p d : Nat) (fr fl fp z : Nat → Nat → Int) (n fall win hold dawn dusk pc a0 a1 a2 a3 a4 a5 a6 dl lo gr : Int) (i : Nat) : JS := ⟨227, [(1, .isl 3 d), (4, .lit (.int .i64 dl)), (6, .lit (.int .i64 gr)), (7, .ptr 4 0), (14, .lit (.bool false)), (15, .isl 6 d), (18, .ptr 7 0), (19, .ptr 8 0), (20, .ptr 9 0), (21, .lit (.int .i64 ((i : Nat))))], [(4, .cells [.lit (.int .i64 n), .isl 0 r, .isl 1 l, .isl 2 p, .lit (.int .i64 fall), .lit (.int .i64 win), .lit (.int .i64 hold), .lit (.int .i64 dawn), .lit (.int .i64 dusk)] 26 none), (6, .irow 3 1 d (fun k _ => lessF fr z pc k)), (7, .cells [.lit (.int .i64 n), .isl 10 (r + 1), .isl 1 l, .isl 2 p, .lit (.int .i64 fall), .lit (.int .i64 win), .lit (.int .i64 hold), .lit (.int .i64 dawn), .lit (.int .i64 dusk)] 26 none), (8, .cells [.lit (.int .i64 n), .isl 0 r, .isl 1 l, .isl 2 p, .lit (.int .i64 fall), .lit (.int .i64 win), .lit (.int .i64 (mnF 2880 hold lo)), .lit (.int .i64 dawn), .lit (.int .i64 dusk)] 26 none), (9, .cells [.lit (.int .i64 n), .isl 0 r, .isl 11 l, .isl 2 p, .lit (.int .i64 (mnF 99999 fall gr)), .lit (.int .i64 win), .lit (.int .i64 hold), .lit (.int .i64 dawn), .lit (.int .i64 dusk)] 26 none), (10, .irow 77 7 (r + 1) (joinF r fr (rowOf [a0, a1, a2, a3, a4, a5, a6] 7))), (11, .irow 80 3 l (linkF fl gr i))], [(0, ⟨false, e1, 7, r, fr⟩), (1, ⟨false, e2, 3, l, fl⟩), (2, ⟨false, e3, 4, p, fp⟩), (3, ⟨false, e4, 1, d, z⟩)], 12⟩
noncomputable def NM10 (e1 e2 e3 e4 : TypeId) (r l p d : Nat) (fr fl fp z : Nat → Nat → Int) (n fall win hold dawn dusk pc a0 a1 a2 a3 a4 a5 a6 dl lo gr : Int) : JS := ⟨227, [(1, .isl 3 d), (4, .lit (.int .i64 dl)), (6, .lit (.int .i64 gr)), (7, .ptr 4 0), (14, .lit (.bool false)), (15, .isl 6 d), (18, .ptr 7 0), (19, .ptr 8 0), (20, .ptr 9 0)], [(4, .cells [.lit (.int .i64 n), .isl 0 r, .isl 1 l, .isl 2 p, .lit (.int .i64 fall), .lit (.int .i64 win), .lit (.int .i64 hold), .lit (.int .i64 dawn), .lit (.int .i64 dusk)] 26 none), (6, .irow 3 1 d (fun k _ => lessF fr z pc k)), (7, .cells [.lit (.int .i64 n), .isl 10 (r + 1), .isl 1 l, .isl 2 p, .lit (.int .i64 fall), .lit (.int .i64 win), .lit (.int .i64 hold), .lit (.int .i64 dawn), .lit (.int .i64 dusk)] 26 none), (8, .cells [.lit (.int .i64 n), .isl 0 r, .isl 1 l, .isl 2 p, .lit (.int .i64 fall), .lit (.int .i64 win), .lit (.int .i64 (mnF 2880 hold lo)), .lit (.int .i64 dawn), .lit (.int .i64 dusk)] 26 none), (9, .cells [.lit (.int .i64 n), .isl 0 r, .lit (.slice none 0 0), .isl 2 p, .lit (.int .i64 (mnF 99999 fall gr)), .lit (.int .i64 win), .lit (.int .i64 hold), .lit (.int .i64 dawn), .lit (.int .i64 dusk)] 26 none), (10, .irow 77 7 (r + 1) (joinF r fr (rowOf [a0, a1, a2, a3, a4, a5, a6] 7)))], [(0, ⟨false, e1, 7, r, fr⟩), (1, ⟨false, e2, 3, l, fl⟩), (2, ⟨false, e3, 4, p, fp⟩), (3, ⟨false, e4, 1, d, z⟩)], 12⟩
noncomputable def NM11 (e1 e2 e3 e4 : TypeId) (r l p d : Nat) (fr fl fp z : Nat → Nat → Int) (n fall win hold dawn dusk pc a0 a1 a2 a3 a4 a5 a6 dl lo gr : Int) : JS := ⟨227, [(1, .isl 3 d), (4, .lit (.int .i64 dl)), (6, .lit (.int .i64 gr)), (7, .ptr 4 0), (14, .lit (.bool false)), (15, .isl 6 d), (18, .ptr 7 0), (19, .ptr 8 0), (20, .ptr 9 0)], [(4, .cells [.lit (.int .i64 n), .isl 0 r, .isl 1 l, .isl 2 p, .lit (.int .i64 fall), .lit (.int .i64 win), .lit (.int .i64 hold), .lit (.int .i64 dawn), .lit (.int .i64 dusk)] 26 none), (6, .irow 3 1 d (fun k _ => lessF fr z pc k)), (7, .cells [.lit (.int .i64 n), .isl 10 (r + 1), .isl 1 l, .isl 2 p, .lit (.int .i64 fall), .lit (.int .i64 win), .lit (.int .i64 hold), .lit (.int .i64 dawn), .lit (.int .i64 dusk)] 26 none), (8, .cells [.lit (.int .i64 n), .isl 0 r, .isl 1 l, .isl 2 p, .lit (.int .i64 fall), .lit (.int .i64 win), .lit (.int .i64 (mnF 2880 hold lo)), .lit (.int .i64 dawn), .lit (.int .i64 dusk)] 26 none), (9, .cells [.lit (.int .i64 n), .isl 0 r, .isl 11 l, .isl 2 p, .lit (.int .i64 (mnF 99999 fall gr)), .lit (.int .i64 win), .lit (.int .i64 hold), .lit (.int .i64 dawn), .lit (.int .i64 dusk)] 26 none), (10, .irow 77 7 (r + 1) (joinF r fr (rowOf [a0, a1, a2, a3, a4, a5, a6] 7))), (11, .irow 80 3 l (linkF fl gr l))], [(0, ⟨false, e1, 7, r, fr⟩), (1, ⟨false, e2, 3, l, fl⟩), (2, ⟨false, e3, 4, p, fp⟩), (3, ⟨false, e4, 1, d, z⟩)], 12⟩
noncomputable def JJ1 (e1 e2 e3 e4 : TypeId) (r l p d : Nat) (fr fl fp z : Nat → Nat → Int) (n fall win hold dawn dusk pc a0 a1 a2 a3 a4 a5 a6 dl lo gr : Int) : Nat → JS
  | 0 => JM0 e1 e2 e3 e4 r l p d fr fl fp z n fall win hold dawn dusk pc a0 a1 a2 a3 a4 a5 a6 dl lo gr
  | i + 1 => JM1 e1 e2 e3 e4 r l p d fr fl fp z n fall win hold dawn dusk pc a0 a1 a2 a3 a4 a5 a6 dl lo gr (i + 1)
structure FxM (e1 e2 e3 e4 : TypeId) (r l p d : Nat) (fr fl fp z : Nat → Nat → Int) (n fall win hold dawn dusk pc a0 a1 a2 a3 a4 a5 a6 dl lo gr : Int) : Prop where
  hw : watchB ⟨n, fall, win, hold, dawn, dusk⟩ (reps r fr) (lnks l fl) (prts p fp) = true
  hd : delB (reps r fr) (nums d z) = true
  c0 : 0 ≤ pc
  c1 : pc ≤ 100
  o0 : 0 ≤ lo
  o1 : lo ≤ 2880
  g0 : 0 ≤ gr
  g1 : gr ≤ 99999
  dr : d = r
  z0 : ∀ i, i < d → 0 ≤ fr i 3 ∧ fr i 3 ≤ z i 0 ∧ z i 0 ≤ 2880 ∧ 0 ≤ (z i 0 - fr i 3) * pc ∧ (z i 0 - fr i 3) * pc ≤ 288000 ∧ 0 ≤ ((z i 0 - fr i 3) * pc).tdiv 100 ∧ ((z i 0 - fr i 3) * pc).tdiv 100 ≤ z i 0 - fr i 3
  rl : r ≤ 9
  ll : l ≤ 8
  f0 : 1 ≤ fall
  f1 : fall ≤ 99999
  h0 : 1 ≤ hold
  h1 : hold ≤ 2880
  l0 : ∀ k, k < l → 1 ≤ fl k 2 ∧ fl k 2 ≤ 99999
theorem mkF (e1 e2 e3 e4 : TypeId) (r l p d : Nat) (fr fl fp z : Nat → Nat → Int) (n fall win hold dawn dusk pc a0 a1 a2 a3 a4 a5 a6 dl lo gr : Int) (hw : watchB ⟨n, fall, win, hold, dawn, dusk⟩ (reps r fr) (lnks l fl) (prts p fp) = true) (hd : delB (reps r fr) (nums d z) = true) (c0 : 0 ≤ pc) (c1 : pc ≤ 100) (o0 : 0 ≤ lo) (o1 : lo ≤ 2880) (g0 : 0 ≤ gr) (g1 : gr ≤ 99999) : FxM e1 e2 e3 e4 r l p d fr fl fp z n fall win hold dawn dusk pc a0 a1 a2 a3 a4 a5 a6 dl lo gr := by
  have hw' := hw
  unfold watchB ruleB betw reps lnks at hw'
  simp only [Bool.and_eq_true, decide_eq_true_eq, List.all_eq_true, List.mem_map, List.mem_range, List.length_map, List.length_range] at hw'
  obtain ⟨⟨⟨h0, hb⟩, hc⟩, _⟩ := hw'
  obtain ⟨dr, hz⟩ := del_nums.1 hd
  refine ⟨hw, hd, c0, c1, o0, o1, g0, g1, dr, fun i hi => ?_, by omega, by omega, by omega, by omega, by omega, by omega, fun k hk => ?_⟩
  · have a := hb _ ⟨i, by omega, rfl⟩
    have b := hz i (by omega)
    unfold repB spanB betw at a
    simp only [Bool.and_eq_true, decide_eq_true_eq] at a
    have e1 : 0 ≤ z i 0 - fr i 3 := by omega
    have e2 : z i 0 - fr i 3 ≤ 2880 := by omega
    have m1 : 0 ≤ (z i 0 - fr i 3) * pc := Int.mul_nonneg e1 c0
    have m2 : (z i 0 - fr i 3) * pc ≤ (z i 0 - fr i 3) * 100 := Int.mul_le_mul_of_nonneg_left c1 e1
    rw [Int.tdiv_eq_ediv_of_nonneg m1]
    generalize (z i 0 - fr i 3) * pc = q at m1 m2 ⊢
    omega
  · have a := hc _ ⟨k, hk, rfl⟩
    unfold lnkB betw at a
    simp only [Bool.and_eq_true, decide_eq_true_eq] at a
    omega
theorem tbM_ok : ∀ base, TabOK Tryz.prog tbM base :=
  mkTab_ok mixedP tyAll_ok (fun p hp => by
    rcases List.mem_cons.1 hp with rfl | hp
    · exact spKn
    rcases List.mem_cons.1 hp with rfl | hp
    · exact spSh
    rcases List.mem_cons.1 hp with rfl | hp
    · exact spWa
    rcases List.mem_cons.1 hp with rfl | hp
    · exact spDe
    rcases List.mem_cons.1 hp with rfl | hp
    · exact spPl
    rcases List.mem_cons.1 hp with rfl | hp
    · exact spSoo
    cases hp) (fun p hp => by cases hp)
theorem linkF_at (fl : Nat → Nat → Int) (gr : Int) (i : Nat) : linkF fl gr i i 2 = fl i 2 := by unfold linkF; rw [if_neg (by omega)]
theorem mnF_bounds {m a b : Int} (h : a ≤ m) (hb : 0 ≤ b) : a ≤ mnF m a b ∧ mnF m a b ≤ m := by unfold mnF; split <;> omega
theorem row_one {v : Int} {g : Nat → Nat → Int} (h : g 0 0 = v) : RowEq 1 1 (rowOf [v] 1) g := ⟨fun k j hk hj => by
  obtain rfl : k = 0 := by omega
  obtain rfl : j = 0 := by omega
  rw [h]; rfl⟩
theorem row_snoc {n : Nat} {v : Int} {f g : Nat → Nat → Int} (hf : ∀ k, k < n → f k 0 = g k 0) (h : g n 0 = v) : RowEq (n + 1) 1 (joinF n f (rowOf [v] 1)) g := ⟨fun k j hk hj => by
  obtain rfl : j = 0 := by omega
  unfold joinF
  split
  · rename_i hh; exact hf k hh
  · obtain rfl : k = n := by omega
    rw [h, Nat.sub_self]; rfl⟩
theorem row_join0 {n s : Nat} {f g : Nat → Nat → Int} (h : n = 0) : RowEq (n + 1) s g (joinF n f g) := ⟨fun k j hk hj => by
  unfold joinF
  rw [if_neg (by omega)]
  subst h; rfl⟩
theorem row_linkS (l i : Nat) (fl : Nat → Nat → Int) (gr : Int) : RowEq l 3 (supd (linkF fl gr i) (i : Int).toNat 2 [if linkF fl gr i (i : Int).toNat 2 + gr < 99999 then linkF fl gr i (i : Int).toNat 2 + gr else 99999]) (linkF fl gr (i + 1)) := ⟨fun k j hk hj => by
  simp only [Int.toNat_natCast, linkF_at]
  unfold supd
  by_cases h : k = i ∧ 2 ≤ j
  · rw [if_pos h]
    obtain ⟨rfl, h2⟩ := h
    obtain rfl : j = 2 := by omega
    show mnF 99999 (fl k 2) gr = linkF fl gr (k + 1) k 2
    unfold linkF
    rw [if_pos (show k < k + 1 ∧ 2 = 2 from ⟨by omega, rfl⟩)]
  · rw [if_neg h]
    unfold linkF
    by_cases h1 : k < i ∧ j = 2
    · rw [if_pos h1, if_pos ⟨by omega, h1.2⟩]
    · rw [if_neg h1, if_neg (by omega)]⟩
theorem fxLess0 (e1 e2 e3 e4 : TypeId) (r l p d : Nat) (fr fl fp z : Nat → Nat → Int) (n fall win hold dawn dusk pc a0 a1 a2 a3 a4 a5 a6 dl lo gr : Int) (F : FxM e1 e2 e3 e4 r l p d fr fl fp z n fall win hold dawn dusk pc a0 a1 a2 a3 a4 a5 a6 dl lo gr) (hd0 : d = 0) : soonB (playP ⟨n, fall, win, hold, dawn, dusk⟩ (reps r fr) (lnks l fl) (prts p fp) (nums 0 fun x x_1 => 0)).1 (playP ⟨n, fall, win, hold, dawn, dusk⟩ (reps r fr) (lnks l fl) (prts p fp) (nums 0 fun x x_1 => 0)).2 (playP ⟨n, fall, win, hold, dawn, dusk⟩ (reps r fr) (lnks l fl) (prts p fp) (nums d z)).1 (playP ⟨n, fall, win, hold, dawn, dusk⟩ (reps r fr) (lnks l fl) (prts p fp) (nums d z)).2 = true := by
  have h := less_play (z' := fun x x_1 => 0) F.hw F.hd (fun i hi => absurd hi (by omega))
  rw [hd0] at h ⊢
  exact h
theorem fxLess1 (e1 e2 e3 e4 : TypeId) (r l p d : Nat) (fr fl fp z : Nat → Nat → Int) (n fall win hold dawn dusk pc a0 a1 a2 a3 a4 a5 a6 dl lo gr : Int) (F : FxM e1 e2 e3 e4 r l p d fr fl fp z n fall win hold dawn dusk pc a0 a1 a2 a3 a4 a5 a6 dl lo gr) : soonB (playP ⟨n, fall, win, hold, dawn, dusk⟩ (reps r fr) (lnks l fl) (prts p fp) (nums d fun k x => lessF fr z pc k)).1 (playP ⟨n, fall, win, hold, dawn, dusk⟩ (reps r fr) (lnks l fl) (prts p fp) (nums d fun k x => lessF fr z pc k)).2 (playP ⟨n, fall, win, hold, dawn, dusk⟩ (reps r fr) (lnks l fl) (prts p fp) (nums d z)).1 (playP ⟨n, fall, win, hold, dawn, dusk⟩ (reps r fr) (lnks l fl) (prts p fp) (nums d z)).2 = true := less_play (z' := fun k x => lessF fr z pc k) F.hw F.hd (fun i hi => by
  have := F.z0 i hi
  unfold lessF
  omega)
theorem fxHold (e1 e2 e3 e4 : TypeId) (r l p d : Nat) (fr fl fp z : Nat → Nat → Int) (n fall win hold dawn dusk pc a0 a1 a2 a3 a4 a5 a6 dl lo gr : Int) (F : FxM e1 e2 e3 e4 r l p d fr fl fp z n fall win hold dawn dusk pc a0 a1 a2 a3 a4 a5 a6 dl lo gr) : soonB (playP ⟨n, fall, win, mnF 2880 hold lo, dawn, dusk⟩ (reps r fr) (lnks l fl) (prts p fp) (nums d z)).1 (playP ⟨n, fall, win, mnF 2880 hold lo, dawn, dusk⟩ (reps r fr) (lnks l fl) (prts p fp) (nums d z)).2 (playP ⟨n, fall, win, hold, dawn, dusk⟩ (reps r fr) (lnks l fl) (prts p fp) (nums d z)).1 (playP ⟨n, fall, win, hold, dawn, dusk⟩ (reps r fr) (lnks l fl) (prts p fp) (nums d z)).2 = true := hold_play F.hw F.hd (mnF_bounds F.h1 F.o0).1 (mnF_bounds F.h1 F.o0).2
theorem fxFall0 (e1 e2 e3 e4 : TypeId) (r l p d : Nat) (fr fl fp z : Nat → Nat → Int) (n fall win hold dawn dusk pc a0 a1 a2 a3 a4 a5 a6 dl lo gr : Int) (F : FxM e1 e2 e3 e4 r l p d fr fl fp z n fall win hold dawn dusk pc a0 a1 a2 a3 a4 a5 a6 dl lo gr) (hl0 : l = 0) : soonB (playP ⟨n, fall, win, hold, dawn, dusk⟩ (reps r fr) (lnks l fl) (prts p fp) (nums d z)).1 (playP ⟨n, fall, win, hold, dawn, dusk⟩ (reps r fr) (lnks l fl) (prts p fp) (nums d z)).2 (playP ⟨n, mnF 99999 fall gr, win, hold, dawn, dusk⟩ (reps r fr) (lnks 0 fun x x_1 => 0) (prts p fp) (nums d z)).1 (playP ⟨n, mnF 99999 fall gr, win, hold, dawn, dusk⟩ (reps r fr) (lnks 0 fun x x_1 => 0) (prts p fp) (nums d z)).2 = true := by
  have h := fall_play (fl' := fun x x_1 => 0) F.hw F.hd (mnF_bounds F.f1 F.g0).1 (mnF_bounds F.f1 F.g0).2 (fun k hk => absurd hk (by omega))
  rw [hl0] at h ⊢
  exact h
theorem fxFall1 (e1 e2 e3 e4 : TypeId) (r l p d : Nat) (fr fl fp z : Nat → Nat → Int) (n fall win hold dawn dusk pc a0 a1 a2 a3 a4 a5 a6 dl lo gr : Int) (F : FxM e1 e2 e3 e4 r l p d fr fl fp z n fall win hold dawn dusk pc a0 a1 a2 a3 a4 a5 a6 dl lo gr) : soonB (playP ⟨n, fall, win, hold, dawn, dusk⟩ (reps r fr) (lnks l fl) (prts p fp) (nums d z)).1 (playP ⟨n, fall, win, hold, dawn, dusk⟩ (reps r fr) (lnks l fl) (prts p fp) (nums d z)).2 (playP ⟨n, mnF 99999 fall gr, win, hold, dawn, dusk⟩ (reps r fr) (lnks l (linkF fl gr l)) (prts p fp) (nums d z)).1 (playP ⟨n, mnF 99999 fall gr, win, hold, dawn, dusk⟩ (reps r fr) (lnks l (linkF fl gr l)) (prts p fp) (nums d z)).2 = true := fall_play F.hw F.hd (mnF_bounds F.f1 F.g0).1 (mnF_bounds F.f1 F.g0).2 (fun k hk => by
  have a := F.l0 k hk
  have b := mnF_bounds a.2 F.g0
  unfold linkF
  rw [if_neg (by omega), if_neg (by omega), if_pos ⟨hk, rfl⟩]
  exact ⟨rfl, rfl, b.1, b.2⟩)
theorem join_at {n k j : Nat} {f g : Nat → Nat → Int} (h : k < n) : joinF n f g k j = f k j := by unfold joinF; rw [if_pos h]
theorem fxMore1 (e1 e2 e3 e4 : TypeId) (r l p d : Nat) (fr fl fp z : Nat → Nat → Int) (n fall win hold dawn dusk pc a0 a1 a2 a3 a4 a5 a6 dl lo gr : Int) (F : FxM e1 e2 e3 e4 r l p d fr fl fp z n fall win hold dawn dusk pc a0 a1 a2 a3 a4 a5 a6 dl lo gr) (hw' : watchB ⟨n, fall, win, hold, dawn, dusk⟩ (reps (r + 1) (joinF r fr (rowOf [a0, a1, a2, a3, a4, a5, a6] 7))) (lnks l fl) (prts p fp) = true) (hd' : delB (reps (r + 1) (joinF r fr (rowOf [a0, a1, a2, a3, a4, a5, a6] 7))) (nums (d + 1) (joinF d z (rowOf [dl] 1))) = true) : soonB (playP ⟨n, fall, win, hold, dawn, dusk⟩ (reps (r + 1) (joinF r fr (rowOf [a0, a1, a2, a3, a4, a5, a6] 7))) (lnks l fl) (prts p fp) (nums (d + 1) (joinF d z (rowOf [dl] 1)))).1 (playP ⟨n, fall, win, hold, dawn, dusk⟩ (reps (r + 1) (joinF r fr (rowOf [a0, a1, a2, a3, a4, a5, a6] 7))) (lnks l fl) (prts p fp) (nums (d + 1) (joinF d z (rowOf [dl] 1)))).2 (playP ⟨n, fall, win, hold, dawn, dusk⟩ (reps r fr) (lnks l fl) (prts p fp) (nums d z)).1 (playP ⟨n, fall, win, hold, dawn, dusk⟩ (reps r fr) (lnks l fl) (prts p fp) (nums d z)).2 = true := more_play F.hw F.hd hw' hd' (fun k j hk hj => join_at hk) (fun k hk => join_at hk)
theorem fxMore0 (e1 e2 e3 e4 : TypeId) (r l p d : Nat) (fr fl fp z : Nat → Nat → Int) (n fall win hold dawn dusk pc a0 a1 a2 a3 a4 a5 a6 dl lo gr : Int) (F : FxM e1 e2 e3 e4 r l p d fr fl fp z n fall win hold dawn dusk pc a0 a1 a2 a3 a4 a5 a6 dl lo gr) (hd0 : d = 0) (hw' : watchB ⟨n, fall, win, hold, dawn, dusk⟩ (reps (r + 1) (joinF r fr (rowOf [a0, a1, a2, a3, a4, a5, a6] 7))) (lnks l fl) (prts p fp) = true) (hd' : delB (reps (r + 1) (joinF r fr (rowOf [a0, a1, a2, a3, a4, a5, a6] 7))) (nums 1 (rowOf [dl] 1)) = true) : soonB (playP ⟨n, fall, win, hold, dawn, dusk⟩ (reps (r + 1) (joinF r fr (rowOf [a0, a1, a2, a3, a4, a5, a6] 7))) (lnks l fl) (prts p fp) (nums 1 (rowOf [dl] 1))).1 (playP ⟨n, fall, win, hold, dawn, dusk⟩ (reps (r + 1) (joinF r fr (rowOf [a0, a1, a2, a3, a4, a5, a6] 7))) (lnks l fl) (prts p fp) (nums 1 (rowOf [dl] 1))).2 (playP ⟨n, fall, win, hold, dawn, dusk⟩ (reps r fr) (lnks l fl) (prts p fp) (nums d z)).1 (playP ⟨n, fall, win, hold, dawn, dusk⟩ (reps r fr) (lnks l fl) (prts p fp) (nums d z)).2 = true := by
  have e : (nums (d + 1) (rowOf [dl] 1)) = nums 1 (rowOf [dl] 1) := by rw [hd0]
  have h := more_play (z' := rowOf [dl] 1) F.hw F.hd hw' (by rw [e]; exact hd') (fun k j hk hj => join_at hk) (fun k hk => absurd hk (by omega))
  rw [e] at h
  exact h
end PartOfKd
end Go.Proofs.YtbjffjnmjkogkaaGreat.GY
