/- The law isobar/isobarlaw07.KiteLevels. -/
import Derived.Test.YtknplcpjmpmblaaDoorKry
set_option linter.unusedVariables false
set_option linter.unusedSimpArgs false
namespace Go.Proofs.YtknplcpjmpmblaaDoor.GY
open Go Go.RowKit Go.Proofs
theorem av_cases (lo hi : Int) (r : Nat) (fm : Nat → Nat → Int) (h : Int) : (TrB lo hi r fm = false ∧ avE lo hi r fm h = 2 ∧ avC lo hi r fm h = 0 ∧ avS lo hi r fm h = 0) ∨ (TrB lo hi r fm = true ∧ ¬ (-100000 ≤ h ∧ h ≤ 100000) ∧ avE lo hi r fm h = 2 ∧ avC lo hi r fm h = 0 ∧ avS lo hi r fm h = 0) ∨
    (TrB lo hi r fm = true ∧ (-100000 ≤ h ∧ h ≤ 100000) ∧ canF lo hi r fm h 0 < 0 ∧ avE lo hi r fm h = 5 ∧ avC lo hi r fm h = 0 ∧ avS lo hi r fm h = 0) ∨ (TrB lo hi r fm = true ∧ (-100000 ≤ h ∧ h ≤ 100000) ∧ ¬ canF lo hi r fm h 0 < 0 ∧ avE lo hi r fm h = 0 ∧ avC lo hi r fm h = canF lo hi r fm h 0 ∧ avS lo hi r fm h = sureF lo hi r fm h 0) := by
  cases h1 : TrB lo hi r fm
  · exact .inl ⟨rfl, by simp [avE, okA, h1], by simp [avC, okA, h1], by simp [avS, okA, h1]⟩
  by_cases h2 : -100000 ≤ h ∧ h ≤ 100000
  rotate_left
  · exact .inr (.inl ⟨rfl, h2, by simp [avE, okA, h1, h2], by simp [avC, okA, h1, h2], by simp [avS, okA, h1, h2]⟩)
  by_cases h3 : canF lo hi r fm h 0 < 0
  · exact .inr (.inr (.inl ⟨rfl, h2, h3, by simp [avE, okA, h1, h2, h3], by simp [avC, okA, h1, h2, h3], by simp [avS, okA, h1, h2, h3]⟩))
  · exact .inr (.inr (.inr ⟨rfl, h2, h3, by simp [avE, okA, h1, h2, h3], by simp [avC, okA, h1, h2, h3], by simp [avS, okA, h1, h2, h3]⟩))
noncomputable def tbLv : Tab := lTab [6, 26, 27, 65, 32] [(76, FTr), (77, FLe), (28, FAv), (29, FRt), (31, FLv), (30, FSs), (33, FAb), (74, FRin)] []
set_option maxRecDepth 100000 in
set_option maxHeartbeats 2000000 in
theorem lawLv (lo hi h : Int) (r : Nat) (fm : Nat → Nat → Int) {w : World} (hs : SinAt w) {A1 : Option Addr} {c1 : Nat} (h1 : Reads1 w 0 (.slice A1 r c1) (.rows 0 3 r fm)) : Calls Tryd.prog 6 #[.agg #[.int .i64 lo, .int .i64 hi, .slice A1 r c1], .int .i64 h] w fun e w' => e = .returned (.bool true) ∧ Below w.heap.size w w' := by
  have hB : TabOK Tryd.prog tbLv ⟨w.heap.size, w⟩ := lTab_ok hs (fun p hp => by
      rcases List.mem_cons.1 hp with rfl | hp
      · exact spTr
      rcases List.mem_cons.1 hp with rfl | hp
      · exact spLe
      rcases List.mem_cons.1 hp with rfl | hp
      · exact spAv
      rcases List.mem_cons.1 hp with rfl | hp
      · exact spRt
      rcases List.mem_cons.1 hp with rfl | hp
      · exact spLv
      rcases List.mem_cons.1 hp with rfl | hp
      · exact spSs
      rcases List.mem_cons.1 hp with rfl | hp
      · exact spAb
      rcases List.mem_cons.1 hp with rfl | hp
      · exact spRin
      cases hp) (fun p hp => by cases hp)
  refine law_true (vs := [.agg #[.int .i64 lo, .int .i64 hi, .slice A1 r c1], .int .i64 h]) (law_body (gs := [.agg [.lit (.int .i64 lo), .lit (.int .i64 hi), .rows 0 3 r fm], .lit (.int .i64 h)]) hB Tryd.func6 (by kernel_rfl) ⟨⟨[_, _, _], rfl, rfl, rfl, h1, trivial⟩, rfl, trivial⟩ rfl (Nat.le_of_ble_eq_true (by kernel_rfl)) (Nat.le_of_ble_eq_true (by kernel_rfl)) fun E hE => ?_)
  have hR1 : TrB lo hi r fm = true → ¬ ((r : Int) = 0) := fun h => by have := (TrB_out h).r1; omega
  rcases av_cases lo hi r fm h with ⟨g1, g2, g3, g4⟩ | ⟨g1, g0, g2, g3, g4⟩ | ⟨g1, g0, g5, g2, g3, g4⟩ | ⟨g1, g0, g5, g2, g3, g4⟩
  all_goals
    cases ht0 : (!decide ((↑r : Int) ≤ 11))
    · have hp0 := ht0
      try simp only [decide_eq_true_eq, decide_eq_false_iff_not, Bool.not_eq_true', Bool.not_eq_false', Bool.not_eq_eq_eq_not, Bool.not_true, Bool.not_false] at hp0
      try simp only [reduceCtorEq, not_true_eq_false, isEq, decide_true, Bool.and_true, Bool.true_and, Bool.and_eq_true, Bool.and_eq_false_iff, decide_eq_true_eq, decide_eq_false_iff_not] at hp0
      all_goals first | (exfalso; omega) | (exfalso; simp_all; done) | skip
      all_goals
        cases ht1 : (!TrB lo hi r fm)
        · have hp1 := ht1
          try simp only [decide_eq_true_eq, decide_eq_false_iff_not, Bool.not_eq_true', Bool.not_eq_false', Bool.not_eq_eq_eq_not, Bool.not_true, Bool.not_false] at hp1
          try simp only [reduceCtorEq, not_true_eq_false, isEq, decide_true, Bool.and_true, Bool.true_and, Bool.and_eq_true, Bool.and_eq_false_iff, decide_eq_true_eq, decide_eq_false_iff_not] at hp1
          all_goals first | (exfalso; omega) | (exfalso; simp_all; done) | skip
          all_goals
            cases ht2 : (false)
            · have hp2 := ht2
              try simp only [decide_eq_true_eq, decide_eq_false_iff_not, Bool.not_eq_true', Bool.not_eq_false', Bool.not_eq_eq_eq_not, Bool.not_true, Bool.not_false] at hp2
              try simp only [reduceCtorEq, not_true_eq_false, isEq, decide_true, Bool.and_true, Bool.true_and, Bool.and_eq_true, Bool.and_eq_false_iff, decide_eq_true_eq, decide_eq_false_iff_not] at hp2
              all_goals first | (exfalso; omega) | (exfalso; simp_all; done) | skip
              all_goals
                cases ht3 : (!TrB lo hi r fm)
                · have hp3 := ht3
                  try simp only [decide_eq_true_eq, decide_eq_false_iff_not, Bool.not_eq_true', Bool.not_eq_false', Bool.not_eq_eq_eq_not, Bool.not_true, Bool.not_false] at hp3
                  try simp only [reduceCtorEq, not_true_eq_false, isEq, decide_true, Bool.and_true, Bool.true_and, Bool.and_eq_true, Bool.and_eq_false_iff, decide_eq_true_eq, decide_eq_false_iff_not] at hp3
                  all_goals first | (exfalso; omega) | (exfalso; simp_all; done) | skip
                  all_goals
                    cases ht4 : (false)
                    · have hp4 := ht4
                      try simp only [decide_eq_true_eq, decide_eq_false_iff_not, Bool.not_eq_true', Bool.not_eq_false', Bool.not_eq_eq_eq_not, Bool.not_true, Bool.not_false] at hp4
                      try simp only [reduceCtorEq, not_true_eq_false, isEq, decide_true, Bool.and_true, Bool.true_and, Bool.and_eq_true, Bool.and_eq_false_iff, decide_eq_true_eq, decide_eq_false_iff_not] at hp4
                      all_goals first | (exfalso; omega) | (exfalso; simp_all; done) | skip
                      all_goals
                        cases ht5 : (false)
                        · have hp5 := ht5
                          try simp only [decide_eq_true_eq, decide_eq_false_iff_not, Bool.not_eq_true', Bool.not_eq_false', Bool.not_eq_eq_eq_not, Bool.not_true, Bool.not_false] at hp5
                          try simp only [reduceCtorEq, not_true_eq_false, isEq, decide_true, Bool.and_true, Bool.true_and, Bool.and_eq_true, Bool.and_eq_false_iff, decide_eq_true_eq, decide_eq_false_iff_not] at hp5
                          all_goals first | (exfalso; omega) | (exfalso; simp_all; done) | skip
                          all_goals
                            cases ht6 : (!decide (-100000 ≤ h ∧ h ≤ 100000))
                            · have hp6 := ht6
                              try simp only [decide_eq_true_eq, decide_eq_false_iff_not, Bool.not_eq_true', Bool.not_eq_false', Bool.not_eq_eq_eq_not, Bool.not_true, Bool.not_false] at hp6
                              try simp only [reduceCtorEq, not_true_eq_false, isEq, decide_true, Bool.and_true, Bool.true_and, Bool.and_eq_true, Bool.and_eq_false_iff, decide_eq_true_eq, decide_eq_false_iff_not] at hp6
                              all_goals first | (exfalso; omega) | (exfalso; simp_all; done) | skip
                              all_goals
                                cases ht7 : (decide (canF lo hi r fm h 0 < 0))
                                · have hp7 := ht7
                                  try simp only [decide_eq_true_eq, decide_eq_false_iff_not, Bool.not_eq_true', Bool.not_eq_false', Bool.not_eq_eq_eq_not, Bool.not_true, Bool.not_false] at hp7
                                  try simp only [reduceCtorEq, not_true_eq_false, isEq, decide_true, Bool.and_true, Bool.true_and, Bool.and_eq_true, Bool.and_eq_false_iff, decide_eq_true_eq, decide_eq_false_iff_not] at hp7
                                  all_goals first | (exfalso; omega) | (exfalso; simp_all; done) | skip
                                  all_goals
                                    cases ht8 : (decide (avE lo hi r fm h = 0))
                                    · have hp8 := ht8
                                      try simp only [decide_eq_true_eq, decide_eq_false_iff_not, Bool.not_eq_true', Bool.not_eq_false', Bool.not_eq_eq_eq_not, Bool.not_true, Bool.not_false] at hp8
                                      try simp only [reduceCtorEq, not_true_eq_false, isEq, decide_true, Bool.and_true, Bool.true_and, Bool.and_eq_true, Bool.and_eq_false_iff, decide_eq_true_eq, decide_eq_false_iff_not] at hp8
                                      all_goals first | (exfalso; omega) | (exfalso; simp_all; done) | skip
                                      all_goals
                                        refine Tri.path hB 200 [false, false, false, false, false, false, false, false, false] (of_skel (q := (EqB (decide (avE lo hi r fm h = 0)) false ∧ EqB (decide (canF lo hi r fm h 0 < 0)) false ∧ LeN r r ∧ TrOK lo hi r fm ∧ EqB (!decide (-100000 ≤ h ∧ h ≤ 100000)) false ∧ EqB false false ∧ LeN r r ∧ LeN r r ∧ EqN r r ∧ LeN r 100000 ∧ (∀ (i : Nat), i < r → (lvF lo hi (fm)) i 0 = (lvF lo hi (fm)) i 0 ∧ (lvF lo hi (fm)) i 1 = (lvF lo hi (fm)) i 1) ∧ LeN r r ∧ TrOK lo hi r fm ∧ EqB false false ∧ EqB (!TrB lo hi r fm) false ∧ LeN r r ∧ LeN r 1000000000000 ∧ LeN r r ∧ LeN r r ∧ TrOK lo hi r fm ∧ EqB false false ∧ EqB (!TrB lo hi r fm) false ∧ LeN r r ∧ EqB (!decide ((↑r : Int) ≤ 11)) false ∧ True) ∧ (EqB false true ∧ True) ∧ True) (by kernel_rfl) ?_)
                                        ((repeat' apply And.intro) <;> first | assumption | exact trivial | exact ⟨rfl⟩ | (refine ⟨?_⟩; assumption) | (refine inR64 ?_ ?_ <;> omega) | (refine ⟨?_⟩; omega) | (refine ⟨?_⟩; rw [Bool.eq_iff_iff]; simp only [decide_eq_true_eq, decide_eq_false_iff_not, Bool.false_eq_true, Bool.true_eq_false, Bool.not_eq_true', Bool.and_eq_true, Bool.or_eq_true, Bool.not_eq_false', false_iff, iff_false, true_iff, iff_true]; omega) | (exfalso; omega) | (exact TrB_out (by assumption)) | (refine ⟨?_⟩; have h8 := (TrB_out (by assumption)).r8; omega) | (exact fun _ _ => ⟨rfl, rfl⟩))
                                    · have hp8 := ht8
                                      try simp only [decide_eq_true_eq, decide_eq_false_iff_not, Bool.not_eq_true', Bool.not_eq_false', Bool.not_eq_eq_eq_not, Bool.not_true, Bool.not_false] at hp8
                                      try simp only [reduceCtorEq, not_true_eq_false, isEq, decide_true, Bool.and_true, Bool.true_and, Bool.and_eq_true, Bool.and_eq_false_iff, decide_eq_true_eq, decide_eq_false_iff_not] at hp8
                                      all_goals first | (exfalso; omega) | (exfalso; simp_all; done) | skip
                                      all_goals
                                        cases ht9 : (decide (avC lo hi r fm h = canF lo hi r fm h 0))
                                        · have hp9 := ht9
                                          try simp only [decide_eq_true_eq, decide_eq_false_iff_not, Bool.not_eq_true', Bool.not_eq_false', Bool.not_eq_eq_eq_not, Bool.not_true, Bool.not_false] at hp9
                                          try simp only [reduceCtorEq, not_true_eq_false, isEq, decide_true, Bool.and_true, Bool.true_and, Bool.and_eq_true, Bool.and_eq_false_iff, decide_eq_true_eq, decide_eq_false_iff_not] at hp9
                                          all_goals first | (exfalso; omega) | (exfalso; simp_all; done) | skip
                                          all_goals
                                            refine Tri.path hB 200 [false, false, false, false, false, false, false, false, true, false] (of_skel (q := (EqB (decide (avC lo hi r fm h = canF lo hi r fm h 0)) false ∧ EqB (decide (avE lo hi r fm h = 0)) true ∧ EqB (decide (canF lo hi r fm h 0 < 0)) false ∧ LeN r r ∧ TrOK lo hi r fm ∧ EqB (!decide (-100000 ≤ h ∧ h ≤ 100000)) false ∧ EqB false false ∧ LeN r r ∧ LeN r r ∧ EqN r r ∧ LeN r 100000 ∧ (∀ (i : Nat), i < r → (lvF lo hi (fm)) i 0 = (lvF lo hi (fm)) i 0 ∧ (lvF lo hi (fm)) i 1 = (lvF lo hi (fm)) i 1) ∧ LeN r r ∧ TrOK lo hi r fm ∧ EqB false false ∧ EqB (!TrB lo hi r fm) false ∧ LeN r r ∧ LeN r 1000000000000 ∧ LeN r r ∧ LeN r r ∧ TrOK lo hi r fm ∧ EqB false false ∧ EqB (!TrB lo hi r fm) false ∧ LeN r r ∧ EqB (!decide ((↑r : Int) ≤ 11)) false ∧ True) ∧ (EqB false true ∧ True) ∧ True) (by kernel_rfl) ?_)
                                            ((repeat' apply And.intro) <;> first | assumption | exact trivial | exact ⟨rfl⟩ | (refine ⟨?_⟩; assumption) | (refine inR64 ?_ ?_ <;> omega) | (refine ⟨?_⟩; omega) | (refine ⟨?_⟩; rw [Bool.eq_iff_iff]; simp only [decide_eq_true_eq, decide_eq_false_iff_not, Bool.false_eq_true, Bool.true_eq_false, Bool.not_eq_true', Bool.and_eq_true, Bool.or_eq_true, Bool.not_eq_false', false_iff, iff_false, true_iff, iff_true]; omega) | (exfalso; omega) | (exact TrB_out (by assumption)) | (refine ⟨?_⟩; have h8 := (TrB_out (by assumption)).r8; omega) | (exact fun _ _ => ⟨rfl, rfl⟩))
                                        · have hp9 := ht9
                                          try simp only [decide_eq_true_eq, decide_eq_false_iff_not, Bool.not_eq_true', Bool.not_eq_false', Bool.not_eq_eq_eq_not, Bool.not_true, Bool.not_false] at hp9
                                          try simp only [reduceCtorEq, not_true_eq_false, isEq, decide_true, Bool.and_true, Bool.true_and, Bool.and_eq_true, Bool.and_eq_false_iff, decide_eq_true_eq, decide_eq_false_iff_not] at hp9
                                          all_goals first | (exfalso; omega) | (exfalso; simp_all; done) | skip
                                          all_goals
                                            cases ht10 : (decide (avS lo hi r fm h = sureF lo hi r fm h 0))
                                            · have hp10 := ht10
                                              try simp only [decide_eq_true_eq, decide_eq_false_iff_not, Bool.not_eq_true', Bool.not_eq_false', Bool.not_eq_eq_eq_not, Bool.not_true, Bool.not_false] at hp10
                                              try simp only [reduceCtorEq, not_true_eq_false, isEq, decide_true, Bool.and_true, Bool.true_and, Bool.and_eq_true, Bool.and_eq_false_iff, decide_eq_true_eq, decide_eq_false_iff_not] at hp10
                                              all_goals first | (exfalso; omega) | (exfalso; simp_all; done) | skip
                                              all_goals
                                                refine Tri.path hB 200 [false, false, false, false, false, false, false, false, true, true, false] (of_skel (q := (EqB (decide (avS lo hi r fm h = sureF lo hi r fm h 0)) false ∧ EqB (decide (avC lo hi r fm h = canF lo hi r fm h 0)) true ∧ EqB (decide (avE lo hi r fm h = 0)) true ∧ EqB (decide (canF lo hi r fm h 0 < 0)) false ∧ LeN r r ∧ TrOK lo hi r fm ∧ EqB (!decide (-100000 ≤ h ∧ h ≤ 100000)) false ∧ EqB false false ∧ LeN r r ∧ LeN r r ∧ EqN r r ∧ LeN r 100000 ∧ (∀ (i : Nat), i < r → (lvF lo hi (fm)) i 0 = (lvF lo hi (fm)) i 0 ∧ (lvF lo hi (fm)) i 1 = (lvF lo hi (fm)) i 1) ∧ LeN r r ∧ TrOK lo hi r fm ∧ EqB false false ∧ EqB (!TrB lo hi r fm) false ∧ LeN r r ∧ LeN r 1000000000000 ∧ LeN r r ∧ LeN r r ∧ TrOK lo hi r fm ∧ EqB false false ∧ EqB (!TrB lo hi r fm) false ∧ LeN r r ∧ EqB (!decide ((↑r : Int) ≤ 11)) false ∧ True) ∧ (EqB false true ∧ True) ∧ True) (by kernel_rfl) ?_)
                                                ((repeat' apply And.intro) <;> first | assumption | exact trivial | exact ⟨rfl⟩ | (refine ⟨?_⟩; assumption) | (refine inR64 ?_ ?_ <;> omega) | (refine ⟨?_⟩; omega) | (refine ⟨?_⟩; rw [Bool.eq_iff_iff]; simp only [decide_eq_true_eq, decide_eq_false_iff_not, Bool.false_eq_true, Bool.true_eq_false, Bool.not_eq_true', Bool.and_eq_true, Bool.or_eq_true, Bool.not_eq_false', false_iff, iff_false, true_iff, iff_true]; omega) | (exfalso; omega) | (exact TrB_out (by assumption)) | (refine ⟨?_⟩; have h8 := (TrB_out (by assumption)).r8; omega) | (exact fun _ _ => ⟨rfl, rfl⟩))
                                            · have hp10 := ht10
                                              try simp only [decide_eq_true_eq, decide_eq_false_iff_not, Bool.not_eq_true', Bool.not_eq_false', Bool.not_eq_eq_eq_not, Bool.not_true, Bool.not_false] at hp10
                                              try simp only [reduceCtorEq, not_true_eq_false, isEq, decide_true, Bool.and_true, Bool.true_and, Bool.and_eq_true, Bool.and_eq_false_iff, decide_eq_true_eq, decide_eq_false_iff_not] at hp10
                                              all_goals first | (exfalso; omega) | (exfalso; simp_all; done) | skip
                                              all_goals
                                                refine Tri.path hB 200 [false, false, false, false, false, false, false, false, true, true, true] (of_skel (q := (EqB (decide (avS lo hi r fm h = sureF lo hi r fm h 0)) true ∧ EqB (decide (avC lo hi r fm h = canF lo hi r fm h 0)) true ∧ EqB (decide (avE lo hi r fm h = 0)) true ∧ EqB (decide (canF lo hi r fm h 0 < 0)) false ∧ LeN r r ∧ TrOK lo hi r fm ∧ EqB (!decide (-100000 ≤ h ∧ h ≤ 100000)) false ∧ EqB false false ∧ LeN r r ∧ LeN r r ∧ EqN r r ∧ LeN r 100000 ∧ (∀ (i : Nat), i < r → (lvF lo hi (fm)) i 0 = (lvF lo hi (fm)) i 0 ∧ (lvF lo hi (fm)) i 1 = (lvF lo hi (fm)) i 1) ∧ LeN r r ∧ TrOK lo hi r fm ∧ EqB false false ∧ EqB (!TrB lo hi r fm) false ∧ LeN r r ∧ LeN r 1000000000000 ∧ LeN r r ∧ LeN r r ∧ TrOK lo hi r fm ∧ EqB false false ∧ EqB (!TrB lo hi r fm) false ∧ LeN r r ∧ EqB (!decide ((↑r : Int) ≤ 11)) false ∧ True) ∧ (EqB true true ∧ True) ∧ True) (by kernel_rfl) ?_)
                                                ((repeat' apply And.intro) <;> first | assumption | exact trivial | exact ⟨rfl⟩ | (refine ⟨?_⟩; assumption) | (refine inR64 ?_ ?_ <;> omega) | (refine ⟨?_⟩; omega) | (refine ⟨?_⟩; rw [Bool.eq_iff_iff]; simp only [decide_eq_true_eq, decide_eq_false_iff_not, Bool.false_eq_true, Bool.true_eq_false, Bool.not_eq_true', Bool.and_eq_true, Bool.or_eq_true, Bool.not_eq_false', false_iff, iff_false, true_iff, iff_true]; omega) | (exfalso; omega) | (exact TrB_out (by assumption)) | (refine ⟨?_⟩; have h8 := (TrB_out (by assumption)).r8; omega) | (exact fun _ _ => ⟨rfl, rfl⟩))
                                · have hp7 := ht7
                                  try simp only [decide_eq_true_eq, decide_eq_false_iff_not, Bool.not_eq_true', Bool.not_eq_false', Bool.not_eq_eq_eq_not, Bool.not_true, Bool.not_false] at hp7
                                  try simp only [reduceCtorEq, not_true_eq_false, isEq, decide_true, Bool.and_true, Bool.true_and, Bool.and_eq_true, Bool.and_eq_false_iff, decide_eq_true_eq, decide_eq_false_iff_not] at hp7
                                  all_goals first | (exfalso; omega) | (exfalso; simp_all; done) | skip
                                  all_goals
                                    cases ht8 : (decide (avE lo hi r fm h = 5))
                                    · have hp8 := ht8
                                      try simp only [decide_eq_true_eq, decide_eq_false_iff_not, Bool.not_eq_true', Bool.not_eq_false', Bool.not_eq_eq_eq_not, Bool.not_true, Bool.not_false] at hp8
                                      try simp only [reduceCtorEq, not_true_eq_false, isEq, decide_true, Bool.and_true, Bool.true_and, Bool.and_eq_true, Bool.and_eq_false_iff, decide_eq_true_eq, decide_eq_false_iff_not] at hp8
                                      all_goals first | (exfalso; omega) | (exfalso; simp_all; done) | skip
                                      all_goals
                                        refine Tri.path hB 200 [false, false, false, false, false, false, false, true, false] (of_skel (q := (EqB (decide (avE lo hi r fm h = 5)) false ∧ EqB (decide (canF lo hi r fm h 0 < 0)) true ∧ LeN r r ∧ TrOK lo hi r fm ∧ EqB (!decide (-100000 ≤ h ∧ h ≤ 100000)) false ∧ EqB false false ∧ LeN r r ∧ LeN r r ∧ EqN r r ∧ LeN r 100000 ∧ (∀ (i : Nat), i < r → (lvF lo hi (fm)) i 0 = (lvF lo hi (fm)) i 0 ∧ (lvF lo hi (fm)) i 1 = (lvF lo hi (fm)) i 1) ∧ LeN r r ∧ TrOK lo hi r fm ∧ EqB false false ∧ EqB (!TrB lo hi r fm) false ∧ LeN r r ∧ LeN r 1000000000000 ∧ LeN r r ∧ LeN r r ∧ TrOK lo hi r fm ∧ EqB false false ∧ EqB (!TrB lo hi r fm) false ∧ LeN r r ∧ EqB (!decide ((↑r : Int) ≤ 11)) false ∧ True) ∧ (EqB false true ∧ True) ∧ True) (by kernel_rfl) ?_)
                                        ((repeat' apply And.intro) <;> first | assumption | exact trivial | exact ⟨rfl⟩ | (refine ⟨?_⟩; assumption) | (refine inR64 ?_ ?_ <;> omega) | (refine ⟨?_⟩; omega) | (refine ⟨?_⟩; rw [Bool.eq_iff_iff]; simp only [decide_eq_true_eq, decide_eq_false_iff_not, Bool.false_eq_true, Bool.true_eq_false, Bool.not_eq_true', Bool.and_eq_true, Bool.or_eq_true, Bool.not_eq_false', false_iff, iff_false, true_iff, iff_true]; omega) | (exfalso; omega) | (exact TrB_out (by assumption)) | (refine ⟨?_⟩; have h8 := (TrB_out (by assumption)).r8; omega) | (exact fun _ _ => ⟨rfl, rfl⟩))
                                    · have hp8 := ht8
                                      try simp only [decide_eq_true_eq, decide_eq_false_iff_not, Bool.not_eq_true', Bool.not_eq_false', Bool.not_eq_eq_eq_not, Bool.not_true, Bool.not_false] at hp8
                                      try simp only [reduceCtorEq, not_true_eq_false, isEq, decide_true, Bool.and_true, Bool.true_and, Bool.and_eq_true, Bool.and_eq_false_iff, decide_eq_true_eq, decide_eq_false_iff_not] at hp8
                                      all_goals first | (exfalso; omega) | (exfalso; simp_all; done) | skip
                                      all_goals
                                        cases ht9 : (decide (avC lo hi r fm h = 0))
                                        · have hp9 := ht9
                                          try simp only [decide_eq_true_eq, decide_eq_false_iff_not, Bool.not_eq_true', Bool.not_eq_false', Bool.not_eq_eq_eq_not, Bool.not_true, Bool.not_false] at hp9
                                          try simp only [reduceCtorEq, not_true_eq_false, isEq, decide_true, Bool.and_true, Bool.true_and, Bool.and_eq_true, Bool.and_eq_false_iff, decide_eq_true_eq, decide_eq_false_iff_not] at hp9
                                          all_goals first | (exfalso; omega) | (exfalso; simp_all; done) | skip
                                          all_goals
                                            refine Tri.path hB 200 [false, false, false, false, false, false, false, true, true, false] (of_skel (q := (EqB (decide (avC lo hi r fm h = 0)) false ∧ EqB (decide (avE lo hi r fm h = 5)) true ∧ EqB (decide (canF lo hi r fm h 0 < 0)) true ∧ LeN r r ∧ TrOK lo hi r fm ∧ EqB (!decide (-100000 ≤ h ∧ h ≤ 100000)) false ∧ EqB false false ∧ LeN r r ∧ LeN r r ∧ EqN r r ∧ LeN r 100000 ∧ (∀ (i : Nat), i < r → (lvF lo hi (fm)) i 0 = (lvF lo hi (fm)) i 0 ∧ (lvF lo hi (fm)) i 1 = (lvF lo hi (fm)) i 1) ∧ LeN r r ∧ TrOK lo hi r fm ∧ EqB false false ∧ EqB (!TrB lo hi r fm) false ∧ LeN r r ∧ LeN r 1000000000000 ∧ LeN r r ∧ LeN r r ∧ TrOK lo hi r fm ∧ EqB false false ∧ EqB (!TrB lo hi r fm) false ∧ LeN r r ∧ EqB (!decide ((↑r : Int) ≤ 11)) false ∧ True) ∧ (EqB false true ∧ True) ∧ True) (by kernel_rfl) ?_)
                                            ((repeat' apply And.intro) <;> first | assumption | exact trivial | exact ⟨rfl⟩ | (refine ⟨?_⟩; assumption) | (refine inR64 ?_ ?_ <;> omega) | (refine ⟨?_⟩; omega) | (refine ⟨?_⟩; rw [Bool.eq_iff_iff]; simp only [decide_eq_true_eq, decide_eq_false_iff_not, Bool.false_eq_true, Bool.true_eq_false, Bool.not_eq_true', Bool.and_eq_true, Bool.or_eq_true, Bool.not_eq_false', false_iff, iff_false, true_iff, iff_true]; omega) | (exfalso; omega) | (exact TrB_out (by assumption)) | (refine ⟨?_⟩; have h8 := (TrB_out (by assumption)).r8; omega) | (exact fun _ _ => ⟨rfl, rfl⟩))
                                        · have hp9 := ht9
                                          try simp only [decide_eq_true_eq, decide_eq_false_iff_not, Bool.not_eq_true', Bool.not_eq_false', Bool.not_eq_eq_eq_not, Bool.not_true, Bool.not_false] at hp9
                                          try simp only [reduceCtorEq, not_true_eq_false, isEq, decide_true, Bool.and_true, Bool.true_and, Bool.and_eq_true, Bool.and_eq_false_iff, decide_eq_true_eq, decide_eq_false_iff_not] at hp9
                                          all_goals first | (exfalso; omega) | (exfalso; simp_all; done) | skip
                                          all_goals
                                            cases ht10 : (decide (avS lo hi r fm h = 0))
                                            · have hp10 := ht10
                                              try simp only [decide_eq_true_eq, decide_eq_false_iff_not, Bool.not_eq_true', Bool.not_eq_false', Bool.not_eq_eq_eq_not, Bool.not_true, Bool.not_false] at hp10
                                              try simp only [reduceCtorEq, not_true_eq_false, isEq, decide_true, Bool.and_true, Bool.true_and, Bool.and_eq_true, Bool.and_eq_false_iff, decide_eq_true_eq, decide_eq_false_iff_not] at hp10
                                              all_goals first | (exfalso; omega) | (exfalso; simp_all; done) | skip
                                              all_goals
                                                refine Tri.path hB 200 [false, false, false, false, false, false, false, true, true, true, false] (of_skel (q := (EqB (decide (avS lo hi r fm h = 0)) false ∧ EqB (decide (avC lo hi r fm h = 0)) true ∧ EqB (decide (avE lo hi r fm h = 5)) true ∧ EqB (decide (canF lo hi r fm h 0 < 0)) true ∧ LeN r r ∧ TrOK lo hi r fm ∧ EqB (!decide (-100000 ≤ h ∧ h ≤ 100000)) false ∧ EqB false false ∧ LeN r r ∧ LeN r r ∧ EqN r r ∧ LeN r 100000 ∧ (∀ (i : Nat), i < r → (lvF lo hi (fm)) i 0 = (lvF lo hi (fm)) i 0 ∧ (lvF lo hi (fm)) i 1 = (lvF lo hi (fm)) i 1) ∧ LeN r r ∧ TrOK lo hi r fm ∧ EqB false false ∧ EqB (!TrB lo hi r fm) false ∧ LeN r r ∧ LeN r 1000000000000 ∧ LeN r r ∧ LeN r r ∧ TrOK lo hi r fm ∧ EqB false false ∧ EqB (!TrB lo hi r fm) false ∧ LeN r r ∧ EqB (!decide ((↑r : Int) ≤ 11)) false ∧ True) ∧ (EqB false true ∧ True) ∧ True) (by kernel_rfl) ?_)
                                                ((repeat' apply And.intro) <;> first | assumption | exact trivial | exact ⟨rfl⟩ | (refine ⟨?_⟩; assumption) | (refine inR64 ?_ ?_ <;> omega) | (refine ⟨?_⟩; omega) | (refine ⟨?_⟩; rw [Bool.eq_iff_iff]; simp only [decide_eq_true_eq, decide_eq_false_iff_not, Bool.false_eq_true, Bool.true_eq_false, Bool.not_eq_true', Bool.and_eq_true, Bool.or_eq_true, Bool.not_eq_false', false_iff, iff_false, true_iff, iff_true]; omega) | (exfalso; omega) | (exact TrB_out (by assumption)) | (refine ⟨?_⟩; have h8 := (TrB_out (by assumption)).r8; omega) | (exact fun _ _ => ⟨rfl, rfl⟩))
                                            · have hp10 := ht10
                                              try simp only [decide_eq_true_eq, decide_eq_false_iff_not, Bool.not_eq_true', Bool.not_eq_false', Bool.not_eq_eq_eq_not, Bool.not_true, Bool.not_false] at hp10
                                              try simp only [reduceCtorEq, not_true_eq_false, isEq, decide_true, Bool.and_true, Bool.true_and, Bool.and_eq_true, Bool.and_eq_false_iff, decide_eq_true_eq, decide_eq_false_iff_not] at hp10
                                              all_goals first | (exfalso; omega) | (exfalso; simp_all; done) | skip
                                              all_goals
                                                refine Tri.path hB 200 [false, false, false, false, false, false, false, true, true, true, true] (of_skel (q := (EqB (decide (avS lo hi r fm h = 0)) true ∧ EqB (decide (avC lo hi r fm h = 0)) true ∧ EqB (decide (avE lo hi r fm h = 5)) true ∧ EqB (decide (canF lo hi r fm h 0 < 0)) true ∧ LeN r r ∧ TrOK lo hi r fm ∧ EqB (!decide (-100000 ≤ h ∧ h ≤ 100000)) false ∧ EqB false false ∧ LeN r r ∧ LeN r r ∧ EqN r r ∧ LeN r 100000 ∧ (∀ (i : Nat), i < r → (lvF lo hi (fm)) i 0 = (lvF lo hi (fm)) i 0 ∧ (lvF lo hi (fm)) i 1 = (lvF lo hi (fm)) i 1) ∧ LeN r r ∧ TrOK lo hi r fm ∧ EqB false false ∧ EqB (!TrB lo hi r fm) false ∧ LeN r r ∧ LeN r 1000000000000 ∧ LeN r r ∧ LeN r r ∧ TrOK lo hi r fm ∧ EqB false false ∧ EqB (!TrB lo hi r fm) false ∧ LeN r r ∧ EqB (!decide ((↑r : Int) ≤ 11)) false ∧ True) ∧ (EqB true true ∧ True) ∧ True) (by kernel_rfl) ?_)
                                                ((repeat' apply And.intro) <;> first | assumption | exact trivial | exact ⟨rfl⟩ | (refine ⟨?_⟩; assumption) | (refine inR64 ?_ ?_ <;> omega) | (refine ⟨?_⟩; omega) | (refine ⟨?_⟩; rw [Bool.eq_iff_iff]; simp only [decide_eq_true_eq, decide_eq_false_iff_not, Bool.false_eq_true, Bool.true_eq_false, Bool.not_eq_true', Bool.and_eq_true, Bool.or_eq_true, Bool.not_eq_false', false_iff, iff_false, true_iff, iff_true]; omega) | (exfalso; omega) | (exact TrB_out (by assumption)) | (refine ⟨?_⟩; have h8 := (TrB_out (by assumption)).r8; omega) | (exact fun _ _ => ⟨rfl, rfl⟩))
                            · have hp6 := ht6
                              try simp only [decide_eq_true_eq, decide_eq_false_iff_not, Bool.not_eq_true', Bool.not_eq_false', Bool.not_eq_eq_eq_not, Bool.not_true, Bool.not_false] at hp6
                              try simp only [reduceCtorEq, not_true_eq_false, isEq, decide_true, Bool.and_true, Bool.true_and, Bool.and_eq_true, Bool.and_eq_false_iff, decide_eq_true_eq, decide_eq_false_iff_not] at hp6
                              all_goals first | (exfalso; omega) | (exfalso; simp_all; done) | skip
                              all_goals
                                cases ht7 : (decide (avE lo hi r fm h = 2))
                                · have hp7 := ht7
                                  try simp only [decide_eq_true_eq, decide_eq_false_iff_not, Bool.not_eq_true', Bool.not_eq_false', Bool.not_eq_eq_eq_not, Bool.not_true, Bool.not_false] at hp7
                                  try simp only [reduceCtorEq, not_true_eq_false, isEq, decide_true, Bool.and_true, Bool.true_and, Bool.and_eq_true, Bool.and_eq_false_iff, decide_eq_true_eq, decide_eq_false_iff_not] at hp7
                                  all_goals first | (exfalso; omega) | (exfalso; simp_all; done) | skip
                                  all_goals
                                    refine Tri.path hB 200 [false, false, false, false, false, false, true, false] (of_skel (q := (EqB (decide (avE lo hi r fm h = 2)) false ∧ EqB (!decide (-100000 ≤ h ∧ h ≤ 100000)) true ∧ EqB false false ∧ LeN r r ∧ LeN r r ∧ EqN r r ∧ LeN r 100000 ∧ (∀ (i : Nat), i < r → (lvF lo hi (fm)) i 0 = (lvF lo hi (fm)) i 0 ∧ (lvF lo hi (fm)) i 1 = (lvF lo hi (fm)) i 1) ∧ LeN r r ∧ TrOK lo hi r fm ∧ EqB false false ∧ EqB (!TrB lo hi r fm) false ∧ LeN r r ∧ LeN r 1000000000000 ∧ LeN r r ∧ LeN r r ∧ TrOK lo hi r fm ∧ EqB false false ∧ EqB (!TrB lo hi r fm) false ∧ LeN r r ∧ EqB (!decide ((↑r : Int) ≤ 11)) false ∧ True) ∧ (EqB false true ∧ True) ∧ True) (by kernel_rfl) ?_)
                                    ((repeat' apply And.intro) <;> first | assumption | exact trivial | exact ⟨rfl⟩ | (refine ⟨?_⟩; assumption) | (refine inR64 ?_ ?_ <;> omega) | (refine ⟨?_⟩; omega) | (refine ⟨?_⟩; rw [Bool.eq_iff_iff]; simp only [decide_eq_true_eq, decide_eq_false_iff_not, Bool.false_eq_true, Bool.true_eq_false, Bool.not_eq_true', Bool.and_eq_true, Bool.or_eq_true, Bool.not_eq_false', false_iff, iff_false, true_iff, iff_true]; omega) | (exfalso; omega) | (exact TrB_out (by assumption)) | (refine ⟨?_⟩; have h8 := (TrB_out (by assumption)).r8; omega) | (exact fun _ _ => ⟨rfl, rfl⟩))
                                · have hp7 := ht7
                                  try simp only [decide_eq_true_eq, decide_eq_false_iff_not, Bool.not_eq_true', Bool.not_eq_false', Bool.not_eq_eq_eq_not, Bool.not_true, Bool.not_false] at hp7
                                  try simp only [reduceCtorEq, not_true_eq_false, isEq, decide_true, Bool.and_true, Bool.true_and, Bool.and_eq_true, Bool.and_eq_false_iff, decide_eq_true_eq, decide_eq_false_iff_not] at hp7
                                  all_goals first | (exfalso; omega) | (exfalso; simp_all; done) | skip
                                  all_goals
                                    cases ht8 : (decide (avC lo hi r fm h = 0))
                                    · have hp8 := ht8
                                      try simp only [decide_eq_true_eq, decide_eq_false_iff_not, Bool.not_eq_true', Bool.not_eq_false', Bool.not_eq_eq_eq_not, Bool.not_true, Bool.not_false] at hp8
                                      try simp only [reduceCtorEq, not_true_eq_false, isEq, decide_true, Bool.and_true, Bool.true_and, Bool.and_eq_true, Bool.and_eq_false_iff, decide_eq_true_eq, decide_eq_false_iff_not] at hp8
                                      all_goals first | (exfalso; omega) | (exfalso; simp_all; done) | skip
                                      all_goals
                                        refine Tri.path hB 200 [false, false, false, false, false, false, true, true, false] (of_skel (q := (EqB (decide (avC lo hi r fm h = 0)) false ∧ EqB (decide (avE lo hi r fm h = 2)) true ∧ EqB (!decide (-100000 ≤ h ∧ h ≤ 100000)) true ∧ EqB false false ∧ LeN r r ∧ LeN r r ∧ EqN r r ∧ LeN r 100000 ∧ (∀ (i : Nat), i < r → (lvF lo hi (fm)) i 0 = (lvF lo hi (fm)) i 0 ∧ (lvF lo hi (fm)) i 1 = (lvF lo hi (fm)) i 1) ∧ LeN r r ∧ TrOK lo hi r fm ∧ EqB false false ∧ EqB (!TrB lo hi r fm) false ∧ LeN r r ∧ LeN r 1000000000000 ∧ LeN r r ∧ LeN r r ∧ TrOK lo hi r fm ∧ EqB false false ∧ EqB (!TrB lo hi r fm) false ∧ LeN r r ∧ EqB (!decide ((↑r : Int) ≤ 11)) false ∧ True) ∧ (EqB false true ∧ True) ∧ True) (by kernel_rfl) ?_)
                                        ((repeat' apply And.intro) <;> first | assumption | exact trivial | exact ⟨rfl⟩ | (refine ⟨?_⟩; assumption) | (refine inR64 ?_ ?_ <;> omega) | (refine ⟨?_⟩; omega) | (refine ⟨?_⟩; rw [Bool.eq_iff_iff]; simp only [decide_eq_true_eq, decide_eq_false_iff_not, Bool.false_eq_true, Bool.true_eq_false, Bool.not_eq_true', Bool.and_eq_true, Bool.or_eq_true, Bool.not_eq_false', false_iff, iff_false, true_iff, iff_true]; omega) | (exfalso; omega) | (exact TrB_out (by assumption)) | (refine ⟨?_⟩; have h8 := (TrB_out (by assumption)).r8; omega) | (exact fun _ _ => ⟨rfl, rfl⟩))
                                    · have hp8 := ht8
                                      try simp only [decide_eq_true_eq, decide_eq_false_iff_not, Bool.not_eq_true', Bool.not_eq_false', Bool.not_eq_eq_eq_not, Bool.not_true, Bool.not_false] at hp8
                                      try simp only [reduceCtorEq, not_true_eq_false, isEq, decide_true, Bool.and_true, Bool.true_and, Bool.and_eq_true, Bool.and_eq_false_iff, decide_eq_true_eq, decide_eq_false_iff_not] at hp8
                                      all_goals first | (exfalso; omega) | (exfalso; simp_all; done) | skip
                                      all_goals
                                        cases ht9 : (decide (avS lo hi r fm h = 0))
                                        · have hp9 := ht9
                                          try simp only [decide_eq_true_eq, decide_eq_false_iff_not, Bool.not_eq_true', Bool.not_eq_false', Bool.not_eq_eq_eq_not, Bool.not_true, Bool.not_false] at hp9
                                          try simp only [reduceCtorEq, not_true_eq_false, isEq, decide_true, Bool.and_true, Bool.true_and, Bool.and_eq_true, Bool.and_eq_false_iff, decide_eq_true_eq, decide_eq_false_iff_not] at hp9
                                          all_goals first | (exfalso; omega) | (exfalso; simp_all; done) | skip
                                          all_goals
                                            refine Tri.path hB 200 [false, false, false, false, false, false, true, true, true, false] (of_skel (q := (EqB (decide (avS lo hi r fm h = 0)) false ∧ EqB (decide (avC lo hi r fm h = 0)) true ∧ EqB (decide (avE lo hi r fm h = 2)) true ∧ EqB (!decide (-100000 ≤ h ∧ h ≤ 100000)) true ∧ EqB false false ∧ LeN r r ∧ LeN r r ∧ EqN r r ∧ LeN r 100000 ∧ (∀ (i : Nat), i < r → (lvF lo hi (fm)) i 0 = (lvF lo hi (fm)) i 0 ∧ (lvF lo hi (fm)) i 1 = (lvF lo hi (fm)) i 1) ∧ LeN r r ∧ TrOK lo hi r fm ∧ EqB false false ∧ EqB (!TrB lo hi r fm) false ∧ LeN r r ∧ LeN r 1000000000000 ∧ LeN r r ∧ LeN r r ∧ TrOK lo hi r fm ∧ EqB false false ∧ EqB (!TrB lo hi r fm) false ∧ LeN r r ∧ EqB (!decide ((↑r : Int) ≤ 11)) false ∧ True) ∧ (EqB false true ∧ True) ∧ True) (by kernel_rfl) ?_)
                                            ((repeat' apply And.intro) <;> first | assumption | exact trivial | exact ⟨rfl⟩ | (refine ⟨?_⟩; assumption) | (refine inR64 ?_ ?_ <;> omega) | (refine ⟨?_⟩; omega) | (refine ⟨?_⟩; rw [Bool.eq_iff_iff]; simp only [decide_eq_true_eq, decide_eq_false_iff_not, Bool.false_eq_true, Bool.true_eq_false, Bool.not_eq_true', Bool.and_eq_true, Bool.or_eq_true, Bool.not_eq_false', false_iff, iff_false, true_iff, iff_true]; omega) | (exfalso; omega) | (exact TrB_out (by assumption)) | (refine ⟨?_⟩; have h8 := (TrB_out (by assumption)).r8; omega) | (exact fun _ _ => ⟨rfl, rfl⟩))
                                        · have hp9 := ht9
                                          try simp only [decide_eq_true_eq, decide_eq_false_iff_not, Bool.not_eq_true', Bool.not_eq_false', Bool.not_eq_eq_eq_not, Bool.not_true, Bool.not_false] at hp9
                                          try simp only [reduceCtorEq, not_true_eq_false, isEq, decide_true, Bool.and_true, Bool.true_and, Bool.and_eq_true, Bool.and_eq_false_iff, decide_eq_true_eq, decide_eq_false_iff_not] at hp9
                                          all_goals first | (exfalso; omega) | (exfalso; simp_all; done) | skip
                                          all_goals
                                            refine Tri.path hB 200 [false, false, false, false, false, false, true, true, true, true] (of_skel (q := (EqB (decide (avS lo hi r fm h = 0)) true ∧ EqB (decide (avC lo hi r fm h = 0)) true ∧ EqB (decide (avE lo hi r fm h = 2)) true ∧ EqB (!decide (-100000 ≤ h ∧ h ≤ 100000)) true ∧ EqB false false ∧ LeN r r ∧ LeN r r ∧ EqN r r ∧ LeN r 100000 ∧ (∀ (i : Nat), i < r → (lvF lo hi (fm)) i 0 = (lvF lo hi (fm)) i 0 ∧ (lvF lo hi (fm)) i 1 = (lvF lo hi (fm)) i 1) ∧ LeN r r ∧ TrOK lo hi r fm ∧ EqB false false ∧ EqB (!TrB lo hi r fm) false ∧ LeN r r ∧ LeN r 1000000000000 ∧ LeN r r ∧ LeN r r ∧ TrOK lo hi r fm ∧ EqB false false ∧ EqB (!TrB lo hi r fm) false ∧ LeN r r ∧ EqB (!decide ((↑r : Int) ≤ 11)) false ∧ True) ∧ (EqB true true ∧ True) ∧ True) (by kernel_rfl) ?_)
                                            ((repeat' apply And.intro) <;> first | assumption | exact trivial | exact ⟨rfl⟩ | (refine ⟨?_⟩; assumption) | (refine inR64 ?_ ?_ <;> omega) | (refine ⟨?_⟩; omega) | (refine ⟨?_⟩; rw [Bool.eq_iff_iff]; simp only [decide_eq_true_eq, decide_eq_false_iff_not, Bool.false_eq_true, Bool.true_eq_false, Bool.not_eq_true', Bool.and_eq_true, Bool.or_eq_true, Bool.not_eq_false', false_iff, iff_false, true_iff, iff_true]; omega) | (exfalso; omega) | (exact TrB_out (by assumption)) | (refine ⟨?_⟩; have h8 := (TrB_out (by assumption)).r8; omega) | (exact fun _ _ => ⟨rfl, rfl⟩))
                        · have hp5 := ht5
                          try simp only [decide_eq_true_eq, decide_eq_false_iff_not, Bool.not_eq_true', Bool.not_eq_false', Bool.not_eq_eq_eq_not, Bool.not_true, Bool.not_false] at hp5
                          try simp only [reduceCtorEq, not_true_eq_false, isEq, decide_true, Bool.and_true, Bool.true_and, Bool.and_eq_true, Bool.and_eq_false_iff, decide_eq_true_eq, decide_eq_false_iff_not] at hp5
                          all_goals first | (exfalso; omega) | (exfalso; simp_all; done) | skip
                          all_goals
                            refine Tri.path hB 200 [false, false, false, false, false, true] (of_skel (q := (EqB false true ∧ LeN r r ∧ LeN r r ∧ EqN r r ∧ LeN r 100000 ∧ (∀ (i : Nat), i < r → (lvF lo hi (fm)) i 0 = (lvF lo hi (fm)) i 0 ∧ (lvF lo hi (fm)) i 1 = (lvF lo hi (fm)) i 1) ∧ LeN r r ∧ TrOK lo hi r fm ∧ EqB false false ∧ EqB (!TrB lo hi r fm) false ∧ LeN r r ∧ LeN r 1000000000000 ∧ LeN r r ∧ LeN r r ∧ TrOK lo hi r fm ∧ EqB false false ∧ EqB (!TrB lo hi r fm) false ∧ LeN r r ∧ EqB (!decide ((↑r : Int) ≤ 11)) false ∧ True) ∧ (EqB false true ∧ True) ∧ True) (by kernel_rfl) ?_)
                            ((repeat' apply And.intro) <;> first | assumption | exact trivial | exact ⟨rfl⟩ | (refine ⟨?_⟩; assumption) | (refine inR64 ?_ ?_ <;> omega) | (refine ⟨?_⟩; omega) | (refine ⟨?_⟩; rw [Bool.eq_iff_iff]; simp only [decide_eq_true_eq, decide_eq_false_iff_not, Bool.false_eq_true, Bool.true_eq_false, Bool.not_eq_true', Bool.and_eq_true, Bool.or_eq_true, Bool.not_eq_false', false_iff, iff_false, true_iff, iff_true]; omega) | (exfalso; omega) | (exact TrB_out (by assumption)) | (refine ⟨?_⟩; have h8 := (TrB_out (by assumption)).r8; omega) | (exact fun _ _ => ⟨rfl, rfl⟩))
                    · have hp4 := ht4
                      try simp only [decide_eq_true_eq, decide_eq_false_iff_not, Bool.not_eq_true', Bool.not_eq_false', Bool.not_eq_eq_eq_not, Bool.not_true, Bool.not_false] at hp4
                      try simp only [reduceCtorEq, not_true_eq_false, isEq, decide_true, Bool.and_true, Bool.true_and, Bool.and_eq_true, Bool.and_eq_false_iff, decide_eq_true_eq, decide_eq_false_iff_not] at hp4
                      all_goals first | (exfalso; omega) | (exfalso; simp_all; done) | skip
                      all_goals
                        refine Tri.path hB 200 [false, false, false, false, true] (of_skel (q := (EqB false true ∧ EqB (!TrB lo hi r fm) false ∧ LeN r r ∧ LeN r 1000000000000 ∧ LeN r r ∧ LeN r r ∧ TrOK lo hi r fm ∧ EqB false false ∧ EqB (!TrB lo hi r fm) false ∧ LeN r r ∧ EqB (!decide ((↑r : Int) ≤ 11)) false ∧ True) ∧ (EqB false true ∧ True) ∧ True) (by kernel_rfl) ?_)
                        ((repeat' apply And.intro) <;> first | assumption | exact trivial | exact ⟨rfl⟩ | (refine ⟨?_⟩; assumption) | (refine inR64 ?_ ?_ <;> omega) | (refine ⟨?_⟩; omega) | (refine ⟨?_⟩; rw [Bool.eq_iff_iff]; simp only [decide_eq_true_eq, decide_eq_false_iff_not, Bool.false_eq_true, Bool.true_eq_false, Bool.not_eq_true', Bool.and_eq_true, Bool.or_eq_true, Bool.not_eq_false', false_iff, iff_false, true_iff, iff_true]; omega) | (exfalso; omega) | (exact TrB_out (by assumption)) | (refine ⟨?_⟩; have h8 := (TrB_out (by assumption)).r8; omega) | (exact fun _ _ => ⟨rfl, rfl⟩))
                · have hp3 := ht3
                  try simp only [decide_eq_true_eq, decide_eq_false_iff_not, Bool.not_eq_true', Bool.not_eq_false', Bool.not_eq_eq_eq_not, Bool.not_true, Bool.not_false] at hp3
                  try simp only [reduceCtorEq, not_true_eq_false, isEq, decide_true, Bool.and_true, Bool.true_and, Bool.and_eq_true, Bool.and_eq_false_iff, decide_eq_true_eq, decide_eq_false_iff_not] at hp3
                  all_goals first | (exfalso; omega) | (exfalso; simp_all; done) | skip
                  all_goals
                    cases ht4 : (false)
                    · have hp4 := ht4
                      try simp only [decide_eq_true_eq, decide_eq_false_iff_not, Bool.not_eq_true', Bool.not_eq_false', Bool.not_eq_eq_eq_not, Bool.not_true, Bool.not_false] at hp4
                      try simp only [reduceCtorEq, not_true_eq_false, isEq, decide_true, Bool.and_true, Bool.true_and, Bool.and_eq_true, Bool.and_eq_false_iff, decide_eq_true_eq, decide_eq_false_iff_not] at hp4
                      all_goals first | (exfalso; omega) | (exfalso; simp_all; done) | skip
                      all_goals
                        refine Tri.path hB 200 [false, false, false, true, false] (of_skel (q := (EqB false false ∧ EqB (!TrB lo hi r fm) true ∧ LeN r r ∧ LeN r 1000000000000 ∧ LeN r r ∧ LeN r r ∧ TrOK lo hi r fm ∧ EqB false false ∧ EqB (!TrB lo hi r fm) false ∧ LeN r r ∧ EqB (!decide ((↑r : Int) ≤ 11)) false ∧ True) ∧ (EqB false true ∧ True) ∧ True) (by kernel_rfl) ?_)
                        ((repeat' apply And.intro) <;> first | assumption | exact trivial | exact ⟨rfl⟩ | (refine ⟨?_⟩; assumption) | (refine inR64 ?_ ?_ <;> omega) | (refine ⟨?_⟩; omega) | (refine ⟨?_⟩; rw [Bool.eq_iff_iff]; simp only [decide_eq_true_eq, decide_eq_false_iff_not, Bool.false_eq_true, Bool.true_eq_false, Bool.not_eq_true', Bool.and_eq_true, Bool.or_eq_true, Bool.not_eq_false', false_iff, iff_false, true_iff, iff_true]; omega) | (exfalso; omega) | (exact TrB_out (by assumption)) | (refine ⟨?_⟩; have h8 := (TrB_out (by assumption)).r8; omega) | (exact fun _ _ => ⟨rfl, rfl⟩))
                    · have hp4 := ht4
                      try simp only [decide_eq_true_eq, decide_eq_false_iff_not, Bool.not_eq_true', Bool.not_eq_false', Bool.not_eq_eq_eq_not, Bool.not_true, Bool.not_false] at hp4
                      try simp only [reduceCtorEq, not_true_eq_false, isEq, decide_true, Bool.and_true, Bool.true_and, Bool.and_eq_true, Bool.and_eq_false_iff, decide_eq_true_eq, decide_eq_false_iff_not] at hp4
                      all_goals first | (exfalso; omega) | (exfalso; simp_all; done) | skip
                      all_goals
                        cases ht5 : (decide ((↑r : Int) = 0))
                        · have hp5 := ht5
                          try simp only [decide_eq_true_eq, decide_eq_false_iff_not, Bool.not_eq_true', Bool.not_eq_false', Bool.not_eq_eq_eq_not, Bool.not_true, Bool.not_false] at hp5
                          try simp only [reduceCtorEq, not_true_eq_false, isEq, decide_true, Bool.and_true, Bool.true_and, Bool.and_eq_true, Bool.and_eq_false_iff, decide_eq_true_eq, decide_eq_false_iff_not] at hp5
                          all_goals first | (exfalso; omega) | (exfalso; simp_all; done) | skip
                          all_goals
                            refine Tri.path hB 200 [false, false, false, true, true, false] (of_skel (q := (EqB (decide ((↑r : Int) = 0)) false ∧ EqB false true ∧ EqB (!TrB lo hi r fm) true ∧ LeN r r ∧ LeN r 1000000000000 ∧ LeN r r ∧ LeN r r ∧ TrOK lo hi r fm ∧ EqB false false ∧ EqB (!TrB lo hi r fm) false ∧ LeN r r ∧ EqB (!decide ((↑r : Int) ≤ 11)) false ∧ True) ∧ (EqB false true ∧ True) ∧ True) (by kernel_rfl) ?_)
                            ((repeat' apply And.intro) <;> first | assumption | exact trivial | exact ⟨rfl⟩ | (refine ⟨?_⟩; assumption) | (refine inR64 ?_ ?_ <;> omega) | (refine ⟨?_⟩; omega) | (refine ⟨?_⟩; rw [Bool.eq_iff_iff]; simp only [decide_eq_true_eq, decide_eq_false_iff_not, Bool.false_eq_true, Bool.true_eq_false, Bool.not_eq_true', Bool.and_eq_true, Bool.or_eq_true, Bool.not_eq_false', false_iff, iff_false, true_iff, iff_true]; omega) | (exfalso; omega) | (exact TrB_out (by assumption)) | (refine ⟨?_⟩; have h8 := (TrB_out (by assumption)).r8; omega) | (exact fun _ _ => ⟨rfl, rfl⟩))
                        · have hp5 := ht5
                          try simp only [decide_eq_true_eq, decide_eq_false_iff_not, Bool.not_eq_true', Bool.not_eq_false', Bool.not_eq_eq_eq_not, Bool.not_true, Bool.not_false] at hp5
                          try simp only [reduceCtorEq, not_true_eq_false, isEq, decide_true, Bool.and_true, Bool.true_and, Bool.and_eq_true, Bool.and_eq_false_iff, decide_eq_true_eq, decide_eq_false_iff_not] at hp5
                          all_goals first | (exfalso; omega) | (exfalso; simp_all; done) | skip
                          all_goals
                            cases ht6 : (decide (avE lo hi r fm h = 2))
                            · have hp6 := ht6
                              try simp only [decide_eq_true_eq, decide_eq_false_iff_not, Bool.not_eq_true', Bool.not_eq_false', Bool.not_eq_eq_eq_not, Bool.not_true, Bool.not_false] at hp6
                              try simp only [reduceCtorEq, not_true_eq_false, isEq, decide_true, Bool.and_true, Bool.true_and, Bool.and_eq_true, Bool.and_eq_false_iff, decide_eq_true_eq, decide_eq_false_iff_not] at hp6
                              all_goals first | (exfalso; omega) | (exfalso; simp_all; done) | skip
                              all_goals
                                refine Tri.path hB 200 [false, false, false, true, true, true, false] (of_skel (q := (EqB (decide (avE lo hi r fm h = 2)) false ∧ EqB (decide ((↑r : Int) = 0)) true ∧ EqB false true ∧ EqB (!TrB lo hi r fm) true ∧ LeN r r ∧ LeN r 1000000000000 ∧ LeN r r ∧ LeN r r ∧ TrOK lo hi r fm ∧ EqB false false ∧ EqB (!TrB lo hi r fm) false ∧ LeN r r ∧ EqB (!decide ((↑r : Int) ≤ 11)) false ∧ True) ∧ (EqB false true ∧ True) ∧ True) (by kernel_rfl) ?_)
                                ((repeat' apply And.intro) <;> first | assumption | exact trivial | exact ⟨rfl⟩ | (refine ⟨?_⟩; assumption) | (refine inR64 ?_ ?_ <;> omega) | (refine ⟨?_⟩; omega) | (refine ⟨?_⟩; rw [Bool.eq_iff_iff]; simp only [decide_eq_true_eq, decide_eq_false_iff_not, Bool.false_eq_true, Bool.true_eq_false, Bool.not_eq_true', Bool.and_eq_true, Bool.or_eq_true, Bool.not_eq_false', false_iff, iff_false, true_iff, iff_true]; omega) | (exfalso; omega) | (exact TrB_out (by assumption)) | (refine ⟨?_⟩; have h8 := (TrB_out (by assumption)).r8; omega) | (exact fun _ _ => ⟨rfl, rfl⟩))
                            · have hp6 := ht6
                              try simp only [decide_eq_true_eq, decide_eq_false_iff_not, Bool.not_eq_true', Bool.not_eq_false', Bool.not_eq_eq_eq_not, Bool.not_true, Bool.not_false] at hp6
                              try simp only [reduceCtorEq, not_true_eq_false, isEq, decide_true, Bool.and_true, Bool.true_and, Bool.and_eq_true, Bool.and_eq_false_iff, decide_eq_true_eq, decide_eq_false_iff_not] at hp6
                              all_goals first | (exfalso; omega) | (exfalso; simp_all; done) | skip
                              all_goals
                                cases ht7 : (decide (avC lo hi r fm h = 0))
                                · have hp7 := ht7
                                  try simp only [decide_eq_true_eq, decide_eq_false_iff_not, Bool.not_eq_true', Bool.not_eq_false', Bool.not_eq_eq_eq_not, Bool.not_true, Bool.not_false] at hp7
                                  try simp only [reduceCtorEq, not_true_eq_false, isEq, decide_true, Bool.and_true, Bool.true_and, Bool.and_eq_true, Bool.and_eq_false_iff, decide_eq_true_eq, decide_eq_false_iff_not] at hp7
                                  all_goals first | (exfalso; omega) | (exfalso; simp_all; done) | skip
                                  all_goals
                                    refine Tri.path hB 200 [false, false, false, true, true, true, true, false] (of_skel (q := (EqB (decide (avC lo hi r fm h = 0)) false ∧ EqB (decide (avE lo hi r fm h = 2)) true ∧ EqB (decide ((↑r : Int) = 0)) true ∧ EqB false true ∧ EqB (!TrB lo hi r fm) true ∧ LeN r r ∧ LeN r 1000000000000 ∧ LeN r r ∧ LeN r r ∧ TrOK lo hi r fm ∧ EqB false false ∧ EqB (!TrB lo hi r fm) false ∧ LeN r r ∧ EqB (!decide ((↑r : Int) ≤ 11)) false ∧ True) ∧ (EqB false true ∧ True) ∧ True) (by kernel_rfl) ?_)
                                    ((repeat' apply And.intro) <;> first | assumption | exact trivial | exact ⟨rfl⟩ | (refine ⟨?_⟩; assumption) | (refine inR64 ?_ ?_ <;> omega) | (refine ⟨?_⟩; omega) | (refine ⟨?_⟩; rw [Bool.eq_iff_iff]; simp only [decide_eq_true_eq, decide_eq_false_iff_not, Bool.false_eq_true, Bool.true_eq_false, Bool.not_eq_true', Bool.and_eq_true, Bool.or_eq_true, Bool.not_eq_false', false_iff, iff_false, true_iff, iff_true]; omega) | (exfalso; omega) | (exact TrB_out (by assumption)) | (refine ⟨?_⟩; have h8 := (TrB_out (by assumption)).r8; omega) | (exact fun _ _ => ⟨rfl, rfl⟩))
                                · have hp7 := ht7
                                  try simp only [decide_eq_true_eq, decide_eq_false_iff_not, Bool.not_eq_true', Bool.not_eq_false', Bool.not_eq_eq_eq_not, Bool.not_true, Bool.not_false] at hp7
                                  try simp only [reduceCtorEq, not_true_eq_false, isEq, decide_true, Bool.and_true, Bool.true_and, Bool.and_eq_true, Bool.and_eq_false_iff, decide_eq_true_eq, decide_eq_false_iff_not] at hp7
                                  all_goals first | (exfalso; omega) | (exfalso; simp_all; done) | skip
                                  all_goals
                                    cases ht8 : (decide (avS lo hi r fm h = 0))
                                    · have hp8 := ht8
                                      try simp only [decide_eq_true_eq, decide_eq_false_iff_not, Bool.not_eq_true', Bool.not_eq_false', Bool.not_eq_eq_eq_not, Bool.not_true, Bool.not_false] at hp8
                                      try simp only [reduceCtorEq, not_true_eq_false, isEq, decide_true, Bool.and_true, Bool.true_and, Bool.and_eq_true, Bool.and_eq_false_iff, decide_eq_true_eq, decide_eq_false_iff_not] at hp8
                                      all_goals first | (exfalso; omega) | (exfalso; simp_all; done) | skip
                                      all_goals
                                        refine Tri.path hB 200 [false, false, false, true, true, true, true, true, false] (of_skel (q := (EqB (decide (avS lo hi r fm h = 0)) false ∧ EqB (decide (avC lo hi r fm h = 0)) true ∧ EqB (decide (avE lo hi r fm h = 2)) true ∧ EqB (decide ((↑r : Int) = 0)) true ∧ EqB false true ∧ EqB (!TrB lo hi r fm) true ∧ LeN r r ∧ LeN r 1000000000000 ∧ LeN r r ∧ LeN r r ∧ TrOK lo hi r fm ∧ EqB false false ∧ EqB (!TrB lo hi r fm) false ∧ LeN r r ∧ EqB (!decide ((↑r : Int) ≤ 11)) false ∧ True) ∧ (EqB false true ∧ True) ∧ True) (by kernel_rfl) ?_)
                                        ((repeat' apply And.intro) <;> first | assumption | exact trivial | exact ⟨rfl⟩ | (refine ⟨?_⟩; assumption) | (refine inR64 ?_ ?_ <;> omega) | (refine ⟨?_⟩; omega) | (refine ⟨?_⟩; rw [Bool.eq_iff_iff]; simp only [decide_eq_true_eq, decide_eq_false_iff_not, Bool.false_eq_true, Bool.true_eq_false, Bool.not_eq_true', Bool.and_eq_true, Bool.or_eq_true, Bool.not_eq_false', false_iff, iff_false, true_iff, iff_true]; omega) | (exfalso; omega) | (exact TrB_out (by assumption)) | (refine ⟨?_⟩; have h8 := (TrB_out (by assumption)).r8; omega) | (exact fun _ _ => ⟨rfl, rfl⟩))
                                    · have hp8 := ht8
                                      try simp only [decide_eq_true_eq, decide_eq_false_iff_not, Bool.not_eq_true', Bool.not_eq_false', Bool.not_eq_eq_eq_not, Bool.not_true, Bool.not_false] at hp8
                                      try simp only [reduceCtorEq, not_true_eq_false, isEq, decide_true, Bool.and_true, Bool.true_and, Bool.and_eq_true, Bool.and_eq_false_iff, decide_eq_true_eq, decide_eq_false_iff_not] at hp8
                                      all_goals first | (exfalso; omega) | (exfalso; simp_all; done) | skip
                                      all_goals
                                        refine Tri.path hB 200 [false, false, false, true, true, true, true, true, true] (of_skel (q := (EqB (decide (avS lo hi r fm h = 0)) true ∧ EqB (decide (avC lo hi r fm h = 0)) true ∧ EqB (decide (avE lo hi r fm h = 2)) true ∧ EqB (decide ((↑r : Int) = 0)) true ∧ EqB false true ∧ EqB (!TrB lo hi r fm) true ∧ LeN r r ∧ LeN r 1000000000000 ∧ LeN r r ∧ LeN r r ∧ TrOK lo hi r fm ∧ EqB false false ∧ EqB (!TrB lo hi r fm) false ∧ LeN r r ∧ EqB (!decide ((↑r : Int) ≤ 11)) false ∧ True) ∧ (EqB true true ∧ True) ∧ True) (by kernel_rfl) ?_)
                                        ((repeat' apply And.intro) <;> first | assumption | exact trivial | exact ⟨rfl⟩ | (refine ⟨?_⟩; assumption) | (refine inR64 ?_ ?_ <;> omega) | (refine ⟨?_⟩; omega) | (refine ⟨?_⟩; rw [Bool.eq_iff_iff]; simp only [decide_eq_true_eq, decide_eq_false_iff_not, Bool.false_eq_true, Bool.true_eq_false, Bool.not_eq_true', Bool.and_eq_true, Bool.or_eq_true, Bool.not_eq_false', false_iff, iff_false, true_iff, iff_true]; omega) | (exfalso; omega) | (exact TrB_out (by assumption)) | (refine ⟨?_⟩; have h8 := (TrB_out (by assumption)).r8; omega) | (exact fun _ _ => ⟨rfl, rfl⟩))
            · have hp2 := ht2
              try simp only [decide_eq_true_eq, decide_eq_false_iff_not, Bool.not_eq_true', Bool.not_eq_false', Bool.not_eq_eq_eq_not, Bool.not_true, Bool.not_false] at hp2
              try simp only [reduceCtorEq, not_true_eq_false, isEq, decide_true, Bool.and_true, Bool.true_and, Bool.and_eq_true, Bool.and_eq_false_iff, decide_eq_true_eq, decide_eq_false_iff_not] at hp2
              all_goals first | (exfalso; omega) | (exfalso; simp_all; done) | skip
              all_goals
                cases ht3 : (!TrB lo hi r fm)
                · have hp3 := ht3
                  try simp only [decide_eq_true_eq, decide_eq_false_iff_not, Bool.not_eq_true', Bool.not_eq_false', Bool.not_eq_eq_eq_not, Bool.not_true, Bool.not_false] at hp3
                  try simp only [reduceCtorEq, not_true_eq_false, isEq, decide_true, Bool.and_true, Bool.true_and, Bool.and_eq_true, Bool.and_eq_false_iff, decide_eq_true_eq, decide_eq_false_iff_not] at hp3
                  all_goals first | (exfalso; omega) | (exfalso; simp_all; done) | skip
                  all_goals
                    cases ht4 : (false)
                    · have hp4 := ht4
                      try simp only [decide_eq_true_eq, decide_eq_false_iff_not, Bool.not_eq_true', Bool.not_eq_false', Bool.not_eq_eq_eq_not, Bool.not_true, Bool.not_false] at hp4
                      try simp only [reduceCtorEq, not_true_eq_false, isEq, decide_true, Bool.and_true, Bool.true_and, Bool.and_eq_true, Bool.and_eq_false_iff, decide_eq_true_eq, decide_eq_false_iff_not] at hp4
                      all_goals first | (exfalso; omega) | (exfalso; simp_all; done) | skip
                      all_goals
                        first | (exfalso; omega) | simp_all
                    · have hp4 := ht4
                      try simp only [decide_eq_true_eq, decide_eq_false_iff_not, Bool.not_eq_true', Bool.not_eq_false', Bool.not_eq_eq_eq_not, Bool.not_true, Bool.not_false] at hp4
                      try simp only [reduceCtorEq, not_true_eq_false, isEq, decide_true, Bool.and_true, Bool.true_and, Bool.and_eq_true, Bool.and_eq_false_iff, decide_eq_true_eq, decide_eq_false_iff_not] at hp4
                      all_goals first | (exfalso; omega) | (exfalso; simp_all; done) | skip
                      all_goals
                        refine Tri.path hB 200 [false, false, true, false, true] (of_skel (q := (EqB false true ∧ EqB (!TrB lo hi r fm) false ∧ LeN r r ∧ LeN r 1000000000000 ∧ LeN r r ∧ EqB false true ∧ EqB (!TrB lo hi r fm) false ∧ LeN r r ∧ EqB (!decide ((↑r : Int) ≤ 11)) false ∧ True) ∧ (EqB false true ∧ True) ∧ True) (by kernel_rfl) ?_)
                        ((repeat' apply And.intro) <;> first | assumption | exact trivial | exact ⟨rfl⟩ | (refine ⟨?_⟩; assumption) | (refine inR64 ?_ ?_ <;> omega) | (refine ⟨?_⟩; omega) | (refine ⟨?_⟩; rw [Bool.eq_iff_iff]; simp only [decide_eq_true_eq, decide_eq_false_iff_not, Bool.false_eq_true, Bool.true_eq_false, Bool.not_eq_true', Bool.and_eq_true, Bool.or_eq_true, Bool.not_eq_false', false_iff, iff_false, true_iff, iff_true]; omega) | (exfalso; omega) | (exact TrB_out (by assumption)) | (refine ⟨?_⟩; have h8 := (TrB_out (by assumption)).r8; omega) | (exact fun _ _ => ⟨rfl, rfl⟩))
                · have hp3 := ht3
                  try simp only [decide_eq_true_eq, decide_eq_false_iff_not, Bool.not_eq_true', Bool.not_eq_false', Bool.not_eq_eq_eq_not, Bool.not_true, Bool.not_false] at hp3
                  try simp only [reduceCtorEq, not_true_eq_false, isEq, decide_true, Bool.and_true, Bool.true_and, Bool.and_eq_true, Bool.and_eq_false_iff, decide_eq_true_eq, decide_eq_false_iff_not] at hp3
                  all_goals first | (exfalso; omega) | (exfalso; simp_all; done) | skip
                  all_goals
                    cases ht4 : (false)
                    · have hp4 := ht4
                      try simp only [decide_eq_true_eq, decide_eq_false_iff_not, Bool.not_eq_true', Bool.not_eq_false', Bool.not_eq_eq_eq_not, Bool.not_true, Bool.not_false] at hp4
                      try simp only [reduceCtorEq, not_true_eq_false, isEq, decide_true, Bool.and_true, Bool.true_and, Bool.and_eq_true, Bool.and_eq_false_iff, decide_eq_true_eq, decide_eq_false_iff_not] at hp4
                      all_goals first | (exfalso; omega) | (exfalso; simp_all; done) | skip
                      all_goals
                        first | (exfalso; omega) | simp_all
                    · have hp4 := ht4
                      try simp only [decide_eq_true_eq, decide_eq_false_iff_not, Bool.not_eq_true', Bool.not_eq_false', Bool.not_eq_eq_eq_not, Bool.not_true, Bool.not_false] at hp4
                      try simp only [reduceCtorEq, not_true_eq_false, isEq, decide_true, Bool.and_true, Bool.true_and, Bool.and_eq_true, Bool.and_eq_false_iff, decide_eq_true_eq, decide_eq_false_iff_not] at hp4
                      all_goals first | (exfalso; omega) | (exfalso; simp_all; done) | skip
                      all_goals
                        cases ht5 : (true)
                        · have hp5 := ht5
                          try simp only [decide_eq_true_eq, decide_eq_false_iff_not, Bool.not_eq_true', Bool.not_eq_false', Bool.not_eq_eq_eq_not, Bool.not_true, Bool.not_false] at hp5
                          try simp only [reduceCtorEq, not_true_eq_false, isEq, decide_true, Bool.and_true, Bool.true_and, Bool.and_eq_true, Bool.and_eq_false_iff, decide_eq_true_eq, decide_eq_false_iff_not] at hp5
                          all_goals first | (exfalso; omega) | (exfalso; simp_all; done) | skip
                          all_goals
                            first | (exfalso; omega) | simp_all
                        · have hp5 := ht5
                          try simp only [decide_eq_true_eq, decide_eq_false_iff_not, Bool.not_eq_true', Bool.not_eq_false', Bool.not_eq_eq_eq_not, Bool.not_true, Bool.not_false] at hp5
                          try simp only [reduceCtorEq, not_true_eq_false, isEq, decide_true, Bool.and_true, Bool.true_and, Bool.and_eq_true, Bool.and_eq_false_iff, decide_eq_true_eq, decide_eq_false_iff_not] at hp5
                          all_goals first | (exfalso; omega) | (exfalso; simp_all; done) | skip
                          all_goals
                            cases ht6 : (decide (avE lo hi r fm h = 2))
                            · have hp6 := ht6
                              try simp only [decide_eq_true_eq, decide_eq_false_iff_not, Bool.not_eq_true', Bool.not_eq_false', Bool.not_eq_eq_eq_not, Bool.not_true, Bool.not_false] at hp6
                              try simp only [reduceCtorEq, not_true_eq_false, isEq, decide_true, Bool.and_true, Bool.true_and, Bool.and_eq_true, Bool.and_eq_false_iff, decide_eq_true_eq, decide_eq_false_iff_not] at hp6
                              all_goals first | (exfalso; omega) | (exfalso; simp_all; done) | skip
                              all_goals
                                refine Tri.path hB 200 [false, false, true, true, true, true, false] (of_skel (q := (EqB (decide (avE lo hi r fm h = 2)) false ∧ EqB true true ∧ EqB false true ∧ EqB (!TrB lo hi r fm) true ∧ LeN r r ∧ LeN r 1000000000000 ∧ LeN r r ∧ EqB false true ∧ EqB (!TrB lo hi r fm) false ∧ LeN r r ∧ EqB (!decide ((↑r : Int) ≤ 11)) false ∧ True) ∧ (EqB false true ∧ True) ∧ True) (by kernel_rfl) ?_)
                                ((repeat' apply And.intro) <;> first | assumption | exact trivial | exact ⟨rfl⟩ | (refine ⟨?_⟩; assumption) | (refine inR64 ?_ ?_ <;> omega) | (refine ⟨?_⟩; omega) | (refine ⟨?_⟩; rw [Bool.eq_iff_iff]; simp only [decide_eq_true_eq, decide_eq_false_iff_not, Bool.false_eq_true, Bool.true_eq_false, Bool.not_eq_true', Bool.and_eq_true, Bool.or_eq_true, Bool.not_eq_false', false_iff, iff_false, true_iff, iff_true]; omega) | (exfalso; omega) | (exact TrB_out (by assumption)) | (refine ⟨?_⟩; have h8 := (TrB_out (by assumption)).r8; omega) | (exact fun _ _ => ⟨rfl, rfl⟩))
                            · have hp6 := ht6
                              try simp only [decide_eq_true_eq, decide_eq_false_iff_not, Bool.not_eq_true', Bool.not_eq_false', Bool.not_eq_eq_eq_not, Bool.not_true, Bool.not_false] at hp6
                              try simp only [reduceCtorEq, not_true_eq_false, isEq, decide_true, Bool.and_true, Bool.true_and, Bool.and_eq_true, Bool.and_eq_false_iff, decide_eq_true_eq, decide_eq_false_iff_not] at hp6
                              all_goals first | (exfalso; omega) | (exfalso; simp_all; done) | skip
                              all_goals
                                cases ht7 : (decide (avC lo hi r fm h = 0))
                                · have hp7 := ht7
                                  try simp only [decide_eq_true_eq, decide_eq_false_iff_not, Bool.not_eq_true', Bool.not_eq_false', Bool.not_eq_eq_eq_not, Bool.not_true, Bool.not_false] at hp7
                                  try simp only [reduceCtorEq, not_true_eq_false, isEq, decide_true, Bool.and_true, Bool.true_and, Bool.and_eq_true, Bool.and_eq_false_iff, decide_eq_true_eq, decide_eq_false_iff_not] at hp7
                                  all_goals first | (exfalso; omega) | (exfalso; simp_all; done) | skip
                                  all_goals
                                    refine Tri.path hB 200 [false, false, true, true, true, true, true, false] (of_skel (q := (EqB (decide (avC lo hi r fm h = 0)) false ∧ EqB (decide (avE lo hi r fm h = 2)) true ∧ EqB true true ∧ EqB false true ∧ EqB (!TrB lo hi r fm) true ∧ LeN r r ∧ LeN r 1000000000000 ∧ LeN r r ∧ EqB false true ∧ EqB (!TrB lo hi r fm) false ∧ LeN r r ∧ EqB (!decide ((↑r : Int) ≤ 11)) false ∧ True) ∧ (EqB false true ∧ True) ∧ True) (by kernel_rfl) ?_)
                                    ((repeat' apply And.intro) <;> first | assumption | exact trivial | exact ⟨rfl⟩ | (refine ⟨?_⟩; assumption) | (refine inR64 ?_ ?_ <;> omega) | (refine ⟨?_⟩; omega) | (refine ⟨?_⟩; rw [Bool.eq_iff_iff]; simp only [decide_eq_true_eq, decide_eq_false_iff_not, Bool.false_eq_true, Bool.true_eq_false, Bool.not_eq_true', Bool.and_eq_true, Bool.or_eq_true, Bool.not_eq_false', false_iff, iff_false, true_iff, iff_true]; omega) | (exfalso; omega) | (exact TrB_out (by assumption)) | (refine ⟨?_⟩; have h8 := (TrB_out (by assumption)).r8; omega) | (exact fun _ _ => ⟨rfl, rfl⟩))
                                · have hp7 := ht7
                                  try simp only [decide_eq_true_eq, decide_eq_false_iff_not, Bool.not_eq_true', Bool.not_eq_false', Bool.not_eq_eq_eq_not, Bool.not_true, Bool.not_false] at hp7
                                  try simp only [reduceCtorEq, not_true_eq_false, isEq, decide_true, Bool.and_true, Bool.true_and, Bool.and_eq_true, Bool.and_eq_false_iff, decide_eq_true_eq, decide_eq_false_iff_not] at hp7
                                  all_goals first | (exfalso; omega) | (exfalso; simp_all; done) | skip
                                  all_goals
                                    cases ht8 : (decide (avS lo hi r fm h = 0))
                                    · have hp8 := ht8
                                      try simp only [decide_eq_true_eq, decide_eq_false_iff_not, Bool.not_eq_true', Bool.not_eq_false', Bool.not_eq_eq_eq_not, Bool.not_true, Bool.not_false] at hp8
                                      try simp only [reduceCtorEq, not_true_eq_false, isEq, decide_true, Bool.and_true, Bool.true_and, Bool.and_eq_true, Bool.and_eq_false_iff, decide_eq_true_eq, decide_eq_false_iff_not] at hp8
                                      all_goals first | (exfalso; omega) | (exfalso; simp_all; done) | skip
                                      all_goals
                                        refine Tri.path hB 200 [false, false, true, true, true, true, true, true, false] (of_skel (q := (EqB (decide (avS lo hi r fm h = 0)) false ∧ EqB (decide (avC lo hi r fm h = 0)) true ∧ EqB (decide (avE lo hi r fm h = 2)) true ∧ EqB true true ∧ EqB false true ∧ EqB (!TrB lo hi r fm) true ∧ LeN r r ∧ LeN r 1000000000000 ∧ LeN r r ∧ EqB false true ∧ EqB (!TrB lo hi r fm) false ∧ LeN r r ∧ EqB (!decide ((↑r : Int) ≤ 11)) false ∧ True) ∧ (EqB false true ∧ True) ∧ True) (by kernel_rfl) ?_)
                                        ((repeat' apply And.intro) <;> first | assumption | exact trivial | exact ⟨rfl⟩ | (refine ⟨?_⟩; assumption) | (refine inR64 ?_ ?_ <;> omega) | (refine ⟨?_⟩; omega) | (refine ⟨?_⟩; rw [Bool.eq_iff_iff]; simp only [decide_eq_true_eq, decide_eq_false_iff_not, Bool.false_eq_true, Bool.true_eq_false, Bool.not_eq_true', Bool.and_eq_true, Bool.or_eq_true, Bool.not_eq_false', false_iff, iff_false, true_iff, iff_true]; omega) | (exfalso; omega) | (exact TrB_out (by assumption)) | (refine ⟨?_⟩; have h8 := (TrB_out (by assumption)).r8; omega) | (exact fun _ _ => ⟨rfl, rfl⟩))
                                    · have hp8 := ht8
                                      try simp only [decide_eq_true_eq, decide_eq_false_iff_not, Bool.not_eq_true', Bool.not_eq_false', Bool.not_eq_eq_eq_not, Bool.not_true, Bool.not_false] at hp8
                                      try simp only [reduceCtorEq, not_true_eq_false, isEq, decide_true, Bool.and_true, Bool.true_and, Bool.and_eq_true, Bool.and_eq_false_iff, decide_eq_true_eq, decide_eq_false_iff_not] at hp8
                                      all_goals first | (exfalso; omega) | (exfalso; simp_all; done) | skip
                                      all_goals
                                        refine Tri.path hB 200 [false, false, true, true, true, true, true, true, true] (of_skel (q := (EqB (decide (avS lo hi r fm h = 0)) true ∧ EqB (decide (avC lo hi r fm h = 0)) true ∧ EqB (decide (avE lo hi r fm h = 2)) true ∧ EqB true true ∧ EqB false true ∧ EqB (!TrB lo hi r fm) true ∧ LeN r r ∧ LeN r 1000000000000 ∧ LeN r r ∧ EqB false true ∧ EqB (!TrB lo hi r fm) false ∧ LeN r r ∧ EqB (!decide ((↑r : Int) ≤ 11)) false ∧ True) ∧ (EqB true true ∧ True) ∧ True) (by kernel_rfl) ?_)
                                        ((repeat' apply And.intro) <;> first | assumption | exact trivial | exact ⟨rfl⟩ | (refine ⟨?_⟩; assumption) | (refine inR64 ?_ ?_ <;> omega) | (refine ⟨?_⟩; omega) | (refine ⟨?_⟩; rw [Bool.eq_iff_iff]; simp only [decide_eq_true_eq, decide_eq_false_iff_not, Bool.false_eq_true, Bool.true_eq_false, Bool.not_eq_true', Bool.and_eq_true, Bool.or_eq_true, Bool.not_eq_false', false_iff, iff_false, true_iff, iff_true]; omega) | (exfalso; omega) | (exact TrB_out (by assumption)) | (refine ⟨?_⟩; have h8 := (TrB_out (by assumption)).r8; omega) | (exact fun _ _ => ⟨rfl, rfl⟩))
        · have hp1 := ht1
          try simp only [decide_eq_true_eq, decide_eq_false_iff_not, Bool.not_eq_true', Bool.not_eq_false', Bool.not_eq_eq_eq_not, Bool.not_true, Bool.not_false] at hp1
          try simp only [reduceCtorEq, not_true_eq_false, isEq, decide_true, Bool.and_true, Bool.true_and, Bool.and_eq_true, Bool.and_eq_false_iff, decide_eq_true_eq, decide_eq_false_iff_not] at hp1
          all_goals first | (exfalso; omega) | (exfalso; simp_all; done) | skip
          all_goals
            cases ht2 : (true)
            · have hp2 := ht2
              try simp only [decide_eq_true_eq, decide_eq_false_iff_not, Bool.not_eq_true', Bool.not_eq_false', Bool.not_eq_eq_eq_not, Bool.not_true, Bool.not_false] at hp2
              try simp only [reduceCtorEq, not_true_eq_false, isEq, decide_true, Bool.and_true, Bool.true_and, Bool.and_eq_true, Bool.and_eq_false_iff, decide_eq_true_eq, decide_eq_false_iff_not] at hp2
              all_goals first | (exfalso; omega) | (exfalso; simp_all; done) | skip
              all_goals
                first | (exfalso; omega) | simp_all
            · have hp2 := ht2
              try simp only [decide_eq_true_eq, decide_eq_false_iff_not, Bool.not_eq_true', Bool.not_eq_false', Bool.not_eq_eq_eq_not, Bool.not_true, Bool.not_false] at hp2
              try simp only [reduceCtorEq, not_true_eq_false, isEq, decide_true, Bool.and_true, Bool.true_and, Bool.and_eq_true, Bool.and_eq_false_iff, decide_eq_true_eq, decide_eq_false_iff_not] at hp2
              all_goals first | (exfalso; omega) | (exfalso; simp_all; done) | skip
              all_goals
                cases ht3 : (!TrB lo hi r fm)
                · have hp3 := ht3
                  try simp only [decide_eq_true_eq, decide_eq_false_iff_not, Bool.not_eq_true', Bool.not_eq_false', Bool.not_eq_eq_eq_not, Bool.not_true, Bool.not_false] at hp3
                  try simp only [reduceCtorEq, not_true_eq_false, isEq, decide_true, Bool.and_true, Bool.true_and, Bool.and_eq_true, Bool.and_eq_false_iff, decide_eq_true_eq, decide_eq_false_iff_not] at hp3
                  all_goals first | (exfalso; omega) | (exfalso; simp_all; done) | skip
                  all_goals
                    first | (exfalso; omega) | simp_all
                · have hp3 := ht3
                  try simp only [decide_eq_true_eq, decide_eq_false_iff_not, Bool.not_eq_true', Bool.not_eq_false', Bool.not_eq_eq_eq_not, Bool.not_true, Bool.not_false] at hp3
                  try simp only [reduceCtorEq, not_true_eq_false, isEq, decide_true, Bool.and_true, Bool.true_and, Bool.and_eq_true, Bool.and_eq_false_iff, decide_eq_true_eq, decide_eq_false_iff_not] at hp3
                  all_goals first | (exfalso; omega) | (exfalso; simp_all; done) | skip
                  all_goals
                    cases ht4 : (true)
                    · have hp4 := ht4
                      try simp only [decide_eq_true_eq, decide_eq_false_iff_not, Bool.not_eq_true', Bool.not_eq_false', Bool.not_eq_eq_eq_not, Bool.not_true, Bool.not_false] at hp4
                      try simp only [reduceCtorEq, not_true_eq_false, isEq, decide_true, Bool.and_true, Bool.true_and, Bool.and_eq_true, Bool.and_eq_false_iff, decide_eq_true_eq, decide_eq_false_iff_not] at hp4
                      all_goals first | (exfalso; omega) | (exfalso; simp_all; done) | skip
                      all_goals
                        first | (exfalso; omega) | simp_all
                    · have hp4 := ht4
                      try simp only [decide_eq_true_eq, decide_eq_false_iff_not, Bool.not_eq_true', Bool.not_eq_false', Bool.not_eq_eq_eq_not, Bool.not_true, Bool.not_false] at hp4
                      try simp only [reduceCtorEq, not_true_eq_false, isEq, decide_true, Bool.and_true, Bool.true_and, Bool.and_eq_true, Bool.and_eq_false_iff, decide_eq_true_eq, decide_eq_false_iff_not] at hp4
                      all_goals first | (exfalso; omega) | (exfalso; simp_all; done) | skip
                      all_goals
                        cases ht5 : (true)
                        · have hp5 := ht5
                          try simp only [decide_eq_true_eq, decide_eq_false_iff_not, Bool.not_eq_true', Bool.not_eq_false', Bool.not_eq_eq_eq_not, Bool.not_true, Bool.not_false] at hp5
                          try simp only [reduceCtorEq, not_true_eq_false, isEq, decide_true, Bool.and_true, Bool.true_and, Bool.and_eq_true, Bool.and_eq_false_iff, decide_eq_true_eq, decide_eq_false_iff_not] at hp5
                          all_goals first | (exfalso; omega) | (exfalso; simp_all; done) | skip
                          all_goals
                            first | (exfalso; omega) | simp_all
                        · have hp5 := ht5
                          try simp only [decide_eq_true_eq, decide_eq_false_iff_not, Bool.not_eq_true', Bool.not_eq_false', Bool.not_eq_eq_eq_not, Bool.not_true, Bool.not_false] at hp5
                          try simp only [reduceCtorEq, not_true_eq_false, isEq, decide_true, Bool.and_true, Bool.true_and, Bool.and_eq_true, Bool.and_eq_false_iff, decide_eq_true_eq, decide_eq_false_iff_not] at hp5
                          all_goals first | (exfalso; omega) | (exfalso; simp_all; done) | skip
                          all_goals
                            cases ht6 : (decide (avE lo hi r fm h = 2))
                            · have hp6 := ht6
                              try simp only [decide_eq_true_eq, decide_eq_false_iff_not, Bool.not_eq_true', Bool.not_eq_false', Bool.not_eq_eq_eq_not, Bool.not_true, Bool.not_false] at hp6
                              try simp only [reduceCtorEq, not_true_eq_false, isEq, decide_true, Bool.and_true, Bool.true_and, Bool.and_eq_true, Bool.and_eq_false_iff, decide_eq_true_eq, decide_eq_false_iff_not] at hp6
                              all_goals first | (exfalso; omega) | (exfalso; simp_all; done) | skip
                              all_goals
                                refine Tri.path hB 200 [false, true, true, true, true, true, false] (of_skel (q := (EqB (decide (avE lo hi r fm h = 2)) false ∧ EqB true true ∧ EqB true true ∧ EqB (!TrB lo hi r fm) true ∧ LeN r r ∧ LeN r 1000000000000 ∧ LeN r r ∧ EqB true true ∧ EqB (!TrB lo hi r fm) true ∧ LeN r r ∧ EqB (!decide ((↑r : Int) ≤ 11)) false ∧ True) ∧ (EqB false true ∧ True) ∧ True) (by kernel_rfl) ?_)
                                ((repeat' apply And.intro) <;> first | assumption | exact trivial | exact ⟨rfl⟩ | (refine ⟨?_⟩; assumption) | (refine inR64 ?_ ?_ <;> omega) | (refine ⟨?_⟩; omega) | (refine ⟨?_⟩; rw [Bool.eq_iff_iff]; simp only [decide_eq_true_eq, decide_eq_false_iff_not, Bool.false_eq_true, Bool.true_eq_false, Bool.not_eq_true', Bool.and_eq_true, Bool.or_eq_true, Bool.not_eq_false', false_iff, iff_false, true_iff, iff_true]; omega) | (exfalso; omega) | (exact TrB_out (by assumption)) | (refine ⟨?_⟩; have h8 := (TrB_out (by assumption)).r8; omega) | (exact fun _ _ => ⟨rfl, rfl⟩))
                            · have hp6 := ht6
                              try simp only [decide_eq_true_eq, decide_eq_false_iff_not, Bool.not_eq_true', Bool.not_eq_false', Bool.not_eq_eq_eq_not, Bool.not_true, Bool.not_false] at hp6
                              try simp only [reduceCtorEq, not_true_eq_false, isEq, decide_true, Bool.and_true, Bool.true_and, Bool.and_eq_true, Bool.and_eq_false_iff, decide_eq_true_eq, decide_eq_false_iff_not] at hp6
                              all_goals first | (exfalso; omega) | (exfalso; simp_all; done) | skip
                              all_goals
                                cases ht7 : (decide (avC lo hi r fm h = 0))
                                · have hp7 := ht7
                                  try simp only [decide_eq_true_eq, decide_eq_false_iff_not, Bool.not_eq_true', Bool.not_eq_false', Bool.not_eq_eq_eq_not, Bool.not_true, Bool.not_false] at hp7
                                  try simp only [reduceCtorEq, not_true_eq_false, isEq, decide_true, Bool.and_true, Bool.true_and, Bool.and_eq_true, Bool.and_eq_false_iff, decide_eq_true_eq, decide_eq_false_iff_not] at hp7
                                  all_goals first | (exfalso; omega) | (exfalso; simp_all; done) | skip
                                  all_goals
                                    refine Tri.path hB 200 [false, true, true, true, true, true, true, false] (of_skel (q := (EqB (decide (avC lo hi r fm h = 0)) false ∧ EqB (decide (avE lo hi r fm h = 2)) true ∧ EqB true true ∧ EqB true true ∧ EqB (!TrB lo hi r fm) true ∧ LeN r r ∧ LeN r 1000000000000 ∧ LeN r r ∧ EqB true true ∧ EqB (!TrB lo hi r fm) true ∧ LeN r r ∧ EqB (!decide ((↑r : Int) ≤ 11)) false ∧ True) ∧ (EqB false true ∧ True) ∧ True) (by kernel_rfl) ?_)
                                    ((repeat' apply And.intro) <;> first | assumption | exact trivial | exact ⟨rfl⟩ | (refine ⟨?_⟩; assumption) | (refine inR64 ?_ ?_ <;> omega) | (refine ⟨?_⟩; omega) | (refine ⟨?_⟩; rw [Bool.eq_iff_iff]; simp only [decide_eq_true_eq, decide_eq_false_iff_not, Bool.false_eq_true, Bool.true_eq_false, Bool.not_eq_true', Bool.and_eq_true, Bool.or_eq_true, Bool.not_eq_false', false_iff, iff_false, true_iff, iff_true]; omega) | (exfalso; omega) | (exact TrB_out (by assumption)) | (refine ⟨?_⟩; have h8 := (TrB_out (by assumption)).r8; omega) | (exact fun _ _ => ⟨rfl, rfl⟩))
                                · have hp7 := ht7
                                  try simp only [decide_eq_true_eq, decide_eq_false_iff_not, Bool.not_eq_true', Bool.not_eq_false', Bool.not_eq_eq_eq_not, Bool.not_true, Bool.not_false] at hp7
                                  try simp only [reduceCtorEq, not_true_eq_false, isEq, decide_true, Bool.and_true, Bool.true_and, Bool.and_eq_true, Bool.and_eq_false_iff, decide_eq_true_eq, decide_eq_false_iff_not] at hp7
                                  all_goals first | (exfalso; omega) | (exfalso; simp_all; done) | skip
                                  all_goals
                                    cases ht8 : (decide (avS lo hi r fm h = 0))
                                    · have hp8 := ht8
                                      try simp only [decide_eq_true_eq, decide_eq_false_iff_not, Bool.not_eq_true', Bool.not_eq_false', Bool.not_eq_eq_eq_not, Bool.not_true, Bool.not_false] at hp8
                                      try simp only [reduceCtorEq, not_true_eq_false, isEq, decide_true, Bool.and_true, Bool.true_and, Bool.and_eq_true, Bool.and_eq_false_iff, decide_eq_true_eq, decide_eq_false_iff_not] at hp8
                                      all_goals first | (exfalso; omega) | (exfalso; simp_all; done) | skip
                                      all_goals
                                        refine Tri.path hB 200 [false, true, true, true, true, true, true, true, false] (of_skel (q := (EqB (decide (avS lo hi r fm h = 0)) false ∧ EqB (decide (avC lo hi r fm h = 0)) true ∧ EqB (decide (avE lo hi r fm h = 2)) true ∧ EqB true true ∧ EqB true true ∧ EqB (!TrB lo hi r fm) true ∧ LeN r r ∧ LeN r 1000000000000 ∧ LeN r r ∧ EqB true true ∧ EqB (!TrB lo hi r fm) true ∧ LeN r r ∧ EqB (!decide ((↑r : Int) ≤ 11)) false ∧ True) ∧ (EqB false true ∧ True) ∧ True) (by kernel_rfl) ?_)
                                        ((repeat' apply And.intro) <;> first | assumption | exact trivial | exact ⟨rfl⟩ | (refine ⟨?_⟩; assumption) | (refine inR64 ?_ ?_ <;> omega) | (refine ⟨?_⟩; omega) | (refine ⟨?_⟩; rw [Bool.eq_iff_iff]; simp only [decide_eq_true_eq, decide_eq_false_iff_not, Bool.false_eq_true, Bool.true_eq_false, Bool.not_eq_true', Bool.and_eq_true, Bool.or_eq_true, Bool.not_eq_false', false_iff, iff_false, true_iff, iff_true]; omega) | (exfalso; omega) | (exact TrB_out (by assumption)) | (refine ⟨?_⟩; have h8 := (TrB_out (by assumption)).r8; omega) | (exact fun _ _ => ⟨rfl, rfl⟩))
                                    · have hp8 := ht8
                                      try simp only [decide_eq_true_eq, decide_eq_false_iff_not, Bool.not_eq_true', Bool.not_eq_false', Bool.not_eq_eq_eq_not, Bool.not_true, Bool.not_false] at hp8
                                      try simp only [reduceCtorEq, not_true_eq_false, isEq, decide_true, Bool.and_true, Bool.true_and, Bool.and_eq_true, Bool.and_eq_false_iff, decide_eq_true_eq, decide_eq_false_iff_not] at hp8
                                      all_goals first | (exfalso; omega) | (exfalso; simp_all; done) | skip
                                      all_goals
                                        refine Tri.path hB 200 [false, true, true, true, true, true, true, true, true] (of_skel (q := (EqB (decide (avS lo hi r fm h = 0)) true ∧ EqB (decide (avC lo hi r fm h = 0)) true ∧ EqB (decide (avE lo hi r fm h = 2)) true ∧ EqB true true ∧ EqB true true ∧ EqB (!TrB lo hi r fm) true ∧ LeN r r ∧ LeN r 1000000000000 ∧ LeN r r ∧ EqB true true ∧ EqB (!TrB lo hi r fm) true ∧ LeN r r ∧ EqB (!decide ((↑r : Int) ≤ 11)) false ∧ True) ∧ (EqB true true ∧ True) ∧ True) (by kernel_rfl) ?_)
                                        ((repeat' apply And.intro) <;> first | assumption | exact trivial | exact ⟨rfl⟩ | (refine ⟨?_⟩; assumption) | (refine inR64 ?_ ?_ <;> omega) | (refine ⟨?_⟩; omega) | (refine ⟨?_⟩; rw [Bool.eq_iff_iff]; simp only [decide_eq_true_eq, decide_eq_false_iff_not, Bool.false_eq_true, Bool.true_eq_false, Bool.not_eq_true', Bool.and_eq_true, Bool.or_eq_true, Bool.not_eq_false', false_iff, iff_false, true_iff, iff_true]; omega) | (exfalso; omega) | (exact TrB_out (by assumption)) | (refine ⟨?_⟩; have h8 := (TrB_out (by assumption)).r8; omega) | (exact fun _ _ => ⟨rfl, rfl⟩))
    · have hp0 := ht0
      try simp only [decide_eq_true_eq, decide_eq_false_iff_not, Bool.not_eq_true', Bool.not_eq_false', Bool.not_eq_eq_eq_not, Bool.not_true, Bool.not_false] at hp0
      try simp only [reduceCtorEq, not_true_eq_false, isEq, decide_true, Bool.and_true, Bool.true_and, Bool.and_eq_true, Bool.and_eq_false_iff, decide_eq_true_eq, decide_eq_false_iff_not] at hp0
      all_goals first | (exfalso; omega) | (exfalso; simp_all; done) | skip
      all_goals
        refine Tri.path hB 200 [true] (of_skel (q := (EqB (!decide ((↑r : Int) ≤ 11)) true ∧ True) ∧ (EqB true true ∧ True) ∧ True) (by kernel_rfl) ?_)
        ((repeat' apply And.intro) <;> first | assumption | exact trivial | exact ⟨rfl⟩ | (refine ⟨?_⟩; assumption) | (refine inR64 ?_ ?_ <;> omega) | (refine ⟨?_⟩; omega) | (refine ⟨?_⟩; rw [Bool.eq_iff_iff]; simp only [decide_eq_true_eq, decide_eq_false_iff_not, Bool.false_eq_true, Bool.true_eq_false, Bool.not_eq_true', Bool.and_eq_true, Bool.or_eq_true, Bool.not_eq_false', false_iff, iff_false, true_iff, iff_true]; omega) | (exfalso; omega) | (exact TrB_out (by assumption)) | (refine ⟨?_⟩; have h8 := (TrB_out (by assumption)).r8; omega) | (exact fun _ _ => ⟨rfl, rfl⟩))

end Go.Proofs.YtknplcpjmpmblaaDoor.GY
