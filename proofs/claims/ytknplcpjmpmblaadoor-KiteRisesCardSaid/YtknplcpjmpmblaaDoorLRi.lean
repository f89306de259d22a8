/- The law isobar/isobarlaw07.KiteRises. -/
import Derived.Test.YtknplcpjmpmblaaDoorKrz
set_option linter.unusedVariables false
set_option linter.unusedSimpArgs false
namespace Go.Proofs.YtknplcpjmpmblaaDoor.GY
open Go Go.RowKit Go.Proofs
noncomputable def tbRi : Tab := lTab [7, 26, 34, 65] [(76, FTr), (72, FWth), (82, FTm), (83, FHe), (29, FRt), (35, FRm), (37, FRr), (36, FSa)] []
set_option maxRecDepth 100000 in
set_option maxHeartbeats 2000000 in
theorem lawRi (lo hi b0 : Int) (r d : Nat) (fm ft : Nat → Nat → Int) {w : World} (hs : SinAt w) {A1 A2 : Option Addr} {c1 c2 : Nat} (h1 : Reads1 w 0 (.slice A1 r c1) (.rows 0 3 r fm)) (h2 : Reads1 w 0 (.slice A2 d c2) (.rows 0 1 d ft)) : Calls Tryd.prog 7 #[.agg #[.int .i64 lo, .int .i64 hi, .slice A1 r c1], .int .i64 b0, .slice A2 d c2] w fun e w' => e = .returned (.bool true) ∧ Below w.heap.size w w' := by
  have hB : TabOK Tryd.prog tbRi ⟨w.heap.size, w⟩ := lTab_ok hs (fun p hp => by
      rcases List.mem_cons.1 hp with rfl | hp
      · exact spTr
      rcases List.mem_cons.1 hp with rfl | hp
      · exact spWth
      rcases List.mem_cons.1 hp with rfl | hp
      · exact spTm
      rcases List.mem_cons.1 hp with rfl | hp
      · exact spHe
      rcases List.mem_cons.1 hp with rfl | hp
      · exact spRt
      rcases List.mem_cons.1 hp with rfl | hp
      · exact spRm
      rcases List.mem_cons.1 hp with rfl | hp
      · exact spRr
      rcases List.mem_cons.1 hp with rfl | hp
      · exact spSa
      cases hp) (fun p hp => by cases hp)
  refine law_true (vs := [.agg #[.int .i64 lo, .int .i64 hi, .slice A1 r c1], .int .i64 b0, .slice A2 d c2]) (law_body (gs := [.agg [.lit (.int .i64 lo), .lit (.int .i64 hi), .rows 0 3 r fm], .lit (.int .i64 b0), .rows 0 1 d ft]) hB Tryd.func7 (by kernel_rfl) ⟨⟨[_, _, _], rfl, rfl, rfl, h1, trivial⟩, rfl, h2, trivial⟩ rfl (Nat.le_of_ble_eq_true (by kernel_rfl)) (Nat.le_of_ble_eq_true (by kernel_rfl)) fun E hE => ?_)
  have hRm : RmB lo hi b0 r d fm ft = (TmB r d fm ft && decide (lo ≤ b0 ∧ b0 ≤ hi)) := rfl
  have hSm : sameR r r (fun k x => hF b0 fm ft k) (fun k x => hF b0 fm ft k) = true := same_refl _ _
  have hR1 : TrB lo hi r fm = true → ¬ ((r : Int) = 0) := fun h => by have := (TrB_out h).r1; omega
  cases ht0 : (!decide ((↑r : Int) ≤ 11))
  · have hp0 := ht0
    try simp only [decide_eq_true_eq, decide_eq_false_iff_not, Bool.not_eq_true', Bool.not_eq_false', Bool.not_eq_eq_eq_not, Bool.not_true, Bool.not_false] at hp0
    try simp only [reduceCtorEq, not_true_eq_false, isEq, decide_true, Bool.and_true, Bool.true_and, Bool.and_eq_true, Bool.and_eq_false_iff, decide_eq_true_eq, decide_eq_false_iff_not] at hp0
    all_goals first | (exfalso; omega) | (exfalso; simp_all; done) | skip
    all_goals
      cases ht1 : (decide ((↑d : Int) > 11))
      · have hp1 := ht1
        try simp only [decide_eq_true_eq, decide_eq_false_iff_not, Bool.not_eq_true', Bool.not_eq_false', Bool.not_eq_eq_eq_not, Bool.not_true, Bool.not_false] at hp1
        try simp only [reduceCtorEq, not_true_eq_false, isEq, decide_true, Bool.and_true, Bool.true_and, Bool.and_eq_true, Bool.and_eq_false_iff, decide_eq_true_eq, decide_eq_false_iff_not] at hp1
        all_goals first | (exfalso; omega) | (exfalso; simp_all; done) | skip
        all_goals
          cases ht2 : (TrB lo hi r fm)
          · have hp2 := ht2
            try simp only [decide_eq_true_eq, decide_eq_false_iff_not, Bool.not_eq_true', Bool.not_eq_false', Bool.not_eq_eq_eq_not, Bool.not_true, Bool.not_false] at hp2
            try simp only [reduceCtorEq, not_true_eq_false, isEq, decide_true, Bool.and_true, Bool.true_and, Bool.and_eq_true, Bool.and_eq_false_iff, decide_eq_true_eq, decide_eq_false_iff_not] at hp2
            all_goals first | (exfalso; omega) | (exfalso; simp_all; done) | skip
            all_goals
              cases ht3 : (true)
              · have hp3 := ht3
                try simp only [decide_eq_true_eq, decide_eq_false_iff_not, Bool.not_eq_true', Bool.not_eq_false', Bool.not_eq_eq_eq_not, Bool.not_true, Bool.not_false] at hp3
                try simp only [reduceCtorEq, not_true_eq_false, isEq, decide_true, Bool.and_true, Bool.true_and, Bool.and_eq_true, Bool.and_eq_false_iff, decide_eq_true_eq, decide_eq_false_iff_not] at hp3
                all_goals first | (exfalso; omega) | (exfalso; simp_all; done) | skip
                all_goals
                  first | (exfalso; omega) | simp_all
              · have hp3 := ht3
                try simp only [decide_eq_true_eq, decide_eq_false_iff_not, Bool.not_eq_true', Bool.not_eq_false', Bool.not_eq_eq_eq_not, Bool.not_true, Bool.not_false] at hp3
                try simp only [reduceCtorEq, not_true_eq_false, isEq, decide_true, Bool.and_true, Bool.true_and, Bool.and_eq_true, Bool.and_eq_false_iff, decide_eq_true_eq, decide_eq_false_iff_not] at hp3
                all_goals first | (exfalso; omega) | (exfalso; simp_all; done) | skip
                all_goals
                  cases ht4 : (!TrB lo hi r fm)
                  · have hp4 := ht4
                    try simp only [decide_eq_true_eq, decide_eq_false_iff_not, Bool.not_eq_true', Bool.not_eq_false', Bool.not_eq_eq_eq_not, Bool.not_true, Bool.not_false] at hp4
                    try simp only [reduceCtorEq, not_true_eq_false, isEq, decide_true, Bool.and_true, Bool.true_and, Bool.and_eq_true, Bool.and_eq_false_iff, decide_eq_true_eq, decide_eq_false_iff_not] at hp4
                    all_goals first | (exfalso; omega) | (exfalso; simp_all; done) | skip
                    all_goals
                      cases ht5 : (!RmB lo hi b0 r d fm ft)
                      · have hp5 := ht5
                        try simp only [decide_eq_true_eq, decide_eq_false_iff_not, Bool.not_eq_true', Bool.not_eq_false', Bool.not_eq_eq_eq_not, Bool.not_true, Bool.not_false] at hp5
                        try simp only [reduceCtorEq, not_true_eq_false, isEq, decide_true, Bool.and_true, Bool.true_and, Bool.and_eq_true, Bool.and_eq_false_iff, decide_eq_true_eq, decide_eq_false_iff_not] at hp5
                        all_goals first | (exfalso; omega) | (exfalso; simp_all; done) | skip
                        all_goals
                          first | (exfalso; omega) | simp_all
                      · have hp5 := ht5
                        try simp only [decide_eq_true_eq, decide_eq_false_iff_not, Bool.not_eq_true', Bool.not_eq_false', Bool.not_eq_eq_eq_not, Bool.not_true, Bool.not_false] at hp5
                        try simp only [reduceCtorEq, not_true_eq_false, isEq, decide_true, Bool.and_true, Bool.true_and, Bool.and_eq_true, Bool.and_eq_false_iff, decide_eq_true_eq, decide_eq_false_iff_not] at hp5
                        all_goals first | (exfalso; omega) | (exfalso; simp_all; done) | skip
                        all_goals
                          cases ht6 : (true)
                          · have hp6 := ht6
                            try simp only [decide_eq_true_eq, decide_eq_false_iff_not, Bool.not_eq_true', Bool.not_eq_false', Bool.not_eq_eq_eq_not, Bool.not_true, Bool.not_false] at hp6
                            try simp only [reduceCtorEq, not_true_eq_false, isEq, decide_true, Bool.and_true, Bool.true_and, Bool.and_eq_true, Bool.and_eq_false_iff, decide_eq_true_eq, decide_eq_false_iff_not] at hp6
                            all_goals first | (exfalso; omega) | (exfalso; simp_all; done) | skip
                            all_goals
                              first | (exfalso; omega) | simp_all
                          · have hp6 := ht6
                            try simp only [decide_eq_true_eq, decide_eq_false_iff_not, Bool.not_eq_true', Bool.not_eq_false', Bool.not_eq_eq_eq_not, Bool.not_true, Bool.not_false] at hp6
                            try simp only [reduceCtorEq, not_true_eq_false, isEq, decide_true, Bool.and_true, Bool.true_and, Bool.and_eq_true, Bool.and_eq_false_iff, decide_eq_true_eq, decide_eq_false_iff_not] at hp6
                            all_goals first | (exfalso; omega) | (exfalso; simp_all; done) | skip
                            all_goals
                              cases ht7 : (true)
                              · have hp7 := ht7
                                try simp only [decide_eq_true_eq, decide_eq_false_iff_not, Bool.not_eq_true', Bool.not_eq_false', Bool.not_eq_eq_eq_not, Bool.not_true, Bool.not_false] at hp7
                                try simp only [reduceCtorEq, not_true_eq_false, isEq, decide_true, Bool.and_true, Bool.true_and, Bool.and_eq_true, Bool.and_eq_false_iff, decide_eq_true_eq, decide_eq_false_iff_not] at hp7
                                all_goals first | (exfalso; omega) | (exfalso; simp_all; done) | skip
                                all_goals
                                  first | (exfalso; omega) | simp_all
                              · have hp7 := ht7
                                try simp only [decide_eq_true_eq, decide_eq_false_iff_not, Bool.not_eq_true', Bool.not_eq_false', Bool.not_eq_eq_eq_not, Bool.not_true, Bool.not_false] at hp7
                                try simp only [reduceCtorEq, not_true_eq_false, isEq, decide_true, Bool.and_true, Bool.true_and, Bool.and_eq_true, Bool.and_eq_false_iff, decide_eq_true_eq, decide_eq_false_iff_not] at hp7
                                all_goals first | (exfalso; omega) | (exfalso; simp_all; done) | skip
                                all_goals
                                  refine Tri.path hB 200 [false, false, false, true, false, true, true, true] (of_skel (q := (EqB true true ∧ EqB true true ∧ EqB (!RmB lo hi b0 r d fm ft) true ∧ LeN r r ∧ LeN d d ∧ LeN r 1000000000000 ∧ EqB (!TrB lo hi r fm) false ∧ LeN r r ∧ LeN r 1000000000000 ∧ EqB true true ∧ EqB (TrB lo hi r fm) false ∧ LeN r r ∧ EqB (decide ((↑d : Int) > 11)) false ∧ EqB (!decide ((↑r : Int) ≤ 11)) false ∧ True) ∧ (EqB true true ∧ True) ∧ True) (by kernel_rfl) ?_)
                                  ((repeat' apply And.intro) <;> first | assumption | exact trivial | exact ⟨rfl⟩ | (refine ⟨?_⟩; assumption) | (refine inR64 ?_ ?_ <;> omega) | (refine ⟨?_⟩; omega) | (refine ⟨?_⟩; rw [Bool.eq_iff_iff]; simp only [decide_eq_true_eq, decide_eq_false_iff_not, Bool.false_eq_true, Bool.true_eq_false, Bool.not_eq_true', Bool.and_eq_true, Bool.or_eq_true, Bool.not_eq_false', false_iff, iff_false, true_iff, iff_true]; omega) | (exfalso; omega) | (exact ht_in (by assumption) (by assumption) (by first | assumption | simp_all)) | (refine ⟨?_⟩; have h8 := (TrB_out (by assumption)).r8; omega) | (exact same_refl _ _))
                  · have hp4 := ht4
                    try simp only [decide_eq_true_eq, decide_eq_false_iff_not, Bool.not_eq_true', Bool.not_eq_false', Bool.not_eq_eq_eq_not, Bool.not_true, Bool.not_false] at hp4
                    try simp only [reduceCtorEq, not_true_eq_false, isEq, decide_true, Bool.and_true, Bool.true_and, Bool.and_eq_true, Bool.and_eq_false_iff, decide_eq_true_eq, decide_eq_false_iff_not] at hp4
                    all_goals first | (exfalso; omega) | (exfalso; simp_all; done) | skip
                    all_goals
                      cases ht5 : (true)
                      · have hp5 := ht5
                        try simp only [decide_eq_true_eq, decide_eq_false_iff_not, Bool.not_eq_true', Bool.not_eq_false', Bool.not_eq_eq_eq_not, Bool.not_true, Bool.not_false] at hp5
                        try simp only [reduceCtorEq, not_true_eq_false, isEq, decide_true, Bool.and_true, Bool.true_and, Bool.and_eq_true, Bool.and_eq_false_iff, decide_eq_true_eq, decide_eq_false_iff_not] at hp5
                        all_goals first | (exfalso; omega) | (exfalso; simp_all; done) | skip
                        all_goals
                          first | (exfalso; omega) | simp_all
                      · have hp5 := ht5
                        try simp only [decide_eq_true_eq, decide_eq_false_iff_not, Bool.not_eq_true', Bool.not_eq_false', Bool.not_eq_eq_eq_not, Bool.not_true, Bool.not_false] at hp5
                        try simp only [reduceCtorEq, not_true_eq_false, isEq, decide_true, Bool.and_true, Bool.true_and, Bool.and_eq_true, Bool.and_eq_false_iff, decide_eq_true_eq, decide_eq_false_iff_not] at hp5
                        all_goals first | (exfalso; omega) | (exfalso; simp_all; done) | skip
                        all_goals
                          cases ht6 : (true)
                          · have hp6 := ht6
                            try simp only [decide_eq_true_eq, decide_eq_false_iff_not, Bool.not_eq_true', Bool.not_eq_false', Bool.not_eq_eq_eq_not, Bool.not_true, Bool.not_false] at hp6
                            try simp only [reduceCtorEq, not_true_eq_false, isEq, decide_true, Bool.and_true, Bool.true_and, Bool.and_eq_true, Bool.and_eq_false_iff, decide_eq_true_eq, decide_eq_false_iff_not] at hp6
                            all_goals first | (exfalso; omega) | (exfalso; simp_all; done) | skip
                            all_goals
                              first | (exfalso; omega) | simp_all
                          · have hp6 := ht6
                            try simp only [decide_eq_true_eq, decide_eq_false_iff_not, Bool.not_eq_true', Bool.not_eq_false', Bool.not_eq_eq_eq_not, Bool.not_true, Bool.not_false] at hp6
                            try simp only [reduceCtorEq, not_true_eq_false, isEq, decide_true, Bool.and_true, Bool.true_and, Bool.and_eq_true, Bool.and_eq_false_iff, decide_eq_true_eq, decide_eq_false_iff_not] at hp6
                            all_goals first | (exfalso; omega) | (exfalso; simp_all; done) | skip
                            all_goals
                              refine Tri.path hB 200 [false, false, false, true, true, true, true] (of_skel (q := (EqB true true ∧ EqB true true ∧ EqB (!TrB lo hi r fm) true ∧ LeN r r ∧ LeN r 1000000000000 ∧ EqB true true ∧ EqB (TrB lo hi r fm) false ∧ LeN r r ∧ EqB (decide ((↑d : Int) > 11)) false ∧ EqB (!decide ((↑r : Int) ≤ 11)) false ∧ True) ∧ (EqB true true ∧ True) ∧ True) (by kernel_rfl) ?_)
                              ((repeat' apply And.intro) <;> first | assumption | exact trivial | exact ⟨rfl⟩ | (refine ⟨?_⟩; assumption) | (refine inR64 ?_ ?_ <;> omega) | (refine ⟨?_⟩; omega) | (refine ⟨?_⟩; rw [Bool.eq_iff_iff]; simp only [decide_eq_true_eq, decide_eq_false_iff_not, Bool.false_eq_true, Bool.true_eq_false, Bool.not_eq_true', Bool.and_eq_true, Bool.or_eq_true, Bool.not_eq_false', false_iff, iff_false, true_iff, iff_true]; omega) | (exfalso; omega) | (exact ht_in (by assumption) (by assumption) (by first | assumption | simp_all)) | (refine ⟨?_⟩; have h8 := (TrB_out (by assumption)).r8; omega) | (exact same_refl _ _))
          · have hp2 := ht2
            try simp only [decide_eq_true_eq, decide_eq_false_iff_not, Bool.not_eq_true', Bool.not_eq_false', Bool.not_eq_eq_eq_not, Bool.not_true, Bool.not_false] at hp2
            try simp only [reduceCtorEq, not_true_eq_false, isEq, decide_true, Bool.and_true, Bool.true_and, Bool.and_eq_true, Bool.and_eq_false_iff, decide_eq_true_eq, decide_eq_false_iff_not] at hp2
            all_goals first | (exfalso; omega) | (exfalso; simp_all; done) | skip
            all_goals
              cases ht3 : (decide (lo ≤ b0 ∧ b0 ≤ hi))
              · have hp3 := ht3
                try simp only [decide_eq_true_eq, decide_eq_false_iff_not, Bool.not_eq_true', Bool.not_eq_false', Bool.not_eq_eq_eq_not, Bool.not_true, Bool.not_false] at hp3
                try simp only [reduceCtorEq, not_true_eq_false, isEq, decide_true, Bool.and_true, Bool.true_and, Bool.and_eq_true, Bool.and_eq_false_iff, decide_eq_true_eq, decide_eq_false_iff_not] at hp3
                all_goals first | (exfalso; omega) | (exfalso; simp_all; done) | skip
                all_goals
                  cases ht4 : (true)
                  · have hp4 := ht4
                    try simp only [decide_eq_true_eq, decide_eq_false_iff_not, Bool.not_eq_true', Bool.not_eq_false', Bool.not_eq_eq_eq_not, Bool.not_true, Bool.not_false] at hp4
                    try simp only [reduceCtorEq, not_true_eq_false, isEq, decide_true, Bool.and_true, Bool.true_and, Bool.and_eq_true, Bool.and_eq_false_iff, decide_eq_true_eq, decide_eq_false_iff_not] at hp4
                    all_goals first | (exfalso; omega) | (exfalso; simp_all; done) | skip
                    all_goals
                      first | (exfalso; omega) | simp_all
                  · have hp4 := ht4
                    try simp only [decide_eq_true_eq, decide_eq_false_iff_not, Bool.not_eq_true', Bool.not_eq_false', Bool.not_eq_eq_eq_not, Bool.not_true, Bool.not_false] at hp4
                    try simp only [reduceCtorEq, not_true_eq_false, isEq, decide_true, Bool.and_true, Bool.true_and, Bool.and_eq_true, Bool.and_eq_false_iff, decide_eq_true_eq, decide_eq_false_iff_not] at hp4
                    all_goals first | (exfalso; omega) | (exfalso; simp_all; done) | skip
                    all_goals
                      cases ht5 : (!TrB lo hi r fm)
                      · have hp5 := ht5
                        try simp only [decide_eq_true_eq, decide_eq_false_iff_not, Bool.not_eq_true', Bool.not_eq_false', Bool.not_eq_eq_eq_not, Bool.not_true, Bool.not_false] at hp5
                        try simp only [reduceCtorEq, not_true_eq_false, isEq, decide_true, Bool.and_true, Bool.true_and, Bool.and_eq_true, Bool.and_eq_false_iff, decide_eq_true_eq, decide_eq_false_iff_not] at hp5
                        all_goals first | (exfalso; omega) | (exfalso; simp_all; done) | skip
                        all_goals
                          cases ht6 : (!RmB lo hi b0 r d fm ft)
                          · have hp6 := ht6
                            try simp only [decide_eq_true_eq, decide_eq_false_iff_not, Bool.not_eq_true', Bool.not_eq_false', Bool.not_eq_eq_eq_not, Bool.not_true, Bool.not_false] at hp6
                            try simp only [reduceCtorEq, not_true_eq_false, isEq, decide_true, Bool.and_true, Bool.true_and, Bool.and_eq_true, Bool.and_eq_false_iff, decide_eq_true_eq, decide_eq_false_iff_not] at hp6
                            all_goals first | (exfalso; omega) | (exfalso; simp_all; done) | skip
                            all_goals
                              first | (exfalso; omega) | simp_all
                          · have hp6 := ht6
                            try simp only [decide_eq_true_eq, decide_eq_false_iff_not, Bool.not_eq_true', Bool.not_eq_false', Bool.not_eq_eq_eq_not, Bool.not_true, Bool.not_false] at hp6
                            try simp only [reduceCtorEq, not_true_eq_false, isEq, decide_true, Bool.and_true, Bool.true_and, Bool.and_eq_true, Bool.and_eq_false_iff, decide_eq_true_eq, decide_eq_false_iff_not] at hp6
                            all_goals first | (exfalso; omega) | (exfalso; simp_all; done) | skip
                            all_goals
                              cases ht7 : (true)
                              · have hp7 := ht7
                                try simp only [decide_eq_true_eq, decide_eq_false_iff_not, Bool.not_eq_true', Bool.not_eq_false', Bool.not_eq_eq_eq_not, Bool.not_true, Bool.not_false] at hp7
                                try simp only [reduceCtorEq, not_true_eq_false, isEq, decide_true, Bool.and_true, Bool.true_and, Bool.and_eq_true, Bool.and_eq_false_iff, decide_eq_true_eq, decide_eq_false_iff_not] at hp7
                                all_goals first | (exfalso; omega) | (exfalso; simp_all; done) | skip
                                all_goals
                                  first | (exfalso; omega) | simp_all
                              · have hp7 := ht7
                                try simp only [decide_eq_true_eq, decide_eq_false_iff_not, Bool.not_eq_true', Bool.not_eq_false', Bool.not_eq_eq_eq_not, Bool.not_true, Bool.not_false] at hp7
                                try simp only [reduceCtorEq, not_true_eq_false, isEq, decide_true, Bool.and_true, Bool.true_and, Bool.and_eq_true, Bool.and_eq_false_iff, decide_eq_true_eq, decide_eq_false_iff_not] at hp7
                                all_goals first | (exfalso; omega) | (exfalso; simp_all; done) | skip
                                all_goals
                                  cases ht8 : (true)
                                  · have hp8 := ht8
                                    try simp only [decide_eq_true_eq, decide_eq_false_iff_not, Bool.not_eq_true', Bool.not_eq_false', Bool.not_eq_eq_eq_not, Bool.not_true, Bool.not_false] at hp8
                                    try simp only [reduceCtorEq, not_true_eq_false, isEq, decide_true, Bool.and_true, Bool.true_and, Bool.and_eq_true, Bool.and_eq_false_iff, decide_eq_true_eq, decide_eq_false_iff_not] at hp8
                                    all_goals first | (exfalso; omega) | (exfalso; simp_all; done) | skip
                                    all_goals
                                      first | (exfalso; omega) | simp_all
                                  · have hp8 := ht8
                                    try simp only [decide_eq_true_eq, decide_eq_false_iff_not, Bool.not_eq_true', Bool.not_eq_false', Bool.not_eq_eq_eq_not, Bool.not_true, Bool.not_false] at hp8
                                    try simp only [reduceCtorEq, not_true_eq_false, isEq, decide_true, Bool.and_true, Bool.true_and, Bool.and_eq_true, Bool.and_eq_false_iff, decide_eq_true_eq, decide_eq_false_iff_not] at hp8
                                    all_goals first | (exfalso; omega) | (exfalso; simp_all; done) | skip
                                    all_goals
                                      refine Tri.path hB 200 [false, false, true, false, true, false, true, true, true] (of_skel (q := (EqB true true ∧ EqB true true ∧ EqB (!RmB lo hi b0 r d fm ft) true ∧ LeN r r ∧ LeN d d ∧ LeN r 1000000000000 ∧ EqB (!TrB lo hi r fm) false ∧ LeN r r ∧ LeN r 1000000000000 ∧ EqB true true ∧ EqB (decide (lo ≤ b0 ∧ b0 ≤ hi)) false ∧ EqB (TrB lo hi r fm) true ∧ LeN r r ∧ EqB (decide ((↑d : Int) > 11)) false ∧ EqB (!decide ((↑r : Int) ≤ 11)) false ∧ True) ∧ (EqB true true ∧ True) ∧ True) (by kernel_rfl) ?_)
                                      ((repeat' apply And.intro) <;> first | assumption | exact trivial | exact ⟨rfl⟩ | (refine ⟨?_⟩; assumption) | (refine inR64 ?_ ?_ <;> omega) | (refine ⟨?_⟩; omega) | (refine ⟨?_⟩; rw [Bool.eq_iff_iff]; simp only [decide_eq_true_eq, decide_eq_false_iff_not, Bool.false_eq_true, Bool.true_eq_false, Bool.not_eq_true', Bool.and_eq_true, Bool.or_eq_true, Bool.not_eq_false', false_iff, iff_false, true_iff, iff_true]; omega) | (exfalso; omega) | (exact ht_in (by assumption) (by assumption) (by first | assumption | simp_all)) | (refine ⟨?_⟩; have h8 := (TrB_out (by assumption)).r8; omega) | (exact same_refl _ _))
                      · have hp5 := ht5
                        try simp only [decide_eq_true_eq, decide_eq_false_iff_not, Bool.not_eq_true', Bool.not_eq_false', Bool.not_eq_eq_eq_not, Bool.not_true, Bool.not_false] at hp5
                        try simp only [reduceCtorEq, not_true_eq_false, isEq, decide_true, Bool.and_true, Bool.true_and, Bool.and_eq_true, Bool.and_eq_false_iff, decide_eq_true_eq, decide_eq_false_iff_not] at hp5
                        all_goals first | (exfalso; omega) | (exfalso; simp_all; done) | skip
                        all_goals
                          cases ht6 : (true)
                          · have hp6 := ht6
                            try simp only [decide_eq_true_eq, decide_eq_false_iff_not, Bool.not_eq_true', Bool.not_eq_false', Bool.not_eq_eq_eq_not, Bool.not_true, Bool.not_false] at hp6
                            try simp only [reduceCtorEq, not_true_eq_false, isEq, decide_true, Bool.and_true, Bool.true_and, Bool.and_eq_true, Bool.and_eq_false_iff, decide_eq_true_eq, decide_eq_false_iff_not] at hp6
                            all_goals first | (exfalso; omega) | (exfalso; simp_all; done) | skip
                            all_goals
                              first | (exfalso; omega) | simp_all
                          · have hp6 := ht6
                            try simp only [decide_eq_true_eq, decide_eq_false_iff_not, Bool.not_eq_true', Bool.not_eq_false', Bool.not_eq_eq_eq_not, Bool.not_true, Bool.not_false] at hp6
                            try simp only [reduceCtorEq, not_true_eq_false, isEq, decide_true, Bool.and_true, Bool.true_and, Bool.and_eq_true, Bool.and_eq_false_iff, decide_eq_true_eq, decide_eq_false_iff_not] at hp6
                            all_goals first | (exfalso; omega) | (exfalso; simp_all; done) | skip
                            all_goals
                              cases ht7 : (true)
                              · have hp7 := ht7
                                try simp only [decide_eq_true_eq, decide_eq_false_iff_not, Bool.not_eq_true', Bool.not_eq_false', Bool.not_eq_eq_eq_not, Bool.not_true, Bool.not_false] at hp7
                                try simp only [reduceCtorEq, not_true_eq_false, isEq, decide_true, Bool.and_true, Bool.true_and, Bool.and_eq_true, Bool.and_eq_false_iff, decide_eq_true_eq, decide_eq_false_iff_not] at hp7
                                all_goals first | (exfalso; omega) | (exfalso; simp_all; done) | skip
                                all_goals
                                  first | (exfalso; omega) | simp_all
                              · have hp7 := ht7
                                try simp only [decide_eq_true_eq, decide_eq_false_iff_not, Bool.not_eq_true', Bool.not_eq_false', Bool.not_eq_eq_eq_not, Bool.not_true, Bool.not_false] at hp7
                                try simp only [reduceCtorEq, not_true_eq_false, isEq, decide_true, Bool.and_true, Bool.true_and, Bool.and_eq_true, Bool.and_eq_false_iff, decide_eq_true_eq, decide_eq_false_iff_not] at hp7
                                all_goals first | (exfalso; omega) | (exfalso; simp_all; done) | skip
                                all_goals
                                  refine Tri.path hB 200 [false, false, true, false, true, true, true, true] (of_skel (q := (EqB true true ∧ EqB true true ∧ EqB (!TrB lo hi r fm) true ∧ LeN r r ∧ LeN r 1000000000000 ∧ EqB true true ∧ EqB (decide (lo ≤ b0 ∧ b0 ≤ hi)) false ∧ EqB (TrB lo hi r fm) true ∧ LeN r r ∧ EqB (decide ((↑d : Int) > 11)) false ∧ EqB (!decide ((↑r : Int) ≤ 11)) false ∧ True) ∧ (EqB true true ∧ True) ∧ True) (by kernel_rfl) ?_)
                                  ((repeat' apply And.intro) <;> first | assumption | exact trivial | exact ⟨rfl⟩ | (refine ⟨?_⟩; assumption) | (refine inR64 ?_ ?_ <;> omega) | (refine ⟨?_⟩; omega) | (refine ⟨?_⟩; rw [Bool.eq_iff_iff]; simp only [decide_eq_true_eq, decide_eq_false_iff_not, Bool.false_eq_true, Bool.true_eq_false, Bool.not_eq_true', Bool.and_eq_true, Bool.or_eq_true, Bool.not_eq_false', false_iff, iff_false, true_iff, iff_true]; omega) | (exfalso; omega) | (exact ht_in (by assumption) (by assumption) (by first | assumption | simp_all)) | (refine ⟨?_⟩; have h8 := (TrB_out (by assumption)).r8; omega) | (exact same_refl _ _))
              · have hp3 := ht3
                try simp only [decide_eq_true_eq, decide_eq_false_iff_not, Bool.not_eq_true', Bool.not_eq_false', Bool.not_eq_eq_eq_not, Bool.not_true, Bool.not_false] at hp3
                try simp only [reduceCtorEq, not_true_eq_false, isEq, decide_true, Bool.and_true, Bool.true_and, Bool.and_eq_true, Bool.and_eq_false_iff, decide_eq_true_eq, decide_eq_false_iff_not] at hp3
                all_goals first | (exfalso; omega) | (exfalso; simp_all; done) | skip
                all_goals
                  cases ht4 : (!TmB r d fm ft)
                  · have hp4 := ht4
                    try simp only [decide_eq_true_eq, decide_eq_false_iff_not, Bool.not_eq_true', Bool.not_eq_false', Bool.not_eq_eq_eq_not, Bool.not_true, Bool.not_false] at hp4
                    try simp only [reduceCtorEq, not_true_eq_false, isEq, decide_true, Bool.and_true, Bool.true_and, Bool.and_eq_true, Bool.and_eq_false_iff, decide_eq_true_eq, decide_eq_false_iff_not] at hp4
                    all_goals first | (exfalso; omega) | (exfalso; simp_all; done) | skip
                    all_goals
                      cases ht5 : (false)
                      · have hp5 := ht5
                        try simp only [decide_eq_true_eq, decide_eq_false_iff_not, Bool.not_eq_true', Bool.not_eq_false', Bool.not_eq_eq_eq_not, Bool.not_true, Bool.not_false] at hp5
                        try simp only [reduceCtorEq, not_true_eq_false, isEq, decide_true, Bool.and_true, Bool.true_and, Bool.and_eq_true, Bool.and_eq_false_iff, decide_eq_true_eq, decide_eq_false_iff_not] at hp5
                        all_goals first | (exfalso; omega) | (exfalso; simp_all; done) | skip
                        all_goals
                          cases ht6 : (!TrB lo hi r fm)
                          · have hp6 := ht6
                            try simp only [decide_eq_true_eq, decide_eq_false_iff_not, Bool.not_eq_true', Bool.not_eq_false', Bool.not_eq_eq_eq_not, Bool.not_true, Bool.not_false] at hp6
                            try simp only [reduceCtorEq, not_true_eq_false, isEq, decide_true, Bool.and_true, Bool.true_and, Bool.and_eq_true, Bool.and_eq_false_iff, decide_eq_true_eq, decide_eq_false_iff_not] at hp6
                            all_goals first | (exfalso; omega) | (exfalso; simp_all; done) | skip
                            all_goals
                              cases ht7 : (!RmB lo hi b0 r d fm ft)
                              · have hp7 := ht7
                                try simp only [decide_eq_true_eq, decide_eq_false_iff_not, Bool.not_eq_true', Bool.not_eq_false', Bool.not_eq_eq_eq_not, Bool.not_true, Bool.not_false] at hp7
                                try simp only [reduceCtorEq, not_true_eq_false, isEq, decide_true, Bool.and_true, Bool.true_and, Bool.and_eq_true, Bool.and_eq_false_iff, decide_eq_true_eq, decide_eq_false_iff_not] at hp7
                                all_goals first | (exfalso; omega) | (exfalso; simp_all; done) | skip
                                all_goals
                                  cases ht8 : (true)
                                  · have hp8 := ht8
                                    try simp only [decide_eq_true_eq, decide_eq_false_iff_not, Bool.not_eq_true', Bool.not_eq_false', Bool.not_eq_eq_eq_not, Bool.not_true, Bool.not_false] at hp8
                                    try simp only [reduceCtorEq, not_true_eq_false, isEq, decide_true, Bool.and_true, Bool.true_and, Bool.and_eq_true, Bool.and_eq_false_iff, decide_eq_true_eq, decide_eq_false_iff_not] at hp8
                                    all_goals first | (exfalso; omega) | (exfalso; simp_all; done) | skip
                                    all_goals
                                      first | (exfalso; omega) | simp_all
                                  · have hp8 := ht8
                                    try simp only [decide_eq_true_eq, decide_eq_false_iff_not, Bool.not_eq_true', Bool.not_eq_false', Bool.not_eq_eq_eq_not, Bool.not_true, Bool.not_false] at hp8
                                    try simp only [reduceCtorEq, not_true_eq_false, isEq, decide_true, Bool.and_true, Bool.true_and, Bool.and_eq_true, Bool.and_eq_false_iff, decide_eq_true_eq, decide_eq_false_iff_not] at hp8
                                    all_goals first | (exfalso; omega) | (exfalso; simp_all; done) | skip
                                    all_goals
                                      cases ht9 : (sameR r r (fun k x => hF b0 fm ft k) fun k x => hF b0 fm ft k)
                                      · have hp9 := ht9
                                        try simp only [decide_eq_true_eq, decide_eq_false_iff_not, Bool.not_eq_true', Bool.not_eq_false', Bool.not_eq_eq_eq_not, Bool.not_true, Bool.not_false] at hp9
                                        try simp only [reduceCtorEq, not_true_eq_false, isEq, decide_true, Bool.and_true, Bool.true_and, Bool.and_eq_true, Bool.and_eq_false_iff, decide_eq_true_eq, decide_eq_false_iff_not] at hp9
                                        all_goals first | (exfalso; omega) | (exfalso; simp_all; done) | skip
                                        all_goals
                                          refine Tri.path hB 200 [false, false, true, true, false, false, false, false, true, false] (of_skel (q := (EqB (sameR r r (fun k x => hF b0 fm ft k) fun k x => hF b0 fm ft k) false ∧ LeN r r ∧ LeN r r ∧ LeN r 100000 ∧ LeN r 100000 ∧ LeN r r ∧ LeN d d ∧ HtIn r d b0 fm ft ∧ EqB true true ∧ EqB (!RmB lo hi b0 r d fm ft) false ∧ LeN r r ∧ LeN d d ∧ LeN r 1000000000000 ∧ EqB (!TrB lo hi r fm) false ∧ LeN r r ∧ LeN r 1000000000000 ∧ LeN r r ∧ LeN d d ∧ HtIn r d b0 fm ft ∧ EqB false false ∧ EqB (!TmB r d fm ft) false ∧ LeN r r ∧ LeN d d ∧ LeN r 1000000000000 ∧ EqB (decide (lo ≤ b0 ∧ b0 ≤ hi)) true ∧ EqB (TrB lo hi r fm) true ∧ LeN r r ∧ EqB (decide ((↑d : Int) > 11)) false ∧ EqB (!decide ((↑r : Int) ≤ 11)) false ∧ True) ∧ (EqB false true ∧ True) ∧ True) (by kernel_rfl) ?_)
                                          ((repeat' apply And.intro) <;> first | assumption | exact trivial | exact ⟨rfl⟩ | (refine ⟨?_⟩; assumption) | (refine inR64 ?_ ?_ <;> omega) | (refine ⟨?_⟩; omega) | (refine ⟨?_⟩; rw [Bool.eq_iff_iff]; simp only [decide_eq_true_eq, decide_eq_false_iff_not, Bool.false_eq_true, Bool.true_eq_false, Bool.not_eq_true', Bool.and_eq_true, Bool.or_eq_true, Bool.not_eq_false', false_iff, iff_false, true_iff, iff_true]; omega) | (exfalso; omega) | (exact ht_in (by assumption) (by assumption) (by first | assumption | simp_all)) | (refine ⟨?_⟩; have h8 := (TrB_out (by assumption)).r8; omega) | (exact same_refl _ _))
                                      · have hp9 := ht9
                                        try simp only [decide_eq_true_eq, decide_eq_false_iff_not, Bool.not_eq_true', Bool.not_eq_false', Bool.not_eq_eq_eq_not, Bool.not_true, Bool.not_false] at hp9
                                        try simp only [reduceCtorEq, not_true_eq_false, isEq, decide_true, Bool.and_true, Bool.true_and, Bool.and_eq_true, Bool.and_eq_false_iff, decide_eq_true_eq, decide_eq_false_iff_not] at hp9
                                        all_goals first | (exfalso; omega) | (exfalso; simp_all; done) | skip
                                        all_goals
                                          refine Tri.path hB 200 [false, false, true, true, false, false, false, false, true, true] (of_skel (q := (EqB (sameR r r (fun k x => hF b0 fm ft k) fun k x => hF b0 fm ft k) true ∧ LeN r r ∧ LeN r r ∧ LeN r 100000 ∧ LeN r 100000 ∧ LeN r r ∧ LeN d d ∧ HtIn r d b0 fm ft ∧ EqB true true ∧ EqB (!RmB lo hi b0 r d fm ft) false ∧ LeN r r ∧ LeN d d ∧ LeN r 1000000000000 ∧ EqB (!TrB lo hi r fm) false ∧ LeN r r ∧ LeN r 1000000000000 ∧ LeN r r ∧ LeN d d ∧ HtIn r d b0 fm ft ∧ EqB false false ∧ EqB (!TmB r d fm ft) false ∧ LeN r r ∧ LeN d d ∧ LeN r 1000000000000 ∧ EqB (decide (lo ≤ b0 ∧ b0 ≤ hi)) true ∧ EqB (TrB lo hi r fm) true ∧ LeN r r ∧ EqB (decide ((↑d : Int) > 11)) false ∧ EqB (!decide ((↑r : Int) ≤ 11)) false ∧ True) ∧ (EqB true true ∧ True) ∧ True) (by kernel_rfl) ?_)
                                          ((repeat' apply And.intro) <;> first | assumption | exact trivial | exact ⟨rfl⟩ | (refine ⟨?_⟩; assumption) | (refine inR64 ?_ ?_ <;> omega) | (refine ⟨?_⟩; omega) | (refine ⟨?_⟩; rw [Bool.eq_iff_iff]; simp only [decide_eq_true_eq, decide_eq_false_iff_not, Bool.false_eq_true, Bool.true_eq_false, Bool.not_eq_true', Bool.and_eq_true, Bool.or_eq_true, Bool.not_eq_false', false_iff, iff_false, true_iff, iff_true]; omega) | (exfalso; omega) | (exact ht_in (by assumption) (by assumption) (by first | assumption | simp_all)) | (refine ⟨?_⟩; have h8 := (TrB_out (by assumption)).r8; omega) | (exact same_refl _ _))
                              · have hp7 := ht7
                                try simp only [decide_eq_true_eq, decide_eq_false_iff_not, Bool.not_eq_true', Bool.not_eq_false', Bool.not_eq_eq_eq_not, Bool.not_true, Bool.not_false] at hp7
                                try simp only [reduceCtorEq, not_true_eq_false, isEq, decide_true, Bool.and_true, Bool.true_and, Bool.and_eq_true, Bool.and_eq_false_iff, decide_eq_true_eq, decide_eq_false_iff_not] at hp7
                                all_goals first | (exfalso; omega) | (exfalso; simp_all; done) | skip
                                all_goals
                                  cases ht8 : (false)
                                  · have hp8 := ht8
                                    try simp only [decide_eq_true_eq, decide_eq_false_iff_not, Bool.not_eq_true', Bool.not_eq_false', Bool.not_eq_eq_eq_not, Bool.not_true, Bool.not_false] at hp8
                                    try simp only [reduceCtorEq, not_true_eq_false, isEq, decide_true, Bool.and_true, Bool.true_and, Bool.and_eq_true, Bool.and_eq_false_iff, decide_eq_true_eq, decide_eq_false_iff_not] at hp8
                                    all_goals first | (exfalso; omega) | (exfalso; simp_all; done) | skip
                                    all_goals
                                      refine Tri.path hB 200 [false, false, true, true, false, false, false, true, false] (of_skel (q := (EqB false false ∧ EqB (!RmB lo hi b0 r d fm ft) true ∧ LeN r r ∧ LeN d d ∧ LeN r 1000000000000 ∧ EqB (!TrB lo hi r fm) false ∧ LeN r r ∧ LeN r 1000000000000 ∧ LeN r r ∧ LeN d d ∧ HtIn r d b0 fm ft ∧ EqB false false ∧ EqB (!TmB r d fm ft) false ∧ LeN r r ∧ LeN d d ∧ LeN r 1000000000000 ∧ EqB (decide (lo ≤ b0 ∧ b0 ≤ hi)) true ∧ EqB (TrB lo hi r fm) true ∧ LeN r r ∧ EqB (decide ((↑d : Int) > 11)) false ∧ EqB (!decide ((↑r : Int) ≤ 11)) false ∧ True) ∧ (EqB false true ∧ True) ∧ True) (by kernel_rfl) ?_)
                                      ((repeat' apply And.intro) <;> first | assumption | exact trivial | exact ⟨rfl⟩ | (refine ⟨?_⟩; assumption) | (refine inR64 ?_ ?_ <;> omega) | (refine ⟨?_⟩; omega) | (refine ⟨?_⟩; rw [Bool.eq_iff_iff]; simp only [decide_eq_true_eq, decide_eq_false_iff_not, Bool.false_eq_true, Bool.true_eq_false, Bool.not_eq_true', Bool.and_eq_true, Bool.or_eq_true, Bool.not_eq_false', false_iff, iff_false, true_iff, iff_true]; omega) | (exfalso; omega) | (exact ht_in (by assumption) (by assumption) (by first | assumption | simp_all)) | (refine ⟨?_⟩; have h8 := (TrB_out (by assumption)).r8; omega) | (exact same_refl _ _))
                                  · have hp8 := ht8
                                    try simp only [decide_eq_true_eq, decide_eq_false_iff_not, Bool.not_eq_true', Bool.not_eq_false', Bool.not_eq_eq_eq_not, Bool.not_true, Bool.not_false] at hp8
                                    try simp only [reduceCtorEq, not_true_eq_false, isEq, decide_true, Bool.and_true, Bool.true_and, Bool.and_eq_true, Bool.and_eq_false_iff, decide_eq_true_eq, decide_eq_false_iff_not] at hp8
                                    all_goals first | (exfalso; omega) | (exfalso; simp_all; done) | skip
                                    all_goals
                                      cases ht9 : (decide ((↑r : Int) = 0))
                                      · have hp9 := ht9
                                        try simp only [decide_eq_true_eq, decide_eq_false_iff_not, Bool.not_eq_true', Bool.not_eq_false', Bool.not_eq_eq_eq_not, Bool.not_true, Bool.not_false] at hp9
                                        try simp only [reduceCtorEq, not_true_eq_false, isEq, decide_true, Bool.and_true, Bool.true_and, Bool.and_eq_true, Bool.and_eq_false_iff, decide_eq_true_eq, decide_eq_false_iff_not] at hp9
                                        all_goals first | (exfalso; omega) | (exfalso; simp_all; done) | skip
                                        all_goals
                                          refine Tri.path hB 200 [false, false, true, true, false, false, false, true, true, false] (of_skel (q := (EqB (decide ((↑r : Int) = 0)) false ∧ EqB false true ∧ EqB (!RmB lo hi b0 r d fm ft) true ∧ LeN r r ∧ LeN d d ∧ LeN r 1000000000000 ∧ EqB (!TrB lo hi r fm) false ∧ LeN r r ∧ LeN r 1000000000000 ∧ LeN r r ∧ LeN d d ∧ HtIn r d b0 fm ft ∧ EqB false false ∧ EqB (!TmB r d fm ft) false ∧ LeN r r ∧ LeN d d ∧ LeN r 1000000000000 ∧ EqB (decide (lo ≤ b0 ∧ b0 ≤ hi)) true ∧ EqB (TrB lo hi r fm) true ∧ LeN r r ∧ EqB (decide ((↑d : Int) > 11)) false ∧ EqB (!decide ((↑r : Int) ≤ 11)) false ∧ True) ∧ (EqB false true ∧ True) ∧ True) (by kernel_rfl) ?_)
                                          ((repeat' apply And.intro) <;> first | assumption | exact trivial | exact ⟨rfl⟩ | (refine ⟨?_⟩; assumption) | (refine inR64 ?_ ?_ <;> omega) | (refine ⟨?_⟩; omega) | (refine ⟨?_⟩; rw [Bool.eq_iff_iff]; simp only [decide_eq_true_eq, decide_eq_false_iff_not, Bool.false_eq_true, Bool.true_eq_false, Bool.not_eq_true', Bool.and_eq_true, Bool.or_eq_true, Bool.not_eq_false', false_iff, iff_false, true_iff, iff_true]; omega) | (exfalso; omega) | (exact ht_in (by assumption) (by assumption) (by first | assumption | simp_all)) | (refine ⟨?_⟩; have h8 := (TrB_out (by assumption)).r8; omega) | (exact same_refl _ _))
                                      · have hp9 := ht9
                                        try simp only [decide_eq_true_eq, decide_eq_false_iff_not, Bool.not_eq_true', Bool.not_eq_false', Bool.not_eq_eq_eq_not, Bool.not_true, Bool.not_false] at hp9
                                        try simp only [reduceCtorEq, not_true_eq_false, isEq, decide_true, Bool.and_true, Bool.true_and, Bool.and_eq_true, Bool.and_eq_false_iff, decide_eq_true_eq, decide_eq_false_iff_not] at hp9
                                        all_goals first | (exfalso; omega) | (exfalso; simp_all; done) | skip
                                        all_goals
                                          refine Tri.path hB 200 [false, false, true, true, false, false, false, true, true, true] (of_skel (q := (EqB (decide ((↑r : Int) = 0)) true ∧ EqB false true ∧ EqB (!RmB lo hi b0 r d fm ft) true ∧ LeN r r ∧ LeN d d ∧ LeN r 1000000000000 ∧ EqB (!TrB lo hi r fm) false ∧ LeN r r ∧ LeN r 1000000000000 ∧ LeN r r ∧ LeN d d ∧ HtIn r d b0 fm ft ∧ EqB false false ∧ EqB (!TmB r d fm ft) false ∧ LeN r r ∧ LeN d d ∧ LeN r 1000000000000 ∧ EqB (decide (lo ≤ b0 ∧ b0 ≤ hi)) true ∧ EqB (TrB lo hi r fm) true ∧ LeN r r ∧ EqB (decide ((↑d : Int) > 11)) false ∧ EqB (!decide ((↑r : Int) ≤ 11)) false ∧ True) ∧ (EqB true true ∧ True) ∧ True) (by kernel_rfl) ?_)
                                          ((repeat' apply And.intro) <;> first | assumption | exact trivial | exact ⟨rfl⟩ | (refine ⟨?_⟩; assumption) | (refine inR64 ?_ ?_ <;> omega) | (refine ⟨?_⟩; omega) | (refine ⟨?_⟩; rw [Bool.eq_iff_iff]; simp only [decide_eq_true_eq, decide_eq_false_iff_not, Bool.false_eq_true, Bool.true_eq_false, Bool.not_eq_true', Bool.and_eq_true, Bool.or_eq_true, Bool.not_eq_false', false_iff, iff_false, true_iff, iff_true]; omega) | (exfalso; omega) | (exact ht_in (by assumption) (by assumption) (by first | assumption | simp_all)) | (refine ⟨?_⟩; have h8 := (TrB_out (by assumption)).r8; omega) | (exact same_refl _ _))
                          · have hp6 := ht6
                            try simp only [decide_eq_true_eq, decide_eq_false_iff_not, Bool.not_eq_true', Bool.not_eq_false', Bool.not_eq_eq_eq_not, Bool.not_true, Bool.not_false] at hp6
                            try simp only [reduceCtorEq, not_true_eq_false, isEq, decide_true, Bool.and_true, Bool.true_and, Bool.and_eq_true, Bool.and_eq_false_iff, decide_eq_true_eq, decide_eq_false_iff_not] at hp6
                            all_goals first | (exfalso; omega) | (exfalso; simp_all; done) | skip
                            all_goals
                              cases ht7 : (false)
                              · have hp7 := ht7
                                try simp only [decide_eq_true_eq, decide_eq_false_iff_not, Bool.not_eq_true', Bool.not_eq_false', Bool.not_eq_eq_eq_not, Bool.not_true, Bool.not_false] at hp7
                                try simp only [reduceCtorEq, not_true_eq_false, isEq, decide_true, Bool.and_true, Bool.true_and, Bool.and_eq_true, Bool.and_eq_false_iff, decide_eq_true_eq, decide_eq_false_iff_not] at hp7
                                all_goals first | (exfalso; omega) | (exfalso; simp_all; done) | skip
                                all_goals
                                  refine Tri.path hB 200 [false, false, true, true, false, false, true, false] (of_skel (q := (EqB false false ∧ EqB (!TrB lo hi r fm) true ∧ LeN r r ∧ LeN r 1000000000000 ∧ LeN r r ∧ LeN d d ∧ HtIn r d b0 fm ft ∧ EqB false false ∧ EqB (!TmB r d fm ft) false ∧ LeN r r ∧ LeN d d ∧ LeN r 1000000000000 ∧ EqB (decide (lo ≤ b0 ∧ b0 ≤ hi)) true ∧ EqB (TrB lo hi r fm) true ∧ LeN r r ∧ EqB (decide ((↑d : Int) > 11)) false ∧ EqB (!decide ((↑r : Int) ≤ 11)) false ∧ True) ∧ (EqB false true ∧ True) ∧ True) (by kernel_rfl) ?_)
                                  ((repeat' apply And.intro) <;> first | assumption | exact trivial | exact ⟨rfl⟩ | (refine ⟨?_⟩; assumption) | (refine inR64 ?_ ?_ <;> omega) | (refine ⟨?_⟩; omega) | (refine ⟨?_⟩; rw [Bool.eq_iff_iff]; simp only [decide_eq_true_eq, decide_eq_false_iff_not, Bool.false_eq_true, Bool.true_eq_false, Bool.not_eq_true', Bool.and_eq_true, Bool.or_eq_true, Bool.not_eq_false', false_iff, iff_false, true_iff, iff_true]; omega) | (exfalso; omega) | (exact ht_in (by assumption) (by assumption) (by first | assumption | simp_all)) | (refine ⟨?_⟩; have h8 := (TrB_out (by assumption)).r8; omega) | (exact same_refl _ _))
                              · have hp7 := ht7
                                try simp only [decide_eq_true_eq, decide_eq_false_iff_not, Bool.not_eq_true', Bool.not_eq_false', Bool.not_eq_eq_eq_not, Bool.not_true, Bool.not_false] at hp7
                                try simp only [reduceCtorEq, not_true_eq_false, isEq, decide_true, Bool.and_true, Bool.true_and, Bool.and_eq_true, Bool.and_eq_false_iff, decide_eq_true_eq, decide_eq_false_iff_not] at hp7
                                all_goals first | (exfalso; omega) | (exfalso; simp_all; done) | skip
                                all_goals
                                  cases ht8 : (decide ((↑r : Int) = 0))
                                  · have hp8 := ht8
                                    try simp only [decide_eq_true_eq, decide_eq_false_iff_not, Bool.not_eq_true', Bool.not_eq_false', Bool.not_eq_eq_eq_not, Bool.not_true, Bool.not_false] at hp8
                                    try simp only [reduceCtorEq, not_true_eq_false, isEq, decide_true, Bool.and_true, Bool.true_and, Bool.and_eq_true, Bool.and_eq_false_iff, decide_eq_true_eq, decide_eq_false_iff_not] at hp8
                                    all_goals first | (exfalso; omega) | (exfalso; simp_all; done) | skip
                                    all_goals
                                      refine Tri.path hB 200 [false, false, true, true, false, false, true, true, false] (of_skel (q := (EqB (decide ((↑r : Int) = 0)) false ∧ EqB false true ∧ EqB (!TrB lo hi r fm) true ∧ LeN r r ∧ LeN r 1000000000000 ∧ LeN r r ∧ LeN d d ∧ HtIn r d b0 fm ft ∧ EqB false false ∧ EqB (!TmB r d fm ft) false ∧ LeN r r ∧ LeN d d ∧ LeN r 1000000000000 ∧ EqB (decide (lo ≤ b0 ∧ b0 ≤ hi)) true ∧ EqB (TrB lo hi r fm) true ∧ LeN r r ∧ EqB (decide ((↑d : Int) > 11)) false ∧ EqB (!decide ((↑r : Int) ≤ 11)) false ∧ True) ∧ (EqB false true ∧ True) ∧ True) (by kernel_rfl) ?_)
                                      ((repeat' apply And.intro) <;> first | assumption | exact trivial | exact ⟨rfl⟩ | (refine ⟨?_⟩; assumption) | (refine inR64 ?_ ?_ <;> omega) | (refine ⟨?_⟩; omega) | (refine ⟨?_⟩; rw [Bool.eq_iff_iff]; simp only [decide_eq_true_eq, decide_eq_false_iff_not, Bool.false_eq_true, Bool.true_eq_false, Bool.not_eq_true', Bool.and_eq_true, Bool.or_eq_true, Bool.not_eq_false', false_iff, iff_false, true_iff, iff_true]; omega) | (exfalso; omega) | (exact ht_in (by assumption) (by assumption) (by first | assumption | simp_all)) | (refine ⟨?_⟩; have h8 := (TrB_out (by assumption)).r8; omega) | (exact same_refl _ _))
                                  · have hp8 := ht8
                                    try simp only [decide_eq_true_eq, decide_eq_false_iff_not, Bool.not_eq_true', Bool.not_eq_false', Bool.not_eq_eq_eq_not, Bool.not_true, Bool.not_false] at hp8
                                    try simp only [reduceCtorEq, not_true_eq_false, isEq, decide_true, Bool.and_true, Bool.true_and, Bool.and_eq_true, Bool.and_eq_false_iff, decide_eq_true_eq, decide_eq_false_iff_not] at hp8
                                    all_goals first | (exfalso; omega) | (exfalso; simp_all; done) | skip
                                    all_goals
                                      refine Tri.path hB 200 [false, false, true, true, false, false, true, true, true] (of_skel (q := (EqB (decide ((↑r : Int) = 0)) true ∧ EqB false true ∧ EqB (!TrB lo hi r fm) true ∧ LeN r r ∧ LeN r 1000000000000 ∧ LeN r r ∧ LeN d d ∧ HtIn r d b0 fm ft ∧ EqB false false ∧ EqB (!TmB r d fm ft) false ∧ LeN r r ∧ LeN d d ∧ LeN r 1000000000000 ∧ EqB (decide (lo ≤ b0 ∧ b0 ≤ hi)) true ∧ EqB (TrB lo hi r fm) true ∧ LeN r r ∧ EqB (decide ((↑d : Int) > 11)) false ∧ EqB (!decide ((↑r : Int) ≤ 11)) false ∧ True) ∧ (EqB true true ∧ True) ∧ True) (by kernel_rfl) ?_)
                                      ((repeat' apply And.intro) <;> first | assumption | exact trivial | exact ⟨rfl⟩ | (refine ⟨?_⟩; assumption) | (refine inR64 ?_ ?_ <;> omega) | (refine ⟨?_⟩; omega) | (refine ⟨?_⟩; rw [Bool.eq_iff_iff]; simp only [decide_eq_true_eq, decide_eq_false_iff_not, Bool.false_eq_true, Bool.true_eq_false, Bool.not_eq_true', Bool.and_eq_true, Bool.or_eq_true, Bool.not_eq_false', false_iff, iff_false, true_iff, iff_true]; omega) | (exfalso; omega) | (exact ht_in (by assumption) (by assumption) (by first | assumption | simp_all)) | (refine ⟨?_⟩; have h8 := (TrB_out (by assumption)).r8; omega) | (exact same_refl _ _))
                      · have hp5 := ht5
                        try simp only [decide_eq_true_eq, decide_eq_false_iff_not, Bool.not_eq_true', Bool.not_eq_false', Bool.not_eq_eq_eq_not, Bool.not_true, Bool.not_false] at hp5
                        try simp only [reduceCtorEq, not_true_eq_false, isEq, decide_true, Bool.and_true, Bool.true_and, Bool.and_eq_true, Bool.and_eq_false_iff, decide_eq_true_eq, decide_eq_false_iff_not] at hp5
                        all_goals first | (exfalso; omega) | (exfalso; simp_all; done) | skip
                        all_goals
                          cases ht6 : (!TrB lo hi r fm)
                          · have hp6 := ht6
                            try simp only [decide_eq_true_eq, decide_eq_false_iff_not, Bool.not_eq_true', Bool.not_eq_false', Bool.not_eq_eq_eq_not, Bool.not_true, Bool.not_false] at hp6
                            try simp only [reduceCtorEq, not_true_eq_false, isEq, decide_true, Bool.and_true, Bool.true_and, Bool.and_eq_true, Bool.and_eq_false_iff, decide_eq_true_eq, decide_eq_false_iff_not] at hp6
                            all_goals first | (exfalso; omega) | (exfalso; simp_all; done) | skip
                            all_goals
                              cases ht7 : (!RmB lo hi b0 r d fm ft)
                              · have hp7 := ht7
                                try simp only [decide_eq_true_eq, decide_eq_false_iff_not, Bool.not_eq_true', Bool.not_eq_false', Bool.not_eq_eq_eq_not, Bool.not_true, Bool.not_false] at hp7
                                try simp only [reduceCtorEq, not_true_eq_false, isEq, decide_true, Bool.and_true, Bool.true_and, Bool.and_eq_true, Bool.and_eq_false_iff, decide_eq_true_eq, decide_eq_false_iff_not] at hp7
                                all_goals first | (exfalso; omega) | (exfalso; simp_all; done) | skip
                                all_goals
                                  first | (exfalso; omega) | simp_all
                              · have hp7 := ht7
                                try simp only [decide_eq_true_eq, decide_eq_false_iff_not, Bool.not_eq_true', Bool.not_eq_false', Bool.not_eq_eq_eq_not, Bool.not_true, Bool.not_false] at hp7
                                try simp only [reduceCtorEq, not_true_eq_false, isEq, decide_true, Bool.and_true, Bool.true_and, Bool.and_eq_true, Bool.and_eq_false_iff, decide_eq_true_eq, decide_eq_false_iff_not] at hp7
                                all_goals first | (exfalso; omega) | (exfalso; simp_all; done) | skip
                                all_goals
                                  cases ht8 : (false)
                                  · have hp8 := ht8
                                    try simp only [decide_eq_true_eq, decide_eq_false_iff_not, Bool.not_eq_true', Bool.not_eq_false', Bool.not_eq_eq_eq_not, Bool.not_true, Bool.not_false] at hp8
                                    try simp only [reduceCtorEq, not_true_eq_false, isEq, decide_true, Bool.and_true, Bool.true_and, Bool.and_eq_true, Bool.and_eq_false_iff, decide_eq_true_eq, decide_eq_false_iff_not] at hp8
                                    all_goals first | (exfalso; omega) | (exfalso; simp_all; done) | skip
                                    all_goals
                                      first | (exfalso; omega) | simp_all
                                  · have hp8 := ht8
                                    try simp only [decide_eq_true_eq, decide_eq_false_iff_not, Bool.not_eq_true', Bool.not_eq_false', Bool.not_eq_eq_eq_not, Bool.not_true, Bool.not_false] at hp8
                                    try simp only [reduceCtorEq, not_true_eq_false, isEq, decide_true, Bool.and_true, Bool.true_and, Bool.and_eq_true, Bool.and_eq_false_iff, decide_eq_true_eq, decide_eq_false_iff_not] at hp8
                                    all_goals first | (exfalso; omega) | (exfalso; simp_all; done) | skip
                                    all_goals
                                      cases ht9 : (true)
                                      · have hp9 := ht9
                                        try simp only [decide_eq_true_eq, decide_eq_false_iff_not, Bool.not_eq_true', Bool.not_eq_false', Bool.not_eq_eq_eq_not, Bool.not_true, Bool.not_false] at hp9
                                        try simp only [reduceCtorEq, not_true_eq_false, isEq, decide_true, Bool.and_true, Bool.true_and, Bool.and_eq_true, Bool.and_eq_false_iff, decide_eq_true_eq, decide_eq_false_iff_not] at hp9
                                        all_goals first | (exfalso; omega) | (exfalso; simp_all; done) | skip
                                        all_goals
                                          first | (exfalso; omega) | simp_all
                                      · have hp9 := ht9
                                        try simp only [decide_eq_true_eq, decide_eq_false_iff_not, Bool.not_eq_true', Bool.not_eq_false', Bool.not_eq_eq_eq_not, Bool.not_true, Bool.not_false] at hp9
                                        try simp only [reduceCtorEq, not_true_eq_false, isEq, decide_true, Bool.and_true, Bool.true_and, Bool.and_eq_true, Bool.and_eq_false_iff, decide_eq_true_eq, decide_eq_false_iff_not] at hp9
                                        all_goals first | (exfalso; omega) | (exfalso; simp_all; done) | skip
                                        all_goals
                                          refine Tri.path hB 200 [false, false, true, true, false, true, false, true, true, true] (of_skel (q := (EqB true true ∧ EqB false true ∧ EqB (!RmB lo hi b0 r d fm ft) true ∧ LeN r r ∧ LeN d d ∧ LeN r 1000000000000 ∧ EqB (!TrB lo hi r fm) false ∧ LeN r r ∧ LeN r 1000000000000 ∧ EqB false true ∧ EqB (!TmB r d fm ft) false ∧ LeN r r ∧ LeN d d ∧ LeN r 1000000000000 ∧ EqB (decide (lo ≤ b0 ∧ b0 ≤ hi)) true ∧ EqB (TrB lo hi r fm) true ∧ LeN r r ∧ EqB (decide ((↑d : Int) > 11)) false ∧ EqB (!decide ((↑r : Int) ≤ 11)) false ∧ True) ∧ (EqB true true ∧ True) ∧ True) (by kernel_rfl) ?_)
                                          ((repeat' apply And.intro) <;> first | assumption | exact trivial | exact ⟨rfl⟩ | (refine ⟨?_⟩; assumption) | (refine inR64 ?_ ?_ <;> omega) | (refine ⟨?_⟩; omega) | (refine ⟨?_⟩; rw [Bool.eq_iff_iff]; simp only [decide_eq_true_eq, decide_eq_false_iff_not, Bool.false_eq_true, Bool.true_eq_false, Bool.not_eq_true', Bool.and_eq_true, Bool.or_eq_true, Bool.not_eq_false', false_iff, iff_false, true_iff, iff_true]; omega) | (exfalso; omega) | (exact ht_in (by assumption) (by assumption) (by first | assumption | simp_all)) | (refine ⟨?_⟩; have h8 := (TrB_out (by assumption)).r8; omega) | (exact same_refl _ _))
                          · have hp6 := ht6
                            try simp only [decide_eq_true_eq, decide_eq_false_iff_not, Bool.not_eq_true', Bool.not_eq_false', Bool.not_eq_eq_eq_not, Bool.not_true, Bool.not_false] at hp6
                            try simp only [reduceCtorEq, not_true_eq_false, isEq, decide_true, Bool.and_true, Bool.true_and, Bool.and_eq_true, Bool.and_eq_false_iff, decide_eq_true_eq, decide_eq_false_iff_not] at hp6
                            all_goals first | (exfalso; omega) | (exfalso; simp_all; done) | skip
                            all_goals
                              cases ht7 : (false)
                              · have hp7 := ht7
                                try simp only [decide_eq_true_eq, decide_eq_false_iff_not, Bool.not_eq_true', Bool.not_eq_false', Bool.not_eq_eq_eq_not, Bool.not_true, Bool.not_false] at hp7
                                try simp only [reduceCtorEq, not_true_eq_false, isEq, decide_true, Bool.and_true, Bool.true_and, Bool.and_eq_true, Bool.and_eq_false_iff, decide_eq_true_eq, decide_eq_false_iff_not] at hp7
                                all_goals first | (exfalso; omega) | (exfalso; simp_all; done) | skip
                                all_goals
                                  first | (exfalso; omega) | simp_all
                              · have hp7 := ht7
                                try simp only [decide_eq_true_eq, decide_eq_false_iff_not, Bool.not_eq_true', Bool.not_eq_false', Bool.not_eq_eq_eq_not, Bool.not_true, Bool.not_false] at hp7
                                try simp only [reduceCtorEq, not_true_eq_false, isEq, decide_true, Bool.and_true, Bool.true_and, Bool.and_eq_true, Bool.and_eq_false_iff, decide_eq_true_eq, decide_eq_false_iff_not] at hp7
                                all_goals first | (exfalso; omega) | (exfalso; simp_all; done) | skip
                                all_goals
                                  cases ht8 : (true)
                                  · have hp8 := ht8
                                    try simp only [decide_eq_true_eq, decide_eq_false_iff_not, Bool.not_eq_true', Bool.not_eq_false', Bool.not_eq_eq_eq_not, Bool.not_true, Bool.not_false] at hp8
                                    try simp only [reduceCtorEq, not_true_eq_false, isEq, decide_true, Bool.and_true, Bool.true_and, Bool.and_eq_true, Bool.and_eq_false_iff, decide_eq_true_eq, decide_eq_false_iff_not] at hp8
                                    all_goals first | (exfalso; omega) | (exfalso; simp_all; done) | skip
                                    all_goals
                                      first | (exfalso; omega) | simp_all
                                  · have hp8 := ht8
                                    try simp only [decide_eq_true_eq, decide_eq_false_iff_not, Bool.not_eq_true', Bool.not_eq_false', Bool.not_eq_eq_eq_not, Bool.not_true, Bool.not_false] at hp8
                                    try simp only [reduceCtorEq, not_true_eq_false, isEq, decide_true, Bool.and_true, Bool.true_and, Bool.and_eq_true, Bool.and_eq_false_iff, decide_eq_true_eq, decide_eq_false_iff_not] at hp8
                                    all_goals first | (exfalso; omega) | (exfalso; simp_all; done) | skip
                                    all_goals
                                      refine Tri.path hB 200 [false, false, true, true, false, true, true, true, true] (of_skel (q := (EqB true true ∧ EqB false true ∧ EqB (!TrB lo hi r fm) true ∧ LeN r r ∧ LeN r 1000000000000 ∧ EqB false true ∧ EqB (!TmB r d fm ft) false ∧ LeN r r ∧ LeN d d ∧ LeN r 1000000000000 ∧ EqB (decide (lo ≤ b0 ∧ b0 ≤ hi)) true ∧ EqB (TrB lo hi r fm) true ∧ LeN r r ∧ EqB (decide ((↑d : Int) > 11)) false ∧ EqB (!decide ((↑r : Int) ≤ 11)) false ∧ True) ∧ (EqB true true ∧ True) ∧ True) (by kernel_rfl) ?_)
                                      ((repeat' apply And.intro) <;> first | assumption | exact trivial | exact ⟨rfl⟩ | (refine ⟨?_⟩; assumption) | (refine inR64 ?_ ?_ <;> omega) | (refine ⟨?_⟩; omega) | (refine ⟨?_⟩; rw [Bool.eq_iff_iff]; simp only [decide_eq_true_eq, decide_eq_false_iff_not, Bool.false_eq_true, Bool.true_eq_false, Bool.not_eq_true', Bool.and_eq_true, Bool.or_eq_true, Bool.not_eq_false', false_iff, iff_false, true_iff, iff_true]; omega) | (exfalso; omega) | (exact ht_in (by assumption) (by assumption) (by first | assumption | simp_all)) | (refine ⟨?_⟩; have h8 := (TrB_out (by assumption)).r8; omega) | (exact same_refl _ _))
                  · have hp4 := ht4
                    try simp only [decide_eq_true_eq, decide_eq_false_iff_not, Bool.not_eq_true', Bool.not_eq_false', Bool.not_eq_eq_eq_not, Bool.not_true, Bool.not_false] at hp4
                    try simp only [reduceCtorEq, not_true_eq_false, isEq, decide_true, Bool.and_true, Bool.true_and, Bool.and_eq_true, Bool.and_eq_false_iff, decide_eq_true_eq, decide_eq_false_iff_not] at hp4
                    all_goals first | (exfalso; omega) | (exfalso; simp_all; done) | skip
                    all_goals
                      cases ht5 : (true)
                      · have hp5 := ht5
                        try simp only [decide_eq_true_eq, decide_eq_false_iff_not, Bool.not_eq_true', Bool.not_eq_false', Bool.not_eq_eq_eq_not, Bool.not_true, Bool.not_false] at hp5
                        try simp only [reduceCtorEq, not_true_eq_false, isEq, decide_true, Bool.and_true, Bool.true_and, Bool.and_eq_true, Bool.and_eq_false_iff, decide_eq_true_eq, decide_eq_false_iff_not] at hp5
                        all_goals first | (exfalso; omega) | (exfalso; simp_all; done) | skip
                        all_goals
                          first | (exfalso; omega) | simp_all
                      · have hp5 := ht5
                        try simp only [decide_eq_true_eq, decide_eq_false_iff_not, Bool.not_eq_true', Bool.not_eq_false', Bool.not_eq_eq_eq_not, Bool.not_true, Bool.not_false] at hp5
                        try simp only [reduceCtorEq, not_true_eq_false, isEq, decide_true, Bool.and_true, Bool.true_and, Bool.and_eq_true, Bool.and_eq_false_iff, decide_eq_true_eq, decide_eq_false_iff_not] at hp5
                        all_goals first | (exfalso; omega) | (exfalso; simp_all; done) | skip
                        all_goals
                          cases ht6 : (!TrB lo hi r fm)
                          · have hp6 := ht6
                            try simp only [decide_eq_true_eq, decide_eq_false_iff_not, Bool.not_eq_true', Bool.not_eq_false', Bool.not_eq_eq_eq_not, Bool.not_true, Bool.not_false] at hp6
                            try simp only [reduceCtorEq, not_true_eq_false, isEq, decide_true, Bool.and_true, Bool.true_and, Bool.and_eq_true, Bool.and_eq_false_iff, decide_eq_true_eq, decide_eq_false_iff_not] at hp6
                            all_goals first | (exfalso; omega) | (exfalso; simp_all; done) | skip
                            all_goals
                              cases ht7 : (!RmB lo hi b0 r d fm ft)
                              · have hp7 := ht7
                                try simp only [decide_eq_true_eq, decide_eq_false_iff_not, Bool.not_eq_true', Bool.not_eq_false', Bool.not_eq_eq_eq_not, Bool.not_true, Bool.not_false] at hp7
                                try simp only [reduceCtorEq, not_true_eq_false, isEq, decide_true, Bool.and_true, Bool.true_and, Bool.and_eq_true, Bool.and_eq_false_iff, decide_eq_true_eq, decide_eq_false_iff_not] at hp7
                                all_goals first | (exfalso; omega) | (exfalso; simp_all; done) | skip
                                all_goals
                                  first | (exfalso; omega) | simp_all
                              · have hp7 := ht7
                                try simp only [decide_eq_true_eq, decide_eq_false_iff_not, Bool.not_eq_true', Bool.not_eq_false', Bool.not_eq_eq_eq_not, Bool.not_true, Bool.not_false] at hp7
                                try simp only [reduceCtorEq, not_true_eq_false, isEq, decide_true, Bool.and_true, Bool.true_and, Bool.and_eq_true, Bool.and_eq_false_iff, decide_eq_true_eq, decide_eq_false_iff_not] at hp7
                                all_goals first | (exfalso; omega) | (exfalso; simp_all; done) | skip
                                all_goals
                                  cases ht8 : (true)
                                  · have hp8 := ht8
                                    try simp only [decide_eq_true_eq, decide_eq_false_iff_not, Bool.not_eq_true', Bool.not_eq_false', Bool.not_eq_eq_eq_not, Bool.not_true, Bool.not_false] at hp8
                                    try simp only [reduceCtorEq, not_true_eq_false, isEq, decide_true, Bool.and_true, Bool.true_and, Bool.and_eq_true, Bool.and_eq_false_iff, decide_eq_true_eq, decide_eq_false_iff_not] at hp8
                                    all_goals first | (exfalso; omega) | (exfalso; simp_all; done) | skip
                                    all_goals
                                      first | (exfalso; omega) | simp_all
                                  · have hp8 := ht8
                                    try simp only [decide_eq_true_eq, decide_eq_false_iff_not, Bool.not_eq_true', Bool.not_eq_false', Bool.not_eq_eq_eq_not, Bool.not_true, Bool.not_false] at hp8
                                    try simp only [reduceCtorEq, not_true_eq_false, isEq, decide_true, Bool.and_true, Bool.true_and, Bool.and_eq_true, Bool.and_eq_false_iff, decide_eq_true_eq, decide_eq_false_iff_not] at hp8
                                    all_goals first | (exfalso; omega) | (exfalso; simp_all; done) | skip
                                    all_goals
                                      cases ht9 : (true)
                                      · have hp9 := ht9
                                        try simp only [decide_eq_true_eq, decide_eq_false_iff_not, Bool.not_eq_true', Bool.not_eq_false', Bool.not_eq_eq_eq_not, Bool.not_true, Bool.not_false] at hp9
                                        try simp only [reduceCtorEq, not_true_eq_false, isEq, decide_true, Bool.and_true, Bool.true_and, Bool.and_eq_true, Bool.and_eq_false_iff, decide_eq_true_eq, decide_eq_false_iff_not] at hp9
                                        all_goals first | (exfalso; omega) | (exfalso; simp_all; done) | skip
                                        all_goals
                                          first | (exfalso; omega) | simp_all
                                      · have hp9 := ht9
                                        try simp only [decide_eq_true_eq, decide_eq_false_iff_not, Bool.not_eq_true', Bool.not_eq_false', Bool.not_eq_eq_eq_not, Bool.not_true, Bool.not_false] at hp9
                                        try simp only [reduceCtorEq, not_true_eq_false, isEq, decide_true, Bool.and_true, Bool.true_and, Bool.and_eq_true, Bool.and_eq_false_iff, decide_eq_true_eq, decide_eq_false_iff_not] at hp9
                                        all_goals first | (exfalso; omega) | (exfalso; simp_all; done) | skip
                                        all_goals
                                          refine Tri.path hB 200 [false, false, true, true, true, true, false, true, true, true] (of_skel (q := (EqB true true ∧ EqB true true ∧ EqB (!RmB lo hi b0 r d fm ft) true ∧ LeN r r ∧ LeN d d ∧ LeN r 1000000000000 ∧ EqB (!TrB lo hi r fm) false ∧ LeN r r ∧ LeN r 1000000000000 ∧ EqB true true ∧ EqB (!TmB r d fm ft) true ∧ LeN r r ∧ LeN d d ∧ LeN r 1000000000000 ∧ EqB (decide (lo ≤ b0 ∧ b0 ≤ hi)) true ∧ EqB (TrB lo hi r fm) true ∧ LeN r r ∧ EqB (decide ((↑d : Int) > 11)) false ∧ EqB (!decide ((↑r : Int) ≤ 11)) false ∧ True) ∧ (EqB true true ∧ True) ∧ True) (by kernel_rfl) ?_)
                                          ((repeat' apply And.intro) <;> first | assumption | exact trivial | exact ⟨rfl⟩ | (refine ⟨?_⟩; assumption) | (refine inR64 ?_ ?_ <;> omega) | (refine ⟨?_⟩; omega) | (refine ⟨?_⟩; rw [Bool.eq_iff_iff]; simp only [decide_eq_true_eq, decide_eq_false_iff_not, Bool.false_eq_true, Bool.true_eq_false, Bool.not_eq_true', Bool.and_eq_true, Bool.or_eq_true, Bool.not_eq_false', false_iff, iff_false, true_iff, iff_true]; omega) | (exfalso; omega) | (exact ht_in (by assumption) (by assumption) (by first | assumption | simp_all)) | (refine ⟨?_⟩; have h8 := (TrB_out (by assumption)).r8; omega) | (exact same_refl _ _))
                          · have hp6 := ht6
                            try simp only [decide_eq_true_eq, decide_eq_false_iff_not, Bool.not_eq_true', Bool.not_eq_false', Bool.not_eq_eq_eq_not, Bool.not_true, Bool.not_false] at hp6
                            try simp only [reduceCtorEq, not_true_eq_false, isEq, decide_true, Bool.and_true, Bool.true_and, Bool.and_eq_true, Bool.and_eq_false_iff, decide_eq_true_eq, decide_eq_false_iff_not] at hp6
                            all_goals first | (exfalso; omega) | (exfalso; simp_all; done) | skip
                            all_goals
                              cases ht7 : (true)
                              · have hp7 := ht7
                                try simp only [decide_eq_true_eq, decide_eq_false_iff_not, Bool.not_eq_true', Bool.not_eq_false', Bool.not_eq_eq_eq_not, Bool.not_true, Bool.not_false] at hp7
                                try simp only [reduceCtorEq, not_true_eq_false, isEq, decide_true, Bool.and_true, Bool.true_and, Bool.and_eq_true, Bool.and_eq_false_iff, decide_eq_true_eq, decide_eq_false_iff_not] at hp7
                                all_goals first | (exfalso; omega) | (exfalso; simp_all; done) | skip
                                all_goals
                                  first | (exfalso; omega) | simp_all
                              · have hp7 := ht7
                                try simp only [decide_eq_true_eq, decide_eq_false_iff_not, Bool.not_eq_true', Bool.not_eq_false', Bool.not_eq_eq_eq_not, Bool.not_true, Bool.not_false] at hp7
                                try simp only [reduceCtorEq, not_true_eq_false, isEq, decide_true, Bool.and_true, Bool.true_and, Bool.and_eq_true, Bool.and_eq_false_iff, decide_eq_true_eq, decide_eq_false_iff_not] at hp7
                                all_goals first | (exfalso; omega) | (exfalso; simp_all; done) | skip
                                all_goals
                                  cases ht8 : (true)
                                  · have hp8 := ht8
                                    try simp only [decide_eq_true_eq, decide_eq_false_iff_not, Bool.not_eq_true', Bool.not_eq_false', Bool.not_eq_eq_eq_not, Bool.not_true, Bool.not_false] at hp8
                                    try simp only [reduceCtorEq, not_true_eq_false, isEq, decide_true, Bool.and_true, Bool.true_and, Bool.and_eq_true, Bool.and_eq_false_iff, decide_eq_true_eq, decide_eq_false_iff_not] at hp8
                                    all_goals first | (exfalso; omega) | (exfalso; simp_all; done) | skip
                                    all_goals
                                      first | (exfalso; omega) | simp_all
                                  · have hp8 := ht8
                                    try simp only [decide_eq_true_eq, decide_eq_false_iff_not, Bool.not_eq_true', Bool.not_eq_false', Bool.not_eq_eq_eq_not, Bool.not_true, Bool.not_false] at hp8
                                    try simp only [reduceCtorEq, not_true_eq_false, isEq, decide_true, Bool.and_true, Bool.true_and, Bool.and_eq_true, Bool.and_eq_false_iff, decide_eq_true_eq, decide_eq_false_iff_not] at hp8
                                    all_goals first | (exfalso; omega) | (exfalso; simp_all; done) | skip
                                    all_goals
                                      refine Tri.path hB 200 [false, false, true, true, true, true, true, true, true] (of_skel (q := (EqB true true ∧ EqB true true ∧ EqB (!TrB lo hi r fm) true ∧ LeN r r ∧ LeN r 1000000000000 ∧ EqB true true ∧ EqB (!TmB r d fm ft) true ∧ LeN r r ∧ LeN d d ∧ LeN r 1000000000000 ∧ EqB (decide (lo ≤ b0 ∧ b0 ≤ hi)) true ∧ EqB (TrB lo hi r fm) true ∧ LeN r r ∧ EqB (decide ((↑d : Int) > 11)) false ∧ EqB (!decide ((↑r : Int) ≤ 11)) false ∧ True) ∧ (EqB true true ∧ True) ∧ True) (by kernel_rfl) ?_)
                                      ((repeat' apply And.intro) <;> first | assumption | exact trivial | exact ⟨rfl⟩ | (refine ⟨?_⟩; assumption) | (refine inR64 ?_ ?_ <;> omega) | (refine ⟨?_⟩; omega) | (refine ⟨?_⟩; rw [Bool.eq_iff_iff]; simp only [decide_eq_true_eq, decide_eq_false_iff_not, Bool.false_eq_true, Bool.true_eq_false, Bool.not_eq_true', Bool.and_eq_true, Bool.or_eq_true, Bool.not_eq_false', false_iff, iff_false, true_iff, iff_true]; omega) | (exfalso; omega) | (exact ht_in (by assumption) (by assumption) (by first | assumption | simp_all)) | (refine ⟨?_⟩; have h8 := (TrB_out (by assumption)).r8; omega) | (exact same_refl _ _))
      · have hp1 := ht1
        try simp only [decide_eq_true_eq, decide_eq_false_iff_not, Bool.not_eq_true', Bool.not_eq_false', Bool.not_eq_eq_eq_not, Bool.not_true, Bool.not_false] at hp1
        try simp only [reduceCtorEq, not_true_eq_false, isEq, decide_true, Bool.and_true, Bool.true_and, Bool.and_eq_true, Bool.and_eq_false_iff, decide_eq_true_eq, decide_eq_false_iff_not] at hp1
        all_goals first | (exfalso; omega) | (exfalso; simp_all; done) | skip
        all_goals
          refine Tri.path hB 200 [false, true] (of_skel (q := (EqB (decide ((↑d : Int) > 11)) true ∧ EqB (!decide ((↑r : Int) ≤ 11)) false ∧ True) ∧ (EqB true true ∧ True) ∧ True) (by kernel_rfl) ?_)
          ((repeat' apply And.intro) <;> first | assumption | exact trivial | exact ⟨rfl⟩ | (refine ⟨?_⟩; assumption) | (refine inR64 ?_ ?_ <;> omega) | (refine ⟨?_⟩; omega) | (refine ⟨?_⟩; rw [Bool.eq_iff_iff]; simp only [decide_eq_true_eq, decide_eq_false_iff_not, Bool.false_eq_true, Bool.true_eq_false, Bool.not_eq_true', Bool.and_eq_true, Bool.or_eq_true, Bool.not_eq_false', false_iff, iff_false, true_iff, iff_true]; omega) | (exfalso; omega) | (exact ht_in (by assumption) (by assumption) (by first | assumption | simp_all)) | (refine ⟨?_⟩; have h8 := (TrB_out (by assumption)).r8; omega) | (exact same_refl _ _))
  · have hp0 := ht0
    try simp only [decide_eq_true_eq, decide_eq_false_iff_not, Bool.not_eq_true', Bool.not_eq_false', Bool.not_eq_eq_eq_not, Bool.not_true, Bool.not_false] at hp0
    try simp only [reduceCtorEq, not_true_eq_false, isEq, decide_true, Bool.and_true, Bool.true_and, Bool.and_eq_true, Bool.and_eq_false_iff, decide_eq_true_eq, decide_eq_false_iff_not] at hp0
    all_goals first | (exfalso; omega) | (exfalso; simp_all; done) | skip
    all_goals
      refine Tri.path hB 200 [true] (of_skel (q := (EqB (!decide ((↑r : Int) ≤ 11)) true ∧ True) ∧ (EqB true true ∧ True) ∧ True) (by kernel_rfl) ?_)
      ((repeat' apply And.intro) <;> first | assumption | exact trivial | exact ⟨rfl⟩ | (refine ⟨?_⟩; assumption) | (refine inR64 ?_ ?_ <;> omega) | (refine ⟨?_⟩; omega) | (refine ⟨?_⟩; rw [Bool.eq_iff_iff]; simp only [decide_eq_true_eq, decide_eq_false_iff_not, Bool.false_eq_true, Bool.true_eq_false, Bool.not_eq_true', Bool.and_eq_true, Bool.or_eq_true, Bool.not_eq_false', false_iff, iff_false, true_iff, iff_true]; omega) | (exfalso; omega) | (exact ht_in (by assumption) (by assumption) (by first | assumption | simp_all)) | (refine ⟨?_⟩; have h8 := (TrB_out (by assumption)).r8; omega) | (exact same_refl _ _))

end Go.Proofs.YtknplcpjmpmblaaDoor.GY
