/- The law isobar/isobarlaw07.KiteHolds. -/
import Derived.Test.YtknplcpjmpmblaaDoorKbd
set_option linter.unusedVariables false
set_option linter.unusedSimpArgs false
namespace Go.Proofs.YtknplcpjmpmblaaDoor.GY
open Go Go.RowKit Go.Proofs
noncomputable def tbHo : Tab := mTab [5, 24, 25] [(18, FRli), (22, FRfl)] [(23, 2)]
set_option maxRecDepth 100000 in
set_option maxHeartbeats 2000000 in
theorem lawHo (a b c d e f x g s : Int) {w : World} (hs : SinAt w) : Calls Tryd.prog 5 #[.agg #[.int .i64 a, .int .i64 b, .int .i64 c, .int .i64 d, .int .i64 e, .int .i64 f], .int .i64 x, .int .i64 g, .int .i64 s] w fun e w' => e = .returned (.bool true) ∧ Below w.heap.size w w' := by
  have hB : TabOK Tryd.prog tbHo ⟨w.heap.size, w⟩ := mTab_ok hs (fun p hp => by
      rcases List.mem_cons.1 hp with rfl | hp
      · exact spRli
      rcases List.mem_cons.1 hp with rfl | hp
      · exact spRfl
      cases hp) (fun p hp => by
      rcases List.mem_cons.1 hp with rfl | hp
      · exact span_eq
      cases hp)
  refine law_true (vs := [.agg #[.int .i64 a, .int .i64 b, .int .i64 c, .int .i64 d, .int .i64 e, .int .i64 f], .int .i64 x, .int .i64 g, .int .i64 s]) (law_body (gs := [.agg [.lit (.int .i64 a), .lit (.int .i64 b), .lit (.int .i64 c), .lit (.int .i64 d), .lit (.int .i64 e), .lit (.int .i64 f)], .lit (.int .i64 x), .lit (.int .i64 g), .lit (.int .i64 s)]) hB Tryd.func5 (by kernel_rfl) ⟨⟨[_, _, _, _, _, _], rfl, rfl, rfl, rfl, rfl, rfl, rfl, trivial⟩, rfl, rfl, rfl, trivial⟩ rfl (Nat.le_of_ble_eq_true (by kernel_rfl)) (Nat.le_of_ble_eq_true (by kernel_rfl)) fun E hE => ?_)
  have hM : (0 ≤ a ∧ a ≤ b ∧ b ≤ 10000) ∧ (0 ≤ c ∧ c ≤ d ∧ d ≤ 90) ∧ 0 ≤ e ∧ e ≤ f ∧ f ≤ 1000 → (a ≤ x ∧ x ≤ b) ∧ (c ≤ g ∧ g ≤ d) ∧ e ≤ s ∧ s ≤ f → climbF a c f ≤ climbF x g s ∧ climbF x g s ≤ climbF b d e ∧ 0 ≤ climbF x g s ∧ climbF x g s ≤ x := fun h1 h2 =>
    ⟨climbF_mono (by omega) (by omega) (by omega) (by omega) (by omega) (by omega) (by omega) (by omega) (by omega), climbF_mono (by omega) (by omega) (by omega) (by omega) (by omega) (by omega) (by omega) (by omega) (by omega), climbF_bounds (by omega) (by omega) (by omega) (by omega) (by omega) (by omega)⟩
  cases ht0 : (!decide ((0 ≤ a ∧ a ≤ b ∧ b ≤ 10000) ∧ (0 ≤ c ∧ c ≤ d ∧ d ≤ 90) ∧ 0 ≤ e ∧ e ≤ f ∧ f ≤ 1000))
  · have hp0 := ht0
    try simp only [decide_eq_true_eq, decide_eq_false_iff_not, Bool.not_eq_true', Bool.not_eq_false', Bool.not_eq_eq_eq_not, Bool.not_true, Bool.not_false] at hp0
    try simp only [reduceCtorEq, not_true_eq_false, isEq, decide_true, Bool.and_true, Bool.true_and, Bool.and_eq_true, Bool.and_eq_false_iff, decide_eq_true_eq, decide_eq_false_iff_not] at hp0
    all_goals first | (exfalso; omega) | skip
    all_goals
      cases ht1 : (!decide ((a ≤ x ∧ x ≤ b) ∧ (c ≤ g ∧ g ≤ d) ∧ e ≤ s ∧ s ≤ f))
      · have hp1 := ht1
        try simp only [decide_eq_true_eq, decide_eq_false_iff_not, Bool.not_eq_true', Bool.not_eq_false', Bool.not_eq_eq_eq_not, Bool.not_true, Bool.not_false] at hp1
        try simp only [reduceCtorEq, not_true_eq_false, isEq, decide_true, Bool.and_true, Bool.true_and, Bool.and_eq_true, Bool.and_eq_false_iff, decide_eq_true_eq, decide_eq_false_iff_not] at hp1
        all_goals first | (exfalso; omega) | skip
        all_goals
          cases ht2 : (true)
          · have hp2 := ht2
            try simp only [decide_eq_true_eq, decide_eq_false_iff_not, Bool.not_eq_true', Bool.not_eq_false', Bool.not_eq_eq_eq_not, Bool.not_true, Bool.not_false] at hp2
            try simp only [reduceCtorEq, not_true_eq_false, isEq, decide_true, Bool.and_true, Bool.true_and, Bool.and_eq_true, Bool.and_eq_false_iff, decide_eq_true_eq, decide_eq_false_iff_not] at hp2
            all_goals first | (exfalso; omega) | skip
            all_goals
              first | (exfalso; omega) | simp_all
          · have hp2 := ht2
            try simp only [decide_eq_true_eq, decide_eq_false_iff_not, Bool.not_eq_true', Bool.not_eq_false', Bool.not_eq_eq_eq_not, Bool.not_true, Bool.not_false] at hp2
            try simp only [reduceCtorEq, not_true_eq_false, isEq, decide_true, Bool.and_true, Bool.true_and, Bool.and_eq_true, Bool.and_eq_false_iff, decide_eq_true_eq, decide_eq_false_iff_not] at hp2
            all_goals first | (exfalso; omega) | skip
            all_goals
              cases ht3 : (true)
              · have hp3 := ht3
                try simp only [decide_eq_true_eq, decide_eq_false_iff_not, Bool.not_eq_true', Bool.not_eq_false', Bool.not_eq_eq_eq_not, Bool.not_true, Bool.not_false] at hp3
                try simp only [reduceCtorEq, not_true_eq_false, isEq, decide_true, Bool.and_true, Bool.true_and, Bool.and_eq_true, Bool.and_eq_false_iff, decide_eq_true_eq, decide_eq_false_iff_not] at hp3
                all_goals first | (exfalso; omega) | skip
                all_goals
                  first | (exfalso; omega) | simp_all
              · have hp3 := ht3
                try simp only [decide_eq_true_eq, decide_eq_false_iff_not, Bool.not_eq_true', Bool.not_eq_false', Bool.not_eq_eq_eq_not, Bool.not_true, Bool.not_false] at hp3
                try simp only [reduceCtorEq, not_true_eq_false, isEq, decide_true, Bool.and_true, Bool.true_and, Bool.and_eq_true, Bool.and_eq_false_iff, decide_eq_true_eq, decide_eq_false_iff_not] at hp3
                all_goals first | (exfalso; omega) | skip
                all_goals
                  cases ht4 : (true)
                  · have hp4 := ht4
                    try simp only [decide_eq_true_eq, decide_eq_false_iff_not, Bool.not_eq_true', Bool.not_eq_false', Bool.not_eq_eq_eq_not, Bool.not_true, Bool.not_false] at hp4
                    try simp only [reduceCtorEq, not_true_eq_false, isEq, decide_true, Bool.and_true, Bool.true_and, Bool.and_eq_true, Bool.and_eq_false_iff, decide_eq_true_eq, decide_eq_false_iff_not] at hp4
                    all_goals first | (exfalso; omega) | skip
                    all_goals
                      first | (exfalso; omega) | simp_all
                  · have hp4 := ht4
                    try simp only [decide_eq_true_eq, decide_eq_false_iff_not, Bool.not_eq_true', Bool.not_eq_false', Bool.not_eq_eq_eq_not, Bool.not_true, Bool.not_false] at hp4
                    try simp only [reduceCtorEq, not_true_eq_false, isEq, decide_true, Bool.and_true, Bool.true_and, Bool.and_eq_true, Bool.and_eq_false_iff, decide_eq_true_eq, decide_eq_false_iff_not] at hp4
                    all_goals first | (exfalso; omega) | skip
                    all_goals
                      cases ht5 : (true)
                      · have hp5 := ht5
                        try simp only [decide_eq_true_eq, decide_eq_false_iff_not, Bool.not_eq_true', Bool.not_eq_false', Bool.not_eq_eq_eq_not, Bool.not_true, Bool.not_false] at hp5
                        try simp only [reduceCtorEq, not_true_eq_false, isEq, decide_true, Bool.and_true, Bool.true_and, Bool.and_eq_true, Bool.and_eq_false_iff, decide_eq_true_eq, decide_eq_false_iff_not] at hp5
                        all_goals first | (exfalso; omega) | skip
                        all_goals
                          first | (exfalso; omega) | simp_all
                      · have hp5 := ht5
                        try simp only [decide_eq_true_eq, decide_eq_false_iff_not, Bool.not_eq_true', Bool.not_eq_false', Bool.not_eq_eq_eq_not, Bool.not_true, Bool.not_false] at hp5
                        try simp only [reduceCtorEq, not_true_eq_false, isEq, decide_true, Bool.and_true, Bool.true_and, Bool.and_eq_true, Bool.and_eq_false_iff, decide_eq_true_eq, decide_eq_false_iff_not] at hp5
                        all_goals first | (exfalso; omega) | skip
                        all_goals
                          cases ht6 : (decide (climbF x g s ≥ climbF a c f))
                          · have hp6 := ht6
                            try simp only [decide_eq_true_eq, decide_eq_false_iff_not, Bool.not_eq_true', Bool.not_eq_false', Bool.not_eq_eq_eq_not, Bool.not_true, Bool.not_false] at hp6
                            try simp only [reduceCtorEq, not_true_eq_false, isEq, decide_true, Bool.and_true, Bool.true_and, Bool.and_eq_true, Bool.and_eq_false_iff, decide_eq_true_eq, decide_eq_false_iff_not] at hp6
                            all_goals first | (exfalso; omega) | skip
                            all_goals
                              refine Tri.path hB 200 [false, false, true, true, true, true, false] (of_skel (q := (EqC (some [AV.lit (Value.int IntKind.i64 (climbF a c f)), AV.lit (Value.int IntKind.i64 (climbF b d e))]) (some [AV.lit (Value.int IntKind.i64 (climbF a c f)), AV.lit (Value.int IntKind.i64 (climbF b d e))]) ∧ EqC (some [AV.lit (Value.int IntKind.i64 (climbF a c f)), AV.lit (Value.int IntKind.i64 (climbF b d e))]) (some [AV.lit (Value.int IntKind.i64 (climbF a c f)), AV.lit (Value.int IntKind.i64 (climbF b d e))]) ∧ EqC (some [AV.lit (Value.int IntKind.i64 (climbF a c f)), AV.lit (Value.int IntKind.i64 (climbF b d e))]) (some [AV.lit (Value.int IntKind.i64 (climbF a c f)), AV.lit (Value.int IntKind.i64 (climbF b d e))]) ∧ EqC (some [AV.lit (Value.int IntKind.i64 (climbF a c f)), AV.lit (Value.int IntKind.i64 (climbF b d e))]) (some [AV.lit (Value.int IntKind.i64 (climbF a c f)), AV.lit (Value.int IntKind.i64 (climbF b d e))]) ∧ EqB (decide (climbF x g s ≥ climbF a c f)) false ∧ EqB true true ∧ EqB true true ∧ EqB true true ∧ EqB true true ∧ LinOK a b c d e f ∧ FlOK a b c d e f b d e ∧ LinOK a b c d e f ∧ FlOK a b c d e f a c f ∧ LinOK a b c d e f ∧ FlOK a b c d e f x g s ∧ LinOK a b c d e f ∧ EqB (!decide ((a ≤ x ∧ x ≤ b) ∧ (c ≤ g ∧ g ≤ d) ∧ e ≤ s ∧ s ≤ f)) false ∧ EqB (!decide ((0 ≤ a ∧ a ≤ b ∧ b ≤ 10000) ∧ (0 ≤ c ∧ c ≤ d ∧ d ≤ 90) ∧ 0 ≤ e ∧ e ≤ f ∧ f ≤ 1000)) false ∧ True) ∧ (EqB false true ∧ True) ∧ True) (by kernel_rfl) ?_)
                              ((repeat' apply And.intro) <;> first | assumption | exact trivial | exact ⟨rfl⟩ | (refine ⟨?_⟩; assumption) | (refine inR64 ?_ ?_ <;> omega) | (refine ⟨?_⟩; omega) | (refine ⟨?_⟩; rw [Bool.eq_iff_iff]; simp only [decide_eq_true_eq, decide_eq_false_iff_not, Bool.false_eq_true, Bool.true_eq_false, Bool.not_eq_true', Bool.and_eq_true, Bool.or_eq_true, Bool.not_eq_false', false_iff, iff_false, true_iff, iff_true]; omega) | (exfalso; omega))
                          · have hp6 := ht6
                            try simp only [decide_eq_true_eq, decide_eq_false_iff_not, Bool.not_eq_true', Bool.not_eq_false', Bool.not_eq_eq_eq_not, Bool.not_true, Bool.not_false] at hp6
                            try simp only [reduceCtorEq, not_true_eq_false, isEq, decide_true, Bool.and_true, Bool.true_and, Bool.and_eq_true, Bool.and_eq_false_iff, decide_eq_true_eq, decide_eq_false_iff_not] at hp6
                            all_goals first | (exfalso; omega) | skip
                            all_goals
                              cases ht7 : (decide (climbF x g s ≤ climbF b d e))
                              · have hp7 := ht7
                                try simp only [decide_eq_true_eq, decide_eq_false_iff_not, Bool.not_eq_true', Bool.not_eq_false', Bool.not_eq_eq_eq_not, Bool.not_true, Bool.not_false] at hp7
                                try simp only [reduceCtorEq, not_true_eq_false, isEq, decide_true, Bool.and_true, Bool.true_and, Bool.and_eq_true, Bool.and_eq_false_iff, decide_eq_true_eq, decide_eq_false_iff_not] at hp7
                                all_goals first | (exfalso; omega) | skip
                                all_goals
                                  refine Tri.path hB 200 [false, false, true, true, true, true, true, false] (of_skel (q := (EqC (some [AV.lit (Value.int IntKind.i64 (climbF a c f)), AV.lit (Value.int IntKind.i64 (climbF b d e))]) (some [AV.lit (Value.int IntKind.i64 (climbF a c f)), AV.lit (Value.int IntKind.i64 (climbF b d e))]) ∧ EqC (some [AV.lit (Value.int IntKind.i64 (climbF a c f)), AV.lit (Value.int IntKind.i64 (climbF b d e))]) (some [AV.lit (Value.int IntKind.i64 (climbF a c f)), AV.lit (Value.int IntKind.i64 (climbF b d e))]) ∧ EqB (decide (climbF x g s ≤ climbF b d e)) false ∧ EqC (some [AV.lit (Value.int IntKind.i64 (climbF a c f)), AV.lit (Value.int IntKind.i64 (climbF b d e))]) (some [AV.lit (Value.int IntKind.i64 (climbF a c f)), AV.lit (Value.int IntKind.i64 (climbF b d e))]) ∧ EqC (some [AV.lit (Value.int IntKind.i64 (climbF a c f)), AV.lit (Value.int IntKind.i64 (climbF b d e))]) (some [AV.lit (Value.int IntKind.i64 (climbF a c f)), AV.lit (Value.int IntKind.i64 (climbF b d e))]) ∧ EqB (decide (climbF x g s ≥ climbF a c f)) true ∧ EqB true true ∧ EqB true true ∧ EqB true true ∧ EqB true true ∧ LinOK a b c d e f ∧ FlOK a b c d e f b d e ∧ LinOK a b c d e f ∧ FlOK a b c d e f a c f ∧ LinOK a b c d e f ∧ FlOK a b c d e f x g s ∧ LinOK a b c d e f ∧ EqB (!decide ((a ≤ x ∧ x ≤ b) ∧ (c ≤ g ∧ g ≤ d) ∧ e ≤ s ∧ s ≤ f)) false ∧ EqB (!decide ((0 ≤ a ∧ a ≤ b ∧ b ≤ 10000) ∧ (0 ≤ c ∧ c ≤ d ∧ d ≤ 90) ∧ 0 ≤ e ∧ e ≤ f ∧ f ≤ 1000)) false ∧ True) ∧ (EqB false true ∧ True) ∧ True) (by kernel_rfl) ?_)
                                  ((repeat' apply And.intro) <;> first | assumption | exact trivial | exact ⟨rfl⟩ | (refine ⟨?_⟩; assumption) | (refine inR64 ?_ ?_ <;> omega) | (refine ⟨?_⟩; omega) | (refine ⟨?_⟩; rw [Bool.eq_iff_iff]; simp only [decide_eq_true_eq, decide_eq_false_iff_not, Bool.false_eq_true, Bool.true_eq_false, Bool.not_eq_true', Bool.and_eq_true, Bool.or_eq_true, Bool.not_eq_false', false_iff, iff_false, true_iff, iff_true]; omega) | (exfalso; omega))
                              · have hp7 := ht7
                                try simp only [decide_eq_true_eq, decide_eq_false_iff_not, Bool.not_eq_true', Bool.not_eq_false', Bool.not_eq_eq_eq_not, Bool.not_true, Bool.not_false] at hp7
                                try simp only [reduceCtorEq, not_true_eq_false, isEq, decide_true, Bool.and_true, Bool.true_and, Bool.and_eq_true, Bool.and_eq_false_iff, decide_eq_true_eq, decide_eq_false_iff_not] at hp7
                                all_goals first | (exfalso; omega) | skip
                                all_goals
                                  cases ht8 : (decide (climbF x g s ≥ 0))
                                  · have hp8 := ht8
                                    try simp only [decide_eq_true_eq, decide_eq_false_iff_not, Bool.not_eq_true', Bool.not_eq_false', Bool.not_eq_eq_eq_not, Bool.not_true, Bool.not_false] at hp8
                                    try simp only [reduceCtorEq, not_true_eq_false, isEq, decide_true, Bool.and_true, Bool.true_and, Bool.and_eq_true, Bool.and_eq_false_iff, decide_eq_true_eq, decide_eq_false_iff_not] at hp8
                                    all_goals first | (exfalso; omega) | skip
                                    all_goals
                                      refine Tri.path hB 200 [false, false, true, true, true, true, true, true, false] (of_skel (q := (EqC (some [AV.lit (Value.int IntKind.i64 (climbF a c f)), AV.lit (Value.int IntKind.i64 (climbF b d e))]) (some [AV.lit (Value.int IntKind.i64 (climbF a c f)), AV.lit (Value.int IntKind.i64 (climbF b d e))]) ∧ EqC (some [AV.lit (Value.int IntKind.i64 (climbF a c f)), AV.lit (Value.int IntKind.i64 (climbF b d e))]) (some [AV.lit (Value.int IntKind.i64 (climbF a c f)), AV.lit (Value.int IntKind.i64 (climbF b d e))]) ∧ EqB (decide (climbF x g s ≥ 0)) false ∧ EqB (decide (climbF x g s ≤ climbF b d e)) true ∧ EqC (some [AV.lit (Value.int IntKind.i64 (climbF a c f)), AV.lit (Value.int IntKind.i64 (climbF b d e))]) (some [AV.lit (Value.int IntKind.i64 (climbF a c f)), AV.lit (Value.int IntKind.i64 (climbF b d e))]) ∧ EqC (some [AV.lit (Value.int IntKind.i64 (climbF a c f)), AV.lit (Value.int IntKind.i64 (climbF b d e))]) (some [AV.lit (Value.int IntKind.i64 (climbF a c f)), AV.lit (Value.int IntKind.i64 (climbF b d e))]) ∧ EqB (decide (climbF x g s ≥ climbF a c f)) true ∧ EqB true true ∧ EqB true true ∧ EqB true true ∧ EqB true true ∧ LinOK a b c d e f ∧ FlOK a b c d e f b d e ∧ LinOK a b c d e f ∧ FlOK a b c d e f a c f ∧ LinOK a b c d e f ∧ FlOK a b c d e f x g s ∧ LinOK a b c d e f ∧ EqB (!decide ((a ≤ x ∧ x ≤ b) ∧ (c ≤ g ∧ g ≤ d) ∧ e ≤ s ∧ s ≤ f)) false ∧ EqB (!decide ((0 ≤ a ∧ a ≤ b ∧ b ≤ 10000) ∧ (0 ≤ c ∧ c ≤ d ∧ d ≤ 90) ∧ 0 ≤ e ∧ e ≤ f ∧ f ≤ 1000)) false ∧ True) ∧ (EqB false true ∧ True) ∧ True) (by kernel_rfl) ?_)
                                      ((repeat' apply And.intro) <;> first | assumption | exact trivial | exact ⟨rfl⟩ | (refine ⟨?_⟩; assumption) | (refine inR64 ?_ ?_ <;> omega) | (refine ⟨?_⟩; omega) | (refine ⟨?_⟩; rw [Bool.eq_iff_iff]; simp only [decide_eq_true_eq, decide_eq_false_iff_not, Bool.false_eq_true, Bool.true_eq_false, Bool.not_eq_true', Bool.and_eq_true, Bool.or_eq_true, Bool.not_eq_false', false_iff, iff_false, true_iff, iff_true]; omega) | (exfalso; omega))
                                  · have hp8 := ht8
                                    try simp only [decide_eq_true_eq, decide_eq_false_iff_not, Bool.not_eq_true', Bool.not_eq_false', Bool.not_eq_eq_eq_not, Bool.not_true, Bool.not_false] at hp8
                                    try simp only [reduceCtorEq, not_true_eq_false, isEq, decide_true, Bool.and_true, Bool.true_and, Bool.and_eq_true, Bool.and_eq_false_iff, decide_eq_true_eq, decide_eq_false_iff_not] at hp8
                                    all_goals first | (exfalso; omega) | skip
                                    all_goals
                                      cases ht9 : (decide (climbF x g s ≤ x))
                                      · have hp9 := ht9
                                        try simp only [decide_eq_true_eq, decide_eq_false_iff_not, Bool.not_eq_true', Bool.not_eq_false', Bool.not_eq_eq_eq_not, Bool.not_true, Bool.not_false] at hp9
                                        try simp only [reduceCtorEq, not_true_eq_false, isEq, decide_true, Bool.and_true, Bool.true_and, Bool.and_eq_true, Bool.and_eq_false_iff, decide_eq_true_eq, decide_eq_false_iff_not] at hp9
                                        all_goals first | (exfalso; omega) | skip
                                        all_goals
                                          refine Tri.path hB 200 [false, false, true, true, true, true, true, true, true, false] (of_skel (q := (EqC (some [AV.lit (Value.int IntKind.i64 (climbF a c f)), AV.lit (Value.int IntKind.i64 (climbF b d e))]) (some [AV.lit (Value.int IntKind.i64 (climbF a c f)), AV.lit (Value.int IntKind.i64 (climbF b d e))]) ∧ EqC (some [AV.lit (Value.int IntKind.i64 (climbF a c f)), AV.lit (Value.int IntKind.i64 (climbF b d e))]) (some [AV.lit (Value.int IntKind.i64 (climbF a c f)), AV.lit (Value.int IntKind.i64 (climbF b d e))]) ∧ EqB (decide (climbF x g s ≤ x)) false ∧ EqB (decide (climbF x g s ≥ 0)) true ∧ EqB (decide (climbF x g s ≤ climbF b d e)) true ∧ EqC (some [AV.lit (Value.int IntKind.i64 (climbF a c f)), AV.lit (Value.int IntKind.i64 (climbF b d e))]) (some [AV.lit (Value.int IntKind.i64 (climbF a c f)), AV.lit (Value.int IntKind.i64 (climbF b d e))]) ∧ EqC (some [AV.lit (Value.int IntKind.i64 (climbF a c f)), AV.lit (Value.int IntKind.i64 (climbF b d e))]) (some [AV.lit (Value.int IntKind.i64 (climbF a c f)), AV.lit (Value.int IntKind.i64 (climbF b d e))]) ∧ EqB (decide (climbF x g s ≥ climbF a c f)) true ∧ EqB true true ∧ EqB true true ∧ EqB true true ∧ EqB true true ∧ LinOK a b c d e f ∧ FlOK a b c d e f b d e ∧ LinOK a b c d e f ∧ FlOK a b c d e f a c f ∧ LinOK a b c d e f ∧ FlOK a b c d e f x g s ∧ LinOK a b c d e f ∧ EqB (!decide ((a ≤ x ∧ x ≤ b) ∧ (c ≤ g ∧ g ≤ d) ∧ e ≤ s ∧ s ≤ f)) false ∧ EqB (!decide ((0 ≤ a ∧ a ≤ b ∧ b ≤ 10000) ∧ (0 ≤ c ∧ c ≤ d ∧ d ≤ 90) ∧ 0 ≤ e ∧ e ≤ f ∧ f ≤ 1000)) false ∧ True) ∧ (EqB false true ∧ True) ∧ True) (by kernel_rfl) ?_)
                                          ((repeat' apply And.intro) <;> first | assumption | exact trivial | exact ⟨rfl⟩ | (refine ⟨?_⟩; assumption) | (refine inR64 ?_ ?_ <;> omega) | (refine ⟨?_⟩; omega) | (refine ⟨?_⟩; rw [Bool.eq_iff_iff]; simp only [decide_eq_true_eq, decide_eq_false_iff_not, Bool.false_eq_true, Bool.true_eq_false, Bool.not_eq_true', Bool.and_eq_true, Bool.or_eq_true, Bool.not_eq_false', false_iff, iff_false, true_iff, iff_true]; omega) | (exfalso; omega))
                                      · have hp9 := ht9
                                        try simp only [decide_eq_true_eq, decide_eq_false_iff_not, Bool.not_eq_true', Bool.not_eq_false', Bool.not_eq_eq_eq_not, Bool.not_true, Bool.not_false] at hp9
                                        try simp only [reduceCtorEq, not_true_eq_false, isEq, decide_true, Bool.and_true, Bool.true_and, Bool.and_eq_true, Bool.and_eq_false_iff, decide_eq_true_eq, decide_eq_false_iff_not] at hp9
                                        all_goals first | (exfalso; omega) | skip
                                        all_goals
                                          cases ht10 : (isEq [climbF a c f, climbF b d e] [climbF a c f, climbF b d e])
                                          · have hp10 := ht10
                                            try simp only [decide_eq_true_eq, decide_eq_false_iff_not, Bool.not_eq_true', Bool.not_eq_false', Bool.not_eq_eq_eq_not, Bool.not_true, Bool.not_false] at hp10
                                            try simp only [reduceCtorEq, not_true_eq_false, isEq, decide_true, Bool.and_true, Bool.true_and, Bool.and_eq_true, Bool.and_eq_false_iff, decide_eq_true_eq, decide_eq_false_iff_not] at hp10
                                            all_goals first | (exfalso; omega) | skip
                                            all_goals
                                              refine Tri.path hB 200 [false, false, true, true, true, true, true, true, true, true, false] (of_skel (q := (EqB (isEq [climbF a c f, climbF b d e] [climbF a c f, climbF b d e]) false ∧ EqC (some [AV.lit (Value.int IntKind.i64 (climbF a c f)), AV.lit (Value.int IntKind.i64 (climbF b d e))]) (some [AV.lit (Value.int IntKind.i64 (climbF a c f)), AV.lit (Value.int IntKind.i64 (climbF b d e))]) ∧ EqC (some [AV.lit (Value.int IntKind.i64 (climbF a c f)), AV.lit (Value.int IntKind.i64 (climbF b d e))]) (some [AV.lit (Value.int IntKind.i64 (climbF a c f)), AV.lit (Value.int IntKind.i64 (climbF b d e))]) ∧ EqB (decide (climbF x g s ≤ x)) true ∧ EqB (decide (climbF x g s ≥ 0)) true ∧ EqB (decide (climbF x g s ≤ climbF b d e)) true ∧ EqC (some [AV.lit (Value.int IntKind.i64 (climbF a c f)), AV.lit (Value.int IntKind.i64 (climbF b d e))]) (some [AV.lit (Value.int IntKind.i64 (climbF a c f)), AV.lit (Value.int IntKind.i64 (climbF b d e))]) ∧ EqC (some [AV.lit (Value.int IntKind.i64 (climbF a c f)), AV.lit (Value.int IntKind.i64 (climbF b d e))]) (some [AV.lit (Value.int IntKind.i64 (climbF a c f)), AV.lit (Value.int IntKind.i64 (climbF b d e))]) ∧ EqB (decide (climbF x g s ≥ climbF a c f)) true ∧ EqB true true ∧ EqB true true ∧ EqB true true ∧ EqB true true ∧ LinOK a b c d e f ∧ FlOK a b c d e f b d e ∧ LinOK a b c d e f ∧ FlOK a b c d e f a c f ∧ LinOK a b c d e f ∧ FlOK a b c d e f x g s ∧ LinOK a b c d e f ∧ EqB (!decide ((a ≤ x ∧ x ≤ b) ∧ (c ≤ g ∧ g ≤ d) ∧ e ≤ s ∧ s ≤ f)) false ∧ EqB (!decide ((0 ≤ a ∧ a ≤ b ∧ b ≤ 10000) ∧ (0 ≤ c ∧ c ≤ d ∧ d ≤ 90) ∧ 0 ≤ e ∧ e ≤ f ∧ f ≤ 1000)) false ∧ True) ∧ (EqB false true ∧ True) ∧ True) (by kernel_rfl) ?_)
                                              ((repeat' apply And.intro) <;> first | assumption | exact trivial | exact ⟨rfl⟩ | (refine ⟨?_⟩; assumption) | (refine inR64 ?_ ?_ <;> omega) | (refine ⟨?_⟩; omega) | (refine ⟨?_⟩; rw [Bool.eq_iff_iff]; simp only [decide_eq_true_eq, decide_eq_false_iff_not, Bool.false_eq_true, Bool.true_eq_false, Bool.not_eq_true', Bool.and_eq_true, Bool.or_eq_true, Bool.not_eq_false', false_iff, iff_false, true_iff, iff_true]; omega) | (exfalso; omega))
                                          · have hp10 := ht10
                                            try simp only [decide_eq_true_eq, decide_eq_false_iff_not, Bool.not_eq_true', Bool.not_eq_false', Bool.not_eq_eq_eq_not, Bool.not_true, Bool.not_false] at hp10
                                            try simp only [reduceCtorEq, not_true_eq_false, isEq, decide_true, Bool.and_true, Bool.true_and, Bool.and_eq_true, Bool.and_eq_false_iff, decide_eq_true_eq, decide_eq_false_iff_not] at hp10
                                            all_goals first | (exfalso; omega) | skip
                                            all_goals
                                              refine Tri.path hB 200 [false, false, true, true, true, true, true, true, true, true, true] (of_skel (q := (EqB (isEq [climbF a c f, climbF b d e] [climbF a c f, climbF b d e]) true ∧ EqC (some [AV.lit (Value.int IntKind.i64 (climbF a c f)), AV.lit (Value.int IntKind.i64 (climbF b d e))]) (some [AV.lit (Value.int IntKind.i64 (climbF a c f)), AV.lit (Value.int IntKind.i64 (climbF b d e))]) ∧ EqC (some [AV.lit (Value.int IntKind.i64 (climbF a c f)), AV.lit (Value.int IntKind.i64 (climbF b d e))]) (some [AV.lit (Value.int IntKind.i64 (climbF a c f)), AV.lit (Value.int IntKind.i64 (climbF b d e))]) ∧ EqB (decide (climbF x g s ≤ x)) true ∧ EqB (decide (climbF x g s ≥ 0)) true ∧ EqB (decide (climbF x g s ≤ climbF b d e)) true ∧ EqC (some [AV.lit (Value.int IntKind.i64 (climbF a c f)), AV.lit (Value.int IntKind.i64 (climbF b d e))]) (some [AV.lit (Value.int IntKind.i64 (climbF a c f)), AV.lit (Value.int IntKind.i64 (climbF b d e))]) ∧ EqC (some [AV.lit (Value.int IntKind.i64 (climbF a c f)), AV.lit (Value.int IntKind.i64 (climbF b d e))]) (some [AV.lit (Value.int IntKind.i64 (climbF a c f)), AV.lit (Value.int IntKind.i64 (climbF b d e))]) ∧ EqB (decide (climbF x g s ≥ climbF a c f)) true ∧ EqB true true ∧ EqB true true ∧ EqB true true ∧ EqB true true ∧ LinOK a b c d e f ∧ FlOK a b c d e f b d e ∧ LinOK a b c d e f ∧ FlOK a b c d e f a c f ∧ LinOK a b c d e f ∧ FlOK a b c d e f x g s ∧ LinOK a b c d e f ∧ EqB (!decide ((a ≤ x ∧ x ≤ b) ∧ (c ≤ g ∧ g ≤ d) ∧ e ≤ s ∧ s ≤ f)) false ∧ EqB (!decide ((0 ≤ a ∧ a ≤ b ∧ b ≤ 10000) ∧ (0 ≤ c ∧ c ≤ d ∧ d ≤ 90) ∧ 0 ≤ e ∧ e ≤ f ∧ f ≤ 1000)) false ∧ True) ∧ (EqB true true ∧ True) ∧ True) (by kernel_rfl) ?_)
                                              ((repeat' apply And.intro) <;> first | assumption | exact trivial | exact ⟨rfl⟩ | (refine ⟨?_⟩; assumption) | (refine inR64 ?_ ?_ <;> omega) | (refine ⟨?_⟩; omega) | (refine ⟨?_⟩; rw [Bool.eq_iff_iff]; simp only [decide_eq_true_eq, decide_eq_false_iff_not, Bool.false_eq_true, Bool.true_eq_false, Bool.not_eq_true', Bool.and_eq_true, Bool.or_eq_true, Bool.not_eq_false', false_iff, iff_false, true_iff, iff_true]; omega) | (exfalso; omega))
      · have hp1 := ht1
        try simp only [decide_eq_true_eq, decide_eq_false_iff_not, Bool.not_eq_true', Bool.not_eq_false', Bool.not_eq_eq_eq_not, Bool.not_true, Bool.not_false] at hp1
        try simp only [reduceCtorEq, not_true_eq_false, isEq, decide_true, Bool.and_true, Bool.true_and, Bool.and_eq_true, Bool.and_eq_false_iff, decide_eq_true_eq, decide_eq_false_iff_not] at hp1
        all_goals first | (exfalso; omega) | skip
        all_goals
          refine Tri.path hB 200 [false, true] (of_skel (q := (EqB (!decide ((a ≤ x ∧ x ≤ b) ∧ (c ≤ g ∧ g ≤ d) ∧ e ≤ s ∧ s ≤ f)) true ∧ EqB (!decide ((0 ≤ a ∧ a ≤ b ∧ b ≤ 10000) ∧ (0 ≤ c ∧ c ≤ d ∧ d ≤ 90) ∧ 0 ≤ e ∧ e ≤ f ∧ f ≤ 1000)) false ∧ True) ∧ (EqB true true ∧ True) ∧ True) (by kernel_rfl) ?_)
          ((repeat' apply And.intro) <;> first | assumption | exact trivial | exact ⟨rfl⟩ | (refine ⟨?_⟩; assumption) | (refine inR64 ?_ ?_ <;> omega) | (refine ⟨?_⟩; omega) | (refine ⟨?_⟩; rw [Bool.eq_iff_iff]; simp only [decide_eq_true_eq, decide_eq_false_iff_not, Bool.false_eq_true, Bool.true_eq_false, Bool.not_eq_true', Bool.and_eq_true, Bool.or_eq_true, Bool.not_eq_false', false_iff, iff_false, true_iff, iff_true]; omega) | (exfalso; omega))
  · have hp0 := ht0
    try simp only [decide_eq_true_eq, decide_eq_false_iff_not, Bool.not_eq_true', Bool.not_eq_false', Bool.not_eq_eq_eq_not, Bool.not_true, Bool.not_false] at hp0
    try simp only [reduceCtorEq, not_true_eq_false, isEq, decide_true, Bool.and_true, Bool.true_and, Bool.and_eq_true, Bool.and_eq_false_iff, decide_eq_true_eq, decide_eq_false_iff_not] at hp0
    all_goals first | (exfalso; omega) | skip
    all_goals
      refine Tri.path hB 200 [true] (of_skel (q := (EqB (!decide ((0 ≤ a ∧ a ≤ b ∧ b ≤ 10000) ∧ (0 ≤ c ∧ c ≤ d ∧ d ≤ 90) ∧ 0 ≤ e ∧ e ≤ f ∧ f ≤ 1000)) true ∧ True) ∧ (EqB true true ∧ True) ∧ True) (by kernel_rfl) ?_)
      ((repeat' apply And.intro) <;> first | assumption | exact trivial | exact ⟨rfl⟩ | (refine ⟨?_⟩; assumption) | (refine inR64 ?_ ?_ <;> omega) | (refine ⟨?_⟩; omega) | (refine ⟨?_⟩; rw [Bool.eq_iff_iff]; simp only [decide_eq_true_eq, decide_eq_false_iff_not, Bool.false_eq_true, Bool.true_eq_false, Bool.not_eq_true', Bool.and_eq_true, Bool.or_eq_true, Bool.not_eq_false', false_iff, iff_false, true_iff, iff_true]; omega) | (exfalso; omega))

end Go.Proofs.YtknplcpjmpmblaaDoor.GY
