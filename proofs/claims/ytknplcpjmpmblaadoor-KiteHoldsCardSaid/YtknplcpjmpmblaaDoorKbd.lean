/- Kites: Height and Climb, where all is as defined. -/
import Derived.Test.YtknplcpjmpmblaaDoorKbb
set_option linter.unusedVariables false
set_option linter.unusedSimpArgs false
namespace Go.Proofs.YtknplcpjmpmblaaDoor.GY
open Go Go.RowKit Go.Proofs
structure LinOK (a b c d e f : Int) : Prop where
  p : (0 ≤ a ∧ a ≤ b ∧ b ≤ 10000) ∧ (0 ≤ c ∧ c ≤ d ∧ d ≤ 90) ∧ 0 ≤ e ∧ e ≤ f ∧ f ≤ 1000
structure FlOK (a b c d e f x g s : Int) : Prop where
  p : (a ≤ x ∧ x ≤ b) ∧ (c ≤ g ∧ g ≤ d) ∧ e ≤ s ∧ s ≤ f
theorem tup_pair {w : World} {lo : Nat} {v : Value} {p q n : Int} (h : Reads w lo v (.tup [.agg [.lit (.int .i64 p), .lit (.int .i64 q)], .lit (.int .i64 n)])) : v = .tuple #[.agg #[.int .i64 p, .int .i64 q], .int .i64 n] := by
  obtain ⟨vs, rfl, h⟩ := h
  match vs, h with
  | [x, y], ⟨hx, hy, _⟩ =>
    obtain ⟨us, rfl, hu⟩ := hx
    match us, hu with
    | [p', q'], ⟨h1, h2, _⟩ => obtain rfl : p' = _ := h1; obtain rfl : q' = _ := h2; obtain rfl : y = _ := hy; rfl
theorem tup_int {w : World} {lo : Nat} {v : Value} {p n : Int} (h : Reads w lo v (.tup [.lit (.int .i64 p), .lit (.int .i64 n)])) : v = .tuple #[.int .i64 p, .int .i64 n] := by
  obtain ⟨vs, rfl, h⟩ := h
  match vs, h with
  | [x, y], ⟨hx, hy, _⟩ => obtain rfl : x = _ := hx; obtain rfl : y = _ := hy; rfl
noncomputable def tbHg : Tab := lTab [17, 65, 67, 102, 103, 124, 125] [(66, FLin)] []
set_option maxRecDepth 100000 in
theorem atHg (a b c d e f : Int) (hL : LinOK a b c d e f) {w : World} (hs : SinAt w) : Calls Tryd.prog 17 #[.agg #[.int .i64 a, .int .i64 b, .int .i64 c, .int .i64 d, .int .i64 e, .int .i64 f]] w fun ee w' => ee = .returned (.tuple #[.agg #[.int .i64 (climbF a c f), .int .i64 (climbF b d e)], .int .i64 0]) ∧ Below w.heap.size w w' := by
  have hB : TabOK Tryd.prog tbHg ⟨w.heap.size, w⟩ := lTab_ok hs (fun p hp => by
      rcases List.mem_cons.1 hp with rfl | hp
      · exact spLin
      cases hp) (fun p hp => by cases hp)
  have hp := hL.p
  refine (law_body (vs := [.agg #[.int .i64 a, .int .i64 b, .int .i64 c, .int .i64 d, .int .i64 e, .int .i64 f]]) (gs := [.agg [.lit (.int .i64 a), .lit (.int .i64 b), .lit (.int .i64 c), .lit (.int .i64 d), .lit (.int .i64 e), .lit (.int .i64 f)]]) (g := .tup [.agg [.lit (.int .i64 (climbF a c f)), .lit (.int .i64 (climbF b d e))], .lit (.int .i64 0)]) hB Tryd.func17 (by kernel_rfl) ⟨⟨[_, _, _, _, _, _], rfl, rfl, rfl, rfl, rfl, rfl, rfl, trivial⟩, trivial⟩ rfl (Nat.le_of_ble_eq_true (by kernel_rfl)) (Nat.le_of_ble_eq_true (by kernel_rfl)) fun E hE => ?_).mono fun e w' ⟨v, he, hr, hb⟩ => ⟨by rw [he]; exact congrArg Ending.returned (tup_pair hr), hb⟩
  refine Tri.path hB 200 [false, false] (of_skel (q := (CliIn b d e ∧ EqC (some [AV.lit (Value.int IntKind.i64 a), AV.lit (Value.int IntKind.i64 b)]) (some [AV.lit (Value.int IntKind.i64 a), AV.lit (Value.int IntKind.i64 b)]) ∧ EqC (some [AV.lit (Value.int IntKind.i64 c), AV.lit (Value.int IntKind.i64 d)]) (some [AV.lit (Value.int IntKind.i64 c), AV.lit (Value.int IntKind.i64 d)]) ∧ EqC (some [AV.lit (Value.int IntKind.i64 e), AV.lit (Value.int IntKind.i64 f)]) (some [AV.lit (Value.int IntKind.i64 e), AV.lit (Value.int IntKind.i64 f)]) ∧ EqC (some [AV.lit (Value.int IntKind.i64 a), AV.lit (Value.int IntKind.i64 b)]) (some [AV.lit (Value.int IntKind.i64 a), AV.lit (Value.int IntKind.i64 b)]) ∧ EqC (some [AV.lit (Value.int IntKind.i64 c), AV.lit (Value.int IntKind.i64 d)]) (some [AV.lit (Value.int IntKind.i64 c), AV.lit (Value.int IntKind.i64 d)]) ∧ EqC (some [AV.lit (Value.int IntKind.i64 e), AV.lit (Value.int IntKind.i64 f)]) (some [AV.lit (Value.int IntKind.i64 e), AV.lit (Value.int IntKind.i64 f)]) ∧ CliIn a c f ∧ EqC (some [AV.lit (Value.int IntKind.i64 a), AV.lit (Value.int IntKind.i64 b)]) (some [AV.lit (Value.int IntKind.i64 a), AV.lit (Value.int IntKind.i64 b)]) ∧ EqC (some [AV.lit (Value.int IntKind.i64 c), AV.lit (Value.int IntKind.i64 d)]) (some [AV.lit (Value.int IntKind.i64 c), AV.lit (Value.int IntKind.i64 d)]) ∧ EqC (some [AV.lit (Value.int IntKind.i64 e), AV.lit (Value.int IntKind.i64 f)]) (some [AV.lit (Value.int IntKind.i64 e), AV.lit (Value.int IntKind.i64 f)]) ∧ EqC (some [AV.lit (Value.int IntKind.i64 a), AV.lit (Value.int IntKind.i64 b)]) (some [AV.lit (Value.int IntKind.i64 a), AV.lit (Value.int IntKind.i64 b)]) ∧ EqC (some [AV.lit (Value.int IntKind.i64 c), AV.lit (Value.int IntKind.i64 d)]) (some [AV.lit (Value.int IntKind.i64 c), AV.lit (Value.int IntKind.i64 d)]) ∧ EqC (some [AV.lit (Value.int IntKind.i64 e), AV.lit (Value.int IntKind.i64 f)]) (some [AV.lit (Value.int IntKind.i64 e), AV.lit (Value.int IntKind.i64 f)]) ∧ EqB false false ∧ EqB (!decide ((0 ≤ a ∧ a ≤ b ∧ b ≤ 10000) ∧ (0 ≤ c ∧ c ≤ d ∧ d ≤ 90) ∧ 0 ≤ e ∧ e ≤ f ∧ f ≤ 1000)) false ∧ True) ∧ (EqI (climbF a c f) (climbF a c f) ∧ EqI (climbF b d e) (climbF b d e) ∧ EqI 0 0 ∧ True) ∧ True) (by kernel_rfl) ?_)
  ((repeat' apply And.intro) <;> first | assumption | exact trivial | exact ⟨rfl⟩ | (refine ⟨?_⟩; assumption) | (refine inR64 ?_ ?_ <;> omega) | (refine ⟨?_⟩; omega) | (refine ⟨?_⟩; rw [Bool.eq_iff_iff]; simp only [decide_eq_true_eq, decide_eq_false_iff_not, Bool.false_eq_true, Bool.true_eq_false, Bool.not_eq_true', Bool.and_eq_true, Bool.or_eq_true, Bool.not_eq_false', false_iff, iff_false, true_iff, iff_true]; omega))
noncomputable def natHeight : AH → List AV → Option (AV × AH) := fun h args => match args with
  | [.agg [.lit (.int .i64 a), .lit (.int .i64 b), .lit (.int .i64 c), .lit (.int .i64 d), .lit (.int .i64 e), .lit (.int .i64 f)]] => some (.tup [.agg [.lit (.int .i64 (climbF a c f)), .lit (.int .i64 (climbF b d e))], .lit (.int .i64 0)], h.also [LinOK a b c d e f])
  | _ => none
noncomputable def tbCg : Tab := lTab [21, 65] [(66, FLin), (72, FWth)] []
set_option maxRecDepth 100000 in
theorem atCg (a b c d e f x g s : Int) (hL : LinOK a b c d e f) (hF : FlOK a b c d e f x g s) {w : World} (hs : SinAt w) : Calls Tryd.prog 21 #[.agg #[.int .i64 a, .int .i64 b, .int .i64 c, .int .i64 d, .int .i64 e, .int .i64 f], .int .i64 x, .int .i64 g, .int .i64 s] w fun ee w' => ee = .returned (.tuple #[.int .i64 (climbF x g s), .int .i64 0]) ∧ Below w.heap.size w w' := by
  have hB : TabOK Tryd.prog tbCg ⟨w.heap.size, w⟩ := lTab_ok hs (fun p hp => by
      rcases List.mem_cons.1 hp with rfl | hp
      · exact spLin
      rcases List.mem_cons.1 hp with rfl | hp
      · exact spWth
      cases hp) (fun p hp => by cases hp)
  have hp := hL.p
  have hq := hF.p
  refine (law_body (vs := [.agg #[.int .i64 a, .int .i64 b, .int .i64 c, .int .i64 d, .int .i64 e, .int .i64 f], .int .i64 x, .int .i64 g, .int .i64 s]) (gs := [.agg [.lit (.int .i64 a), .lit (.int .i64 b), .lit (.int .i64 c), .lit (.int .i64 d), .lit (.int .i64 e), .lit (.int .i64 f)], .lit (.int .i64 x), .lit (.int .i64 g), .lit (.int .i64 s)]) (g := .tup [.lit (.int .i64 (climbF x g s)), .lit (.int .i64 0)]) hB Tryd.func21 (by kernel_rfl) ⟨⟨[_, _, _, _, _, _], rfl, rfl, rfl, rfl, rfl, rfl, rfl, trivial⟩, rfl, rfl, rfl, trivial⟩ rfl (Nat.le_of_ble_eq_true (by kernel_rfl)) (Nat.le_of_ble_eq_true (by kernel_rfl)) fun E hE => ?_).mono fun e w' ⟨v, he, hr, hb⟩ => ⟨by rw [he]; exact congrArg Ending.returned (tup_int hr), hb⟩
  refine Tri.path hB 200 [true, true, true, false, false] (of_skel (q := (CliIn x g s ∧ EqB false false ∧ EqB (!decide (e ≤ s ∧ s ≤ f)) false ∧ EqB (decide (c ≤ g ∧ g ≤ d)) true ∧ EqB (decide (a ≤ x ∧ x ≤ b)) true ∧ EqB (decide ((0 ≤ a ∧ a ≤ b ∧ b ≤ 10000) ∧ (0 ≤ c ∧ c ≤ d ∧ d ≤ 90) ∧ 0 ≤ e ∧ e ≤ f ∧ f ≤ 1000)) true ∧ True) ∧ (EqI (climbF x g s) (climbF x g s) ∧ EqI 0 0 ∧ True) ∧ True) (by kernel_rfl) ?_)
  ((repeat' apply And.intro) <;> first | assumption | exact trivial | exact ⟨rfl⟩ | (refine ⟨?_⟩; assumption) | (refine inR64 ?_ ?_ <;> omega) | (refine ⟨?_⟩; omega) | (refine ⟨?_⟩; rw [Bool.eq_iff_iff]; simp only [decide_eq_true_eq, decide_eq_false_iff_not, Bool.false_eq_true, Bool.true_eq_false, Bool.not_eq_true', Bool.and_eq_true, Bool.or_eq_true, Bool.not_eq_false', false_iff, iff_false, true_iff, iff_true]; omega))
noncomputable def natClimbT : AH → List AV → Option (AV × AH) := fun h args => match args with
  | [.agg [.lit (.int .i64 a), .lit (.int .i64 b), .lit (.int .i64 c), .lit (.int .i64 d), .lit (.int .i64 e), .lit (.int .i64 f)], .lit (.int .i64 x), .lit (.int .i64 g), .lit (.int .i64 s)] => some (.tup [.lit (.int .i64 (climbF x g s)), .lit (.int .i64 0)], h.also [LinOK a b c d e f, FlOK a b c d e f x g s])
  | _ => none
set_option maxRecDepth 100000 in
set_option maxHeartbeats 2000000 in
theorem natHeight_ok {w0 : World} (hs : SinAt w0) : NatOK Tryd.prog ⟨w0.heap.size, w0⟩ 17 natHeight := by
  refine ⟨enter_of Tryd.func17 (by kernel_rfl) (by kernel_rfl), fun h args v h' hx => ?_⟩
  unfold natHeight at hx
  split at hx <;> try (cases hx; done)
  rename_i a b c d e f
  cases hx
  refine ⟨fun hs => (also_all.1 hs).2, fun hsc θ w hR hb => ?_⟩
  obtain ⟨c1, _⟩ := (also_all.1 hsc).1
  have ea : ([.agg [.lit (.int .i64 a), .lit (.int .i64 b), .lit (.int .i64 c), .lit (.int .i64 d), .lit (.int .i64 e), .lit (.int .i64 f)]].map (conc θ)).toArray = #[.agg #[.int .i64 a, .int .i64 b, .int .i64 c, .int .i64 d, .int .i64 e, .int .i64 f]] := by simp [conc]
  rw [ea]
  refine callsIn_wide.2 ?_
  refine (atHg a b c d e f c1 (sinAt_of hs hR)).mono fun ee w' he => ?_
  obtain ⟨rfl, hbel⟩ := he
  exact ⟨θ, by simp [conc], by simp [bd], (Post.more hR hbel).also⟩
set_option maxRecDepth 100000 in
set_option maxHeartbeats 2000000 in
theorem natClimbT_ok {w0 : World} (hs : SinAt w0) : NatOK Tryd.prog ⟨w0.heap.size, w0⟩ 21 natClimbT := by
  refine ⟨enter_of Tryd.func21 (by kernel_rfl) (by kernel_rfl), fun h args v h' hx => ?_⟩
  unfold natClimbT at hx
  split at hx <;> try (cases hx; done)
  rename_i a b c d e f x g s
  cases hx
  refine ⟨fun hs => (also_all.1 hs).2, fun hsc θ w hR hb => ?_⟩
  obtain ⟨c1, c2, _⟩ := (also_all.1 hsc).1
  have ea : ([.agg [.lit (.int .i64 a), .lit (.int .i64 b), .lit (.int .i64 c), .lit (.int .i64 d), .lit (.int .i64 e), .lit (.int .i64 f)], .lit (.int .i64 x), .lit (.int .i64 g), .lit (.int .i64 s)].map (conc θ)).toArray = #[.agg #[.int .i64 a, .int .i64 b, .int .i64 c, .int .i64 d, .int .i64 e, .int .i64 f], .int .i64 x, .int .i64 g, .int .i64 s] := by simp [conc]
  rw [ea]
  refine callsIn_wide.2 ?_
  refine (atCg a b c d e f x g s c1 c2 (sinAt_of hs hR)).mono fun ee w' he => ?_
  obtain ⟨rfl, hbel⟩ := he
  exact ⟨θ, by simp [conc], by simp [bd], (Post.more hR hbel).also⟩
noncomputable def mTab (fns : List FuncId) (sps : List (FuncId × GSpec)) (eqs : List (TypeId × Nat)) : Tab := (mkTab tyAll Tryd.prog fns sps eqs).nats [(19, natTrue), (17, natHeight), (21, natClimbT)]
theorem mTab_ok {w : World} (hs : SinAt w) {fns : List FuncId} {sps : List (FuncId × GSpec)} {eqs : List (TypeId × Nat)} (hsp : ∀ p ∈ sps, FnSpec Tryd.prog p.1 p.2) (heq : ∀ p ∈ eqs, PairOK Tryd.prog p.1 p.2) : TabOK Tryd.prog (mTab fns sps eqs) ⟨w.heap.size, w⟩ := by
  refine nats_ok (mkTab_ok mixedP tyAll_ok hsp heq _) fun p hp => ?_
  rcases List.mem_cons.1 hp with rfl | hp
  · exact natTrue_ok (enter_of Tryd.func19 (by kernel_rfl) (by kernel_rfl)) fun θ h w' hR => GX.known_true w' (sinAt_of hs hR)
  rcases List.mem_cons.1 hp with rfl | hp
  · exact natHeight_ok hs
  · rw [List.mem_singleton.1 hp]
    exact natClimbT_ok hs

end Go.Proofs.YtknplcpjmpmblaaDoor.GY
