/- Kites: heights of kites in truth. -/
import Derived.Test.YtknplcpjmpmblaaDoorKba
import Derived.Test.YtknplcpjmpmblaaDoorSic
set_option linter.unusedVariables false
set_option linter.unusedSimpArgs false
namespace Go.Proofs.YtknplcpjmpmblaaDoor.GY
open Go Go.RowKit Go.Proofs
structure CliIn (a g s : Int) : Prop where
  p : 0 ≤ a ∧ a ≤ 10000 ∧ 0 ≤ g ∧ g ≤ 90 ∧ 0 ≤ s ∧ s ≤ 1000

theorem row_sin {i : Int} (h0 : 0 ≤ i) (h1 : i < 19) : rowOf [0, 872, 1736, 2588, 3420, 4226, 5000, 5736, 6428, 7071, 7660, 8192, 8660, 9063, 9397, 9659, 9848, 9962, 10000] 1 i.toNat 0 = sinT i := by
  have key : ∀ n : Nat, n < 19 → rowOf [0, 872, 1736, 2588, 3420, 4226, 5000, 5736, 6428, 7071, 7660, 8192, 8660, 9063, 9397, 9659, 9848, 9962, 10000] 1 n 0 = sinT (n : Int) := by decide +kernel
  have := key i.toNat (by omega)
  rwa [Int.toNat_of_nonneg h0] at this
theorem sinT_bounds {i : Int} (h0 : 0 ≤ i) (h1 : i < 19) : 0 ≤ sinT i ∧ sinT i ≤ 10000 := by
  have key : ∀ n : Nat, n < 19 → 0 ≤ sinT (n : Int) ∧ sinT (n : Int) ≤ 10000 := by decide +kernel
  have := key i.toNat (by omega)
  rwa [Int.toNat_of_nonneg h0] at this
theorem sinT_mono {i : Int} (h0 : 0 ≤ i) (h1 : i < 18) : sinT i ≤ sinT (i + 1) := by
  have key : ∀ n : Nat, n < 18 → sinT (n : Int) ≤ sinT ((n : Int) + 1) := by decide +kernel
  have := key i.toNat (by omega)
  rwa [Int.toNat_of_nonneg h0] at this
theorem tdivN {n : Int} (k : Nat) (h : 0 ≤ n) : n.tdiv (k : Int) = n / (k : Int) := Int.tdiv_eq_ediv_of_nonneg h
theorem sine_parts {g : Int} (h : SinIn g) (hr : ¬ g % 5 = 0) : (0 ≤ (sinT (g / 5 + 1) - sinT (g / 5)) * (g % 5) ∧ (sinT (g / 5 + 1) - sinT (g / 5)) * (g % 5) ≤ 50000) := by
  obtain ⟨h0, h1⟩ := h.p
  obtain ⟨a0, a1⟩ := sinT_bounds (i := g / 5) (by omega) (by omega)
  obtain ⟨b0, b1⟩ := sinT_bounds (i := g / 5 + 1) (by omega) (by omega)
  have m := sinT_mono (i := g / 5) (by omega) (by omega)
  exact ⟨Int.mul_nonneg (by omega) (by omega), Int.le_trans (Int.mul_le_mul (show sinT (g / 5 + 1) - sinT (g / 5) ≤ 10000 by omega) (show g % 5 ≤ 5 by omega) (by omega) (by omega)) (by omega)⟩

noncomputable def FRsn : GSpec := fun gs => match gs with
  | [.lit (.int .i64 g)] => some (.lit (.int .i64 (sinF g)), [SinIn g])
  | _ => none
noncomputable def tbRsn : Tab := mkTab tyAll Tryd.prog [] [] []
theorem tbRsn_ok : ∀ base, TabOK Tryd.prog tbRsn base :=
  mkTab_ok mixedP tyAll_ok (fun p hp => by cases hp) (fun p hp => by cases hp)
set_option maxRecDepth 100000 in
theorem spRsn : FnSpec Tryd.prog 75 FRsn := by
  refine spec_body tbRsn_ok Tryd.func75 (by kernel_rfl) (by kernel_rfl) fun gs g ps hF hps => ?_
  unfold FRsn at hF
  split at hF <;> try (cases hF; done)
  rename_i g
  cases hF
  obtain ⟨h0, _⟩ := hps
  refine ⟨_, _, rfl, ⟨Nat.le_of_ble_eq_true (by kernel_rfl), Nat.le_of_ble_eq_true (by kernel_rfl)⟩, fun base E hE => ?_⟩
  cases ht0 : (decide (g.tmod 5 = 0))
  · have hp0 := ht0
    try simp only [decide_eq_true_eq, decide_eq_false_iff_not, Bool.not_eq_true', Bool.not_eq_false', Bool.not_eq_eq_eq_not, Bool.not_true, Bool.not_false] at hp0
    first | (exfalso; omega) | skip
    all_goals
      refine Tri.run tbRsn_ok [false] (of_skel (q := (InR IntKind.i64 (rowOf [0, 872, 1736, 2588, 3420, 4226, 5000, 5736, 6428, 7071, 7660, 8192, 8660, 9063, 9397, 9659, 9848, 9962, 10000] 1 (g.tdiv 5).toNat 0 + ((rowOf [0, 872, 1736, 2588, 3420, 4226, 5000, 5736, 6428, 7071, 7660, 8192, 8660, 9063, 9397, 9659, 9848, 9962, 10000] 1 (g.tdiv 5 + 1).toNat 0 - rowOf [0, 872, 1736, 2588, 3420, 4226, 5000, 5736, 6428, 7071, 7660, 8192, 8660, 9063, 9397, 9659, 9848, 9962, 10000] 1 (g.tdiv 5).toNat 0) * g.tmod 5).tdiv 5) ∧ NeZ 5 ∧ InR IntKind.i64 (((rowOf [0, 872, 1736, 2588, 3420, 4226, 5000, 5736, 6428, 7071, 7660, 8192, 8660, 9063, 9397, 9659, 9848, 9962, 10000] 1 (g.tdiv 5 + 1).toNat 0 - rowOf [0, 872, 1736, 2588, 3420, 4226, 5000, 5736, 6428, 7071, 7660, 8192, 8660, 9063, 9397, 9659, 9848, 9962, 10000] 1 (g.tdiv 5).toNat 0) * g.tmod 5).tdiv 5) ∧ InR IntKind.i64 ((rowOf [0, 872, 1736, 2588, 3420, 4226, 5000, 5736, 6428, 7071, 7660, 8192, 8660, 9063, 9397, 9659, 9848, 9962, 10000] 1 (g.tdiv 5 + 1).toNat 0 - rowOf [0, 872, 1736, 2588, 3420, 4226, 5000, 5736, 6428, 7071, 7660, 8192, 8660, 9063, 9397, 9659, 9848, 9962, 10000] 1 (g.tdiv 5).toNat 0) * g.tmod 5) ∧ InR IntKind.i64 (rowOf [0, 872, 1736, 2588, 3420, 4226, 5000, 5736, 6428, 7071, 7660, 8192, 8660, 9063, 9397, 9659, 9848, 9962, 10000] 1 (g.tdiv 5 + 1).toNat 0 - rowOf [0, 872, 1736, 2588, 3420, 4226, 5000, 5736, 6428, 7071, 7660, 8192, 8660, 9063, 9397, 9659, 9848, 9962, 10000] 1 (g.tdiv 5).toNat 0) ∧ LtN (g.tdiv 5).toNat 19 ∧ IxIn (g.tdiv 5) 19 ∧ LtN (g.tdiv 5 + 1).toNat 19 ∧ IxIn (g.tdiv 5 + 1) 19 ∧ InR IntKind.i64 (g.tdiv 5 + 1) ∧ LtN (g.tdiv 5).toNat 19 ∧ IxIn (g.tdiv 5) 19 ∧ EqB (decide (g.tmod 5 = 0)) false ∧ NeZ 5 ∧ NeZ 5 ∧ InR IntKind.i64 (g.tdiv 5) ∧ True) ∧ (EqI (rowOf [0, 872, 1736, 2588, 3420, 4226, 5000, 5736, 6428, 7071, 7660, 8192, 8660, 9063, 9397, 9659, 9848, 9962, 10000] 1 (g.tdiv 5).toNat 0 + ((rowOf [0, 872, 1736, 2588, 3420, 4226, 5000, 5736, 6428, 7071, 7660, 8192, 8660, 9063, 9397, 9659, 9848, 9962, 10000] 1 (g.tdiv 5 + 1).toNat 0 - rowOf [0, 872, 1736, 2588, 3420, 4226, 5000, 5736, 6428, 7071, 7660, 8192, 8660, 9063, 9397, 9659, 9848, 9962, 10000] 1 (g.tdiv 5).toNat 0) * g.tmod 5).tdiv 5) (sinF g) ∧ True) ∧ True) (by kernel_rfl) ?_)
      obtain ⟨g0, g1⟩ := h0.p
    have e1 : g.tdiv 5 = g / 5 := Int.tdiv_eq_ediv_of_nonneg g0
    have e2 : g.tmod 5 = g % 5 := Int.tmod_eq_emod_of_nonneg g0
    have r0 := row_sin (i := g / 5) (by omega) (by omega)
    have b0 := sinT_bounds (i := g / 5) (by omega) (by omega)
    rw [e2] at ht0 hp0
    have r1 := row_sin (i := g / 5 + 1) (by omega) (by omega)
    have b1 := sinT_bounds (i := g / 5 + 1) (by omega) (by omega)
    have hm := sine_parts h0 hp0
    have e3 := Int.tdiv_eq_ediv_of_nonneg (b := 5) hm.1
    simp only [e1, e2, r0, r1, e3]
    have hv : sinT (g / 5) + (sinT (g / 5 + 1) - sinT (g / 5)) * (g % 5) / 5 = sinF g := by unfold sinF; rw [if_neg hp0]
    ((repeat' apply And.intro) <;> first | assumption | exact trivial | exact ⟨rfl⟩ | (refine ⟨?_⟩; assumption) | (refine inR64 ?_ ?_ <;> omega) | (refine ⟨?_⟩; omega) | (refine ⟨?_⟩; rw [Bool.eq_iff_iff]; simp only [decide_eq_true_eq, decide_eq_false_iff_not, Bool.false_eq_true, Bool.true_eq_false, Bool.not_eq_true', Bool.and_eq_true, Bool.or_eq_true, Bool.not_eq_false', false_iff, iff_false, true_iff, iff_true]; omega) | (refine ⟨?_⟩; simp_all; done) | (refine ⟨?_⟩; simp; omega))
  · have hp0 := ht0
    try simp only [decide_eq_true_eq, decide_eq_false_iff_not, Bool.not_eq_true', Bool.not_eq_false', Bool.not_eq_eq_eq_not, Bool.not_true, Bool.not_false] at hp0
    first | (exfalso; omega) | skip
    all_goals
      refine Tri.run tbRsn_ok [true] (of_skel (q := (LtN (g.tdiv 5).toNat 19 ∧ IxIn (g.tdiv 5) 19 ∧ EqB (decide (g.tmod 5 = 0)) true ∧ NeZ 5 ∧ NeZ 5 ∧ InR IntKind.i64 (g.tdiv 5) ∧ True) ∧ (EqI (rowOf [0, 872, 1736, 2588, 3420, 4226, 5000, 5736, 6428, 7071, 7660, 8192, 8660, 9063, 9397, 9659, 9848, 9962, 10000] 1 (g.tdiv 5).toNat 0) (sinF g) ∧ True) ∧ True) (by kernel_rfl) ?_)
      obtain ⟨g0, g1⟩ := h0.p
    have e1 : g.tdiv 5 = g / 5 := Int.tdiv_eq_ediv_of_nonneg g0
    have e2 : g.tmod 5 = g % 5 := Int.tmod_eq_emod_of_nonneg g0
    have r0 := row_sin (i := g / 5) (by omega) (by omega)
    have b0 := sinT_bounds (i := g / 5) (by omega) (by omega)
    rw [e2] at ht0 hp0
    simp only [e1, e2, r0]
    have hv : sinT (g / 5) = sinF g := by unfold sinF; rw [if_pos hp0]
    ((repeat' apply And.intro) <;> first | assumption | exact trivial | exact ⟨rfl⟩ | (refine ⟨?_⟩; assumption) | (refine inR64 ?_ ?_ <;> omega) | (refine ⟨?_⟩; omega) | (refine ⟨?_⟩; rw [Bool.eq_iff_iff]; simp only [decide_eq_true_eq, decide_eq_false_iff_not, Bool.false_eq_true, Bool.true_eq_false, Bool.not_eq_true', Bool.and_eq_true, Bool.or_eq_true, Bool.not_eq_false', false_iff, iff_false, true_iff, iff_true]; omega) | (refine ⟨?_⟩; simp_all; done) | (refine ⟨?_⟩; simp; omega))

noncomputable def FRcl : GSpec := fun gs => match gs with
  | [.lit (.int .i64 a), .lit (.int .i64 g), .lit (.int .i64 s)] => some (.lit (.int .i64 (climbF a g s)), [CliIn a g s])
  | _ => none
noncomputable def tbRcl : Tab := mkTab tyAll Tryd.prog [] [(75, FRsn)] []
theorem tbRcl_ok : ∀ base, TabOK Tryd.prog tbRcl base :=
  mkTab_ok mixedP tyAll_ok (fun p hp => by
    rcases List.mem_cons.1 hp with rfl | hp
    · exact spRsn
    cases hp) (fun p hp => by cases hp)
set_option maxRecDepth 100000 in
theorem spRcl : FnSpec Tryd.prog 23 FRcl := by
  refine spec_body tbRcl_ok Tryd.func23 (by kernel_rfl) (by kernel_rfl) fun gs g ps hF hps => ?_
  unfold FRcl at hF
  split at hF <;> try (cases hF; done)
  rename_i a g s
  cases hF
  obtain ⟨h0, _⟩ := hps
  refine ⟨_, _, rfl, ⟨Nat.le_of_ble_eq_true (by kernel_rfl), Nat.le_of_ble_eq_true (by kernel_rfl)⟩, fun base E hE => ?_⟩
  refine Tri.run tbRcl_ok [] (of_skel (q := (NeZ 10000 ∧ InR IntKind.i64 (((a * (1000 - s)).tdiv 1000 * sinF g).tdiv 10000) ∧ InR IntKind.i64 ((a * (1000 - s)).tdiv 1000 * sinF g) ∧ SinIn g ∧ NeZ 1000 ∧ InR IntKind.i64 ((a * (1000 - s)).tdiv 1000) ∧ InR IntKind.i64 (a * (1000 - s)) ∧ InR IntKind.i64 (1000 - s) ∧ True) ∧ (EqI (((a * (1000 - s)).tdiv 1000 * sinF g).tdiv 10000) (climbF a g s) ∧ True) ∧ True) (by kernel_rfl) ?_)
  obtain ⟨a0, a1, g0, g1, s0, s1⟩ := h0.p
  obtain ⟨⟨m0, m1⟩, ⟨q0, q1⟩, p0, p1⟩ := climb_parts a0 a1 g0 g1 s0 s1
  have e1 := Int.tdiv_eq_ediv_of_nonneg (b := 1000) m0
  simp only [e1]
  have e2 := Int.tdiv_eq_ediv_of_nonneg (b := 10000) p0
  simp only [e2]
  have hv : a * (1000 - s) / 1000 * sinF g / 10000 = climbF a g s := rfl
  ((repeat' apply And.intro) <;> first | exact trivial | exact ⟨rfl⟩ | (refine ⟨?_⟩; assumption) | (refine ⟨?_⟩; exact ⟨g0, g1⟩) | (refine inR64 ?_ ?_ <;> omega) | (refine ⟨?_⟩; omega) | (refine ⟨?_⟩; decide))

noncomputable def FRhe : GSpec := fun gs => match gs with
  | [.agg [.lit (.int .i64 a), .lit (.int .i64 b), .lit (.int .i64 c), .lit (.int .i64 d), .lit (.int .i64 e), .lit (.int .i64 f)]] => some (.agg [.lit (.int .i64 (climbF a c f)), .lit (.int .i64 (climbF b d e))], [CliIn a c f, CliIn b d e])
  | _ => none
noncomputable def tbRhe : Tab := mkTab tyAll Tryd.prog [] [(23, FRcl)] []
theorem tbRhe_ok : ∀ base, TabOK Tryd.prog tbRhe base :=
  mkTab_ok mixedP tyAll_ok (fun p hp => by
    rcases List.mem_cons.1 hp with rfl | hp
    · exact spRcl
    cases hp) (fun p hp => by cases hp)
set_option maxRecDepth 100000 in
theorem spRhe : FnSpec Tryd.prog 20 FRhe := by
  refine spec_body tbRhe_ok Tryd.func20 (by kernel_rfl) (by kernel_rfl) fun gs g ps hF hps => ?_
  unfold FRhe at hF
  split at hF <;> try (cases hF; done)
  rename_i a b c d e f
  cases hF
  obtain ⟨h0, h1, _⟩ := hps
  refine ⟨_, _, rfl, ⟨Nat.le_of_ble_eq_true (by kernel_rfl), Nat.le_of_ble_eq_true (by kernel_rfl)⟩, fun base E hE => ?_⟩
  refine Tri.run tbRhe_ok [] (of_skel (q := (CliIn b d e ∧ EqC (some [AV.lit (Value.int IntKind.i64 a)]) (some [AV.lit (Value.int IntKind.i64 a)]) ∧ EqC (some [AV.lit (Value.int IntKind.i64 c)]) (some [AV.lit (Value.int IntKind.i64 c)]) ∧ EqC (some [AV.lit (Value.int IntKind.i64 f)]) (some [AV.lit (Value.int IntKind.i64 f)]) ∧ EqC (some [AV.lit (Value.int IntKind.i64 b)]) (some [AV.lit (Value.int IntKind.i64 b)]) ∧ EqC (some [AV.lit (Value.int IntKind.i64 d)]) (some [AV.lit (Value.int IntKind.i64 d)]) ∧ EqC (some [AV.lit (Value.int IntKind.i64 e)]) (some [AV.lit (Value.int IntKind.i64 e)]) ∧ CliIn a c f ∧ True) ∧ (EqI (climbF a c f) (climbF a c f) ∧ EqI (climbF b d e) (climbF b d e) ∧ True) ∧ True) (by kernel_rfl) ?_)
  ((repeat' apply And.intro) <;> first | assumption | exact trivial | exact ⟨rfl⟩ | (refine ⟨?_⟩; assumption) | (refine inR64 ?_ ?_ <;> omega) | (refine ⟨?_⟩; omega) | (refine ⟨?_⟩; rw [Bool.eq_iff_iff]; simp only [decide_eq_true_eq, decide_eq_false_iff_not, Bool.false_eq_true, Bool.true_eq_false, Bool.not_eq_true', Bool.and_eq_true, Bool.or_eq_true, Bool.not_eq_false', false_iff, iff_false, true_iff, iff_true]; omega) | (refine ⟨?_⟩; simp_all; done) | (refine ⟨?_⟩; simp; omega))

noncomputable def natClimb : AH → List AV → Option (AV × AH) := fun h args => match args with
  | [.lit (.int .i64 a), .lit (.int .i64 g), .lit (.int .i64 s)] => some (.lit (.int .i64 (climbF a g s)), h.also [CliIn a g s])
  | _ => none
theorem natClimb_ok {w0 : World} (hs : SinAt w0) : NatOK Tryd.prog ⟨w0.heap.size, w0⟩ 73 natClimb := by
  refine ⟨enter_of Tryd.func73 (by kernel_rfl) (by kernel_rfl), fun h args v h' hx => ?_⟩
  unfold natClimb at hx
  split at hx <;> try (cases hx; done)
  rename_i a g s
  cases hx
  refine ⟨fun hs => (also_all.1 hs).2, fun hsc θ w hR hb => ?_⟩
  obtain ⟨⟨⟨h0, h1, h2, h3, h4, h5⟩⟩, _⟩ := (also_all.1 hsc).1
  refine callsIn_wide.2 ?_
  simp only [List.map_cons, List.map_nil, conc_lit]
  refine (climb_any a g s w (sinAt_of hs hR) h0 h1 h2 h3 h4 h5).mono fun e w' he => ?_
  obtain ⟨rfl, rfl⟩ := he
  exact ⟨θ, by simp [conc], by simp [bd], (Post.refl hR).also⟩
noncomputable def lTab (fns : List FuncId) (sps : List (FuncId × GSpec)) (eqs : List (TypeId × Nat)) : Tab := (mkTab tyAll Tryd.prog fns sps eqs).nats [(19, natTrue), (73, natClimb)]
theorem lTab_ok {w : World} (hs : SinAt w) {fns : List FuncId} {sps : List (FuncId × GSpec)} {eqs : List (TypeId × Nat)} (hsp : ∀ p ∈ sps, FnSpec Tryd.prog p.1 p.2) (heq : ∀ p ∈ eqs, PairOK Tryd.prog p.1 p.2) : TabOK Tryd.prog (lTab fns sps eqs) ⟨w.heap.size, w⟩ := by
  refine nats_ok (mkTab_ok mixedP tyAll_ok hsp heq _) fun p hp => ?_
  rcases List.mem_cons.1 hp with rfl | hp
  · exact natTrue_ok (enter_of Tryd.func19 (by kernel_rfl) (by kernel_rfl)) fun θ h w' hR => GX.known_true w' (sinAt_of hs hR)
  · rw [List.mem_singleton.1 hp]
    exact natClimb_ok hs

end Go.Proofs.YtknplcpjmpmblaaDoor.GY
