/- Kites: the tables of the laws. -/
import Derived.Test.YtknplcpjmpmblaaDoorKa
import Derived.Test.YtknplcpjmpmblaaDoorUw
import Derived.Test.YtknplcpjmpmblaaDoorZkc
set_option linter.unusedVariables false
set_option linter.unusedSimpArgs false
namespace Go.Proofs.YtknplcpjmpmblaaDoor.GY
open Go Go.RowKit Go.Proofs
structure SinIn (a : Int) : Prop where
  p : 0 ≤ a ∧ a ≤ 90
noncomputable def natSine : AH → List AV → Option (AV × AH) := fun h args => match args with
  | [.lit (.int .i64 a)] => some (.lit (.int .i64 (sinF a)), h.also [SinIn a])
  | _ => none
/-- Nothing was written into the table of sines. -/
theorem sinAt_of {w0 : World} (hs : SinAt w0) {θ : Th} {h : AH} {w : World} (hR : R ⟨w0.heap.size, w0⟩ θ h w) : SinAt w := by
  have he := hR.b0 _ hs.1
  refine ⟨Nat.lt_of_lt_of_le hs.1 hR.size, fun i hi => ?_⟩
  rw [World.cell?_of_block (w := w0) he]
  exact hs.2 i hi
theorem natSine_ok {w0 : World} (hs : SinAt w0) : NatOK Tryd.prog ⟨w0.heap.size, w0⟩ 104 natSine := by
  refine ⟨enter_of Tryd.func104 (by kernel_rfl) (by kernel_rfl), fun h args v h' hx => ?_⟩
  unfold natSine at hx
  split at hx <;> try (cases hx; done)
  rename_i a
  cases hx
  refine ⟨fun hs => (also_all.1 hs).2, fun hsc θ w hR hb => ?_⟩
  obtain ⟨⟨⟨h0, h1⟩⟩, _⟩ := (also_all.1 hsc).1
  refine callsIn_wide.2 ?_
  simp only [List.map_cons, List.map_nil, conc_lit]
  refine (sine_any a w (sinAt_of hs hR) h0 h1).mono fun e w' he => ?_
  obtain ⟨rfl, rfl⟩ := he
  exact ⟨θ, by simp [conc], by simp [bd], (Post.refl hR).also⟩
noncomputable def kTab (fns : List FuncId) (sps : List (FuncId × GSpec)) (eqs : List (TypeId × Nat)) : Tab := (mkTab tyAll Tryd.prog fns sps eqs).nats [(19, natTrue), (104, natSine)]
theorem kTab_ok {w : World} (hs : SinAt w) {fns : List FuncId} {sps : List (FuncId × GSpec)} {eqs : List (TypeId × Nat)} (hsp : ∀ p ∈ sps, FnSpec Tryd.prog p.1 p.2) (heq : ∀ p ∈ eqs, PairOK Tryd.prog p.1 p.2) : TabOK Tryd.prog (kTab fns sps eqs) ⟨w.heap.size, w⟩ := by
  refine nats_ok (mkTab_ok mixedP tyAll_ok hsp heq _) fun p hp => ?_
  rcases List.mem_cons.1 hp with rfl | hp
  · exact natTrue_ok (enter_of Tryd.func19 (by kernel_rfl) (by kernel_rfl)) fun θ h w' hR => GX.known_true w' (sinAt_of hs hR)
  · rw [List.mem_singleton.1 hp]
    exact natSine_ok hs
theorem span_eq : PairOK Tryd.prog 23 2 := by
  refine ⟨by kernel_rfl, fun al bl ha hb w => ?_⟩
  match al, ha, bl, hb with
  | [a, b], _, [c, d], _ =>
    have := GX.equal_pair (P := Tryd.prog) (kt := 23) Tryd.underlying23 (by kernel_rfl) (by decide) (by decide) rfl rfl (by kernel_rfl) (by kernel_rfl) a b c d w
    show (Op.equal _ (.agg #[.int .i64 a, .int .i64 b]) (.agg #[.int .i64 c, .int .i64 d])).run _ w = _
    rw [this]
    by_cases h1 : a = c <;> by_cases h2 : b = d <;> simp [isEq, h1, h2]
end Go.Proofs.YtknplcpjmpmblaaDoor.GY
