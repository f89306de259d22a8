/- The statement GlassMore of the seat, proved: for every input the law returns true, and each argument reads afterwards as it read before. No condition. -/
import Derived.Test.YtffgcphmakfikaaDoorMok
set_option linter.unusedVariables false
set_option linter.unusedSimpArgs false
namespace Go.Proofs.YtffgcphmakfikaaDoor
open Go Go.ChangeShapes Go.WideShapes Go.ChangeAt Go.RowKit

set_option maxHeartbeats 1000000 in
set_option maxRecDepth 100000 in
theorem glassMore_lifted (os : Os) (started : os.Started) (H : Type) (enc : TypeId × Value → H) :
    ReturnsInHanded {} Tryd.checked os 3 .any (fun w args => (Rows.glassMoreSpec.pre enc Tryd.prog Tryd.f3 [] false w args ∧ laidMetH Tryd.prog Rows.glassMoreRow.laid w) ∧ sizedMet enc Tryd.prog Tryd.f3 (OpenSpec.ofChange Rows.glassMoreSpec) false w args)
      (Rows.glassMoreSpec.post enc Tryd.prog Tryd.f3 false true false false) := by
  refine returnsInHanded_of_change_and (C := Tryd.checked) (X := fun w _ => laidMetH Tryd.prog Rows.glassMoreRow.laid w) (fun _ _ _ hh h => h.of_heap hh) Tryd.own started (by kernel_rfl) Tryd.func3
    (ChangeSpec.witness_shaped (enc := enc) (C := Tryd.checked) (os := os) (X := fun w _ => laidMetH Tryd.prog Rows.glassMoreRow.laid w) false (World.doorLaid Tryd.prog 400 os) #[.agg #[.int .i64 0, .int .i64 0, .int .i64 0, .int .i64 0, .int .i64 0, .int .i64 0, .int .i64 0, .int .i64 0, .slice none 0 0], .agg #[.int .i64 0, .int .i64 0, .int .i64 0, .int .i64 0, .int .i64 0, .int .i64 0, .int .i64 0, .int .i64 0, .int .i64 0, .int .i64 0], .agg #[.int .i64 0, .int .i64 0, .int .i64 0], .int .i64 0, .int .i64 0, .int .i64 0] 8 rfl (World.shaped_of_RefB (by kernel_rfl) (by kernel_rfl)) (by kernel_rfl) (by kernel_rfl) (by kernel_rfl) (door_met os _)) ?_
  intro W base args ds gs before hval0 hW _ hwt hL _
  have hval : ∀ (j : Nat) t v, Tryd.f3.params[j]? = some t → args[j]? = some v → Value.okWide Tryd.prog W .any base t v := hval0
  have hW' := hW
  obtain ⟨p, q, hA0, hV, rfl, hfz, hnd⟩ := hW
  have hA : DataW.TrodAll enc Tryd.prog W 0 (fun _ => true) true Tryd.f3.params.toList args.toList ds p := hA0
  rw [Tryd.params3] at hA hval
  have hds : Rows.glassMoreSpec.fn H ds = { results := [.lit (.bool true)], args := ds } := by
    obtain ⟨v0, l0, d0, m0, p0, q0, e0, rfl, rfl, h0, r0⟩ := trodAll_cons hA; obtain ⟨v1, l1, d1, m1, p1, q1, e1, rfl, rfl, h1, r1⟩ := trodAll_cons r0; obtain ⟨v2, l2, d2, m2, p2, q2, e2, rfl, rfl, h2, r2⟩ := trodAll_cons r1; obtain ⟨v3, l3, d3, m3, p3, q3, e3, rfl, rfl, h3, r3⟩ := trodAll_cons r2; obtain ⟨v4, l4, d4, m4, p4, q4, e4, rfl, rfl, h4, r4⟩ := trodAll_cons r3; obtain ⟨v5, l5, d5, m5, p5, q5, e5, rfl, rfl, h5, r5⟩ := trodAll_cons r4; obtain ⟨e6, rfl, rfl⟩ := trodAll_nil r5; subst e6 e5 e4 e3 e2 e1; have e : args = #[v0, v1, v2, v3, v4, v5] := (by cases args; simp_all); subst e
    rfl
  obtain ⟨hH, hT⟩ := of_laid hL
  have fin : ∀ W', Below W.heap.size W W' → Rows.glassMoreSpec.post enc Tryd.prog Tryd.f3 false true false false W args (.bool true) W' := fun W' hb =>
    law_post Tryd.laidOut rfl (by rw [Tryd.params3]; intro t ht; have hall : ([26, 29, 31, 3, 3, 3].all fun t => Tryd.prog.readableRec t && decide (t < Tryd.prog.types.size)) = true := (by kernel_rfl); have := List.all_eq_true.1 hall t (by simpa using ht); simpa using this) (by kernel_rfl) Tryd.underlying4 hds hW' hb
  obtain ⟨v0, l0, d0, m0, p0, q0, e0, rfl, rfl, h0, r0⟩ := trodAll_cons hA; obtain ⟨v1, l1, d1, m1, p1, q1, e1, rfl, rfl, h1, r1⟩ := trodAll_cons r0; obtain ⟨v2, l2, d2, m2, p2, q2, e2, rfl, rfl, h2, r2⟩ := trodAll_cons r1; obtain ⟨v3, l3, d3, m3, p3, q3, e3, rfl, rfl, h3, r3⟩ := trodAll_cons r2; obtain ⟨v4, l4, d4, m4, p4, q4, e4, rfl, rfl, h4, r4⟩ := trodAll_cons r3; obtain ⟨v5, l5, d5, m5, p5, q5, e5, rfl, rfl, h5, r5⟩ := trodAll_cons r4; obtain ⟨e6, rfl, rfl⟩ := trodAll_nil r5; subst e6 e5 e4 e3 e2 e1; have e : args = #[v0, v1, v2, v3, v4, v5] := (by cases args; simp_all); subst e
  obtain ⟨s, v', cs, rfl, hc⟩ := open_station (hval 0 _ _ rfl rfl) h0
  obtain ⟨r, rfl⟩ := open_reading (hval 1 _ _ rfl rfl) h1
  obtain ⟨ck, rfl⟩ := open_check (hval 2 _ _ rfl rfl) h2
  obtain ⟨le, rfl, _, _, _⟩ := open_int Tryd.underlying3 (hval 3 _ _ rfl rfl) h3
  obtain ⟨lo, rfl, _, _, _⟩ := open_int Tryd.underlying3 (hval 4 _ _ rfl rfl) h4
  obtain ⟨hi, rfl, _, _, _⟩ := open_int Tryd.underlying3 (hval 5 _ _ rfl rfl) h5
  exact (lawGlassMore hc hH hT).mono fun e W' ⟨he, hb⟩ => ⟨_, he, fin W' hb⟩

theorem glassMore_holds : Rows.GlassMoreSaid :=
  OpenClaim.holds_of_wide 3 Tryd.f3 rfl rfl rfl rfl rfl rfl rfl ⟨rfl, rfl, rfl, rfl, rfl⟩ rfl rfl rfl rfl rfl (by kernel_rfl) Tryd.func3 (by kernel_rfl)
    (of_decide_eq_true (by kernel_rfl)) (by unfold Func.isWrapper; first | (rw [if_pos (by decide +kernel)]; kernel_rfl) | (rw [if_neg (by decide +kernel)]; exact ⟨rfl, rfl⟩))
    (fun os started H enc _ => glassMore_lifted os started H enc)

theorem glassMore_card : Rows.GlassMoreCardSaid :=
  Claim7.holds_tied_plain_at .later [] [.data, .data, .data, .data] true _ false
    glassMore_holds (fun _ h => by cases h) (by kernel_rfl) (fun _ h => by cases h) glassMore_row_tie rfl ⟨rfl, rfl⟩ (by kernel_rfl) rfl
    (fun f fn hf hfn => by
      obtain rfl : f = 3 := Option.some.inj ((show Tryd.prog.funcNamed "isobar/isobarlaw01.GlassMore" = some 3 by kernel_rfl).symm.trans hf) |>.symm
      obtain rfl : fn = Tryd.f3 := (Option.some.inj (Tryd.func3.symm.trans hfn)).symm
      exact ⟨by kernel_rfl, fun j t ht => by
        rw [Tryd.params3] at ht
        have hm : t ∈ [26, 29, 31, 3, 3, 3] := by simpa using Array.mem_of_getElem? ht
        have hall : ([26, 29, 31, 3, 3, 3].all fun u => !Tryd.prog.wantsStandIn u) = true := by kernel_rfl
        exact (show Tryd.prog.wantsStandIn t = false by simpa using List.all_eq_true.1 hall t hm)⟩)
    (by kernel_rfl)
#print axioms glassMore_card
end Go.Proofs.YtffgcphmakfikaaDoor
