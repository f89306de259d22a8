/- The statement ChartMore of the seat, proved: for every input the law returns true, and each argument reads afterwards as it read before. No condition. -/
import Derived.Test.YtaolfdgkflfekaaGreatDoorKst
import Derived.Test.YtaolfdgkflfekaaGreatDoorLkm
set_option linter.unusedVariables false
set_option linter.unusedSimpArgs false
namespace Go.Proofs.YtaolfdgkflfekaaGreatDoor
open Go Go.ChangeShapes Go.WideShapes Go.ChangeAt Go.RowKit

set_option maxHeartbeats 1000000 in
set_option maxRecDepth 100000 in
theorem chartMore_lifted (os : Os) (started : os.Started) (H : Type) (enc : TypeId × Value → H) :
    ReturnsInHanded {} Tryz.checked os 9 .any (fun w args => (Rows.chartMoreSpec.pre enc Tryz.prog Tryz.f9 [] false w args ∧ laidMetH Tryz.prog Rows.chartMoreRow.laid w) ∧ sizedMet enc Tryz.prog Tryz.f9 (OpenSpec.ofChange Rows.chartMoreSpec) false w args)
      (Rows.chartMoreSpec.post enc Tryz.prog Tryz.f9 false true false false) := by
  refine wrap_shaped (C := Tryz.checked) (X := fun w _ => laidMetH Tryz.prog Rows.chartMoreRow.laid w) (fun _ _ _ hh h => h.of_heap hh) Tryz.own started (by kernel_rfl) Tryz.func9
    (ChangeSpec.witness_shaped (enc := enc) (C := Tryz.checked) (os := os) (X := fun w _ => laidMetH Tryz.prog Rows.chartMoreRow.laid w) false (World.laidAll Tryz.prog os Rows.chartMoreRow.laid) #[.agg #[.int .i64 0, .int .i64 0, .int .i64 0, .slice none 0 0], .agg #[.int .i64 0, .int .i64 0, .int .i64 0], .int .i64 0, .int .i64 0, .int .i64 0] 8 (World.laidAll_os _ _ _) (World.shaped_of_ZipB (by kernel_rfl) (by kernel_rfl)) (by kernel_rfl) (by kernel_rfl) (by kernel_rfl) (door_met os _)) ?_
  intro W base args ds gs before hval0 hW hL hSO
  have hval : ∀ (j : Nat) t v, Tryz.f9.params[j]? = some t → args[j]? = some v → Value.okWide Tryz.prog W .any base t v := hval0
  have hW' := hW
  obtain ⟨p, q, hA0, hV, rfl, hfz, hnd⟩ := hW
  have hA : DataW.TrodAll enc Tryz.prog W 0 (fun _ => true) true Tryz.f9.params.toList args.toList ds p := hA0
  rw [Tryz.params9] at hA hval
  have hds : Rows.chartMoreSpec.fn H ds = { results := [.lit (.bool true)], args := ds } := by
    obtain ⟨v0, l0, d0, m0, p0, q0, e0, rfl, rfl, h0, r0⟩ := trodAll_cons hA; obtain ⟨v1, l1, d1, m1, p1, q1, e1, rfl, rfl, h1, r1⟩ := trodAll_cons r0; obtain ⟨v2, l2, d2, m2, p2, q2, e2, rfl, rfl, h2, r2⟩ := trodAll_cons r1; obtain ⟨v3, l3, d3, m3, p3, q3, e3, rfl, rfl, h3, r3⟩ := trodAll_cons r2; obtain ⟨v4, l4, d4, m4, p4, q4, e4, rfl, rfl, h4, r4⟩ := trodAll_cons r3; obtain ⟨e5, rfl, rfl⟩ := trodAll_nil r4; subst e5 e4 e3 e2 e1; have e : args = #[v0, v1, v2, v3, v4] := (by cases args; simp_all); subst e
    rfl
  have hT := of_laid hL
  have fin : ∀ W', Below W.heap.size W W' → Rows.chartMoreSpec.post enc Tryz.prog Tryz.f9 false true false false W args (.bool true) W' := fun W' hb =>
    law_post Tryz.laidOut rfl (by rw [Tryz.params9]; intro t ht; have hall : ([24, 57, 3, 3, 3].all fun t => Tryz.prog.readableRec t && decide (t < Tryz.prog.types.size)) = true := (by kernel_rfl); have := List.all_eq_true.1 hall t (by simpa using ht); simpa using this) (by kernel_rfl) Tryz.underlying4 hds hW' hb
  obtain ⟨v0, l0, d0, m0, p0, q0, e0, rfl, rfl, h0, r0⟩ := trodAll_cons hA; obtain ⟨v1, l1, d1, m1, p1, q1, e1, rfl, rfl, h1, r1⟩ := trodAll_cons r0; obtain ⟨v2, l2, d2, m2, p2, q2, e2, rfl, rfl, h2, r2⟩ := trodAll_cons r1; obtain ⟨v3, l3, d3, m3, p3, q3, e3, rfl, rfl, h3, r3⟩ := trodAll_cons r2; obtain ⟨v4, l4, d4, m4, p4, q4, e4, rfl, rfl, h4, r4⟩ := trodAll_cons r3; obtain ⟨e5, rfl, rfl⟩ := trodAll_nil r4; subst e5 e4 e3 e2 e1; have e : args = #[v0, v1, v2, v3, v4] := (by cases args; simp_all); subst e
  obtain ⟨m, A, c, cs, rfl, hc⟩ := open_map (hval 0 _ _ rfl rfl) h0
  obtain ⟨s, rfl⟩ := open_sta (hval 1 _ _ rfl rfl) h1
  obtain ⟨n2, rfl, _, _, _⟩ := open_int Tryz.underlying3 (hval 2 _ _ rfl rfl) h2
  obtain ⟨n3, rfl, _, _, _⟩ := open_int Tryz.underlying3 (hval 3 _ _ rfl rfl) h3
  obtain ⟨n4, rfl, _, _, _⟩ := open_int Tryz.underlying3 (hval 4 _ _ rfl rfl) h4
  exact (lawChartMore hc hT).mono fun e W' ⟨he, hb⟩ => ⟨_, he, fin W' hb⟩

theorem chartMore_holds : Rows.ChartMoreSaid :=
  OpenClaim.holds_of_wide 9 Tryz.f9 rfl rfl rfl rfl rfl rfl rfl ⟨rfl, rfl, rfl, rfl, rfl⟩ rfl rfl rfl rfl rfl (by kernel_rfl) Tryz.func9 (by kernel_rfl)
    (of_decide_eq_true (by kernel_rfl)) (by unfold Func.isWrapper; first | (rw [if_pos (by decide +kernel)]; kernel_rfl) | (rw [if_neg (by decide +kernel)]; exact ⟨rfl, rfl⟩))
    (fun os started H enc _ => chartMore_lifted os started H enc)

theorem chartMore_card : Rows.ChartMoreCardSaid :=
  Claim7.holds_tied_plain_at .later [] [.data, .data, .data] true _ true
    chartMore_holds (fun _ h => by cases h) (by kernel_rfl) (fun _ h => by cases h) chartMore_row_tie rfl ⟨rfl, rfl⟩ (by kernel_rfl) rfl
    (fun f fn hf hfn => by
      obtain rfl : f = 9 := Option.some.inj ((show Tryz.prog.funcNamed "isobar/isobarlaw03.ChartMore" = some 9 by kernel_rfl).symm.trans hf) |>.symm
      obtain rfl : fn = Tryz.f9 := (Option.some.inj (Tryz.func9.symm.trans hfn)).symm
      exact ⟨by kernel_rfl, fun j t ht => by
        rw [Tryz.params9] at ht
        have hm : t ∈ [24, 57, 3, 3, 3] := by simpa using Array.mem_of_getElem? ht
        have hall : ([24, 57, 3, 3, 3].all fun u => !Tryz.prog.wantsStandIn u) = true := by kernel_rfl
        exact (show Tryz.prog.wantsStandIn t = false by simpa using List.all_eq_true.1 hall t hm)⟩)
    (by kernel_rfl)
#print axioms chartMore_card
end Go.Proofs.YtaolfdgkflfekaaGreatDoor
