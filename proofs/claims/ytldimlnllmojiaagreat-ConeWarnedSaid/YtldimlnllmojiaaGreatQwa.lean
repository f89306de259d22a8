/- The statement ConeWarned of the seat, proved: for every input the law returns true, and each argument reads afterwards as it read before. No condition. -/
import Derived.Test.YtldimlnllmojiaaGreatWk
import Derived.Test.YtldimlnllmojiaaGreatYw
set_option linter.unusedVariables false
set_option linter.unusedSimpArgs false
namespace Go.Proofs.YtldimlnllmojiaaGreat
open Go Go.ChangeShapes Go.WideShapes Go.ChangeAt Go.RowKit
set_option maxHeartbeats 1000000 in
set_option maxRecDepth 100000 in
theorem coneWarned_lifted (os : Os) (started : os.Started) (H : Type) (enc : TypeId × Value → H) :
    ReturnsInHanded {} Tryz.checked os 13 .any (Rows.coneWarnedSpec.pre6 enc Tryz.prog Tryz.f13 Rows.coneWarnedRow.domain false) (Rows.coneWarnedSpec.post enc Tryz.prog Tryz.f13 false true false false) := by
  refine returnsInHanded_of_change (C := Tryz.checked) Tryz.own started (by kernel_rfl) Tryz.func13
    (ChangeSpec.witness6 (enc := enc) (C := Tryz.checked) false ⟨#[], #[.agg #[.int .i64 0, .slice none 0 0, .slice none 0 0, .slice none 0 0, .int .i64 0, .int .i64 0, .int .i64 0, .int .i64 0, .int .i64 0], .slice none 0 0, .int .i64 0, .int .i64 0, .agg #[.int .i64 0, .int .i64 0, .int .i64 0, .int .i64 0], .int .i64 0, .int .i64 0], []⟩ 8 (by kernel_rfl) (by kernel_rfl) (by kernel_rfl) (by kernel_rfl)) ?_
  intro W base args ds gs before hval0 hW hcnd _
  have hval : ∀ (j : Nat) t v, Tryz.f13.params[j]? = some t → args[j]? = some v → Value.okWide Tryz.prog W .any base t v := hval0
  have hW' := hW
  obtain ⟨p, q, hA0, hV, rfl, hfz, hnd⟩ := hW
  have hA : DataW.TrodAll enc Tryz.prog W 0 (fun _ => true) true Tryz.f13.params.toList args.toList ds p := hA0
  rw [Tryz.params13] at hA hval
  have hds : Rows.coneWarnedSpec.fn H ds = { results := [.lit (.bool true)], args := ds } := by
    obtain ⟨v0, l0, d0, m0, p0, q0, e0, rfl, rfl, h0, r0⟩ := trodAll_cons hA; obtain ⟨v1, l1, d1, m1, p1, q1, e1, rfl, rfl, h1, r1⟩ := trodAll_cons r0; obtain ⟨v2, l2, d2, m2, p2, q2, e2, rfl, rfl, h2, r2⟩ := trodAll_cons r1; obtain ⟨v3, l3, d3, m3, p3, q3, e3, rfl, rfl, h3, r3⟩ := trodAll_cons r2; obtain ⟨v4, l4, d4, m4, p4, q4, e4, rfl, rfl, h4, r4⟩ := trodAll_cons r3; obtain ⟨v5, l5, d5, m5, p5, q5, e5, rfl, rfl, h5, r5⟩ := trodAll_cons r4; obtain ⟨v6, l6, d6, m6, p6, q6, e6, rfl, rfl, h6, r6⟩ := trodAll_cons r5; obtain ⟨e7, rfl, rfl⟩ := trodAll_nil r6; subst e7 e6 e5 e4 e3 e2 e1; have e : args = #[v0, v1, v2, v3, v4, v5, v6] := (by cases args; simp_all); subst e
    rfl
  have fin : ∀ W', Below W.heap.size W W' → Rows.coneWarnedSpec.post enc Tryz.prog Tryz.f13 false true false false W args (.bool true) W' := fun W' hb =>
    law_post Tryz.laidOut rfl (by rw [Tryz.params13]; intro t ht; have hall : ([26, 36, 3, 3, 63, 3, 3].all fun t => Tryz.prog.readableRec t && decide (t < Tryz.prog.types.size)) = true := (by kernel_rfl); have := List.all_eq_true.1 hall t (by simpa using ht); simpa using this) (by kernel_rfl) Tryz.underlying4 hds hW' hb
  obtain ⟨v0, l0, d0, m0, p0, q0, e0, rfl, rfl, h0, r0⟩ := trodAll_cons hA; obtain ⟨v1, l1, d1, m1, p1, q1, e1, rfl, rfl, h1, r1⟩ := trodAll_cons r0; obtain ⟨v2, l2, d2, m2, p2, q2, e2, rfl, rfl, h2, r2⟩ := trodAll_cons r1; obtain ⟨v3, l3, d3, m3, p3, q3, e3, rfl, rfl, h3, r3⟩ := trodAll_cons r2; obtain ⟨v4, l4, d4, m4, p4, q4, e4, rfl, rfl, h4, r4⟩ := trodAll_cons r3; obtain ⟨v5, l5, d5, m5, p5, q5, e5, rfl, rfl, h5, r5⟩ := trodAll_cons r4; obtain ⟨v6, l6, d6, m6, p6, q6, e6, rfl, rfl, h6, r6⟩ := trodAll_cons r5; obtain ⟨e7, rfl, rfl⟩ := trodAll_nil r6; subst e7 e6 e5 e4 e3 e2 e1; have e : args = #[v0, v1, v2, v3, v4, v5, v6] := (by cases args; simp_all); subst e
  obtain ⟨m, A1, A2, A3, c1, c2, c3, rs, ls, qs, rfl, hc1, hc2, hc3⟩ := open_watch (hval 0 _ _ rfl rfl) h0
  obtain ⟨E1, ec1, zs1, rfl, hz1⟩ := open_list (hval 1 _ _ rfl rfl) h1
  obtain ⟨n2, rfl, _, _, w2⟩ := open_int Tryz.underlying3 (hval 2 _ _ rfl rfl) h2
  obtain ⟨n3, rfl, _, _, w3⟩ := open_int Tryz.underlying3 (hval 3 _ _ rfl rfl) h3
  obtain ⟨s4, rfl⟩ := open_boat (hval 4 _ _ rfl rfl) h4
  obtain ⟨n5, rfl, _, _, w5⟩ := open_int Tryz.underlying3 (hval 5 _ _ rfl rfl) h5
  obtain ⟨n6, rfl, _, _, w6⟩ := open_int Tryz.underlying3 (hval 6 _ _ rfl rfl) h6
  exact (lawConeWarned hc1 hc2 hc3 hz1).mono fun e W' ⟨he, hb⟩ => ⟨_, he, fin W' hb⟩
theorem coneWarned_holds : Rows.ConeWarnedSaid :=
  OpenClaim.holds_of_wide 13 Tryz.f13 rfl rfl rfl rfl rfl rfl rfl ⟨rfl, rfl, rfl, rfl, rfl⟩ rfl rfl rfl rfl rfl (by kernel_rfl) Tryz.func13 (by kernel_rfl)
    (of_decide_eq_true (by kernel_rfl)) (by unfold Func.isWrapper; first | (rw [if_pos (by decide +kernel)]; kernel_rfl) | (rw [if_neg (by decide +kernel)]; exact ⟨rfl, rfl⟩))
    (fun os started H enc _ => coneWarned_lifted os started H enc)
#print axioms coneWarned_holds
end Go.Proofs.YtldimlnllmojiaaGreat
