/- The statement ConePlays of the seat, proved: for every input the law returns true, and each argument reads afterwards as it read before. No condition. -/
import Derived.Test.YtbepafkenandfaaGreatWk
import Derived.Test.YtbepafkenandfaaGreatWp
set_option linter.unusedVariables false
set_option linter.unusedSimpArgs false
namespace Go.Proofs.YtbepafkenandfaaGreat
open Go Go.ChangeShapes Go.WideShapes Go.ChangeAt Go.RowKit

set_option maxHeartbeats 1000000 in
set_option maxRecDepth 100000 in
theorem conePlays_lifted (os : Os) (started : os.Started) (H : Type) (enc : TypeId × Value → H) :
    ReturnsInHanded {} Tryz.checked os 4 .any (Rows.conePlaysSpec.pre6 enc Tryz.prog Tryz.f4 Rows.conePlaysRow.domain false) (Rows.conePlaysSpec.post enc Tryz.prog Tryz.f4 false true false false) := by
  refine returnsInHanded_of_change (C := Tryz.checked) Tryz.own started (by kernel_rfl) Tryz.func4
    (ChangeSpec.witness6 (enc := enc) (C := Tryz.checked) false ⟨#[], #[.agg #[.int .i64 0, .slice none 0 0, .slice none 0 0, .slice none 0 0, .int .i64 0, .int .i64 0, .int .i64 0, .int .i64 0, .int .i64 0], .slice none 0 0], []⟩ 8 (by kernel_rfl) (by kernel_rfl) (by kernel_rfl) (by kernel_rfl)) ?_
  intro W base args ds gs before hval0 hW hcnd _
  have hval : ∀ (j : Nat) t v, Tryz.f4.params[j]? = some t → args[j]? = some v → Value.okWide Tryz.prog W .any base t v := hval0
  have hW' := hW
  obtain ⟨p, q, hA0, hV, rfl, hfz, hnd⟩ := hW
  have hA : DataW.TrodAll enc Tryz.prog W 0 (fun _ => true) true Tryz.f4.params.toList args.toList ds p := hA0
  rw [Tryz.params4] at hA hval
  have hds : Rows.conePlaysSpec.fn H ds = { results := [.lit (.bool true)], args := ds } := by
    obtain ⟨v0, v1, d0, d1, p0, p1, rfl, rfl, rfl, h0, h1⟩ := trodAll_two hA
    rfl
  have fin : ∀ W', Below W.heap.size W W' → Rows.conePlaysSpec.post enc Tryz.prog Tryz.f4 false true false false W args (.bool true) W' := fun W' hb =>
    law_post Tryz.laidOut rfl (by rw [Tryz.params4]; intro t ht; have hall : ([26, 36].all fun t => Tryz.prog.readableRec t && decide (t < Tryz.prog.types.size)) = true := (by kernel_rfl); have := List.all_eq_true.1 hall t (by simpa using ht); simpa using this) (by kernel_rfl) Tryz.underlying4 hds hW' hb
  obtain ⟨v0, v1, d0, d1, p0, p1, rfl, rfl, rfl, h0, h1⟩ := trodAll_two hA
  obtain ⟨m, A1, A2, A3, c1, c2, c3, rs, ls, qs, rfl, hc1, hc2, hc3⟩ := open_watch (hval 0 _ _ rfl rfl) h0
  obtain ⟨E1, ec1, zs1, rfl, hz1⟩ := open_list (hval 1 _ _ rfl rfl) h1
  exact (lawConePlays hc1 hc2 hc3 hz1).mono fun e W' ⟨he, hb⟩ => ⟨_, he, fin W' hb⟩

theorem conePlays_holds : Rows.ConePlaysSaid :=
  OpenClaim.holds_of_wide 4 Tryz.f4 rfl rfl rfl rfl rfl rfl rfl ⟨rfl, rfl, rfl, rfl, rfl⟩ rfl rfl rfl rfl rfl (by kernel_rfl) Tryz.func4 (by kernel_rfl)
    (of_decide_eq_true (by kernel_rfl)) (by unfold Func.isWrapper; first | (rw [if_pos (by decide +kernel)]; kernel_rfl) | (rw [if_neg (by decide +kernel)]; exact ⟨rfl, rfl⟩))
    (fun os started H enc _ => conePlays_lifted os started H enc)
#print axioms conePlays_holds
end Go.Proofs.YtbepafkenandfaaGreat
