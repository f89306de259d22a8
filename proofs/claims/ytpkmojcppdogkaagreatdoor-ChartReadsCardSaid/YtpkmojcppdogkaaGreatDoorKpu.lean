/- The statement ChartReads of the seat, proved: for every input the law returns true, and each argument reads afterwards as it read before. No condition. -/
import Derived.Test.YtpkmojcppdogkaaGreatDoorKrs
import Derived.Test.YtpkmojcppdogkaaGreatDoorLpu
set_option linter.unusedVariables false
set_option linter.unusedSimpArgs false
namespace Go.Proofs.YtpkmojcppdogkaaGreatDoor
open Go Go.ChangeShapes Go.WideShapes Go.ChangeAt Go.RowKit

set_option maxHeartbeats 1000000 in
set_option maxRecDepth 100000 in
theorem chartReads_lifted (os : Os) (started : os.Started) (H : Type) (enc : TypeId × Value → H) :
    ReturnsInHanded {} Tryz.checked os 10 .any (fun w args => (Rows.chartReadsSpec.pre enc Tryz.prog Tryz.f10 [] false w args ∧ laidMetH Tryz.prog Rows.chartReadsRow.laid w) ∧ sizedMet enc Tryz.prog Tryz.f10 (OpenSpec.ofChange Rows.chartReadsSpec) false w args)
      (Rows.chartReadsSpec.post enc Tryz.prog Tryz.f10 false true false false) := by
  refine wrap_shaped (C := Tryz.checked) (X := fun w _ => laidMetH Tryz.prog Rows.chartReadsRow.laid w) (fun _ _ _ hh h => h.of_heap hh) Tryz.own started (by kernel_rfl) Tryz.func10
    (ChangeSpec.witness_shaped (enc := enc) (C := Tryz.checked) (os := os) (X := fun w _ => laidMetH Tryz.prog Rows.chartReadsRow.laid w) false (World.laidAll Tryz.prog os Rows.chartReadsRow.laid) #[.string ⟨#[]⟩] 8 (World.laidAll_os _ _ _) (World.shaped_of_ZipB (by kernel_rfl) (by kernel_rfl)) (by kernel_rfl) (by kernel_rfl) (by kernel_rfl) (door_met os _)) ?_
  intro W base args ds gs before hval0 hW hL hSO
  have hval : ∀ (j : Nat) t v, Tryz.f10.params[j]? = some t → args[j]? = some v → Value.okWide Tryz.prog W .any base t v := hval0
  have hW' := hW
  obtain ⟨p, q, hA0, hV, rfl, hfz, hnd⟩ := hW
  have hA : DataW.TrodAll enc Tryz.prog W 0 (fun _ => true) true Tryz.f10.params.toList args.toList ds p := hA0
  rw [Tryz.params10] at hA hval
  have hds : Rows.chartReadsSpec.fn H ds = { results := [.lit (.bool true)], args := ds } := by
    obtain ⟨v0, d0, rfl, rfl, h0⟩ := trodAll_one hA
    rfl
  have hT := of_laid hL
  have fin : ∀ W', Below W.heap.size W W' → Rows.chartReadsSpec.post enc Tryz.prog Tryz.f10 false true false false W args (.bool true) W' := fun W' hb =>
    law_post Tryz.laidOut rfl (by rw [Tryz.params10]; intro t ht; have hall : ([9].all fun t => Tryz.prog.readableRec t && decide (t < Tryz.prog.types.size)) = true := (by kernel_rfl); have := List.all_eq_true.1 hall t (by simpa using ht); simpa using this) (by kernel_rfl) Tryz.underlying4 hds hW' hb
  obtain ⟨v0, d0, rfl, rfl, h0⟩ := trodAll_one hA
  obtain ⟨s, rfl⟩ := open_text (hval 0 _ _ rfl rfl)
  obtain ⟨m, hm⟩ := maxLen_of hSO
  exact (lawChartReads hT ⟨World.block_lt_of_cell? _ _ hm, hm⟩).mono fun e W' ⟨he, hb⟩ => ⟨_, he, fin W' hb⟩

theorem chartReads_holds : Rows.ChartReadsSaid :=
  OpenClaim.holds_of_wide 10 Tryz.f10 rfl rfl rfl rfl rfl rfl rfl ⟨rfl, rfl, rfl, rfl, rfl⟩ rfl rfl rfl rfl rfl (by kernel_rfl) Tryz.func10 (by kernel_rfl)
    (of_decide_eq_true (by kernel_rfl)) (by unfold Func.isWrapper; first | (rw [if_pos (by decide +kernel)]; kernel_rfl) | (rw [if_neg (by decide +kernel)]; exact ⟨rfl, rfl⟩))
    (fun os started H enc _ => chartReads_lifted os started H enc)

theorem chartReads_card : Rows.ChartReadsCardSaid :=
  Claim7.holds_tied_plain_at .later [] [.data, .data, .data, .data, .pinned] true _ true
    chartReads_holds (fun _ h => by cases h) (by kernel_rfl) (fun _ h => by cases h) chartReads_row_tie rfl ⟨rfl, rfl⟩ (by kernel_rfl) rfl
    (fun f fn hf hfn => by
      obtain rfl : f = 10 := Option.some.inj ((show Tryz.prog.funcNamed "isobar/isobarlaw03.ChartReads" = some 10 by kernel_rfl).symm.trans hf) |>.symm
      obtain rfl : fn = Tryz.f10 := (Option.some.inj (Tryz.func10.symm.trans hfn)).symm
      exact ⟨by kernel_rfl, fun j t ht => by
        rw [Tryz.params10] at ht
        have hm : t ∈ [9] := by simpa using Array.mem_of_getElem? ht
        have hall : ([9].all fun u => !Tryz.prog.wantsStandIn u) = true := by kernel_rfl
        exact (show Tryz.prog.wantsStandIn t = false by simpa using List.all_eq_true.1 hall t hm)⟩)
    (by kernel_rfl)
#print axioms chartReads_card
end Go.Proofs.YtpkmojcppdogkaaGreatDoor
