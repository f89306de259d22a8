/- A law whose tables tell the truth in its own world. -/
import Derived.Test.YtknplcpjmpmblaaDoorUr
set_option linter.unusedVariables false
set_option linter.unusedSimpArgs false
namespace Go.Proofs.YtknplcpjmpmblaaDoor.GY
open Go Go.RowKit
section
variable {P : Program} {tb : Tab} {base : Bs} {θ : Th} {h : AH} {w : World}
theorem law_intro {w : World} (hB : TabOK P tb ⟨w.heap.size, w⟩) {f : FuncId} {fn : Func} {c : Code} (hf : P.funcs[f]? = some fn) (hc : fn.body = some c) {vs : List Value} {gs : List GV} {g : GV} (hv : All2 (ReadsA w 0) vs gs)
    {args : List AV} {h0 : AH} (hld : lds false gs H0 = some (args, h0)) (hl1 : args.length ≤ fn.ntmps) (hl2 : args.length < 1024)
    (hT : ∀ E : Ent, E.h = h0 → Tri P ⟨w.heap.size, w⟩ E c ⟨args0 args 0 .e, fn.ntmps, []⟩ h0 (finP tb fn g)) :
    Calls P f vs.toArray w fun e w' => ∃ v, e = .returned v ∧ Reads w' w.heap.size v g ∧ Below w.heap.size w w' := by
  let base : Bs := ⟨w.heap.size, w⟩
  have hR0 : R base (fun _ => ⟨0, 0, none⟩) H0 w := ⟨fun id o h => by simp [H0] at h, fun id id' o o' h => by simp [H0] at h, Nat.le_refl _, fun _ _ => rfl, fun id r h => by simp [H0] at h⟩
  have hL : LoOK base 0 false (fun _ => ⟨0, 0, none⟩) H0 := ⟨(fun h => by cases h), (fun id o h => by simp [H0] at h), (fun _ id o h => by simp [H0] at h)⟩
  obtain ⟨θ, hld', hb, hconc⟩ := lds_ok hL hR0 hv hld
  refine (callsIn_wide (n := 0)).1 (callsIn_of_wp_marks (F := FW none) hf hc trivial ?_)
  have hA0 : AOK θ h0.next { t := args0 args 0 .e, n := fn.ntmps, ds := [] } { tmps := vs.toArray ++ Array.replicate (fn.ntmps - vs.toArray.size) undef, defers := [] } := by
    rw [← hconc]
    refine ⟨by simp; omega, fun i u hu => ?_, rfl, fun d hd => by cases hd⟩
    rw [args0_get args 0 .e i (by omega)] at hu
    split at hu
    · rename_i hi
      simp only [Nat.sub_zero] at hu
      refine ⟨hb u (List.mem_of_getElem? hu), ?_⟩
      simp only [Array.getElem?_append]
      rw [if_pos (by simp; omega)]
      simp [hu]
    · cases hu
  refine wpIn_mono (hT ⟨θ, h0, w⟩ rfl θ _ w (Post.refl hld'.r) hA0) fun ex a' w' ⟨e, A, h, θ', hex, hq, hP, hA⟩ => ?_
  have fin : retP tb fn g A h → LeavesInM (FW none) 0 P fn a'.tmps (fun e w' => ∃ v, e = .returned v ∧ Reads w' w.heap.size v g ∧ Below w.heap.size w w') a'.defers .returning w' := by
    intro hr
    unfold retP at hr
    split at hr <;> try exact hr.elim
    rename_i h2 hlv
    split at hr <;> try exact hr.elim
    rename_i vs' har
    obtain ⟨hq1, hs2⟩ := hr
    have hst : (h.start []).m = h.m ∧ (h.start []).next = h.next ∧ (h.start []).ro = h.ro := by cases h; exact ⟨rfl, rfl, rfl⟩
    obtain ⟨e1, e2, e3⟩ := hst
    rw [hA.ds]
    refine leaves_ok hB hlv hs2 (hP.r.same e1 e2 e3) (by rw [e2]; exact hA.bds) fun θ'' w'' hP' => ?_
    have hA' := hA.ext (θ' := θ'') (by rw [← e2]; exact hP'.ext) (by rw [← e2]; exact hP'.next)
    obtain ⟨hbv, hrun⟩ := aresults_ok hB.ty hP'.r hA'.kt har
    have em : (fn.results.mapM (resv a'.tmps)).run P w'' = .ok (vs'.map (conc θ'')).toArray w'' := by simp [Array.mapM_eq_mapM_toList, hrun]
    have hres : (results fn a'.tmps).run P w'' = .ok (if h : (vs'.map (conc θ'')).toArray.size = 1 then (vs'.map (conc θ'')).toArray[0] else .tuple (vs'.map (conc θ'')).toArray) w'' := by
      rw [results_eq, Sem.run_bind, em]
      rfl
    have hbel : Below w.heap.size w w'' := hP.below.trans hP'.below
    refine ⟨_, hres, _, rfl, ?_, hbel⟩
    have hrd := rq_ok hP'.r hq1
    match vs', hrd with
    | [], hrd => simpa [one, conc] using hrd
    | [u], hrd => simpa [one] using hrd
    | u :: u' :: us, hrd => simpa [one, conc] using hrd
  subst hex
  cases e with
  | norm => exact fin hq
  | ret => exact fin hq
  | exit i => exact hq.elim
  | goto l => exact hq.elim

/- Tables, read off the program. -/
theorem law_body {w : World} (hB : TabOK P tb ⟨w.heap.size, w⟩) {f : FuncId} {fn : Func} (hf : P.funcs[f]? = some fn) (hc : fn.body.isSome = true) {vs : List Value} {gs : List GV} {g : GV} (hv : All2 (ReadsA w 0) vs gs)
    {args : List AV} {h0 : AH} (hld : lds false gs H0 = some (args, h0)) (hl1 : args.length ≤ fn.ntmps) (hl2 : args.length < 1024)
    (hT : ∀ E : Ent, E.h = h0 → Tri P ⟨w.heap.size, w⟩ E (bodyC fn) (start fn args) h0 (finP tb fn g)) :
    Calls P f vs.toArray w fun e w' => ∃ v, e = .returned v ∧ Reads w' w.heap.size v g ∧ Below w.heap.size w w' :=
  law_intro hB hf (c := bodyC fn) (by unfold bodyC; cases h : fn.body with | none => rw [h] at hc; cases hc | some c => rfl) hv hld hl1 hl2 hT
/-- A law that says true. -/
theorem law_true {w : World} {f : FuncId} {vs : List Value} (h : Calls P f vs.toArray w fun e w' => ∃ v, e = .returned v ∧ Reads w' w.heap.size v (.lit (.bool true)) ∧ Below w.heap.size w w') :
    Calls P f vs.toArray w fun e w' => e = .returned (.bool true) ∧ Below w.heap.size w w' :=
  h.mono fun e w' ⟨v, he, hr, hb⟩ => ⟨by rw [he]; have : v = .bool true := hr; rw [this], hb⟩
/-- A function of no arguments that says true. -/
noncomputable def natTrue : AH → List AV → Option (AV × AH) := fun h args => match args with
  | [] => some (.lit (.bool true), h)
  | _ => none
theorem natTrue_ok {base : Bs} {f : FuncId} (hent : EnterOK P f) (hk : ∀ θ h w, R base θ h w → Calls P f #[] w fun e w' => e = .returned (.bool true) ∧ Below w.heap.size w w') : NatOK P base f natTrue := by
  refine ⟨hent, fun h args v h' hx => ?_⟩
  unfold natTrue at hx
  split at hx <;> try (cases hx; done)
  cases hx
  refine ⟨id, fun hs θ w hR hb => callsIn_wide.2 ((hk θ h w hR).mono fun e w' he => ?_)⟩
  obtain ⟨rfl, hbel⟩ := he
  exact ⟨θ, by simp [conc], by simp [bd], Post.more hR hbel⟩
end
end Go.Proofs.YtknplcpjmpmblaaDoor.GY
