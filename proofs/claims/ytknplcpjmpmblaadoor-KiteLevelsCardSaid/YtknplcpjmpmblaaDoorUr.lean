/- Calls that recover. -/
import Derived.Test.YtknplcpjmpmblaaDoorUq
set_option linter.unusedVariables false
set_option linter.unusedSimpArgs false
namespace Go.Proofs.YtknplcpjmpmblaaDoor.GY
open Go Go.RowKit
abbrev RN := T (AV → AH → List AV → Option AH)
/-- Deferred calls that recover do what they are said to do. -/
def RecOK (P : Program) (base : Bs) (rn : RN) : Prop :=
  ∀ f g, rn.get f = some g → EnterOK P f ∧ ∀ pv h args h', g pv h args = some h' → (All h'.sc → All h.sc) ∧ (All h'.sc → ∀ θ w, R base θ h w → bdl θ h.next args → bd θ h.next pv →
    CallsDIn (FW none) 0 P f (args.map (conc θ)).toArray (.panicking [{ v := conc θ pv, recovered := false }]) w fun e u' w' => (∃ v, e = .returned v) ∧ settle u' = .returning ∧ ∃ θ', Post base θ h w θ' h' w')
noncomputable def leavesR (tb : Tab) (rn : RN) (pv : AV) : List AD → AH → Option AH
  | [], _ => none
  | .col id :: ds, h => match h.m.get id with
    | some (.dfr false) => match h.put id (.dfr true) with
      | some h' => leavesR tb rn pv ds h'
      | none => none
    | _ => none
  | .call f cap args :: ds, h => match rn.get f with
    | some g => match g pv h (args ++ cap) with
      | some h' => leaves tb ds h'
      | none => none
    | none => none
noncomputable def xcallR (tb : Tab) (recP : RecP) (rn : RN) (hh : List Nat) (f : FuncId) (h : AH) (args : List AV) : Option (AV × AH) :=
  match tb.fn.get f with
  | none => none
  | some fn => match fn.body with
    | none => none
    | some c => if args.length ≤ fn.ntmps ∧ args.length < 1024 then match recP [] hh c none { t := args0 args 0 .e, n := fn.ntmps, ds := [] } h with
      | some (v, A, h1) => match leavesR tb rn v A.ds h1 with
        | some h2 => match aresults h2 A tb fn.results.toList with
          | some [v] => some (v, h2)
          | some vs => some (.tup vs, h2)
          | none => none
        | none => none
      | none => none
      else none
/-- The first of some hints by which it goes through. -/
noncomputable def xcallRs (tb : Tab) (recP : RecP) (rn : RN) (f : FuncId) : List (List Nat) → AH → List AV → Option (AV × AH)
  | [], _, _ => none
  | hh :: r, h, args => match xcallR tb recP rn hh f h args with
    | some x => some x
    | none => xcallRs tb recP rn f r h args
section
variable {P : Program} {tb : Tab} {rec : Rec} {recP : RecP} {rn : RN} {θ : Th} {base : Bs} {h : AH} {w : World}
theorem leavesR_sc (hB : TabOK P tb base) (hRn : RecOK P base rn) {pv : AV} : ∀ {ds : List AD} {h h' : AH}, leavesR tb rn pv ds h = some h' → All h'.sc → All h.sc
  | [], h, h', hl, hs => by simp [leavesR] at hl
  | .col id :: ds, h, h', hl, hs => by
    simp only [leavesR] at hl
    split at hl <;> try (cases hl; done)
    split at hl <;> try (cases hl; done)
    rename_i h1 hp
    have := leavesR_sc hB hRn hl hs
    rw [(AH.put_spec hp).2.2.2.2] at this; exact this
  | .call f cap args :: ds, h, h', hl, hs => by
    simp only [leavesR] at hl
    split at hl <;> try (cases hl; done)
    rename_i g hg
    split at hl <;> try (cases hl; done)
    rename_i h1 hgr
    exact ((hRn f g hg).2 pv h _ h1 hgr).1 (leaves_sc hB hl hs)
theorem leavesR_ok (hB : TabOK P tb base) (hRn : RecOK P base rn) {fn : Func} {tmps : Array Value} {R' : Ending → World → Prop} {pv : AV} {cp : Value} : ∀ {ds : List AD} {h h' : AH} {θ : Th} {w : World}, leavesR tb rn pv ds h = some h' → All h'.sc → R base θ h w → (∀ d ∈ ds, bdD θ h.next d) → bd θ h.next pv → conc θ pv = cp →
    (∀ θ' w', Post base θ h w θ' h' w' → ∃ v, (results fn tmps).run P w' = .ok v w' ∧ R' (.returned v) w') → LeavesInM (FW none) 0 P fn tmps R' (ds.map (concD θ)) (.panicking [{ v := cp, recovered := false }]) w
  | [], h, h', θ, w, hl, hs, hR, hb, hbp, hcp, hk => by simp [leavesR] at hl
  | .col id :: ds, h, h', θ, w, hl, hs, hR, hb, hbp, hcp, hk => by
    simp only [leavesR] at hl
    split at hl <;> try (cases hl; done)
    rename_i hm
    split at hl <;> try (cases hl; done)
    rename_i h1 hp
    obtain ⟨hidn, hbase, hok⟩ := hR.obj id _ hm
    have hheap : w.heap[(θ id).b]? = some (.deferred (some [])) := hok
    have hP : Post base θ h w θ h1 (w.putObj (θ id).b (.deferred none)) :=
      Post.put hR hm hp (fun k hk => World.putObj_heap_other hk) (by simp) (putObj_below hbase) (World.putObj_heap_same hok.lt)
    have hn := (AH.put_spec hp).2.2.1
    refine ⟨by simp, .inl ⟨(θ id).b, _, rfl, run_takeDeferred hheap, ?_⟩⟩
    exact leavesR_ok hB hRn hl hs hP.r (fun d hd => by have := hb d (by simp [hd]); rw [hn]; exact this) (by rw [hn]; exact hbp) hcp fun θ' w' hP' => hk θ' w' (hP.trans hP')
  | .call f cap args :: ds, h, h', θ, w, hl, hs, hR, hb, hbp, hcp, hk => by
    simp only [leavesR] at hl
    split at hl <;> try (cases hl; done)
    rename_i g hg
    split at hl <;> try (cases hl; done)
    rename_i h1 hgr
    obtain ⟨hent, hc⟩ := hRn f g hg
    have hbd : bdD θ h.next (.call f cap args) := hb _ (by simp)
    have hba : bdl θ h.next (args ++ cap) := fun y hy => by
      rcases List.mem_append.1 hy with hy | hy
      · exact hbd.2 y hy
      · exact hbd.1 y hy
    have hcall := (hc pv h (args ++ cap) h1 hgr).2 (leaves_sc hB hl hs) θ w hR hba hbp
    rw [hcp] at hcall
    have eargs : (args.map (conc θ)).toArray ++ (cap.map (conc θ)).toArray = ((args ++ cap).map (conc θ)).toArray := by simp
    refine ⟨by simp, .inr ⟨by simp [FW, Fence.wide], .func f, (cap.map (conc θ)).toArray, f, ((args ++ cap).map (conc θ)).toArray, rfl, ?_, fun _ _ => trivial, ?_⟩⟩
    · simp only [concD, invoke, eargs]
      exact hent _ _
    · refine CallsDIn.mono hcall fun e u' w' he => ?_
      obtain ⟨⟨v, rfl⟩, hu, θ', hP⟩ := he
      simp only [hu]
      have hrest := leaves_ok hB (θ := θ') (R' := R') (fn := fn) (tmps := tmps) hl hs hP.r (fun d hd => bdD_ext hP.ext hP.next (hb d (by simp [hd]))) fun θ'' w'' hP' => hk θ'' w'' (hP.trans hP')
      rw [List.map_congr_left fun d hd => concD_ext hP.ext (hb d (by simp [hd]))] at hrest
      exact hrest
theorem xcallR_ok (hB : TabOK P tb base) (hSP : SoundP P base recP) (hRn : RecOK P base rn) {hh : List Nat} {f : FuncId} {args : List AV} {v : AV} {h' : AH} (hx : xcallR tb recP rn hh f h args = some (v, h')) :
    (All h'.sc → All h.sc) ∧ (All h'.sc → ∀ θ w, R base θ h w → bdl θ h.next args → CallsIn (FW none) 0 P f (args.map (conc θ)).toArray w (CallOK P base θ h w v h')) := by
  unfold xcallR at hx
  split at hx <;> try (cases hx; done)
  rename_i fn hfn
  split at hx <;> try (cases hx; done)
  rename_i c hc
  split at hx <;> try (cases hx; done)
  rename_i hlen
  obtain ⟨hl1, hl2⟩ := hlen
  split at hx <;> try (cases hx; done)
  rename_i pv A h1 hrec
  split at hx <;> try (cases hx; done)
  rename_i h2 hlv
  have hh2 : h2 = h' := by
    split at hx <;> first | (cases hx; rfl) | (cases hx; done)
  have hS1 := hSP _ _ _ _ _ _ _ _ _ hrec
  refine ⟨fun hs => hS1.1 (leavesR_sc hB hRn hlv (by rw [hh2]; exact hs)), fun hs θ w hR hb => ?_⟩
  have hs2 : All h2.sc := by rw [hh2]; exact hs
  obtain ⟨hpf, hent⟩ := hB.fn f fn hfn
  refine callsIn_of_wpE hpf hc ?_
  refine wpE_mono (hS1.2 (leavesR_sc hB hRn hlv hs2) θ _ w hR (args0_AOK hR hl1 hl2 hb) (by simp) (fun l hl => by cases hl)) fun ch a' w' hbe => ?_
  obtain ⟨θ1, rfl, hP, hbv, hA⟩ := hbe
  rw [hA.ds]
  refine leavesR_ok hB hRn hlv hs2 hP.r hA.bds hbv rfl fun θ' w'' hP' => ?_
  have hA' := hA.ext hP'.ext hP'.next
  cases hr : aresults h2 A tb fn.results.toList with
  | none => rw [hr] at hx; cases hx
  | some vs =>
    rw [hr] at hx
    obtain ⟨hbv, hrun⟩ := aresults_ok hB.ty hP'.r hA'.kt hr
    have hres : (results fn a'.tmps).run P w'' = .ok (if h : (vs.map (conc θ')).toArray.size = 1 then (vs.map (conc θ')).toArray[0] else .tuple (vs.map (conc θ')).toArray) w'' := by
      have em : (fn.results.mapM (resv a'.tmps)).run P w'' = .ok (vs.map (conc θ')).toArray w'' := by simp [Array.mapM_eq_mapM_toList, hrun]
      rw [results_eq, Sem.run_bind, em]
      rfl
    refine ⟨_, hres, θ', ?_⟩
    have hP2 := hP.trans hP'
    match vs, hx, hbv with
    | [], hx, hbv => cases hx; exact ⟨by simp [conc], by simp only [bd]; exact hbv, hP2⟩
    | [u], hx, hbv => cases hx; exact ⟨by simp, hbv _ (by simp), hP2⟩
    | u :: u' :: us, hx, hbv => cases hx; exact ⟨by simp [conc], by simp only [bd]; exact hbv, hP2⟩
/-- A function that recovers, as a native. -/
theorem natR (hB : TabOK P tb base) (hSP : SoundP P base recP) (hRn : RecOK P base rn) {f : FuncId} (hent : EnterOK P f) : ∀ hhs : List (List Nat), NatOK P base f (xcallRs tb recP rn f hhs) := by
  intro hhs
  refine ⟨hent, ?_⟩
  induction hhs with
  | nil => intro h args v h' hx; simp [xcallRs] at hx
  | cons hh r ih =>
    intro h args v h' hx
    simp only [xcallRs] at hx
    split at hx
    · rename_i x hxx
      cases hx
      exact xcallR_ok hB hSP hRn hxx
    · exact ih h args v h' hx
end
end Go.Proofs.YtknplcpjmpmblaaDoor.GY
