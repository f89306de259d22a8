/- Statements of unknown numbers: ranges over functions. -/
import Derived.Test.YtknplcpjmpmblaaDoorUo
set_option linter.unusedVariables false
set_option linter.unusedSimpArgs false
namespace Go.Proofs.YtknplcpjmpmblaaDoor.GY
open Go Go.RowKit
section
variable {P : Program} {tb : Tab} {base : Bs} {E : Ent} {θ : Th} {h : AH} {w : World}
/-- A call of a function whose statement ends so. -/
theorem call_tri (hB : TabOK P tb base) {f : FuncId} {fn : Func} {c : Code} (hpf : P.funcs[f]? = some fn) (hc : fn.body = some c) {args : List AV} (hlen : args.length ≤ fn.ntmps ∧ args.length < 1024) (hR : R base θ h w) (hb : bdl θ h.next args) {K : List AV → AH → Prop}
    (hT : ∀ E' : Ent, E'.h = h → Tri P base E' c ⟨args0 args 0 .e, fn.ntmps, []⟩ h (fun e A' h' => (e = .norm ∨ e = .ret) ∧ ∃ h2 vs, leaves tb A'.ds (h'.start []) = some h2 ∧ aresults h2 A' tb fn.results.toList = some vs ∧ All h2.sc ∧ K vs h2)) :
    CallsIn (FW none) 0 P f (args.map (conc θ)).toArray w (fun e w' => ∃ (vs : List AV) (h2 : AH) (θ2 : Th), (e = .returned (conc θ2 (one vs)) ∧ bd θ2 h2.next (one vs)) ∧ Post base θ h w θ2 h2 w' ∧ K vs h2) := by
  obtain ⟨hl1, hl2⟩ := hlen
  refine callsIn_of_wp_marks hpf hc trivial ?_
  have hA0 : AOK θ h.next { t := args0 args 0 .e, n := fn.ntmps, ds := [] } { tmps := (args.map (conc θ)).toArray ++ Array.replicate (fn.ntmps - (args.map (conc θ)).toArray.size) undef, defers := [] } := by
    refine ⟨by simp; omega, fun i u hu => ?_, rfl, fun d hd => by cases hd⟩
    rw [args0_get args 0 .e i (by omega)] at hu
    split at hu
    · rename_i hi
      simp only [Nat.sub_zero] at hu
      refine ⟨hb u (List.mem_of_getElem? hu), ?_⟩
      simp only [Array.getElem?_append]
      rw [if_pos (by simp; omega)]
      simp [hu]
    · cases hu
  refine wpIn_mono (hT ⟨θ, h, w⟩ rfl θ _ w (Post.refl hR) hA0) fun ex a' w' hbe => ?_
  obtain ⟨e, A, h', θ1, hex, ⟨he, h2, vs, hlv, har, hs2, hK⟩, hP, hA⟩ := hbe
  have hst : (h'.start []).m = h'.m ∧ (h'.start []).next = h'.next ∧ (h'.start []).ro = h'.ro := by cases h'; exact ⟨rfl, rfl, rfl⟩
  obtain ⟨e1, e2, e3⟩ := hst
  have key : LeavesInM (FW none) 0 P fn a'.tmps (fun e w' => ∃ (vs : List AV) (h2 : AH) (θ2 : Th), (e = .returned (conc θ2 (one vs)) ∧ bd θ2 h2.next (one vs)) ∧ Post base θ h w θ2 h2 w' ∧ K vs h2) a'.defers .returning w' := by
    rw [hA.ds]
    refine leaves_ok hB hlv hs2 (hP.r.same e1 e2 e3) (by rw [e2]; exact hA.bds) fun θ' w'' hP' => ?_
    have hA' := hA.ext (θ' := θ') (by rw [← e2]; exact hP'.ext) (by rw [← e2]; exact hP'.next)
    obtain ⟨hbv, hrun⟩ := aresults_ok hB.ty hP'.r hA'.kt har
    have hres : (results fn a'.tmps).run P w'' = .ok (if h : (vs.map (conc θ')).toArray.size = 1 then (vs.map (conc θ')).toArray[0] else .tuple (vs.map (conc θ')).toArray) w'' := by
      have em : (fn.results.mapM (resv a'.tmps)).run P w'' = .ok (vs.map (conc θ')).toArray w'' := by simp [Array.mapM_eq_mapM_toList, hrun]
      rw [results_eq, Sem.run_bind, em]
      rfl
    refine ⟨_, hres, vs, h2, θ', ?_, (hP.same e1 e2 e3).trans hP', hK⟩
    match vs, hbv with
    | [], hbv => exact ⟨by simp [one, conc], by simp only [one, bd]; exact hbv⟩
    | [u], hbv => rw [show one [u] = u from rfl]; exact ⟨by simp, hbv _ (by simp)⟩
    | u :: u' :: us, hbv => exact ⟨by simp [one, conc], by simp only [one, bd]; exact hbv⟩
  rcases he with rfl | rfl <;> (subst hex; exact key)
/-- The range over a function: what the function's own statement does, the rounds among it. -/
theorem Tri.rangeF (hB : TabOK P tb base) {g : Operand} {ps : Array Tmp} {assign body : Code} {A : AA} {h h0 h1 : AH} {Q : Post3} {f : FuncId} {first cap : List AV} {fnc : Func} {c : Code}
    (ha : h.add (.dfr false) = some h0) (hadd : h0.add (.loop { busy := false, done := false, pending := none, params := ps, assign, body, t := A.t, nt := A.n, dfr := h.next }) = some h1) (hg : A.ev g = some (.fn f first cap))
    (hf : P.funcs[f]? = some fnc) (hent : EnterOK P f) (hc : fnc.body = some c) (hl1 : (first ++ [AV.yld h0.next] ++ cap).length ≤ fnc.ntmps) (hl2 : (first ++ [AV.yld h0.next] ++ cap).length < 1024)
    (hT : ∀ E' : Ent, E'.h = h1 → Tri P base E' c ⟨args0 (first ++ [AV.yld h0.next] ++ cap) 0 .e, fnc.ntmps, []⟩ h1 (fun e A' h' => (e = .norm ∨ e = .ret) ∧ ∃ h2 vs, leaves tb A'.ds (h'.start []) = some h2 ∧ aresults h2 A' tb fnc.results.toList = some vs ∧ All h2.sc ∧ ∃ r h3, h2.m.get h0.next = some (.loop r) ∧ r.busy = false ∧ aset h2 h0.next { r with done := true } = some h3 ∧
      (match r.pending with
        | none => Q .norm { A with ds := AD.col h.next :: A.ds } h3
        | some c' => Tri P base E c' { A with ds := AD.col h.next :: A.ds } h3 Q))) :
    Tri P base E (.rangeFunc g ps assign body) A h Q := fun θ a w hPE hA => by
  have hR := hPE.r
  refine wpIn_rangeFunc fun fn _ => ?_
  obtain ⟨θ0, w0, hP0, hdfr, hbm, henter⟩ : ∃ θ0 w0, Post base θ h w θ0 h0 w0 ∧ h.next < h0.next ∧ (∀ d ∈ [AD.col h.next], bdD θ0 h0.next d) ∧
      (Instr.enterLoop fn a.tmps ps assign body (none)).run P w = .ok (w0.heap.size, [AD.col h.next].map (concD θ0)) (w0.alloc (.loop { state := .ready, pending := none, fn, tmps := a.tmps, params := ps, assign, body, defers := (θ0 h.next).b })) := by
    have hsame := upd_same θ h.next ⟨w.heap.size, 0, none⟩
    have hsp := AH.add_spec ha
    refine ⟨upd θ h.next ⟨w.heap.size, 0, none⟩, w.alloc (.deferred (some [])), ?_, by omega, ?_, ?_⟩
    · exact Post.add hR ha (Nat.le_refl _) (fun k hk => Below.heap_alloc w _ k hk) ((Below.refl base w).alloc hR.size _) (show (w.alloc _).heap[(upd θ h.next ⟨w.heap.size, 0, none⟩ h.next).b]? = _ by rw [hsame]; exact heap_alloc_new w _)
    · intro d hd; obtain rfl := List.mem_singleton.1 hd; show h.next < _; omega
    · rw [run_enterLoop_outer]
      simp [concD, hsame]
  have hA0 := hA.ext hP0.ext hP0.next
  have hsp1 := AH.add_spec hadd
  have hsame := upd_same θ0 h0.next ⟨w0.heap.size, fn, none⟩
  have hE1 := upd_ext θ0 h0.next ⟨w0.heap.size, fn, none⟩
  have hP1 : Post base θ0 h0 w0 (upd θ0 h0.next ⟨w0.heap.size, fn, none⟩) h1 (w0.alloc (.loop { state := .ready, pending := none, fn, tmps := a.tmps, params := ps, assign, body, defers := (θ0 h.next).b })) := by
    refine Post.add hP0.r hadd (Nat.le_refl _) (fun k hk => Below.heap_alloc w0 _ k hk) ((Below.refl base w0).alloc hP0.r.size _) ⟨by show h.next < h0.next + 1; omega, _, by rw [hsame]; exact heap_alloc_new w0 _, fun _ => rfl, fun _ => by simp, rfl, rfl, rfl, rfl, hA0.kt.ext hE1 (Nat.le_succ _), hA0.size, by rw [hE1 h.next hdfr], by rw [hsame]⟩
  have hA1 := hA0.ext hP1.ext hP1.next
  obtain ⟨hbf, hf'⟩ := hA1.ev g _ hg
  simp only [bd] at hbf
  have hba : bdl (upd θ0 h0.next ⟨w0.heap.size, fn, none⟩) h1.next (first ++ [AV.yld h0.next] ++ cap) := fun y hy => by
    rcases List.mem_append.1 hy with hy | hy
    · rcases List.mem_append.1 hy with hy | hy
      · exact hbf.1 y hy
      · obtain rfl := List.mem_singleton.1 hy; simp only [bd]; omega
    · exact hbf.2 y hy
  have hcall := call_tri (K := fun _ h2 => ∃ r h3, h2.m.get h0.next = some (.loop r) ∧ r.busy = false ∧ aset h2 h0.next { r with done := true } = some h3 ∧
      (match r.pending with
        | none => Q .norm { A with ds := AD.col h.next :: A.ds } h3
        | some c' => Tri P base E c' { A with ds := AD.col h.next :: A.ds } h3 Q)) hB hf hc ⟨hl1, hl2⟩ hP1.r hba hT
  refine ⟨w0.heap.size, [AD.col h.next].map (concD θ0), (w0.alloc (.loop { state := .ready, pending := none, fn, tmps := a.tmps, params := ps, assign, body, defers := (θ0 h.next).b })), { target := .fn (.func f) (cap.map (conc (upd θ0 h0.next ⟨w0.heap.size, fn, none⟩))).toArray, args := (first.map (conc (upd θ0 h0.next ⟨w0.heap.size, fn, none⟩))).toArray ++ #[.func (.yield w0.heap.size) #[] #[]] }, (w0.alloc (.loop { state := .ready, pending := none, fn, tmps := a.tmps, params := ps, assign, body, defers := (θ0 h.next).b })), f, ((first ++ [AV.yld h0.next] ++ cap).map (conc (upd θ0 h0.next ⟨w0.heap.size, fn, none⟩))).toArray, (w0.alloc (.loop { state := .ready, pending := none, fn, tmps := a.tmps, params := ps, assign, body, defers := (θ0 h.next).b })), henter, ?_, fun _ _ => trivial, ?_, by simp [FW, Fence.wide], ?_⟩
  · simp only [resolve, rangeCall, hf', conc, Deferred.ofValue]
    simp [Act.eval]
  · have e1 : (first.map (conc (upd θ0 h0.next ⟨w0.heap.size, fn, none⟩))).toArray ++ #[.func (.yield w0.heap.size) #[] #[]] ++ (cap.map (conc (upd θ0 h0.next ⟨w0.heap.size, fn, none⟩))).toArray = ((first ++ [AV.yld h0.next] ++ cap).map (conc (upd θ0 h0.next ⟨w0.heap.size, fn, none⟩))).toArray := by
      simp [conc, hsame]
    simp only [invoke, e1]
    exact hent _ _
  · refine (FW_calls hcall).mono fun ex w' he => ?_
    obtain ⟨vs, h2, θ2, hex0, hP2, r, h3, hm, hbusy, hset, hx⟩ := he
    obtain ⟨rfl, _⟩ := hex0
    obtain ⟨hidn, hbase, hok⟩ := hP2.r.obj h0.next _ hm
    obtain ⟨hdn, L, hL, hst, hst', hpend, hps, has, hbo, hkt, hnt, hdef⟩ := hok
    have hbeq : (θ2 h0.next).b = w0.heap.size := by rw [hP2.ext h0.next (by omega), hsame]
    rw [hbeq] at hL hbase
    have hlt : w0.heap.size < w'.heap.size := (Array.getElem?_eq_some_iff.1 hL).1
    have hbf' : r.busy = false := hbusy
    have hsp3 := AH.put_spec hset
    have hP3 : Post base θ2 h2 w' θ2 h3 (w'.putObj w0.heap.size (.loop { L with state := .exhausted })) := by
      refine Post.put hP2.r hm hset (fun k hk => World.putObj_heap_other (by rw [← hbeq]; exact hk)) (by simp) (putObj_below hbase) ?_
      refine ⟨hdn, { L with state := .exhausted }, by rw [hbeq]; exact World.putObj_heap_same hlt, ?_, fun _ => by simp, hpend, hps, has, hbo, hkt, hnt, hdef⟩
      intro hx
      rcases hx with hx | hx
      · simp at hx
      · rw [hbf'] at hx; cases hx
    have hPall := (hP0.trans hP1).trans (hP2.trans hP3)
    have hA3 : AOK θ2 h3.next { A with ds := AD.col h.next :: A.ds } { a with defers := [AD.col h.next].map (concD θ0) ++ a.defers } := by
      have hA2 := hA.ext hPall.ext hPall.next
      refine ⟨hA2.size, hA2.kt, ?_, fun d hd => ?_⟩
      · have : [AD.col h.next].map (concD θ2) = [AD.col h.next].map (concD θ0) := List.map_congr_left fun d hd => concD_ext ((hP1.trans (hP2.trans hP3)).ext) (hbm d hd)
        rw [show AD.col h.next :: A.ds = [AD.col h.next] ++ A.ds from rfl]
        simp only [List.map_append, this, hA2.ds]
      · rcases List.mem_append.1 (show d ∈ [AD.col h.next] ++ A.ds from hd) with hd | hd
        · exact bdD_ext (hP1.trans (hP2.trans hP3)).ext (hP1.trans (hP2.trans hP3)).next (hbm d hd)
        · exact hA2.bds d hd
    refine ⟨r.pending, w'.putObj w0.heap.size (.loop { L with state := .exhausted }), by rw [← hpend]; exact run_endLoop (P := P) hL (hst' hbf'), ?_⟩
    have hPE3 := hPE.trans hPall
    split at hx
    · rename_i hpn
      rw [hpn]
      exact ⟨.norm, _, _, θ2, rfl, hx, hPE3, hA3⟩
    · rename_i c' hpn
      rw [hpn]
      exact hx θ2 _ _ hPE3 hA3
/-- How an iterator's statement ends, worked out: the range's block, then what comes behind the range (X), or the code that a round left by. -/
noncomputable def rngR (tb : Tab) (fn : Func) (lid dfr : Nat) (A : AA) (X : AA → AH → Prop) (Q : Post3) (A' : AA) (h' : AH) : Prop := match leaves tb A'.ds (h'.start []) with
  | some h2 => match aresults h2 A' tb fn.results.toList with
    | some _ => match h2.m.get lid with
      | some (.loop r) => match r.busy with
        | false => match aset h2 lid { r with done := true } with
          | some h3 => All h2.sc ∧ (match r.pending with
            | none => X { A with ds := AD.col dfr :: A.ds } h3
            | some c' => pathP (exec tb 200 c' none { A with ds := AD.col dfr :: A.ds } (h3.start [])) Q)
          | none => False
        | true => False
      | _ => False
    | none => False
  | none => False
noncomputable def rngP (tb : Tab) (fn : Func) (lid dfr : Nat) (A : AA) (X : AA → AH → Prop) (Q : Post3) : Post3 := fun e A' h' => match e with
  | .norm => rngR tb fn lid dfr A X Q A' h'
  | .ret => rngR tb fn lid dfr A X Q A' h'
  | _ => False
theorem rngR_ok (hB : TabOK P tb base) {fn : Func} {lid dfr : Nat} {A A' : AA} {X : AA → AH → Prop} {Q : Post3} {h' : AH} (hX : ∀ A h, X A h → Q .norm A h) (hx : rngR tb fn lid dfr A X Q A' h') :
    ∃ h2 vs, leaves tb A'.ds (h'.start []) = some h2 ∧ aresults h2 A' tb fn.results.toList = some vs ∧ All h2.sc ∧ ∃ r h3, h2.m.get lid = some (.loop r) ∧ r.busy = false ∧ aset h2 lid { r with done := true } = some h3 ∧
      (match r.pending with
        | none => Q .norm { A with ds := AD.col dfr :: A.ds } h3
        | some c' => Tri P base E c' { A with ds := AD.col dfr :: A.ds } h3 Q) := by
  unfold rngR at hx
  split at hx <;> try exact hx.elim
  rename_i h2 e1
  split at hx <;> try exact hx.elim
  rename_i vs e2
  split at hx <;> try exact hx.elim
  rename_i r e3
  split at hx <;> try exact hx.elim
  rename_i e4
  split at hx <;> try exact hx.elim
  rename_i h3 e5
  refine ⟨h2, vs, e1, e2, hx.1, r, h3, e3, e4, e5, ?_⟩
  have hx := hx.2
  split at hx
  · exact hX _ _ hx
  · exact Tri.path hB 200 [] hx
/-- The range over a function, worked out at its ends. -/
theorem tri_rangeP (hB : TabOK P tb base) {g : Operand} {ps : Array Tmp} {assign body : Code} {A : AA} {h h0 h1 : AH} {Q : Post3} {f : FuncId} {first cap : List AV} {fnc : Func} (X : AA → AH → Prop) (hX : ∀ A h, X A h → Q .norm A h)
    (ha : h.add (.dfr false) = some h0) (hadd : h0.add (.loop { busy := false, done := false, pending := none, params := ps, assign, body, t := A.t, nt := A.n, dfr := h.next }) = some h1) (hg : A.ev g = some (.fn f first cap))
    (hf : P.funcs[f]? = some fnc) (hn : (fnc.name == "runtime.NumGoroutine") = false) (hc : fnc.body.isSome = true) (hl1 : (first ++ [AV.yld h0.next] ++ cap).length ≤ fnc.ntmps) (hl2 : (first ++ [AV.yld h0.next] ++ cap).length < 1024)
    (hT : ∀ E' : Ent, E'.h = h1 → Tri P base E' (bodyC fnc) (start fnc (first ++ [AV.yld h0.next] ++ cap)) h1 (rngP tb fnc h0.next h.next A X Q)) :
    Tri P base E (.rangeFunc g ps assign body) A h Q := by
  refine Tri.rangeF hB ha hadd hg hf (enter_of hf hn hc) (c := bodyC fnc) (by unfold bodyC; cases h : fnc.body with | none => rw [h] at hc; cases hc | some c => rfl) hl1 hl2 fun E' hE' => ?_
  refine Tri.mono (hT E' hE') fun e A' h' hx => ?_
  cases e with
  | norm => exact ⟨.inl rfl, rngR_ok hB hX hx⟩
  | ret => exact ⟨.inr rfl, rngR_ok hB hX hx⟩
  | exit i => exact hx.elim
  | goto l => exact hx.elim
/-- The range over a function at a place. -/
noncomputable def isRange (l : List Code) (k : Nat) : Bool := match l[k]? with
  | some (.block _ (.rangeFunc _ _ _ _)) => true
  | _ => false
noncomputable def rgId (l : List Code) (k : Nat) : Nat := match l[k]? with
  | some (.block id (.rangeFunc _ _ _ _)) => id
  | _ => 0
noncomputable def rgG (l : List Code) (k : Nat) : Operand := match l[k]? with
  | some (.block _ (.rangeFunc g _ _ _)) => g
  | _ => .tmp 0
noncomputable def rgP (l : List Code) (k : Nat) : Array Tmp := match l[k]? with
  | some (.block _ (.rangeFunc _ p _ _)) => p
  | _ => #[]
noncomputable def rgA (l : List Code) (k : Nat) : Code := match l[k]? with
  | some (.block _ (.rangeFunc _ _ a _)) => a
  | _ => .skip
noncomputable def rgB (l : List Code) (k : Nat) : Code := match l[k]? with
  | some (.block _ (.rangeFunc _ _ _ b)) => b
  | _ => .skip
noncomputable def rgL (A : AA) (d : Nat) (l : List Code) (k : Nat) : ALoop := { busy := false, done := false, pending := none, params := rgP l k, assign := rgA l k, body := rgB l k, t := A.t, nt := A.n, dfr := d }
/-- How a range is left: what comes behind it, worked out, or the end. -/
noncomputable def behQ (id : Nat) (X : AA → AH → Prop) (Q : Post3) : Post3 := fun e A h => match e with
  | .norm => X A h
  | .exit j => match Nat.beq j id with
    | true => X A h
    | false => Q (.exit j) A h
  | .ret => Q .ret A h
  | .goto l => Q (.goto l) A h
theorem flat_range {l : List Code} {k : Nat} (hc : isRange l k = true) : l = l.take k ++ (.block (rgId l k) (.rangeFunc (rgG l k) (rgP l k) (rgA l k) (rgB l k)) :: l.drop (k + 1)) := by
  unfold isRange at hc
  unfold rgId rgG rgP rgA rgB
  split at hc <;> try (cases hc; done)
  rename_i id g p a b hk
  have hlt := (List.getElem?_eq_some_iff.1 hk).1
  conv => lhs; rw [← List.take_append_drop k l]
  rw [List.drop_eq_getElem_cons hlt]
  have := (List.getElem?_eq_some_iff.1 hk).2
  rw [this]
/-- Statements with a range over a function among them. -/
theorem TriL.ranges {l : List Code} (k : Nat) (hc : isRange l k = true) (J : JS) {A : AA} {h : AH} {Q : Post3} (X : AA → AH → Prop)
    (pre : TriL P base E (l.take k) A h (fun e A' h' => (e = .norm → SLe base E A' h' J.A J.h) ∧ (e ≠ .norm → Q e A' h')))
    (hX : ∀ A h, X A h → TriL P base E (l.drop (k + 1)) A h Q)
    (rng : Tri P base E (.rangeFunc (rgG l k) (rgP l k) (rgA l k) (rgB l k)) J.A J.h (behQ (rgId l k) X Q)) : TriL P base E l A h Q := by
  rw [flat_range hc]
  refine TriL.append (TriL.mono pre fun e A' h' hh => ⟨fun he => ?_, hh.2⟩)
  refine Tri.weaken (hh.1 he) ?_
  refine Tri.block (Tri.mono rng fun e A1 h1 hr => ?_)
  cases e with
  | norm => exact ⟨fun _ => hX _ _ hr, fun he => absurd (by simp) he⟩
  | exit j =>
    unfold behQ at hr
    simp only at hr
    split at hr
    · rename_i hj
      obtain rfl := Nat.eq_of_beq_eq_true hj
      exact ⟨fun _ => hX _ _ hr, fun he => absurd (by simp) he⟩
    · rename_i hj
      have hne : AExit.exit j ≠ AExit.exit (rgId l k) := by intro he; cases he; simp at hj
      rw [if_neg hne]
      exact ⟨fun he => (by cases he), fun _ => hr⟩
  | ret => exact ⟨fun he => (by simp at he), fun _ => hr⟩
  | goto t => exact ⟨fun he => (by simp at he), fun _ => hr⟩
noncomputable def oneA (v : AV) : AA := ⟨T.set (some v) 11 .e 0, 1, []⟩
/-- A function of abstract values, by its own statement; what is behind the call is said by a state whose slot 0 is the result. -/
theorem nat_tri (hB : TabOK P tb base) {f : FuncId} {fn : Func} {c : Code} (hpf : P.funcs[f]? = some fn) (hent : EnterOK P f) (hc : fn.body = some c) {g : AH → List AV → Option (AV × AH)}
    (H : ∀ h args v h', g h args = some (v, h') → (All h'.sc → All h.sc) ∧ (All h'.sc → (args.length ≤ fn.ntmps ∧ args.length < 1024) ∧ ∀ E' : Ent, E'.h = h → Tri P base E' c ⟨args0 args 0 .e, fn.ntmps, []⟩ h (fun e A h1 => (e = .norm ∨ e = .ret) ∧ ∃ h2 vs, leaves tb A.ds (h1.start []) = some h2 ∧ aresults h2 A tb fn.results.toList = some vs ∧ All h2.sc ∧
      ∃ (σ : Nat → Nat) (J : JS), All (wk σ h.next (oneA (one vs)) h2 J) ∧ J.A.t.get 0 = some v ∧ h'.m = J.h.m ∧ h'.next = J.h.next ∧ h'.ro = J.h.ro))) : NatOK P base f g := by
  refine ⟨hent, fun h args v h' hg => ?_⟩
  obtain ⟨h1, h2⟩ := H h args v h' hg
  refine ⟨h1, fun hs θ w hR hb => ?_⟩
  obtain ⟨hlen, hT⟩ := h2 hs
  refine (call_tri (K := fun vs h2 => ∃ (σ : Nat → Nat) (J : JS), All (wk σ h.next (oneA (one vs)) h2 J) ∧ J.A.t.get 0 = some v ∧ h'.m = J.h.m ∧ h'.next = J.h.next ∧ h'.ro = J.h.ro) hB hpf hc hlen hR hb hT).mono fun e w' he => ?_
  obtain ⟨vs, h2, θ2, ⟨rfl, hbv⟩, hP, σ, J, hw, hv, e1, e2, e3⟩ := he
  have hA : AOK θ2 h2.next (oneA (one vs)) { tmps := #[conc θ2 (one vs)], defers := [] } := by
    refine ⟨rfl, fun i u hu => ?_, rfl, fun d hd => by cases hd⟩
    by_cases hi : i = 0
    · subst hi
      rw [show (oneA (one vs)).t = T.set (some (one vs)) 11 .e 0 from rfl, T.get_set_same _ 11 _ _ (by decide)] at hu
      cases hu
      exact ⟨hbv, rfl⟩
    · rw [show (oneA (one vs)).t = T.set (some (one vs)) 11 .e 0 from rfl, T.get_set_other _ _ _ _ _ hi] at hu
      simp at hu
  obtain ⟨θ3, hP3, hA3⟩ := wk_ok (E := ⟨θ, h, w⟩) rfl hw θ2 _ w' hP hA
  obtain ⟨hb3, ht3⟩ := hA3.kt 0 v hv
  have hc3 : conc θ3 v = conc θ2 (one vs) := by
    have : (#[conc θ2 (one vs)] : Array Value)[0]? = some (conc θ3 v) := ht3
    simpa using this.symm
  exact ⟨θ3, by rw [hc3], by rw [e2]; exact hb3, hP3.same e1 e2 e3⟩
end
end Go.Proofs.YtknplcpjmpmblaaDoor.GY
