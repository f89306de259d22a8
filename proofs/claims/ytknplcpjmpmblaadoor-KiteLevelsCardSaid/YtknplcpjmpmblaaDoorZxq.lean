/- Runs that end in a panic. -/
import Derived.Test.YtknplcpjmpmblaaDoorZxm
import Derived.RecoverIn
set_option linter.unusedVariables false
set_option linter.unusedSimpArgs false
namespace Go.Proofs.YtknplcpjmpmblaaDoor.GX
open Go Go.RowKit

/-- The function is there. -/
def HasFn (P : Program) (f : FuncId) : Prop := ∃ fn, P.funcs[f]? = some fn
/-- A statement that ends in a panic, in frames of functions that are there. -/
def wpE (rd : Option Nat) (P : Program) (c : Code) (Q : List PanicEntry → Act → World → Prop) (a : Act) (w : World) : Prop :=
  ∀ (b : Frame) (k : List Item) (cs : List Frame), b.roundOf = rd → HasFn P b.fn → ∃ ch a' w', Q ch a' w' ∧ ∃ todo, StepsIn (Machine.fenced P Fence.wide) P (lone (b.atR a (.code c :: k)) cs w) (lone { b.atR a' todo with mode := .panicking ch } cs w')
section
variable {P : Program} {rd : Option Nat} {Q : List PanicEntry → Act → World → Prop} {a : Act} {w : World}
theorem room_FW (rd : Option Nat) (n : Nat) : (FW rd).room n := fun _ h => by simp [FW, Fence.wide] at h
theorem wpE_of_wpIn {c : Code} (h : c.wpIn (FW rd) 0 P (fun ex a' w' => ∃ ch, ex = .panic ch ∧ Q ch a' w') a w) : wpE rd P c Q a w := by
  intro b k cs hr hf
  obtain ⟨e, a', w', ⟨ch, rfl, hq⟩, harr⟩ := h b k cs hr trivial (room_FW rd _)
  exact ⟨ch, a', w', hq, harr⟩
theorem wpE_seq1 {x y : Code} (h : wpE rd P x Q a w) : wpE rd P (.seq x y) Q a w := by
  intro b k cs hr hf
  obtain ⟨ch, a', w', hq, todo, hs⟩ := h b (.code y :: k) cs hr hf
  exact ⟨ch, a', w', hq, todo, .head (fenced_wide _ _) stepR_seq hs⟩
theorem wpE_seq2 {x y : Code} (h : x.wpIn (FW rd) 0 P (fun ex a' w' => ex = .normal ∧ wpE rd P y Q a' w') a w) : wpE rd P (.seq x y) Q a w := by
  intro b k cs hr hf
  obtain ⟨e, a1, w1, ⟨rfl, h2⟩, harr⟩ := h b (.code y :: k) cs hr trivial (room_FW rd _)
  obtain ⟨ch, a', w', hq, todo, hs⟩ := h2 b k cs hr hf
  exact ⟨ch, a', w', hq, todo, .head (fenced_wide _ _) stepR_seq (StepsIn.trans harr hs)⟩
theorem wpE_cond {c : Operand} {x y : Code} {t : Bool} (hc : a.eval c = .bool t) (h : wpE rd P (if t then x else y) Q a w) : wpE rd P (.cond c x y) Q a w := by
  intro b k cs hr hf
  obtain ⟨ch, a', w', hq, todo, hs⟩ := h b k cs hr hf
  exact ⟨ch, a', w', hq, todo, .head (fenced_wide _ _) (stepR_cond hc) hs⟩
theorem wpE_block {id : Nat} {c : Code} (h : wpE rd P c Q a w) : wpE rd P (.block id c) Q a w := by
  intro b k cs hr hf
  obtain ⟨ch, a', w', hq, todo, hs⟩ := h b (.inBlock id :: k) cs hr hf
  exact ⟨ch, a', w', hq, todo, .head (fenced_wide _ _) stepR_block hs⟩
theorem wpE_scope {c : Code} (h : wpE rd P c Q a w) : wpE rd P (.scope c) Q a w := by
  intro b k cs hr hf
  obtain ⟨ch, a', w', hq, todo, hs⟩ := h b (.inScope c :: k) cs hr hf
  have s0 : step P (lone (b.atR a (.code (.scope c) :: k)) cs w) = .next (lone (b.atR a (.code c :: .inScope c :: k)) cs w) := step_lone_go (by simp [stepG, stepG.exec, Frame.atR])
  exact ⟨ch, a', w', hq, todo, .head (fenced_wide _ _) s0 hs⟩
/-- So many rounds of a loop, then a panic. -/
def LoopP (rd : Option Nat) (P : Program) (c : Code) (Q : List PanicEntry → Act → World → Prop) : Nat → Act → World → Prop
  | 0, a, w => wpE rd P c Q a w
  | n + 1, a, w => c.wpIn (FW rd) 0 P (fun ex a' w' => ex = .normal ∧ LoopP rd P c Q n a' w') a w
theorem loopP_ok {c : Code} : ∀ (n : Nat) {a : Act} {w : World}, LoopP rd P c Q n a w → ∀ (b : Frame) (k : List Item) (cs : List Frame), b.roundOf = rd → HasFn P b.fn →
    ∃ ch a' w', Q ch a' w' ∧ ∃ todo, StepsIn (Machine.fenced P Fence.wide) P (lone (b.atR a (.code c :: .inLoop c :: k)) cs w) (lone { b.atR a' todo with mode := .panicking ch } cs w')
  | 0, a, w, h, b, k, cs, hr, hf => h b (.inLoop c :: k) cs hr hf
  | n + 1, a, w, h, b, k, cs, hr, hf => by
    obtain ⟨e, a1, w1, ⟨rfl, h2⟩, harr⟩ := h b (.inLoop c :: k) cs hr trivial (room_FW rd _)
    obtain ⟨ch, a', w', hq, todo, hs⟩ := loopP_ok n h2 b k cs hr hf
    exact ⟨ch, a', w', hq, todo, StepsIn.trans harr (.head (fenced_wide _ _) stepR_inLoop hs)⟩
theorem wpE_loop {c : Code} (n : Nat) (h : LoopP rd P c Q n a w) : wpE rd P (.loop c) Q a w := by
  intro b k cs hr hf
  obtain ⟨ch, a', w', hq, todo, hs⟩ := loopP_ok n h b k cs hr hf
  exact ⟨ch, a', w', hq, todo, .head (fenced_wide _ _) stepR_loop hs⟩
theorem wpE_mono {c : Code} {Q' : List PanicEntry → Act → World → Prop} (h : wpE rd P c Q a w) (hq : ∀ ch a w, Q ch a w → Q' ch a w) : wpE rd P c Q' a w :=
  fun b k cs hr hf => let ⟨ch, a', w', q, r⟩ := h b k cs hr hf; ⟨ch, a', w', hq _ _ _ q, r⟩
/-- One round that ends in a panic. -/
theorem roundIn_of_wpE {l : Nat} {f : FuncId} {tmps : Array Value} {assign body : Code} {w : World} {R : Ending → World → Prop} (hf : HasFn P f)
    (h : assign.wpIn (FW (some l)) 0 P (fun ex a₁ w₁ => ex = .normal ∧ ∃ w₂, (Instr.beginRound l).run P w₁ = .ok () w₂ ∧ wpE (some l) P body (fun ch a w => a.defers = [] ∧ R (.panicked ch) w) a₁ w₂) { tmps := tmps, defers := [] } w) :
    RoundIn (FW rd) 0 P l f tmps assign body w R := by
  refine ⟨trivial, fun c cs hr => ?_⟩
  let b : Frame := { (default : Frame) with fn := f, kind := .normal, roundOf := some l }
  have hb0 : Frame.round l f tmps assign body .normal = b.atR { tmps := tmps, defers := [] } [.code assign, .beginRound, .code body] := by
    simp [Frame.round, Frame.atR, b]
  obtain ⟨e, a₁, w₁, ⟨rfl, w₂, hbr, hbody⟩, harr⟩ := h b [.beginRound, .code body] (c :: cs) rfl trivial (room_FW _ _)
  rw [← hb0] at harr
  have s1 : StepsIn (Machine.fenced P Fence.wide) P (lone (b.atR a₁ [.beginRound, .code body]) (c :: cs) w₁) (lone (b.atR a₁ [.code body]) (c :: cs) w₂) :=
    .one (fenced_wide _ _) (stepR_beginRound rfl hbr)
  obtain ⟨ch, a₂, w₃, ⟨hd, hR⟩, todo, hs⟩ := hbody b [] (c :: cs) rfl hf
  obtain ⟨fn, hfn⟩ := hf
  have hl : Frame.leaving P { b.atR a₂ todo with mode := .panicking ch } w₃ (.panicked ch) := ⟨rfl, hd, fn, hfn⟩
  exact ⟨.panicked ch, w₃, hR, (StepsIn.trans harr s1).trans (StepsIn.trans hs (.one (fenced_wide _ _) (step_leave_panicked hl)))⟩
/-- A range over a function that ends in a panic. -/
theorem wpE_rangeFunc {g : Operand} {ps : Array Tmp} {assign body : Code}
    (h : ∀ fn, HasFn P fn → ∃ (l : Nat) (mark : List Deferred) (w₁ : World) (d : Deferred) (w₁' : World) (f' : FuncId) (args : Array Value) (w₂ : World),
      (Instr.enterLoop fn a.tmps ps assign body rd).run P w = .ok (l, mark) w₁ ∧
      (resolve a.eval (rangeCall g l) 0).run P w₁ = .ok d w₁' ∧
      (invoke d.target d.args).run P w₁' = .ok (.enter f' args) w₂ ∧
      CallsIn (FW none) 0 P f' args w₂ (fun e w' => ∃ ch, e = .panicked ch ∧ Q ch { a with defers := mark ++ a.defers } w')) :
    wpE rd P (Code.rangeFunc g ps assign body) Q a w := by
  intro b k cs hro hb
  obtain ⟨l, mark, w₁, d, w₁', f', args, w₂, he, hres, hinv, hF, hcall⟩ := h b.fn hb
  rw [← hro] at he
  have henter := stepR_rangeFunc (P := P) (b := b) (a := a) (k := k) (cs := cs) (w := w) he hres hinv
  obtain ⟨e, w₃, fr, ⟨ch, rfl, hR⟩, hsteps, hfn, hleave⟩ := hcall (b.atR { a with defers := mark ++ a.defers } (.inRangeFunc l :: k) :: cs) (room_FW _ _)
  refine ⟨ch, _, w₃, hR, .inRangeFunc l :: k, .head (fenced_wide _ _) henter (StepsIn.trans hsteps (.one (fenced_wide _ _) ?_))⟩
  rw [← Frame.raise_atR]; exact step_leave_panicked hleave
end
/-- A function's contract, where its body ends in a panic. -/
theorem callsIn_of_wpE {P : Program} {f : FuncId} {fn : Func} {c : Code} {args : Array Value} {w : World} {R : Ending → World → Prop}
    (hf : P.funcs[f]? = some fn) (hb : fn.body = some c)
    (h : wpE none P c (fun ch a w => LeavesInM (FW none) 0 P fn a.tmps R a.defers (.panicking ch) w) { tmps := args ++ Array.replicate (fn.ntmps - args.size) undef, defers := [] } w) : CallsIn (FW none) 0 P f args w R := by
  refine ⟨trivial, fun cs hr => ?_⟩
  let b : Frame := { (default : Frame) with fn := f, kind := .normal, roundOf := none }
  have henter : Frame.enter P f args .normal =
      b.atR { tmps := args ++ Array.replicate (fn.ntmps - args.size) undef, defers := [] } [.code c] := by
    simp [Frame.enter, Frame.atR, hf, hb, b]
  obtain ⟨ch, a', w', hq, todo, hs₀⟩ := h b [] cs rfl ⟨fn, hf⟩
  rw [← henter] at hs₀
  obtain ⟨e', w'', fr', hR, hs, hfn, hl⟩ := leaves_stepsInM a'.defers (.panicking ch) w' { b.atR a' todo with mode := .panicking ch } cs rfl rfl rfl hf rfl trivial hr hq
  exact ⟨e', w'', fr', hR, ComesIn.of_steps hs₀ hs, hfn, hl⟩

/-- A run that ends in a panic: the value, what is known of the activation, the memory. -/
abbrev RP := Option (AV × AA × AH)
/-- By loops that the panic passes, and by hints. -/
abbrev RecP := List Nat → List Nat → Code → Option Nat → AA → AH → RP
def BehindP (base : Bs) (θ : Th) (h : AH) (w : World) (v : AV) (A' : AA) (h' : AH) : List PanicEntry → Act → World → Prop :=
  fun ch a' w' => ∃ θ', ch = [{ v := conc θ' v, recovered := false }] ∧ Post base θ h w θ' h' w' ∧ bd θ' h'.next v ∧ AOK θ' h'.next A' a'
def SoundP (P : Program) (base : Bs) (recP : RecP) : Prop :=
  ∀ ls hh c rd A h v A' h', recP ls hh c rd A h = some (v, A', h') → ∀ θ a w, R base θ h w → AOK θ h.next A a → (∀ l, rd = some l → l < h.next) → (∀ l ∈ ls, l < h.next ∧ HasFn P (θ l).c) →
    wpE (rdB θ rd) P c (BehindP base θ h w v A' h') a w
/-- Nothing is known of the temporaries that a region sets. -/
noncomputable def eraseD : List Oper → AA → AA
  | [], A => A
  | o :: os, A => match o.dst, A with
    | some d, ⟨t, n, ds⟩ => if d < 1024 then eraseD os ⟨T.set none 11 t d, n, ds⟩ else eraseD os ⟨.e, n, ds⟩
    | none, A => eraseD os A
theorem eraseD_ok {θ : Th} {n : Nat} : ∀ (l : List Oper) {A : AA} {a : Act}, AOK θ n A a → AOK θ n (eraseD l A) a
  | [], A, a, hA => hA
  | o :: os, ⟨t, m, ds⟩, a, hA => by
    unfold eraseD
    split
    · rename_i d t' m' ds' _ heq
      cases heq
      split
      · rename_i hd
        refine eraseD_ok os ⟨hA.size, fun i v hv => ?_, hA.ds, hA.bds⟩
        by_cases hi : i = d
        · subst hi
          rw [T.get_set_same _ 11 _ _ (Nat.lt_of_le_of_lt (Nat.succ_le_succ (Nat.le_of_lt hd)) (by decide))] at hv; cases hv
        · rw [T.get_set_other _ _ _ _ _ hi] at hv; exact hA.kt i v hv
      · exact eraseD_ok os ⟨hA.size, fun i v hv => (by simp [T.get] at hv), hA.ds, hA.bds⟩
    · exact eraseD_ok os hA
theorem eraseD_get : ∀ (l : List Oper) {A : AA} {o : Oper} {d : Nat}, o ∈ l ∨ A.t.get d = none → (o ∈ l → o.dst = some d) → (eraseD l A).t.get d = none
  | [], A, o, d, h, _ => h.resolve_left (by simp)
  | o' :: os, ⟨t, m, ds⟩, o, d, h, ho => by
    unfold eraseD
    have key : ∀ t' : T AV, (t.get d = none → t'.get d = none) → (o'.dst = some d → t'.get d = none) → (eraseD os ⟨t', m, ds⟩).t.get d = none := fun t' h1 h2 => by
      rcases h with h | h
      · rcases List.mem_cons.1 h with rfl | h'
        · exact eraseD_get os (o := o) (.inr (h2 (ho h))) (fun hm => ho (List.mem_cons_of_mem _ hm))
        · exact eraseD_get os (o := o) (.inl h') (fun hm => ho (List.mem_cons_of_mem _ hm))
      · exact eraseD_get os (o := o) (.inr (h1 h)) (fun hm => ho (List.mem_cons_of_mem _ hm))
    split
    · rename_i d' t' m' ds' hd0 heq
      cases heq
      split
      · rename_i hd
        refine key _ (fun h0 => ?_) (fun h0 => ?_)
        · by_cases hi : d = d'
          · subst hi
            exact T.get_set_same _ 11 _ _ (Nat.lt_of_le_of_lt (Nat.succ_le_succ (Nat.le_of_lt hd)) (by decide))
          · rw [T.get_set_other _ _ _ _ _ hi]; exact h0
        · rw [hd0] at h0; cases h0
          exact T.get_set_same _ 11 _ _ (Nat.lt_of_le_of_lt (Nat.succ_le_succ (Nat.le_of_lt hd)) (by decide))
      · exact key _ (fun _ => by simp [T.get]) (fun _ => by simp [T.get])
    · rename_i hd0
      exact key _ id (fun h0 => by rw [hd0] at h0; cases h0)
/-- What is put into a temporary that a region sets is forgotten. -/
theorem eraseD_unput {θ : Th} {n : Nat} {l : List Oper} {A : AA} {a : Act} {o : Oper} (ho : o ∈ l) {v : Value} (h : AOK θ n (eraseD l A) (a.put o.dst v)) : AOK θ n (eraseD l A) a := by
  cases hd : o.dst with
  | none => rw [hd] at h; exact h
  | some d =>
    rw [hd] at h
    refine ⟨by have := h.size; simpa [Act.put] using this, fun i u hu => ?_, h.ds, h.bds⟩
    obtain ⟨b, e⟩ := h.kt i u hu
    refine ⟨b, ?_⟩
    have hne : d ≠ i := fun he => by
      subst he
      rw [eraseD_get l (o := o) (.inl ho) (fun _ => hd)] at hu; cases hu
    simpa [Act.put, Array.getElem?_setIfInBounds_ne hne] using e

noncomputable def leavesP : List AD → AH → Option AH
  | [], h => some h
  | .col id :: ds, h => match h.m.get id with
    | some (.dfr false) => match h.put id (.dfr true) with
      | some h' => leavesP ds h'
      | none => none
    | _ => none
  | .call _ _ _ :: _, _ => none
noncomputable def xcallP (tb : Tab) (recP : RecP) (ls hh : List Nat) (f : FuncId) (args : List AV) (h : AH) : Option (AV × AH) :=
  match tb.fn.get f with
  | none => none
  | some fn => match fn.body with
    | none => none
    | some c => if args.length ≤ fn.ntmps ∧ args.length < 1024 then match recP ls hh c none { t := args0 args 0 .e, n := fn.ntmps, ds := [] } h with
      | some (v, A, h1) => match leavesP A.ds h1 with
        | some h2 => some (v, h2)
        | none => none
      | none => none
      else none
noncomputable def xroundP (rec : Rec) (recP : RecP) (ls hh : List Nat) (id : Nat) (args : List AV) (h : AH) : Option (AV × AH) :=
  if ls.contains id then match h.m.get id with
  | some (.loop r) => if r.busy = false ∧ r.done = false ∧ args.length = r.params.size then
      match params0 (r.params.toList.zip args) r.t r.nt with
      | some t => match rec r.assign (some id) { t := t, n := r.nt, ds := [] } h with
        | .ok .norm A h1 => match h1.m.get id with
          | some (.loop r1) => if r1.busy = false ∧ r1.done = false then match aset h1 id { r1 with busy := true } with
              | some h2 => match recP ls hh r.body (some id) A h2 with
                | some (v, A', h3) => match A'.ds with
                  | [] => some (v, h3)
                  | _ => none
                | none => none
              | none => none
            else none
          | _ => none
        | _ => none
      | none => none
    else none
  | _ => none
  else none
noncomputable def asPanic : Op → Option Operand
  | .panic x => some x
  | _ => none
noncomputable def ifcOf : Option AV → Option AV
  | some (.ifc t v) => some (.ifc t v)
  | _ => none
noncomputable def xopP1 (tb : Tab) (rec : Rec) (recP : RecP) (ls hh : List Nat) (o : Oper) (A : AA) (h : AH) : Option (AV × AH) :=
  match asPanic o.op with
  | some x => match ifcOf (A.ev x) with
    | some v => some (v, h)
    | none => none
  | none => match asDefer o.op with
    | some _ => none
    | none => match xmem tb h A.ev o with
      | .enter f args => xcallP tb recP ls hh f args h
      | .round id args => xroundP rec recP ls hh id args h
      | _ => none
noncomputable def xopP (tb : Tab) (rec : Rec) (recP : RecP) (ls hh : List Nat) (ops : List Oper) (o : Oper) (A : AA) (h : AH) : Option (AV × AH) :=
  match awanted ops A o with
  | some true => xopP1 tb rec recP ls hh o A h
  | _ => none
noncomputable def xopsP (tb : Tab) (rec : Rec) (recP : RecP) (ls hh : List Nat) (rd : Option Nat) (ops : List Oper) : Nat → List Oper → AA → AH → RP
  | 0, o :: _, A, h => match xopP tb rec recP ls hh ops o A h with
    | some (v, h') => some (v, eraseD ops A, h')
    | none => none
  | n + 1, o :: l, A, h => match xop tb rec ops o rd A h with
    | some (A', h') => xopsP tb rec recP ls hh rd ops n l A' h'
    | none => none
  | _, [], _, _ => none
noncomputable def xdrawP (tb : Tab) (rec : Rec) (recP : RecP) (ls hh : List Nat) (rd : Option Nat) (ops : Array Oper) : Nat → List Step → Held → AA → AH → RP
  | _, [], _, _, _ => none
  | n, .fst i only :: r, L, A, h => match ops[i]? with
    | none => none
    | some o => match xfirst tb L ops.toList A o with
      | some v => match A.put o.dst v with
        | some A' => xdrawP tb rec recP ls hh rd ops n r L A' h
        | none => none
      | none => if only then match xop tb rec ops.toList o rd A h with
          | some (A', h') => if keeps h' L then xdrawP tb rec recP ls hh rd ops n r L A' h' else none
          | none => none
        else none
  | n, .only i fl :: r, L, A, h => match ops[i]? with
    | none => none
    | some o => if floatsOK tb h A ops fl then match n with
        | 0 => if floatOp tb o = false then match xopP tb rec recP ls hh ops.toList o A h with
            | some (v, h') => some (v, eraseD ops.toList A, h')
            | none => none
          else none
        | n + 1 => match xop tb rec ops.toList o rd A h with
          | some (A', h') => if fullAt ops i then xdrawP tb rec recP ls hh rd ops n r [] A' h' else if keeps h' L then xdrawP tb rec recP ls hh rd ops n r L A' h' else none
          | none => none
      else none
  | _, .bar _ :: _, _, _, _ => none
noncomputable def xdrawnP (tb : Tab) (rec : Rec) (recP : RecP) (ls hh : List Nat) (rd : Option Nat) (ops : Array Oper) (n : Nat) (A : AA) (h : AH) : RP :=
  match planOf tb ops with
  | some steps => let A0 := erase tb ops.toList A; xdrawP tb rec recP ls hh rd ops n steps (gather tb h ops steps A0) A0 h
  | none => none
noncomputable def xloopP (rec : Rec) (recP : RecP) (ls hh : List Nat) (c : Code) (rd : Option Nat) : Nat → AA → AH → RP
  | 0, A, h => recP ls hh c rd A h
  | n + 1, A, h => match rec c rd A h with
    | .ok .norm A' h' => xloopP rec recP ls hh c rd n A' h'
    | _ => none
noncomputable def xrangeP (tb : Tab) (recP : RecP) (ls hh : List Nat) (g : Operand) (ps : Array Tmp) (assign body : Code) (rd : Option Nat) (A : AA) (h : AH) : RP :=
  match (match rd with
    | some l => match h.m.get l with
      | some (.loop r) => some (r.dfr, ([] : List AD), h)
      | _ => none
    | none => match h.add (.dfr false) with
      | some h' => some (h.next, [AD.col h.next], h')
      | none => none : Option (Nat × List AD × AH)) with
  | none => none
  | some (dfr, mark, h0) => match h0.add (.loop { busy := false, done := false, pending := none, params := ps, assign, body, t := A.t, nt := A.n, dfr }) with
    | none => none
    | some h1 => match A.ev g with
      | some (.fn f first cap) => match xcallP tb recP (h0.next :: ls) hh f (first ++ [.yld h0.next] ++ cap) h1 with
        | none => none
        | some (v, h2) => some (v, { A with ds := mark ++ A.ds }, h2)
      | _ => none
/-- A statement that ends in a panic. -/
noncomputable def stepP (tb : Tab) (rec : Rec) (recP : RecP) : RecP := fun ls hh c rd A h =>
  match c with
  | .seq x y => match hh with
    | [] => none
    | 0 :: r => recP ls r x rd A h
    | _ :: r => match rec x rd A h with
      | .ok .norm A' h' => recP ls r y rd A' h'
      | _ => none
  | .cond c x y => match A.ev c with
    | some (.lit (.bool t)) => recP ls hh (if t then x else y) rd A h
    | _ => none
  | .block _ c => recP ls hh c rd A h
  | .scope c => recP ls hh c rd A h
  | .loop c => match hh with
    | [] => none
    | n :: r => xloopP rec recP ls r c rd n A h
  | .region _ ops draw => match hh with
    | [] => none
    | n :: r => if draw then xdrawnP tb rec recP ls r rd ops n A h else xopsP tb rec recP ls r rd ops.toList n ops.toList A h
  | .rangeFunc g ps assign body => xrangeP tb recP ls hh g ps assign body rd A h
  | _ => none
noncomputable def execP (tb : Tab) (m n : Nat) : RecP :=
  Nat.rec (motive := fun _ => RecP) (fun _ _ _ _ _ _ => none) (fun _ r => stepP tb (exec tb m) r) n

section
variable {P : Program} {tb : Tab} {rec : Rec} {recP : RecP} {θ : Th} {base : Bs} {h : AH} {w : World}
theorem leavesP_ok {fn : Func} {tmps : Array Value} {R' : Ending → World → Prop} {ch : List PanicEntry} : ∀ {ds : List AD} {h h' : AH} {θ : Th} {w : World}, leavesP ds h = some h' → R base θ h w → (∀ d ∈ ds, bdD θ h.next d) →
    (∀ θ' w', Post base θ h w θ' h' w' → R' (.panicked ch) w') → LeavesInM (FW none) 0 P fn tmps R' (ds.map (concD θ)) (.panicking ch) w
  | [], h, h', θ, w, hl, hR, hb, hk => by
    cases hl
    exact hk θ w (Post.refl hR)
  | .col id :: ds, h, h', θ, w, hl, hR, hb, hk => by
    simp only [leavesP] at hl
    split at hl
    · rename_i hm
      split at hl
      · rename_i h1 hp
        obtain ⟨hidn, hbase, hok⟩ := hR.obj id _ hm
        have hheap : w.heap[(θ id).b]? = some (.deferred (some [])) := hok
        have hP : Post base θ h w θ h1 (w.putObj (θ id).b (.deferred none)) :=
          Post.put hR hm hp (fun k hk => World.putObj_heap_other hk) (by simp) (putObj_below hbase) (World.putObj_heap_same hok.lt)
        refine ⟨by simp, .inl ⟨(θ id).b, _, rfl, run_takeDeferred hheap, ?_⟩⟩
        exact leavesP_ok hl hP.r (fun d hd => by have := hb d (by simp [hd]); rw [(AH.put_spec hp).2.2]; exact this) fun θ' w' hP' => hk θ' w' (hP.trans hP')
      · cases hl
    · cases hl
  | .call _ _ _ :: ds, h, h', θ, w, hl, hR, hb, hk => by simp [leavesP] at hl
/-- What a call is that ends in a panic. -/
def CallP (base : Bs) (θ : Th) (h : AH) (w : World) (v : AV) (h' : AH) : Ending → World → Prop :=
  fun e w' => ∃ θ', e = .panicked [{ v := conc θ' v, recovered := false }] ∧ bd θ' h'.next v ∧ Post base θ h w θ' h' w'
theorem args0_AOK {fn : Func} {args : List AV} (hR : R base θ h w) (hl1 : args.length ≤ fn.ntmps) (hl2 : args.length < 1024) (hb : bdl θ h.next args) :
    AOK θ h.next { t := args0 args 0 .e, n := fn.ntmps, ds := [] } { tmps := (args.map (conc θ)).toArray ++ Array.replicate (fn.ntmps - (args.map (conc θ)).toArray.size) undef, defers := [] } := by
  refine ⟨by simp; omega, fun i u hu => ?_, rfl, fun d hd => by cases hd⟩
  rw [args0_get args 0 .e i (by omega)] at hu
  split at hu
  · rename_i hi
    simp only [Nat.sub_zero] at hu
    refine ⟨hb u (List.mem_of_getElem? hu), ?_⟩
    simp only [Array.getElem?_append]
    rw [if_pos (by simp; omega)]
    simp [hu]
  · cases hu
theorem xcallP_ok (hB : TabOK P tb base) (hSP : SoundP P base recP) {ls hh : List Nat} {f : FuncId} {args : List AV} {v : AV} {h' : AH} (hx : xcallP tb recP ls hh f args h = some (v, h')) :
    ∀ θ w, R base θ h w → bdl θ h.next args → (∀ l ∈ ls, l < h.next ∧ HasFn P (θ l).c) → EnterOK P f ∧ CallsIn (FW none) 0 P f (args.map (conc θ)).toArray w (CallP base θ h w v h') := by
  unfold xcallP at hx
  split at hx <;> try (cases hx; done)
  rename_i fn hfn
  split at hx <;> try (cases hx; done)
  rename_i c hc
  split at hx <;> try (cases hx; done)
  rename_i hlen
  obtain ⟨hl1, hl2⟩ := hlen
  split at hx <;> try (cases hx; done)
  rename_i v1 A h1 hrec
  split at hx <;> try (cases hx; done)
  rename_i h2 hlv
  cases hx
  have hS1 := hSP _ _ _ _ _ _ _ _ _ hrec
  intro θ w hR hb hls
  obtain ⟨hpf, hent⟩ := hB.fn f fn hfn
  refine ⟨hent, callsIn_of_wpE hpf hc ?_⟩
  refine wpE_mono (hS1 θ _ w hR (args0_AOK hR hl1 hl2 hb) (by simp) hls) fun ch a' w' hbe => ?_
  obtain ⟨θ1, rfl, hP, hbv, hA⟩ := hbe
  rw [hA.ds]
  refine leavesP_ok hlv hP.r hA.bds fun θ' w'' hP' => ⟨θ', ?_, bd_ext hP'.ext hP'.next _ hbv, hP.trans hP'⟩
  rw [conc_ext hP'.ext _ hbv]
theorem xroundP_ok (hB : TabOK P tb base) (hS : Sound P base rec) (hSP : SoundP P base recP) {ls hh : List Nat} {id : Nat} {args : List AV} {v : AV} {h' : AH} (hx : xroundP rec recP ls hh id args h = some (v, h')) (rd : Option Nat) :
    ∀ θ w, R base θ h w → bdl θ h.next args → (∀ l ∈ ls, l < h.next ∧ HasFn P (θ l).c) → ∃ f tmps assign body, (Instr.yield (θ id).b (args.map (conc θ)).toArray).run P w = .ok (.round (θ id).b f tmps assign body) w ∧ RoundIn (FW rd) 0 P (θ id).b f tmps assign body w (CallP base θ h w v h') := by
  unfold xroundP at hx
  split at hx <;> try (cases hx; done)
  rename_i hin
  split at hx <;> try (cases hx; done)
  rename_i r hm
  split at hx <;> try (cases hx; done)
  rename_i hc
  obtain ⟨hc1, hc2, hc3⟩ := hc
  split at hx <;> try (cases hx; done)
  rename_i t hpar
  split at hx <;> try (cases hx; done)
  rename_i A h1 hrec1
  split at hx <;> try (cases hx; done)
  rename_i r1 hm1
  split at hx <;> try (cases hx; done)
  rename_i hc1'
  split at hx <;> try (cases hx; done)
  rename_i h2 hset1
  split at hx <;> try (cases hx; done)
  rename_i v3 A' h3 hrec2
  split at hx <;> try (cases hx; done)
  rename_i hds
  cases hx
  have hS1 := hS _ _ _ _ _ _ _ hrec1
  have hS2 := hSP _ _ _ _ _ _ _ _ _ hrec2
  intro θ w hR hb hls
  obtain ⟨hidn, hbase, hok⟩ := hR.obj id _ hm
  obtain ⟨hdfr, L, hL, hst, hst', hpend, hps, has, hbo, hkt, hnt, hdef⟩ := hok
  have hyield := run_yield (P := P) (args := (args.map (conc θ)).toArray) hL (by simp [hps, hc3])
  refine ⟨L.fn, _, L.assign, L.body, hyield, ?_⟩
  have hzip : ((L.params.zip (args.map (conc θ)).toArray).toList) = (r.params.toList.zip args).map fun p => (p.1, conc θ p.2) := by
    rw [Array.toList_zip, hps, List.toList_toArray, List.zip_map_right]; rfl
  have hpk := params0_ok (θ := θ) (n := h.next) hpar hkt hnt (fun p hp => hb p.2 (List.of_mem_zip hp).2)
  rw [← hzip, Array.foldl_toList] at hpk
  have hA0 : AOK θ h.next { t := t, n := r.nt, ds := [] } { tmps := (L.params.zip (args.map (conc θ)).toArray).foldl (fun tmps (t, a) => tmps.setIfInBounds t a) L.tmps, defers := [] } :=
    ⟨hpk.2, hpk.1, rfl, fun d hd => by cases hd⟩
  have hmem : id ∈ ls := by simpa using hin
  refine roundIn_of_wpE (by rw [hdef.2]; exact (hls id hmem).2) ?_
  have h1' := hS1 θ _ w hR hA0 (fun l hl => by cases hl; exact hidn)
  rw [has]
  refine wpIn_mono h1' fun ex a1 w1 hbe => ?_
  obtain ⟨hex, θ1, hP1, hA1⟩ := hbe
  refine ⟨hex, ?_⟩
  obtain ⟨hidn1, hbase1, hok1⟩ := hP1.r.obj id _ hm1
  obtain ⟨hdfr1, L1, hL1, hst1, hst1', hpend1, hps1, has1, hbo1, hkt1, hnt1, hdef1⟩ := hok1
  have hbeq : (θ1 id).b = (θ id).b := by rw [hP1.ext id hidn]
  rw [hbeq] at hL1 hbase1
  have hready : L1.state = .ready := by rw [hst1 (.inl hc1'.2)]; simp [lstate, hc1'.1, hc1'.2]
  refine ⟨_, run_beginRound (P := P) hL1 hready, ?_⟩
  have hlt1 : (θ id).b < w1.heap.size := (Array.getElem?_eq_some_iff.1 hL1).1
  have hsp1 := AH.put_spec hset1
  have hP2 : Post base θ1 h1 w1 θ1 h2 (w1.putObj (θ id).b (.loop { L1 with state := .busy })) := by
    refine Post.put hP1.r hm1 hset1 (fun k hk => World.putObj_heap_other (by rw [← hbeq]; exact hk)) (by simp) (putObj_below hbase1) ?_
    refine ⟨hdfr1, { L1 with state := .busy }, by rw [hbeq]; exact World.putObj_heap_same hlt1, fun _ => by simp [lstate], fun h => by simp at h, hpend1, hps1, has1, hbo1, hkt1, hnt1, hdef1⟩
  have hA1' : AOK θ1 h2.next A a1 := hA1.ext (Ext.refl _ _) (by rw [hsp1.2.2]; exact Nat.le_refl _)
  have hls1 : ∀ l ∈ ls, l < h2.next ∧ HasFn P (θ1 l).c := fun l hl => ⟨by rw [hsp1.2.2]; exact Nat.lt_of_lt_of_le (hls l hl).1 hP1.next, by rw [hP1.ext l (hls l hl).1]; exact (hls l hl).2⟩
  have h2' := hS2 θ1 a1 _ hP2.r hA1' (fun l hl => by cases hl; rw [hsp1.2.2]; exact hidn1) hls1
  simp only [rdB, Option.map_some, hbeq] at h2'
  rw [hbo]
  refine wpE_mono h2' fun ch a2 w2 hbe => ?_
  obtain ⟨θ2, rfl, hP3, hbv, hA2⟩ := hbe
  exact ⟨by rw [hA2.ds, hds]; rfl, θ2, rfl, hbv, hP1.trans (hP2.trans hP3)⟩
theorem xopP1_ok (hB : TabOK P tb base) (hS : Sound P base rec) (hSP : SoundP P base recP) {ls hh : List Nat} {A : AA} {rd : Option Nat} {o : Oper} {v : AV} {h' : AH} (hx : xopP1 tb rec recP ls hh o A h = some (v, h')) :
    ∀ {θ : Th} {w : World} {a : Act}, R base θ h w → AOK θ h.next A a → (∀ l ∈ ls, l < h.next ∧ HasFn P (θ l).c) → ∀ {K : Act → World → Prop} {Q : Exit → Act → World → Prop}, (∀ θ' w', Post base θ h w θ' h' w' → bd θ' h'.next v → Q (.panic [{ v := conc θ' v, recovered := false }]) a w') → o.wpIn (FW (rdB θ rd)) 0 P a w K Q := by
  unfold xopP1 at hx
  split at hx
  · rename_i x hp
    split at hx <;> try (cases hx; done)
    rename_i u hu
    cases hx
    intro θ w a hR hA hls K Q hQ
    have hop : o.op = .panic x := by
      unfold asPanic at hp
      split at hp
      · rename_i x' ho; cases hp; exact ho
      · cases hp
    unfold ifcOf at hu
    split at hu <;> try (cases hu; done)
    rename_i t' v' hev
    cases hu
    obtain ⟨hb, he⟩ := hA.ev x _ hev
    have hd : ∀ c, o.op ≠ .defer c := fun c hc => by rw [hop] at hc; cases hc
    refine ⟨fun _ _ => trivial, ?_⟩
    have hrun : (execOp a.eval o).run P w = .halt (.panic (conc θ (.ifc t' v'))) w := by
      unfold execOp
      simp only [hop, he, conc]
      simp [Instr.panic, goPanic, Sem.run_bind, go_sem]
    rw [Oper.semAt_eq _ _ _ hd, hrun, Oper.uponIn_panic]
    exact hQ θ w (Post.refl hR) hb
  · split at hx <;> try (cases hx; done)
    rename_i hnp hnd
    have hd : ∀ c, o.op ≠ .defer c := fun c hc => by rw [hc] at hnd; cases hnd
    have hm : ∀ (θ : Th) (w : World) (a : Act), R base θ h w → AOK θ h.next A a → XOK P base θ h w (execOp a.eval o) (xmem tb h A.ev o) := fun θ w a hR hA => xmem_ok hB.ty hB.key hR hA.ev o
    generalize xmem tb h A.ev o = X at hx hm
    cases X with
    | enter f args =>
      simp only at hx
      intro θ w a hR hA hls K Q hQ
      obtain ⟨hb, hr⟩ := hm θ w a hR hA
      obtain ⟨hent, hcall⟩ := xcallP_ok hB hSP hx θ w hR hb hls
      refine ⟨fun _ _ => trivial, ?_⟩
      rw [Oper.semAt_eq _ _ _ hd, hr, hent, Oper.uponIn_enter]
      refine ⟨by simp [FW, Fence.wide], (FW_calls hcall).mono fun e w' he => ?_⟩
      obtain ⟨θ', rfl, hbv, hP⟩ := he
      exact hQ θ' w' hP hbv
    | round id args =>
      simp only at hx
      intro θ w a hR hA hls K Q hQ
      obtain ⟨hb, hid, hr⟩ := hm θ w a hR hA
      obtain ⟨f, tmps, assign, body, hy, hround⟩ := xroundP_ok hB hS hSP hx (rdB θ rd) θ w hR hb hls
      refine ⟨fun _ _ => trivial, ?_⟩
      rw [Oper.semAt_eq _ _ _ hd, hr, hy, Oper.uponIn_round]
      refine ⟨by simp [FW, Fence.wide], hround.mono fun e w' he => ?_⟩
      obtain ⟨θ', rfl, hbv, hP⟩ := he
      exact hQ θ' w' hP hbv
    | val v h1 => cases hx
    | skip h1 => cases hx
    | no => cases hx
theorem xopP_ok (hB : TabOK P tb base) (hS : Sound P base rec) (hSP : SoundP P base recP) {ls hh : List Nat} {A : AA} {rd : Option Nat} {ops : Array Oper} {o : Oper} {v : AV} {h' : AH} (hx : xopP tb rec recP ls hh ops.toList o A h = some (v, h')) :
    ∀ {θ : Th} {w : World} {a : Act}, R base θ h w → AOK θ h.next A a → (∀ l ∈ ls, l < h.next ∧ HasFn P (θ l).c) → ∀ {K : Act → World → Prop} {Q : Exit → Act → World → Prop}, (∀ θ' w', Post base θ h w θ' h' w' → bd θ' h'.next v → Q (.panic [{ v := conc θ' v, recovered := false }]) a w') →
      if Region.wanted o (yielded ops a.tmps) then o.wpIn (FW (rdB θ rd)) 0 P a w K Q else (∀ f, o.about P w a.eval = some f → (FW (rdB θ rd)).fn f) ∧ K (a.put o.dst undef) w := by
  unfold xopP at hx
  split at hx <;> try (cases hx; done)
  rename_i hw
  intro θ w a hR hA hls K Q hQ
  have hwa := wanted_ok hA hw
  rw [hwa]
  simp only [if_true]
  exact xopP1_ok (rd := rd) hB hS hSP hx hR hA hls hQ
theorem xopsP_ok (hB : TabOK P tb base) (hS : Sound P base rec) (hSP : SoundP P base recP) {ls hh : List Nat} {rd : Option Nat} {ops : Array Oper} : ∀ (l : List Oper) (n k : Nat), ops.toList.drop k = l → ∀ {h : AH} {A A' : AA} {h' : AH} {v : AV}, xopsP tb rec recP ls hh rd ops.toList n l A h = some (v, A', h') →
    ∀ {θ : Th} {w : World} {a : Act}, R base θ h w → AOK θ h.next A a → (∀ l, rd = some l → l < h.next) → (∀ l ∈ ls, l < h.next ∧ HasFn P (θ l).c) →
    ∀ {Q : Exit → Act → World → Prop}, (∀ θ' a' w', Post base θ h w θ' h' w' → bd θ' h'.next v → AOK θ' h'.next A' a' → Q (.panic [{ v := conc θ' v, recovered := false }]) a' w') → wpOpsIn (FW (rdB θ rd)) 0 P ops Q (List.range' k l.length) a w
  | [], n, k, hk, h, A, A', h', v, hx => by cases n <;> simp [xopsP] at hx
  | o :: l, n, k, hk, h, A, A', h', v, hx => by
    have hok : ops[k]? = some o := by
      rw [← Array.getElem?_toList]
      have := congrArg (·[0]?) hk
      simpa using this
    have hk' : ops.toList.drop (k + 1) = l := by
      rw [← List.drop_drop, hk]; rfl
    cases n with
    | zero =>
      simp only [xopsP] at hx
      split at hx <;> try (cases hx; done)
      rename_i v1 h1 hop
      cases hx
      intro hR hA hrd hls Q hQ
      simp only [List.length_cons, List.range'_succ]
      rw [wpOpsIn]
      simp only [hok]
      exact xopP_ok (rd := rd) hB hS hSP hop hR hA hls fun θ' w' hP hb => hQ θ' _ w' hP hb (eraseD_ok _ (hA.ext hP.ext hP.next))
    | succ n =>
      simp only [xopsP] at hx
      split at hx
      · rename_i A1 h1 h1x
        intro hR hA hrd hls Q hQ
        simp only [List.length_cons, List.range'_succ]
        rw [wpOpsIn]
        simp only [hok]
        exact xop_ok hB hS hR hA h1x fun θ' a' w' hP hA' _ => by
          have hrd' : ∀ l, rd = some l → l < h1.next := fun l hl => Nat.lt_of_lt_of_le (hrd l hl) hP.next
          have := xopsP_ok hB hS hSP l n (k + 1) hk' hx hP.r hA' hrd' (fun l hl => ⟨Nat.lt_of_lt_of_le (hls l hl).1 hP.next, by rw [hP.ext l (hls l hl).1]; exact (hls l hl).2⟩) (Q := Q) fun θ'' a'' w'' hP' hb hA'' => hQ θ'' a'' w'' (hP.trans hP') hb hA''
          rwa [rdB_ext hP.ext hrd] at this
      · cases hx
set_option maxHeartbeats 1000000 in
theorem xdrawP_ok (hB : TabOK P tb base) (hS : Sound P base rec) (hSP : SoundP P base recP) {ls hh : List Nat} {ops : Array Oper} (hsel : Region.noSelect ops = true) {rd : Option Nat} {θs : Th} {hs : AH} {ws : World} {L : Held} (hb0 : SB θs hs.next L) (hrd0 : ∀ l, rd = some l → l < hs.next) (hls0 : ∀ l ∈ ls, l < hs.next ∧ HasFn P (θs l).c) {Q : Exit → Act → World → Prop} (hQp : ∀ (i : Nat) (oi : Oper), ops[i]? = some oi → ∀ c a v w, Q (.panic c) (a.put oi.dst v) w → Q (.panic c) a w) {A' : AA} {v' : AV} {h' : AH}
    (hQ : ∀ θ' a' w', Post base θs hs ws θ' h' w' → bd θ' h'.next v' → AOK θ' h'.next A' a' → Q (.panic [{ v := conc θ' v', recovered := false }]) a' w') :
    ∀ (k : Nat) (listed : Array Bool) (steps : List Step), plan tb ops k listed = some steps → ∀ (kc : Nat) {nh : Nat} {θ : Th} {h : AH} {w : World} {A : AA} {a : Act} {D : List Nat} {LC : Array Bool} {β : Nat → Nat}, ∀ {L' : Held}, (L' = L ∨ L' = [] ∧ ∃ f, fullAt ops f = true ∧ listed.getD f false = true) → Post base θs hs ws θ h w → AOK θ h.next A a →
      G ops (SW θs L) LC w → Closed ops LC → xdrawP tb rec recP ls hh rd ops nh steps L' A h = some (v', A', h') → Rel ops listed D LC → D.Nodup → (∀ i ∈ D, i ∈ Region.ready .any ops listed ∧ allocAt tb ops i = true) → XD P tb ops base ws θ h a w D β → U ops LC ≤ kc →
      wpHeld P ops Q (SW θs L) (rdB θs rd) kc LC a w := by
  intro k
  induction k with
  | zero =>
    intro listed steps hp kc nh θ h w A a D LC β L' hL hP hA hG hcl hx hrel hnd hD hX hU
    simp only [plan] at hp
    split at hp
    · rename_i hr; cases hp; simp [xdrawP] at hx
    · cases hp
  | succ k ih =>
    intro listed steps hp kc nh θ h w A a D LC β L' hL hP hA hG hcl hx hrel hnd hD hX hU
    simp only [plan] at hp
    have hrdn : ∀ l, rd = some l → l < h.next := fun l hl => Nat.lt_of_lt_of_le (hrd0 l hl) hP.next
    have hLset : ∀ i, L' = L ∨ L' = [] ∧ ∃ f, fullAt ops f = true ∧ (listed.setIfInBounds i true).getD f false = true := fun i => hL.imp id fun ⟨e, f, hf, hfl⟩ => ⟨e, f, hf, getD_set_true hfl⟩
    have hgk : ∀ {LC : Array Bool} {D : List Nat} {h1 : AH} {θ' : Th} {w' : World} (j : Nat), Rel ops listed D LC → keeps h1 L' = true → Post base θs hs ws θ' h1 w' → G ops (SW θs L) (LC.setIfInBounds j true) w' := fun {LC D h1 θ' w'} j hrel hke hPP => by
      rcases hL with rfl | ⟨_, f, hf, hfl⟩
      · exact .inr ((SW.ext hb0 hPP.ext).1 (keeps_ok hke hPP.r))
      · have hfs : f < ops.size := by have := getD_lt' hfl; rw [hrel.sl] at this; exact this
        exact .inl ⟨f, hf, getD_set_true ((hrel.get f hfs).2 (.inl hfl))⟩
    have hgf : ∀ {LC : Array Bool} {w w' : World} (j : Nat), Below w.heap.size w w' → G ops (SW θs L) LC w → G ops (SW θs L) (LC.setIfInBounds j true) w' := fun j hbel hg => hg.imp (fun ⟨f, hf, hfl⟩ => ⟨f, hf, getD_set_true hfl⟩) fun hSW id off vs hm q u hq => by
      have := hSW id off vs hm q u hq
      rw [hbel.cell (World.block_lt_of_cell? _ _ this)]; exact this
    split at hp
    · rename_i hr; cases hp; simp [xdrawP] at hx
    · rename_i i0 is hr
      split at hp
      · rename_i i hpf
        split at hp <;> try (cases hp; done)
        rename_i r hpl
        cases hp
        obtain ⟨hmem, o, ho, hfk, hfree⟩ := pickFirst_ok hpf
        have hiD : i ∉ D := fun hi => by
          obtain ⟨o', ho', hal, _⟩ := allocAt_ok (hD i hi).2
          rw [ho] at ho'; cases ho'
          rw [firstKind_alloc (tb := tb) hfk] at hal; cases hal
        have hil : i ∈ Region.ready .any ops listed := by rw [hr]; exact hmem
        simp only [xdrawP, ho] at hx
        split at hx
        · rename_i v hv
          split at hx <;> try (cases hx; done)
          rename_i A1 hput
          have hbL : SB θs hs.next L' := by
            rcases hL with rfl | ⟨rfl, _⟩
            · exact hb0
            · exact fun id off vs hm => by cases hm
          have hbn : SB θ h.next L' := fun id off vs hm => ⟨Nat.lt_of_lt_of_le (hbL id off vs hm).1 hP.next, bdl_ext hP.ext hP.next (hbL id off vs hm).2⟩
          obtain ⟨hbv, hy⟩ := xfirst_ok hB hbn hA hv (firstKind_defer hfk)
          have hLw : ∀ w, SW θs L w → SW θs L' w := fun w hs => by
            rcases hL with rfl | ⟨rfl, _⟩
            · exact hs
            · exact fun id off vs hm => by cases hm
          have hy' : YieldsH P ops (fun w => isLoad o.op = true → SW θs L w) o (conc θ v) a := ⟨hy.1, hy.2.imp (fun ⟨p, q⟩ => ⟨p, fun w hs => q w fun hl => (SW.ext hbL hP.ext).2 (hLw w (hs hl))⟩) id⟩
          have hSi : isLoad o.op = true ∧ (∀ w, SW θs L w → (isLoad o.op = true → SW θs L w)) ∨ ∀ w, (isLoad o.op = true → SW θs L w) := by
            cases hl : isLoad o.op with
            | true => exact .inl ⟨rfl, fun w hs _ => hs⟩
            | false => exact .inr fun w h => by cases h
          have hir := hrel.ready1 hil hiD
          obtain ⟨hisz, _, hiu⟩ := hrel.notD hir
          have hiu' : LC.getD i true = false := (mem_ready.1 hir).1
          have hUlt := U_set (ops := ops) hisz hiu'
          obtain ⟨kc', rfl⟩ : ∃ kc', kc = kc' + 1 := ⟨kc - 1, by omega⟩
          have hfs := Region.free_spec ho hfree
          refine wpHeld_first ho hfk hsel (fun c a w hq => hQp i o ho c a _ w hq) hSi kc' LC a w hcl (fun j oj hj hne hun hno => hfs j oj hj hne ?_ hno) hir hy' hG ?_
          · have hjs : j < ops.size := (Array.getElem?_eq_some_iff.1 hj).1
            rw [getD_tf (by rw [hrel.sc]; exact hjs)] at hun
            rw [getD_tf (by rw [hrel.sl]; exact hjs)]
            cases hg : listed.getD j false with
            | false => rfl
            | true => rw [(hrel.get j hjs).2 (.inl hg)] at hun; cases hun
          · refine ih _ _ hpl kc' (hLset i) hP (hA.put hput hbv) (hG.imp (fun ⟨f, hf, hfl⟩ => ⟨f, hf, getD_set_true hfl⟩) id) (hcl.set hir) hx (hrel.set i) hnd (fun d hd => ⟨ready_mono (hD d hd).1 (fun e => hiD (e ▸ hd)), (hD d hd).2⟩) (hX.act hsel ⟨_, rfl⟩ fun d hd od hod => ?_) (by omega)
            have hdr := mem_ready.1 (hD d hd).1
            have hap := hfs d od hod (fun e => hiD (e ▸ hd)) hdr.1 (fun e he hb heq => by
              obtain ⟨od', hod', hall⟩ := hdr.2
              rw [hod] at hod'; cases hod'
              have h1 := hall e he hb
              rw [heq] at h1
              rw [getD_tf (by rw [hrel.sl]; exact hisz)] at hiu
              rw [h1] at hiu; cases hiu)
            have := Oper.apart_spec hap
            exact ⟨this.1, this.2.1⟩
        · split at hx
          · rename_i hemp
            split at hx
            · rename_i A1 h1 hop
              split at hx
              · rename_i hke
                have hise : is = [] := by simpa using hemp
                subst hise
                obtain rfl := List.mem_singleton.1 hmem
                have hDn : D = [] := by
                  cases D with
                  | nil => rfl
                  | cons d ds =>
                    have := (hD d (by simp)).1
                    rw [hr] at this
                    exact absurd (by rw [List.mem_singleton.1 this]; simp) hiD
                subst hDn
                have hir := hrel.ready1 hil hiD
                have hUlt := U_set (ops := ops) (hrel.notD hir).1 (mem_ready.1 hir).1
                obtain ⟨kc', rfl⟩ : ∃ kc', kc = kc' + 1 := ⟨kc - 1, by omega⟩
                refine ⟨fun h0 => absurd h0 (fun h0 => by rw [h0] at hir; cases hir), fun j hj => ?_⟩
                have hj' := hrel.ready0 hj
                rw [hr] at hj'
                obtain rfl := List.mem_singleton.1 hj'
                unfold wpOpIn
                simp only [ho]
                have := xop_ok hB hS hP.r hA (K := fun a' w' => G ops (SW θs L) (LC.setIfInBounds j true) w' ∧ wpHeld P ops Q (SW θs L) (rdB θs rd) kc' (LC.setIfInBounds j true) a' w') (Q := Q) hop fun θ' a' w' hP' hA' _ => by
                  have hPP := hP.trans hP'
                  have hg' := hgk j hrel hke hPP
                  exact ⟨hg', ih _ _ hpl kc' (hLset j) hPP hA' hg' (hcl.set hj) hx (hrel.set j) List.nodup_nil (fun d hd => by cases hd) (XD.nil (β := β)) (by omega)⟩
                rwa [rdB_ext hP.ext hrd0] at this
              · cases hx
            · cases hx
          · cases hx
      · rename_i hpf
        have hfl0 : ∀ {D : List Nat}, (∀ i ∈ D, i ∈ Region.ready .any ops listed ∧ allocAt tb ops i = true) → ∀ i ∈ D, i ∈ (i0 :: is).filter (allocAt tb ops) := fun hD i hi => List.mem_filter.2 ⟨by rw [← hr]; exact (hD i hi).1, (hD i hi).2⟩
        have hflm : ∀ i ∈ (i0 :: is).filter (allocAt tb ops), i ∈ Region.ready .any ops listed ∧ allocAt tb ops i = true := fun i hi => by
          obtain ⟨a, b⟩ := List.mem_filter.1 hi; exact ⟨by rw [hr]; exact a, b⟩
        -- which one comes, and what floats
        obtain ⟨e1, fl, hp1, he1r, hflr, hDfl⟩ : ∃ e1 fl, planOne ops listed (plan tb ops k) e1 fl = some steps ∧ e1 ∈ Region.ready .any ops listed ∧ (∀ i ∈ fl, i ∈ Region.ready .any ops listed ∧ allocAt tb ops i = true) ∧
            (∀ {D : List Nat}, (∀ i ∈ D, i ∈ Region.ready .any ops listed ∧ allocAt tb ops i = true) → ∀ i ∈ D, i = e1 ∨ i ∈ fl) := by
          generalize hES : (i0 :: is).filter (fun i => !allocAt tb ops i) = es at hp
          unfold planEnd at hp
          split at hp
          · rename_i e1
            refine ⟨e1, _, hp, ?_, hflm, fun hD i hi => .inr (hfl0 hD i hi)⟩
            have : e1 ∈ (i0 :: is).filter (fun i => !allocAt tb ops i) := by rw [hES]; simp
            rw [hr]; exact (List.mem_filter.1 this).1
          · split at hp <;> try (cases hp; done)
            rename_i e1 hpo
            have hmem : ∀ {l : List Nat}, pickOne ops listed ((i0 :: is).filter (allocAt tb ops)) l = some e1 → e1 ∈ l := by
              intro l
              induction l with
              | nil => intro h; cases h
              | cons j js ihj =>
                intro h
                simp only [pickOne] at h
                split at h
                · cases h; simp
                · exact List.mem_cons_of_mem _ (ihj h)
            refine ⟨e1, _, hp, (hflm e1 (hmem hpo)).1, fun i hi => hflm i (List.mem_filter.1 hi).1, fun hD i hi => ?_⟩
            by_cases hie : i = e1
            · exact .inl hie
            · exact .inr (List.mem_filter.2 ⟨hfl0 hD i hi, by simpa using hie⟩)
          · cases hp
        unfold planOne at hp1
        split at hp1 <;> try (cases hp1; done)
        rename_i hcok
        simp only [onlyOK, Bool.and_eq_true, decide_eq_true_eq] at hcok
        obtain ⟨⟨hc1, hc2⟩, hc3⟩ := hcok
        split at hp1 <;> try (cases hp1; done)
        rename_i r hpl
        cases hp1
        simp only [xdrawP] at hx
        split at hx <;> try (cases hx; done)
        rename_i o ho
        split at hx <;> try (cases hx; done)
        rename_i hfo
        cases nh with
        | zero =>
          simp only at hx
          split at hx <;> try (cases hx; done)
          rename_i hal0
          split at hx <;> try (cases hx; done)
          rename_i vp hp1 hop
          cases hx
          have hno1 : ∀ {D : List Nat}, (∀ i ∈ D, i ∈ Region.ready .any ops listed ∧ allocAt tb ops i = true) → e1 ∉ D := fun hD he => by
            obtain ⟨o', ho', hal, _⟩ := allocAt_ok (hD e1 he).2
            rw [ho] at ho'; cases ho'
            rw [hal0] at hal; cases hal
          have innerP : ∀ (kc : Nat) {w : World} {a : Act} {D : List Nat} {LC : Array Bool} {β : Nat → Nat}, Post base θs hs ws θ h w → AOK θ h.next A a → G ops (SW θs L) LC w → Closed ops LC → Rel ops listed D LC → D.Nodup → (∀ i ∈ D, i ∈ Region.ready .any ops listed ∧ allocAt tb ops i = true) → XD P tb ops base ws θ h a w D β → U ops LC ≤ kc →
              wpHeld P ops Q (SW θs L) (rdB θs rd) kc LC a w := by
            intro kc
            induction kc with
            | zero =>
              intro w a D LC β hP hA hG hcl hrel hnd hD hX hU
              have hir := hrel.ready1 he1r (hno1 hD)
              have := U_set (ops := ops) (hrel.notD hir).1 (mem_ready.1 hir).1
              omega
            | succ kc ihk =>
              intro w a D LC β hP hA hG hcl hrel hnd hD hX hU
              have heD := hno1 hD
              have hDf : ∀ i ∈ D, i ∈ fl := fun i hi => (hDfl hD i hi).resolve_left (fun e => heD (e ▸ hi))
              have hir := hrel.ready1 he1r heD
              refine ⟨fun h0 => absurd h0 (fun h0 => by rw [h0] at hir; cases hir), fun j hj => ?_⟩
              obtain ⟨hjs, hjD, hju⟩ := hrel.notD hj
              have hUlt := U_set (ops := ops) hjs (mem_ready.1 hj).1
              by_cases hjf : j ∈ fl
              · refine float_ok hB hsel hP.r hA hX hP.below.size (fun i hi => (hflr i hi).2) hDf hc3 hfo hjf hjD fun a' w' β' hA' hbel hX' => ?_
                have hP' := hP.trans (Post.more hP.r hbel)
                have hs' := hgf j hbel hG
                exact ⟨hs', ihk hP' hA' hs' (hcl.set hj) (hrel.more j) (List.nodup_cons.2 ⟨hjD, hnd⟩) (fun i hi => by
                  rcases List.mem_cons.1 hi with rfl | hi
                  · exact hflr i hjf
                  · exact hD i hi) hX' (by omega)⟩
              · have hj2 := hrel.ready2 hDf hj hjf
                rw [hc1] at hj2
                obtain rfl := List.mem_singleton.1 hj2
                unfold wpOpIn
                simp only [ho]
                have := xopP_ok hB hS hSP (rd := rd) hop hP.r hA (fun l hl => ⟨Nat.lt_of_lt_of_le (hls0 l hl).1 hP.next, by rw [hP.ext l (hls0 l hl).1]; exact (hls0 l hl).2⟩) (K := fun a' w' => G ops (SW θs L) (LC.setIfInBounds j true) w' ∧ wpHeld P ops Q (SW θs L) (rdB θs rd) kc (LC.setIfInBounds j true) a' w') (Q := Q) fun θ' w' hP' hbv => hQ θ' a w' (hP.trans hP') hbv (eraseD_ok _ (hA.ext hP'.ext hP'.next))
                rwa [rdB_ext hP.ext hrd0] at this
          exact innerP kc hP hA hG hcl hrel hnd hD hX hU
        | succ nh =>
        simp only at hx
        split at hx <;> try (cases hx; done)
        rename_i A1 h1 hop
        obtain ⟨L1, hL1, hx1, hg1⟩ : ∃ L1, (L1 = L ∨ L1 = [] ∧ ∃ f, fullAt ops f = true ∧ (listed.setIfInBounds e1 true).getD f false = true) ∧ xdrawP tb rec recP ls hh rd ops nh r L1 A1 h1 = some (v', A', h') ∧
            ∀ {LC : Array Bool} {D : List Nat} {θ' : Th} {w' : World}, Rel ops listed D LC → e1 < ops.size → Post base θs hs ws θ' h1 w' → G ops (SW θs L) (LC.setIfInBounds e1 true) w' := by
          split at hx
          · rename_i hfull
            refine ⟨[], ?_, hx, fun {LC D θ' w'} hrel hsz hPP => .inl ⟨e1, hfull, by simp [hrel.sc, hsz]⟩⟩
            have hsz : e1 < ops.size := (Array.getElem?_eq_some_iff.1 ho).1
            exact .inr ⟨rfl, e1, hfull, by simp [hrel.sl, hsz]⟩
          · split at hx
            · rename_i hke; exact ⟨L', hLset e1, hx, fun {LC D θ' w'} hrel _ hPP => hgk e1 hrel hke hPP⟩
            · cases hx
        have he1s : e1 < ops.size := (Array.getElem?_eq_some_iff.1 ho).1
        -- floats may come up first
        have inner : ∀ (kc : Nat) {w : World} {a : Act} {D : List Nat} {LC : Array Bool} {β : Nat → Nat}, Post base θs hs ws θ h w → AOK θ h.next A a → G ops (SW θs L) LC w → Closed ops LC → Rel ops listed D LC → D.Nodup → (∀ i ∈ D, i ∈ Region.ready .any ops listed ∧ allocAt tb ops i = true) → XD P tb ops base ws θ h a w D β → U ops LC ≤ kc →
            wpHeld P ops Q (SW θs L) (rdB θs rd) kc LC a w := by
          intro kc
          -- it is there: it is taken over
          have there : ∀ {kc : Nat} {w : World} {a : Act} {D : List Nat} {LC : Array Bool} {β : Nat → Nat}, e1 ∈ D → Post base θs hs ws θ h w → AOK θ h.next A a → G ops (SW θs L) LC w → Closed ops LC → Rel ops listed D LC → D.Nodup → (∀ i ∈ D, i ∈ Region.ready .any ops listed ∧ allocAt tb ops i = true) → XD P tb ops base ws θ h a w D β → U ops LC ≤ kc →
              wpHeld P ops Q (SW θs L) (rdB θs rd) kc LC a w := by
            intro kc w a D LC β he1D hP hA hG hcl hrel hnd hD hX hU
            have hal1 := (hD e1 he1D).2
            have hR1 := hP.r
            obtain ⟨o', ho', hal, hself⟩ := allocAt_ok hal1
            rw [ho] at ho'; cases ho'
            have hwe : Region.wanted o (yielded ops a.tmps) = true := by
              obtain ⟨o4, ho4, hw4, _⟩ := hX.each e1 he1D
              rw [ho] at ho4; cases ho4; exact hw4
            have hxf : xfloats tb ops [e1] A h = some (A1, h1) := xop_alloc (P := P) hB hR1 hA ho hal hwe hop
            have hX1 : XD P tb ops base ws θ h a w [e1] β := ⟨fun i hi => by rw [List.mem_singleton.1 hi]; exact hX.each e1 he1D, fun i hi j hj hne _ _ => absurd ((List.mem_singleton.1 hi).trans (List.mem_singleton.1 hj).symm) hne⟩
            obtain ⟨θ', hP', hA', hE', hn', hown'⟩ := xfloats_ok hB hxf hP hA (fun i hi => by rw [List.mem_singleton.1 hi]; exact hal1) (by simp) hX1
            have hsub : ∀ i ∈ without D e1, i ∈ D ∧ i ≠ e1 := fun i hi => by
              obtain ⟨p, q⟩ := List.mem_filter.1 hi; exact ⟨p, by simpa using q⟩
            have hrel' : Rel ops (listed.setIfInBounds e1 true) (without D e1) LC := by
              refine ⟨by simp [hrel.sl], hrel.sc, fun j hj => ?_⟩
              rw [hrel.get j hj]
              by_cases hje : e1 = j
              · subst hje; simp [hrel.sl, hj, he1D]
              · rw [getD_set_ne false hje]
                constructor
                · rintro (h | h)
                  · exact .inl h
                  · exact .inr (List.mem_filter.2 ⟨h, by simpa using Ne.symm hje⟩)
                · rintro (h | h)
                  · exact .inl h
                  · exact .inr (hsub j h).1
            have hX2 : XD P tb ops base ws θ' h1 a w (without D e1) β := by
              refine ⟨fun i hi => ?_, fun i hi j hj => hX.apart i (hsub i hi).1 j (hsub j hj).1⟩
              obtain ⟨o4, ho4, hwt4, hc4⟩ := hX.each i (hsub i hi).1
              refine ⟨o4, ho4, hwt4, hc4.imp (fun ⟨hp, c, f, g, vs, v, x1, x2, x3, x4, x5, x6⟩ => ⟨hp, c, f, g, vs, v, x1, x2, x3, x4, x5, x6⟩) fun ⟨hnp, obj4, f4, hr4, hd4, hw4, hb4, hs4, hu4⟩ => ⟨hnp, obj4, f4, hr4, hd4, hw4, hb4, hs4, fun id o' hg => ?_⟩⟩
              rcases hown' id o' hg with ⟨o'', h'', hlt⟩ | ⟨i', hi', hb', e⟩
              · rw [hE' id hlt]; exact hu4 id o'' h''
              · rw [e, List.mem_singleton.1 hi']
                refine hX.apart e1 he1D i (hsub i hi).1 (fun e => (hsub i hi).2 e.symm) (by rw [← List.mem_singleton.1 hi']; exact hb') ?_
                simp only [blockAt, ho4, hnp, Bool.not_false]
            have hG1 : G ops (SW θs L) (LC.setIfInBounds e1 true) w := hG.imp (fun ⟨f, hf, hfl⟩ => ⟨f, hf, getD_set_true hfl⟩) id
            exact ih _ _ hpl kc hL1 hP' hA' hG hcl hx1 hrel' (List.Pairwise.filter _ hnd) (fun i hi => ⟨ready_mono (hD i (hsub i hi).1).1 (hsub i hi).2, (hD i (hsub i hi).1).2⟩) hX2 hU
          induction kc with
          | zero =>
            intro w a D LC β hP hA hG hcl hrel hnd hD hX hU
            by_cases heD : e1 ∈ D
            · exact there heD hP hA hG hcl hrel hnd hD hX hU
            · have hir := hrel.ready1 he1r heD
              have := U_set (ops := ops) (hrel.notD hir).1 (mem_ready.1 hir).1
              omega
          | succ kc ihk =>
            intro w a D LC β hP hA hG hcl hrel hnd hD hX hU
            by_cases heD : e1 ∈ D
            · exact there heD hP hA hG hcl hrel hnd hD hX hU
            have hDf : ∀ i ∈ D, i ∈ fl := fun i hi => (hDfl hD i hi).resolve_left (fun e => heD (e ▸ hi))
            have hir := hrel.ready1 he1r heD
            refine ⟨fun h0 => absurd h0 (fun h0 => by rw [h0] at hir; cases hir), fun j hj => ?_⟩
            obtain ⟨hjs, hjD, hju⟩ := hrel.notD hj
            have hUlt := U_set (ops := ops) hjs (mem_ready.1 hj).1
            by_cases hjf : j ∈ fl
            · refine float_ok hB hsel hP.r hA hX hP.below.size (fun i hi => (hflr i hi).2) hDf hc3 hfo hjf hjD fun a' w' β' hA' hbel hX' => ?_
              have hP' := hP.trans (Post.more hP.r hbel)
              have hs' := hgf j hbel hG
              exact ⟨hs', ihk hP' hA' hs' (hcl.set hj) (hrel.more j) (List.nodup_cons.2 ⟨hjD, hnd⟩) (fun i hi => by
                rcases List.mem_cons.1 hi with rfl | hi
                · exact hflr i hjf
                · exact hD i hi) hX' (by omega)⟩
            · have hj2 := hrel.ready2 hDf hj hjf
              rw [hc1] at hj2
              obtain rfl := List.mem_singleton.1 hj2
              unfold wpOpIn
              simp only [ho]
              have := xop_ok hB hS hP.r hA (K := fun a' w' => G ops (SW θs L) (LC.setIfInBounds j true) w' ∧ wpHeld P ops Q (SW θs L) (rdB θs rd) kc (LC.setIfInBounds j true) a' w') (Q := Q) hop fun θ' a' w' hP' hA' ht => by
                have hPP := hP.trans hP'
                have hg' := hg1 hrel hjs hPP
                refine ⟨hg', ih _ _ hpl kc hL1 hPP hA' hg' (hcl.set hj) hx1 (hrel.set j) hnd (fun d hd => ⟨ready_mono (hD d hd).1 (fun e => heD (e ▸ hd)), (hD d hd).2⟩) ((hX.act hsel ht fun d hd od hod => ?_).post hP') (by omega)⟩
                have hap := List.all_eq_true.1 hc2 d (hDf d hd)
                simp only [apartAt, ho, hod] at hap
                have := Oper.apart_spec hap
                exact ⟨this.1, this.2.1⟩
              rwa [rdB_ext hP.ext hrd0] at this
        exact inner kc hP hA hG hcl hrel hnd hD hX hU
theorem xdrawP_erased {ls hh : List Nat} {rd : Option Nat} {ops : Array Oper} : ∀ (l : List Step) {nh : Nat} {L : Held} {A A' : AA} {h h' : AH} {v' : AV}, xdrawP tb rec recP ls hh rd ops nh l L A h = some (v', A', h') → ∃ A1, A' = eraseD ops.toList A1
  | [], nh, L, A, A', h, h', v', hx => by simp [xdrawP] at hx
  | .fst i only :: l, nh, L, A, A', h, h', v', hx => by
    simp only [xdrawP] at hx
    split at hx
    · cases hx
    · split at hx
      · split at hx
        · exact xdrawP_erased l hx
        · cases hx
      · split at hx
        · split at hx
          · split at hx
            · exact xdrawP_erased l hx
            · cases hx
          · cases hx
        · cases hx
  | .only i fl :: l, nh, L, A, A', h, h', v', hx => by
    simp only [xdrawP] at hx
    split at hx
    · cases hx
    · split at hx
      · cases nh with
        | zero =>
          simp only at hx
          split at hx <;> try (cases hx; done)
          split at hx <;> try (cases hx; done)
          cases hx
          exact ⟨_, rfl⟩
        | succ nh =>
          simp only at hx
          split at hx
          · split at hx
            · exact xdrawP_erased l hx
            · split at hx
              · exact xdrawP_erased l hx
              · cases hx
          · cases hx
      · cases hx
  | .bar fl :: l, nh, L, A, A', h, h', v', hx => by simp [xdrawP] at hx
theorem BehindP.trans {θ1 : Th} {h1 : AH} {w1 : World} {v : AV} {A' : AA} {h' : AH} {ch : List PanicEntry} {a : Act} {w' : World} (hb : BehindP base θ1 h1 w1 v A' h' ch a w') (hP : Post base θ h w θ1 h1 w1) : BehindP base θ h w v A' h' ch a w' :=
  let ⟨θ', e, hP', hbv, hA⟩ := hb; ⟨θ', e, hP.trans hP', hbv, hA⟩
theorem loopP_mono {rd : Option Nat} {c : Code} {Q Q' : List PanicEntry → Act → World → Prop} : ∀ (n : Nat) {a : Act} {w : World}, LoopP rd P c Q n a w → (∀ ch a w, Q ch a w → Q' ch a w) → LoopP rd P c Q' n a w
  | 0, a, w, h, hq => wpE_mono h hq
  | n + 1, a, w, h, hq => wpIn_mono h fun ex a1 w1 ⟨hex, hl⟩ => ⟨hex, loopP_mono n hl hq⟩
theorem xdrawnP_ok (hB : TabOK P tb base) (hS : Sound P base rec) (hSP : SoundP P base recP) {ls hh : List Nat} {A A' : AA} {rd : Option Nat} {id n : Nat} {ops : Array Oper} {v : AV} {h' : AH} (hx : xdrawnP tb rec recP ls hh rd ops n A h = some (v, A', h')) :
    ∀ (θ : Th) (a : Act) (w : World), R base θ h w → AOK θ h.next A a → (∀ l, rd = some l → l < h.next) → (∀ l ∈ ls, l < h.next ∧ HasFn P (θ l).c) → (Code.region id ops true).wpIn (FW (rdB θ rd)) 0 P (fun ex a' w' => ∃ ch, ex = .panic ch ∧ BehindP base θ h w v A' h' ch a' w') a w := by
  unfold xdrawnP at hx
  split at hx <;> try (cases hx; done)
  rename_i steps hpl
  unfold planOf at hpl
  split at hpl <;> try (cases hpl; done)
  rename_i hsel
  intro θ a w hR hA hrd hls
  have hA0 := erase_ok (tb := tb) ops.toList hA
  have hbel : Below w.heap.size w { w with drawn := w.drawn + 1 } := ⟨rfl, rfl, rfl, Nat.le_refl _, fun _ _ => rfl⟩
  have hP0 := Post.more hR hbel
  obtain ⟨g1, g2⟩ := gather_ok (tb := tb) hP0.r (ops := ops) steps (erase tb ops.toList A)
  obtain ⟨A1, hA1⟩ := xdrawP_erased steps hx
  refine wpIn_region_any hB.mixed (wpAny_of_wpHeld (S := SW θ (gather tb h ops steps (erase tb ops.toList A))) _ _ _ _ ?_)
  refine xdrawP_ok hB hS hSP hsel g2 hrd hls (fun i oi hi c a v w hq => ?_) (fun θ' a' w' hP hb hA' => ⟨_, rfl, θ', rfl, hP, hb, hA'⟩) ops.size _ steps hpl ops.size (D := []) (LC := Array.replicate ops.size false) (β := fun _ => 0) (.inl rfl) hP0 hA0 (.inr g1) (fun f o ho hf => by simp [(Array.getElem?_eq_some_iff.1 ho).1] at hf) hx ⟨by simp, by simp, fun j hj => by simp⟩ List.nodup_nil (fun d hd => by cases hd) XD.nil ?_
  · obtain ⟨ch, he, θ', e, hP, hb, hAA⟩ := hq
    cases he
    refine ⟨_, rfl, θ', e, hP, hb, ?_⟩
    rw [hA1] at hAA ⊢
    exact eraseD_unput (List.mem_of_getElem? (by rw [Array.getElem?_toList]; exact hi)) hAA
  · have := List.countP_le_length (p := fun i => !(Array.replicate ops.size false).getD i true) (l := List.range ops.size)
    simpa [U] using this
theorem xrangeP_ok (hB : TabOK P tb base) (hSP : SoundP P base recP) {ls hh : List Nat} {A A' : AA} {rd : Option Nat} {g : Operand} {ps : Array Tmp} {assign body : Code} {v : AV} {h' : AH}
    (hx : xrangeP tb recP ls hh g ps assign body rd A h = some (v, A', h')) : ∀ (θ : Th) (a : Act) (w : World), R base θ h w → AOK θ h.next A a → (∀ l, rd = some l → l < h.next) → (∀ l ∈ ls, l < h.next ∧ HasFn P (θ l).c) → wpE (rdB θ rd) P (Code.rangeFunc g ps assign body) (BehindP base θ h w v A' h') a w := by
  unfold xrangeP at hx
  split at hx <;> try (cases hx; done)
  rename_i dfr mark h0 hd
  split at hx <;> try (cases hx; done)
  rename_i h1 hadd
  split at hx <;> try (cases hx; done)
  rename_i f first cap hg
  split at hx <;> try (cases hx; done)
  rename_i v2 h2 hc
  cases hx
  have hcall0 := xcallP_ok hB hSP hc
  intro θ a w hR hA hrd hls
  refine wpE_rangeFunc fun fn hfn => ?_
  obtain ⟨θ0, w0, hP0, hdfr, hbm, henter⟩ : ∃ θ0 w0, Post base θ h w θ0 h0 w0 ∧ dfr < h0.next ∧ (∀ d ∈ mark, bdD θ0 h0.next d) ∧
      (Instr.enterLoop fn a.tmps ps assign body (rdB θ rd)).run P w = .ok (w0.heap.size, mark.map (concD θ0)) (w0.alloc (.loop { state := .ready, pending := none, fn, tmps := a.tmps, params := ps, assign, body, defers := (θ0 dfr).b })) := by
    cases rd with
    | none =>
      simp only at hd
      split at hd <;> try (cases hd; done)
      rename_i h0' ha
      cases hd
      have hsame := upd_same θ h.next ⟨w.heap.size, 0, none⟩
      have hsp := AH.add_spec ha
      refine ⟨upd θ h.next ⟨w.heap.size, 0, none⟩, w.alloc (.deferred (some [])), ?_, by omega, ?_, ?_⟩
      · exact Post.add hR ha (Nat.le_refl _) (fun k hk => Below.heap_alloc w _ k hk) ((Below.refl base w).alloc hR.size _) (show (w.alloc _).heap[(upd θ h.next ⟨w.heap.size, 0, none⟩ h.next).b]? = _ by rw [hsame]; exact heap_alloc_new w _)
      · intro d hd; obtain rfl := List.mem_singleton.1 hd; show h.next < _; omega
      · rw [show rdB θ none = none from rfl, run_enterLoop_outer]
        simp [concD, hsame]
    | some l =>
      simp only at hd
      split at hd <;> try (cases hd; done)
      rename_i r' hl
      cases hd
      obtain ⟨hln, _, hlo⟩ := hR.obj l _ hl
      obtain ⟨hdn, L, hL, _, _, _, _, _, _, _, _, hdef⟩ := hlo
      refine ⟨θ, w, Post.refl hR, hdn, (fun d hd => by cases hd), ?_⟩
      unfold Instr.enterLoop
      simp only [rdB, Option.map_some, Sem.run_bind, run_getLoop hL, Result.andThen, Sem.run_pure, run_newObj_alloc, hdef.1, List.map_nil]
  have hA0 := hA.ext hP0.ext hP0.next
  have hsp1 := AH.add_spec hadd
  have hsame := upd_same θ0 h0.next ⟨w0.heap.size, fn, none⟩
  have hE1 := upd_ext θ0 h0.next ⟨w0.heap.size, fn, none⟩
  have hP1 : Post base θ0 h0 w0 (upd θ0 h0.next ⟨w0.heap.size, fn, none⟩) h1 (w0.alloc (.loop { state := .ready, pending := none, fn, tmps := a.tmps, params := ps, assign, body, defers := (θ0 dfr).b })) := by
    refine Post.add hP0.r hadd (Nat.le_refl _) (fun k hk => Below.heap_alloc w0 _ k hk) ((Below.refl base w0).alloc hP0.r.size _) ⟨by show dfr < h0.next + 1; omega, _, by rw [hsame]; exact heap_alloc_new w0 _, fun _ => rfl, fun _ => by simp, rfl, rfl, rfl, rfl, hA0.kt.ext hE1 (Nat.le_succ _), hA0.size, by rw [hE1 dfr hdfr], by rw [hsame]⟩
  have hA1 := hA0.ext hP1.ext hP1.next
  obtain ⟨hbf, hf'⟩ := hA1.ev g _ hg
  simp only [bd] at hbf
  have hba : bdl (upd θ0 h0.next ⟨w0.heap.size, fn, none⟩) h1.next (first ++ [AV.yld h0.next] ++ cap) := fun y hy => by
    rcases List.mem_append.1 hy with hy | hy
    · rcases List.mem_append.1 hy with hy | hy
      · exact hbf.1 y hy
      · obtain rfl := List.mem_singleton.1 hy; simp only [bd]; omega
    · exact hbf.2 y hy
  have hls1 : ∀ l ∈ h0.next :: ls, l < h1.next ∧ HasFn P ((upd θ0 h0.next ⟨w0.heap.size, fn, none⟩) l).c := fun l hl => by
    rcases List.mem_cons.1 hl with rfl | hl
    · exact ⟨by omega, by rw [hsame]; exact hfn⟩
    · have h2 : l < h0.next := Nat.lt_of_lt_of_le (hls l hl).1 hP0.next
      exact ⟨by omega, by rw [hE1 l h2, hP0.ext l (hls l hl).1]; exact (hls l hl).2⟩
  obtain ⟨hent, hcall⟩ := hcall0 _ _ hP1.r hba hls1
  refine ⟨w0.heap.size, mark.map (concD θ0), (w0.alloc (.loop { state := .ready, pending := none, fn, tmps := a.tmps, params := ps, assign, body, defers := (θ0 dfr).b })), { target := .fn (.func f) (cap.map (conc (upd θ0 h0.next ⟨w0.heap.size, fn, none⟩))).toArray, args := (first.map (conc (upd θ0 h0.next ⟨w0.heap.size, fn, none⟩))).toArray ++ #[.func (.yield w0.heap.size) #[] #[]] }, (w0.alloc (.loop { state := .ready, pending := none, fn, tmps := a.tmps, params := ps, assign, body, defers := (θ0 dfr).b })), f, ((first ++ [AV.yld h0.next] ++ cap).map (conc (upd θ0 h0.next ⟨w0.heap.size, fn, none⟩))).toArray, (w0.alloc (.loop { state := .ready, pending := none, fn, tmps := a.tmps, params := ps, assign, body, defers := (θ0 dfr).b })), henter, ?_, ?_, ?_⟩
  · simp only [resolve, rangeCall, hf', conc, Deferred.ofValue]
    simp [Act.eval]
  · have e1 : (first.map (conc (upd θ0 h0.next ⟨w0.heap.size, fn, none⟩))).toArray ++ #[.func (.yield w0.heap.size) #[] #[]] ++ (cap.map (conc (upd θ0 h0.next ⟨w0.heap.size, fn, none⟩))).toArray = ((first ++ [AV.yld h0.next] ++ cap).map (conc (upd θ0 h0.next ⟨w0.heap.size, fn, none⟩))).toArray := by
      simp [conc, hsame]
    simp only [invoke, e1]
    exact hent _ _
  · refine hcall.mono fun ex w' he => ?_
    obtain ⟨θ2, rfl, hbv, hP2⟩ := he
    have hPall := (hP0.trans hP1).trans hP2
    refine ⟨_, rfl, θ2, rfl, hPall, hbv, ?_⟩
    have hA2 := hA.ext hPall.ext hPall.next
    refine ⟨hA2.size, hA2.kt, ?_, fun d hd => ?_⟩
    · have : mark.map (concD θ2) = mark.map (concD θ0) := List.map_congr_left fun d hd => concD_ext ((hP1.trans hP2).ext) (hbm d hd)
      simp only [List.map_append, this, hA2.ds]
    · rcases List.mem_append.1 hd with hd | hd
      · exact bdD_ext (hP1.trans hP2).ext (hP1.trans hP2).next (hbm d hd)
      · exact hA2.bds d hd
theorem xloopP_ok (hS : Sound P base rec) (hSP : SoundP P base recP) {ls hh : List Nat} {c : Code} {rd : Option Nat} : ∀ (n : Nat) {h : AH} {A A' : AA} {v : AV} {h' : AH}, xloopP rec recP ls hh c rd n A h = some (v, A', h') →
    ∀ (θ : Th) (a : Act) (w : World), R base θ h w → AOK θ h.next A a → (∀ l, rd = some l → l < h.next) → (∀ l ∈ ls, l < h.next ∧ HasFn P (θ l).c) → LoopP (rdB θ rd) P c (BehindP base θ h w v A' h') n a w
  | 0, h, A, A', v, h', hx => hSP _ _ _ _ _ _ _ _ _ hx
  | n + 1, h, A, A', v, h', hx => by
    simp only [xloopP] at hx
    split at hx <;> try (cases hx; done)
    rename_i A1 h1 hr
    intro θ a w hR hA hrd hls
    refine wpIn_mono (hS _ _ _ _ _ _ _ hr θ a w hR hA hrd) fun ex a1 w1 hbe => ?_
    obtain ⟨hex, θ1, hP, hA1⟩ := hbe
    refine ⟨hex, ?_⟩
    have := xloopP_ok hS hSP n hx θ1 a1 w1 hP.r hA1 (fun l hl => Nat.lt_of_lt_of_le (hrd l hl) hP.next) (fun l hl => ⟨Nat.lt_of_lt_of_le (hls l hl).1 hP.next, by rw [hP.ext l (hls l hl).1]; exact (hls l hl).2⟩)
    rw [rdB_ext hP.ext hrd] at this
    exact loopP_mono n this fun ch a w hb => hb.trans hP
theorem stepP_ok (hB : TabOK P tb base) (hS : Sound P base rec) (hSP : SoundP P base recP) : SoundP P base (stepP tb rec recP) := by
  intro ls hh c rd A h v A' h' hx
  unfold stepP at hx
  split at hx <;> try (cases hx; done)
  · split at hx <;> try (cases hx; done)
    · exact fun θ a w hR hA hrd hls => wpE_seq1 (hSP _ _ _ _ _ _ _ _ _ hx θ a w hR hA hrd hls)
    · split at hx <;> try (cases hx; done)
      rename_i A1 h1 hr
      refine fun θ a w hR hA hrd hls => wpE_seq2 (wpIn_mono (hS _ _ _ _ _ _ _ hr θ a w hR hA hrd) fun ex a1 w1 hbe => ?_)
      obtain ⟨hex, θ1, hP, hA1⟩ := hbe
      refine ⟨hex, ?_⟩
      have := hSP _ _ _ _ _ _ _ _ _ hx θ1 a1 w1 hP.r hA1 (fun l hl => Nat.lt_of_lt_of_le (hrd l hl) hP.next) (fun l hl => ⟨Nat.lt_of_lt_of_le (hls l hl).1 hP.next, by rw [hP.ext l (hls l hl).1]; exact (hls l hl).2⟩)
      rw [rdB_ext hP.ext hrd] at this
      exact wpE_mono this fun ch a w hb => hb.trans hP
  · split at hx <;> try (cases hx; done)
    rename_i t hc
    exact fun θ a w hR hA hrd hls => wpE_cond (by obtain ⟨_, e⟩ := hA.ev _ _ hc; rw [e, conc_lit]) (hSP _ _ _ _ _ _ _ _ _ hx θ a w hR hA hrd hls)
  · exact fun θ a w hR hA hrd hls => wpE_block (hSP _ _ _ _ _ _ _ _ _ hx θ a w hR hA hrd hls)
  · exact fun θ a w hR hA hrd hls => wpE_scope (hSP _ _ _ _ _ _ _ _ _ hx θ a w hR hA hrd hls)
  · split at hx <;> try (cases hx; done)
    rename_i n r
    exact fun θ a w hR hA hrd hls => wpE_loop n (xloopP_ok hS hSP n hx θ a w hR hA hrd hls)
  · split at hx <;> try (cases hx; done)
    rename_i id ops draw _ n r
    cases draw with
    | true =>
      simp only [if_true] at hx
      exact fun θ a w hR hA hrd hls => wpE_of_wpIn (xdrawnP_ok (id := id) hB hS hSP hx θ a w hR hA hrd hls)
    | false =>
      simp only [Bool.false_eq_true, if_false] at hx
      refine fun θ a w hR hA hrd hls => wpE_of_wpIn (wpIn_region ?_)
      have := xopsP_ok hB hS hSP ops.toList n 0 (by simp) hx hR hA hrd hls (Q := fun ex a' w' => ∃ ch, ex = .panic ch ∧ BehindP base θ h w v A' h' ch a' w') fun θ' a' w' hP hb hA' => ⟨_, rfl, θ', rfl, hP, hb, hA'⟩
      rw [List.range_eq_range', ← Array.length_toList]
      exact this
  · exact xrangeP_ok hB hSP hx
theorem execP_sound (hB : TabOK P tb base) (m : Nat) : ∀ n, SoundP P base (execP tb m n)
  | 0 => fun ls hh c rd A h v A' h' hx => by cases hx
  | n + 1 => stepP_ok hB (exec_sound hB m) (execP_sound hB m n)
end
end Go.Proofs.YtknplcpjmpmblaaDoor.GX
