/- Deferred closures that recover, worked out. -/
import Derived.Test.YtknplcpjmpmblaaDoorZxr
set_option linter.unusedVariables false
set_option linter.unusedSimpArgs false
namespace Go.Proofs.YtknplcpjmpmblaaDoor.GX
open Go Go.RowKit
/-- How the function leaves whose deferred call this is. -/
inductive US where
  | pan (v : AV)
  | rcv (v : AV)
  | ret
noncomputable def modeU (θ : Th) : US → FrameMode
  | .pan v => .panicking [{ v := conc θ v, recovered := false }]
  | .rcv v => .panicking [{ v := conc θ v, recovered := true }]
  | .ret => .returning
def bdU (θ : Th) (n : Nat) : US → Prop
  | .pan v => bd θ n v
  | .rcv v => bd θ n v
  | .ret => True
theorem bdU.ext {θ θ' : Th} {n m : Nat} {u : US} (h : bdU θ n u) (he : Ext θ θ' n) (hn : n ≤ m) : bdU θ' m u := by
  cases u <;> first | exact bd_ext he hn _ h | trivial
theorem modeU_ext {θ θ' : Th} {n : Nat} {u : US} (h : bdU θ n u) (he : Ext θ θ' n) : modeU θ' u = modeU θ u := by
  cases u <;> simp only [modeU] <;> first | rw [conc_ext he _ h] | rfl
/-- What is asserted of what was recovered. -/
structure TA where
  i : TypeId
  t : TypeId
  zero : AV
def TAOK (P : Program) (x : TA) : Prop := (∃ z, x.zero = .lit z ∧ ∀ w, (Instr.typeAssert .nilIface x.i x.t true).run P w = .ok (.tuple #[z, .bool false]) w) ∧
  ∀ v w, (Instr.typeAssert (.iface x.t v) x.i x.t true).run P w = .ok (.tuple #[v, .bool true]) w
noncomputable def isRecover : Op → Bool
  | .call c => match c.callee with
    | .builtin .recover => true
    | _ => false
  | _ => false
noncomputable def asTA : Op → Option (Operand × TypeId × TypeId)
  | .typeAssert x i t true => some (x, i, t)
  | _ => none
noncomputable def xta (ta : TA) (i t : TypeId) : Option AV → Option AV
  | some (.ifc t' v) => if i = ta.i ∧ t = ta.t ∧ t' = ta.t then some (.tup [v, .lit (.bool true)]) else none
  | some (.lit .nilIface) => if i = ta.i ∧ t = ta.t then some (.tup [ta.zero, .lit (.bool false)]) else none
  | _ => none
noncomputable def xopS1 (tb : Tab) (ta : TA) (o : Oper) (u : US) (A : AA) (h : AH) : Option (AA × AH × US) :=
  match isRecover o.op with
  | true => match u with
    | .pan v => match A.put o.dst v with
      | some A' => some (A', h, .rcv v)
      | none => none
    | .rcv v => none
    | .ret => match A.put o.dst (.lit .nilIface) with
      | some A' => some (A', h, .ret)
      | none => none
  | false => match asTA o.op with
    | some (x, i, t) => match xta ta i t (A.ev x) with
      | some v => match A.put o.dst v with
        | some A' => some (A', h, u)
        | none => none
      | none => none
    | none => match asDefer o.op with
      | some _ => none
      | none => match xpure tb A.ev o with
        | some v => match A.put o.dst v with
          | some A' => some (A', h, u)
          | none => none
        | none => match xload tb h A.ev o with
          | some v => match A.put o.dst v with
            | some A' => some (A', h, u)
            | none => none
          | none => match xmem tb h A.ev o with
            | .val v h' => match A.put o.dst v with
              | some A' => some (A', h', u)
              | none => none
            | .skip h' => match A.put o.dst (.lit undef) with
              | some A' => some (A', h', u)
              | none => none
            | _ => none
noncomputable def xopsS (tb : Tab) (ta : TA) (ops : List Oper) : List Oper → US → AA → AH → Option (AA × AH × US)
  | [], u, A, h => some (A, h, u)
  | o :: l, u, A, h => match awanted ops A o with
    | some true => match xopS1 tb ta o u A h with
      | some (A', h', u') => xopsS tb ta ops l u' A' h'
      | none => none
    | _ => none
/-- A deferred closure. -/
noncomputable def xcallD (tb : Tab) (m : Nat) (ta : TA) (f : FuncId) (u : US) (h : AH) (args : List AV) : Option (AH × US) :=
  match tb.fn.get f with
  | none => none
  | some fn => match fn.body with
    | some (.seq (.region _ ops false) c) => if args.length ≤ fn.ntmps ∧ args.length < 1024 ∧ fn.results.size = 0 then match xopsS tb ta ops.toList ops.toList u { t := args0 args 0 .e, n := fn.ntmps, ds := [] } h with
      | some (A, h1, u1) => match exec tb m c none A h1 with
        | .ok e A2 h2 => if (e = .norm ∨ e = .ret) ∧ A2.ds.length = 0 then some (h2, u1) else none
        | .no => none
      | none => none
      else none
    | _ => none
section
variable {P : Program} {tb : Tab} {rec : Rec} {θ : Th} {base : Bs} {h : AH} {w : World}
theorem xopS1_ok (hB : TabOK P tb base) {ta : TA} (hta : TAOK P ta) {o : Oper} {u u' : US} {A A' : AA} {h' : AH} (hx : xopS1 tb ta o u A h = some (A', h', u')) (hR : R base θ h w) {a : Act} (hA : AOK θ h.next A a) (hu : bdU θ h.next u) {c₀ : Frame} {cs : List Frame}
    {N : Act → List Frame → World → Prop} {Q : Exit → Act → List Frame → World → Prop} (hN : ∀ θ' a' w', Post base θ h w θ' h' w' → AOK θ' h'.next A' a' → bdU θ' h'.next u' → N a' ({ c₀ with mode := modeU θ' u' } :: cs) w') :
    match (execOp a.eval o).run P w with
        | .ok .recover w' =>
          match recoverD ({ c₀ with mode := modeU θ u } :: cs) with
          | some (v, cs') => N (a.put o.dst v) cs' w'
          | none => N (a.put o.dst .nilIface) ({ c₀ with mode := modeU θ u } :: cs) w'
        | .ok (.value v) w' => N (a.put o.dst v) ({ c₀ with mode := modeU θ u } :: cs) w'
        | .ok .skip w' => N (a.put o.dst undef) ({ c₀ with mode := modeU θ u } :: cs) w'
        | .halt (.panic v) w' => Q (.panic [{ v, recovered := false }]) a ({ c₀ with mode := modeU θ u } :: cs) w'
        | _ => False := by
  have val : ∀ {v : AV} {θ' : Th} {w' : World} {h1 : AH} {A1 : AA}, (execOp a.eval o).run P w = .ok (.value (conc θ' v)) w' → bd θ' h1.next v → Post base θ h w θ' h1 w' → A.put o.dst v = some A1 → A1 = A' → h1 = h' → u = u' →
      match (execOp a.eval o).run P w with
        | .ok .recover w' =>
          match recoverD ({ c₀ with mode := modeU θ u } :: cs) with
          | some (v, cs') => N (a.put o.dst v) cs' w'
          | none => N (a.put o.dst .nilIface) ({ c₀ with mode := modeU θ u } :: cs) w'
        | .ok (.value v) w' => N (a.put o.dst v) ({ c₀ with mode := modeU θ u } :: cs) w'
        | .ok .skip w' => N (a.put o.dst undef) ({ c₀ with mode := modeU θ u } :: cs) w'
        | .halt (.panic v) w' => Q (.panic [{ v, recovered := false }]) a ({ c₀ with mode := modeU θ u } :: cs) w'
        | _ => False := by
    intro v θ' w' h1 A1 hrun hb hP hput e1 e2 e3
    subst e1; subst e2; subst e3
    rw [hrun]
    have := hN θ' _ w' hP ((hA.ext hP.ext hP.next).put hput hb) (hu.ext hP.ext hP.next)
    rwa [modeU_ext hu hP.ext] at this
  unfold xopS1 at hx
  split at hx
  · rename_i hrec
    have hrun : (execOp a.eval o).run P w = .ok .recover w := by
      unfold isRecover at hrec
      split at hrec <;> try (cases hrec; done)
      rename_i c hop
      split at hrec <;> try (cases hrec; done)
      rename_i hc
      unfold execOp
      simp only [hop, resolve, hc, invoke, builtin, Sem.run_bind, Sem.run_pure, Result.andThen]
    rw [hrun]
    cases u with
    | pan v =>
      simp only at hx
      split at hx <;> try (cases hx; done)
      rename_i A1 hput
      cases hx
      exact hN θ _ w (Post.refl hR) (hA.put hput hu) hu
    | rcv v => cases hx
    | ret =>
      simp only at hx
      split at hx <;> try (cases hx; done)
      rename_i A1 hput
      cases hx
      have := hN θ _ w (Post.refl hR) (hA.put hput (by simp [bd])) hu
      rw [conc_lit] at this
      exact this
  · split at hx
    · rename_i x i t hta1
      have hop : o.op = .typeAssert x i t true := by
        unfold asTA at hta1
        split at hta1
        · rename_i x' i' t' ho; cases hta1; exact ho
        · cases hta1
      split at hx <;> try (cases hx; done)
      rename_i v hv
      split at hx <;> try (cases hx; done)
      rename_i A1 hput
      cases hx
      obtain ⟨⟨z, hz, hnil⟩, hsome⟩ := hta
      unfold xta at hv
      split at hv
      · rename_i t' v' hev
        split at hv <;> try (cases hv; done)
        rename_i hc
        obtain ⟨rfl, rfl, rfl⟩ := hc
        cases hv
        obtain ⟨hb, he⟩ := hA.ev x _ hev
        refine val (θ' := θ) (w' := w) (h1 := h) (v := .tup [v', .lit (.bool true)]) ?_ (by simp only [bd] at hb ⊢; intro y hy; rcases List.mem_cons.1 hy with rfl | hy; exact hb; rw [List.mem_singleton.1 hy]; simp [bd]) (Post.refl hR) hput rfl rfl rfl
        unfold execOp
        simp only [hop, he, conc, Sem.run_bind, hsome, Result.andThen, Sem.run_pure]
        simp [conc]
      · rename_i hev
        split at hv <;> try (cases hv; done)
        rename_i hc
        obtain ⟨rfl, rfl⟩ := hc
        cases hv
        obtain ⟨hb, he⟩ := hA.ev x _ hev
        refine val (θ' := θ) (w' := w) (h1 := h) (v := .tup [ta.zero, .lit (.bool false)]) ?_ (by simp only [bd]; intro y hy; rcases List.mem_cons.1 hy with rfl | hy; rw [hz]; simp [bd]; rw [List.mem_singleton.1 hy]; simp [bd]) (Post.refl hR) hput rfl rfl rfl
        unfold execOp
        simp only [hop, he, conc_lit, Sem.run_bind, hnil, Result.andThen, Sem.run_pure, hz]
        simp [conc]
      · cases hv
    · split at hx <;> try (cases hx; done)
      rename_i hnd
      have hd : ∀ c, o.op ≠ .defer c := fun c hc => by rw [hc] at hnd; cases hnd
      split at hx
      · rename_i v hv
        split at hx <;> try (cases hx; done)
        rename_i A1 hput
        cases hx
        obtain ⟨hb, hr⟩ := xpure_ok hB.ty hB.pair hA.ev hv w
        exact val hr hb (Post.refl hR) hput rfl rfl rfl
      · split at hx
        · rename_i v hv
          split at hx <;> try (cases hx; done)
          rename_i A1 hput
          cases hx
          obtain ⟨hb, hr⟩ := xload_ok hB.ty hR hA.ev hv
          exact val hr hb (Post.refl hR) hput rfl rfl rfl
        · have hm : XOK P base θ h w (execOp a.eval o) (xmem tb h A.ev o) := xmem_ok hB.ty hB.key hR hA.ev o
          generalize xmem tb h A.ev o = X at hx hm
          cases X with
          | val v h1 =>
            simp only at hx
            split at hx <;> try (cases hx; done)
            rename_i A1 hput
            cases hx
            obtain ⟨θ', w', hr, hb, hP⟩ := hm
            exact val hr hb hP hput rfl rfl rfl
          | skip h1 =>
            simp only at hx
            split at hx <;> try (cases hx; done)
            rename_i A1 hput
            cases hx
            obtain ⟨θ', w', hr, hP⟩ := hm
            rw [hr]
            have := hN θ' _ w' hP ((hA.ext hP.ext hP.next).put hput (show bd θ' h'.next (.lit undef) by simp [bd])) (hu.ext hP.ext hP.next)
            rw [conc_lit] at this
            rwa [modeU_ext hu hP.ext] at this
          | enter f args => cases hx
          | round id args => cases hx
          | no => cases hx
theorem xopsS_ok (hB : TabOK P tb base) {ta : TA} (hta : TAOK P ta) {ops : Array Oper} {c₀ : Frame} {cs : List Frame} : ∀ (l : List Oper) (k : Nat), ops.toList.drop k = l → ∀ {θ : Th} {h : AH} {w : World} {u u' : US} {A A' : AA} {a : Act} {h' : AH}, xopsS tb ta ops.toList l u A h = some (A', h', u') → R base θ h w → AOK θ h.next A a → bdU θ h.next u →
    ∀ {Q : Exit → Act → List Frame → World → Prop}, (∀ θ' a' w', Post base θ h w θ' h' w' → AOK θ' h'.next A' a' → bdU θ' h'.next u' → Q .normal a' ({ c₀ with mode := modeU θ' u' } :: cs) w') → wpOpsSIn (FW none) 0 P ops Q (List.range' k l.length) a ({ c₀ with mode := modeU θ u } :: cs) w
  | [], k, hk, θ, h, w, u, u', A, A', a, h', hx, hR, hA, hu, Q, hQ => by
    cases hx
    exact hQ θ a w (Post.refl hR) hA hu
  | o :: l, k, hk, θ, h, w, u, u', A, A', a, h', hx, hR, hA, hu, Q, hQ => by
    have hok : ops[k]? = some o := by
      rw [← Array.getElem?_toList]
      have := congrArg (·[0]?) hk
      simpa using this
    have hk' : ops.toList.drop (k + 1) = l := by
      rw [← List.drop_drop, hk]; rfl
    simp only [xopsS] at hx
    split at hx <;> try (cases hx; done)
    rename_i hw
    split at hx <;> try (cases hx; done)
    rename_i A1 h1 u1 h1x
    have hwa := wanted_ok hA hw
    simp only [List.length_cons, List.range'_succ]
    unfold wpOpsSIn
    simp only [hok]
    refine ⟨fun _ _ => trivial, ?_⟩
    rw [hwa]
    simp only [if_true]
    exact xopS1_ok (N := fun a' cs' w' => wpOpsSIn (FW none) 0 P ops Q (List.range' (k + 1) l.length) a' cs' w') hB hta h1x hR hA hu fun θ' a' w' hP hA' hu' =>
      xopsS_ok hB hta l (k + 1) hk' hx hP.r hA' hu' fun θ'' a'' w'' hP' hA'' hu'' => hQ θ'' a'' w'' (hP.trans hP') hA'' hu''
theorem xcallD_ok (hB : TabOK P tb base) {m : Nat} {ta : TA} (hta : TAOK P ta) {f : FuncId} {u u' : US} {args : List AV} {h' : AH} (hx : xcallD tb m ta f u h args = some (h', u')) (hR : R base θ h w) (hb : bdl θ h.next args) (hu : bdU θ h.next u) :
    EnterOK P f ∧ CallsDIn (FW none) 0 P f (args.map (conc θ)).toArray (modeU θ u) w fun e v' w' => (∃ v, e = .returned v) ∧ ∃ θ', v' = modeU θ' u' ∧ bdU θ' h'.next u' ∧ Post base θ h w θ' h' w' := by
  unfold xcallD at hx
  split at hx <;> try (cases hx; done)
  rename_i fn hfn
  split at hx <;> try (cases hx; done)
  rename_i id ops c hbody
  split at hx <;> try (cases hx; done)
  rename_i hlen
  obtain ⟨hl1, hl2, hres⟩ := hlen
  split at hx <;> try (cases hx; done)
  rename_i A1 h1 u1 hops
  split at hx <;> try (cases hx; done)
  rename_i e A2 h2 hex
  split at hx <;> try (cases hx; done)
  rename_i hc
  cases hx
  obtain ⟨hpf, hent⟩ := hB.fn f fn hfn
  have hA0 : AOK θ h.next { t := args0 args 0 .e, n := fn.ntmps, ds := [] } { tmps := (args.map (conc θ)).toArray ++ Array.replicate (fn.ntmps - (args.map (conc θ)).toArray.size) undef, defers := [] } := args0_AOK hR hl1 hl2 hb
  refine ⟨hent, callsDIn_of_wpSIn hpf hbody trivial fun c₀ cs hm => ?_⟩
  refine wpSIn_seq (wpSIn_region ?_)
  have ec : c₀ = { c₀ with mode := modeU θ u } := by cases c₀; simp_all
  rw [ec, List.range_eq_range', ← Array.length_toList]
  refine xopsS_ok hB hta ops.toList 0 (by simp) hops hR hA0 hu fun θ1 a1 w1 hP1 hA1 hu1 => ?_
  refine wpSIn_of_wpIn rfl ?_
  refine wpIn_mono (exec_sound hB m _ _ _ _ _ _ _ hex θ1 a1 w1 hP1.r hA1 (by simp)) fun ex a2 w2 hbe => ?_
  obtain ⟨hexe, θ2, hP2, hA2⟩ := hbe
  have hd0 : a2.defers = [] := by rw [hA2.ds, List.eq_nil_of_length_eq_zero hc.2]; rfl
  have hrs : ∃ v, (results fn a2.tmps).run P w2 = .ok v w2 := by
    have : fn.results = #[] := Array.eq_empty_of_size_eq_zero hres
    exact ⟨.tuple #[], by rw [results_eq, this]; simp⟩
  obtain ⟨v, hv⟩ := hrs
  have fin : a2.defers = [] ∧ ∃ q', ({ c₀ with mode := modeU θ1 u' } :: cs) = { { c₀ with mode := modeU θ u } with mode := q' } :: cs ∧ ∃ v, (results fn a2.tmps).run P w2 = .ok v w2 ∧
      ((∃ v', Ending.returned v = .returned v') ∧ ∃ θ', q' = modeU θ' u' ∧ bdU θ' h'.next u' ∧ Post base θ h w θ' h' w2) :=
    ⟨hd0, _, rfl, v, hv, ⟨_, rfl⟩, θ2, (modeU_ext hu1 hP2.ext).symm, hu1.ext hP2.ext hP2.next, hP1.trans hP2⟩
  subst hexe
  rcases hc.1 with rfl | rfl <;> exact fin
/-- Closures that recover tell the truth. -/
noncomputable def rcvD (tb : Tab) (m : Nat) (ta : TA) (f : FuncId) : AV → AH → List AV → Option AH := fun pv h args => match xcallD tb m ta f (.pan pv) h args with
  | some (h', .rcv _) => some h'
  | _ => none
noncomputable def retD (tb : Tab) (m : Nat) (ta : TA) (f : FuncId) : AH → List AV → Option AH := fun h args => match xcallD tb m ta f .ret h args with
  | some (h', .ret) => some h'
  | _ => none
theorem recOK_of (hB : TabOK P tb base) {m : Nat} {ta : TA} (hta : TAOK P ta) {f : FuncId} {fn : Func} (hfn : tb.fn.get f = some fn) {rn : RN} (hrn : ∀ f' g, rn.get f' = some g → f' = f ∧ g = rcvD tb m ta f) : RecOK P base rn := by
  intro f' g hg
  obtain ⟨rfl, rfl⟩ := hrn f' g hg
  refine ⟨(hB.fn _ fn hfn).2, fun pv h args h' hx θ w hR hb hpv => ?_⟩
  unfold rcvD at hx
  split at hx <;> try (cases hx; done)
  rename_i h1 v hxd
  cases hx
  refine CallsDIn.mono (xcallD_ok hB hta hxd hR hb hpv).2 fun e u' w' he => ?_
  obtain ⟨hv, θ', rfl, _, hP⟩ := he
  exact ⟨hv, by simp [modeU, settle], θ', hP⟩
end
end Go.Proofs.YtknplcpjmpmblaaDoor.GX
