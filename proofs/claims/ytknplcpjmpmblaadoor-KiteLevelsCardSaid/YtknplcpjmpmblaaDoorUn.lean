/- Functions by what they give: how a spec is proved; tables. -/
import Derived.Test.YtknplcpjmpmblaaDoorUm
set_option linter.unusedVariables false
set_option linter.unusedSimpArgs false
namespace Go.Proofs.YtknplcpjmpmblaaDoor.GY
open Go Go.RowKit

noncomputable def nilq (u : Value) (n : Nat) : List Prop := match u with
  | .slice none 0 0 => [EqN n 0]
  | _ => [False]
noncomputable def blq (u : Value) (b' : Bool) : List Prop := match u with
  | .bool b => [EqB b b']
  | _ => [False]
noncomputable def litq (u : Value) (g : GV) : List Prop := match g with
  | .rows _ _ n _ => nilq u n
  | .lit u' => lq u u'
  | .sb b' => blq u b'
  | _ => [False]
noncomputable def sbq (b : Bool) (g : GV) : List Prop := match g with
  | .sb b' => [EqB b b']
  | .lit (.bool b') => [EqB b b']
  | _ => [False]
/-- That a result holds what is said. -/
noncomputable def rq1 (h : AH) (v : AV) (g : GV) : List Prop := match v with
  | .lit u => litq u g
  | .sb b => sbq b g
  | .isl id n => match g with
    | .rows _ sz n' f' => match h.m.get id with
      | some (.irow _ sz' m f) => nq sz' sz ++ [EqN n n', LeN n m, RowEq n' sz f f']
      | some _ => [False]
      | none => match h.ro.get id with
        | some ⟨fr, _, sz', m, f⟩ => bq fr ++ (nq sz' sz ++ [EqN n n', LeN n m, RowEq n' sz f f'])
        | none => [False]
    | _ => [False]
  | _ => [False]
noncomputable def rql (rq : AV → GV → List Prop) : List AV → List GV → List Prop
  | [], [] => []
  | v :: vs, g :: gs => rq v g ++ rql rq vs gs
  | _, _ => [False]
noncomputable def rqA (h : AH) (v : AV) (g : GV) : List Prop := match v, g with
  | .agg cs, .agg gs => rql (rq1 h) cs gs
  | v, g => rq1 h v g
noncomputable def rq (h : AH) (v : AV) (g : GV) : List Prop := match v, g with
  | .tup cs, .tup gs => rql (rqA h) cs gs
  | v, g => rqA h v g
noncomputable def one : List AV → AV
  | [v] => v
  | vs => .tup vs
noncomputable def retP (tb : Tab) (fn : Func) (g : GV) (A : AA) (h : AH) : Prop := match leaves tb A.ds (h.start []) with
  | some h2 => match aresults h2 A tb fn.results.toList with
    | some vs => All (rq h2 (one vs) g) ∧ All h2.sc
    | none => False
  | none => False
/-- How a function ends. -/
noncomputable def finP (tb : Tab) (fn : Func) (g : GV) : Post3 := fun e A h => match e with
  | .norm => retP tb fn g A h
  | .ret => retP tb fn g A h
  | _ => False
noncomputable def H0 : AH := ⟨.e, 0, .e, [], []⟩

section
variable {P : Program} {tb : Tab} {base : Bs} {θ : Th} {h : AH} {w : World}
theorem rq1_ok (hR : R base θ h w) {v : AV} {g : GV} (hx : All (rq1 h v g)) : Reads1 w base.n (conc θ v) g := by
  unfold rq1 at hx
  split at hx
  · rename_i u
    unfold litq at hx
    split at hx
    · unfold nilq at hx
      split at hx
      · obtain ⟨⟨rfl⟩, _⟩ := hx
        exact ⟨none, 0, by simp [conc], Nat.le_refl _, Nat.zero_le _, fun h => absurd h (by omega)⟩
      · exact hx.1.elim
    · rw [lq_ok hx]; simp [conc, Reads1]
    · unfold blq at hx
      split at hx
      · rw [hx.1.p]; simp [conc, Reads1]
      · exact hx.1.elim
    · exact hx.1.elim
  · unfold sbq at hx
    split at hx
    · rw [hx.1.p]; simp [conc, Reads1]
    · rw [hx.1.p]; simp [conc, Reads1]
    · exact hx.1.elim
  · rename_i id n
    split at hx
    · rename_i el sz n' f'
      split at hx
      · rename_i el2 sz' m f hm
        obtain ⟨h1, ⟨h2⟩, ⟨h3⟩, ⟨h4⟩, _⟩ := All.append.1 hx
        have h1 := nq_ok h1
        subst h1; subst h2
        obtain ⟨_, hb, hok⟩ := hR.obj id _ hm
        obtain ⟨a, b, c, d, e⟩ := rowAt_ok (f := f) (sz := sz') (n := m) hR (by unfold rowAt; rw [hm])
        refine ⟨(θ id).a, (θ id).c, by simp [conc], by omega, d, fun h0 => ⟨(θ id).b, (θ id).o, e (by omega), hb, hok.lt, fun k j hk hj => ?_⟩⟩
        rw [← h4 k j hk hj]; exact b k j (by omega) hj
      · exact hx.1.elim
      · rename_i hmn
        split at hx
        · rename_i fr el2 sz' m f hm
          obtain ⟨h0, hx⟩ := All.append.1 hx
          obtain ⟨h1, ⟨h2⟩, ⟨h3⟩, ⟨h4⟩, _⟩ := All.append.1 hx
          have h1 := nq_ok h1
          have h0 := bq_ok h0
          subst h1; subst h2
          obtain ⟨_, hrok, _⟩ := hR.rom id _ hm
          obtain ⟨a, b, c, d, e⟩ := rowAt_ok (f := f) (sz := sz') (n := m) hR (by unfold rowAt; rw [hmn]; simp only [hm])
          refine ⟨(θ id).a, (θ id).c, by simp [conc], by omega, d, fun hn => ⟨(θ id).b, (θ id).o, e (by omega), hrok.fr (by simp only; omega) h0, hrok.lt (by simp only; omega), fun k j hk hj => ?_⟩⟩
          rw [← h4 k j hk hj]; exact b k j (by omega) hj
        · exact hx.1.elim
    · exact hx.1.elim
  · exact hx.1.elim
theorem rql_ok {rq : AV → GV → List Prop} {r : Value → GV → Prop} (hr : ∀ v g, All (rq v g) → r (conc θ v) g) : ∀ {l : List AV} {gs : List GV}, All (rql rq l gs) → All2 r (l.map (conc θ)) gs
  | [], [], _ => trivial
  | v :: vs, g :: gs, h => by
    obtain ⟨h1, h2⟩ := All.append.1 h
    exact ⟨hr v g h1, rql_ok hr h2⟩
  | [], _ :: _, h => h.1.elim
  | _ :: _, [], h => h.1.elim
theorem rqA_ok (hR : R base θ h w) {v : AV} {g : GV} (hx : All (rqA h v g)) : ReadsA w base.n (conc θ v) g := by
  unfold rqA at hx
  split at hx
  · rename_i cs gs
    exact ⟨cs.map (conc θ), by simp only [conc], rql_ok (fun v g h => rq1_ok hR h) hx⟩
  · have := rq1_ok hR hx
    cases g <;> first | exact this | exact False.elim this
theorem rq_ok (hR : R base θ h w) {v : AV} {g : GV} (hx : All (rq h v g)) : Reads w base.n (conc θ v) g := by
  unfold rq at hx
  split at hx
  · rename_i cs gs
    exact ⟨cs.map (conc θ), by simp only [conc], rql_ok (fun v g h => rqA_ok hR h) hx⟩
  · have key := rqA_ok hR hx
    cases g <;> first | exact key | exact False.elim key
/-- A spec is proved by the run of the function's statement. -/
theorem spec_intro (hB : ∀ base, TabOK P tb base) {f : FuncId} {fn : Func} {c : Code} {F : List GV → Option (GV × List Prop)} (hf : P.funcs[f]? = some fn) (hent : EnterOK P f) (hc : fn.body = some c)
    (H : ∀ gs g ps, F gs = some (g, ps) → All ps → ∃ args h0, lds false gs H0 = some (args, h0) ∧ (args.length ≤ fn.ntmps ∧ args.length < 1024) ∧
      ∀ base E, E.h = h0 → Tri P base E c ⟨args0 args 0 .e, fn.ntmps, []⟩ h0 (finP tb fn g)) : FnSpec P f F := by
  refine ⟨hent, fun w vs gs g ps hv hF hps => ?_⟩
  obtain ⟨args, h0, hld, ⟨hl1, hl2⟩, hT⟩ := H gs g ps hF hps
  let base : Bs := ⟨w.heap.size, w⟩
  have hR0 : R base (fun _ => ⟨0, 0, none⟩) H0 w := ⟨fun id o h => by simp [H0] at h, fun id id' o o' h => by simp [H0] at h, Nat.le_refl _, fun _ _ => rfl, fun id r h => by simp [H0] at h⟩
  have hL : LoOK base 0 false (fun _ => ⟨0, 0, none⟩) H0 := ⟨(fun h => by cases h), (fun id o h => by simp [H0] at h), (fun _ id o h => by simp [H0] at h)⟩
  obtain ⟨θ, hld', hb, hconc⟩ := lds_ok hL hR0 hv hld
  refine (callsIn_wide (n := 0)).1 (callsIn_of_wp_marks (F := FW none) hf hc trivial ?_)
  have hA0 : AOK θ h0.next { t := args0 args 0 .e, n := fn.ntmps, ds := [] } { tmps := vs.toArray ++ Array.replicate (fn.ntmps - vs.toArray.size) undef, defers := [] } := by
    rw [← hconc]
    refine ⟨by simp; omega, fun i u hu => ?_, rfl, fun d hd => by cases hd⟩
    rw [args0_get args 0 .e i (by omega)] at hu
    split at hu
    · rename_i hi
      simp only [Nat.sub_zero] at hu
      refine ⟨hb u (List.mem_of_getElem? hu), ?_⟩
      simp only [Array.getElem?_append]
      rw [if_pos (by simp; omega)]
      simp [hu]
    · cases hu
  refine wpIn_mono (hT base ⟨θ, h0, w⟩ rfl θ _ w (Post.refl hld'.r) hA0) fun ex a' w' ⟨e, A, h, θ', hex, hq, hP, hA⟩ => ?_
  have fin : retP tb fn g A h → LeavesInM (FW none) 0 P fn a'.tmps (fun e w' => ∃ v, e = .returned v ∧ Reads w' w.heap.size v g ∧ Below w.heap.size w w') a'.defers .returning w' := by
    intro hr
    unfold retP at hr
    split at hr <;> try exact hr.elim
    rename_i h2 hlv
    split at hr <;> try exact hr.elim
    rename_i vs' har
    obtain ⟨hq1, hs2⟩ := hr
    have hst : (h.start []).m = h.m ∧ (h.start []).next = h.next ∧ (h.start []).ro = h.ro := by cases h; exact ⟨rfl, rfl, rfl⟩
    obtain ⟨e1, e2, e3⟩ := hst
    rw [hA.ds]
    refine leaves_ok (hB base) hlv hs2 (hP.r.same e1 e2 e3) (by rw [e2]; exact hA.bds) fun θ'' w'' hP' => ?_
    have hA' := hA.ext (θ' := θ'') (by rw [← e2]; exact hP'.ext) (by rw [← e2]; exact hP'.next)
    obtain ⟨hbv, hrun⟩ := aresults_ok (hB base).ty hP'.r hA'.kt har
    have em : (fn.results.mapM (resv a'.tmps)).run P w'' = .ok (vs'.map (conc θ'')).toArray w'' := by simp [Array.mapM_eq_mapM_toList, hrun]
    have hres : (results fn a'.tmps).run P w'' = .ok (if h : (vs'.map (conc θ'')).toArray.size = 1 then (vs'.map (conc θ'')).toArray[0] else .tuple (vs'.map (conc θ'')).toArray) w'' := by
      rw [results_eq, Sem.run_bind, em]
      rfl
    have hbel : Below w.heap.size w w'' := hP.below.trans hP'.below
    refine ⟨_, hres, _, rfl, ?_, hbel⟩
    have hrd := rq_ok hP'.r hq1
    match vs', hrd with
    | [], hrd => simpa [one, conc] using hrd
    | [u], hrd => simpa [one] using hrd
    | u :: u' :: us, hrd => simpa [one, conc] using hrd
  subst hex
  cases e with
  | norm => exact fin hq
  | ret => exact fin hq
  | exit i => exact hq.elim
  | goto l => exact hq.elim

/- Tables, read off the program. -/
noncomputable def zeroFits (agg : Bool) (z : Value) : Bool := match z with
  | .agg _ => agg
  | _ => !agg
noncomputable def tyOf (P : Program) (t : TypeId) : Option TyI := match P.info? t, P.underlying t with
  | some inf, some d => match inf.zero with
    | some z => if zeroFits (descAgg d) z = true ∧ z.cells.toList.length = inf.size then some { desc := d, size := inf.size, bytes := inf.bytes, agg := descAgg d, zero := z.cells.toList } else none
    | none => none
  | _, _ => none
theorem tyOf_ok {t : TypeId} {i : TyI} (h : tyOf P t = some i) : TyOK P t i := by
  unfold tyOf at h
  split at h <;> try (cases h; done)
  rename_i inf d hi hd
  split at h <;> try (cases h; done)
  rename_i z hz
  split at h <;> try (cases h; done)
  rename_i hc
  cases h
  refine ⟨hd, ⟨inf, z, hi, rfl, rfl, hz, rfl⟩, rfl, hc.2, fun inf' hinf' => ?_⟩
  rw [hi] at hinf'
  cases hinf'
  rw [hz]
  congr 1
  have h1 := hc.1
  cases z <;> simp only [zeroFits] at h1 <;> simp_all [Value.cells]
noncomputable def fnOf (P : Program) (f : FuncId) : Option Func := match P.funcs[f]? with
  | some fn => if (fn.name == "runtime.NumGoroutine") = false ∧ fn.body.isSome = true then some fn else none
  | none => none
theorem enter_of {f : FuncId} {fn : Func} (hf : P.funcs[f]? = some fn) (hn : (fn.name == "runtime.NumGoroutine") = false) (hb : fn.body.isSome = true) : EnterOK P f := fun args w => by
  have hb' : fn.body.isNone = false := by cases h : fn.body <;> simp_all
  unfold callFunc
  simp only [Sem.run_bind, program, Sem.run, Result.andThen, hf, hn, hb', Bool.false_eq_true, if_false, Sem.run_pure]
theorem fnOf_ok {f : FuncId} {fn : Func} (h : fnOf P f = some fn) : P.funcs[f]? = some fn ∧ EnterOK P f := by
  unfold fnOf at h
  split at h <;> try (cases h; done)
  rename_i fn' hf
  split at h <;> try (cases h; done)
  rename_i hc
  cases h
  exact ⟨hf, enter_of hf hc.1 hc.2⟩
/-- A tree of what is read off, number by number. -/
noncomputable def offTab {α : Type} (r : Nat → Option α) : List Nat → T α
  | [] => .e
  | t :: ts => match r t with
    | some i => if t < 1000 then T.set (some i) 11 (offTab r ts) t else offTab r ts
    | none => offTab r ts
theorem offTab_ok {α : Type} {r : Nat → Option α} : ∀ (l : List Nat) (t : Nat) (i : α), (offTab r l).get t = some i → r t = some i
  | [], t, i, h => by cases h
  | u :: us, t, i, h => by
    simp only [offTab] at h
    split at h
    · rename_i j hj
      split at h
      · rename_i hu
        by_cases ht : t = u
        · subst ht
          rw [T.get_set_same _ 11 _ _ (Nat.lt_of_le_of_lt (Nat.succ_le_succ (Nat.le_of_lt hu)) (by decide))] at h
          cases h
          exact hj
        · rw [T.get_set_other _ 11 _ _ _ ht] at h
          exact offTab_ok us t i h
      · exact offTab_ok us t i h
    · exact offTab_ok us t i h
abbrev GSpec := List GV → Option (GV × List Prop)
noncomputable def mkTab (ty : T TyI) (P : Program) (fns : List FuncId) (sps : List (FuncId × GSpec)) (eqs : List (TypeId × Nat)) : Tab where
  ty := ty
  fn := offTab (fnOf P) fns
  sp := ofL 11 sps
  dnat := .e
  nat := .e
  eqs := ofL 11 eqs
  keyEq := .e
theorem mkTab_ok {ty : T TyI} {fns : List FuncId} {sps : List (FuncId × GSpec)} {eqs : List (TypeId × Nat)} (hm : P.follows .mixedOrders = true) (ht : ∀ t i, ty.get t = some i → TyOK P t i) (hs : ∀ p ∈ sps, FnSpec P p.1 p.2) (he : ∀ p ∈ eqs, PairOK P p.1 p.2) : ∀ base, TabOK P (mkTab ty P fns sps eqs) base := fun base =>
  { mixed := hm
    ty := ht
    key := fun t n h => by simp [mkTab] at h
    pair := fun t n h => he (t, n) (ofL_mem (Nat.le_refl _) h)
    fn := fun f fn h => fnOf_ok (offTab_ok _ _ _ h)
    sp := fun f F h => hs (f, F) (ofL_mem (Nat.le_refl _) h)
    nat := fun f g h => by simp [mkTab] at h
    dnat := fun f g h => by simp [mkTab] at h }
/-- Tables with functions of abstract values. -/
noncomputable def Tab.nats (tb : Tab) (ns : List (FuncId × (AH → List AV → Option (AV × AH)))) : Tab := { tb with nat := ofL 11 ns }
theorem nats_ok {tb : Tab} {base : Bs} (hB : TabOK P tb base) {ns : List (FuncId × (AH → List AV → Option (AV × AH)))} (hn : ∀ p ∈ ns, NatOK P base p.1 p.2) : TabOK P (tb.nats ns) base :=
  { mixed := hB.mixed, ty := hB.ty, key := hB.key, pair := hB.pair, fn := hB.fn, sp := hB.sp, dnat := hB.dnat, nat := fun f g h => hn (f, g) (ofL_mem (Nat.le_refl _) h) }
theorem inR64 {n : Int} (h1 : -9223372036854775808 ≤ n) (h2 : n ≤ 9223372036854775807) : InR .i64 n := ⟨⟨h1, h2⟩⟩
theorem of_skel {p q : Prop} (h : p = q) (hq : q) : p := by rw [h]; exact hq
noncomputable def bodyC (f : Func) : Code := match f.body with
  | some c => c
  | none => .skip
noncomputable def start (f : Func) (args : List AV) : AA := ⟨args0 args 0 .e, f.ntmps, []⟩
theorem spec_body (hB : ∀ base, TabOK P tb base) {f : FuncId} {fn : Func} {F : List GV → Option (GV × List Prop)} (hf : P.funcs[f]? = some fn) (hn : (fn.name == "runtime.NumGoroutine") = false) (hc : fn.body.isSome = true)
    (H : ∀ gs g ps, F gs = some (g, ps) → All ps → ∃ args h0, lds false gs H0 = some (args, h0) ∧ (args.length ≤ fn.ntmps ∧ args.length < 1024) ∧
      ∀ base E, E.h = h0 → Tri P base E (bodyC fn) (start fn args) h0 (finP tb fn g)) : FnSpec P f F :=
  spec_intro hB hf (enter_of hf hn hc) (c := bodyC fn) (by unfold bodyC; cases h : fn.body with | none => rw [h] at hc; cases hc | some c => rfl) H
/-- A function without loops, whose runs are all worked out. -/
noncomputable def xr (tb : Tab) (f : Func) (args : List AV) (h0 : AH) (o : List Bool) : Res := exec tb 200 (bodyC f) none (start f args) (h0.start o)
theorem Tri.run (hB : ∀ base, TabOK P tb base) {E : Ent} {fn : Func} {args : List AV} {h0 : AH} {Q : Post3} (o : List Bool) (hp : pathP (xr tb fn args h0 o) Q) : Tri P base E (bodyC fn) (start fn args) h0 Q := Tri.path (hB base) 200 o hp
end
end Go.Proofs.YtknplcpjmpmblaaDoor.GY
