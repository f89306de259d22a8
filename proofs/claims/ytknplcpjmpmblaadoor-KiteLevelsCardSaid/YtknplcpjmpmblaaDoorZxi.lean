/- A run worked out: one operation, calls and rounds, where statements are worked out rightly. -/
import Derived.Test.YtknplcpjmpmblaaDoorZxh
import Derived.RangeFuncLeaves
set_option linter.unusedVariables false
set_option linter.unusedSimpArgs false
namespace Go.Proofs.YtknplcpjmpmblaaDoor.GX
open Go Go.RowKit

abbrev FW (rd : Option Nat) : Fence := { Fence.wide with round := rd }
theorem FW_fn (rd : Option Nat) (f : FuncId) : (FW rd).fn f := trivial
theorem FW_depth (rd : Option Nat) : (FW rd).depth = none := rfl
theorem FW_calls {rd : Option Nat} {n : Nat} {P : Program} {f : FuncId} {args : Array Value} {w : World} {R : Ending → World → Prop} (h : CallsIn (FW none) n P f args w R) : CallsIn (FW rd) n P f args w R := h

noncomputable def concD (θ : Th) : AD → Deferred
  | .col id => { target := .collected (θ id).b, args := #[] }
  | .call f cap args => { target := .fn (.func f) (cap.map (conc θ)).toArray, args := (args.map (conc θ)).toArray }
def bdD (θ : Th) (n : Nat) : AD → Prop
  | .col id => id < n
  | .call _ cap args => bdl θ n cap ∧ bdl θ n args
theorem bdD_ext {θ θ' : Th} {n m : Nat} (he : Ext θ θ' n) (hn : n ≤ m) {d : AD} (h : bdD θ n d) : bdD θ' m d := by
  cases d with
  | col id => exact Nat.lt_of_lt_of_le h hn
  | call f cap args => exact ⟨bdl_ext he hn h.1, bdl_ext he hn h.2⟩
theorem concD_ext {θ θ' : Th} {n : Nat} (he : Ext θ θ' n) {d : AD} (h : bdD θ n d) : concD θ' d = concD θ d := by
  cases d with
  | col id => simp only [concD, he id h]
  | call f cap args => simp only [concD, concl_ext he h.1, concl_ext he h.2]
structure AOK (θ : Th) (n : Nat) (A : AA) (a : Act) : Prop where
  size : a.tmps.size = A.n
  kt : KT θ n A.t a.tmps
  ds : a.defers = A.ds.map (concD θ)
  bds : ∀ d ∈ A.ds, bdD θ n d
theorem AOK.ext {θ θ' : Th} {n m : Nat} {A : AA} {a : Act} (h : AOK θ n A a) (he : Ext θ θ' n) (hn : n ≤ m) : AOK θ' m A a :=
  ⟨h.size, h.kt.ext he hn, by rw [h.ds]; exact (List.map_congr_left fun d hd => concD_ext he (h.bds d hd)).symm, fun d hd => bdD_ext he hn (h.bds d hd)⟩
theorem AOK.ev {θ : Th} {n : Nat} {A : AA} {a : Act} (h : AOK θ n A a) : EvOK θ n A.ev a.eval := fun x v hv => by
  cases x with
  | tmp t =>
    obtain ⟨b, e⟩ := h.kt t v hv
    exact ⟨b, by simp [Act.eval, e]⟩
  | const v' => simp only [AA.ev, Option.some.injEq] at hv; subst hv; exact ⟨by simp [bd], by simp [Act.eval, conc]⟩
  | global g => simp [AA.ev] at hv
  | func f => simp only [AA.ev, Option.some.injEq] at hv; subst hv; exact ⟨by simp [bd], by simp [Act.eval, conc]⟩
theorem AOK.put {θ : Th} {n : Nat} {A A' : AA} {a : Act} (h : AOK θ n A a) {dst : Option Tmp} {v : AV} (hp : A.put dst v = some A') (hv : bd θ n v) : AOK θ n A' (a.put dst (conc θ v)) := by
  cases dst with
  | none => simp only [AA.put, Option.some.injEq] at hp; subst hp; exact h
  | some d =>
    obtain ⟨t, m, ds⟩ := A
    simp only [AA.put] at hp
    cases hb : (Nat.blt d 1024 && Nat.blt d m) with
    | false => rw [hb] at hp; cases hp
    | true =>
      rw [hb] at hp
      simp only [cond_true, Option.some.injEq] at hp
      subst hp
      simp only [Bool.and_eq_true] at hb
      have h1 : d < 1024 := Nat.le_of_ble_eq_true hb.1
      have h2 : d < m := Nat.le_of_ble_eq_true hb.2
      exact ⟨by simp [Act.put]; exact h.size, h.kt.set hv h1 (by rw [h.size]; exact h2), h.ds, h.bds⟩

noncomputable def concE : AExit → Exit
  | .norm => .normal
  | .exit id => .exit id
  | .goto l => .goto l
  | .ret => .ret
def rdB (θ : Th) (rd : Option Nat) : Option Nat := rd.map fun l => (θ l).b
/-- What is so behind a statement. -/
def Behind (base : Bs) (θ : Th) (h : AH) (w : World) (e : AExit) (A' : AA) (h' : AH) : Exit → Act → World → Prop :=
  fun ex a' w' => ex = concE e ∧ ∃ θ', Post base θ h w θ' h' w' ∧ AOK θ' h'.next A' a'
/-- Statements are worked out rightly. -/
def Sound (P : Program) (base : Bs) (rec : Rec) : Prop :=
  ∀ c rd A h e A' h', rec c rd A h = .ok e A' h' → ∀ θ a w, R base θ h w → AOK θ h.next A a → (∀ l, rd = some l → l < h.next) →
    c.wpIn (FW (rdB θ rd)) 0 P (Behind base θ h w e A' h') a w
def EnterOK (P : Program) (f : FuncId) : Prop := ∀ args w, (callFunc f args).run P w = .ok (.enter f args) w
/-- What a call of a function is. -/
def CallOK (P : Program) (base : Bs) (θ : Th) (h : AH) (w : World) (v : AV) (h' : AH) : Ending → World → Prop :=
  fun e w' => ∃ θ', e = .returned (conc θ' v) ∧ bd θ' h'.next v ∧ Post base θ h w θ' h' w'
/-- A function does what it is said to do. -/
def NatOK (P : Program) (base : Bs) (f : FuncId) (g : AH → List AV → Option (AV × AH)) : Prop :=
  EnterOK P f ∧ ∀ θ h w args v h', R base θ h w → bdl θ h.next args → g h args = some (v, h') → CallsIn (FW none) 0 P f (args.map (conc θ)).toArray w (CallOK P base θ h w v h')
/-- The tables tell the truth. -/
structure TabOK (P : Program) (tb : Tab) (base : Bs) : Prop where
  mixed : P.follows .mixedOrders = true
  ty : ∀ t i, tb.ty.get t = some i → TyOK P t i
  key : ∀ t n, tb.keyEq.get t = some n → KeyOK P t n
  pair : PairsOK P tb
  fn : ∀ f fn, tb.fn.get f = some fn → P.funcs[f]? = some fn ∧ EnterOK P f
  nat : ∀ f g, tb.nat.get f = some g → EnterOK P f ∧ ∀ θ h w args v, R base θ h w → bdl θ h.next args → g h args = some v →
    bd θ h.next v ∧ Calls P f (args.map (conc θ)).toArray w fun e w' => e = .returned (conc θ v) ∧ Below w.heap.size w w'
  nat2 : ∀ f g, tb.nat2.get f = some g → NatOK P base f g
  pur : ∀ f g, tb.pur.get f = some g → EnterOK P f ∧ ∀ vs v, g vs = some v → (∀ θ n, bd θ n v) ∧ ∀ θ w, Calls P f vs.toArray w fun e w' => e = .returned (conc θ v) ∧ Below w.heap.size w w'
  dnat : ∀ f g, tb.dnat.get f = some g → EnterOK P f ∧ ∀ θ h w args h', R base θ h w → bdl θ h.next args → g h args = some h' →
    CallsDIn (FW none) 0 P f (args.map (conc θ)).toArray .returning w fun e u' w' => (∃ v, e = .returned v) ∧ settle u' = .returning ∧ ∃ θ', Post base θ h w θ' h' w'

section
variable {P : Program} {tb : Tab} {rec : Rec} {θ : Th} {base : Bs} {h : AH} {w : World}
theorem args0_get : ∀ (l : List AV) (i : Nat) (t : T AV) (j : Nat), i + l.length ≤ 1024 → (args0 l i t).get j = if i ≤ j ∧ j < i + l.length then l[j - i]? else t.get j
  | [], i, t, j, h => by simp [args0]; omega
  | v :: vs, i, t, j, h => by
    simp only [args0, List.length_cons] at h ⊢
    rw [args0_get vs (i + 1) _ j (by omega)]
    by_cases hj : j = i
    · subst hj
      rw [if_neg (by omega), if_pos (by omega), T.get_set_same _ 11 t j (by omega)]
      simp
    · rw [T.get_set_other _ 11 t i j hj]
      by_cases hc : i + 1 ≤ j ∧ j < i + 1 + vs.length
      · rw [if_pos hc, if_pos (by omega), show j - i = (j - (i + 1)) + 1 by omega]
        simp
      · rw [if_neg hc, if_neg (by omega)]
theorem apart_load {t : TypeId} {i : TyI} (hTi : TyOK P t i) {n id off : Nat} {cs : List AV} {el : TypeId} {row : Option Nat} (hok : OOK θ n id (.cells cs el row) w) {v : AV} (hx : apart i.agg cs off i.size = some v) :
    bd θ n v ∧ (loadVar t ⟨(θ id).b, off, none⟩).run P w = .ok (conc θ v) w := by
  have hb : bdl θ n cs := hok.1
  unfold apart at hx
  unfold loadVar
  rw [Sem.run_bind, run_isAgg' hTi w]
  cases ha : i.agg with
  | true =>
    rw [ha] at hx
    simp only [if_true] at hx
    split at hx
    · rename_i hle
      cases hx
      refine ⟨?_, ?_⟩
      · simp only [bd]; exact fun x hx => hb x (List.mem_of_mem_drop (List.mem_of_mem_take hx))
      · have hl : (loadCells ⟨(θ id).b, off, none⟩ (((cs.drop off).take i.size).map (conc θ)).length).run P w = .ok (((cs.drop off).take i.size).map (conc θ)).toArray w :=
          run_loadCells_list (P := P) w _ _ fun j u hu => by
            rw [List.getElem?_map] at hu
            obtain ⟨x, hx, rfl⟩ := map_some hu
            rw [List.getElem?_take] at hx
            split at hx
            · rw [List.getElem?_drop] at hx
              rw [add_plain']
              exact hok.cell hx
            · cases hx
        have hlen : (((cs.drop off).take i.size).map (conc θ)).length = i.size := by simp; omega
        rw [hlen] at hl
        simp [Result.andThen, Sem.run_bind, run_size hTi w, hl, conc]
    · cases hx
  | false =>
    rw [ha] at hx
    simp only [Bool.false_eq_true, if_false] at hx
    refine ⟨hb v (List.mem_of_getElem? hx), ?_⟩
    have := hok.cell hx
    simp [Result.andThen, load, Sem.run, this]
def resv (tmps : Array Value) : ResultVar → Sem Value
  | .tmp t => pure (tmps.getD t undef)
  | .cell a t => do loadVar t (← asAddr (tmps.getD a undef))
theorem results_eq (fn : Func) (tmps : Array Value) : results fn tmps = (do let vs ← fn.results.mapM (resv tmps); pure (if h : vs.size = 1 then vs[0] else .tuple vs)) := by
  unfold results
  rfl
theorem aresults_ok (hT : ∀ t i, tb.ty.get t = some i → TyOK P t i) (hR : R base θ h w) {A : AA} {tmps : Array Value} (hk : KT θ h.next A.t tmps) : ∀ {rs : List ResultVar} {vs : List AV}, aresults h A tb rs = some vs →
    bdl θ h.next vs ∧ (rs.mapM (resv tmps)).run P w = .ok (vs.map (conc θ)) w
  | [], vs, hx => by cases hx; exact ⟨fun x hx => (by cases hx), rfl⟩
  | r :: rs, vs, hx => by
    simp only [aresults] at hx
    cases h1 : aresult h A tb r with
    | none => rw [h1] at hx; cases hx
    | some v =>
      cases h2 : aresults h A tb rs with
      | none => rw [h1, h2] at hx; cases hx
      | some us =>
        rw [h1, h2] at hx
        cases hx
        obtain ⟨c, d⟩ := aresults_ok hT hR hk h2
        have hv : bd θ h.next v ∧ (resv tmps r).run P w = .ok (conc θ v) w := by
          cases r with
          | tmp t =>
            obtain ⟨a, b⟩ := hk t v h1
            exact ⟨a, by simp [resv, b]⟩
          | cell a t =>
            simp only [aresult] at h1
            split at h1
            · rename_i i id off hi ha
              split at h1
              · rename_i cs el row hm
                obtain ⟨_, e⟩ := hk a _ ha
                obtain ⟨p, q⟩ := apart_load (hT t i hi) (hR.obj id _ hm).2.2 h1
                exact ⟨p, by simp [resv, e, conc, asAddr, Sem.run_bind, Result.andThen, q]⟩
              · cases h1
            · cases h1
        refine ⟨fun y hy => ?_, ?_⟩
        · rcases List.mem_cons.1 hy with rfl | hy
          · exact hv.1
          · exact c y hy
        · rw [List.mapM_cons, Sem.run_bind, hv.2]
          simp only [Result.andThen, Sem.run_bind, d, Sem.run_pure, List.map_cons]
theorem leaves_ok (hB : TabOK P tb base) {fn : Func} {tmps : Array Value} {R' : Ending → World → Prop} : ∀ {ds : List AD} {h h' : AH} {θ : Th} {w : World}, leaves tb ds h = some h' → R base θ h w → (∀ d ∈ ds, bdD θ h.next d) →
    (∀ θ' w', Post base θ h w θ' h' w' → ∃ v, (results fn tmps).run P w' = .ok v w' ∧ R' (.returned v) w') → LeavesInM (FW none) 0 P fn tmps R' (ds.map (concD θ)) .returning w
  | [], h, h', θ, w, hl, hR, hb, hk => by
    cases hl
    exact hk θ w (Post.refl hR)
  | .col id :: ds, h, h', θ, w, hl, hR, hb, hk => by
    simp only [leaves] at hl
    split at hl
    · rename_i hm
      split at hl
      · rename_i h1 hp
        obtain ⟨hidn, hbase, hok⟩ := hR.obj id _ hm
        have hheap : w.heap[(θ id).b]? = some (.deferred (some [])) := hok
        have hP : Post base θ h w θ h1 (w.putObj (θ id).b (.deferred none)) :=
          Post.put hR hm hp (fun k hk => World.putObj_heap_other hk) (by simp) (putObj_below hbase) (World.putObj_heap_same hok.lt)
        refine ⟨by simp, .inl ⟨(θ id).b, _, rfl, run_takeDeferred hheap, ?_⟩⟩
        exact leaves_ok hB hl hP.r (fun d hd => by have := hb d (by simp [hd]); rw [(AH.put_spec hp).2.2]; exact this) fun θ' w' hP' => hk θ' w' (hP.trans hP')
      · cases hl
    · cases hl
  | .call f cap args :: ds, h, h', θ, w, hl, hR, hb, hk => by
    simp only [leaves] at hl
    split at hl
    · rename_i g hg
      split at hl
      · rename_i h1 hgr
        obtain ⟨hent, hc⟩ := hB.dnat f g hg
        have hbd : bdD θ h.next (.call f cap args) := hb _ (by simp)
        have hba : bdl θ h.next (args ++ cap) := fun y hy => by
          rcases List.mem_append.1 hy with hy | hy
          · exact hbd.2 y hy
          · exact hbd.1 y hy
        have hcall := hc θ h w (args ++ cap) h1 hR hba hgr
        have eargs : (args.map (conc θ)).toArray ++ (cap.map (conc θ)).toArray = ((args ++ cap).map (conc θ)).toArray := by simp
        refine ⟨by simp, .inr ⟨by simp [FW, Fence.wide], .func f, (cap.map (conc θ)).toArray, f, ((args ++ cap).map (conc θ)).toArray, rfl, ?_, fun _ _ => trivial, ?_⟩⟩
        · simp only [concD, invoke, eargs]
          exact hent _ _
        · refine CallsDIn.mono hcall fun e u' w' he => ?_
          obtain ⟨⟨v, rfl⟩, hu, θ', hP⟩ := he
          simp only [hu]
          have hrest := leaves_ok hB (θ := θ') (R' := R') (fn := fn) (tmps := tmps) hl hP.r (fun d hd => bdD_ext hP.ext hP.next (hb d (by simp [hd]))) fun θ'' w'' hP' => hk θ'' w'' (hP.trans hP')
          rw [List.map_congr_left fun d hd => concD_ext hP.ext (hb d (by simp [hd]))] at hrest
          exact hrest
      · cases hl
    · cases hl
theorem lits_ok : ∀ {l : List AV} {vs : List Value}, lits l = some vs → l.map (conc θ) = vs
  | [], vs, h => by cases h; rfl
  | v :: r, vs, h => by
    simp only [lits] at h
    split at h <;> try (cases h; done)
    split at h <;> try (cases h; done)
    rename_i us hu
    cases h
    simp only [List.map_cons, conc_lit, lits_ok hu]
/-- A call. -/
theorem xcall_ok (hB : TabOK P tb base) (hS : Sound P base rec) (hR : R base θ h w) {f : FuncId} {args : List AV} (hb : bdl θ h.next args) {v : AV} {h' : AH} (hx : xcall tb rec f args h = some (v, h')) :
    EnterOK P f ∧ CallsIn (FW none) 0 P f (args.map (conc θ)).toArray w (CallOK P base θ h w v h') := by
  unfold xcall at hx
  split at hx
  · rename_i g hg
    split at hx <;> try (cases hx; done)
    rename_i vs hvs
    obtain ⟨v', hv', he⟩ := map_some hx
    cases he
    obtain ⟨hent, hc⟩ := hB.pur f g hg
    obtain ⟨hbv, hcalls⟩ := hc vs v hv'
    rw [lits_ok hvs]
    refine ⟨hent, callsIn_wide.2 ((hcalls θ w).mono fun e w' he => ?_)⟩
    obtain ⟨rfl, hbel⟩ := he
    exact ⟨θ, rfl, hbv _ _, Post.more hR hbel⟩
  split at hx
  · rename_i g hg
    obtain ⟨v', hv', he⟩ := map_some hx
    cases he
    obtain ⟨hent, hc⟩ := hB.nat f g hg
    obtain ⟨hbv, hcalls⟩ := hc θ h w args v hR hb hv'
    refine ⟨hent, callsIn_wide.2 (hcalls.mono fun e w' he => ?_)⟩
    obtain ⟨rfl, hbel⟩ := he
    exact ⟨θ, rfl, hbv, Post.more hR hbel⟩
  split at hx
  · rename_i g hg
    obtain ⟨hent, hc⟩ := hB.nat2 f g hg
    exact ⟨hent, hc θ h w args v h' hR hb hx⟩
  · split at hx <;> try (cases hx; done)
    rename_i fn hfn
    split at hx <;> try (cases hx; done)
    rename_i c hc
    split at hx <;> try (cases hx; done)
    rename_i hlen
    obtain ⟨hl1, hl2⟩ := hlen
    split at hx <;> try (cases hx; done)
    rename_i e A h1 hrec
    split at hx <;> try (cases hx; done)
    rename_i he
    split at hx <;> try (cases hx; done)
    rename_i h2 hlv
    obtain ⟨hpf, hent⟩ := hB.fn f fn hfn
    refine ⟨hent, callsIn_of_wp_marks hpf hc trivial ?_⟩
    have hA0 : AOK θ h.next { t := args0 args 0 .e, n := fn.ntmps, ds := [] } { tmps := (args.map (conc θ)).toArray ++ Array.replicate (fn.ntmps - (args.map (conc θ)).toArray.size) undef, defers := [] } := by
      refine ⟨by simp; omega, fun i u hu => ?_, rfl, fun d hd => by cases hd⟩
      rw [args0_get args 0 .e i (by omega)] at hu
      split at hu
      · rename_i hi
        simp only [Nat.sub_zero] at hu
        refine ⟨hb u (List.mem_of_getElem? hu), ?_⟩
        simp only [Array.getElem?_append]
        rw [if_pos (by simp; omega)]
        simp [hu]
      · cases hu
    refine wpIn_mono (hS c none _ h e A h1 hrec θ _ w hR hA0 (by simp)) fun ex a' w' hbe => ?_
    obtain ⟨hex, θ1, hP, hA⟩ := hbe
    have key : LeavesInM (FW none) 0 P fn a'.tmps (CallOK P base θ h w v h') a'.defers .returning w' := by
      rw [hA.ds]
      refine leaves_ok hB hlv hP.r hA.bds fun θ' w'' hP' => ?_
      have hA' := hA.ext hP'.ext hP'.next
      cases hr : aresults h2 A tb fn.results.toList with
      | none => rw [hr] at hx; cases hx
      | some vs =>
        rw [hr] at hx
        obtain ⟨hbv, hrun⟩ := aresults_ok hB.ty hP'.r hA'.kt hr
        have hres : (results fn a'.tmps).run P w'' = .ok (if h : (vs.map (conc θ')).toArray.size = 1 then (vs.map (conc θ')).toArray[0] else .tuple (vs.map (conc θ')).toArray) w'' := by
          have em : (fn.results.mapM (resv a'.tmps)).run P w'' = .ok (vs.map (conc θ')).toArray w'' := by simp [Array.mapM_eq_mapM_toList, hrun]
          rw [results_eq, Sem.run_bind, em]
          rfl
        refine ⟨_, hres, θ', ?_⟩
        have hP2 := hP.trans hP'
        match vs, hx, hbv with
        | [], hx, hbv => cases hx; exact ⟨by simp [conc], by simp only [bd]; exact hbv, hP2⟩
        | [u], hx, hbv => cases hx; exact ⟨by simp, hbv _ (by simp), hP2⟩
        | u :: u' :: us, hx, hbv => cases hx; exact ⟨by simp [conc], by simp only [bd]; exact hbv, hP2⟩
    rcases he with rfl | rfl <;> (subst hex; exact key)
theorem params0_ok {n : Nat} : ∀ {l : List (Tmp × AV)} {t t' : T AV} {m : Nat} {tmps : Array Value}, params0 l t m = some t' → KT θ n t tmps → tmps.size = m → (∀ p ∈ l, bd θ n p.2) →
    KT θ n t' ((l.map fun p => (p.1, conc θ p.2)).foldl (fun tmps (t, a) => tmps.setIfInBounds t a) tmps) ∧ ((l.map fun p => (p.1, conc θ p.2)).foldl (fun tmps (t, a) => tmps.setIfInBounds t a) tmps).size = m
  | [], t, t', m, tmps, hp, hk, hm, hb => by cases hp; exact ⟨hk, hm⟩
  | (d, v) :: r, t, t', m, tmps, hp, hk, hm, hb => by
    simp only [params0] at hp
    split at hp
    · rename_i hc
      simp only [List.map_cons, List.foldl_cons]
      exact params0_ok hp (hk.set (hb (d, v) (by simp)) hc.1 (by rw [hm]; exact hc.2)) (by simp [hm]) fun p hp' => hb p (by simp [hp'])
    · cases hp
theorem codeOf_none {e : AExit} : (codeOf e).isNone = (codeOf e).isSome.not := by cases e <;> rfl
/-- A round. -/
theorem xround_ok (hB : TabOK P tb base) (hS : Sound P base rec) (hR : R base θ h w) {id : Nat} {args : List AV} (hb : bdl θ h.next args) {v : AV} {h' : AH} (hx : xround rec id args h = some (v, h')) (rd : Option Nat) :
    ∃ f tmps assign body, (Instr.yield (θ id).b (args.map (conc θ)).toArray).run P w = .ok (.round (θ id).b f tmps assign body) w ∧ RoundIn (FW rd) 0 P (θ id).b f tmps assign body w (CallOK P base θ h w v h') := by
  unfold xround at hx
  split at hx <;> try (cases hx; done)
  rename_i r hm
  split at hx <;> try (cases hx; done)
  rename_i hc
  obtain ⟨hc1, hc2, hc3⟩ := hc
  split at hx <;> try (cases hx; done)
  rename_i t hpar
  split at hx <;> try (cases hx; done)
  rename_i A h1 hrec1
  split at hx <;> try (cases hx; done)
  rename_i r1 hm1
  split at hx <;> try (cases hx; done)
  rename_i hc1'
  split at hx <;> try (cases hx; done)
  rename_i h2 hset1
  split at hx <;> try (cases hx; done)
  rename_i e A' h3 hrec2
  split at hx <;> try (cases hx; done)
  rename_i r3 hm3
  split at hx <;> try (cases hx; done)
  rename_i h4 hset2
  cases hx
  obtain ⟨hidn, hbase, hok⟩ := hR.obj id _ hm
  obtain ⟨hdfr, L, hL, hst, hst', hpend, hps, has, hbo, hkt, hnt, hdef⟩ := hok
  have hyield := run_yield (P := P) (args := (args.map (conc θ)).toArray) hL (by simp [hps, hc3])
  refine ⟨L.fn, _, L.assign, L.body, hyield, ?_⟩
  have hzip : ((L.params.zip (args.map (conc θ)).toArray).toList) = (r.params.toList.zip args).map fun p => (p.1, conc θ p.2) := by
    rw [Array.toList_zip, hps, List.toList_toArray, List.zip_map_right]; rfl
  have hpk := params0_ok (θ := θ) (n := h.next) hpar hkt hnt (fun p hp => hb p.2 (List.of_mem_zip hp).2)
  rw [← hzip, Array.foldl_toList] at hpk
  have hA0 : AOK θ h.next { t := t, n := r.nt, ds := [] } { tmps := (L.params.zip (args.map (conc θ)).toArray).foldl (fun tmps (t, a) => tmps.setIfInBounds t a) L.tmps, defers := [] } :=
    ⟨hpk.2, hpk.1, rfl, fun d hd => by cases hd⟩
  refine roundIn_of_wpIn trivial ?_
  have h1' := hS _ _ _ _ _ _ _ hrec1 θ _ w hR hA0 (fun l hl => by cases hl; exact hidn)
  rw [has]
  refine wpIn_mono h1' fun ex a1 w1 hbe => ?_
  obtain ⟨hex, θ1, hP1, hA1⟩ := hbe
  subst hex
  show ∃ w₂, _
  obtain ⟨hidn1, hbase1, hok1⟩ := hP1.r.obj id _ hm1
  obtain ⟨hdfr1, L1, hL1, hst1, hst1', hpend1, hps1, has1, hbo1, hkt1, hnt1, hdef1⟩ := hok1
  have hbeq : (θ1 id).b = (θ id).b := by rw [hP1.ext id hidn]
  rw [hbeq] at hL1 hbase1
  have hready : L1.state = .ready := by rw [hst1 (.inl hc1'.2)]; simp [lstate, hc1'.1, hc1'.2]
  refine ⟨_, run_beginRound (P := P) hL1 hready, ?_⟩
  have hlt1 : (θ id).b < w1.heap.size := (Array.getElem?_eq_some_iff.1 hL1).1
  have hsp1 := AH.put_spec hset1
  have hP2 : Post base θ1 h1 w1 θ1 h2 (w1.putObj (θ id).b (.loop { L1 with state := .busy })) := by
    refine Post.put hP1.r hm1 hset1 (fun k hk => World.putObj_heap_other (by rw [← hbeq]; exact hk)) (by simp) (putObj_below hbase1) ?_
    refine ⟨hdfr1, { L1 with state := .busy }, by rw [hbeq]; exact World.putObj_heap_same hlt1, fun _ => by simp [lstate], fun h => by simp at h, hpend1, hps1, has1, hbo1, hkt1, hnt1, hdef1⟩
  have hbody : L1.body = L.body ∨ True := .inr trivial
  have hA1' : AOK θ1 h2.next A a1 := hA1.ext (Ext.refl _ _) (by rw [hsp1.2.2]; exact Nat.le_refl _)
  have h2' := hS _ _ _ _ _ _ _ hrec2 θ1 a1 _ hP2.r hA1' (fun l hl => by cases hl; rw [hsp1.2.2]; exact hidn1)
  simp only [rdB, Option.map_some, hbeq] at h2'
  rw [hbo]
  refine wpIn_mono h2' fun ex a2 w2 hbe => ?_
  obtain ⟨hex, θ2, hP3, hA2⟩ := hbe
  obtain ⟨hidn3, hbase3, hok3⟩ := hP3.r.obj id _ hm3
  obtain ⟨hdfr3, L3, hL3, hst3, hst3', hpend3, hps3, has3, hbo3, hkt3, hnt3, hdef3⟩ := hok3
  have hbeq3 : (θ2 id).b = (θ id).b := by rw [hP3.ext id (by rw [hsp1.2.2]; exact hidn1), hbeq]
  rw [hbeq3] at hL3 hbase3
  have hlt3 : (θ id).b < w2.heap.size := (Array.getElem?_eq_some_iff.1 hL3).1
  have hsp2 := AH.put_spec hset2
  have hfin : ∃ v' w', (Instr.endRound (θ id).b (codeOf e)).run P w2 = .ok v' w' ∧ CallOK P base θ h w (.lit (.bool (codeOf e).isNone)) h' (.returned v') w' := by
    refine ⟨_, _, run_endRound (P := P) (codeOf e) hL3, θ2, by simp [conc], by simp [bd], ?_⟩
    refine (hP1.trans (hP2.trans hP3)).trans (Post.put hP3.r hm3 hset2 (fun k hk => World.putObj_heap_other (by rw [← hbeq3]; exact hk)) (by simp) (putObj_below hbase3) ?_)
    refine ⟨hdfr3, { L3 with state := if (codeOf e).isNone then .ready else .done, pending := codeOf e }, by rw [hbeq3]; exact World.putObj_heap_same hlt3, ?_, ?_, rfl, hps3, has3, hbo3, hkt3, hnt3, hdef3⟩
    · intro _; cases e <;> rfl
    · intro _; cases e <;> simp [codeOf]
  subst hex
  cases e <;> exact hfin
end
end Go.Proofs.YtknplcpjmpmblaaDoor.GX
