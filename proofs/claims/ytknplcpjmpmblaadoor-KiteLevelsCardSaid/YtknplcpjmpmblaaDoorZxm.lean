/- A run worked out: tables that are read off the program. -/
import Derived.Test.YtknplcpjmpmblaaDoorZxl
set_option linter.unusedVariables false
set_option linter.unusedSimpArgs false
namespace Go.Proofs.YtknplcpjmpmblaaDoor.GX
open Go Go.RowKit

noncomputable def zeroFits (agg : Bool) (z : Value) : Bool := match z with
  | .agg _ => agg
  | _ => !agg
noncomputable def tyOf (P : Program) (t : TypeId) : Option TyI := match P.info? t, P.underlying t with
  | some inf, some d => match inf.zero with
    | some z => if zeroFits (descAgg d) z = true ∧ z.cells.toList.length = inf.size then some { desc := d, size := inf.size, bytes := inf.bytes, agg := descAgg d, zero := z.cells.toList } else none
    | none => none
  | _, _ => none
theorem tyOf_ok {P : Program} {t : TypeId} {i : TyI} (h : tyOf P t = some i) : TyOK P t i := by
  unfold tyOf at h
  split at h <;> try (cases h; done)
  rename_i inf d hi hd
  split at h <;> try (cases h; done)
  rename_i z hz
  split at h <;> try (cases h; done)
  rename_i hc
  cases h
  refine ⟨hd, ⟨inf, z, hi, rfl, rfl, hz, rfl⟩, rfl, hc.2, fun inf' hinf' => ?_⟩
  rw [hi] at hinf'
  cases hinf'
  rw [hz]
  congr 1
  have h1 := hc.1
  cases z <;> simp only [zeroFits] at h1 <;> simp_all [Value.cells]
noncomputable def tyTab (P : Program) : List TypeId → T TyI
  | [] => .e
  | t :: ts => match tyOf P t with
    | some i => if t < 1000 then T.set (some i) 11 (tyTab P ts) t else tyTab P ts
    | none => tyTab P ts
theorem tyTab_ok {P : Program} : ∀ (l : List TypeId) (t : TypeId) (i : TyI), (tyTab P l).get t = some i → TyOK P t i
  | [], t, i, h => by cases h
  | u :: us, t, i, h => by
    simp only [tyTab] at h
    split at h
    · rename_i j hj
      split at h
      · rename_i hu
        by_cases ht : t = u
        · subst ht
          rw [T.get_set_same _ 11 _ _ (Nat.lt_of_le_of_lt (Nat.succ_le_succ (Nat.le_of_lt hu)) (by decide))] at h
          cases h
          exact tyOf_ok hj
        · rw [T.get_set_other _ 11 _ _ _ ht] at h
          exact tyTab_ok us t i h
      · exact tyTab_ok us t i h
    · exact tyTab_ok us t i h
noncomputable def fnOf (P : Program) (f : FuncId) : Option Func := match P.funcs[f]? with
  | some fn => if (fn.name == "runtime.NumGoroutine") = false ∧ fn.body.isSome = true then some fn else none
  | none => none
theorem enter_of {P : Program} {f : FuncId} {fn : Func} (hf : P.funcs[f]? = some fn) (hn : (fn.name == "runtime.NumGoroutine") = false) (hb : fn.body.isSome = true) : EnterOK P f := fun args w => by
  have hb' : fn.body.isNone = false := by cases h : fn.body <;> simp_all
  unfold callFunc
  simp only [Sem.run_bind, program, Sem.run, Result.andThen, hf, hn, hb', Bool.false_eq_true, if_false, Sem.run_pure]
theorem fnOf_ok {P : Program} {f : FuncId} {fn : Func} (h : fnOf P f = some fn) : P.funcs[f]? = some fn ∧ EnterOK P f := by
  unfold fnOf at h
  split at h <;> try (cases h; done)
  rename_i fn' hf
  split at h <;> try (cases h; done)
  rename_i hc
  cases h
  exact ⟨hf, enter_of hf hc.1 hc.2⟩
noncomputable def fnTab (P : Program) : List FuncId → T Func
  | [] => .e
  | t :: ts => match fnOf P t with
    | some i => if t < 1000 then T.set (some i) 11 (fnTab P ts) t else fnTab P ts
    | none => fnTab P ts
theorem fnTab_ok {P : Program} : ∀ (l : List FuncId) (t : FuncId) (i : Func), (fnTab P l).get t = some i → P.funcs[t]? = some i ∧ EnterOK P t
  | [], t, i, h => by cases h
  | u :: us, t, i, h => by
    simp only [fnTab] at h
    split at h
    · rename_i j hj
      split at h
      · rename_i hu
        by_cases ht : t = u
        · subst ht
          rw [T.get_set_same _ 11 _ _ (Nat.lt_of_le_of_lt (Nat.succ_le_succ (Nat.le_of_lt hu)) (by decide))] at h
          cases h
          exact fnOf_ok hj
        · rw [T.get_set_other _ 11 _ _ _ ht] at h
          exact fnTab_ok us t i h
      · exact fnTab_ok us t i h
    · exact fnTab_ok us t i h
end Go.Proofs.YtknplcpjmpmblaaDoor.GX
