/- A run worked out: one operation after another. -/
import Derived.Test.YtknplcpjmpmblaaDoorZxi
set_option linter.unusedVariables false
set_option linter.unusedSimpArgs false
namespace Go.Proofs.YtknplcpjmpmblaaDoor.GX
open Go Go.RowKit

section
variable {P : Program} {tb : Tab} {rec : Rec} {θ : Th} {base : Bs} {h : AH} {w : World}
theorem wanted_ok {ops : Array Oper} {A : AA} {a : Act} {n : Nat} {o : Oper} {b : Bool} (hA : AOK θ n A a) (hx : awanted ops.toList A o = some b) : Region.wanted o (yielded ops a.tmps) = b := by
  unfold awanted at hx
  unfold Region.wanted
  split at hx
  · rename_i hg; rw [hg]; exact (Option.some.inj hx)
  · rename_i j want hg
    rw [hg]
    split at hx <;> try (cases hx; done)
    rename_i oj hj
    split at hx <;> try (cases hx; done)
    rename_i t ht
    have hj' : ops[j]? = some oj := by rw [← Array.getElem?_toList]; exact hj
    split at hx <;> try (cases hx; done)
    · rename_i u hu
      have hk := (hA.kt t _ hu).2
      rw [conc_lit] at hk
      simp only [yielded, hj', ht, Option.bind_some, hk]
      cases hx
      cases u <;> cases want <;> rfl
    · rename_i vs hu
      have hk := (hA.kt t _ hu).2
      rw [conc_lit] at hk
      simp only [yielded, hj', ht, Option.bind_some, hk]
      cases hx
      rfl
theorem not_defer {o : Oper} {ev : Operand → Option AV} (hx : (∃ v, xpure tb ev o = some v) ∨ (∃ v, xload tb h ev o = some v) ∨ asDefer o.op = none) (c : Call) : o.op ≠ .defer c := by
  intro hc
  rcases hx with ⟨v, hv⟩ | ⟨v, hv⟩ | hv
  · simp only [xpure, hc] at hv; cases hv
  · simp only [xload, hc] at hv; cases hv
  · rw [hc] at hv; cases hv
theorem wpIn_val {o : Oper} {a : Act} {ro : Option Nat} {K : Act → World → Prop} {Q : Exit → Act → World → Prop} {v : Value} {w' : World} (hd : ∀ c, o.op ≠ .defer c) (hr : (execOp a.eval o).run P w = .ok (.value v) w') (hk : K (a.put o.dst v) w') : o.wpIn (FW ro) 0 P a w K Q := by
  refine ⟨fun _ _ => trivial, ?_⟩
  rw [Oper.semAt_eq _ _ _ hd, hr, Oper.uponIn_value]
  exact hk
theorem putH_ok {A A' : AA} {a : Act} {dst : Option Tmp} {h h' : AH} {v : AV} (hx : putH A dst h v = some (A', h')) : A.put dst v = some A' ∧ h' = h := by
  unfold putH at hx
  split at hx
  · rename_i A1 hp; cases hx; exact ⟨hp, rfl⟩
  · cases hx
theorem xop_ok (hB : TabOK P tb base) (hS : Sound P base rec) (hR : R base θ h w) {A A' : AA} {a : Act} (hA : AOK θ h.next A a) {rd : Option Nat} {ops : Array Oper} {o : Oper} {h' : AH}
    (hx : xop tb rec ops.toList o rd A h = some (A', h')) {K : Act → World → Prop} {Q : Exit → Act → World → Prop} (hK : ∀ θ' a' w', Post base θ h w θ' h' w' → AOK θ' h'.next A' a' → (∃ v, a'.tmps = (a.put o.dst v).tmps) → K a' w') :
    if Region.wanted o (yielded ops a.tmps) then o.wpIn (FW (rdB θ rd)) 0 P a w K Q else (∀ f, o.about P w a.eval = some f → (FW (rdB θ rd)).fn f) ∧ K (a.put o.dst undef) w := by
  unfold xop at hx
  split at hx
  · cases hx
  · rename_i hw
    rw [wanted_ok hA hw]
    obtain ⟨hp, rfl⟩ := putH_ok (a := a) hx
    simp only [Bool.false_eq_true, if_false]
    refine ⟨fun _ _ => trivial, hK θ _ w (Post.refl hR) ?_ ?_⟩
    · have := hA.put hp (by simp [bd])
      rwa [conc_lit] at this
    · exact ⟨_, rfl⟩
  · rename_i hw
    rw [wanted_ok hA hw]
    simp only [if_true]
    unfold xop1 at hx
    split at hx
    · rename_i v hv
      obtain ⟨hp, rfl⟩ := putH_ok (a := a) hx
      obtain ⟨hb, hr⟩ := xpure_ok hB.ty hB.pair hA.ev hv w
      exact wpIn_val (not_defer (tb := tb) (h := h') (.inl ⟨v, hv⟩)) hr (hK θ _ w (Post.refl hR) (hA.put hp hb) ⟨_, rfl⟩)
    · split at hx
      · rename_i v hv
        obtain ⟨hp, rfl⟩ := putH_ok (a := a) hx
        obtain ⟨hb, hr⟩ := xload_ok hB.ty hR hA.ev hv
        exact wpIn_val (not_defer (.inr (.inl ⟨v, hv⟩))) hr (hK θ _ w (Post.refl hR) (hA.put hp hb) ⟨_, rfl⟩)
      · split at hx
        · rename_i c hc
          split at hx <;> try (cases hx; done)
          rename_i A1 hd
          obtain ⟨hp, rfl⟩ := putH_ok (a := a) hx
          obtain ⟨t, n, ds⟩ := A
          unfold xdefer at hd
          split at hd <;> try (cases hd; done)
          rename_i f hcal
          split at hd <;> try (cases hd; done)
          rename_i g first cap xs hf hxs
          cases hd
          have hop : o.op = .defer c := by
            unfold asDefer at hc
            split at hc
            · rename_i c' ho; cases hc; exact ho
            · cases hc
          obtain ⟨hbf, hf'⟩ := hA.ev f _ hf
          obtain ⟨hbx, hex⟩ := evs_ok hA.ev hxs
          simp only [bd] at hbf
          have e1 : c.args.map a.eval = (xs.map (conc θ)).toArray := by apply Array.toList_inj.1; rw [Array.toList_map, hex]
          have hrun : (execOp a.eval o).run P w = .ok (.defer (concD θ (.call g cap (first ++ xs)))) w := by
            unfold execOp
            simp only [hop, resolve, hcal, hf', conc, Deferred.ofValue, Sem.run_bind, Sem.run_pure, Result.andThen, e1, concD]
            congr 3
            simp
          refine ⟨fun _ _ => trivial, ?_⟩
          show o.uponIn (FW none) 0 P a K Q ((o.semAt none a.eval).run P w)
          rw [Oper.semAt_none, hrun, Oper.uponIn_defer]
          refine hK θ _ w (Post.refl hR) ?_ ⟨undef, by cases o.dst <;> rfl⟩
          have hA1 : AOK θ h'.next ⟨t, n, .call g cap (first ++ xs) :: ds⟩ { a with defers := concD θ (.call g cap (first ++ xs)) :: a.defers } :=
            ⟨hA.size, hA.kt, by rw [hA.ds]; rfl, fun d hd => by
              rcases List.mem_cons.1 hd with rfl | hd
              · exact ⟨hbf.2, fun y hy => by
                  rcases List.mem_append.1 hy with hy | hy
                  · exact hbf.1 y hy
                  · exact hbx y hy⟩
              · exact hA.bds d hd⟩
          have := hA1.put hp (by simp [bd])
          rwa [conc_lit] at this
        · rename_i hnd
          have hd := not_defer (tb := tb) (h := h) (ev := A.ev) (o := o) (.inr (.inr hnd))
          have hm := xmem_ok hB.ty hB.key hR hA.ev o
          generalize xmem tb h A.ev o = X at hx hm
          cases X with
          | val v h1 =>
            obtain ⟨hp, rfl⟩ := putH_ok (a := a) hx
            obtain ⟨θ', w', hr, hb, hP⟩ := hm
            exact wpIn_val hd hr (hK θ' _ w' hP ((hA.ext hP.ext hP.next).put hp hb) ⟨_, rfl⟩)
          | skip h1 =>
            obtain ⟨hp, rfl⟩ := putH_ok (a := a) hx
            obtain ⟨θ', w', hr, hP⟩ := hm
            refine ⟨fun _ _ => trivial, ?_⟩
            rw [Oper.semAt_eq _ _ _ hd, hr, Oper.uponIn_skip]
            have := (hA.ext hP.ext hP.next).put hp (show bd θ' h'.next (.lit undef) by simp [bd])
            rw [conc_lit] at this
            exact hK θ' _ w' hP this ⟨_, rfl⟩
          | enter f args =>
            obtain ⟨hb, hr⟩ := hm
            simp only [xmemPut] at hx
            cases hc : xcall tb rec f args h with
            | none => rw [hc] at hx; cases hx
            | some p =>
              obtain ⟨v, h1⟩ := p
              rw [hc] at hx
              obtain ⟨hp, rfl⟩ := putH_ok (a := a) hx
              obtain ⟨hent, hcall⟩ := xcall_ok hB hS hR hb hc
              refine ⟨fun _ _ => trivial, ?_⟩
              rw [Oper.semAt_eq _ _ _ hd, hr, hent, Oper.uponIn_enter]
              refine ⟨by simp [FW, Fence.wide], (FW_calls hcall).mono fun e w' he => ?_⟩
              obtain ⟨θ', rfl, hbv, hP⟩ := he
              exact hK θ' _ w' hP ((hA.ext hP.ext hP.next).put hp hbv) ⟨_, rfl⟩
          | round id args =>
            obtain ⟨hb, hid, hr⟩ := hm
            simp only [xmemPut] at hx
            cases hc : xround rec id args h with
            | none => rw [hc] at hx; cases hx
            | some p =>
              obtain ⟨v, h1⟩ := p
              rw [hc] at hx
              obtain ⟨hp, rfl⟩ := putH_ok (a := a) hx
              obtain ⟨f, tmps, assign, body, hy, hround⟩ := xround_ok hB hS hR hb hc (rdB θ rd)
              refine ⟨fun _ _ => trivial, ?_⟩
              rw [Oper.semAt_eq _ _ _ hd, hr, hy, Oper.uponIn_round]
              refine ⟨by simp [FW, Fence.wide], hround.mono fun e w' he => ?_⟩
              obtain ⟨θ', rfl, hbv, hP⟩ := he
              exact hK θ' _ w' hP ((hA.ext hP.ext hP.next).put hp hbv) ⟨_, rfl⟩
          | no => cases hx
theorem rdB_ext {θ θ' : Th} {n : Nat} (he : Ext θ θ' n) {rd : Option Nat} (hr : ∀ l, rd = some l → l < n) : rdB θ' rd = rdB θ rd := by
  cases rd with
  | none => rfl
  | some l => simp only [rdB, Option.map_some, he l (hr l rfl)]
theorem xops_ok (hB : TabOK P tb base) (hS : Sound P base rec) {rd : Option Nat} {ops : Array Oper} : ∀ (l : List Oper) (k : Nat), ops.toList.drop k = l → ∀ {θ : Th} {h : AH} {w : World} {A A' : AA} {a : Act} {h' : AH} {e : AExit}, R base θ h w → AOK θ h.next A a → (∀ l, rd = some l → l < h.next) →
    xops tb rec rd ops.toList l A h = .ok e A' h' → ∀ {Q : Exit → Act → World → Prop}, (∀ θ' a' w', e = .norm → Post base θ h w θ' h' w' → AOK θ' h'.next A' a' → Q .normal a' w') → wpOpsIn (FW (rdB θ rd)) 0 P ops Q (List.range' k l.length) a w
  | [], k, hk, θ, h, w, A, A', a, h', e, hR, hA, hrd, hx, Q, hQ => by
    cases hx
    exact hQ θ a w rfl (Post.refl hR) hA
  | o :: l, k, hk, θ, h, w, A, A', a, h', e, hR, hA, hrd, hx, Q, hQ => by
    have hok : ops[k]? = some o := by
      rw [← Array.getElem?_toList]
      have := congrArg (·[0]?) hk
      simpa using this
    have hk' : ops.toList.drop (k + 1) = l := by
      rw [← List.drop_drop, hk]; rfl
    simp only [List.length_cons, List.range'_succ]
    change (match xop tb rec ops.toList o rd A h with | some (A', h') => xops tb rec rd ops.toList l A' h' | none => .no) = .ok e A' h' at hx
    split at hx
    · rename_i A1 h1 h1x
      rw [wpOpsIn]
      simp only [hok]
      exact xop_ok hB hS hR hA h1x fun θ' a' w' hP hA' _ => by
        have hrd' : ∀ l, rd = some l → l < h1.next := fun l hl => Nat.lt_of_lt_of_le (hrd l hl) hP.next
        have := xops_ok hB hS l (k + 1) hk' hP.r hA' hrd' hx (Q := Q) fun θ'' a'' w'' he hP' hA'' => hQ θ'' a'' w'' he (hP.trans hP') hA''
        rwa [rdB_ext hP.ext hrd] at this
    · cases hx
theorem norm_of_xops {rd : Option Nat} {ops : List Oper} : ∀ (l : List Oper) {A A' : AA} {h h' : AH} {e : AExit}, xops tb rec rd ops l A h = .ok e A' h' → e = .norm
  | [], A, A', h, h', e, hx => by cases hx; rfl
  | o :: l, A, A', h, h', e, hx => by
    change (match xop tb rec ops o rd A h with | some (A', h') => xops tb rec rd ops l A' h' | none => .no) = .ok e A' h' at hx
    split at hx
    · exact norm_of_xops l hx
    · cases hx
end
end Go.Proofs.YtknplcpjmpmblaaDoor.GX
