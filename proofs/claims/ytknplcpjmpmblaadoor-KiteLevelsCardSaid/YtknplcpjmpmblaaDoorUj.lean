/- A run worked out: one operation after another. -/
import Derived.Test.YtknplcpjmpmblaaDoorUi
set_option linter.unusedVariables false
set_option linter.unusedSimpArgs false
namespace Go.Proofs.YtknplcpjmpmblaaDoor.GY
open Go Go.RowKit

section
variable {P : Program} {tb : Tab} {rec : Rec} {θ : Th} {base : Bs} {h : AH} {w : World}
theorem put_same {a : Act} {d : Tmp} {v : Value} (h : a.tmps[d]? = some v) : a.put (some d) v = a := by
  simp only [Act.put]
  congr 1
  apply Array.ext_getElem?
  intro t
  by_cases ht : d = t
  · subst ht
    have hlt := (Array.getElem?_eq_some_iff.1 h).1
    rw [h]
    simp [hlt]
  · rw [Array.getElem?_setIfInBounds_ne ht]
theorem wanted_ok {ops : Array Oper} {A A1 : AA} {h h1 : AH} {o : Oper} {b : Bool} (hx : awanted ops.toList A h o = some (b, A1, h1)) :
    (h1.m = h.m ∧ h1.next = h.next ∧ h1.ro = h.ro) ∧ (All h1.sc → All h.sc) ∧ (All h1.sc → ∀ (θ : Th) (n : Nat) (a : Act), AOK θ n A a → Region.wanted o (yielded ops a.tmps) = b ∧ AOK θ n A1 a) := by
  unfold awanted at hx
  unfold Region.wanted
  split at hx
  · rename_i hg; cases hx; exact ⟨⟨rfl, rfl, rfl⟩, fun h => h, fun _ θ n a hA => ⟨by rw [hg], hA⟩⟩
  · rename_i j want hg
    split at hx <;> try (cases hx; done)
    rename_i oj hj
    split at hx <;> try (cases hx; done)
    rename_i t ht
    have hj' : ops[j]? = some oj := by rw [← Array.getElem?_toList]; exact hj
    split at hx <;> try (cases hx; done)
    · rename_i u hu
      cases hx
      refine ⟨⟨rfl, rfl, rfl⟩, fun h => h, fun _ θ n a hA => ⟨?_, hA⟩⟩
      have hk := (hA.kt t _ hu).2
      rw [conc_lit] at hk
      simp only [hg, yielded, hj', ht, Option.bind_some, hk]
      cases u <;> cases want <;> rfl
    · rename_i vs hu
      cases hx
      refine ⟨⟨rfl, rfl, rfl⟩, fun h => h, fun _ θ n a hA => ⟨?_, hA⟩⟩
      have hk := (hA.kt t _ hu).2
      rw [conc_lit] at hk
      simp only [hg, yielded, hj', ht, Option.bind_some, hk]
      rfl
    · rename_i u hu
      unfold asked at hx
      split at hx <;> try (cases hx; done)
      rename_i ov h2 hask
      split at hx <;> try (cases hx; done)
      rename_i A2 hput
      cases hx
      obtain ⟨e1, e2, e3, e4⟩ := ask_ok hask
      refine ⟨⟨e1, e2, e3⟩, fun hs => (e4.1 hs).2, fun hs θ n a hA => ?_⟩
      have huo := (e4.1 hs).1
      have hk := (hA.kt t _ hu).2
      simp only [conc, huo] at hk
      refine ⟨?_, ?_⟩
      · simp only [hg, yielded, hj', ht, Option.bind_some, hk]
        cases ov <;> cases want <;> rfl
      · have := hA.put hput (by simp [bd])
        rw [conc_lit, put_same hk] at this
        exact this
theorem not_defer {o : Oper} {ev : Operand → Option AV} (hx : (∃ v, xpure tb ev o = some v) ∨ (∃ v, xload tb h ev o = some v) ∨ asDefer o.op = none) (c : Call) : o.op ≠ .defer c := by
  intro hc
  rcases hx with ⟨v, hv⟩ | ⟨v, hv⟩ | hv
  · simp only [xpure, hc] at hv; cases hv
  · simp only [xload, hc] at hv; cases hv
  · rw [hc] at hv; cases hv
theorem wpIn_val {o : Oper} {a : Act} {ro : Option Nat} {K : Act → World → Prop} {Q : Exit → Act → World → Prop} {v : Value} {w' : World} (hd : ∀ c, o.op ≠ .defer c) (hr : (execOp a.eval o).run P w = .ok (.value v) w') (hk : K (a.put o.dst v) w') : o.wpIn (FW ro) 0 P a w K Q := by
  refine ⟨fun _ _ => trivial, ?_⟩
  rw [Oper.semAt_eq _ _ _ hd, hr, Oper.uponIn_value]
  exact hk
theorem putH_ok {A A' : AA} {dst : Option Tmp} {h h' : AH} {v : AV} (hx : putH A dst h v = some (A', h')) : A.put dst v = some A' ∧ h' = h := by
  unfold putH at hx
  split at hx
  · rename_i A1 hp; cases hx; exact ⟨hp, rfl⟩
  · cases hx
/-- What must hold grows. -/
def XM (h : AH) : XR → Prop
  | .val _ h' => All h'.sc → All h.sc
  | .skip h' => All h'.sc → All h.sc
  | _ => True
theorem added_sc {o : AO} {v : AV} : XM h (added h o v) := by
  unfold added
  split
  · rename_i h' ha; exact fun hs => by rw [← (AH.add_spec ha).2.2.2.2]; exact hs
  · trivial
theorem stored_sc {id : Nat} {o : AO} : XM h (stored h id o) := by
  unfold stored
  split
  · rename_i h' ha; exact fun hs => by rw [← (AH.put_spec ha).2.2.2.2]; exact hs
  · trivial
theorem XM.also {ps : List Prop} {X : XR} (hX : XM (h.also ps) X) : XM h X := by
  cases X with
  | val v h' => exact fun hs => (also_all.1 (hX hs)).2
  | skip h' => exact fun hs => (also_all.1 (hX hs)).2
  | _ => trivial
theorem append4_sc {el : TypeId} {sz n m id : Nat} {f g : Nat → Nat → Int} : XM h (xAppend4 h el sz n m id f g) := by
  unfold xAppend4
  split
  split
  · rename_i ha
    intro hs
    rw [(AH.add_spec ha).2.2.2.2] at hs
    exact hs.2
  · trivial
theorem ask_xm {b o : Bool} {h1 : AH} {X : XR} (ha : ask h b = some (o, h1)) (hX : XM h1 X) : XM h X := by
  have hs := (ask_ok ha).2.2.2
  cases X with
  | val v h' => exact fun h => (hs.1 (hX h)).2
  | skip h' => exact fun h => (hs.1 (hX h)).2
  | _ => trivial
theorem append3_sc {el : TypeId} {j : TyI} {xid m : Nat} {g : Nat → Nat → Int} {s : Option AV} : XM h (xAppend3 h el j xid m g s) := by
  unfold xAppend3
  split
  · split
    · trivial
    · split
      · split
        · split
          · rename_i ha; exact ask_xm ha (XM.also append4_sc)
          · rename_i ha; exact ask_xm ha (XM.also (X := .val _ _) fun hs => hs)
          · trivial
        · trivial
      · trivial
  · split
    · rename_i ha; exact ask_xm ha (XM.also added_sc)
    · rename_i ha; exact ask_xm ha (show XM _ (.val _ _) from fun hs => hs)
    · trivial
  · trivial
theorem xmem_sc {ev : Operand → Option AV} (o : Oper) : XM h (xmem tb h ev o) := by
  unfold xmem
  split
  · unfold xAlloc; split <;> first | exact added_sc | trivial
  · unfold xBox; split <;> first | exact added_sc | trivial
  · unfold xStore xStore2 xStore3 xStoreR
    repeat' (first | exact stored_sc | exact XM.also stored_sc | trivial | split)
  · unfold xBuildSlice xBuildSlice2
    repeat' (first | exact added_sc | trivial | split)
  · unfold xMakeSlice
    repeat' (first | exact XM.also added_sc | trivial | split)
  · exact added_sc
  · unfold xLookup xLookup2
    repeat' (first | exact (fun hs => hs) | trivial | split)
  · unfold xMapUpd xMapUpd2
    repeat' (first | exact stored_sc | trivial | split)
  · unfold xMapEntry xMapEntry2
    repeat' (first | trivial | (rename_i hq; exact fun hs => by rw [← (AH.put_spec hq).2.2.2.2]; exact hs) | split)
  · unfold xEntryStore xEntryStore2
    repeat' (first | exact stored_sc | trivial | split)
  · unfold xSliceE xSliceE2
    repeat' (first | exact (fun hs => hs) | trivial | split)
  · unfold xCall
    split
    · unfold xAppend xAppend2
      repeat' (first | trivial | exact XM.also append3_sc | split)
    · unfold xEnter; repeat' (first | trivial | split)
    · trivial
  · trivial
theorem xop1_ok (hB : TabOK P tb base) (hS : Sound P base rec) {A A' : AA} {rd : Option Nat} {o : Oper} {h' : AH} (hx : xop1 tb rec o rd A h = some (A', h')) :
    (All h'.sc → All h.sc) ∧ (All h'.sc → ∀ {θ : Th} {w : World} {a : Act}, R base θ h w → AOK θ h.next A a → ∀ {K : Act → World → Prop} {Q : Exit → Act → World → Prop}, (∀ θ' a' w', Post base θ h w θ' h' w' → AOK θ' h'.next A' a' → (∃ v, a'.tmps = (a.put o.dst v).tmps) → K a' w') → o.wpIn (FW (rdB θ rd)) 0 P a w K Q) := by
  unfold xop1 at hx
  split at hx
  · rename_i v hv
    obtain ⟨hp, rfl⟩ := putH_ok hx
    refine ⟨fun hs => (also_all.1 hs).2, fun hs θ w a hR hA K Q hK => ?_⟩
    obtain ⟨hb, hr⟩ := xpure_ok hB.ty hB.pair hA.ev hv (also_all.1 hs).1 w
    exact wpIn_val (not_defer (tb := tb) (h := h) (.inl ⟨v, hv⟩)) hr (hK θ _ w (Post.refl hR).also (hA.put hp hb) ⟨_, rfl⟩)
  · split at hx
    · rename_i v hv
      obtain ⟨hp, rfl⟩ := putH_ok hx
      refine ⟨fun hs => (also_all.1 hs).2, fun hs θ w a hR hA K Q hK => ?_⟩
      obtain ⟨hb, hr⟩ := xload_ok hB.ty hR hA.ev hv (also_all.1 hs).1
      exact wpIn_val (not_defer (.inr (.inl ⟨v, hv⟩))) hr (hK θ _ w (Post.refl hR).also (hA.put hp hb) ⟨_, rfl⟩)
    · split at hx
      · rename_i c hc
        split at hx <;> try (cases hx; done)
        rename_i A1 hd
        obtain ⟨hp, rfl⟩ := putH_ok hx
        refine ⟨fun hs => hs, fun hs θ w a hR hA K Q hK => ?_⟩
        obtain ⟨t, n, ds⟩ := A
        unfold xdefer at hd
        split at hd <;> try (cases hd; done)
        rename_i f hcal
        split at hd <;> try (cases hd; done)
        rename_i g first cap xs hf hxs
        cases hd
        have hop : o.op = .defer c := by
          unfold asDefer at hc
          split at hc
          · rename_i c' ho; cases hc; exact ho
          · cases hc
        obtain ⟨hbf, hf'⟩ := hA.ev f _ hf
        obtain ⟨hbx, hex⟩ := evs_ok hA.ev hxs
        simp only [bd] at hbf
        have e1 : c.args.map a.eval = (xs.map (conc θ)).toArray := by apply Array.toList_inj.1; rw [Array.toList_map, hex]
        have hrun : (execOp a.eval o).run P w = .ok (.defer (concD θ (.call g cap (first ++ xs)))) w := by
          unfold execOp
          simp only [hop, resolve, hcal, hf', conc, Deferred.ofValue, Sem.run_bind, Sem.run_pure, Result.andThen, e1, concD]
          congr 3
          simp
        refine ⟨fun _ _ => trivial, ?_⟩
        show o.uponIn (FW none) 0 P a K Q ((o.semAt none a.eval).run P w)
        rw [Oper.semAt_none, hrun, Oper.uponIn_defer]
        refine hK θ _ w (Post.refl hR) ?_ ⟨undef, by cases o.dst <;> rfl⟩
        have hA1 : AOK θ h'.next ⟨t, n, .call g cap (first ++ xs) :: ds⟩ { a with defers := concD θ (.call g cap (first ++ xs)) :: a.defers } :=
          ⟨hA.size, hA.kt, by rw [hA.ds]; rfl, fun d hd => by
            rcases List.mem_cons.1 hd with rfl | hd
            · exact ⟨hbf.2, fun y hy => by
                rcases List.mem_append.1 hy with hy | hy
                · exact hbf.1 y hy
                · exact hbx y hy⟩
            · exact hA.bds d hd⟩
        have := hA1.put hp (by simp [bd])
        rwa [conc_lit] at this
      · rename_i hnd
        have hd := not_defer (tb := tb) (h := h) (ev := A.ev) (o := o) (.inr (.inr hnd))
        have hm : ∀ (θ : Th) (w : World) (a : Act), R base θ h w → AOK θ h.next A a → XOK P base θ h w (execOp a.eval o) (xmem tb h A.ev o) := fun θ w a hR hA => xmem_ok hB.ty hB.key hR hA.ev o
        have hmm := xmem_sc (tb := tb) (h := h) (ev := A.ev) o
        generalize xmem tb h A.ev o = X at hx hm hmm
        cases X with
        | val v h1 =>
          obtain ⟨hp, rfl⟩ := putH_ok hx
          refine ⟨hmm, fun hs θ w a hR hA K Q hK => ?_⟩
          obtain ⟨θ', w', hr, hb, hP⟩ := (hm θ w a hR hA).2 hs
          exact wpIn_val hd hr (hK θ' _ w' hP ((hA.ext hP.ext hP.next).put hp hb) ⟨_, rfl⟩)
        | skip h1 =>
          obtain ⟨hp, rfl⟩ := putH_ok hx
          refine ⟨hmm, fun hs θ w a hR hA K Q hK => ?_⟩
          obtain ⟨θ', w', hr, hP⟩ := (hm θ w a hR hA).2 hs
          refine ⟨fun _ _ => trivial, ?_⟩
          rw [Oper.semAt_eq _ _ _ hd, hr, Oper.uponIn_skip]
          have := (hA.ext hP.ext hP.next).put hp (show bd θ' h'.next (.lit undef) by simp [bd])
          rw [conc_lit] at this
          exact hK θ' _ w' hP this ⟨_, rfl⟩
        | enter f args =>
          simp only [xmemPut] at hx
          cases hc : xcall tb rec f args h with
          | none => rw [hc] at hx; cases hx
          | some p =>
            obtain ⟨v, h1⟩ := p
            rw [hc] at hx
            obtain ⟨hp, rfl⟩ := putH_ok hx
            obtain ⟨hm1, hm2⟩ := xcall_ok hB hS hc
            refine ⟨hm1, fun hs θ w a hR hA K Q hK => ?_⟩
            obtain ⟨hb, hr⟩ := hm θ w a hR hA
            obtain ⟨hent, hcall⟩ := hm2 hs θ w hR hb
            refine ⟨fun _ _ => trivial, ?_⟩
            rw [Oper.semAt_eq _ _ _ hd, hr, hent, Oper.uponIn_enter]
            refine ⟨by simp [FW, Fence.wide], (FW_calls hcall).mono fun e w' he => ?_⟩
            obtain ⟨θ', rfl, hbv, hP⟩ := he
            exact hK θ' _ w' hP ((hA.ext hP.ext hP.next).put hp hbv) ⟨_, rfl⟩
        | round id args =>
          simp only [xmemPut] at hx
          cases hc : xround rec id args h with
          | none => rw [hc] at hx; cases hx
          | some p =>
            obtain ⟨v, h1⟩ := p
            rw [hc] at hx
            obtain ⟨hp, rfl⟩ := putH_ok hx
            refine ⟨(xround_ok hB hS hc none).1, fun hs θ w a hR hA K Q hK => ?_⟩
            obtain ⟨hb, hid, hr⟩ := hm θ w a hR hA
            obtain ⟨f, tmps, assign, body, hy, hround⟩ := (xround_ok hB hS hc (rdB θ rd)).2 hs θ w hR hb
            refine ⟨fun _ _ => trivial, ?_⟩
            rw [Oper.semAt_eq _ _ _ hd, hr, hy, Oper.uponIn_round]
            refine ⟨by simp [FW, Fence.wide], hround.mono fun e w' he => ?_⟩
            obtain ⟨θ', rfl, hbv, hP⟩ := he
            exact hK θ' _ w' hP ((hA.ext hP.ext hP.next).put hp hbv) ⟨_, rfl⟩
        | no => cases hx
theorem xop_ok (hB : TabOK P tb base) (hS : Sound P base rec) {A A' : AA} {rd : Option Nat} {ops : Array Oper} {o : Oper} {h' : AH}
    (hx : xop tb rec ops.toList o rd A h = some (A', h')) :
    (All h'.sc → All h.sc) ∧ (All h'.sc → ∀ {θ : Th} {w : World} {a : Act}, R base θ h w → AOK θ h.next A a → ∀ {K : Act → World → Prop} {Q : Exit → Act → World → Prop}, (∀ θ' a' w', Post base θ h w θ' h' w' → AOK θ' h'.next A' a' → (∃ v, a'.tmps = (a.put o.dst v).tmps) → K a' w') →
      if Region.wanted o (yielded ops a.tmps) then o.wpIn (FW (rdB θ rd)) 0 P a w K Q else (∀ f, o.about P w a.eval = some f → (FW (rdB θ rd)).fn f) ∧ K (a.put o.dst undef) w) := by
  unfold xop at hx
  split at hx
  · cases hx
  · rename_i b A1 h1 hw
    obtain ⟨⟨e1, e2, e3⟩, hm, hw'⟩ := wanted_ok hw
    split at hx
    · obtain ⟨hp, rfl⟩ := putH_ok hx
      refine ⟨hm, fun hs θ w a hR hA K Q hK => ?_⟩
      obtain ⟨hwa, hA1⟩ := hw' hs θ h.next a hA
      rw [hwa]
      simp only [Bool.false_eq_true, if_false]
      refine ⟨fun _ _ => trivial, hK θ _ w ((Post.refl hR).same e1 e2 e3) ?_ ?_⟩
      · have := hA1.put hp (by simp [bd])
        rw [e2]
        rwa [conc_lit] at this
      · exact ⟨_, rfl⟩
    · obtain ⟨k1, k2⟩ := xop1_ok hB hS hx
      refine ⟨fun hs => hm (k1 hs), fun hs θ w a hR hA K Q hK => ?_⟩
      obtain ⟨hwa, hA1⟩ := hw' (k1 hs) θ h.next a hA
      rw [hwa]
      simp only [if_true]
      refine k2 hs (hR.same e1 e2 e3) (by rw [e2]; exact hA1) fun θ' a' w' hP hA' ht => hK θ' a' w' ?_ hA' ht
      exact ((Post.refl hR).same e1 e2 e3).trans hP
theorem rdB_ext {θ θ' : Th} {n : Nat} (he : Ext θ θ' n) {rd : Option Nat} (hr : ∀ l, rd = some l → l < n) : rdB θ' rd = rdB θ rd := by
  cases rd with
  | none => rfl
  | some l => simp only [rdB, Option.map_some, he l (hr l rfl)]
theorem xops_ok (hB : TabOK P tb base) (hS : Sound P base rec) {rd : Option Nat} {ops : Array Oper} : ∀ (l : List Oper) (k : Nat), ops.toList.drop k = l → ∀ {h : AH} {A A' : AA} {h' : AH} {e : AExit}, xops tb rec rd ops.toList l A h = .ok e A' h' →
    (All h'.sc → All h.sc) ∧ (All h'.sc → ∀ {θ : Th} {w : World} {a : Act}, R base θ h w → AOK θ h.next A a → (∀ l, rd = some l → l < h.next) →
    ∀ {Q : Exit → Act → World → Prop}, (∀ θ' a' w', e = .norm → Post base θ h w θ' h' w' → AOK θ' h'.next A' a' → Q .normal a' w') → wpOpsIn (FW (rdB θ rd)) 0 P ops Q (List.range' k l.length) a w)
  | [], k, hk, h, A, A', h', e, hx => by
    cases hx
    exact ⟨fun hs => hs, fun hs θ w a hR hA hrd Q hQ => hQ θ a w rfl (Post.refl hR) hA⟩
  | o :: l, k, hk, h, A, A', h', e, hx => by
    have hok : ops[k]? = some o := by
      rw [← Array.getElem?_toList]
      have := congrArg (·[0]?) hk
      simpa using this
    have hk' : ops.toList.drop (k + 1) = l := by
      rw [← List.drop_drop, hk]; rfl
    change (match xop tb rec ops.toList o rd A h with | some (A', h') => xops tb rec rd ops.toList l A' h' | none => .no) = .ok e A' h' at hx
    split at hx
    · rename_i A1 h1 h1x
      obtain ⟨k1, k2⟩ := xop_ok hB hS h1x
      obtain ⟨m1, m2⟩ := xops_ok hB hS l (k + 1) hk' hx
      refine ⟨fun hs => k1 (m1 hs), fun hs θ w a hR hA hrd Q hQ => ?_⟩
      simp only [List.length_cons, List.range'_succ]
      rw [wpOpsIn]
      simp only [hok]
      exact k2 (m1 hs) hR hA fun θ' a' w' hP hA' _ => by
        have hrd' : ∀ l, rd = some l → l < h1.next := fun l hl => Nat.lt_of_lt_of_le (hrd l hl) hP.next
        have := m2 hs hP.r hA' hrd' (Q := Q) fun θ'' a'' w'' he hP' hA'' => hQ θ'' a'' w'' he (hP.trans hP') hA''
        rwa [rdB_ext hP.ext hrd] at this
    · cases hx
theorem norm_of_xops {rd : Option Nat} {ops : List Oper} : ∀ (l : List Oper) {A A' : AA} {h h' : AH} {e : AExit}, xops tb rec rd ops l A h = .ok e A' h' → e = .norm
  | [], A, A', h, h', e, hx => by cases hx; rfl
  | o :: l, A, A', h, h', e, hx => by
    change (match xop tb rec ops o rd A h with | some (A', h') => xops tb rec rd ops l A' h' | none => .no) = .ok e A' h' at hx
    split at hx
    · exact norm_of_xops l hx
    · cases hx
end
end Go.Proofs.YtknplcpjmpmblaaDoor.GY
