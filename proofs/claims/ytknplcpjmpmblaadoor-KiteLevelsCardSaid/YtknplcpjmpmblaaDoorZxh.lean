/- A run worked out: stores to maps, append, calls. -/
import Derived.Test.YtknplcpjmpmblaaDoorZxg
set_option linter.unusedVariables false
set_option linter.unusedSimpArgs false
namespace Go.Proofs.YtknplcpjmpmblaaDoor.GX
open Go Go.RowKit

section
variable {P : Program} {tb : Tab} {θ : Th} {base : Bs} {h : AH} {ev : Operand → Option AV} {ρ : Operand → Value} {w : World}
theorem putObj_below {r : Nat} {o : Obj} (hr : base ≤ r) : Below base w (w.putObj r o) := ⟨rfl, rfl, rfl, by simp, fun k hk => World.putObj_heap_other (by omega)⟩
theorem modify_map {α β : Type} (f : α → β) (g : α → α) (g' : β → β) (hg : ∀ x, f (g x) = g' (f x)) (l : List α) (p : Nat) : (l.map f).toArray.modify p g' = ((l.modify p g).map f).toArray := by
  apply Array.ext_getElem?
  intro j
  simp only [Array.getElem?_modify, List.getElem?_toArray, List.getElem?_map, List.getElem?_modify]
  by_cases hj : p = j
  · simp only [hj, if_true]
    cases l[j]? <;> simp [hg]
  · simp only [hj, if_false]
    cases l[j]? <;> simp
theorem xMapUpd_ok (hT : ∀ t i, tb.ty.get t = some i → TyOK P t i) (hK : ∀ t n, tb.keyEq.get t = some n → KeyOK P t n) (hR : R base θ h w) (hE : EvOK θ h.next ev ρ) {t : TypeId} {m k x : Operand} :
    XOK P base θ h w (do Instr.mapUpdate t (ρ m) (ρ k) (ρ x); pure .skip) (xMapUpd tb h ev t m k x) := by
  unfold xMapUpd
  split
  · rename_i id hm0
    unfold xMapUpd2
    split
    · rename_i kv v hk hv
      split
      · rename_i n j es clock hmo hma
        obtain ⟨kt, el, hu, hKO, hj⟩ := amapOf_ok hT hK hmo
        have hm := amapAt_ok hma
        obtain ⟨hidn, hbase, hbe, hheap⟩ := hR.obj id _ hm
        obtain ⟨hbk, hk'⟩ := hE k _ hk
        obtain ⟨hbv, hx'⟩ := hE x _ hv
        have hm' := (hE m _ hm0).2
        split
        · rename_i p v0 hf
          obtain ⟨hck, hfk, hst⟩ := hKO θ kv es _ hf w false
          obtain ⟨e, he1, _, hkts⟩ := hst p v0 rfl
          unfold stored
          split
          · rename_i h' hp
            have hmod := modify_map (entryC θ) (fun e => (kv, v, e.2.2)) (fun e : MapEntry => { e with key := conc θ kv, val := conc θ v }) (fun e => rfl) es p
            refine ⟨θ, w.putObj (θ id).b (.map ((es.modify p fun e => (kv, v, e.2.2)).map (entryC θ)).toArray clock), ?_, Post.put hR hm hp (fun k hk => World.putObj_heap_other hk) (by simp) (putObj_below hbase) ⟨?_, World.putObj_heap_same (hR.obj id _ hm).2.2.lt⟩⟩
            · rw [hm', hk', hx']
              simp only [Instr.mapUpdate, Sem.run_bind, run_underlying hu w, Result.andThen, conc, run_getObj_mp hheap, hck]
              simp only [List.toList_toArray, hfk, Result.andThen, Option.map_some, Sem.run_bind]
              have hkey : ((((es.map (entryC θ)).toArray[p]?).map (·.key)).getD (conc θ kv)) = conc θ e.1 := by simp [he1, entryC]
              rw [hkey, hkts]
              simp only [Result.andThen, hmod, run_setObj_mp _ hheap, Sem.run_pure]
            · intro e' he'
              obtain ⟨q, hq⟩ := List.mem_iff_getElem?.1 he'
              rw [List.getElem?_modify] at hq
              obtain ⟨y, hy, hye⟩ : ∃ y, es[q]? = some y ∧ (e' = y ∨ e' = (kv, v, y.2.2)) := by
                cases hy : es[q]? with
                | none => rw [hy] at hq; simp at hq
                | some y =>
                  rw [hy] at hq
                  simp only [Option.map_eq_map, Option.map_some, Option.some.injEq] at hq
                  refine ⟨y, rfl, ?_⟩
                  split at hq
                  · exact .inr hq.symm
                  · exact .inl hq.symm
              rcases hye with rfl | rfl
              · exact hbe e' (List.mem_of_getElem? hy)
              · exact ⟨hbk, hbv⟩
          · trivial
        · rename_i hf
          obtain ⟨hck, hfk, hst⟩ := hKO θ kv es _ hf w false
          unfold stored
          split
          · rename_i h' hp
            refine ⟨θ, w.putObj (θ id).b (.map ((es ++ [(kv, v, clock)]).map (entryC θ)).toArray (clock + 1)), ?_, Post.put hR hm hp (fun k hk => World.putObj_heap_other hk) (by simp) (putObj_below hbase) ⟨?_, World.putObj_heap_same (hR.obj id _ hm).2.2.lt⟩⟩
            · rw [hm', hk', hx']
              simp only [Instr.mapUpdate, Sem.run_bind, run_underlying hu w, Result.andThen, conc, run_getObj_mp hheap, hck]
              simp only [List.toList_toArray, hfk, Result.andThen, Option.map_none, run_setObj_mp _ hheap]
              simp [entryC]
            · intro e' he'
              rcases List.mem_append.1 he' with he' | he'
              · exact hbe e' he'
              · obtain rfl := List.mem_singleton.1 he'; exact ⟨hbk, hbv⟩
          · trivial
        · trivial
      · trivial
    · trivial
  · trivial
theorem bds_modify {n p : Nat} {es : List (AV × AV × Nat)} (hbe : ∀ e ∈ es, bd θ n e.1 ∧ bd θ n e.2.1) {g : AV × AV × Nat → AV × AV × Nat} (hg : ∀ e ∈ es, bd θ n (g e).1 ∧ bd θ n (g e).2.1) : ∀ e ∈ es.modify p g, bd θ n e.1 ∧ bd θ n e.2.1 := by
  intro e' he'
  obtain ⟨q, hq⟩ := List.mem_iff_getElem?.1 he'
  rw [List.getElem?_modify] at hq
  cases hy : es[q]? with
  | none => rw [hy] at hq; simp at hq
  | some y =>
    rw [hy] at hq
    simp only [Option.map_eq_map, Option.map_some, Option.some.injEq] at hq
    split at hq
    · rw [← hq]; exact hg y (List.mem_of_getElem? hy)
    · rw [← hq]; exact hbe y (List.mem_of_getElem? hy)
theorem xMapEntry_ok (hT : ∀ t i, tb.ty.get t = some i → TyOK P t i) (hK : ∀ t n, tb.keyEq.get t = some n → KeyOK P t n) (hR : R base θ h w) (hE : EvOK θ h.next ev ρ) {t : TypeId} {m k : Operand} :
    XOK P base θ h w (do pure (Next.value (← Instr.mapEntry t (ρ m) (ρ k)))) (xMapEntry tb h ev t m k) := by
  unfold xMapEntry
  split
  · rename_i id hm0
    unfold xMapEntry2
    split
    · rename_i kv hk
      split
      · rename_i n j es clock hmo hma
        obtain ⟨kt, el, hu, hKO, hj⟩ := amapOf_ok hT hK hmo
        have hm := amapAt_ok hma
        obtain ⟨hidn, hbase, hbe, hheap⟩ := hR.obj id _ hm
        obtain ⟨hbk, hk'⟩ := hE k _ hk
        have hm' := (hE m _ hm0).2
        split
        · rename_i p v0 hf
          obtain ⟨hck, hfk, hst⟩ := hKO θ kv es _ hf w false
          obtain ⟨e, he1, hev, hkts⟩ := hst p v0 rfl
          split
          · rename_i e' he'
            rw [he1] at he'; cases he'
            split
            · rename_i h' hp
              have hmod := modify_map (entryC θ) (fun e => (kv, e.2.1, e.2.2)) (fun e : MapEntry => { e with key := conc θ kv }) (fun e => rfl) es p
              have hbem := hbe e (List.mem_of_getElem? he1)
              refine ⟨θ, w.putObj (θ id).b (.map ((es.modify p fun e => (kv, e.2.1, e.2.2)).map (entryC θ)).toArray clock), run_val ?_, ?_, Post.put hR hm hp (fun k hk => World.putObj_heap_other hk) (by simp) (putObj_below hbase) ⟨?_, World.putObj_heap_same (hR.obj id _ hm).2.2.lt⟩⟩
              · rw [hm', hk']
                simp only [Instr.mapEntry, Sem.run_bind, run_underlying hu w, Result.andThen, conc, run_getObj_mp hheap, hck]
                simp only [List.toList_toArray, hfk, Result.andThen, Option.map_some, Sem.run_bind]
                have hkey : ((((es.map (entryC θ)).toArray[p]?).map (·.key)).getD (conc θ kv)) = conc θ e.1 := by simp [he1, entryC]
                have hborn : ((((es.map (entryC θ)).toArray[p]?).map (·.born)).getD 0) = e.2.2 := by simp [he1, entryC]
                rw [hkey, hkts]
                simp only [Result.andThen, hmod, run_setObj_mp _ hheap, Sem.run_pure, hborn]
                simp [conc, goInt, he1, entryC]
              · rw [(AH.put_spec hp).2.2]
                simp only [bd]
                intro y hy
                rcases List.mem_cons.1 hy with rfl | hy
                · rw [← hev]; exact hbem.2
                · obtain rfl := List.mem_singleton.1 hy; simp [bd]
              · exact bds_modify hbe fun e he => ⟨hbk, (hbe e he).2⟩
            · trivial
          · trivial
        · rename_i hf
          split
          · rename_i z hz
            obtain ⟨hck, hfk, hst⟩ := hKO θ kv es _ hf w false
            obtain ⟨hbz, hrz⟩ := zero_apart (θ := θ) (w := w) hj hz h.next
            split
            · rename_i h' hp
              refine ⟨θ, w.putObj (θ id).b (.map ((es ++ [(kv, z, clock)]).map (entryC θ)).toArray (clock + 1)), run_val ?_, ?_, Post.put hR hm hp (fun k hk => World.putObj_heap_other hk) (by simp) (putObj_below hbase) ⟨?_, World.putObj_heap_same (hR.obj id _ hm).2.2.lt⟩⟩
              · rw [hm', hk']
                simp only [Instr.mapEntry, Sem.run_bind, run_underlying hu w, Result.andThen, conc, run_getObj_mp hheap, hck]
                simp only [List.toList_toArray, hfk, Result.andThen, Option.map_none, Sem.run_bind, hrz, run_setObj_mp _ hheap, Sem.run_pure]
                simp [conc, goInt, entryC]
              · rw [(AH.put_spec hp).2.2]
                simp only [bd]
                intro y hy
                rcases List.mem_cons.1 hy with rfl | hy
                · exact hbz
                · obtain rfl := List.mem_singleton.1 hy; simp [bd]
              · intro e' he'
                rcases List.mem_append.1 he' with he' | he'
                · exact hbe e' he'
                · obtain rfl := List.mem_singleton.1 he'; exact ⟨hbk, hbz⟩
            · trivial
          · trivial
        · trivial
      · trivial
    · trivial
  · trivial
theorem aborn_ok {n : Int} : ∀ {es : List (AV × AV × Nat)} {i p : Nat}, aborn n es i = some p → ∃ q, p = i + q ∧ (es.map (entryC θ)).findIdx? (fun e => (e.born : Int) == n) = some q
  | [], i, p, hx => by cases hx
  | e :: es, i, p, hx => by
    simp only [aborn] at hx
    split at hx
    · rename_i hc
      cases hx
      exact ⟨0, rfl, by simp [entryC, hc, List.findIdx?_cons]⟩
    · rename_i hc
      obtain ⟨q, rfl, hq⟩ := aborn_ok hx
      refine ⟨q + 1, by omega, ?_⟩
      have : ((entryC θ e).born : Int) ≠ n := hc
      simp [List.findIdx?_cons, this, hq]
theorem xEntryStore_ok (hR : R base θ h w) (hE : EvOK θ h.next ev ρ) {t : TypeId} {m s x : Operand} : XOK P base θ h w (do Instr.entryStore t (ρ m) (ρ s) (ρ x); pure .skip) (xEntryStore h ev m s x) := by
  unfold xEntryStore
  split
  · rename_i id hm0
    unfold xEntryStore2
    split
    · rename_i k0 n v hs hv
      split
      · rename_i es clock hma
        have hm := amapAt_ok hma
        obtain ⟨hidn, hbase, hbe, hheap⟩ := hR.obj id _ hm
        split
        · rename_i p hp0
          unfold stored
          split
          · rename_i h' hp
            obtain ⟨q, hq, hfi⟩ := aborn_ok (θ := θ) hp0
            obtain rfl : p = q := by omega
            obtain ⟨hbv, hx'⟩ := hE x _ hv
            have hs' := (hE s _ (bind_aint hs)).2
            rw [conc_lit] at hs'
            have hm' := (hE m _ hm0).2
            have hmod := modify_map (entryC θ) (fun e => (e.1, v, e.2.2)) (fun e : MapEntry => { e with val := conc θ v }) (fun e => rfl) es p
            refine ⟨θ, w.putObj (θ id).b (.map ((es.modify p fun e => (e.1, v, e.2.2)).map (entryC θ)).toArray clock), ?_, Post.put hR hm hp (fun k hk => World.putObj_heap_other hk) (by simp) (putObj_below hbase) ⟨?_, World.putObj_heap_same (hR.obj id _ hm).2.2.lt⟩⟩
            · rw [hm', hs', hx']
              simp only [Instr.entryStore, Sem.run_bind, Result.andThen, conc, run_getObj_mp hheap, asInt, asIntOf, Sem.run_pure]
              have hfa : (es.map (entryC θ)).toArray.findIdx? (fun e => (e.born : Int) == n) = some p := by simpa using hfi
              rw [hfa]
              simp only [hmod, run_setObj_mp _ hheap, Result.andThen, Sem.run_pure]
            · exact bds_modify hbe fun e he => ⟨(hbe e he).1, hbv⟩
          · trivial
        · trivial
      · trivial
    · trivial
  · trivial
theorem xSliceE_ok (hT : ∀ t i, tb.ty.get t = some i → TyOK P t i) (hR : R base θ h w) (hE : EvOK θ h.next ev ρ) {t : TypeId} {x : Operand} {lo hi mx : Option Operand} :
    XOK P base θ h w (do pure (Next.value (← Instr.sliceAt t (ρ x) (lo.map ρ) (hi.map ρ) (mx.map ρ)))) (xSliceE tb h ev t x lo hi mx) := by
  unfold xSliceE
  split
  · rename_i id off len sub hx
    obtain ⟨hb, hx'⟩ := hE x _ hx
    simp only [bd] at hb
    obtain ⟨hid, hc⟩ := hb
    split
    · rename_i pj l hh hsl hl hhi
      obtain ⟨el, j⟩ := pj
      unfold xSliceE2
      split
      · rename_i H hH
        split
        · rename_i L hL
          split
          · rename_i hlt
            subst hlt
            obtain ⟨hu, hj⟩ := asliceOf_ok hT hsl
            obtain ⟨r1, q1, q2⟩ := abound_ok (P := P) hE hhi hH (show L ≤ (θ id).c - sub by omega) .sliceAcap w
            obtain ⟨r2, q3, q4⟩ := abound_ok (P := P) hE hl hL (Nat.le_refl H) .sliceB w
            have hHlen : H ≤ L := by
              by_cases hn : hi = none
              · rw [q1 hn]; exact Nat.le_refl _
              · exact q2 hn
            have hLH : L ≤ H := by
              by_cases hn : lo = none
              · rw [q3 hn]; exact Nat.zero_le _
              · exact q4 hn
            obtain rfl : H = L := Nat.le_antisymm hHlen hLH
            obtain ⟨m, next⟩ := h
            have hsame := upd_same θ next ⟨0, (θ id).c - sub - H, if (θ id).c - sub = H then some ⟨(θ id).b, off, none⟩ else (some ⟨(θ id).b, off, none⟩ : Option Addr).map (·.add (H * j.size))⟩
            refine ⟨upd θ next ⟨0, (θ id).c - sub - H, if (θ id).c - sub = H then some ⟨(θ id).b, off, none⟩ else (some ⟨(θ id).b, off, none⟩ : Option Addr).map (·.add (H * j.size))⟩, w, run_val ?_, by simp [bd], Post.bump hR _⟩
            rw [hx']
            have hbounds : (Instr.sliceBounds true H ((θ id).c - sub) (lo.map ρ) (hi.map ρ) none).run P w = .ok (H, H, (θ id).c - sub) w := by
              unfold Instr.sliceBounds
              cases hi <;> cases lo <;> simp only [Option.map_none, Option.map_some] at r1 r2 ⊢ <;>
                simp [Sem.run_bind, Result.andThen] at r1 r2 ⊢ <;> simp [r1, r2, Result.andThen]
            unfold Instr.sliceAt
            simp only [Sem.run_bind, run_underlying hu w, Result.andThen, conc, Instr.slice, Option.map_none, hbounds, run_size hj w, hsame]
            simp
          · trivial
        · trivial
      · trivial
    · trivial
  · trivial
/-- A row that is the run's own. -/
theorem OOK.owns {n id k sz : Nat} {cs : List AV} {el : TypeId} (ho : OOK θ n id (.cells cs el (some sz)) w) (hb : base ≤ (θ id).b) (hk : cs.length = k * sz) (hsz : 0 < sz) :
    w.ownsRow base el sz (.slice (some ⟨(θ id).b, 0, none⟩) k (θ id).c) k (cs.map (conc θ)) := by
  obtain ⟨_, cur, hc, ht, k', h1, h2, h3, h4⟩ := ho
  have hkk : k' = k := Nat.eq_of_mul_eq_mul_right hsz (by rw [← h1, hk])
  subst hkk
  exact ⟨by rw [List.length_map]; exact hk, .inr ⟨_, _, cur, rfl, hb, hc, h2, h3, h4, by rw [← hk]; exact ht⟩⟩
theorem OOK.of_owns {θ' : Th} {n id k sz g cap : Nat} {cs : List AV} {el : TypeId} {w' : World} (hb : bdl θ' n cs) (hθ : θ' id = ⟨g, cap, none⟩) (ho : w'.ownsRow base el sz (.slice (some ⟨g, 0, none⟩) k cap) k (cs.map (conc θ'))) (hk : 0 < k) : OOK θ' n id (.cells cs el (some sz)) w' := by
  rcases ho.2 with ⟨h0, _⟩ | ⟨g', cap', cur, hv, hb', hg, h1, h2, h3, h4⟩
  · cases h0
  · cases hv
    have hl : cs.length = k * sz := by have := ho.1; rwa [List.length_map] at this
    exact ⟨hb, cur, by rw [hθ]; exact hg, by rw [hl]; exact h4, k, hl, by rw [hθ]; exact h1, by rw [hθ]; exact h2, by rw [hθ]; exact h3⟩
theorem own_le {g cap k sz : Nat} {el : TypeId} {xs : List Value} (ho : w.ownsRow base el sz (.slice (some ⟨g, 0, none⟩) k cap) k xs) : k ≤ cap := by
  rcases ho.2 with ⟨h0, _⟩ | ⟨g', cap', cur, hv, _, _, hle, _⟩
  · cases h0
  · cases hv; exact hle
theorem run_append_zero {t ty e : TypeId} {i : TypeInfo} (hu : P.underlying t = some (.slice e)) (hi : P.info? e = some i) {a : Addr} {x : Option Addr} {m c : Nat} (hm : 0 < m) (hb : m * i.bytes ≤ 4294967296) :
    (Builtin.append_ #[t, t] ty #[.slice (some a) 0 0, .slice x m c]).run P w = (Builtin.append_ #[t, t] ty #[.slice none 0 0, .slice x m c]).run P w := by
  have h1 : ¬ (m = 0) := by omega
  have h3 : Builtin.nextslicecap m 0 = m := by unfold Builtin.nextslicecap; rw [if_pos (by omega)]
  have h4 : ¬ (281474976710656 < m * i.bytes) := by omega
  simp [Builtin.append_, run_underlying hu, sizeOf, typeInfo, hi, Builtin.lenOf, h1, h3, h4, Builtin.firstCells, loadCells, loadCellsFrom]
theorem asrc_ok {v : AV} {id off m : Nat} (hx : asrc v = some (id, off, m)) : ∃ c, conc θ v = .slice (some ⟨(θ id).b, off, none⟩) m c := by
  unfold asrc at hx
  split at hx
  · rename_i sub; cases hx; exact ⟨(θ id).c - sub, by simp only [conc]⟩
  · rename_i cap; cases hx; exact ⟨cap, by simp only [conc]⟩
  · cases hx
theorem xAppend_ok (hT : ∀ t i, tb.ty.get t = some i → TyOK P t i) (hR : R base θ h w) (hE : EvOK θ h.next ev ρ) {args : Array Operand} {ts : Array TypeId} {ty : TypeId} :
    XOK P base θ h w (do pure (Next.value (← Builtin.append_ ts ty (args.map ρ)))) (xAppend tb h ev args ts) := by
  unfold xAppend
  split
  · rename_i s x t t' hargs hts
    split
    · rename_i htt
      subst htt
      split
      · rename_i el j hsl
        obtain ⟨hu, hj⟩ := asliceOf_ok hT hsl
        obtain ⟨inf, z, hinf, hsz, hby, hz, hzc⟩ := hj.info
        unfold xAppend2
        split
        · rename_i xid xoff m hxs
          obtain ⟨xv, hx, hxa⟩ := bind_some hxs
          obtain ⟨xc, hxc⟩ := asrc_ok (θ := θ) hxa
          split
          · rename_i xs elx rowx hmx
            split
            · rename_i hc
              obtain ⟨hc1, hm0, hj0, hbytes⟩ := hc
              have hx' := (hE x _ hx).2
              rw [hxc] at hx'
              have eargs : args.map ρ = #[ρ s, ρ x] := by apply Array.toList_inj.1; rw [Array.toList_map, hargs]; rfl
              have ets : ts = #[t, t] := by apply Array.toList_inj.1; rw [hts]
              obtain ⟨hxid, hxb, hxo⟩ := hR.obj xid _ hmx
              have hbx : bdl θ h.next ((xs.drop xoff).take (m * j.size)) := fun y hy => hxo.1 y (List.mem_of_mem_drop (List.mem_of_mem_take hy))
              have hlen : ((xs.drop xoff).take (m * j.size)).length = m * j.size := by simp at hc1 ⊢; omega
              have hnews : ∀ q u, (((xs.drop xoff).take (m * j.size)).map (conc θ))[q]? = some u → w.cell? ((⟨(θ xid).b, xoff, none⟩ : Addr).add q) = some u := fun q u hq => by
                rw [List.getElem?_map] at hq
                obtain ⟨y, hy, rfl⟩ := map_some hq
                rw [List.getElem?_take] at hy
                split at hy
                · rw [List.getElem?_drop] at hy
                  rw [add_plain']
                  exact hxo.cell hy
                · cases hy
              have hzs : z.cells.size = j.size := by rw [← hj.len, ← hzc]; simp
              unfold xAppend3
              split
              · rename_i id n hs
                split
                · trivial
                · rename_i hne
                  split
                  · rename_i cs el' sz hms
                    split
                    · rename_i hel
                      obtain ⟨rfl, rfl⟩ := hel
                      unfold xAppend4
                      split
                      · rename_i hcc
                        obtain ⟨hcl, hnm, hone⟩ := hcc
                        split
                        · rename_i h' ha
                          obtain ⟨hidn, hib, hio⟩ := hR.obj id _ hms
                          have hs' := (hE s _ hs).2
                          simp only [conc, Nat.sub_zero] at hs'
                          have hown := hio.owns hib hcl hj0
                          obtain ⟨g, cap, w', hrun, hown', hgrow, hat, hlt⟩ := run_append_lies (P := P) w t ty base el' inf z j.size j.bytes hu hinf hz hsz hby hzs hj0 _ n _ hown ⟨(θ xid).b, xoff, none⟩ m xc _ (by rw [List.length_map]; exact hlen) hnews (ones_conc hone) hm0 (by unfold maxLen; omega) (by have : (n + m) * j.bytes ≤ 65536 * 65536 := Nat.mul_le_mul hnm hbytes; omega) hR.size _ rfl
                          have hE' := upd_ext θ h.next ⟨g, cap, none⟩
                          have hsame := upd_same θ h.next ⟨g, cap, none⟩
                          have hbn : bdl θ h.next (cs ++ (xs.drop xoff).take (m * j.size)) := fun y hy => by
                            rcases List.mem_append.1 hy with hy | hy
                            · exact hio.1 y hy
                            · exact hbx y hy
                          have hn' := (AH.add_spec ha).2.2
                          simp only at hn'
                          refine ⟨upd θ h.next ⟨g, cap, none⟩, w', run_val ?_, by rw [hn']; simp only [bd, hsame]; exact ⟨Nat.lt_succ_self _, by have := own_le hown'; omega⟩, ?_⟩
                          · rw [eargs, ets, hs', hx']
                            simp only [conc, hsame]
                            rw [hrun]
                            simp
                          · refine Post.swap hR hms ha (r := ⟨g, cap, none⟩) ?_ (fun k hk hkne => hgrow.block k hk (by simp [Value.ownBlock]; exact hkne)) ⟨hgrow.os, hgrow.tape, hgrow.output, hgrow.size, fun k hk => hgrow.block k (Nat.lt_of_lt_of_le hk hR.size) (by simp [Value.ownBlock]; omega)⟩ ?_
                            · rcases hat with e | e
                              · left; simpa [Value.ownBlock] using e.symm
                              · right; exact e
                            · refine OOK.of_owns (base := base) (bdl_ext hE' (Nat.le_succ _) hbn) hsame ?_ (show 0 < n + m by omega)
                              rw [concl_ext hE' hbn, List.map_append]
                              exact hown'
                        · trivial
                      · trivial
                    · trivial
                  · trivial
              · rename_i sid soff hs
                split
                · rename_i hcc
                  obtain ⟨hm64, hone⟩ := hcc
                  unfold added
                  split
                  · rename_i h' ha
                    have hs' := (hE s _ hs).2
                    simp only [conc] at hs'
                    obtain ⟨g, cap, w', hrun, hown', hgrow, hat, hlt⟩ := run_append_lies (P := P) w t ty base el inf z j.size j.bytes hu hinf hz hsz hby hzs hj0 (.slice none 0 0) 0 [] (World.ownsRow_nil ..) ⟨(θ xid).b, xoff, none⟩ m xc _ (by rw [List.length_map]; exact hlen) hnews (ones_conc hone) hm0 (by unfold maxLen; omega) (by have : (0 + m) * j.bytes ≤ 65536 * 65536 := Nat.mul_le_mul (by omega) hbytes; omega) hR.size _ rfl
                    have hg : g = w.heap.size := by
                      rcases hat with e | e
                      · simp [Value.ownBlock] at e
                      · exact e
                    have hE' := upd_ext θ h.next ⟨g, cap, none⟩
                    have hsame := upd_same θ h.next ⟨g, cap, none⟩
                    have hn' := (AH.add_spec ha).2.2
                    refine ⟨upd θ h.next ⟨g, cap, none⟩, w', run_val ?_, by rw [hn']; simp only [bd, hsame]; exact ⟨Nat.lt_succ_self _, by have := own_le hown'; omega⟩, ?_⟩
                    · rw [eargs, ets, hs', hx']
                      simp only [conc, hsame]
                      rw [run_append_zero hu hinf hm0 (by rw [hby]; have : m * j.bytes ≤ 65536 * 65536 := Nat.mul_le_mul hm64 hbytes; omega), hrun]
                      simp
                    · refine Post.add hR ha (r := ⟨g, cap, none⟩) (by simp [hg]) (fun k hk => hgrow.block k hk (by simp [Value.ownBlock])) ⟨hgrow.os, hgrow.tape, hgrow.output, hgrow.size, fun k hk => hgrow.block k (Nat.lt_of_lt_of_le hk hR.size) (by simp [Value.ownBlock])⟩ ?_
                      refine OOK.of_owns (base := base) (bdl_ext hE' (Nat.le_succ _) hbx) hsame ?_ hm0
                      rw [concl_ext hE' hbx]
                      simpa using hown'
                  · trivial
                · trivial
              · rename_i hs
                split
                · rename_i hcc
                  obtain ⟨hm64, hone⟩ := hcc
                  unfold added
                  split
                  · rename_i h' ha
                    have hs' := (hE s _ hs).2
                    rw [conc_lit] at hs'
                    obtain ⟨g, cap, w', hrun, hown', hgrow, hat, hlt⟩ := run_append_lies (P := P) w t ty base el inf z j.size j.bytes hu hinf hz hsz hby hzs hj0 (.slice none 0 0) 0 [] (World.ownsRow_nil ..) ⟨(θ xid).b, xoff, none⟩ m xc _ (by rw [List.length_map]; exact hlen) hnews (ones_conc hone) hm0 (by unfold maxLen; omega) (by have : (0 + m) * j.bytes ≤ 65536 * 65536 := Nat.mul_le_mul (by omega) hbytes; omega) hR.size _ rfl
                    have hg : g = w.heap.size := by
                      rcases hat with e | e
                      · simp [Value.ownBlock] at e
                      · exact e
                    have hE' := upd_ext θ h.next ⟨g, cap, none⟩
                    have hsame := upd_same θ h.next ⟨g, cap, none⟩
                    have hn' := (AH.add_spec ha).2.2
                    refine ⟨upd θ h.next ⟨g, cap, none⟩, w', run_val ?_, by rw [hn']; simp only [bd, hsame]; exact ⟨Nat.lt_succ_self _, by have := own_le hown'; omega⟩, ?_⟩
                    · rw [eargs, ets, hs', hx']
                      simp only [conc, hsame]
                      rw [hrun]
                      simp
                    · refine Post.add hR ha (r := ⟨g, cap, none⟩) (by simp [hg]) (fun k hk => hgrow.block k hk (by simp [Value.ownBlock])) ⟨hgrow.os, hgrow.tape, hgrow.output, hgrow.size, fun k hk => hgrow.block k (Nat.lt_of_lt_of_le hk hR.size) (by simp [Value.ownBlock])⟩ ?_
                      refine OOK.of_owns (base := base) (bdl_ext hE' (Nat.le_succ _) hbx) hsame ?_ hm0
                      rw [concl_ext hE' hbx]
                      simpa using hown'
                  · trivial
                · trivial
              · trivial
            · trivial
          · trivial
        · trivial
      · trivial
    · trivial
  · trivial
theorem xEnter_ok (hE : EvOK θ h.next ev ρ) {c : Call} {f : Operand} {ty : TypeId} (hc : c.callee = .value f) : XOK P base θ h w (do let d ← resolve ρ c ty; invoke d.target d.args) (xEnter (evs ev c.args.toList) (ev f)) := by
  unfold xEnter
  split
  · rename_i g first cap hf
    split
    · rename_i xs hxs
      obtain ⟨hb, he⟩ := evs_ok hE hxs
      obtain ⟨hbf, hf'⟩ := hE f _ hf
      simp only [bd] at hbf
      refine ⟨fun y hy => ?_, ?_⟩
      · rcases List.mem_append.1 hy with hy | hy
        · rcases List.mem_append.1 hy with hy | hy
          · exact hbf.1 y hy
          · exact hb y hy
        · exact hbf.2 y hy
      · have e1 : c.args.map ρ = (xs.map (conc θ)).toArray := by apply Array.toList_inj.1; rw [Array.toList_map, he]
        simp only [resolve, hc, hf', conc, Deferred.ofValue, Sem.run_bind, Sem.run_pure, Result.andThen, invoke, e1]
        congr 2
        simp
    · trivial
  · rename_i id hf
    split
    · rename_i xs hxs
      obtain ⟨hb, he⟩ := evs_ok hE hxs
      obtain ⟨hbf, hf'⟩ := hE f _ hf
      simp only [bd] at hbf
      refine ⟨hb, hbf, ?_⟩
      have e1 : c.args.map ρ = (xs.map (conc θ)).toArray := by apply Array.toList_inj.1; rw [Array.toList_map, he]
      simp only [resolve, hc, hf', conc, Deferred.ofValue, Sem.run_bind, Sem.run_pure, Result.andThen, invoke, e1]
      congr 2
      simp
    · trivial
  · trivial
/-- An operation that touches memory, or a call. -/
theorem xmem_ok (hT : ∀ t i, tb.ty.get t = some i → TyOK P t i) (hK : ∀ t n, tb.keyEq.get t = some n → KeyOK P t n) (hR : R base θ h w) (hE : EvOK θ h.next ev ρ) (o : Oper) : XOK P base θ h w (execOp ρ o) (xmem tb h ev o) := by
  unfold xmem
  split <;> rename_i ho <;> first | trivial | (unfold execOp; simp only [ho])
  · exact (xAlloc_ok hT).xok hR
  · exact (xBox_ok hE).xok hR
  · exact xStore_ok hT hR hE
  · exact (xBuildSlice_ok hT hE).xok hR
  · exact (xMakeSlice_ok hT hE).xok hR
  · exact xMakeMap_ok.xok hR
  · exact xLookup_ok hT hK hR hE
  · exact xMapUpd_ok hT hK hR hE
  · exact xMapEntry_ok hT hK hR hE
  · exact xEntryStore_ok hR hE
  · exact xSliceE_ok hT hR hE
  · rename_i c
    unfold xCall
    split
    · rename_i hc
      have := xAppend_ok (P := P) (ty := o.type) hT hR hE (args := c.args) (ts := c.argTypes)
      have e : ∀ K : Next → Sem Next, ((do let d ← resolve ρ c o.type; invoke d.target d.args) : Sem Next).run P w = (do pure (Next.value (← Builtin.append_ c.argTypes o.type (c.args.map ρ))) : Sem Next).run P w := fun _ => by
        simp only [resolve, hc, invoke, builtin, Sem.run_bind, Sem.run_pure, Result.andThen]
      generalize hX : xAppend tb h ev c.args c.argTypes = X at this ⊢
      cases X with
      | val v h' => simp only [XOK] at this ⊢; rw [e pure]; exact this
      | skip h' => simp only [XOK] at this ⊢; rw [e pure]; exact this
      | enter f args => simp only [XOK] at this ⊢; rw [e pure]; exact this
      | round id args => simp only [XOK] at this ⊢; rw [e pure]; exact this
      | no => trivial
    · rename_i f hc
      exact xEnter_ok hE hc
    · trivial
end
end Go.Proofs.YtknplcpjmpmblaaDoor.GX
