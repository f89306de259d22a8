/- A run worked out: stores to maps, append, calls. -/
import Derived.Test.YtknplcpjmpmblaaDoorUg
set_option linter.unusedVariables false
set_option linter.unusedSimpArgs false
namespace Go.Proofs.YtknplcpjmpmblaaDoor.GY
open Go Go.RowKit

section
variable {P : Program} {tb : Tab} {θ : Th} {base : Bs} {h : AH} {ev : Operand → Option AV} {ρ : Operand → Value} {w : World}
theorem putObj_below {r : Nat} {o : Obj} (hr : base ≤ r) : Below base w (w.putObj r o) := ⟨rfl, rfl, rfl, by simp, fun k hk => World.putObj_heap_other (by omega)⟩
theorem modify_map {α β : Type} (f : α → β) (g : α → α) (g' : β → β) (hg : ∀ x, f (g x) = g' (f x)) (l : List α) (p : Nat) : (l.map f).toArray.modify p g' = ((l.modify p g).map f).toArray := by
  apply Array.ext_getElem?
  intro j
  simp only [Array.getElem?_modify, List.getElem?_toArray, List.getElem?_map, List.getElem?_modify]
  by_cases hj : p = j
  · simp only [hj, if_true]
    cases l[j]? <;> simp [hg]
  · simp only [hj, if_false]
    cases l[j]? <;> simp
theorem xMapUpd_ok (hT : ∀ t i, tb.ty.get t = some i → TyOK P t i) (hK : ∀ t n, tb.keyEq.get t = some n → KeyOK P t n) (hR : R base θ h w) (hE : EvOK θ h.next ev ρ) {t : TypeId} {m k x : Operand} :
    XOK P base θ h w (do Instr.mapUpdate t (ρ m) (ρ k) (ρ x); pure .skip) (xMapUpd tb h ev t m k x) := by
  unfold xMapUpd
  split
  · rename_i id hm0
    unfold xMapUpd2
    split
    · rename_i kv v hk hv
      split
      · rename_i n j es clock hmo hma
        obtain ⟨kt, el, hu, hKO, hj⟩ := amapOf_ok hT hK hmo
        have hm := amapAt_ok hma
        obtain ⟨hidn, hbase, hbe, hheap⟩ := hR.obj id _ hm
        obtain ⟨hbk, hk'⟩ := hE k _ hk
        obtain ⟨hbv, hx'⟩ := hE x _ hv
        have hm' := (hE m _ hm0).2
        split
        · rename_i p v0 hf
          obtain ⟨hck, hfk, hst⟩ := hKO θ kv es _ hf w false
          obtain ⟨e, he1, _, hkts⟩ := hst p v0 rfl
          unfold stored
          split
          · rename_i h' hp
            have hmod := modify_map (entryC θ) (fun e => (kv, v, e.2.2)) (fun e : MapEntry => { e with key := conc θ kv, val := conc θ v }) (fun e => rfl) es p
            refine ⟨fun hs => by rw [← (AH.put_spec hp).2.2.2.2]; exact hs, fun _ => ⟨θ, w.putObj (θ id).b (.map ((es.modify p fun e => (kv, v, e.2.2)).map (entryC θ)).toArray clock), ?_, Post.put hR hm hp (fun k hk => World.putObj_heap_other hk) (by simp) (putObj_below hbase) ⟨?_, World.putObj_heap_same (hR.obj id _ hm).2.2.lt⟩⟩⟩
            · rw [hm', hk', hx']
              simp only [Instr.mapUpdate, Sem.run_bind, run_underlying hu w, Result.andThen, conc, run_getObj_mp hheap, hck]
              simp only [List.toList_toArray, hfk, Result.andThen, Option.map_some, Sem.run_bind]
              have hkey : ((((es.map (entryC θ)).toArray[p]?).map (·.key)).getD (conc θ kv)) = conc θ e.1 := by simp [he1, entryC]
              rw [hkey, hkts]
              simp only [Result.andThen, hmod, run_setObj_mp _ hheap, Sem.run_pure]
            · intro e' he'
              obtain ⟨q, hq⟩ := List.mem_iff_getElem?.1 he'
              rw [List.getElem?_modify] at hq
              obtain ⟨y, hy, hye⟩ : ∃ y, es[q]? = some y ∧ (e' = y ∨ e' = (kv, v, y.2.2)) := by
                cases hy : es[q]? with
                | none => rw [hy] at hq; simp at hq
                | some y =>
                  rw [hy] at hq
                  simp only [Option.map_eq_map, Option.map_some, Option.some.injEq] at hq
                  refine ⟨y, rfl, ?_⟩
                  split at hq
                  · exact .inr hq.symm
                  · exact .inl hq.symm
              rcases hye with rfl | rfl
              · exact hbe e' (List.mem_of_getElem? hy)
              · exact ⟨hbk, hbv⟩
          · trivial
        · rename_i hf
          obtain ⟨hck, hfk, hst⟩ := hKO θ kv es _ hf w false
          unfold stored
          split
          · rename_i h' hp
            refine ⟨fun hs => by rw [← (AH.put_spec hp).2.2.2.2]; exact hs, fun _ => ⟨θ, w.putObj (θ id).b (.map ((es ++ [(kv, v, clock)]).map (entryC θ)).toArray (clock + 1)), ?_, Post.put hR hm hp (fun k hk => World.putObj_heap_other hk) (by simp) (putObj_below hbase) ⟨?_, World.putObj_heap_same (hR.obj id _ hm).2.2.lt⟩⟩⟩
            · rw [hm', hk', hx']
              simp only [Instr.mapUpdate, Sem.run_bind, run_underlying hu w, Result.andThen, conc, run_getObj_mp hheap, hck]
              simp only [List.toList_toArray, hfk, Result.andThen, Option.map_none, run_setObj_mp _ hheap]
              simp [entryC]
            · intro e' he'
              rcases List.mem_append.1 he' with he' | he'
              · exact hbe e' he'
              · obtain rfl := List.mem_singleton.1 he'; exact ⟨hbk, hbv⟩
          · trivial
        · trivial
      · trivial
    · trivial
  · trivial
theorem bds_modify {n p : Nat} {es : List (AV × AV × Nat)} (hbe : ∀ e ∈ es, bd θ n e.1 ∧ bd θ n e.2.1) {g : AV × AV × Nat → AV × AV × Nat} (hg : ∀ e ∈ es, bd θ n (g e).1 ∧ bd θ n (g e).2.1) : ∀ e ∈ es.modify p g, bd θ n e.1 ∧ bd θ n e.2.1 := by
  intro e' he'
  obtain ⟨q, hq⟩ := List.mem_iff_getElem?.1 he'
  rw [List.getElem?_modify] at hq
  cases hy : es[q]? with
  | none => rw [hy] at hq; simp at hq
  | some y =>
    rw [hy] at hq
    simp only [Option.map_eq_map, Option.map_some, Option.some.injEq] at hq
    split at hq
    · rw [← hq]; exact hg y (List.mem_of_getElem? hy)
    · rw [← hq]; exact hbe y (List.mem_of_getElem? hy)
theorem xMapEntry_ok (hT : ∀ t i, tb.ty.get t = some i → TyOK P t i) (hK : ∀ t n, tb.keyEq.get t = some n → KeyOK P t n) (hR : R base θ h w) (hE : EvOK θ h.next ev ρ) {t : TypeId} {m k : Operand} :
    XOK P base θ h w (do pure (Next.value (← Instr.mapEntry t (ρ m) (ρ k)))) (xMapEntry tb h ev t m k) := by
  unfold xMapEntry
  split
  · rename_i id hm0
    unfold xMapEntry2
    split
    · rename_i kv hk
      split
      · rename_i n j es clock hmo hma
        obtain ⟨kt, el, hu, hKO, hj⟩ := amapOf_ok hT hK hmo
        have hm := amapAt_ok hma
        obtain ⟨hidn, hbase, hbe, hheap⟩ := hR.obj id _ hm
        obtain ⟨hbk, hk'⟩ := hE k _ hk
        have hm' := (hE m _ hm0).2
        split
        · rename_i p v0 hf
          obtain ⟨hck, hfk, hst⟩ := hKO θ kv es _ hf w false
          obtain ⟨e, he1, hev, hkts⟩ := hst p v0 rfl
          split
          · rename_i e' he'
            rw [he1] at he'; cases he'
            split
            · rename_i h' hp
              have hmod := modify_map (entryC θ) (fun e => (kv, e.2.1, e.2.2)) (fun e : MapEntry => { e with key := conc θ kv }) (fun e => rfl) es p
              have hbem := hbe e (List.mem_of_getElem? he1)
              refine ⟨fun hs => by rw [← (AH.put_spec hp).2.2.2.2]; exact hs, fun _ => ⟨θ, w.putObj (θ id).b (.map ((es.modify p fun e => (kv, e.2.1, e.2.2)).map (entryC θ)).toArray clock), run_val ?_, ?_, Post.put hR hm hp (fun k hk => World.putObj_heap_other hk) (by simp) (putObj_below hbase) ⟨?_, World.putObj_heap_same (hR.obj id _ hm).2.2.lt⟩⟩⟩
              · rw [hm', hk']
                simp only [Instr.mapEntry, Sem.run_bind, run_underlying hu w, Result.andThen, conc, run_getObj_mp hheap, hck]
                simp only [List.toList_toArray, hfk, Result.andThen, Option.map_some, Sem.run_bind]
                have hkey : ((((es.map (entryC θ)).toArray[p]?).map (·.key)).getD (conc θ kv)) = conc θ e.1 := by simp [he1, entryC]
                have hborn : ((((es.map (entryC θ)).toArray[p]?).map (·.born)).getD 0) = e.2.2 := by simp [he1, entryC]
                rw [hkey, hkts]
                simp only [Result.andThen, hmod, run_setObj_mp _ hheap, Sem.run_pure, hborn]
                simp [conc, goInt, he1, entryC]
              · rw [(AH.put_spec hp).2.2.1]
                simp only [bd]
                intro y hy
                rcases List.mem_cons.1 hy with rfl | hy
                · rw [← hev]; exact hbem.2
                · obtain rfl := List.mem_singleton.1 hy; simp [bd]
              · exact bds_modify hbe fun e he => ⟨hbk, (hbe e he).2⟩
            · trivial
          · trivial
        · rename_i hf
          split
          · rename_i z hz
            obtain ⟨hck, hfk, hst⟩ := hKO θ kv es _ hf w false
            obtain ⟨hbz, hrz⟩ := zero_apart (θ := θ) (w := w) hj hz h.next
            split
            · rename_i h' hp
              refine ⟨fun hs => by rw [← (AH.put_spec hp).2.2.2.2]; exact hs, fun _ => ⟨θ, w.putObj (θ id).b (.map ((es ++ [(kv, z, clock)]).map (entryC θ)).toArray (clock + 1)), run_val ?_, ?_, Post.put hR hm hp (fun k hk => World.putObj_heap_other hk) (by simp) (putObj_below hbase) ⟨?_, World.putObj_heap_same (hR.obj id _ hm).2.2.lt⟩⟩⟩
              · rw [hm', hk']
                simp only [Instr.mapEntry, Sem.run_bind, run_underlying hu w, Result.andThen, conc, run_getObj_mp hheap, hck]
                simp only [List.toList_toArray, hfk, Result.andThen, Option.map_none, Sem.run_bind, hrz, run_setObj_mp _ hheap, Sem.run_pure]
                simp [conc, goInt, entryC]
              · rw [(AH.put_spec hp).2.2.1]
                simp only [bd]
                intro y hy
                rcases List.mem_cons.1 hy with rfl | hy
                · exact hbz
                · obtain rfl := List.mem_singleton.1 hy; simp [bd]
              · intro e' he'
                rcases List.mem_append.1 he' with he' | he'
                · exact hbe e' he'
                · obtain rfl := List.mem_singleton.1 he'; exact ⟨hbk, hbz⟩
            · trivial
          · trivial
        · trivial
      · trivial
    · trivial
  · trivial
theorem aborn_ok {n : Int} : ∀ {es : List (AV × AV × Nat)} {i p : Nat}, aborn n es i = some p → ∃ q, p = i + q ∧ (es.map (entryC θ)).findIdx? (fun e => (e.born : Int) == n) = some q
  | [], i, p, hx => by cases hx
  | e :: es, i, p, hx => by
    simp only [aborn] at hx
    split at hx
    · rename_i hc
      cases hx
      exact ⟨0, rfl, by simp [entryC, hc, List.findIdx?_cons]⟩
    · rename_i hc
      obtain ⟨q, rfl, hq⟩ := aborn_ok hx
      refine ⟨q + 1, by omega, ?_⟩
      have : ((entryC θ e).born : Int) ≠ n := hc
      simp [List.findIdx?_cons, this, hq]
theorem xEntryStore_ok (hR : R base θ h w) (hE : EvOK θ h.next ev ρ) {t : TypeId} {m s x : Operand} : XOK P base θ h w (do Instr.entryStore t (ρ m) (ρ s) (ρ x); pure .skip) (xEntryStore h ev m s x) := by
  unfold xEntryStore
  split
  · rename_i id hm0
    unfold xEntryStore2
    split
    · rename_i k0 n v hs hv
      split
      · rename_i es clock hma
        have hm := amapAt_ok hma
        obtain ⟨hidn, hbase, hbe, hheap⟩ := hR.obj id _ hm
        split
        · rename_i p hp0
          unfold stored
          split
          · rename_i h' hp
            obtain ⟨q, hq, hfi⟩ := aborn_ok (θ := θ) hp0
            obtain rfl : p = q := by omega
            obtain ⟨hbv, hx'⟩ := hE x _ hv
            have hs' := (hE s _ (bind_aint hs)).2
            rw [conc_lit] at hs'
            have hm' := (hE m _ hm0).2
            have hmod := modify_map (entryC θ) (fun e => (e.1, v, e.2.2)) (fun e : MapEntry => { e with val := conc θ v }) (fun e => rfl) es p
            refine ⟨fun hs => by rw [← (AH.put_spec hp).2.2.2.2]; exact hs, fun _ => ⟨θ, w.putObj (θ id).b (.map ((es.modify p fun e => (e.1, v, e.2.2)).map (entryC θ)).toArray clock), ?_, Post.put hR hm hp (fun k hk => World.putObj_heap_other hk) (by simp) (putObj_below hbase) ⟨?_, World.putObj_heap_same (hR.obj id _ hm).2.2.lt⟩⟩⟩
            · rw [hm', hs', hx']
              simp only [Instr.entryStore, Sem.run_bind, Result.andThen, conc, run_getObj_mp hheap, asInt, asIntOf, Sem.run_pure]
              have hfa : (es.map (entryC θ)).toArray.findIdx? (fun e => (e.born : Int) == n) = some p := by simpa using hfi
              rw [hfa]
              simp only [hmod, run_setObj_mp _ hheap, Result.andThen, Sem.run_pure]
            · exact bds_modify hbe fun e he => ⟨(hbe e he).1, hbv⟩
          · trivial
        · trivial
      · trivial
    · trivial
  · trivial
theorem xSliceE_ok (hT : ∀ t i, tb.ty.get t = some i → TyOK P t i) (hR : R base θ h w) (hE : EvOK θ h.next ev ρ) {t : TypeId} {x : Operand} {lo hi mx : Option Operand} :
    XOK P base θ h w (do pure (Next.value (← Instr.sliceAt t (ρ x) (lo.map ρ) (hi.map ρ) (mx.map ρ)))) (xSliceE tb h ev t x lo hi mx) := by
  unfold xSliceE
  split
  · rename_i id off len sub hx
    obtain ⟨hb, hx'⟩ := hE x _ hx
    simp only [bd] at hb
    obtain ⟨hid, hc⟩ := hb
    split
    · rename_i pj l hh hsl hl hhi
      obtain ⟨el, j⟩ := pj
      unfold xSliceE2
      split
      · rename_i H hH
        split
        · rename_i L hL
          split
          · rename_i hlt
            subst hlt
            obtain ⟨hu, hj⟩ := asliceOf_ok hT hsl
            obtain ⟨r1, q1, q2⟩ := abound_ok (P := P) hE hhi hH (show L ≤ (θ id).c - sub by omega) .sliceAcap w
            obtain ⟨r2, q3, q4⟩ := abound_ok (P := P) hE hl hL (Nat.le_refl H) .sliceB w
            have hHlen : H ≤ L := by
              by_cases hn : hi = none
              · rw [q1 hn]; exact Nat.le_refl _
              · exact q2 hn
            have hLH : L ≤ H := by
              by_cases hn : lo = none
              · rw [q3 hn]; exact Nat.zero_le _
              · exact q4 hn
            obtain rfl : H = L := Nat.le_antisymm hHlen hLH
            obtain ⟨m, next, ro, sc, orc⟩ := h
            have hsame := upd_same θ next ⟨0, (θ id).c - sub - H, if (θ id).c - sub = H then some ⟨(θ id).b, off, none⟩ else (some ⟨(θ id).b, off, none⟩ : Option Addr).map (·.add (H * j.size))⟩
            refine ⟨fun hs => hs, fun _ => ⟨upd θ next ⟨0, (θ id).c - sub - H, if (θ id).c - sub = H then some ⟨(θ id).b, off, none⟩ else (some ⟨(θ id).b, off, none⟩ : Option Addr).map (·.add (H * j.size))⟩, w, run_val ?_, by simp [bd], Post.bump hR _⟩⟩
            rw [hx']
            have hbounds : (Instr.sliceBounds true H ((θ id).c - sub) (lo.map ρ) (hi.map ρ) none).run P w = .ok (H, H, (θ id).c - sub) w := by
              unfold Instr.sliceBounds
              cases hi <;> cases lo <;> simp only [Option.map_none, Option.map_some] at r1 r2 ⊢ <;>
                simp [Sem.run_bind, Result.andThen] at r1 r2 ⊢ <;> simp [r1, r2, Result.andThen]
            unfold Instr.sliceAt
            simp only [Sem.run_bind, run_underlying hu w, Result.andThen, conc, Instr.slice, Option.map_none, hbounds, run_size hj w, hsame]
            simp
          · trivial
        · trivial
      · trivial
    · trivial
  · trivial
/-- The cells of a row of numbers. -/
def cellsL (f : Nat → Nat → Int) (sz n : Nat) : List Value := (List.range (n * sz)).map fun i => .int .i64 (f (i / sz) (i % sz))
theorem cellsL_len {f : Nat → Nat → Int} {sz n : Nat} : (cellsL f sz n).length = n * sz := by simp [cellsL]
theorem cellsL_at {f : Nat → Nat → Int} {sz n i : Nat} (hi : i < n * sz) : (cellsL f sz n)[i]? = some (.int .i64 (f (i / sz) (i % sz))) := by
  simp only [cellsL, List.getElem?_map, List.getElem?_range hi, Option.map_some]
theorem cellsL_get {f : Nat → Nat → Int} {sz n k j : Nat} (hk : k < n) (hj : j < sz) : (cellsL f sz n)[k * sz + j]? = some (.int .i64 (f k j)) := by
  have hlt : k * sz + j < n * sz := by
    have : (k + 1) * sz ≤ n * sz := Nat.mul_le_mul_right _ hk
    rw [Nat.succ_mul] at this; omega
  rw [cellsL_at hlt]
  have h1 : (k * sz + j) / sz = k := by rw [Nat.mul_comm, Nat.mul_add_div (by omega), Nat.div_eq_of_lt hj]; simp
  have h2 : (k * sz + j) % sz = j := by rw [Nat.mul_comm, Nat.mul_add_mod]; exact Nat.mod_eq_of_lt hj
  rw [h1, h2]
theorem cellsL_one {f : Nat → Nat → Int} {sz n : Nat} : ∀ u ∈ cellsL f sz n, u.oneCell' = true := fun u hu => by
  obtain ⟨q, _, rfl⟩ := List.mem_map.1 hu; rfl
theorem divmod_lt {i sz n : Nat} (hi : i < n * sz) : i / sz < n ∧ i % sz < sz ∧ i / sz * sz + i % sz = i := by
  have hs : 0 < sz := by
    rcases Nat.eq_zero_or_pos sz with h | h
    · subst h; simp at hi
    · exact h
  exact ⟨(Nat.div_lt_iff_lt_mul hs).2 hi, Nat.mod_lt _ hs, by rw [Nat.mul_comm]; exact Nat.div_add_mod i sz⟩
/-- A row that is the run's own. -/
theorem OOK.owns {n id k sz : Nat} {el : TypeId} {f : Nat → Nat → Int} (ho : OOK θ n id (.irow el sz k f) w) (hb : base ≤ (θ id).b) :
    w.ownsRow base el sz (.slice (θ id).a k (θ id).c) k (cellsL f sz k) := by
  obtain ⟨cur, hc, ha, h1, h2, h3, hcell⟩ := ho
  refine ⟨cellsL_len, .inr ⟨(θ id).b, (θ id).c, cur, by rw [ha], hb, hc, h1, h2, h3, ?_⟩⟩
  apply List.ext_getElem?
  intro i
  rw [List.getElem?_take]
  split
  · rename_i hi
    obtain ⟨a, b, c⟩ := divmod_lt hi
    have := hcell _ _ a b
    rw [c] at this
    rw [cellsL_at hi, Array.getElem?_toList, this]
  · rename_i hi
    rw [List.getElem?_eq_none (by rw [cellsL_len]; omega)]
theorem joinF_get {f g : Nat → Nat → Int} {sz n m k j : Nat} (hk : k < n + m) (hj : j < sz) : (cellsL f sz n ++ cellsL g sz m)[k * sz + j]? = some (.int .i64 (joinF n f g k j)) := by
  unfold joinF
  by_cases h : k < n
  · rw [if_pos h, List.getElem?_append_left (by
      rw [cellsL_len]
      have : (k + 1) * sz ≤ n * sz := Nat.mul_le_mul_right _ h
      rw [Nat.succ_mul] at this; omega), cellsL_get h hj]
  · have hge : n * sz ≤ k * sz := Nat.mul_le_mul_right _ (by omega)
    rw [if_neg h, List.getElem?_append_right (by rw [cellsL_len]; omega), cellsL_len, ← cellsL_get (f := g) (show k - n < m by omega) hj]
    congr 1
    rw [Nat.sub_mul]; omega
theorem OOK.of_owns {θ' : Th} {n id k sz g cap : Nat} {xs : List Value} {el : TypeId} {f : Nat → Nat → Int} {w' : World} (hθ : θ' id = ⟨g, cap, some ⟨g, 0, none⟩⟩) (ho : w'.ownsRow base el sz (.slice (some ⟨g, 0, none⟩) k cap) k xs) (hf : ∀ q j, q < k → j < sz → xs[q * sz + j]? = some (.int .i64 (f q j))) : OOK θ' n id (.irow el sz k f) w' := by
  rcases ho.2 with ⟨h0, _⟩ | ⟨g', cap', cur, hv, hb', hg, h1, h2, h3, h4⟩
  · cases h0
  · cases hv
    refine ⟨cur, by rw [hθ]; exact hg, by rw [hθ], by rw [hθ]; exact h1, by rw [hθ]; exact h2, by rw [hθ]; exact h3, fun q j hq hj => ?_⟩
    have := hf q j hq hj
    rw [← h4, List.getElem?_take] at this
    split at this
    · rw [← Array.getElem?_toList]; exact this
    · cases this
theorem run_append_none {t ty e : TypeId} {i : TypeInfo} (hu : P.underlying t = some (.slice e)) (hi : P.info? e = some i) {a x : Option Addr} {n k c : Nat} (hn : n ≤ k) :
    (Builtin.append_ #[t, t] ty #[.slice a n k, .slice x 0 c]).run P w = .ok (.slice a n k) w := by
  cases a <;> cases x <;> simp [Builtin.append_, run_underlying hu, sizeOf, typeInfo, hi, Builtin.lenOf, Builtin.firstCells, loadCells, loadCellsFrom, hn, storeCells, Sem.run_bind, Result.andThen]
theorem xAppend_ok (hT : ∀ t i, tb.ty.get t = some i → TyOK P t i) (hR : R base θ h w) (hE : EvOK θ h.next ev ρ) {args : Array Operand} {ts : Array TypeId} {ty : TypeId} :
    XOK P base θ h w (do pure (Next.value (← Builtin.append_ ts ty (args.map ρ)))) (xAppend tb h ev args ts) := by
  unfold xAppend
  split
  · rename_i s x t t' hargs hts
    split
    · rename_i htt
      subst htt
      split
      · rename_i el j hsl
        obtain ⟨hu, hj⟩ := asliceOf_ok hT hsl
        obtain ⟨inf, z, hinf, hsz, hby, hz, hzc⟩ := hj.info
        unfold xAppend2
        split
        · rename_i xid m hx
          split
          · rename_i sz n' g hrow
            split
            · rename_i hc
              simp only [Bool.and_eq_true] at hc
              obtain ⟨⟨hc1, hc2⟩, hc3⟩ := hc
              obtain rfl := Nat.eq_of_beq_eq_true hc1
              have hj0 : 0 < j.size := Nat.le_of_ble_eq_true hc2
              have hbytes : j.bytes ≤ 65536 := Nat.le_of_ble_eq_true hc3
              obtain ⟨hxid, hxcell, hxle, _, hxa⟩ := rowAt_ok hR hrow
              obtain ⟨hbx, hx'⟩ := hE x _ hx
              have eargs : args.map ρ = #[ρ s, ρ x] := by apply Array.toList_inj.1; rw [Array.toList_map, hargs]; rfl
              have ets : ts = #[t, t] := by apply Array.toList_inj.1; rw [hts]
              have hzs : z.cells.size = j.size := by rw [← hj.len, ← hzc]; simp
              have hsrc : 0 < m → m ≤ n' → conc θ (.isl xid m) = .slice (some ⟨(θ xid).b, (θ xid).o, none⟩) m (θ xid).c ∧ ∀ q u, (cellsL g j.size m)[q]? = some u → w.cell? ((⟨(θ xid).b, (θ xid).o, none⟩ : Addr).add q) = some u := fun h0 hmn => by
                refine ⟨by simp only [conc]; rw [hxa (by omega)], fun q u hq => ?_⟩
                have hlt : q < m * j.size := by have := (List.getElem?_eq_some_iff.1 hq).1; rwa [cellsL_len] at this
                obtain ⟨a, b, c⟩ := divmod_lt hlt
                rw [cellsL_at hlt] at hq
                have := hxcell _ _ (Nat.lt_of_lt_of_le a hmn) b
                rw [c] at this
                rw [add_plain', this]
                exact hq
              unfold xAppend3
              split
              · rename_i id n hs
                split
                · trivial
                · rename_i hne
                  split
                  · rename_i el' sz' n2 f hms
                    split
                    · rename_i hel
                      simp only [Bool.and_eq_true] at hel
                      obtain rfl := Nat.eq_of_beq_eq_true hel.1
                      obtain rfl := Nat.eq_of_beq_eq_true hel.2
                      split
                      · rename_i hA1 hask
                        obtain ⟨q1, q2, q3, q4⟩ := ask_ok hask
                        unfold xAppend4
                        split
                        rename_i mm next ro sc orc heq
                        split
                        · rename_i h' ha
                          obtain ⟨hm0', hn0', hro0, hsc0⟩ : mm = h.m ∧ next = h.next ∧ ro = h.ro ∧ sc = [LeN n n2, LeN n2 n] ++ hA1.sc := by
                            have e1 : mm = hA1.m ∧ next = hA1.next ∧ ro = hA1.ro ∧ sc = [LeN n n2, LeN n2 n] ++ hA1.sc := by
                              cases hA1; simp only [AH.also, AH.mk.injEq] at heq; obtain ⟨a, b, c, d, e⟩ := heq; exact ⟨a.symm, b.symm, c.symm, d.symm⟩
                            exact ⟨e1.1.trans q1, e1.2.1.trans q2, e1.2.2.1.trans q3, e1.2.2.2⟩
                          subst hm0'; subst hn0'; subst hro0
                          have hsp := AH.add_spec ha
                          have hscs : h'.sc = LeN (n + m) 65536 :: sc := hsp.2.2.2.2
                          rw [hsc0] at hscs
                          have hup : All h'.sc → ((n + m ≤ 65536 ∧ n ≤ n2 ∧ n2 ≤ n) ∧ decide (0 < m) = true ∧ m ≤ n' ∧ All h.sc) := fun hs0 => by
                            rw [hscs] at hs0
                            obtain ⟨⟨a1⟩, ⟨a2⟩, ⟨a3⟩, a4⟩ := hs0
                            obtain ⟨a5, a6⟩ := q4.1 a4
                            obtain ⟨⟨⟨a7⟩, _⟩, a8⟩ := also_all.1 a6
                            exact ⟨⟨a1, a2, a3⟩, a5, a7, a8⟩
                          refine ⟨fun hs0 => (hup hs0).2.2.2, fun hs0 => ?_⟩
                          obtain ⟨⟨hnm, hle1, hle2⟩, hmd, hmn, _⟩ := hup hs0
                          have hm0 : 0 < m := of_decide_eq_true hmd
                          have hnn : n2 = n := by omega
                          subst hnn
                          obtain ⟨hsx, hnews⟩ := hsrc hm0 hmn
                          rw [hsx] at hx'
                          obtain ⟨hidn, hib, hio⟩ := hR.obj id _ hms
                          have hs' := (hE s _ hs).2
                          simp only [conc] at hs'
                          have hown := hio.owns hib
                          have hA : (θ id).a = some ⟨(θ id).b, 0, none⟩ := by obtain ⟨_, _, hA, _⟩ := hio; exact hA
                          obtain ⟨g2, cap, w', hrun, hown', hgrow, hat, hlt⟩ := run_append_lies (P := P) w t ty base el' inf z j.size j.bytes hu hinf hz hsz hby hzs hj0 _ n2 _ hown ⟨(θ xid).b, (θ xid).o, none⟩ m (θ xid).c _ cellsL_len hnews cellsL_one hm0 (by unfold maxLen; omega) (by have : (n2 + m) * j.bytes ≤ 65536 * 65536 := Nat.mul_le_mul hnm hbytes; omega) hR.size _ rfl
                          have hsame := upd_same θ h.next ⟨g2, cap, some ⟨g2, 0, none⟩⟩
                          have hn' := hsp.2.2.1
                          simp only at hn'
                          refine ⟨upd θ h.next ⟨g2, cap, some ⟨g2, 0, none⟩⟩, w', run_val ?_, by rw [hn']; simp only [bd, hsame]; exact ⟨by omega, fun _ => by simp [Ref.o]⟩, ?_⟩
                          · rw [eargs, ets, hs', hx']
                            simp only [conc, hsame]
                            rw [hrun]
                          · refine Post.swap hR hms ha (r := ⟨g2, cap, some ⟨g2, 0, none⟩⟩) ?_ (fun k hk hkne => hgrow.block k hk (by simp [Value.ownBlock, hA]; exact hkne)) ⟨hgrow.os, hgrow.tape, hgrow.output, hgrow.size, fun k hk => hgrow.block k (Nat.lt_of_lt_of_le hk hR.size) (by simp [Value.ownBlock, hA]; omega)⟩ ?_
                            · rcases hat with e | e
                              · left; simpa [Value.ownBlock, hA] using e.symm
                              · right; exact e
                            · exact OOK.of_owns (base := base) hsame hown' fun q i hq hi => joinF_get hq hi
                        · trivial
                      · rename_i hA1 hask
                        obtain ⟨q1, q2, q3, q4⟩ := ask_ok hask
                        have hup : All (hA1.also [LeN n n2, LeN n2 n]).sc → ((n ≤ n2 ∧ n2 ≤ n) ∧ decide (0 < m) = false ∧ All h.sc) := fun hs0 => by
                          obtain ⟨⟨⟨a2⟩, ⟨a3⟩, _⟩, a4⟩ := also_all.1 hs0
                          obtain ⟨a5, a6⟩ := q4.1 a4
                          exact ⟨⟨a2, a3⟩, a5, (also_all.1 a6).2⟩
                        refine ⟨fun hs0 => (hup hs0).2.2, fun hs0 => ?_⟩
                        obtain ⟨⟨hle1, hle2⟩, hmd, _⟩ := hup hs0
                        have hm0 : m = 0 := by have := of_decide_eq_false hmd; omega
                        subst hm0
                        obtain ⟨hbs, hs'⟩ := hE s _ hs
                        obtain ⟨_, _, cur, hcur, hAa, hc1', hc2', _⟩ := hR.obj id _ hms
                        have e2 : (hA1.also [LeN n n2, LeN n2 n]).next = h.next := q2
                        refine ⟨θ, w, run_val ?_, by rw [e2]; exact hbs, (Post.refl hR).same q1 q2 q3⟩
                        rw [eargs, ets, hs', hx']
                        simp only [conc]
                        rw [run_append_none hu hinf (by omega)]
                      · trivial
                    · trivial
                  · trivial
              · rename_i hs
                split
                case h_3 => trivial
                case h_2 =>
                  rename_i hA1 hask
                  obtain ⟨q1, q2, q3, q4⟩ := ask_ok hask
                  refine ⟨fun hs0 => (also_all.1 (q4.1 hs0).2).2, fun hs0 => ?_⟩
                  have hm0 : m = 0 := by have := of_decide_eq_false (q4.1 hs0).1; omega
                  subst hm0
                  have hs' := (hE s _ hs).2
                  rw [conc_lit] at hs'
                  refine ⟨θ, w, run_val ?_, by simp [bd], (Post.refl hR).same q1 q2 q3⟩
                  rw [eargs, ets, hs', hx']
                  simp only [conc]
                  rw [run_append_none hu hinf (Nat.le_refl _)]
                rename_i hA1 hask
                obtain ⟨q1, q2, q3, q4⟩ := ask_ok hask
                unfold added
                split
                · rename_i h' ha
                  have hsp := AH.add_spec ha
                  have hscs : h'.sc = [LeN m 65536] ++ hA1.sc := by rw [hsp.2.2.2.2]; cases hA1; rfl
                  have hup : All h'.sc → (m ≤ 65536 ∧ decide (0 < m) = true ∧ m ≤ n' ∧ All h.sc) := fun hs0 => by
                    rw [hscs] at hs0
                    obtain ⟨⟨a1⟩, a4⟩ := hs0
                    obtain ⟨a5, a6⟩ := q4.1 a4
                    obtain ⟨⟨⟨a7⟩, _⟩, a8⟩ := also_all.1 a6
                    exact ⟨a1, a5, a7, a8⟩
                  refine ⟨fun hs0 => (hup hs0).2.2.2, fun hs0 => ?_⟩
                  obtain ⟨hm64, hmd, hmn, _⟩ := hup hs0
                  have hm0 : 0 < m := of_decide_eq_true hmd
                  obtain ⟨hsx, hnews⟩ := hsrc hm0 hmn
                  rw [hsx] at hx'
                  have hs' := (hE s _ hs).2
                  rw [conc_lit] at hs'
                  obtain ⟨g2, cap, w', hrun, hown', hgrow, hat, hlt⟩ := run_append_lies (P := P) w t ty base el inf z j.size j.bytes hu hinf hz hsz hby hzs hj0 (.slice none 0 0) 0 [] (World.ownsRow_nil ..) ⟨(θ xid).b, (θ xid).o, none⟩ m (θ xid).c _ cellsL_len hnews cellsL_one hm0 (by unfold maxLen; omega) (by have : (0 + m) * j.bytes ≤ 65536 * 65536 := Nat.mul_le_mul (by omega) hbytes; omega) hR.size _ rfl
                  have hg : g2 = w.heap.size := by
                    rcases hat with e | e
                    · simp [Value.ownBlock] at e
                    · exact e
                  have hsame := upd_same θ h.next ⟨g2, cap, some ⟨g2, 0, none⟩⟩
                  have hn' := hsp.2.2.1
                  have hnx : (hA1.also [LeN m 65536]).next = h.next := q2
                  rw [hnx] at hn'
                  refine ⟨upd θ h.next ⟨g2, cap, some ⟨g2, 0, none⟩⟩, w', run_val ?_, by rw [hn', q2]; show bd _ _ (AV.isl h.next m); simp only [bd, hsame]; exact ⟨by omega, fun _ => by simp [Ref.o]⟩, ?_⟩
                  · rw [eargs, ets, hs', hx']
                    rw [q2]
                    show _ = Result.ok (conc _ (AV.isl h.next m)) w'
                    simp only [conc, hsame]
                    rw [hrun]
                    simp
                  · have hR1 : R base θ hA1 w := hR.same q1 q2 q3
                    have hsame1 : (upd θ h.next ⟨g2, cap, some ⟨g2, 0, none⟩⟩) = (upd θ hA1.next ⟨g2, cap, some ⟨g2, 0, none⟩⟩) := by rw [q2]; rfl
                    have hn1 : hA1.next = h.next := q2
                    rw [hsame1]
                    refine ((Post.refl hR).same (h'' := hA1) q1 q2 q3).trans (Post.of_also (ps := [LeN m 65536]) (Post.add (h := hA1.also [LeN m 65536]) (hR1.same rfl rfl rfl) ha (r := ⟨g2, cap, some ⟨g2, 0, none⟩⟩) (by simp [hg]) (fun k hk => hgrow.block k hk (by simp [Value.ownBlock])) ⟨hgrow.os, hgrow.tape, hgrow.output, hgrow.size, fun k hk => hgrow.block k (Nat.lt_of_lt_of_le hk hR.size) (by simp [Value.ownBlock])⟩ ?_))
                    have hown2 : w'.ownsRow base el j.size (.slice (some ⟨g2, 0, none⟩) m cap) m (cellsL g j.size m) := by simpa using hown'
                    exact OOK.of_owns (base := base) (upd_same θ hA1.next ⟨g2, cap, some ⟨g2, 0, none⟩⟩) hown2 fun q i hq hi => cellsL_get hq hi
                · trivial
              · trivial
            · trivial
          · trivial
        · trivial
      · trivial
    · trivial
  · trivial
theorem xEnter_ok (hE : EvOK θ h.next ev ρ) {c : Call} {f : Operand} {ty : TypeId} (hc : c.callee = .value f) : XOK P base θ h w (do let d ← resolve ρ c ty; invoke d.target d.args) (xEnter (evs ev c.args.toList) (ev f)) := by
  unfold xEnter
  split
  · rename_i g first cap hf
    split
    · rename_i xs hxs
      obtain ⟨hb, he⟩ := evs_ok hE hxs
      obtain ⟨hbf, hf'⟩ := hE f _ hf
      simp only [bd] at hbf
      refine ⟨fun y hy => ?_, ?_⟩
      · rcases List.mem_append.1 hy with hy | hy
        · rcases List.mem_append.1 hy with hy | hy
          · exact hbf.1 y hy
          · exact hb y hy
        · exact hbf.2 y hy
      · have e1 : c.args.map ρ = (xs.map (conc θ)).toArray := by apply Array.toList_inj.1; rw [Array.toList_map, he]
        simp only [resolve, hc, hf', conc, Deferred.ofValue, Sem.run_bind, Sem.run_pure, Result.andThen, invoke, e1]
        congr 2
        simp
    · trivial
  · rename_i id hf
    split
    · rename_i xs hxs
      obtain ⟨hb, he⟩ := evs_ok hE hxs
      obtain ⟨hbf, hf'⟩ := hE f _ hf
      simp only [bd] at hbf
      refine ⟨hb, hbf, ?_⟩
      have e1 : c.args.map ρ = (xs.map (conc θ)).toArray := by apply Array.toList_inj.1; rw [Array.toList_map, he]
      simp only [resolve, hc, hf', conc, Deferred.ofValue, Sem.run_bind, Sem.run_pure, Result.andThen, invoke, e1]
      congr 2
      simp
    · trivial
  · trivial
/-- An operation that touches memory, or a call. -/
theorem xmem_ok (hT : ∀ t i, tb.ty.get t = some i → TyOK P t i) (hK : ∀ t n, tb.keyEq.get t = some n → KeyOK P t n) (hR : R base θ h w) (hE : EvOK θ h.next ev ρ) (o : Oper) : XOK P base θ h w (execOp ρ o) (xmem tb h ev o) := by
  unfold xmem
  split <;> rename_i ho <;> first | trivial | (unfold execOp; simp only [ho])
  · exact (xAlloc_ok hT).xok hR
  · exact (xBox_ok hE).xok hR
  · exact xStore_ok hT hR hE
  · exact (xBuildSlice_ok hT hE).xok hR
  · exact xMakeSlice_ok hT hR hE
  · exact xMakeMap_ok.xok hR
  · exact xLookup_ok hT hK hR hE
  · exact xMapUpd_ok hT hK hR hE
  · exact xMapEntry_ok hT hK hR hE
  · exact xEntryStore_ok hR hE
  · exact xSliceE_ok hT hR hE
  · rename_i c
    unfold xCall
    split
    · rename_i hc
      have := xAppend_ok (P := P) (ty := o.type) hT hR hE (args := c.args) (ts := c.argTypes)
      have e : ∀ K : Next → Sem Next, ((do let d ← resolve ρ c o.type; invoke d.target d.args) : Sem Next).run P w = (do pure (Next.value (← Builtin.append_ c.argTypes o.type (c.args.map ρ))) : Sem Next).run P w := fun _ => by
        simp only [resolve, hc, invoke, builtin, Sem.run_bind, Sem.run_pure, Result.andThen]
      generalize hX : xAppend tb h ev c.args c.argTypes = X at this ⊢
      cases X with
      | val v h' => simp only [XOK] at this ⊢; rw [e pure]; exact this
      | skip h' => simp only [XOK] at this ⊢; rw [e pure]; exact this
      | enter f args => simp only [XOK] at this ⊢; rw [e pure]; exact this
      | round id args => simp only [XOK] at this ⊢; rw [e pure]; exact this
      | no => trivial
    · rename_i f hc
      exact xEnter_ok hE hc
    · trivial
end
end Go.Proofs.YtknplcpjmpmblaaDoor.GY
