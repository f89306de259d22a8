import Derived.Test.YtbjffjnmjkogkaaGreatGA
import Derived.RangeFuncLeaves
import Derived.OrdersIn
set_option linter.unusedVariables false
set_option linter.unusedSimpArgs false
namespace Go.Proofs.YtbjffjnmjkogkaaGreat.GY
section PartOfUh
open Go Go.RowKit
section
variable {P : Program} {tb : Tab} {θ : Th} {base : Bs} {h : AH} {ev : Operand → Option AV} {ρ : Operand → Value} {w : World}
theorem putObj_below {r : Nat} {o : Obj} (hr : base ≤ r) : Below base w (w.putObj r o) := ⟨rfl, rfl, rfl, by simp, fun k hk => World.putObj_heap_other (by omega)⟩
theorem modify_map {α β : Type} (f : α → β) (g : α → α) (g' : β → β) (hg : ∀ x, f (g x) = g' (f x)) (l : List α) (p : Nat) : (l.map f).toArray.modify p g' = ((l.modify p g).map f).toArray := by
  apply Array.ext_getElem?
  intro j
  simp only [Array.getElem?_modify, List.getElem?_toArray, List.getElem?_map, List.getElem?_modify]
  by_cases hj : p = j
  · simp only [hj, if_true]
    cases l[j]? <;> simp [hg]
  · simp only [hj, if_false]
    cases l[j]? <;> simp
theorem xMapUpd_ok (hT : ∀ t i, tb.ty.get t = some i → TyOK P t i) (hK : ∀ t n, tb.keyEq.get t = some n → KeyOK P t n) (hR : R base θ h w) (hE : EvOK θ h.next ev ρ) {t : TypeId} {m k x : Operand} :
    XOK P base θ h w (do Instr.mapUpdate t (ρ m) (ρ k) (ρ x); pure .skip) (xMapUpd tb h ev t m k x) := by
  unfold xMapUpd
  split
  · rename_i id hm0
    unfold xMapUpd2
    split
    · rename_i kv v hk hv
      split
      · rename_i n j es clock hmo hma
        obtain ⟨kt, el, hu, hKO, hj⟩ := amapOf_ok hT hK hmo
        have hm := amapAt_ok hma
        obtain ⟨hidn, hbase, hbe, hheap⟩ := hR.obj id _ hm
        obtain ⟨hbk, hk'⟩ := hE k _ hk
        obtain ⟨hbv, hx'⟩ := hE x _ hv
        have hm' := (hE m _ hm0).2
        split
        · rename_i p v0 hf
          obtain ⟨hck, hfk, hst⟩ := hKO θ kv es _ hf w false
          obtain ⟨e, he1, _, hkts⟩ := hst p v0 rfl
          unfold stored
          split
          · rename_i h' hp
            have hmod := modify_map (entryC θ) (fun e => (kv, v, e.2.2)) (fun e : MapEntry => { e with key := conc θ kv, val := conc θ v }) (fun e => rfl) es p
            refine ⟨fun hs => by rw [← (AH.put_spec hp).2.2.2.2]; exact hs, fun _ => ⟨θ, w.putObj (θ id).b (.map ((es.modify p fun e => (kv, v, e.2.2)).map (entryC θ)).toArray clock), ?_, Post.put hR hm hp (fun k hk => World.putObj_heap_other hk) (by simp) (putObj_below hbase) ⟨?_, World.putObj_heap_same (hR.obj id _ hm).2.2.lt⟩⟩⟩
            · rw [hm', hk', hx']
              simp only [Instr.mapUpdate, Sem.run_bind, run_underlying hu w, Result.andThen, conc, run_getObj_mp hheap, hck]
              simp only [List.toList_toArray, hfk, Result.andThen, Option.map_some, Sem.run_bind]
              have hkey : ((((es.map (entryC θ)).toArray[p]?).map (·.key)).getD (conc θ kv)) = conc θ e.1 := by simp [he1, entryC]
              rw [hkey, hkts]
              simp only [Result.andThen, hmod, run_setObj_mp _ hheap, Sem.run_pure]
            · intro e' he'
              obtain ⟨q, hq⟩ := List.mem_iff_getElem?.1 he'
              rw [List.getElem?_modify] at hq
              obtain ⟨y, hy, hye⟩ : ∃ y, es[q]? = some y ∧ (e' = y ∨ e' = (kv, v, y.2.2)) := by
                cases hy : es[q]? with
                | none => rw [hy] at hq; simp at hq
                | some y =>
                  rw [hy] at hq
                  simp only [Option.map_eq_map, Option.map_some, Option.some.injEq] at hq
                  refine ⟨y, rfl, ?_⟩
                  split at hq
                  · exact .inr hq.symm
                  · exact .inl hq.symm
              rcases hye with rfl | rfl
              · exact hbe e' (List.mem_of_getElem? hy)
              · exact ⟨hbk, hbv⟩
          · trivial
        · rename_i hf
          obtain ⟨hck, hfk, hst⟩ := hKO θ kv es _ hf w false
          unfold stored
          split
          · rename_i h' hp
            refine ⟨fun hs => by rw [← (AH.put_spec hp).2.2.2.2]; exact hs, fun _ => ⟨θ, w.putObj (θ id).b (.map ((es ++ [(kv, v, clock)]).map (entryC θ)).toArray (clock + 1)), ?_, Post.put hR hm hp (fun k hk => World.putObj_heap_other hk) (by simp) (putObj_below hbase) ⟨?_, World.putObj_heap_same (hR.obj id _ hm).2.2.lt⟩⟩⟩
            · rw [hm', hk', hx']
              simp only [Instr.mapUpdate, Sem.run_bind, run_underlying hu w, Result.andThen, conc, run_getObj_mp hheap, hck]
              simp only [List.toList_toArray, hfk, Result.andThen, Option.map_none, run_setObj_mp _ hheap]
              simp [entryC]
            · intro e' he'
              rcases List.mem_append.1 he' with he' | he'
              · exact hbe e' he'
              · obtain rfl := List.mem_singleton.1 he'; exact ⟨hbk, hbv⟩
          · trivial
        · trivial
      · trivial
    · trivial
  · trivial
theorem bds_modify {n p : Nat} {es : List (AV × AV × Nat)} (hbe : ∀ e ∈ es, bd θ n e.1 ∧ bd θ n e.2.1) {g : AV × AV × Nat → AV × AV × Nat} (hg : ∀ e ∈ es, bd θ n (g e).1 ∧ bd θ n (g e).2.1) : ∀ e ∈ es.modify p g, bd θ n e.1 ∧ bd θ n e.2.1 := by
  intro e' he'
  obtain ⟨q, hq⟩ := List.mem_iff_getElem?.1 he'
  rw [List.getElem?_modify] at hq
  cases hy : es[q]? with
  | none => rw [hy] at hq; simp at hq
  | some y =>
    rw [hy] at hq
    simp only [Option.map_eq_map, Option.map_some, Option.some.injEq] at hq
    split at hq
    · rw [← hq]; exact hg y (List.mem_of_getElem? hy)
    · rw [← hq]; exact hbe y (List.mem_of_getElem? hy)
theorem xMapEntry_ok (hT : ∀ t i, tb.ty.get t = some i → TyOK P t i) (hK : ∀ t n, tb.keyEq.get t = some n → KeyOK P t n) (hR : R base θ h w) (hE : EvOK θ h.next ev ρ) {t : TypeId} {m k : Operand} :
    XOK P base θ h w (do pure (Next.value (← Instr.mapEntry t (ρ m) (ρ k)))) (xMapEntry tb h ev t m k) := by
  unfold xMapEntry
  split
  · rename_i id hm0
    unfold xMapEntry2
    split
    · rename_i kv hk
      split
      · rename_i n j es clock hmo hma
        obtain ⟨kt, el, hu, hKO, hj⟩ := amapOf_ok hT hK hmo
        have hm := amapAt_ok hma
        obtain ⟨hidn, hbase, hbe, hheap⟩ := hR.obj id _ hm
        obtain ⟨hbk, hk'⟩ := hE k _ hk
        have hm' := (hE m _ hm0).2
        split
        · rename_i p v0 hf
          obtain ⟨hck, hfk, hst⟩ := hKO θ kv es _ hf w false
          obtain ⟨e, he1, hev, hkts⟩ := hst p v0 rfl
          split
          · rename_i e' he'
            rw [he1] at he'; cases he'
            split
            · rename_i h' hp
              have hmod := modify_map (entryC θ) (fun e => (kv, e.2.1, e.2.2)) (fun e : MapEntry => { e with key := conc θ kv }) (fun e => rfl) es p
              have hbem := hbe e (List.mem_of_getElem? he1)
              refine ⟨fun hs => by rw [← (AH.put_spec hp).2.2.2.2]; exact hs, fun _ => ⟨θ, w.putObj (θ id).b (.map ((es.modify p fun e => (kv, e.2.1, e.2.2)).map (entryC θ)).toArray clock), run_val ?_, ?_, Post.put hR hm hp (fun k hk => World.putObj_heap_other hk) (by simp) (putObj_below hbase) ⟨?_, World.putObj_heap_same (hR.obj id _ hm).2.2.lt⟩⟩⟩
              · rw [hm', hk']
                simp only [Instr.mapEntry, Sem.run_bind, run_underlying hu w, Result.andThen, conc, run_getObj_mp hheap, hck]
                simp only [List.toList_toArray, hfk, Result.andThen, Option.map_some, Sem.run_bind]
                have hkey : ((((es.map (entryC θ)).toArray[p]?).map (·.key)).getD (conc θ kv)) = conc θ e.1 := by simp [he1, entryC]
                have hborn : ((((es.map (entryC θ)).toArray[p]?).map (·.born)).getD 0) = e.2.2 := by simp [he1, entryC]
                rw [hkey, hkts]
                simp only [Result.andThen, hmod, run_setObj_mp _ hheap, Sem.run_pure, hborn]
                simp [conc, goInt, he1, entryC]
              · rw [(AH.put_spec hp).2.2.1]
                simp only [bd]
                intro y hy
                rcases List.mem_cons.1 hy with rfl | hy
                · rw [← hev]; exact hbem.2
                · obtain rfl := List.mem_singleton.1 hy; simp [bd]
              · exact bds_modify hbe fun e he => ⟨hbk, (hbe e he).2⟩
            · trivial
          · trivial
        · rename_i hf
          split
          · rename_i z hz
            obtain ⟨hck, hfk, hst⟩ := hKO θ kv es _ hf w false
            obtain ⟨hbz, hrz⟩ := zero_apart (θ := θ) (w := w) hj hz h.next
            split
            · rename_i h' hp
              refine ⟨fun hs => by rw [← (AH.put_spec hp).2.2.2.2]; exact hs, fun _ => ⟨θ, w.putObj (θ id).b (.map ((es ++ [(kv, z, clock)]).map (entryC θ)).toArray (clock + 1)), run_val ?_, ?_, Post.put hR hm hp (fun k hk => World.putObj_heap_other hk) (by simp) (putObj_below hbase) ⟨?_, World.putObj_heap_same (hR.obj id _ hm).2.2.lt⟩⟩⟩
              · rw [hm', hk']
                simp only [Instr.mapEntry, Sem.run_bind, run_underlying hu w, Result.andThen, conc, run_getObj_mp hheap, hck]
                simp only [List.toList_toArray, hfk, Result.andThen, Option.map_none, Sem.run_bind, hrz, run_setObj_mp _ hheap, Sem.run_pure]
                simp [conc, goInt, entryC]
              · rw [(AH.put_spec hp).2.2.1]
                simp only [bd]
                intro y hy
                rcases List.mem_cons.1 hy with rfl | hy
                · exact hbz
                · obtain rfl := List.mem_singleton.1 hy; simp [bd]
              · intro e' he'
                rcases List.mem_append.1 he' with he' | he'
                · exact hbe e' he'
                · obtain rfl := List.mem_singleton.1 he'; exact ⟨hbk, hbz⟩
            · trivial
          · trivial
        · trivial
      · trivial
    · trivial
  · trivial
theorem aborn_ok {n : Int} : ∀ {es : List (AV × AV × Nat)} {i p : Nat}, aborn n es i = some p → ∃ q, p = i + q ∧ (es.map (entryC θ)).findIdx? (fun e => (e.born : Int) == n) = some q
  | [], i, p, hx => by cases hx
  | e :: es, i, p, hx => by
    simp only [aborn] at hx
    split at hx
    · rename_i hc
      cases hx
      exact ⟨0, rfl, by simp [entryC, hc, List.findIdx?_cons]⟩
    · rename_i hc
      obtain ⟨q, rfl, hq⟩ := aborn_ok hx
      refine ⟨q + 1, by omega, ?_⟩
      have : ((entryC θ e).born : Int) ≠ n := hc
      simp [List.findIdx?_cons, this, hq]
theorem xEntryStore_ok (hR : R base θ h w) (hE : EvOK θ h.next ev ρ) {t : TypeId} {m s x : Operand} : XOK P base θ h w (do Instr.entryStore t (ρ m) (ρ s) (ρ x); pure .skip) (xEntryStore h ev m s x) := by
  unfold xEntryStore
  split
  · rename_i id hm0
    unfold xEntryStore2
    split
    · rename_i k0 n v hs hv
      split
      · rename_i es clock hma
        have hm := amapAt_ok hma
        obtain ⟨hidn, hbase, hbe, hheap⟩ := hR.obj id _ hm
        split
        · rename_i p hp0
          unfold stored
          split
          · rename_i h' hp
            obtain ⟨q, hq, hfi⟩ := aborn_ok (θ := θ) hp0
            obtain rfl : p = q := by omega
            obtain ⟨hbv, hx'⟩ := hE x _ hv
            have hs' := (hE s _ (bind_aint hs)).2
            rw [conc_lit] at hs'
            have hm' := (hE m _ hm0).2
            have hmod := modify_map (entryC θ) (fun e => (e.1, v, e.2.2)) (fun e : MapEntry => { e with val := conc θ v }) (fun e => rfl) es p
            refine ⟨fun hs => by rw [← (AH.put_spec hp).2.2.2.2]; exact hs, fun _ => ⟨θ, w.putObj (θ id).b (.map ((es.modify p fun e => (e.1, v, e.2.2)).map (entryC θ)).toArray clock), ?_, Post.put hR hm hp (fun k hk => World.putObj_heap_other hk) (by simp) (putObj_below hbase) ⟨?_, World.putObj_heap_same (hR.obj id _ hm).2.2.lt⟩⟩⟩
            · rw [hm', hs', hx']
              simp only [Instr.entryStore, Sem.run_bind, Result.andThen, conc, run_getObj_mp hheap, asInt, asIntOf, Sem.run_pure]
              have hfa : (es.map (entryC θ)).toArray.findIdx? (fun e => (e.born : Int) == n) = some p := by simpa using hfi
              rw [hfa]
              simp only [hmod, run_setObj_mp _ hheap, Result.andThen, Sem.run_pure]
            · exact bds_modify hbe fun e he => ⟨(hbe e he).1, hbv⟩
          · trivial
        · trivial
      · trivial
    · trivial
  · trivial
theorem xSliceE_ok (hT : ∀ t i, tb.ty.get t = some i → TyOK P t i) (hR : R base θ h w) (hE : EvOK θ h.next ev ρ) {t : TypeId} {x : Operand} {lo hi mx : Option Operand} :
    XOK P base θ h w (do pure (Next.value (← Instr.sliceAt t (ρ x) (lo.map ρ) (hi.map ρ) (mx.map ρ)))) (xSliceE tb h ev t x lo hi mx) := by
  unfold xSliceE
  split
  · rename_i id off len sub hx
    obtain ⟨hb, hx'⟩ := hE x _ hx
    simp only [bd] at hb
    obtain ⟨hid, hc⟩ := hb
    split
    · rename_i pj l hh hsl hl hhi
      obtain ⟨el, j⟩ := pj
      unfold xSliceE2
      split
      · rename_i H hH
        split
        · rename_i L hL
          split
          · rename_i hlt
            subst hlt
            obtain ⟨hu, hj⟩ := asliceOf_ok hT hsl
            obtain ⟨r1, q1, q2⟩ := abound_ok (P := P) hE hhi hH (show L ≤ (θ id).c - sub by omega) .sliceAcap w
            obtain ⟨r2, q3, q4⟩ := abound_ok (P := P) hE hl hL (Nat.le_refl H) .sliceB w
            have hHlen : H ≤ L := by
              by_cases hn : hi = none
              · rw [q1 hn]; exact Nat.le_refl _
              · exact q2 hn
            have hLH : L ≤ H := by
              by_cases hn : lo = none
              · rw [q3 hn]; exact Nat.zero_le _
              · exact q4 hn
            obtain rfl : H = L := Nat.le_antisymm hHlen hLH
            obtain ⟨m, next, ro, sc, orc⟩ := h
            have hsame := upd_same θ next ⟨0, (θ id).c - sub - H, if (θ id).c - sub = H then some ⟨(θ id).b, off, none⟩ else (some ⟨(θ id).b, off, none⟩ : Option Addr).map (·.add (H * j.size))⟩
            refine ⟨fun hs => hs, fun _ => ⟨upd θ next ⟨0, (θ id).c - sub - H, if (θ id).c - sub = H then some ⟨(θ id).b, off, none⟩ else (some ⟨(θ id).b, off, none⟩ : Option Addr).map (·.add (H * j.size))⟩, w, run_val ?_, by simp [bd], Post.bump hR _⟩⟩
            rw [hx']
            have hbounds : (Instr.sliceBounds true H ((θ id).c - sub) (lo.map ρ) (hi.map ρ) none).run P w = .ok (H, H, (θ id).c - sub) w := by
              unfold Instr.sliceBounds
              cases hi <;> cases lo <;> simp only [Option.map_none, Option.map_some] at r1 r2 ⊢ <;>
                simp [Sem.run_bind, Result.andThen] at r1 r2 ⊢ <;> simp [r1, r2, Result.andThen]
            unfold Instr.sliceAt
            simp only [Sem.run_bind, run_underlying hu w, Result.andThen, conc, Instr.slice, Option.map_none, hbounds, run_size hj w, hsame]
            simp
          · trivial
        · trivial
      · trivial
    · trivial
  · trivial
def cellsL (f : Nat → Nat → Int) (sz n : Nat) : List Value := (List.range (n * sz)).map fun i => .int .i64 (f (i / sz) (i % sz))
theorem cellsL_len {f : Nat → Nat → Int} {sz n : Nat} : (cellsL f sz n).length = n * sz := by simp [cellsL]
theorem cellsL_at {f : Nat → Nat → Int} {sz n i : Nat} (hi : i < n * sz) : (cellsL f sz n)[i]? = some (.int .i64 (f (i / sz) (i % sz))) := by
  simp only [cellsL, List.getElem?_map, List.getElem?_range hi, Option.map_some]
theorem cellsL_get {f : Nat → Nat → Int} {sz n k j : Nat} (hk : k < n) (hj : j < sz) : (cellsL f sz n)[k * sz + j]? = some (.int .i64 (f k j)) := by
  have hlt : k * sz + j < n * sz := by
    have : (k + 1) * sz ≤ n * sz := Nat.mul_le_mul_right _ hk
    rw [Nat.succ_mul] at this; omega
  rw [cellsL_at hlt]
  have h1 : (k * sz + j) / sz = k := by rw [Nat.mul_comm, Nat.mul_add_div (by omega), Nat.div_eq_of_lt hj]; simp
  have h2 : (k * sz + j) % sz = j := by rw [Nat.mul_comm, Nat.mul_add_mod]; exact Nat.mod_eq_of_lt hj
  rw [h1, h2]
theorem cellsL_one {f : Nat → Nat → Int} {sz n : Nat} : ∀ u ∈ cellsL f sz n, u.oneCell' = true := fun u hu => by
  obtain ⟨q, _, rfl⟩ := List.mem_map.1 hu; rfl
theorem divmod_lt {i sz n : Nat} (hi : i < n * sz) : i / sz < n ∧ i % sz < sz ∧ i / sz * sz + i % sz = i := by
  have hs : 0 < sz := by
    rcases Nat.eq_zero_or_pos sz with h | h
    · subst h; simp at hi
    · exact h
  exact ⟨(Nat.div_lt_iff_lt_mul hs).2 hi, Nat.mod_lt _ hs, by rw [Nat.mul_comm]; exact Nat.div_add_mod i sz⟩
theorem OOK.owns {n id k sz : Nat} {el : TypeId} {f : Nat → Nat → Int} (ho : OOK θ n id (.irow el sz k f) w) (hb : base ≤ (θ id).b) :
    w.ownsRow base el sz (.slice (θ id).a k (θ id).c) k (cellsL f sz k) := by
  obtain ⟨cur, hc, ha, h1, h2, h3, hcell⟩ := ho
  refine ⟨cellsL_len, .inr ⟨(θ id).b, (θ id).c, cur, by rw [ha], hb, hc, h1, h2, h3, ?_⟩⟩
  apply List.ext_getElem?
  intro i
  rw [List.getElem?_take]
  split
  · rename_i hi
    obtain ⟨a, b, c⟩ := divmod_lt hi
    have := hcell _ _ a b
    rw [c] at this
    rw [cellsL_at hi, Array.getElem?_toList, this]
  · rename_i hi
    rw [List.getElem?_eq_none (by rw [cellsL_len]; omega)]
theorem joinF_get {f g : Nat → Nat → Int} {sz n m k j : Nat} (hk : k < n + m) (hj : j < sz) : (cellsL f sz n ++ cellsL g sz m)[k * sz + j]? = some (.int .i64 (joinF n f g k j)) := by
  unfold joinF
  by_cases h : k < n
  · rw [if_pos h, List.getElem?_append_left (by
      rw [cellsL_len]
      have : (k + 1) * sz ≤ n * sz := Nat.mul_le_mul_right _ h
      rw [Nat.succ_mul] at this; omega), cellsL_get h hj]
  · have hge : n * sz ≤ k * sz := Nat.mul_le_mul_right _ (by omega)
    rw [if_neg h, List.getElem?_append_right (by rw [cellsL_len]; omega), cellsL_len, ← cellsL_get (f := g) (show k - n < m by omega) hj]
    congr 1
    rw [Nat.sub_mul]; omega
theorem OOK.of_owns {θ' : Th} {n id k sz g cap : Nat} {xs : List Value} {el : TypeId} {f : Nat → Nat → Int} {w' : World} (hθ : θ' id = ⟨g, cap, some ⟨g, 0, none⟩⟩) (ho : w'.ownsRow base el sz (.slice (some ⟨g, 0, none⟩) k cap) k xs) (hf : ∀ q j, q < k → j < sz → xs[q * sz + j]? = some (.int .i64 (f q j))) : OOK θ' n id (.irow el sz k f) w' := by
  rcases ho.2 with ⟨h0, _⟩ | ⟨g', cap', cur, hv, hb', hg, h1, h2, h3, h4⟩
  · cases h0
  · cases hv
    refine ⟨cur, by rw [hθ]; exact hg, by rw [hθ], by rw [hθ]; exact h1, by rw [hθ]; exact h2, by rw [hθ]; exact h3, fun q j hq hj => ?_⟩
    have := hf q j hq hj
    rw [← h4, List.getElem?_take] at this
    split at this
    · rw [← Array.getElem?_toList]; exact this
    · cases this
theorem run_append_none {t ty e : TypeId} {i : TypeInfo} (hu : P.underlying t = some (.slice e)) (hi : P.info? e = some i) {a x : Option Addr} {n k c : Nat} (hn : n ≤ k) :
    (Builtin.append_ #[t, t] ty #[.slice a n k, .slice x 0 c]).run P w = .ok (.slice a n k) w := by
  cases a <;> cases x <;> simp [Builtin.append_, run_underlying hu, sizeOf, typeInfo, hi, Builtin.lenOf, Builtin.firstCells, loadCells, loadCellsFrom, hn, storeCells, Sem.run_bind, Result.andThen]
theorem xAppend_ok (hT : ∀ t i, tb.ty.get t = some i → TyOK P t i) (hR : R base θ h w) (hE : EvOK θ h.next ev ρ) {args : Array Operand} {ts : Array TypeId} {ty : TypeId} :
    XOK P base θ h w (do pure (Next.value (← Builtin.append_ ts ty (args.map ρ)))) (xAppend tb h ev args ts) := by
  unfold xAppend
  split
  · rename_i s x t t' hargs hts
    split
    · rename_i htt
      subst htt
      split
      · rename_i el j hsl
        obtain ⟨hu, hj⟩ := asliceOf_ok hT hsl
        obtain ⟨inf, z, hinf, hsz, hby, hz, hzc⟩ := hj.info
        unfold xAppend2
        split
        · rename_i xid m hx
          split
          · rename_i sz n' g hrow
            split
            · rename_i hc
              simp only [Bool.and_eq_true] at hc
              obtain ⟨⟨hc1, hc2⟩, hc3⟩ := hc
              obtain rfl := Nat.eq_of_beq_eq_true hc1
              have hj0 : 0 < j.size := Nat.le_of_ble_eq_true hc2
              have hbytes : j.bytes ≤ 65536 := Nat.le_of_ble_eq_true hc3
              obtain ⟨hxid, hxcell, hxle, _, hxa⟩ := rowAt_ok hR hrow
              obtain ⟨hbx, hx'⟩ := hE x _ hx
              have eargs : args.map ρ = #[ρ s, ρ x] := by apply Array.toList_inj.1; rw [Array.toList_map, hargs]; rfl
              have ets : ts = #[t, t] := by apply Array.toList_inj.1; rw [hts]
              have hzs : z.cells.size = j.size := by rw [← hj.len, ← hzc]; simp
              have hsrc : 0 < m → m ≤ n' → conc θ (.isl xid m) = .slice (some ⟨(θ xid).b, (θ xid).o, none⟩) m (θ xid).c ∧ ∀ q u, (cellsL g j.size m)[q]? = some u → w.cell? ((⟨(θ xid).b, (θ xid).o, none⟩ : Addr).add q) = some u := fun h0 hmn => by
                refine ⟨by simp only [conc]; rw [hxa (by omega)], fun q u hq => ?_⟩
                have hlt : q < m * j.size := by have := (List.getElem?_eq_some_iff.1 hq).1; rwa [cellsL_len] at this
                obtain ⟨a, b, c⟩ := divmod_lt hlt
                rw [cellsL_at hlt] at hq
                have := hxcell _ _ (Nat.lt_of_lt_of_le a hmn) b
                rw [c] at this
                rw [add_plain', this]
                exact hq
              unfold xAppend3
              split
              · rename_i id n hs
                split
                · trivial
                · rename_i hne
                  split
                  · rename_i el' sz' n2 f hms
                    split
                    · rename_i hel
                      simp only [Bool.and_eq_true] at hel
                      obtain rfl := Nat.eq_of_beq_eq_true hel.1
                      obtain rfl := Nat.eq_of_beq_eq_true hel.2
                      split
                      · rename_i hA1 hask
                        obtain ⟨q1, q2, q3, q4⟩ := ask_ok hask
                        unfold xAppend4
                        split
                        rename_i mm next ro sc orc heq
                        split
                        · rename_i h' ha
                          obtain ⟨hm0', hn0', hro0, hsc0⟩ : mm = h.m ∧ next = h.next ∧ ro = h.ro ∧ sc = [LeN n n2, LeN n2 n] ++ hA1.sc := by
                            have e1 : mm = hA1.m ∧ next = hA1.next ∧ ro = hA1.ro ∧ sc = [LeN n n2, LeN n2 n] ++ hA1.sc := by
                              cases hA1; simp only [AH.also, AH.mk.injEq] at heq; obtain ⟨a, b, c, d, e⟩ := heq; exact ⟨a.symm, b.symm, c.symm, d.symm⟩
                            exact ⟨e1.1.trans q1, e1.2.1.trans q2, e1.2.2.1.trans q3, e1.2.2.2⟩
                          subst hm0'; subst hn0'; subst hro0
                          have hsp := AH.add_spec ha
                          have hscs : h'.sc = LeN (n + m) 65536 :: sc := hsp.2.2.2.2
                          rw [hsc0] at hscs
                          have hup : All h'.sc → ((n + m ≤ 65536 ∧ n ≤ n2 ∧ n2 ≤ n) ∧ decide (0 < m) = true ∧ m ≤ n' ∧ All h.sc) := fun hs0 => by
                            rw [hscs] at hs0
                            obtain ⟨⟨a1⟩, ⟨a2⟩, ⟨a3⟩, a4⟩ := hs0
                            obtain ⟨a5, a6⟩ := q4.1 a4
                            obtain ⟨⟨⟨a7⟩, _⟩, a8⟩ := also_all.1 a6
                            exact ⟨⟨a1, a2, a3⟩, a5, a7, a8⟩
                          refine ⟨fun hs0 => (hup hs0).2.2.2, fun hs0 => ?_⟩
                          obtain ⟨⟨hnm, hle1, hle2⟩, hmd, hmn, _⟩ := hup hs0
                          have hm0 : 0 < m := of_decide_eq_true hmd
                          have hnn : n2 = n := by omega
                          subst hnn
                          obtain ⟨hsx, hnews⟩ := hsrc hm0 hmn
                          rw [hsx] at hx'
                          obtain ⟨hidn, hib, hio⟩ := hR.obj id _ hms
                          have hs' := (hE s _ hs).2
                          simp only [conc] at hs'
                          have hown := hio.owns hib
                          have hA : (θ id).a = some ⟨(θ id).b, 0, none⟩ := by obtain ⟨_, _, hA, _⟩ := hio; exact hA
                          obtain ⟨g2, cap, w', hrun, hown', hgrow, hat, hlt⟩ := run_append_lies (P := P) w t ty base el' inf z j.size j.bytes hu hinf hz hsz hby hzs hj0 _ n2 _ hown ⟨(θ xid).b, (θ xid).o, none⟩ m (θ xid).c _ cellsL_len hnews cellsL_one hm0 (by unfold maxLen; omega) (by have : (n2 + m) * j.bytes ≤ 65536 * 65536 := Nat.mul_le_mul hnm hbytes; omega) hR.size _ rfl
                          have hsame := upd_same θ h.next ⟨g2, cap, some ⟨g2, 0, none⟩⟩
                          have hn' := hsp.2.2.1
                          simp only at hn'
                          refine ⟨upd θ h.next ⟨g2, cap, some ⟨g2, 0, none⟩⟩, w', run_val ?_, by rw [hn']; simp only [bd, hsame]; exact ⟨by omega, fun _ => by simp [Ref.o]⟩, ?_⟩
                          · rw [eargs, ets, hs', hx']
                            simp only [conc, hsame]
                            rw [hrun]
                          · refine Post.swap hR hms ha (r := ⟨g2, cap, some ⟨g2, 0, none⟩⟩) ?_ (fun k hk hkne => hgrow.block k hk (by simp [Value.ownBlock, hA]; exact hkne)) ⟨hgrow.os, hgrow.tape, hgrow.output, hgrow.size, fun k hk => hgrow.block k (Nat.lt_of_lt_of_le hk hR.size) (by simp [Value.ownBlock, hA]; omega)⟩ ?_
                            · rcases hat with e | e
                              · left; simpa [Value.ownBlock, hA] using e.symm
                              · right; exact e
                            · exact OOK.of_owns (base := base) hsame hown' fun q i hq hi => joinF_get hq hi
                        · trivial
                      · rename_i hA1 hask
                        obtain ⟨q1, q2, q3, q4⟩ := ask_ok hask
                        have hup : All (hA1.also [LeN n n2, LeN n2 n]).sc → ((n ≤ n2 ∧ n2 ≤ n) ∧ decide (0 < m) = false ∧ All h.sc) := fun hs0 => by
                          obtain ⟨⟨⟨a2⟩, ⟨a3⟩, _⟩, a4⟩ := also_all.1 hs0
                          obtain ⟨a5, a6⟩ := q4.1 a4
                          exact ⟨⟨a2, a3⟩, a5, (also_all.1 a6).2⟩
                        refine ⟨fun hs0 => (hup hs0).2.2, fun hs0 => ?_⟩
                        obtain ⟨⟨hle1, hle2⟩, hmd, _⟩ := hup hs0
                        have hm0 : m = 0 := by have := of_decide_eq_false hmd; omega
                        subst hm0
                        obtain ⟨hbs, hs'⟩ := hE s _ hs
                        obtain ⟨_, _, cur, hcur, hAa, hc1', hc2', _⟩ := hR.obj id _ hms
                        have e2 : (hA1.also [LeN n n2, LeN n2 n]).next = h.next := q2
                        refine ⟨θ, w, run_val ?_, by rw [e2]; exact hbs, (Post.refl hR).same q1 q2 q3⟩
                        rw [eargs, ets, hs', hx']
                        simp only [conc]
                        rw [run_append_none hu hinf (by omega)]
                      · trivial
                    · trivial
                  · trivial
              · rename_i hs
                split
                case h_3 => trivial
                case h_2 =>
                  rename_i hA1 hask
                  obtain ⟨q1, q2, q3, q4⟩ := ask_ok hask
                  refine ⟨fun hs0 => (also_all.1 (q4.1 hs0).2).2, fun hs0 => ?_⟩
                  have hm0 : m = 0 := by have := of_decide_eq_false (q4.1 hs0).1; omega
                  subst hm0
                  have hs' := (hE s _ hs).2
                  rw [conc_lit] at hs'
                  refine ⟨θ, w, run_val ?_, by simp [bd], (Post.refl hR).same q1 q2 q3⟩
                  rw [eargs, ets, hs', hx']
                  simp only [conc]
                  rw [run_append_none hu hinf (Nat.le_refl _)]
                rename_i hA1 hask
                obtain ⟨q1, q2, q3, q4⟩ := ask_ok hask
                unfold added
                split
                · rename_i h' ha
                  have hsp := AH.add_spec ha
                  have hscs : h'.sc = [LeN m 65536] ++ hA1.sc := by rw [hsp.2.2.2.2]; cases hA1; rfl
                  have hup : All h'.sc → (m ≤ 65536 ∧ decide (0 < m) = true ∧ m ≤ n' ∧ All h.sc) := fun hs0 => by
                    rw [hscs] at hs0
                    obtain ⟨⟨a1⟩, a4⟩ := hs0
                    obtain ⟨a5, a6⟩ := q4.1 a4
                    obtain ⟨⟨⟨a7⟩, _⟩, a8⟩ := also_all.1 a6
                    exact ⟨a1, a5, a7, a8⟩
                  refine ⟨fun hs0 => (hup hs0).2.2.2, fun hs0 => ?_⟩
                  obtain ⟨hm64, hmd, hmn, _⟩ := hup hs0
                  have hm0 : 0 < m := of_decide_eq_true hmd
                  obtain ⟨hsx, hnews⟩ := hsrc hm0 hmn
                  rw [hsx] at hx'
                  have hs' := (hE s _ hs).2
                  rw [conc_lit] at hs'
                  obtain ⟨g2, cap, w', hrun, hown', hgrow, hat, hlt⟩ := run_append_lies (P := P) w t ty base el inf z j.size j.bytes hu hinf hz hsz hby hzs hj0 (.slice none 0 0) 0 [] (World.ownsRow_nil ..) ⟨(θ xid).b, (θ xid).o, none⟩ m (θ xid).c _ cellsL_len hnews cellsL_one hm0 (by unfold maxLen; omega) (by have : (0 + m) * j.bytes ≤ 65536 * 65536 := Nat.mul_le_mul (by omega) hbytes; omega) hR.size _ rfl
                  have hg : g2 = w.heap.size := by
                    rcases hat with e | e
                    · simp [Value.ownBlock] at e
                    · exact e
                  have hsame := upd_same θ h.next ⟨g2, cap, some ⟨g2, 0, none⟩⟩
                  have hn' := hsp.2.2.1
                  have hnx : (hA1.also [LeN m 65536]).next = h.next := q2
                  rw [hnx] at hn'
                  refine ⟨upd θ h.next ⟨g2, cap, some ⟨g2, 0, none⟩⟩, w', run_val ?_, by rw [hn', q2]; show bd _ _ (AV.isl h.next m); simp only [bd, hsame]; exact ⟨by omega, fun _ => by simp [Ref.o]⟩, ?_⟩
                  · rw [eargs, ets, hs', hx']
                    rw [q2]
                    show _ = Result.ok (conc _ (AV.isl h.next m)) w'
                    simp only [conc, hsame]
                    rw [hrun]
                    simp
                  · have hR1 : R base θ hA1 w := hR.same q1 q2 q3
                    have hsame1 : (upd θ h.next ⟨g2, cap, some ⟨g2, 0, none⟩⟩) = (upd θ hA1.next ⟨g2, cap, some ⟨g2, 0, none⟩⟩) := by rw [q2]; rfl
                    have hn1 : hA1.next = h.next := q2
                    rw [hsame1]
                    refine ((Post.refl hR).same (h'' := hA1) q1 q2 q3).trans (Post.of_also (ps := [LeN m 65536]) (Post.add (h := hA1.also [LeN m 65536]) (hR1.same rfl rfl rfl) ha (r := ⟨g2, cap, some ⟨g2, 0, none⟩⟩) (by simp [hg]) (fun k hk => hgrow.block k hk (by simp [Value.ownBlock])) ⟨hgrow.os, hgrow.tape, hgrow.output, hgrow.size, fun k hk => hgrow.block k (Nat.lt_of_lt_of_le hk hR.size) (by simp [Value.ownBlock])⟩ ?_))
                    have hown2 : w'.ownsRow base el j.size (.slice (some ⟨g2, 0, none⟩) m cap) m (cellsL g j.size m) := by simpa using hown'
                    exact OOK.of_owns (base := base) (upd_same θ hA1.next ⟨g2, cap, some ⟨g2, 0, none⟩⟩) hown2 fun q i hq hi => cellsL_get hq hi
                · trivial
              · trivial
            · trivial
          · trivial
        · trivial
      · trivial
    · trivial
  · trivial
theorem xEnter_ok (hE : EvOK θ h.next ev ρ) {c : Call} {f : Operand} {ty : TypeId} (hc : c.callee = .value f) : XOK P base θ h w (do let d ← resolve ρ c ty; invoke d.target d.args) (xEnter (evs ev c.args.toList) (ev f)) := by
  unfold xEnter
  split
  · rename_i g first cap hf
    split
    · rename_i xs hxs
      obtain ⟨hb, he⟩ := evs_ok hE hxs
      obtain ⟨hbf, hf'⟩ := hE f _ hf
      simp only [bd] at hbf
      refine ⟨fun y hy => ?_, ?_⟩
      · rcases List.mem_append.1 hy with hy | hy
        · rcases List.mem_append.1 hy with hy | hy
          · exact hbf.1 y hy
          · exact hb y hy
        · exact hbf.2 y hy
      · have e1 : c.args.map ρ = (xs.map (conc θ)).toArray := by apply Array.toList_inj.1; rw [Array.toList_map, he]
        simp only [resolve, hc, hf', conc, Deferred.ofValue, Sem.run_bind, Sem.run_pure, Result.andThen, invoke, e1]
        congr 2
        simp
    · trivial
  · rename_i id hf
    split
    · rename_i xs hxs
      obtain ⟨hb, he⟩ := evs_ok hE hxs
      obtain ⟨hbf, hf'⟩ := hE f _ hf
      simp only [bd] at hbf
      refine ⟨hb, hbf, ?_⟩
      have e1 : c.args.map ρ = (xs.map (conc θ)).toArray := by apply Array.toList_inj.1; rw [Array.toList_map, he]
      simp only [resolve, hc, hf', conc, Deferred.ofValue, Sem.run_bind, Sem.run_pure, Result.andThen, invoke, e1]
      congr 2
      simp
    · trivial
  · trivial
theorem xmem_ok (hT : ∀ t i, tb.ty.get t = some i → TyOK P t i) (hK : ∀ t n, tb.keyEq.get t = some n → KeyOK P t n) (hR : R base θ h w) (hE : EvOK θ h.next ev ρ) (o : Oper) : XOK P base θ h w (execOp ρ o) (xmem tb h ev o) := by
  unfold xmem
  split <;> rename_i ho <;> first | trivial | (unfold execOp; simp only [ho])
  · exact (xAlloc_ok hT).xok hR
  · exact (xBox_ok hE).xok hR
  · exact xStore_ok hT hR hE
  · exact (xBuildSlice_ok hT hE).xok hR
  · exact xMakeSlice_ok hT hR hE
  · exact xMakeMap_ok.xok hR
  · exact xLookup_ok hT hK hR hE
  · exact xMapUpd_ok hT hK hR hE
  · exact xMapEntry_ok hT hK hR hE
  · exact xEntryStore_ok hR hE
  · exact xSliceE_ok hT hR hE
  · rename_i c
    unfold xCall
    split
    · rename_i hc
      have := xAppend_ok (P := P) (ty := o.type) hT hR hE (args := c.args) (ts := c.argTypes)
      have e : ∀ K : Next → Sem Next, ((do let d ← resolve ρ c o.type; invoke d.target d.args) : Sem Next).run P w = (do pure (Next.value (← Builtin.append_ c.argTypes o.type (c.args.map ρ))) : Sem Next).run P w := fun _ => by
        simp only [resolve, hc, invoke, builtin, Sem.run_bind, Sem.run_pure, Result.andThen]
      generalize hX : xAppend tb h ev c.args c.argTypes = X at this ⊢
      cases X with
      | val v h' => simp only [XOK] at this ⊢; rw [e pure]; exact this
      | skip h' => simp only [XOK] at this ⊢; rw [e pure]; exact this
      | enter f args => simp only [XOK] at this ⊢; rw [e pure]; exact this
      | round id args => simp only [XOK] at this ⊢; rw [e pure]; exact this
      | no => trivial
    · rename_i f hc
      exact xEnter_ok hE hc
    · trivial
end
end PartOfUh
section PartOfUi
open Go Go.RowKit
abbrev FW (rd : Option Nat) : Fence := { Fence.wide with round := rd }
theorem FW_fn (rd : Option Nat) (f : FuncId) : (FW rd).fn f := trivial
theorem FW_depth (rd : Option Nat) : (FW rd).depth = none := rfl
theorem FW_calls {rd : Option Nat} {n : Nat} {P : Program} {f : FuncId} {args : Array Value} {w : World} {R : Ending → World → Prop} (h : CallsIn (FW none) n P f args w R) : CallsIn (FW rd) n P f args w R := h
noncomputable def concD (θ : Th) : AD → Deferred
  | .col id => { target := .collected (θ id).b, args := #[] }
  | .call f cap args => { target := .fn (.func f) (cap.map (conc θ)).toArray, args := (args.map (conc θ)).toArray }
def bdD (θ : Th) (n : Nat) : AD → Prop
  | .col id => id < n
  | .call _ cap args => bdl θ n cap ∧ bdl θ n args
theorem bdD_ext {θ θ' : Th} {n m : Nat} (he : Ext θ θ' n) (hn : n ≤ m) {d : AD} (h : bdD θ n d) : bdD θ' m d := by
  cases d with
  | col id => exact Nat.lt_of_lt_of_le h hn
  | call f cap args => exact ⟨bdl_ext he hn h.1, bdl_ext he hn h.2⟩
theorem concD_ext {θ θ' : Th} {n : Nat} (he : Ext θ θ' n) {d : AD} (h : bdD θ n d) : concD θ' d = concD θ d := by
  cases d with
  | col id => simp only [concD, he id h]
  | call f cap args => simp only [concD, concl_ext he h.1, concl_ext he h.2]
structure AOK (θ : Th) (n : Nat) (A : AA) (a : Act) : Prop where
  size : a.tmps.size = A.n
  kt : KT θ n A.t a.tmps
  ds : a.defers = A.ds.map (concD θ)
  bds : ∀ d ∈ A.ds, bdD θ n d
theorem AOK.ext {θ θ' : Th} {n m : Nat} {A : AA} {a : Act} (h : AOK θ n A a) (he : Ext θ θ' n) (hn : n ≤ m) : AOK θ' m A a :=
  ⟨h.size, h.kt.ext he hn, by rw [h.ds]; exact (List.map_congr_left fun d hd => concD_ext he (h.bds d hd)).symm, fun d hd => bdD_ext he hn (h.bds d hd)⟩
theorem AOK.ev {θ : Th} {n : Nat} {A : AA} {a : Act} (h : AOK θ n A a) : EvOK θ n A.ev a.eval := fun x v hv => by
  cases x with
  | tmp t =>
    obtain ⟨b, e⟩ := h.kt t v hv
    exact ⟨b, by simp [Act.eval, e]⟩
  | const v' => simp only [AA.ev, Option.some.injEq] at hv; subst hv; exact ⟨by simp [bd], by simp [Act.eval, conc]⟩
  | global g => simp [AA.ev] at hv
  | func f => simp only [AA.ev, Option.some.injEq] at hv; subst hv; exact ⟨by simp [bd], by simp [Act.eval, conc]⟩
theorem AOK.put {θ : Th} {n : Nat} {A A' : AA} {a : Act} (h : AOK θ n A a) {dst : Option Tmp} {v : AV} (hp : A.put dst v = some A') (hv : bd θ n v) : AOK θ n A' (a.put dst (conc θ v)) := by
  cases dst with
  | none => simp only [AA.put, Option.some.injEq] at hp; subst hp; exact h
  | some d =>
    obtain ⟨t, m, ds⟩ := A
    simp only [AA.put] at hp
    cases hb : (Nat.blt d 1024 && Nat.blt d m) with
    | false => rw [hb] at hp; cases hp
    | true =>
      rw [hb] at hp
      simp only [cond_true, Option.some.injEq] at hp
      subst hp
      simp only [Bool.and_eq_true] at hb
      have h1 : d < 1024 := Nat.le_of_ble_eq_true hb.1
      have h2 : d < m := Nat.le_of_ble_eq_true hb.2
      exact ⟨by simp [Act.put]; exact h.size, h.kt.set hv h1 (by rw [h.size]; exact h2), h.ds, h.bds⟩
noncomputable def concE : AExit → Exit
  | .norm => .normal
  | .exit id => .exit id
  | .goto l => .goto l
  | .ret => .ret
def rdB (θ : Th) (rd : Option Nat) : Option Nat := rd.map fun l => (θ l).b
def Behind (base : Bs) (θ : Th) (h : AH) (w : World) (e : AExit) (A' : AA) (h' : AH) : Exit → Act → World → Prop :=
  fun ex a' w' => ex = concE e ∧ ∃ θ', Post base θ h w θ' h' w' ∧ AOK θ' h'.next A' a'
def Sound (P : Program) (base : Bs) (rec : Rec) : Prop :=
  ∀ c rd A h e A' h', rec c rd A h = .ok e A' h' → (All h'.sc → All h.sc) ∧ (All h'.sc → ∀ θ a w, R base θ h w → AOK θ h.next A a → (∀ l, rd = some l → l < h.next) →
    c.wpIn (FW (rdB θ rd)) 0 P (Behind base θ h w e A' h') a w)
def EnterOK (P : Program) (f : FuncId) : Prop := ∀ args w, (callFunc f args).run P w = .ok (.enter f args) w
def All2 {α β : Type} (r : α → β → Prop) : List α → List β → Prop
  | [], [] => True
  | a :: l, b :: m => r a b ∧ All2 r l m
  | _, _ => False
theorem All2.mono {α β : Type} {r r' : α → β → Prop} (hr : ∀ a b, r a b → r' a b) : ∀ {l : List α} {m : List β}, All2 r l m → All2 r' l m
  | [], [], _ => trivial
  | a :: l, b :: m, h => ⟨hr a b h.1, All2.mono hr h.2⟩
  | [], _ :: _, h => h.elim
  | _ :: _, [], h => h.elim
def Reads1 (w : World) (lo : Nat) (v : Value) : GV → Prop
  | .lit u => v = u
  | .sb b => v = .bool b
  | .rows _ sz n f => ∃ A c, v = .slice A n c ∧ n ≤ c ∧ c ≤ maxLen ∧ (0 < n → ∃ b o, A = some ⟨b, o, none⟩ ∧ lo ≤ b ∧ b < w.heap.size ∧ ∀ k j, k < n → j < sz → w.cell? ⟨b, o + (k * sz + j), none⟩ = some (.int .i64 (f k j)))
  | _ => False
def ReadsA (w : World) (lo : Nat) (v : Value) : GV → Prop
  | .agg gs => ∃ vs : List Value, v = .agg vs.toArray ∧ All2 (Reads1 w lo) vs gs
  | g => Reads1 w lo v g
def Reads (w : World) (lo : Nat) (v : Value) : GV → Prop
  | .tup gs => ∃ vs : List Value, v = .tuple vs.toArray ∧ All2 (ReadsA w lo) vs gs
  | g => ReadsA w lo v g
def FnSpec (P : Program) (f : FuncId) (F : List GV → Option (GV × List Prop)) : Prop :=
  EnterOK P f ∧ ∀ (w : World) (vs : List Value) (gs : List GV) (g : GV) (ps : List Prop), All2 (ReadsA w 0) vs gs → F gs = some (g, ps) → All ps →
    Calls P f vs.toArray w fun e w' => ∃ v, e = .returned v ∧ Reads w' w.heap.size v g ∧ Below w.heap.size w w'
structure TabOK (P : Program) (tb : Tab) (base : Bs) : Prop where
  mixed : P.follows .mixedOrders = true
  ty : ∀ t i, tb.ty.get t = some i → TyOK P t i
  key : ∀ t n, tb.keyEq.get t = some n → KeyOK P t n
  pair : ∀ t n, tb.eqs.get t = some n → PairOK P t n
  fn : ∀ f fn, tb.fn.get f = some fn → P.funcs[f]? = some fn ∧ EnterOK P f
  sp : ∀ f F, tb.sp.get f = some F → FnSpec P f F
  dnat : ∀ f g, tb.dnat.get f = some g → EnterOK P f ∧ ∀ h args h', g h args = some h' → (All h'.sc → All h.sc) ∧ (All h'.sc → ∀ θ w, R base θ h w → bdl θ h.next args →
    CallsDIn (FW none) 0 P f (args.map (conc θ)).toArray .returning w fun e u' w' => (∃ v, e = .returned v) ∧ settle u' = .returning ∧ ∃ θ', Post base θ h w θ' h' w')
def CallOK (P : Program) (base : Bs) (θ : Th) (h : AH) (w : World) (v : AV) (h' : AH) : Ending → World → Prop :=
  fun e w' => ∃ θ', e = .returned (conc θ' v) ∧ bd θ' h'.next v ∧ Post base θ h w θ' h' w'
section
variable {P : Program} {tb : Tab} {rec : Rec} {θ : Th} {base : Bs} {h : AH} {w : World}
theorem args0_get : ∀ (l : List AV) (i : Nat) (t : T AV) (j : Nat), i + l.length ≤ 1024 → (args0 l i t).get j = if i ≤ j ∧ j < i + l.length then l[j - i]? else t.get j
  | [], i, t, j, h => by simp [args0]; omega
  | v :: vs, i, t, j, h => by
    simp only [args0, List.length_cons] at h ⊢
    rw [args0_get vs (i + 1) _ j (by omega)]
    by_cases hj : j = i
    · subst hj
      rw [if_neg (by omega), if_pos (by omega), T.get_set_same _ 11 t j (by omega)]
      simp
    · rw [T.get_set_other _ 11 t i j hj]
      by_cases hc : i + 1 ≤ j ∧ j < i + 1 + vs.length
      · rw [if_pos hc, if_pos (by omega), show j - i = (j - (i + 1)) + 1 by omega]
        simp
      · rw [if_neg hc, if_neg (by omega)]
theorem apart_load {t : TypeId} {i : TyI} (hTi : TyOK P t i) {n id off : Nat} {cs : List AV} {el : TypeId} {row : Option Nat} (hok : OOK θ n id (.cells cs el row) w) {v : AV} (hx : apart i.agg cs off i.size = some v) :
    bd θ n v ∧ (loadVar t ⟨(θ id).b, off, none⟩).run P w = .ok (conc θ v) w := by
  have hb : bdl θ n cs := hok.1
  unfold apart at hx
  unfold loadVar
  rw [Sem.run_bind, run_isAgg' hTi w]
  cases ha : i.agg with
  | true =>
    rw [ha] at hx
    simp only [if_true] at hx
    split at hx
    · rename_i hle
      cases hx
      refine ⟨?_, ?_⟩
      · simp only [bd]; exact fun x hx => hb x (List.mem_of_mem_drop (List.mem_of_mem_take hx))
      · have hl : (loadCells ⟨(θ id).b, off, none⟩ (((cs.drop off).take i.size).map (conc θ)).length).run P w = .ok (((cs.drop off).take i.size).map (conc θ)).toArray w :=
          run_loadCells_list (P := P) w _ _ fun j u hu => by
            rw [List.getElem?_map] at hu
            obtain ⟨x, hx, rfl⟩ := map_some hu
            rw [List.getElem?_take] at hx
            split at hx
            · rw [List.getElem?_drop] at hx
              rw [add_plain']
              exact hok.cell hx
            · cases hx
        have hlen : (((cs.drop off).take i.size).map (conc θ)).length = i.size := by simp; omega
        rw [hlen] at hl
        simp [Result.andThen, Sem.run_bind, run_size hTi w, hl, conc]
    · cases hx
  | false =>
    rw [ha] at hx
    simp only [Bool.false_eq_true, if_false] at hx
    refine ⟨hb v (List.mem_of_getElem? hx), ?_⟩
    have := hok.cell hx
    simp [Result.andThen, load, Sem.run, this]
def resv (tmps : Array Value) : ResultVar → Sem Value
  | .tmp t => pure (tmps.getD t undef)
  | .cell a t => do loadVar t (← asAddr (tmps.getD a undef))
theorem results_eq (fn : Func) (tmps : Array Value) : results fn tmps = (do let vs ← fn.results.mapM (resv tmps); pure (if h : vs.size = 1 then vs[0] else .tuple vs)) := by
  unfold results
  rfl
theorem aresults_ok (hT : ∀ t i, tb.ty.get t = some i → TyOK P t i) (hR : R base θ h w) {A : AA} {tmps : Array Value} (hk : KT θ h.next A.t tmps) : ∀ {rs : List ResultVar} {vs : List AV}, aresults h A tb rs = some vs →
    bdl θ h.next vs ∧ (rs.mapM (resv tmps)).run P w = .ok (vs.map (conc θ)) w
  | [], vs, hx => by cases hx; exact ⟨fun x hx => (by cases hx), rfl⟩
  | r :: rs, vs, hx => by
    simp only [aresults] at hx
    cases h1 : aresult h A tb r with
    | none => rw [h1] at hx; cases hx
    | some v =>
      cases h2 : aresults h A tb rs with
      | none => rw [h1, h2] at hx; cases hx
      | some us =>
        rw [h1, h2] at hx
        cases hx
        obtain ⟨c, d⟩ := aresults_ok hT hR hk h2
        have hv : bd θ h.next v ∧ (resv tmps r).run P w = .ok (conc θ v) w := by
          cases r with
          | tmp t =>
            obtain ⟨a, b⟩ := hk t v h1
            exact ⟨a, by simp [resv, b]⟩
          | cell a t =>
            simp only [aresult] at h1
            split at h1
            · rename_i i id off hi ha
              split at h1
              · rename_i cs el row hm
                obtain ⟨_, e⟩ := hk a _ ha
                obtain ⟨p, q⟩ := apart_load (hT t i hi) (hR.obj id _ hm).2.2 h1
                exact ⟨p, by simp [resv, e, conc, asAddr, Sem.run_bind, Result.andThen, q]⟩
              · cases h1
            · cases h1
        refine ⟨fun y hy => ?_, ?_⟩
        · rcases List.mem_cons.1 hy with rfl | hy
          · exact hv.1
          · exact c y hy
        · rw [List.mapM_cons, Sem.run_bind, hv.2]
          simp only [Result.andThen, Sem.run_bind, d, Sem.run_pure, List.map_cons]
theorem gv1_ok (hR : R base θ h w) {v : AV} {g : GV} {ps : List Prop} (hb : bd θ h.next v) (hx : gv1 h v = some (g, ps)) (hs : All ps) : Reads1 w 0 (conc θ v) g := by
  unfold gv1 at hx
  split at hx
  · split at hx
    · cases hx; exact ⟨none, 0, by simp [conc], Nat.le_refl _, Nat.zero_le _, fun h => absurd h (by omega)⟩
    · cases hx; simp [conc, Reads1]
  · cases hx; simp [conc, Reads1]
  · rename_i id n
    have key : ∀ {sz n' : Nat} {f : Nat → Nat → Int} {el : TypeId}, rowAt h id = some (sz, n', f) → n ≤ n' → Reads1 w 0 (conc θ (.isl id n)) (.rows el sz n f) := fun {sz n' f el} hr hle => by
      obtain ⟨a, b, c, d, e⟩ := rowAt_ok hR hr
      refine ⟨(θ id).a, (θ id).c, by simp [conc], by omega, d, fun h0 => ⟨(θ id).b, (θ id).o, e (by omega), Nat.zero_le _, ?_, fun k j hk hj => b k j (by omega) hj⟩⟩
      unfold rowAt at hr
      split at hr <;> try (cases hr; done)
      · rename_i hm; exact (hR.obj id _ hm).2.2.lt
      · split at hr <;> try (cases hr; done)
        rename_i r hm; cases hr; exact (hR.rom id _ hm).2.1.lt (by omega)
    split at hx
    · rename_i el sz n' f hm
      cases hx
      exact key (by unfold rowAt; rw [hm]) hs.1.p
    · cases hx
    · rename_i hm
      split at hx
      · rename_i r hr
        cases hx
        exact key (by unfold rowAt; rw [hm]; simp only [hr]) hs.1.p
      · cases hx
  · cases hx
theorem gvl_ok {gv : AV → Option (GV × List Prop)} {r : Value → GV → Prop} (hg : ∀ v g ps, bd θ h.next v → gv v = some (g, ps) → All ps → r (conc θ v) g) : ∀ {l : List AV} {gs : List GV} {ps : List Prop}, gvl gv l = some (gs, ps) → bdl θ h.next l → All ps → All2 r (l.map (conc θ)) gs
  | [], gs, ps, hx, _, _ => by cases hx; trivial
  | v :: vs, gs, ps, hx, hb, hs => by
    simp only [gvl] at hx
    split at hx <;> try (cases hx; done)
    rename_i x qs h1
    split at hx <;> try (cases hx; done)
    rename_i xs rs h2
    cases hx
    have hs' := All.append.1 hs
    exact ⟨hg v x qs (hb v (by simp)) h1 hs'.1, gvl_ok hg h2 (fun y hy => hb y (by simp [hy])) hs'.2⟩
theorem gvA_ok (hR : R base θ h w) {v : AV} {g : GV} {ps : List Prop} (hb : bd θ h.next v) (hx : gvA h v = some (g, ps)) (hs : All ps) : ReadsA w 0 (conc θ v) g := by
  unfold gvA at hx
  split at hx
  · split at hx <;> try (cases hx; done)
    rename_i cs _ xs qs h1
    cases hx
    simp only [bd] at hb
    exact ⟨cs.map (conc θ), by simp only [conc], gvl_ok (fun v g ps hb hx hs => gv1_ok hR hb hx hs) h1 hb hs⟩
  · have := gv1_ok hR hb hx hs
    cases g <;> first | exact this | exact this.elim
theorem gvs_ok (hR : R base θ h w) {l : List AV} {gs : List GV} {ps : List Prop} (hb : bdl θ h.next l) (hx : gvs h l = some (gs, ps)) (hs : All ps) : All2 (ReadsA w 0) (l.map (conc θ)) gs :=
  gvl_ok (fun v g ps hb hx hs => gvA_ok hR hb hx hs) hx hb hs
structure LdOK (base : Bs) (lo : Nat) (θ : Th) (h : AH) (w : World) (θ' : Th) (h' : AH) : Prop where
  ext : Ext θ θ' h.next
  next : h.next ≤ h'.next
  r : R base θ' h' w
  m : h'.m = h.m
  sc : h'.sc = h.sc
  own : ∀ id r, h'.ro.get id = some r → 0 < r.n → (∃ id0 r0, h.ro.get id0 = some r0 ∧ 0 < r0.n ∧ (θ id0).b = (θ' id).b) ∨ lo ≤ (θ' id).b
theorem LdOK.refl {lo : Nat} (hR : R base θ h w) : LdOK base lo θ h w θ h := ⟨Ext.refl _ _, Nat.le_refl _, hR, rfl, rfl, fun id r hg h0 => .inl ⟨id, r, hg, h0, rfl⟩⟩
theorem LdOK.trans {lo : Nat} {θ' θ'' : Th} {h' h'' : AH} (p : LdOK base lo θ h w θ' h') (q : LdOK base lo θ' h' w θ'' h'') : LdOK base lo θ h w θ'' h'' := by
  refine ⟨p.ext.trans q.ext p.next, Nat.le_trans p.next q.next, q.r, q.m.trans p.m, q.sc.trans p.sc, fun id r hg h0 => ?_⟩
  rcases q.own id r hg h0 with ⟨id1, r1, h1, h1n, e⟩ | e
  · rcases p.own id1 r1 h1 h1n with ⟨id0, r0, h2, h2n, e'⟩ | e'
    · exact .inl ⟨id0, r0, h2, h2n, e'.trans e⟩
    · right; rw [← e]; exact e'
  · exact .inr e
theorem ldRow_ok {lo : Nat} {fr : Bool} (hfr : fr = true → base ≤ lo) (hR : R base θ h w) (hlo : ∀ id o, h.m.get id = some o → (θ id).b < lo ∨ lo = 0) (hlo0 : lo = 0 → ∀ id o, h.m.get id ≠ some o) {el : TypeId} {sz n : Nat} {f : Nat → Nat → Int} {v : Value} (hv : Reads1 w lo v (.rows el sz n f)) {a : AV} {h' : AH} (hx : ldRow fr el sz n f h = some (a, h')) :
    ∃ θ', LdOK base lo θ h w θ' h' ∧ bd θ' h'.next a ∧ conc θ' a = v := by
  unfold ldRow at hx
  split at hx <;> try (cases hx; done)
  rename_i h1 ha
  obtain ⟨m, next, ro, sc, orc⟩ := h
  cases hx
  obtain ⟨q0, q1, q2, q3, q4⟩ := AH.addRO_spec ha
  simp only at q0 q1 q2 q3 q4
  obtain ⟨A, c, rfl, hle, hcap, hcell⟩ := hv
  obtain ⟨b, hb⟩ : ∃ b, 0 < n → ∃ o, A = some ⟨b, o, none⟩ ∧ lo ≤ b ∧ b < w.heap.size ∧ ∀ k j, k < n → j < sz → w.cell? ⟨b, o + (k * sz + j), none⟩ = some (.int .i64 (f k j)) := by
    rcases Nat.eq_zero_or_pos n with h | h
    · exact ⟨0, fun h' => by omega⟩
    · obtain ⟨b, o, hh⟩ := hcell h; exact ⟨b, fun _ => ⟨o, hh⟩⟩
  have hE := upd_ext θ next ⟨b, c, A⟩
  have hsame := upd_same θ next ⟨b, c, A⟩
  have hrow : ROK base (upd θ next ⟨b, c, A⟩) next ⟨fr, el, sz, n, f⟩ w := by
    refine ⟨by rw [hsame]; exact hle, by rw [hsame]; exact hcap, fun h0 => ?_, fun k j hk hj => ?_, fun h0 hf => ?_, fun h0 => ?_⟩
    · obtain ⟨o, h1, _⟩ := hb h0; rw [hsame]; exact ⟨o, h1⟩
    · obtain ⟨o, h1, _, _, h4⟩ := hb (by simp only at hk; omega)
      rw [hsame]; simp only [Ref.o, h1]; exact h4 k j hk hj
    · obtain ⟨o, h1, h2, _⟩ := hb h0; rw [hsame]; exact Nat.le_trans (hfr hf) h2
    · obtain ⟨o, h1, _, h3, _⟩ := hb h0; rw [hsame]; exact h3
  refine ⟨upd θ next ⟨b, c, A⟩, ⟨hE, by simp only [q2]; omega, ?_, q1, q4, fun id r hg h0 => ?_⟩, by simp only [bd, q2, hsame]; exact ⟨by omega, fun h0 => by obtain ⟨o, h1, _⟩ := hb h0; simp [Ref.o, h1]⟩, by simp only [conc, hsame]⟩
  · refine ⟨fun id o hg => ?_, fun id id' o o' g1 g2 hne => ?_, hR.size, hR.b0, fun id r hg => ?_⟩
    · rw [q1] at hg
      obtain ⟨x, y, z⟩ := hR.obj id o hg
      simp only at x
      exact ⟨by omega, by rw [hE id x]; exact y, by rw [q2]; exact z.ext hE (Nat.le_succ _) x rfl⟩
    · rw [q1] at g1 g2
      rw [hE id (hR.obj id o g1).1, hE id' (hR.obj id' o' g2).1]
      exact hR.inj id id' o o' g1 g2 hne
    · rw [q3] at hg
      by_cases hid : id = next
      · subst hid
        rw [T.get_set_same _ 41 _ _ (by omega)] at hg
        cases hg
        refine ⟨by omega, hrow, fun h0 id' o hg' => ?_⟩
        rw [q1] at hg'
        rw [hsame, hE id' (hR.obj id' o hg').1]
        obtain ⟨o2, h1, h2, _⟩ := hb h0
        rcases hlo id' o hg' with hl | hl
        · simp only; omega
        · exact absurd hg' (hlo0 hl id' o)
      · rw [T.get_set_other _ 41 _ _ _ hid] at hg
        obtain ⟨x, y, z⟩ := hR.rom id r hg
        simp only at x
        refine ⟨by omega, y.keep (hE id x) (fun _ => rfl) (Nat.le_refl _), fun h0 id' o hg' => ?_⟩
        rw [q1] at hg'
        rw [hE id x, hE id' (hR.obj id' o hg').1]
        exact z h0 id' o hg'
  · rw [q3] at hg
    by_cases hid : id = next
    · subst hid
      rw [T.get_set_same _ 41 _ _ (by omega)] at hg
      cases hg
      obtain ⟨o, h1, h2, _⟩ := hb h0
      right; rw [hsame]; exact h2
    · rw [T.get_set_other _ 41 _ _ _ hid] at hg
      exact .inl ⟨id, r, hg, h0, by rw [hE id (hR.rom id r hg).1]⟩
structure LoOK (base : Bs) (lo : Nat) (fr : Bool) (θ : Th) (h : AH) : Prop where
  p1 : fr = true → base ≤ lo
  p2 : ∀ id o, h.m.get id = some o → (θ id).b < lo ∨ lo = 0
  p3 : lo = 0 → ∀ id o, h.m.get id ≠ some o
theorem LoOK.ld {lo : Nat} {fr : Bool} {θ' : Th} {h' : AH} (p : LoOK base lo fr θ h) (hR : R base θ h w) (q : LdOK base lo θ h w θ' h') : LoOK base lo fr θ' h' :=
  ⟨p.p1, fun id o hg => by rw [q.m] at hg; rw [q.ext id (hR.obj id o hg).1]; exact p.p2 id o hg, fun h0 id o => by rw [q.m]; exact p.p3 h0 id o⟩
theorem ld1_ok {lo : Nat} {fr : Bool} (hL : LoOK base lo fr θ h) (hR : R base θ h w) {g : GV} {v : Value} (hv : Reads1 w lo v g) {a : AV} {h' : AH} (hx : ld1 fr g h = some (a, h')) : ∃ θ', LdOK base lo θ h w θ' h' ∧ bd θ' h'.next a ∧ conc θ' a = v := by
  unfold ld1 at hx
  split at hx
  · cases hx; exact ⟨θ, LdOK.refl hR, by simp [bd], by simp only [conc]; exact hv.symm⟩
  · cases hx; exact ⟨θ, LdOK.refl hR, by simp [bd], by simp only [conc]; exact hv.symm⟩
  · exact ldRow_ok hL.p1 hR hL.p2 hL.p3 hv hx
  · cases hx
theorem ldl_ok {lo : Nat} {fr : Bool} {ld : GV → AH → Option (AV × AH)} {r : Value → GV → Prop} (hl : ∀ {θ : Th} {h : AH}, LoOK base lo fr θ h → R base θ h w → ∀ {g : GV} {v : Value}, r v g → ∀ {a : AV} {h' : AH}, ld g h = some (a, h') → ∃ θ', LdOK base lo θ h w θ' h' ∧ bd θ' h'.next a ∧ conc θ' a = v) :
    ∀ {gs : List GV} {vs : List Value} {θ : Th} {h : AH}, LoOK base lo fr θ h → R base θ h w → All2 r vs gs → ∀ {l : List AV} {h' : AH}, ldl ld gs h = some (l, h') → ∃ θ', LdOK base lo θ h w θ' h' ∧ bdl θ' h'.next l ∧ l.map (conc θ') = vs
  | [], [], θ, h, hL, hR, hv, l, h', hx => by cases hx; exact ⟨θ, LdOK.refl hR, (fun x hx => by cases hx), rfl⟩
  | [], _ :: _, θ, h, hL, hR, hv, l, h', hx => hv.elim
  | _ :: _, [], θ, h, hL, hR, hv, l, h', hx => hv.elim
  | g :: gs, v :: vs, θ, h, hL, hR, hv, l, h', hx => by
    simp only [ldl] at hx
    split at hx <;> try (cases hx; done)
    rename_i a h1 hx1
    split at hx <;> try (cases hx; done)
    rename_i as' h2 hx2
    cases hx
    obtain ⟨θ1, p1, p2, p3⟩ := hl hL hR hv.1 hx1
    obtain ⟨θ2, q1, q2, q3⟩ := ldl_ok hl (hL.ld hR p1) p1.r hv.2 hx2
    refine ⟨θ2, p1.trans q1, fun y hy => ?_, ?_⟩
    · rcases List.mem_cons.1 hy with rfl | hy
      · exact bd_ext q1.ext q1.next _ p2
      · exact q2 y hy
    · simp only [List.map_cons, q3, conc_ext q1.ext _ p2, p3]
theorem ldA_ok {lo : Nat} {fr : Bool} (hL : LoOK base lo fr θ h) (hR : R base θ h w) {g : GV} {v : Value} (hv : ReadsA w lo v g) {a : AV} {h' : AH} (hx : ldA fr g h = some (a, h')) : ∃ θ', LdOK base lo θ h w θ' h' ∧ bd θ' h'.next a ∧ conc θ' a = v := by
  unfold ldA at hx
  split at hx
  · split at hx <;> try (cases hx; done)
    rename_i gs xs h1 hx1
    cases hx
    obtain ⟨vs, rfl, h2⟩ := hv
    obtain ⟨θ', p1, p2, p3⟩ := ldl_ok (ld := ld1 fr) (r := Reads1 w lo) (fun {_ _} hL hR {_ _} hv {_ _} hx => ld1_ok hL hR hv hx) hL hR h2 hx1
    exact ⟨θ', p1, by simp only [bd]; exact p2, by simp only [conc, p3]⟩
  · rename_i hne
    refine ld1_ok hL hR ?_ hx
    cases g <;> first | exact hv | exact absurd rfl (hne _)
theorem lds_ok {lo : Nat} {fr : Bool} (hL : LoOK base lo fr θ h) (hR : R base θ h w) {gs : List GV} {vs : List Value} (hv : All2 (ReadsA w lo) vs gs) {l : List AV} {h' : AH} (hx : lds fr gs h = some (l, h')) : ∃ θ', LdOK base lo θ h w θ' h' ∧ bdl θ' h'.next l ∧ l.map (conc θ') = vs :=
  ldl_ok (ld := ldA fr) (r := ReadsA w lo) (fun {_ _} hL hR {_ _} hv {_ _} hx => ldA_ok hL hR hv hx) hL hR hv hx
theorem ld_ok {lo : Nat} {fr : Bool} (hL : LoOK base lo fr θ h) (hR : R base θ h w) {g : GV} {v : Value} (hv : Reads w lo v g) {a : AV} {h' : AH} (hx : ld fr g h = some (a, h')) : ∃ θ', LdOK base lo θ h w θ' h' ∧ bd θ' h'.next a ∧ conc θ' a = v := by
  unfold ld at hx
  split at hx
  · split at hx <;> try (cases hx; done)
    rename_i gs xs h1 hx1
    cases hx
    obtain ⟨vs, rfl, h2⟩ := hv
    obtain ⟨θ', p1, p2, p3⟩ := lds_ok hL hR h2 hx1
    exact ⟨θ', p1, by simp only [bd]; exact p2, by simp only [conc, p3]⟩
  · rename_i hne
    refine ldA_ok hL hR ?_ hx
    cases g <;> first | exact hv | exact absurd rfl (hne _)
theorem ldl_sc {ld : GV → AH → Option (AV × AH)} (hl : ∀ g h a h', ld g h = some (a, h') → h'.sc = h.sc) : ∀ {gs : List GV} {h h' : AH} {l : List AV}, ldl ld gs h = some (l, h') → h'.sc = h.sc
  | [], h, h', l, hx => by cases hx; rfl
  | g :: gs, h, h', l, hx => by
    simp only [ldl] at hx
    split at hx <;> try (cases hx; done)
    rename_i a h1 hx1
    split at hx <;> try (cases hx; done)
    rename_i as' h2 hx2
    cases hx
    exact (ldl_sc hl hx2).trans (hl _ _ _ _ hx1)
theorem ld1_sc {fr : Bool} {g : GV} {h h' : AH} {a : AV} (hx : ld1 fr g h = some (a, h')) : h'.sc = h.sc := by
  unfold ld1 at hx
  split at hx
  · cases hx; rfl
  · cases hx; rfl
  · unfold ldRow at hx
    split at hx <;> try (cases hx; done)
    rename_i h1 ha
    have := (AH.addRO_spec ha).2.2.2.2
    obtain ⟨m, next, ro, sc, orc⟩ := h
    cases hx; exact this
  · cases hx
theorem ldA_sc {fr : Bool} {g : GV} {h h' : AH} {a : AV} (hx : ldA fr g h = some (a, h')) : h'.sc = h.sc := by
  unfold ldA at hx
  split at hx
  · split at hx <;> try (cases hx; done)
    rename_i gs xs h1 hx1
    cases hx
    exact ldl_sc (fun _ _ _ _ h => ld1_sc h) hx1
  · exact ld1_sc hx
theorem ld_sc {fr : Bool} {g : GV} {h h' : AH} {a : AV} (hx : ld fr g h = some (a, h')) : h'.sc = h.sc := by
  unfold ld at hx
  split at hx
  · split at hx <;> try (cases hx; done)
    rename_i gs xs h1 hx1
    cases hx
    exact ldl_sc (fun _ _ _ _ h => ldA_sc h) hx1
  · exact ldA_sc hx
theorem leaves_sc (hB : TabOK P tb base) : ∀ {ds : List AD} {h h' : AH}, leaves tb ds h = some h' → All h'.sc → All h.sc
  | [], h, h', hl, hs => by cases hl; exact hs
  | .col id :: ds, h, h', hl, hs => by
    simp only [leaves] at hl
    split at hl <;> try (cases hl; done)
    split at hl <;> try (cases hl; done)
    rename_i h1 hp
    have := leaves_sc hB hl hs
    rw [(AH.put_spec hp).2.2.2.2] at this; exact this
  | .call f cap args :: ds, h, h', hl, hs => by
    simp only [leaves] at hl
    split at hl <;> try (cases hl; done)
    rename_i g hg
    split at hl <;> try (cases hl; done)
    rename_i h1 hgr
    exact ((hB.dnat f g hg).2 h _ h1 hgr).1 (leaves_sc hB hl hs)
theorem leaves_ok (hB : TabOK P tb base) {fn : Func} {tmps : Array Value} {R' : Ending → World → Prop} : ∀ {ds : List AD} {h h' : AH} {θ : Th} {w : World}, leaves tb ds h = some h' → All h'.sc → R base θ h w → (∀ d ∈ ds, bdD θ h.next d) →
    (∀ θ' w', Post base θ h w θ' h' w' → ∃ v, (results fn tmps).run P w' = .ok v w' ∧ R' (.returned v) w') → LeavesInM (FW none) 0 P fn tmps R' (ds.map (concD θ)) .returning w
  | [], h, h', θ, w, hl, hs, hR, hb, hk => by
    cases hl
    exact hk θ w (Post.refl hR)
  | .col id :: ds, h, h', θ, w, hl, hs, hR, hb, hk => by
    simp only [leaves] at hl
    split at hl
    · rename_i hm
      split at hl
      · rename_i h1 hp
        obtain ⟨hidn, hbase, hok⟩ := hR.obj id _ hm
        have hheap : w.heap[(θ id).b]? = some (.deferred (some [])) := hok
        have hP : Post base θ h w θ h1 (w.putObj (θ id).b (.deferred none)) :=
          Post.put hR hm hp (fun k hk => World.putObj_heap_other hk) (by simp) (putObj_below hbase) (World.putObj_heap_same hok.lt)
        refine ⟨by simp, .inl ⟨(θ id).b, _, rfl, run_takeDeferred hheap, ?_⟩⟩
        exact leaves_ok hB hl hs hP.r (fun d hd => by have := hb d (by simp [hd]); rw [(AH.put_spec hp).2.2.1]; exact this) fun θ' w' hP' => hk θ' w' (hP.trans hP')
      · cases hl
    · cases hl
  | .call f cap args :: ds, h, h', θ, w, hl, hs, hR, hb, hk => by
    simp only [leaves] at hl
    split at hl
    · rename_i g hg
      split at hl
      · rename_i h1 hgr
        obtain ⟨hent, hc⟩ := hB.dnat f g hg
        have hbd : bdD θ h.next (.call f cap args) := hb _ (by simp)
        have hba : bdl θ h.next (args ++ cap) := fun y hy => by
          rcases List.mem_append.1 hy with hy | hy
          · exact hbd.2 y hy
          · exact hbd.1 y hy
        have hcall := (hc h (args ++ cap) h1 hgr).2 (leaves_sc hB hl hs) θ w hR hba
        have eargs : (args.map (conc θ)).toArray ++ (cap.map (conc θ)).toArray = ((args ++ cap).map (conc θ)).toArray := by simp
        refine ⟨by simp, .inr ⟨by simp [FW, Fence.wide], .func f, (cap.map (conc θ)).toArray, f, ((args ++ cap).map (conc θ)).toArray, rfl, ?_, fun _ _ => trivial, ?_⟩⟩
        · simp only [concD, invoke, eargs]
          exact hent _ _
        · refine CallsDIn.mono hcall fun e u' w' he => ?_
          obtain ⟨⟨v, rfl⟩, hu, θ', hP⟩ := he
          simp only [hu]
          have hrest := leaves_ok hB (θ := θ') (R' := R') (fn := fn) (tmps := tmps) hl hs hP.r (fun d hd => bdD_ext hP.ext hP.next (hb d (by simp [hd]))) fun θ'' w'' hP' => hk θ'' w'' (hP.trans hP')
          rw [List.map_congr_left fun d hd => concD_ext hP.ext (hb d (by simp [hd]))] at hrest
          exact hrest
      · cases hl
    · cases hl
theorem xcall_ok (hB : TabOK P tb base) (hS : Sound P base rec) {f : FuncId} {args : List AV} {v : AV} {h' : AH} (hx : xcall tb rec f args h = some (v, h')) :
    (All h'.sc → All h.sc) ∧ (All h'.sc → ∀ θ w, R base θ h w → bdl θ h.next args → EnterOK P f ∧ CallsIn (FW none) 0 P f (args.map (conc θ)).toArray w (CallOK P base θ h w v h')) := by
  unfold xcall at hx
  split at hx
  · rename_i F hF
    split at hx <;> try (cases hx; done)
    rename_i gs ps hg
    split at hx <;> try (cases hx; done)
    rename_i g qs hFg
    have hsc := ld_sc hx
    refine ⟨fun hs => (also_all.1 (by rw [← hsc]; exact hs)).2, fun hs θ w hR hb => ?_⟩
    have hs1 := (also_all.1 (show All (h.also (ps ++ qs)).sc by rw [← hsc]; exact hs)).1
    obtain ⟨hps, hqs⟩ := All.append.1 hs1
    obtain ⟨hent, hc⟩ := hB.sp f F hF
    refine ⟨hent, callsIn_wide.2 ((hc w _ gs g qs (gvs_ok hR hb hg hps) hFg hqs).mono fun e w' he => ?_)⟩
    obtain ⟨u, rfl, hu, hbel⟩ := he
    have hR' : R base θ (h.also (ps ++ qs)) w' := (hR.more hbel).same rfl rfl rfl
    have hL : LoOK base w.heap.size true θ (h.also (ps ++ qs)) := ⟨fun _ => hR.size, fun id o hg => .inl (hR.obj id o hg).2.2.lt, fun h0 id o hg => by have := (hR.obj id o hg).2.2.lt; omega⟩
    obtain ⟨θ', hld, hbv, hcv⟩ := ld_ok hL hR' hu hx
    refine ⟨θ', by rw [hcv], hbv, hld.ext, hld.next, hld.r, hbel.mono hR.size, fun k hk _ => hbel.block k hk, fun id o hg => ?_, fun id r hg h0 => hld.own id r hg h0⟩
    have hg' : h.m.get id = some o := by rw [hld.m] at hg; exact hg
    exact .inl ⟨id, o, hg', by rw [hld.ext id (hR.obj id o hg').1]⟩
  · split at hx <;> try (cases hx; done)
    rename_i fn hfn
    split at hx <;> try (cases hx; done)
    rename_i c hc
    split at hx <;> try (cases hx; done)
    rename_i hlen
    obtain ⟨hl1, hl2⟩ := hlen
    split at hx <;> try (cases hx; done)
    rename_i e A h1 hrec
    split at hx <;> try (cases hx; done)
    rename_i he
    split at hx <;> try (cases hx; done)
    rename_i h2 hlv
    have hh : h2 = h' := by
      split at hx <;> first | (cases hx; rfl) | (cases hx; done)
    have hS1 := hS c none _ h e A h1 hrec
    refine ⟨fun hs => hS1.1 (leaves_sc hB hlv (by rw [hh]; exact hs)), fun hs θ w hR hb => ?_⟩
    have hs2 : All h2.sc := by rw [hh]; exact hs
    have hs1 := leaves_sc hB hlv hs2
    obtain ⟨hpf, hent⟩ := hB.fn f fn hfn
    refine ⟨hent, callsIn_of_wp_marks hpf hc trivial ?_⟩
    have hA0 : AOK θ h.next { t := args0 args 0 .e, n := fn.ntmps, ds := [] } { tmps := (args.map (conc θ)).toArray ++ Array.replicate (fn.ntmps - (args.map (conc θ)).toArray.size) undef, defers := [] } := by
      refine ⟨by simp; omega, fun i u hu => ?_, rfl, fun d hd => by cases hd⟩
      rw [args0_get args 0 .e i (by omega)] at hu
      split at hu
      · rename_i hi
        simp only [Nat.sub_zero] at hu
        refine ⟨hb u (List.mem_of_getElem? hu), ?_⟩
        simp only [Array.getElem?_append]
        rw [if_pos (by simp; omega)]
        simp [hu]
      · cases hu
    refine wpIn_mono (hS1.2 hs1 θ _ w hR hA0 (by simp)) fun ex a' w' hbe => ?_
    obtain ⟨hex, θ1, hP, hA⟩ := hbe
    have key : LeavesInM (FW none) 0 P fn a'.tmps (CallOK P base θ h w v h') a'.defers .returning w' := by
      rw [hA.ds]
      refine leaves_ok hB hlv hs2 hP.r hA.bds fun θ' w'' hP' => ?_
      have hA' := hA.ext hP'.ext hP'.next
      cases hr : aresults h2 A tb fn.results.toList with
      | none => rw [hr] at hx; cases hx
      | some vs =>
        rw [hr] at hx
        obtain ⟨hbv, hrun⟩ := aresults_ok hB.ty hP'.r hA'.kt hr
        have hres : (results fn a'.tmps).run P w'' = .ok (if h : (vs.map (conc θ')).toArray.size = 1 then (vs.map (conc θ')).toArray[0] else .tuple (vs.map (conc θ')).toArray) w'' := by
          have em : (fn.results.mapM (resv a'.tmps)).run P w'' = .ok (vs.map (conc θ')).toArray w'' := by simp [Array.mapM_eq_mapM_toList, hrun]
          rw [results_eq, Sem.run_bind, em]
          rfl
        refine ⟨_, hres, θ', ?_⟩
        have hP2 := hP.trans hP'
        match vs, hx, hbv with
        | [], hx, hbv => cases hx; exact ⟨by simp [conc], by simp only [bd]; exact hbv, hP2⟩
        | [u], hx, hbv => cases hx; exact ⟨by simp, hbv _ (by simp), hP2⟩
        | u :: u' :: us, hx, hbv => cases hx; exact ⟨by simp [conc], by simp only [bd]; exact hbv, hP2⟩
    rcases he with rfl | rfl <;> (subst hex; exact key)
theorem params0_ok {n : Nat} : ∀ {l : List (Tmp × AV)} {t t' : T AV} {m : Nat} {tmps : Array Value}, params0 l t m = some t' → KT θ n t tmps → tmps.size = m → (∀ p ∈ l, bd θ n p.2) →
    KT θ n t' ((l.map fun p => (p.1, conc θ p.2)).foldl (fun tmps (t, a) => tmps.setIfInBounds t a) tmps) ∧ ((l.map fun p => (p.1, conc θ p.2)).foldl (fun tmps (t, a) => tmps.setIfInBounds t a) tmps).size = m
  | [], t, t', m, tmps, hp, hk, hm, hb => by cases hp; exact ⟨hk, hm⟩
  | (d, v) :: r, t, t', m, tmps, hp, hk, hm, hb => by
    simp only [params0] at hp
    split at hp
    · rename_i hc
      simp only [List.map_cons, List.foldl_cons]
      exact params0_ok hp (hk.set (hb (d, v) (by simp)) hc.1 (by rw [hm]; exact hc.2)) (by simp [hm]) fun p hp' => hb p (by simp [hp'])
    · cases hp
theorem codeOf_none {e : AExit} : (codeOf e).isNone = (codeOf e).isSome.not := by cases e <;> rfl
theorem xround_ok (hB : TabOK P tb base) (hS : Sound P base rec) {id : Nat} {args : List AV} {v : AV} {h' : AH} (hx : xround rec id args h = some (v, h')) (rd : Option Nat) :
    (All h'.sc → All h.sc) ∧ (All h'.sc → ∀ θ w, R base θ h w → bdl θ h.next args → ∃ f tmps assign body, (Instr.yield (θ id).b (args.map (conc θ)).toArray).run P w = .ok (.round (θ id).b f tmps assign body) w ∧ RoundIn (FW rd) 0 P (θ id).b f tmps assign body w (CallOK P base θ h w v h')) := by
  unfold xround at hx
  split at hx <;> try (cases hx; done)
  rename_i r hm
  split at hx <;> try (cases hx; done)
  rename_i hc
  obtain ⟨hc1, hc2, hc3⟩ := hc
  split at hx <;> try (cases hx; done)
  rename_i t hpar
  split at hx <;> try (cases hx; done)
  rename_i A h1 hrec1
  split at hx <;> try (cases hx; done)
  rename_i r1 hm1
  split at hx <;> try (cases hx; done)
  rename_i hc1'
  split at hx <;> try (cases hx; done)
  rename_i h2 hset1
  split at hx <;> try (cases hx; done)
  rename_i e A' h3 hrec2
  split at hx <;> try (cases hx; done)
  rename_i r3 hm3
  split at hx <;> try (cases hx; done)
  rename_i h4 hset2
  cases hx
  have e4 : h'.sc = h3.sc := (AH.put_spec hset2).2.2.2.2
  have e2 : h2.sc = h1.sc := (AH.put_spec hset1).2.2.2.2
  have hS1 := hS _ _ _ _ _ _ _ hrec1
  have hS2 := hS _ _ _ _ _ _ _ hrec2
  refine ⟨fun hs => hS1.1 (by rw [← e2]; exact hS2.1 (by rw [← e4]; exact hs)), fun hs θ w hR hb => ?_⟩
  have hs3 : All h3.sc := by rw [← e4]; exact hs
  have hs1 : All h1.sc := by rw [← e2]; exact hS2.1 hs3
  obtain ⟨hidn, hbase, hok⟩ := hR.obj id _ hm
  obtain ⟨hdfr, L, hL, hst, hst', hpend, hps, has, hbo, hkt, hnt, hdef⟩ := hok
  have hyield := run_yield (P := P) (args := (args.map (conc θ)).toArray) hL (by simp [hps, hc3])
  refine ⟨L.fn, _, L.assign, L.body, hyield, ?_⟩
  have hzip : ((L.params.zip (args.map (conc θ)).toArray).toList) = (r.params.toList.zip args).map fun p => (p.1, conc θ p.2) := by
    rw [Array.toList_zip, hps, List.toList_toArray, List.zip_map_right]; rfl
  have hpk := params0_ok (θ := θ) (n := h.next) hpar hkt hnt (fun p hp => hb p.2 (List.of_mem_zip hp).2)
  rw [← hzip, Array.foldl_toList] at hpk
  have hA0 : AOK θ h.next { t := t, n := r.nt, ds := [] } { tmps := (L.params.zip (args.map (conc θ)).toArray).foldl (fun tmps (t, a) => tmps.setIfInBounds t a) L.tmps, defers := [] } :=
    ⟨hpk.2, hpk.1, rfl, fun d hd => by cases hd⟩
  refine roundIn_of_wpIn trivial ?_
  have h1' := hS1.2 hs1 θ _ w hR hA0 (fun l hl => by cases hl; exact hidn)
  rw [has]
  refine wpIn_mono h1' fun ex a1 w1 hbe => ?_
  obtain ⟨hex, θ1, hP1, hA1⟩ := hbe
  subst hex
  show ∃ w₂, _
  obtain ⟨hidn1, hbase1, hok1⟩ := hP1.r.obj id _ hm1
  obtain ⟨hdfr1, L1, hL1, hst1, hst1', hpend1, hps1, has1, hbo1, hkt1, hnt1, hdef1⟩ := hok1
  have hbeq : (θ1 id).b = (θ id).b := by rw [hP1.ext id hidn]
  rw [hbeq] at hL1 hbase1
  have hready : L1.state = .ready := by rw [hst1 (.inl hc1'.2)]; simp [lstate, hc1'.1, hc1'.2]
  refine ⟨_, run_beginRound (P := P) hL1 hready, ?_⟩
  have hlt1 : (θ id).b < w1.heap.size := (Array.getElem?_eq_some_iff.1 hL1).1
  have hsp1 := AH.put_spec hset1
  have hP2 : Post base θ1 h1 w1 θ1 h2 (w1.putObj (θ id).b (.loop { L1 with state := .busy })) := by
    refine Post.put hP1.r hm1 hset1 (fun k hk => World.putObj_heap_other (by rw [← hbeq]; exact hk)) (by simp) (putObj_below hbase1) ?_
    refine ⟨hdfr1, { L1 with state := .busy }, by rw [hbeq]; exact World.putObj_heap_same hlt1, fun _ => by simp [lstate], fun h => by simp at h, hpend1, hps1, has1, hbo1, hkt1, hnt1, hdef1⟩
  have hbody : L1.body = L.body ∨ True := .inr trivial
  have hA1' : AOK θ1 h2.next A a1 := hA1.ext (Ext.refl _ _) (by rw [hsp1.2.2.1]; exact Nat.le_refl _)
  have h2' := hS2.2 hs3 θ1 a1 _ hP2.r hA1' (fun l hl => by cases hl; rw [hsp1.2.2.1]; exact hidn1)
  simp only [rdB, Option.map_some, hbeq] at h2'
  rw [hbo]
  refine wpIn_mono h2' fun ex a2 w2 hbe => ?_
  obtain ⟨hex, θ2, hP3, hA2⟩ := hbe
  obtain ⟨hidn3, hbase3, hok3⟩ := hP3.r.obj id _ hm3
  obtain ⟨hdfr3, L3, hL3, hst3, hst3', hpend3, hps3, has3, hbo3, hkt3, hnt3, hdef3⟩ := hok3
  have hbeq3 : (θ2 id).b = (θ id).b := by rw [hP3.ext id (by rw [hsp1.2.2.1]; exact hidn1), hbeq]
  rw [hbeq3] at hL3 hbase3
  have hlt3 : (θ id).b < w2.heap.size := (Array.getElem?_eq_some_iff.1 hL3).1
  have hsp2 := AH.put_spec hset2
  have hfin : ∃ v' w', (Instr.endRound (θ id).b (codeOf e)).run P w2 = .ok v' w' ∧ CallOK P base θ h w (.lit (.bool (codeOf e).isNone)) h' (.returned v') w' := by
    refine ⟨_, _, run_endRound (P := P) (codeOf e) hL3, θ2, by simp [conc], by simp [bd], ?_⟩
    refine (hP1.trans (hP2.trans hP3)).trans (Post.put hP3.r hm3 hset2 (fun k hk => World.putObj_heap_other (by rw [← hbeq3]; exact hk)) (by simp) (putObj_below hbase3) ?_)
    refine ⟨hdfr3, { L3 with state := if (codeOf e).isNone then .ready else .done, pending := codeOf e }, by rw [hbeq3]; exact World.putObj_heap_same hlt3, ?_, ?_, rfl, hps3, has3, hbo3, hkt3, hnt3, hdef3⟩
    · intro _; cases e <;> rfl
    · intro _; cases e <;> simp [codeOf]
  subst hex
  cases e <;> exact hfin
end
end PartOfUi
section PartOfUj
open Go Go.RowKit
section
variable {P : Program} {tb : Tab} {rec : Rec} {θ : Th} {base : Bs} {h : AH} {w : World}
theorem put_same {a : Act} {d : Tmp} {v : Value} (h : a.tmps[d]? = some v) : a.put (some d) v = a := by
  simp only [Act.put]
  congr 1
  apply Array.ext_getElem?
  intro t
  by_cases ht : d = t
  · subst ht
    have hlt := (Array.getElem?_eq_some_iff.1 h).1
    rw [h]
    simp [hlt]
  · rw [Array.getElem?_setIfInBounds_ne ht]
theorem wanted_ok {ops : Array Oper} {A A1 : AA} {h h1 : AH} {o : Oper} {b : Bool} (hx : awanted ops.toList A h o = some (b, A1, h1)) :
    (h1.m = h.m ∧ h1.next = h.next ∧ h1.ro = h.ro) ∧ (All h1.sc → All h.sc) ∧ (All h1.sc → ∀ (θ : Th) (n : Nat) (a : Act), AOK θ n A a → Region.wanted o (yielded ops a.tmps) = b ∧ AOK θ n A1 a) := by
  unfold awanted at hx
  unfold Region.wanted
  split at hx
  · rename_i hg; cases hx; exact ⟨⟨rfl, rfl, rfl⟩, fun h => h, fun _ θ n a hA => ⟨by rw [hg], hA⟩⟩
  · rename_i j want hg
    split at hx <;> try (cases hx; done)
    rename_i oj hj
    split at hx <;> try (cases hx; done)
    rename_i t ht
    have hj' : ops[j]? = some oj := by rw [← Array.getElem?_toList]; exact hj
    split at hx <;> try (cases hx; done)
    · rename_i u hu
      cases hx
      refine ⟨⟨rfl, rfl, rfl⟩, fun h => h, fun _ θ n a hA => ⟨?_, hA⟩⟩
      have hk := (hA.kt t _ hu).2
      rw [conc_lit] at hk
      simp only [hg, yielded, hj', ht, Option.bind_some, hk]
      cases u <;> cases want <;> rfl
    · rename_i vs hu
      cases hx
      refine ⟨⟨rfl, rfl, rfl⟩, fun h => h, fun _ θ n a hA => ⟨?_, hA⟩⟩
      have hk := (hA.kt t _ hu).2
      rw [conc_lit] at hk
      simp only [hg, yielded, hj', ht, Option.bind_some, hk]
      rfl
    · rename_i u hu
      unfold asked at hx
      split at hx <;> try (cases hx; done)
      rename_i ov h2 hask
      split at hx <;> try (cases hx; done)
      rename_i A2 hput
      cases hx
      obtain ⟨e1, e2, e3, e4⟩ := ask_ok hask
      refine ⟨⟨e1, e2, e3⟩, fun hs => (e4.1 hs).2, fun hs θ n a hA => ?_⟩
      have huo := (e4.1 hs).1
      have hk := (hA.kt t _ hu).2
      simp only [conc, huo] at hk
      refine ⟨?_, ?_⟩
      · simp only [hg, yielded, hj', ht, Option.bind_some, hk]
        cases ov <;> cases want <;> rfl
      · have := hA.put hput (by simp [bd])
        rw [conc_lit, put_same hk] at this
        exact this
theorem not_defer {o : Oper} {ev : Operand → Option AV} (hx : (∃ v, xpure tb ev o = some v) ∨ (∃ v, xload tb h ev o = some v) ∨ asDefer o.op = none) (c : Call) : o.op ≠ .defer c := by
  intro hc
  rcases hx with ⟨v, hv⟩ | ⟨v, hv⟩ | hv
  · simp only [xpure, hc] at hv; cases hv
  · simp only [xload, hc] at hv; cases hv
  · rw [hc] at hv; cases hv
theorem wpIn_val {o : Oper} {a : Act} {ro : Option Nat} {K : Act → World → Prop} {Q : Exit → Act → World → Prop} {v : Value} {w' : World} (hd : ∀ c, o.op ≠ .defer c) (hr : (execOp a.eval o).run P w = .ok (.value v) w') (hk : K (a.put o.dst v) w') : o.wpIn (FW ro) 0 P a w K Q := by
  refine ⟨fun _ _ => trivial, ?_⟩
  rw [Oper.semAt_eq _ _ _ hd, hr, Oper.uponIn_value]
  exact hk
theorem putH_ok {A A' : AA} {dst : Option Tmp} {h h' : AH} {v : AV} (hx : putH A dst h v = some (A', h')) : A.put dst v = some A' ∧ h' = h := by
  unfold putH at hx
  split at hx
  · rename_i A1 hp; cases hx; exact ⟨hp, rfl⟩
  · cases hx
def XM (h : AH) : XR → Prop
  | .val _ h' => All h'.sc → All h.sc
  | .skip h' => All h'.sc → All h.sc
  | _ => True
theorem added_sc {o : AO} {v : AV} : XM h (added h o v) := by
  unfold added
  split
  · rename_i h' ha; exact fun hs => by rw [← (AH.add_spec ha).2.2.2.2]; exact hs
  · trivial
theorem stored_sc {id : Nat} {o : AO} : XM h (stored h id o) := by
  unfold stored
  split
  · rename_i h' ha; exact fun hs => by rw [← (AH.put_spec ha).2.2.2.2]; exact hs
  · trivial
theorem XM.also {ps : List Prop} {X : XR} (hX : XM (h.also ps) X) : XM h X := by
  cases X with
  | val v h' => exact fun hs => (also_all.1 (hX hs)).2
  | skip h' => exact fun hs => (also_all.1 (hX hs)).2
  | _ => trivial
theorem append4_sc {el : TypeId} {sz n m id : Nat} {f g : Nat → Nat → Int} : XM h (xAppend4 h el sz n m id f g) := by
  unfold xAppend4
  split
  split
  · rename_i ha
    intro hs
    rw [(AH.add_spec ha).2.2.2.2] at hs
    exact hs.2
  · trivial
theorem ask_xm {b o : Bool} {h1 : AH} {X : XR} (ha : ask h b = some (o, h1)) (hX : XM h1 X) : XM h X := by
  have hs := (ask_ok ha).2.2.2
  cases X with
  | val v h' => exact fun h => (hs.1 (hX h)).2
  | skip h' => exact fun h => (hs.1 (hX h)).2
  | _ => trivial
theorem append3_sc {el : TypeId} {j : TyI} {xid m : Nat} {g : Nat → Nat → Int} {s : Option AV} : XM h (xAppend3 h el j xid m g s) := by
  unfold xAppend3
  split
  · split
    · trivial
    · split
      · split
        · split
          · rename_i ha; exact ask_xm ha (XM.also append4_sc)
          · rename_i ha; exact ask_xm ha (XM.also (X := .val _ _) fun hs => hs)
          · trivial
        · trivial
      · trivial
  · split
    · rename_i ha; exact ask_xm ha (XM.also added_sc)
    · rename_i ha; exact ask_xm ha (show XM _ (.val _ _) from fun hs => hs)
    · trivial
  · trivial
theorem xmem_sc {ev : Operand → Option AV} (o : Oper) : XM h (xmem tb h ev o) := by
  unfold xmem
  split
  · unfold xAlloc; split <;> first | exact added_sc | trivial
  · unfold xBox; split <;> first | exact added_sc | trivial
  · unfold xStore xStore2 xStore3 xStoreR
    repeat' (first | exact stored_sc | exact XM.also stored_sc | trivial | split)
  · unfold xBuildSlice xBuildSlice2
    repeat' (first | exact added_sc | trivial | split)
  · unfold xMakeSlice
    repeat' (first | exact XM.also added_sc | trivial | split)
  · exact added_sc
  · unfold xLookup xLookup2
    repeat' (first | exact (fun hs => hs) | trivial | split)
  · unfold xMapUpd xMapUpd2
    repeat' (first | exact stored_sc | trivial | split)
  · unfold xMapEntry xMapEntry2
    repeat' (first | trivial | (rename_i hq; exact fun hs => by rw [← (AH.put_spec hq).2.2.2.2]; exact hs) | split)
  · unfold xEntryStore xEntryStore2
    repeat' (first | exact stored_sc | trivial | split)
  · unfold xSliceE xSliceE2
    repeat' (first | exact (fun hs => hs) | trivial | split)
  · unfold xCall
    split
    · unfold xAppend xAppend2
      repeat' (first | trivial | exact XM.also append3_sc | split)
    · unfold xEnter; repeat' (first | trivial | split)
    · trivial
  · trivial
theorem xop1_ok (hB : TabOK P tb base) (hS : Sound P base rec) {A A' : AA} {rd : Option Nat} {o : Oper} {h' : AH} (hx : xop1 tb rec o rd A h = some (A', h')) :
    (All h'.sc → All h.sc) ∧ (All h'.sc → ∀ {θ : Th} {w : World} {a : Act}, R base θ h w → AOK θ h.next A a → ∀ {K : Act → World → Prop} {Q : Exit → Act → World → Prop}, (∀ θ' a' w', Post base θ h w θ' h' w' → AOK θ' h'.next A' a' → (∃ v, a'.tmps = (a.put o.dst v).tmps) → K a' w') → o.wpIn (FW (rdB θ rd)) 0 P a w K Q) := by
  unfold xop1 at hx
  split at hx
  · rename_i v hv
    obtain ⟨hp, rfl⟩ := putH_ok hx
    refine ⟨fun hs => (also_all.1 hs).2, fun hs θ w a hR hA K Q hK => ?_⟩
    obtain ⟨hb, hr⟩ := xpure_ok hB.ty hB.pair hA.ev hv (also_all.1 hs).1 w
    exact wpIn_val (not_defer (tb := tb) (h := h) (.inl ⟨v, hv⟩)) hr (hK θ _ w (Post.refl hR).also (hA.put hp hb) ⟨_, rfl⟩)
  · split at hx
    · rename_i v hv
      obtain ⟨hp, rfl⟩ := putH_ok hx
      refine ⟨fun hs => (also_all.1 hs).2, fun hs θ w a hR hA K Q hK => ?_⟩
      obtain ⟨hb, hr⟩ := xload_ok hB.ty hR hA.ev hv (also_all.1 hs).1
      exact wpIn_val (not_defer (.inr (.inl ⟨v, hv⟩))) hr (hK θ _ w (Post.refl hR).also (hA.put hp hb) ⟨_, rfl⟩)
    · split at hx
      · rename_i c hc
        split at hx <;> try (cases hx; done)
        rename_i A1 hd
        obtain ⟨hp, rfl⟩ := putH_ok hx
        refine ⟨fun hs => hs, fun hs θ w a hR hA K Q hK => ?_⟩
        obtain ⟨t, n, ds⟩ := A
        unfold xdefer at hd
        split at hd <;> try (cases hd; done)
        rename_i f hcal
        split at hd <;> try (cases hd; done)
        rename_i g first cap xs hf hxs
        cases hd
        have hop : o.op = .defer c := by
          unfold asDefer at hc
          split at hc
          · rename_i c' ho; cases hc; exact ho
          · cases hc
        obtain ⟨hbf, hf'⟩ := hA.ev f _ hf
        obtain ⟨hbx, hex⟩ := evs_ok hA.ev hxs
        simp only [bd] at hbf
        have e1 : c.args.map a.eval = (xs.map (conc θ)).toArray := by apply Array.toList_inj.1; rw [Array.toList_map, hex]
        have hrun : (execOp a.eval o).run P w = .ok (.defer (concD θ (.call g cap (first ++ xs)))) w := by
          unfold execOp
          simp only [hop, resolve, hcal, hf', conc, Deferred.ofValue, Sem.run_bind, Sem.run_pure, Result.andThen, e1, concD]
          congr 3
          simp
        refine ⟨fun _ _ => trivial, ?_⟩
        show o.uponIn (FW none) 0 P a K Q ((o.semAt none a.eval).run P w)
        rw [Oper.semAt_none, hrun, Oper.uponIn_defer]
        refine hK θ _ w (Post.refl hR) ?_ ⟨undef, by cases o.dst <;> rfl⟩
        have hA1 : AOK θ h'.next ⟨t, n, .call g cap (first ++ xs) :: ds⟩ { a with defers := concD θ (.call g cap (first ++ xs)) :: a.defers } :=
          ⟨hA.size, hA.kt, by rw [hA.ds]; rfl, fun d hd => by
            rcases List.mem_cons.1 hd with rfl | hd
            · exact ⟨hbf.2, fun y hy => by
                rcases List.mem_append.1 hy with hy | hy
                · exact hbf.1 y hy
                · exact hbx y hy⟩
            · exact hA.bds d hd⟩
        have := hA1.put hp (by simp [bd])
        rwa [conc_lit] at this
      · rename_i hnd
        have hd := not_defer (tb := tb) (h := h) (ev := A.ev) (o := o) (.inr (.inr hnd))
        have hm : ∀ (θ : Th) (w : World) (a : Act), R base θ h w → AOK θ h.next A a → XOK P base θ h w (execOp a.eval o) (xmem tb h A.ev o) := fun θ w a hR hA => xmem_ok hB.ty hB.key hR hA.ev o
        have hmm := xmem_sc (tb := tb) (h := h) (ev := A.ev) o
        generalize xmem tb h A.ev o = X at hx hm hmm
        cases X with
        | val v h1 =>
          obtain ⟨hp, rfl⟩ := putH_ok hx
          refine ⟨hmm, fun hs θ w a hR hA K Q hK => ?_⟩
          obtain ⟨θ', w', hr, hb, hP⟩ := (hm θ w a hR hA).2 hs
          exact wpIn_val hd hr (hK θ' _ w' hP ((hA.ext hP.ext hP.next).put hp hb) ⟨_, rfl⟩)
        | skip h1 =>
          obtain ⟨hp, rfl⟩ := putH_ok hx
          refine ⟨hmm, fun hs θ w a hR hA K Q hK => ?_⟩
          obtain ⟨θ', w', hr, hP⟩ := (hm θ w a hR hA).2 hs
          refine ⟨fun _ _ => trivial, ?_⟩
          rw [Oper.semAt_eq _ _ _ hd, hr, Oper.uponIn_skip]
          have := (hA.ext hP.ext hP.next).put hp (show bd θ' h'.next (.lit undef) by simp [bd])
          rw [conc_lit] at this
          exact hK θ' _ w' hP this ⟨_, rfl⟩
        | enter f args =>
          simp only [xmemPut] at hx
          cases hc : xcall tb rec f args h with
          | none => rw [hc] at hx; cases hx
          | some p =>
            obtain ⟨v, h1⟩ := p
            rw [hc] at hx
            obtain ⟨hp, rfl⟩ := putH_ok hx
            obtain ⟨hm1, hm2⟩ := xcall_ok hB hS hc
            refine ⟨hm1, fun hs θ w a hR hA K Q hK => ?_⟩
            obtain ⟨hb, hr⟩ := hm θ w a hR hA
            obtain ⟨hent, hcall⟩ := hm2 hs θ w hR hb
            refine ⟨fun _ _ => trivial, ?_⟩
            rw [Oper.semAt_eq _ _ _ hd, hr, hent, Oper.uponIn_enter]
            refine ⟨by simp [FW, Fence.wide], (FW_calls hcall).mono fun e w' he => ?_⟩
            obtain ⟨θ', rfl, hbv, hP⟩ := he
            exact hK θ' _ w' hP ((hA.ext hP.ext hP.next).put hp hbv) ⟨_, rfl⟩
        | round id args =>
          simp only [xmemPut] at hx
          cases hc : xround rec id args h with
          | none => rw [hc] at hx; cases hx
          | some p =>
            obtain ⟨v, h1⟩ := p
            rw [hc] at hx
            obtain ⟨hp, rfl⟩ := putH_ok hx
            refine ⟨(xround_ok hB hS hc none).1, fun hs θ w a hR hA K Q hK => ?_⟩
            obtain ⟨hb, hid, hr⟩ := hm θ w a hR hA
            obtain ⟨f, tmps, assign, body, hy, hround⟩ := (xround_ok hB hS hc (rdB θ rd)).2 hs θ w hR hb
            refine ⟨fun _ _ => trivial, ?_⟩
            rw [Oper.semAt_eq _ _ _ hd, hr, hy, Oper.uponIn_round]
            refine ⟨by simp [FW, Fence.wide], hround.mono fun e w' he => ?_⟩
            obtain ⟨θ', rfl, hbv, hP⟩ := he
            exact hK θ' _ w' hP ((hA.ext hP.ext hP.next).put hp hbv) ⟨_, rfl⟩
        | no => cases hx
theorem xop_ok (hB : TabOK P tb base) (hS : Sound P base rec) {A A' : AA} {rd : Option Nat} {ops : Array Oper} {o : Oper} {h' : AH}
    (hx : xop tb rec ops.toList o rd A h = some (A', h')) :
    (All h'.sc → All h.sc) ∧ (All h'.sc → ∀ {θ : Th} {w : World} {a : Act}, R base θ h w → AOK θ h.next A a → ∀ {K : Act → World → Prop} {Q : Exit → Act → World → Prop}, (∀ θ' a' w', Post base θ h w θ' h' w' → AOK θ' h'.next A' a' → (∃ v, a'.tmps = (a.put o.dst v).tmps) → K a' w') →
      if Region.wanted o (yielded ops a.tmps) then o.wpIn (FW (rdB θ rd)) 0 P a w K Q else (∀ f, o.about P w a.eval = some f → (FW (rdB θ rd)).fn f) ∧ K (a.put o.dst undef) w) := by
  unfold xop at hx
  split at hx
  · cases hx
  · rename_i b A1 h1 hw
    obtain ⟨⟨e1, e2, e3⟩, hm, hw'⟩ := wanted_ok hw
    split at hx
    · obtain ⟨hp, rfl⟩ := putH_ok hx
      refine ⟨hm, fun hs θ w a hR hA K Q hK => ?_⟩
      obtain ⟨hwa, hA1⟩ := hw' hs θ h.next a hA
      rw [hwa]
      simp only [Bool.false_eq_true, if_false]
      refine ⟨fun _ _ => trivial, hK θ _ w ((Post.refl hR).same e1 e2 e3) ?_ ?_⟩
      · have := hA1.put hp (by simp [bd])
        rw [e2]
        rwa [conc_lit] at this
      · exact ⟨_, rfl⟩
    · obtain ⟨k1, k2⟩ := xop1_ok hB hS hx
      refine ⟨fun hs => hm (k1 hs), fun hs θ w a hR hA K Q hK => ?_⟩
      obtain ⟨hwa, hA1⟩ := hw' (k1 hs) θ h.next a hA
      rw [hwa]
      simp only [if_true]
      refine k2 hs (hR.same e1 e2 e3) (by rw [e2]; exact hA1) fun θ' a' w' hP hA' ht => hK θ' a' w' ?_ hA' ht
      exact ((Post.refl hR).same e1 e2 e3).trans hP
theorem rdB_ext {θ θ' : Th} {n : Nat} (he : Ext θ θ' n) {rd : Option Nat} (hr : ∀ l, rd = some l → l < n) : rdB θ' rd = rdB θ rd := by
  cases rd with
  | none => rfl
  | some l => simp only [rdB, Option.map_some, he l (hr l rfl)]
theorem xops_ok (hB : TabOK P tb base) (hS : Sound P base rec) {rd : Option Nat} {ops : Array Oper} : ∀ (l : List Oper) (k : Nat), ops.toList.drop k = l → ∀ {h : AH} {A A' : AA} {h' : AH} {e : AExit}, xops tb rec rd ops.toList l A h = .ok e A' h' →
    (All h'.sc → All h.sc) ∧ (All h'.sc → ∀ {θ : Th} {w : World} {a : Act}, R base θ h w → AOK θ h.next A a → (∀ l, rd = some l → l < h.next) →
    ∀ {Q : Exit → Act → World → Prop}, (∀ θ' a' w', e = .norm → Post base θ h w θ' h' w' → AOK θ' h'.next A' a' → Q .normal a' w') → wpOpsIn (FW (rdB θ rd)) 0 P ops Q (List.range' k l.length) a w)
  | [], k, hk, h, A, A', h', e, hx => by
    cases hx
    exact ⟨fun hs => hs, fun hs θ w a hR hA hrd Q hQ => hQ θ a w rfl (Post.refl hR) hA⟩
  | o :: l, k, hk, h, A, A', h', e, hx => by
    have hok : ops[k]? = some o := by
      rw [← Array.getElem?_toList]
      have := congrArg (·[0]?) hk
      simpa using this
    have hk' : ops.toList.drop (k + 1) = l := by
      rw [← List.drop_drop, hk]; rfl
    change (match xop tb rec ops.toList o rd A h with | some (A', h') => xops tb rec rd ops.toList l A' h' | none => .no) = .ok e A' h' at hx
    split at hx
    · rename_i A1 h1 h1x
      obtain ⟨k1, k2⟩ := xop_ok hB hS h1x
      obtain ⟨m1, m2⟩ := xops_ok hB hS l (k + 1) hk' hx
      refine ⟨fun hs => k1 (m1 hs), fun hs θ w a hR hA hrd Q hQ => ?_⟩
      simp only [List.length_cons, List.range'_succ]
      rw [wpOpsIn]
      simp only [hok]
      exact k2 (m1 hs) hR hA fun θ' a' w' hP hA' _ => by
        have hrd' : ∀ l, rd = some l → l < h1.next := fun l hl => Nat.lt_of_lt_of_le (hrd l hl) hP.next
        have := m2 hs hP.r hA' hrd' (Q := Q) fun θ'' a'' w'' he hP' hA'' => hQ θ'' a'' w'' he (hP.trans hP') hA''
        rwa [rdB_ext hP.ext hrd] at this
    · cases hx
theorem norm_of_xops {rd : Option Nat} {ops : List Oper} : ∀ (l : List Oper) {A A' : AA} {h h' : AH} {e : AExit}, xops tb rec rd ops l A h = .ok e A' h' → e = .norm
  | [], A, A', h, h', e, hx => by cases hx; rfl
  | o :: l, A, A', h, h', e, hx => by
    change (match xop tb rec ops o rd A h with | some (A', h') => xops tb rec rd ops l A' h' | none => .no) = .ok e A' h' at hx
    split at hx
    · exact norm_of_xops l hx
    · cases hx
end
end PartOfUj
section PartOfUk
open Go Go.RowKit
section
variable {P : Program} {ops : Array Oper} {Q : Exit → Act → World → Prop} {S : World → Prop} {ro : Option Nat}
def YieldsH (P : Program) (ops : Array Oper) (S : World → Prop) (o : Oper) (v : Value) (a : Act) : Prop :=
  (∀ c, o.op ≠ .defer c) ∧ ((Region.wanted o (yielded ops a.tmps) = true ∧ ∀ w, S w → (execOp a.eval o).run P w = .ok (.value v) w) ∨ (Region.wanted o (yielded ops a.tmps) = false ∧ v = undef))
theorem YieldsH.wpOp {i : Nat} {o : Oper} {v : Value} {a : Act} (hi : ops[i]? = some o) (hy : YieldsH P ops S o v a) {K : Act → World → Prop} {w : World} (hS : S w) (hk : K (a.put o.dst v) w) : wpOpIn (FW ro) 0 P ops Q i K a w := by
  unfold wpOpIn
  simp only [hi]
  rcases hy.2 with ⟨hw, hv⟩ | ⟨hw, rfl⟩
  · simp only [hw, if_true]; exact wpIn_val hy.1 (hv w hS) hk
  · simp only [hw, Bool.false_eq_true, if_false]; exact ⟨fun _ _ => trivial, hk⟩
theorem YieldsH.of_same {o : Oper} {v : Value} {a a' : Act} (hy : YieldsH P ops S o v a) (he : execOp a'.eval o = execOp a.eval o) (hw : Region.wanted o (yielded ops a'.tmps) = Region.wanted o (yielded ops a.tmps)) : YieldsH P ops S o v a' := by
  unfold YieldsH at *; rw [he, hw]; exact hy
theorem semAt_put {o : Oper} {a : Act} {dst : Option Tmp} {v : Value} (hs : ∀ cs b, o.op ≠ .select cs b) (hd : ∀ d, dst = some d → d ∉ o.looksAt ops) : o.semAt ro (a.put dst v).eval = o.semAt ro a.eval := by
  cases ro with
  | none => simp only [Oper.semAt_none]; exact execOp_put o hs a dst v hd
  | some l =>
    cases ho : o.op with
    | defer c =>
      have := execOp_put o hs a dst v hd
      unfold Oper.semAt
      simp only [ho]
      have e := resolve_congr (ρ := (a.put dst v).eval) (ρ' := a.eval) c o.type (fun x hx => Act.eval_put fun d hdd hxd => hd d hdd (by
        subst hxd
        exact List.mem_append_left _ (List.mem_filterMap.2 ⟨.tmp d, by rw [ho]; simpa [Op.operands] using hx, rfl⟩)))
      simp only [e]
    | _ => rw [Oper.semAt_eq _ _ _ (by rw [ho]; intro c hc; cases hc), Oper.semAt_eq _ _ _ (by rw [ho]; intro c hc; cases hc)]; exact execOp_put o hs a dst v hd
theorem wpOp_putH {j : Nat} {oi oj : Oper} {v : Value} (hj : ops[j]? = some oj) (hap : oi.apart ops oj = true) (hsi : ∀ cs b, oi.op ≠ .select cs b) (hsj : ∀ cs b, oj.op ≠ .select cs b)
    (hQ : ∀ c a w, Q (.panic c) (a.put oi.dst v) w → Q (.panic c) a w) {K : Act → World → Prop} {a : Act} {w : World} (hy : YieldsH P ops S oi v a) (h : wpOpIn (FW ro) 0 P ops Q j K (a.put oi.dst v) w) :
    wpOpIn (FW ro) 0 P ops Q j (fun a' w' => YieldsH P ops S oi v a' ∧ K (a'.put oi.dst v) w') a w := by
  obtain ⟨h1, h2, h3⟩ := Oper.apart_spec hap
  have keep : ∀ a : Act, YieldsH P ops S oi v a → ∀ u, YieldsH P ops S oi v (a.put oj.dst u) := fun a hy u => hy.of_same (execOp_put oi hsi a oj.dst u h3) (wanted_put oi a oj.dst u h3)
  have keepD : ∀ d, YieldsH P ops S oi v { a with defers := d :: a.defers } := fun d => hy.of_same rfl rfl
  unfold wpOpIn at *
  simp only [hj] at *
  rw [wanted_put oj a oi.dst v h1] at h
  split
  · rename_i hw
    simp only [hw, if_true] at h
    refine ⟨fun _ _ => trivial, ?_⟩
    have h := h.2
    rw [semAt_put hsj h1] at h
    generalize (oj.semAt ro a.eval).run P w = r at *
    cases r with
    | ok x w' =>
      cases x <;> simp only [Oper.uponIn] at h ⊢
      case value u => exact ⟨keep a hy u, by rw [← Act.put_comm a v u h2]; exact h⟩
      case skip => exact ⟨keep a hy _, by rw [← Act.put_comm a v undef h2]; exact h⟩
      case defer d =>
        refine ⟨keep _ (keepD d) _, ?_⟩
        rw [← Act.put_comm _ v undef h2, ← Act.put_defers]
        exact h
      case enter f args =>
        refine ⟨h.1, h.2.mono fun e w'' he => ?_⟩
        cases e with
        | returned u => exact ⟨keep a hy u, by rw [← Act.put_comm a v u h2]; exact he⟩
        | panicked c => exact hQ _ _ _ he
        | outgrown => exact he
      case row row args => exact ⟨h.1, h.2.mono fun u w'' he => ⟨keep a hy u, by rw [← Act.put_comm a v u h2]; exact he⟩⟩
      case round l f tmps assign body =>
        refine ⟨h.1, h.2.mono fun e w'' he => ?_⟩
        cases e with
        | returned u => exact ⟨keep a hy u, by rw [← Act.put_comm a v u h2]; exact he⟩
        | panicked c => exact hQ _ _ _ he
        | outgrown => exact he
    | halt x w' =>
      cases x <;> simp only [Oper.uponIn] at h ⊢
      case panic u => exact hQ _ _ _ h
  · rename_i hw
    simp only [hw] at h
    exact ⟨fun _ _ => trivial, keep a hy _, by rw [← Act.put_comm a v undef h2]; exact h.2⟩
def Closed (ops : Array Oper) (LC : Array Bool) : Prop := ∀ f o, ops[f]? = some o → LC.getD f false = true → ∀ e ∈ o.after, Region.binds .any e = true → LC.getD e.on false = true
def G (ops : Array Oper) (S : World → Prop) (LC : Array Bool) (w : World) : Prop := (∃ f, fullAt ops f = true ∧ LC.getD f false = true) ∨ S w
theorem Closed.set {LC : Array Bool} (hc : Closed ops LC) {i : Nat} (hi : i ∈ Region.ready .any ops LC) : Closed ops (LC.setIfInBounds i true) := by
  intro f o ho hf e he hb
  by_cases hfi : i = f
  · subst hfi
    obtain ⟨_, o', ho', hall⟩ := mem_ready.1 hi
    rw [ho] at ho'; cases ho'
    exact getD_set_true (hall e he hb)
  · rw [getD_set_ne false hfi] at hf
    exact getD_set_true (hc f o ho hf e he hb)
theorem fullAt_ok {f : Nat} (hf : fullAt ops f = true) : ∃ o, ops[f]? = some o ∧ firstKind o.op = false ∧ ∀ i oi, ops[i]? = some oi → isLoad oi.op = true → (anc ops f).getD i false = true := by
  unfold fullAt at hf
  split at hf <;> try (cases hf; done)
  rename_i o ho
  simp only [Bool.and_eq_true, Bool.not_eq_true', List.all_eq_true, List.mem_range] at hf
  refine ⟨o, ho, hf.1, fun i oi hoi hl => ?_⟩
  have := hf.2 i (Array.getElem?_eq_some_iff.1 hoi).1
  simpa only [hoi, hl, Bool.not_true, Bool.false_or] using this
theorem anc_closed {LC : Array Bool} (hc : Closed ops LC) {f : Nat} (hf : LC.getD f false = true) : ∀ i, (anc ops f).getD i false = true → LC.getD i false = true := by
  have set_ok : ∀ (M : Array Bool) (j : Nat), LC.getD j false = true → (∀ i, M.getD i false = true → LC.getD i false = true) → ∀ i, (M.setIfInBounds j true).getD i false = true → LC.getD i false = true := fun M j hj hM i hi => by
    by_cases hij : j = i
    · rw [← hij]; exact hj
    · rw [getD_set_ne false hij] at hi; exact hM i hi
  have step : ∀ (M : Array Bool) (j : Nat), (∀ i, M.getD i false = true → LC.getD i false = true) → ∀ i, (ancStep ops M j).getD i false = true → LC.getD i false = true := fun M j hM => by
    unfold ancStep
    split
    · rename_i hj
      split
      · rename_i o ho
        have hLj := hM j hj
        have hdeps := hc j o ho hLj
        rw [← Array.foldl_toList]
        have fold : ∀ (l : List _), (∀ e ∈ l, e ∈ o.after) → ∀ (M : Array Bool), (∀ i, M.getD i false = true → LC.getD i false = true) → ∀ i, (l.foldl (fun M e => bif Region.binds .any e then M.setIfInBounds e.on true else M) M).getD i false = true → LC.getD i false = true := by
          intro l
          induction l with
          | nil => intro _ M hM; exact hM
          | cons e l ih =>
            intro hl M hM
            refine ih (fun e' he' => hl e' (List.mem_cons_of_mem _ he')) _ ?_
            simp only
            cases hb : Region.binds .any e with
            | false => simp only [cond_false]; exact hM
            | true => simp only [cond_true]; exact set_ok M e.on (hdeps e (hl e (by simp)) hb) hM
        exact fold _ (fun e he => Array.mem_toList_iff.1 he) M hM
      · exact hM
    · exact hM
  have all : ∀ (l : List Nat) (M : Array Bool), (∀ i, M.getD i false = true → LC.getD i false = true) → ∀ i, (l.foldl (ancStep ops) M).getD i false = true → LC.getD i false = true := by
    intro l
    induction l with
    | nil => intro M hM; exact hM
    | cons j l ih => intro M hM; exact ih _ (step M j hM)
  refine all _ _ (set_ok _ f hf fun i hi => ?_)
  simp [Array.getD] at hi
def wpHeld (P : Program) (ops : Array Oper) (Q : Exit → Act → World → Prop) (S : World → Prop) (ro : Option Nat) : Nat → Array Bool → Act → World → Prop
  | 0, listed, a, w => Region.ready .any ops listed = [] ∧ Q .normal a w
  | k + 1, listed, a, w => (Region.ready .any ops listed = [] → Q .normal a w) ∧ ∀ i ∈ Region.ready .any ops listed, wpOpIn (FW ro) 0 P ops Q i (fun a' w' => G ops S (listed.setIfInBounds i true) w' ∧ wpHeld P ops Q S ro k (listed.setIfInBounds i true) a' w') a w
theorem wpAny_of_wpHeld : ∀ (k : Nat) (listed : Array Bool) (a : Act) (w : World), wpHeld P ops Q S ro k listed a w → wpAnyIn (FW ro) 0 P .any ops Q k listed a w
  | 0, _, _, _, h => h
  | k + 1, _, _, _, h => ⟨h.1, fun i hi => wpOpIn_mono (fun a' w' h' => wpAny_of_wpHeld k _ a' w' h'.2) (h.2 i hi)⟩
theorem wpHeld_first {i : Nat} {oi : Oper} {v : Value} (hi : ops[i]? = some oi) (hfk : firstKind oi.op = true) (hsel : Region.noSelect ops = true) (hQ : ∀ c a w, Q (.panic c) (a.put oi.dst v) w → Q (.panic c) a w) {Si : World → Prop} (hSi : isLoad oi.op = true ∧ (∀ w, S w → Si w) ∨ ∀ w, Si w) :
    ∀ (k : Nat) (listed : Array Bool) (a : Act) (w : World), Closed ops listed →
      (∀ j oj, ops[j]? = some oj → j ≠ i → listed.getD j true = false → (∀ e ∈ oj.after, Region.binds .any e = true → e.on ≠ i) → oi.apart ops oj = true) →
      i ∈ Region.ready .any ops listed → YieldsH P ops Si oi v a → G ops S listed w →
      wpHeld P ops Q S ro k (listed.setIfInBounds i true) (a.put oi.dst v) w → wpHeld P ops Q S ro (k + 1) listed a w := by
  have hnfull : fullAt ops i = false := by
    cases hf : fullAt ops i with
    | false => rfl
    | true => obtain ⟨o, ho, hn, _⟩ := fullAt_ok hf; rw [hi] at ho; cases ho; rw [hfk] at hn; cases hn
  have hno : ∀ {LC : Array Bool}, Closed ops LC → i ∈ Region.ready .any ops LC → isLoad oi.op = true → ∀ f, fullAt ops f = true → LC.getD f false = true → False := by
    intro LC hc hr hl f hf hfl
    obtain ⟨o, ho, _, hall⟩ := fullAt_ok hf
    have h1 := anc_closed hc hfl i (hall i oi hi hl)
    have h0 := (mem_ready.1 hr).1
    rcases Nat.lt_or_ge i LC.size with h' | h'
    · simp [h'] at h0 h1; rw [h0] at h1; cases h1
    · simp [Array.getElem?_eq_none h'] at h1
  have hSi' : ∀ {LC : Array Bool} {w : World}, Closed ops LC → i ∈ Region.ready .any ops LC → G ops S LC w → Si w := by
    intro LC w hc hr hg
    rcases hSi with ⟨hl, hs⟩ | hs
    · rcases hg with ⟨f, hf, hfl⟩ | hg
      · exact (hno hc hr hl f hf hfl).elim
      · exact hs w hg
    · exact hs w
  have hup : ∀ {LC : Array Bool} {w : World}, G ops S LC w → ∀ j, G ops S (LC.setIfInBounds j true) w := fun hg j => hg.imp (fun ⟨f, hf, hfl⟩ => ⟨f, hf, getD_set_true hfl⟩) id
  intro k
  induction k with
  | zero =>
    intro listed a w hc _ hr hy hG H
    refine ⟨fun h => absurd h (fun h => by rw [h] at hr; cases hr), fun j hj => ?_⟩
    by_cases hji : j = i
    · subst hji; exact hy.wpOp hi (hSi' hc hr hG) ⟨hup hG _, H⟩
    · have := ready_mono hj hji
      rw [H.1] at this
      cases this
  | succ k ih =>
    intro listed a w hc hfree hr hy hG H
    refine ⟨fun h => absurd h (fun h => by rw [h] at hr; cases hr), fun j hj => ?_⟩
    by_cases hji : j = i
    · subst hji; exact hy.wpOp hi (hSi' hc hr hG) ⟨hup hG _, H⟩
    · have h1 := H.2 j (ready_mono hj hji)
      obtain ⟨hjun, oj, hoj, hall⟩ := mem_ready.1 hj
      have hnot : ∀ e ∈ oj.after, Region.binds .any e = true → e.on ≠ i := fun e he hb heq => by
        have h1 := hall e he hb
        have h0 := (mem_ready.1 hr).1
        rw [heq] at h1
        rcases Nat.lt_or_ge i listed.size with h' | h'
        · simp [h'] at h0 h1; rw [h0] at h1; cases h1
        · simp [Array.getElem?_eq_none h'] at h1
      have h2 := wpOp_putH hoj (hfree j oj hoj hji hjun hnot) (fun cs b => Region.noSelect_spec hsel i oi cs b hi) (fun cs b => Region.noSelect_spec hsel j oj cs b hoj) hQ hy h1
      have hfree' : ∀ q oq, ops[q]? = some oq → q ≠ i → (listed.setIfInBounds j true).getD q true = false → (∀ e ∈ oq.after, Region.binds .any e = true → e.on ≠ i) → oi.apart ops oq = true := fun q oq hq hqi hun hno => by
        refine hfree q oq hq hqi ?_ hno
        by_cases hjq : j = q
        · subst hjq; exact hjun
        · rw [getD_set_ne true hjq] at hun; exact hun
      have hr' := ready_mono hr (Ne.symm hji)
      have hc' := hc.set hj
      refine wpOpIn_mono (fun a' w' h3 => ?_) h2
      have hG' : G ops S (listed.setIfInBounds j true) w' := by
        rcases h3.2.1 with ⟨f, hf, hfl⟩ | hs
        · left
          refine ⟨f, hf, ?_⟩
          have hfi : i ≠ f := fun e => by rw [← e, hnfull] at hf; cases hf
          rw [Array.setIfInBounds_comm _ _ (Ne.symm hji), getD_set_ne false hfi] at hfl
          exact hfl
        · exact .inr hs
      refine ⟨hG', ih (listed.setIfInBounds j true) a' w' hc' hfree' hr' h3.1 hG' ?_⟩
      rw [Array.setIfInBounds_comm _ _ hji]
      exact h3.2.2
end
end PartOfUk
section PartOfUl
open Go Go.RowKit
section
variable {P : Program} {tb : Tab} {rec : Rec} {θ : Th} {base : Bs} {h : AH} {w : World}
theorem cellsAt_ok {id off size : Nat} {vs : List AV} (hx : cellsAt h id off size = some vs) : ∃ cs el row, h.m.get id = some (.cells cs el row) ∧ off + size ≤ cs.length ∧ vs = (cs.drop off).take size := by
  unfold cellsAt at hx
  split at hx
  · rename_i cs el row hm
    split at hx
    · rename_i hc; cases hx; exact ⟨cs, el, row, hm, hc, rfl⟩
    · cases hx
  · cases hx
def SW (θ : Th) (L : Held) (w : World) : Prop := ∀ id off vs, (id, off, vs) ∈ L → ∀ j v, vs[j]? = some v → w.cell? ⟨(θ id).b, off + j, none⟩ = some (conc θ v)
def SB (θ : Th) (n : Nat) (L : Held) : Prop := ∀ id off vs, (id, off, vs) ∈ L → id < n ∧ bdl θ n vs
theorem SW.of_cells (hR : R base θ h w) {id off size : Nat} {vs : List AV} (hx : cellsAt h id off size = some vs) : id < h.next ∧ bdl θ h.next vs ∧ ∀ j v, vs[j]? = some v → w.cell? ⟨(θ id).b, off + j, none⟩ = some (conc θ v) := by
  obtain ⟨cs, el, row, hm, hc, rfl⟩ := cellsAt_ok hx
  obtain ⟨hidn, _, hok⟩ := hR.obj id _ hm
  refine ⟨hidn, fun y hy => hok.1 y (List.mem_of_mem_drop (List.mem_of_mem_take hy)), fun j v hv => ?_⟩
  rw [List.getElem?_take] at hv
  split at hv
  · rw [List.getElem?_drop] at hv; exact hok.cell hv
  · cases hv
theorem keeps_ok : ∀ {L : Held} {h hs : AH} {θ : Th} {w : World}, All (keeps h hs L) → R base θ h w → SW θ L w
  | [], h, hs, θ, w, hk, hR => fun id off vs hm => by cases hm
  | (id, off, vs) :: L, h, hs, θ, w, hk, hR => by
    obtain ⟨h1, h2⟩ := hk
    intro id' off' vs' hm
    rcases List.mem_cons.1 hm with he | hm
    · cases he
      cases vs with
      | nil => intro j v hv; simp at hv
      | cons v vs => exact (SW.of_cells hR h1.p).2.2
    · exact keeps_ok h2 hR id' off' vs' hm
def SR (θ : Th) (h : AH) (w : World) : Prop := ∀ id r, h.ro.get id = some r → ∀ k j, k < r.n → j < r.sz → w.cell? ⟨(θ id).b, (θ id).o + (k * r.sz + j), none⟩ = some (.int .i64 (r.f k j))
def SO (θ : Th) (h : AH) (L : Held) (w : World) : Prop := ∀ id, rowHeld id L = true → ∀ sz n f, rowAt h id = some (sz, n, f) → ∀ k j, k < n → j < sz → w.cell? ⟨(θ id).b, (θ id).o + (k * sz + j), none⟩ = some (.int .i64 (f k j))
def SS (θ : Th) (h : AH) (L : Held) (w : World) : Prop := SW θ L w ∧ SR θ h w ∧ SO θ h L w
theorem rowHeld_lt {θ : Th} {n : Nat} {id : Nat} : ∀ {L : Held}, SB θ n L → rowHeld id L = true → id < n
  | [], hb, h => by cases h
  | (id', off, vs) :: L, hb, h => by
    have hb2 : SB θ n L := fun i o v hm => hb i o v (List.mem_cons_of_mem _ hm)
    cases vs with
    | nil =>
      simp only [rowHeld, Bool.or_eq_true] at h
      rcases h with h | h
      · rw [Nat.eq_of_beq_eq_true h]; exact (hb id' off [] (by simp)).1
      · exact rowHeld_lt hb2 h
    | cons v vs => exact rowHeld_lt hb2 h
theorem SO.of (hR : R base θ h w) (L : Held) : SO θ h L w := fun id _ sz n f hr => (rowAt_ok hR hr).2.1
theorem keepsO_ok {θs θ : Th} {hs : AH} (hE : Ext θs θ hs.next) {L' : Held} (hb : SB θs hs.next L') : ∀ {L : Held}, (∀ id, rowHeld id L = true → id < hs.next) → All (keeps h hs L) → R base θ h w → SO θs hs L w
  | [], hl, hk, hR => fun id hr => by cases hr
  | (id', off, vs) :: L, hl, hk, hR => fun id hr sz n f hrow => by
    obtain ⟨h1, h2⟩ := hk
    have hlt := hl id hr
    have hl2 : ∀ id, rowHeld id L = true → id < hs.next := fun i hi => hl i (by
      cases vs with
      | nil => simp [rowHeld, hi]
      | cons v vs => exact hi)
    cases vs with
    | cons v vs => exact keepsO_ok hE hb hl2 h2 hR id hr sz n f hrow
    | nil =>
      simp only [rowHeld, Bool.or_eq_true] at hr
      rcases hr with hr | hr
      · have := Nat.eq_of_beq_eq_true hr
        subst this
        have h1 := h1.p
        rw [hrow] at h1
        have := (rowAt_ok hR h1).2.1
        rw [hE id hlt] at this
        exact this
      · exact keepsO_ok hE hb hl2 h2 hR id hr sz n f hrow
theorem SR.of (hR : R base θ h w) {θ' : Th} {h' : AH} {w' : World} (hP : Post base θ h w θ' h' w') : SR θ h w' := fun id r hg k j hk hj => by
  obtain ⟨a, b, c⟩ := hR.rom id r hg
  have h0 : 0 < r.n := by omega
  rw [World.cell?_of_block (w := w) (hP.frame _ (b.lt h0) (c h0))]
  exact b.cell k j hk hj
theorem gather_ok (hR : R base θ h w) {ops : Array Oper} : ∀ (steps : List Step) (A : AA), SW θ (gather tb h ops steps A) w ∧ SB θ h.next (gather tb h ops steps A)
  | [], A => ⟨fun id off vs hm => (by cases hm), fun id off vs hm => (by cases hm)⟩
  | .only _ _ :: r, A => gather_ok hR r A
  | .bar _ :: r, A => gather_ok hR r A
  | .fst i _ :: r, A => by
    have nil : SW θ [] w ∧ SB θ h.next [] := ⟨fun id off vs hm => (by cases hm), fun id off vs hm => (by cases hm)⟩
    unfold gather
    split
    · exact gather_ok hR r A
    · split
      · split
        · exact gather_ok hR r _
        · exact nil
      · split
        · split
          · split
            · rename_i rid rsz rk rj _ _ _ _ v hv
              have hrow : ∃ q, rowAt h rid = some q := by
                cases hrr : rowAt h rid with
                | none => rw [hrr] at hv; cases hv
                | some q => exact ⟨q, rfl⟩
              obtain ⟨⟨sz', n', f⟩, hrow⟩ := hrow
              have hid := (rowAt_ok hR hrow).1
              split
              · obtain ⟨c1, c2⟩ := gather_ok hR (ops := ops) r ‹AA›
                split
                · exact ⟨c1, c2⟩
                · refine ⟨fun id off vs hm => ?_, fun id off vs hm => ?_⟩
                  · rcases List.mem_cons.1 hm with he | hm
                    · cases he; intro j v hv; simp at hv
                    · exact c1 id off vs hm
                  · rcases List.mem_cons.1 hm with he | hm
                    · cases he; exact ⟨hid, fun x hx => by cases hx⟩
                    · exact c2 id off vs hm
              · exact nil
            · exact gather_ok hR r A
          · split
            · rename_i vs hvs
              split
              · split
                · obtain ⟨c1, c2⟩ := gather_ok hR (ops := ops) r ‹AA›
                  have hc := SW.of_cells hR hvs
                  refine ⟨fun id off vs hm => ?_, fun id off vs hm => ?_⟩
                  · rcases List.mem_cons.1 hm with he | hm
                    · cases he; exact hc.2.2
                    · exact c1 id off vs hm
                  · rcases List.mem_cons.1 hm with he | hm
                    · cases he; exact ⟨hc.1, hc.2.1⟩
                    · exact c2 id off vs hm
                · exact nil
              · exact nil
            · exact gather_ok hR r A
          · exact gather_ok hR r A
        · exact gather_ok hR r A
theorem SW.ext {θ θ' : Th} {n : Nat} {L : Held} (hb : SB θ n L) (he : Ext θ θ' n) : SW θ' L w ↔ SW θ L w := by
  constructor
  · intro hs id off vs hm j v hv
    have := hs id off vs hm j v hv
    rwa [he id (hb id off vs hm).1, conc_ext he v ((hb id off vs hm).2 v (List.mem_of_getElem? hv))] at this
  · intro hs id off vs hm j v hv
    have := hs id off vs hm j v hv
    rwa [← he id (hb id off vs hm).1, ← conc_ext he v ((hb id off vs hm).2 v (List.mem_of_getElem? hv))] at this
theorem heldIn_ok : ∀ {L : Held} {id off size : Nat} {vs : List AV}, heldIn L id off size = some vs → (id, off, vs) ∈ L ∧ vs.length = size
  | [], id, off, size, vs, hx => by cases hx
  | (id', off', us) :: L, id, off, size, vs, hx => by
    simp only [heldIn] at hx
    split at hx
    · rename_i hc; obtain ⟨rfl, rfl, hl⟩ := hc; cases hx; exact ⟨by simp, hl⟩
    · obtain ⟨a, b⟩ := heldIn_ok hx; exact ⟨List.mem_cons_of_mem _ a, b⟩
theorem xfirst_ok (hB : TabOK P tb base) {L : Held} {hs : AH} {A A1 : AA} {h1 : AH} {ops : Array Oper} {o : Oper} {v : AV} (hx : xfirst tb hs L ops.toList A h o = some (v, A1, h1)) (hdf : ∀ c, o.op ≠ .defer c) :
    (h1.m = h.m ∧ h1.next = h.next ∧ h1.ro = h.ro) ∧ (All h1.sc → All h.sc) ∧ (All h1.sc → ∀ (θ θs : Th) (a : Act) (ws : World), R base θs hs ws → Ext θs θ hs.next → hs.next ≤ h.next → SB θ h.next L → AOK θ h.next A a →
      bd θ h.next v ∧ AOK θ h.next A1 a ∧ YieldsH P ops (fun w => isLoad o.op = true → SW θ L w ∧ SR θs hs w ∧ SO θs hs L w) o (conc θ v) a) := by
  unfold xfirst at hx
  split at hx
  · cases hx
  · rename_i b A2 h2 hw
    obtain ⟨⟨e1, e2, e3⟩, hm, hw'⟩ := wanted_ok hw
    split at hx
    · cases hx
      refine ⟨⟨e1, e2, e3⟩, hm, fun hsc θ θs a ws hRs hes hns hb hA => ?_⟩
      obtain ⟨hwa, hA1⟩ := hw' hsc θ h.next a hA
      exact ⟨by simp [bd], hA1, hdf, .inr ⟨hwa, by simp [conc]⟩⟩
    · split at hx
      · rename_i u hu
        cases hx
        refine ⟨⟨e1, e2, e3⟩, fun hs => hm (also_all.1 hs).2, fun hsc θ θs a ws hRs hes hns hb hA => ?_⟩
        obtain ⟨hsd, hs2⟩ := also_all.1 hsc
        obtain ⟨hwa, hA1⟩ := hw' hs2 θ h.next a hA
        exact ⟨(xpure_ok hB.ty hB.pair hA1.ev hu hsd default).1, hA1, hdf, .inl ⟨hwa, fun w _ => (xpure_ok hB.ty hB.pair hA1.ev hu hsd w).2⟩⟩
      · split at hx <;> try (cases hx; done)
        rename_i u hu
        cases hx
        refine ⟨⟨e1, e2, e3⟩, fun hs => hm (also_all.1 hs).2, fun hsc θ θs a ws hRs hes hns hb hA => ?_⟩
        obtain ⟨hsd, hs2⟩ := also_all.1 hsc
        obtain ⟨hwa, hA1⟩ := hw' hs2 θ h.next a hA
        unfold xheld at hu
        split at hu <;> try (cases hu; done)
        rename_i t ad hop
        split at hu <;> try (cases hu; done)
        · rename_i id off had
          split at hu <;> try (cases hu; done)
          rename_i i hi
          split at hu <;> try (cases hu; done)
          rename_i vs hvs
          obtain ⟨hmm, hl⟩ := heldIn_ok hvs
          obtain ⟨hidn, hbv⟩ := hb _ _ _ hmm
          have hTi := hB.ty t i hi
          have hal := (hA1.ev ad _ had).2
          have key : ∀ w, SW θ L w → bd θ h.next v ∧ (loadVar t ⟨(θ id).b, off, none⟩).run P w = .ok (conc θ v) w := fun w hsw => apart_cells hTi hbv hl (hsw _ _ _ hmm) hu
          refine ⟨?_, hA1, hdf, .inl ⟨hwa, fun w hs0 => ?_⟩⟩
          · unfold apart at hu
            split at hu
            · split at hu
              · cases hu; simp only [bd]; exact fun x hx => hbv x (List.mem_of_mem_drop (List.mem_of_mem_take hx))
              · cases hu
            · exact hbv v (List.mem_of_getElem? hu)
          · have hsw : SW θ L w := (hs0 (by rw [hop]; rfl)).1
            unfold execOp
            simp only [hop]
            refine run_val ?_
            simp only [Instr.loadAt, hal, conc, Instr.sureAddr, Sem.run_bind, Sem.run_pure, Result.andThen, (key w hsw).2]
        · rename_i id sz k j had
          split at hu <;> try (cases hu; done)
          rename_i hro
          have hal := (hA1.ev ad _ had).2
          obtain ⟨sz', n', f, hrow⟩ : ∃ sz' n' f, rowAt hs id = some (sz', n', f) := by
            cases hrr : rowAt hs id with
            | none => rw [hrr] at hu; cases hu
            | some q => exact ⟨q.1, q.2.1, q.2.2, rfl⟩
          have hid := (rowAt_ok hRs hrow).1
          have hth : θ id = θs id := hes id hid
          rw [hrow] at hu
          have hk : k < n' := by
            unfold lside at hsd
            simp only [hop, lside2, had, hrow] at hsd
            exact hsd.1.p
          have key : ∀ w, SR θs hs w ∧ SO θs hs L w → bd θ h.next v ∧ (loadVar t ⟨(θ id).b, (θ id).o + (k * sz + j), none⟩).run P w = .ok (conc θ v) w := fun w hsr => by
            have hx := hu
            unfold xLoadR at hx
            split at hx <;> try (cases hx; done)
            rename_i p q c heq
            cases heq
            split at hx <;> try (cases hx; done)
            rename_i hsz
            obtain rfl := Nat.eq_of_beq_eq_true hsz
            split at hx <;> try (cases hx; done)
            rename_i i hi
            split at hx <;> try (cases hx; done)
            rename_i hle
            have hle := Nat.le_of_ble_eq_true hle
            refine apart_cells (hB.ty t i hi) (icells_bd _ _) (icells_len _ _) (fun q u hu => ?_) hx
            obtain ⟨hq, rfl⟩ := icells_get _ _ _ _ hu
            have hcell : w.cell? ⟨(θs id).b, (θs id).o + (k * sz + (j + q)), none⟩ = some (.int .i64 (f k (j + q))) := by
              simp only [Bool.or_eq_true] at hro
              rcases hro with hro | hro
              · have hr2 := hrow
                unfold isRO at hro
                unfold rowAt at hr2
                split at hro <;> try (cases hro; done)
                rename_i hmn
                rw [hmn] at hr2
                simp only at hr2
                cases hr : hs.ro.get id with
                | none => rw [hr] at hr2; cases hr2
                | some r =>
                  rw [hr] at hr2
                  cases hr2
                  exact hsr.1 id r hr k (j + q) hk (by omega)
              · exact hsr.2 id hro _ _ _ hrow k (j + q) hk (by omega)
            rw [conc_lit, Nat.add_assoc, Nat.add_assoc, hth]
            exact hcell
          have hb0 : bd θ h.next v := by
            have hx := hu
            unfold xLoadR at hx
            split at hx <;> try (cases hx; done)
            rename_i p q c heq
            cases heq
            split at hx <;> try (cases hx; done)
            split at hx <;> try (cases hx; done)
            split at hx <;> try (cases hx; done)
            unfold apart at hx
            split at hx
            · split at hx
              · cases hx; simp only [bd]; exact fun x hx => icells_bd _ _ x (List.mem_of_mem_drop (List.mem_of_mem_take hx))
              · cases hx
            · exact icells_bd _ _ v (List.mem_of_getElem? hx)
          refine ⟨hb0, hA1, hdf, .inl ⟨hwa, fun w hs0 => ?_⟩⟩
          have hsr : SR θs hs w ∧ SO θs hs L w := (hs0 (by rw [hop]; rfl)).2
          unfold execOp
          simp only [hop]
          refine run_val ?_
          simp only [Instr.loadAt, hal, conc, Instr.sureAddr, Sem.run_bind, Sem.run_pure, Result.andThen, (key w hsr).2]
theorem pickFirst_ok {ops : Array Oper} {listed : Array Bool} : ∀ {l : List Nat} {i : Nat}, pickFirst ops listed l = some i → i ∈ l ∧ ∃ o, ops[i]? = some o ∧ firstKind o.op = true ∧ Region.free .any ops listed i = true
  | [], i, hx => by cases hx
  | k :: ks, i, hx => by
    simp only [pickFirst] at hx
    split at hx
    · rename_i o ho
      split at hx
      · rename_i hc
        cases hx
        simp only [Bool.and_eq_true] at hc
        exact ⟨by simp, o, ho, hc.1, hc.2⟩
      · obtain ⟨a, b⟩ := pickFirst_ok hx; exact ⟨List.mem_cons_of_mem _ a, b⟩
    · obtain ⟨a, b⟩ := pickFirst_ok hx; exact ⟨List.mem_cons_of_mem _ a, b⟩
theorem firstKind_defer {o : Oper} (hk : firstKind o.op = true) (c : Call) : o.op ≠ .defer c := fun hc => by rw [hc] at hk; cases hk
def U (ops : Array Oper) (LC : Array Bool) : Nat := (List.range ops.size).countP fun i => !LC.getD i true
theorem countP_le' {p q : Nat → Bool} (hpq : ∀ x, q x = true → p x = true) : ∀ l : List Nat, l.countP q ≤ l.countP p
  | [] => Nat.le_refl _
  | x :: xs => by
    have := countP_le' hpq xs
    rw [List.countP_cons, List.countP_cons]
    cases hq : q x with
    | false => simp; omega
    | true => simp [hpq x hq]; omega
theorem countP_lt' {p q : Nat → Bool} (hpq : ∀ x, q x = true → p x = true) {i : Nat} (hp : p i = true) (hq : q i = false) : ∀ l : List Nat, i ∈ l → l.countP q < l.countP p
  | [], h => by cases h
  | x :: xs, h => by
    rw [List.countP_cons, List.countP_cons]
    by_cases hx : i = x
    · subst hx
      have := countP_le' hpq xs
      simp [hp, hq]; omega
    · have := countP_lt' hpq hp hq xs ((List.mem_cons.1 h).resolve_left hx)
      cases hqx : q x with
      | false => simp; omega
      | true => simp [hpq x hqx]; omega
theorem U_set {ops : Array Oper} {LC : Array Bool} {i : Nat} (hi : i < ops.size) (hu : LC.getD i true = false) : U ops (LC.setIfInBounds i true) < U ops LC := by
  refine countP_lt' (fun x hx => ?_) (i := i) (by simpa using hu) ?_ _ (List.mem_range.2 hi)
  · by_cases hxi : i = x
    · subst hxi; simpa using hu
    · rw [getD_set_ne true hxi] at hx; exact hx
  · have hlt : i < LC.size := by
      rcases Nat.lt_or_ge i LC.size with h | h
      · exact h
      · simp [Array.getElem?_eq_none h] at hu
    simp [hlt]
structure Rel (ops : Array Oper) (L : Array Bool) (D : List Nat) (LC : Array Bool) : Prop where
  sl : L.size = ops.size
  sc : LC.size = ops.size
  get : ∀ j, j < ops.size → (LC.getD j false = true ↔ L.getD j false = true ∨ j ∈ D)
theorem getD_tf {L : Array Bool} {j : Nat} (hj : j < L.size) : L.getD j true = L.getD j false := by simp [hj]
theorem getD_lt {L : Array Bool} {j : Nat} (h : L.getD j true = false) : j < L.size := by
  rcases Nat.lt_or_ge j L.size with h' | h'
  · exact h'
  · simp [Array.getElem?_eq_none h'] at h
theorem getD_lt' {L : Array Bool} {j : Nat} (h : L.getD j false = true) : j < L.size := by
  rcases Nat.lt_or_ge j L.size with h' | h'
  · exact h'
  · simp [Array.getElem?_eq_none h'] at h
section
variable {ops : Array Oper} {L LC : Array Bool} {D : List Nat}
theorem Rel.set (hr : Rel ops L D LC) (i : Nat) : Rel ops (L.setIfInBounds i true) D (LC.setIfInBounds i true) := by
  refine ⟨by simp [hr.sl], by simp [hr.sc], fun j hj => ?_⟩
  by_cases hij : i = j
  · subst hij; simp [hr.sl, hr.sc, hj]
  · rw [getD_set_ne false hij, getD_set_ne false hij]; exact hr.get j hj
theorem Rel.more (hr : Rel ops L D LC) (i : Nat) : Rel ops L (i :: D) (LC.setIfInBounds i true) := by
  refine ⟨hr.sl, by simp [hr.sc], fun j hj => ?_⟩
  by_cases hij : i = j
  · subst hij; simp [hr.sc, hj]
  · rw [getD_set_ne false hij, hr.get j hj]
    simp [Ne.symm hij]
theorem mark_spec : ∀ {fl : List Nat} {L : Array Bool}, (mark L fl).size = L.size ∧ ∀ j, j < L.size → ((mark L fl).getD j false = true ↔ L.getD j false = true ∨ j ∈ fl)
  | [], L => ⟨rfl, fun j hj => by simp [mark]⟩
  | i :: is, L => by
    obtain ⟨a, b⟩ := mark_spec (fl := is) (L := L.setIfInBounds i true)
    refine ⟨by simp only [mark, a]; simp, fun j hj => ?_⟩
    simp only [mark]
    rw [b j (by simpa using hj)]
    by_cases hij : i = j
    · subst hij; simp [hj]
    · rw [getD_set_ne false hij]; simp [Ne.symm hij]
theorem Rel.all (hr : Rel ops L D LC) {fl : List Nat} (h1 : ∀ i ∈ D, i ∈ fl) (h2 : ∀ i ∈ fl, i ∈ D) : Rel ops (mark L fl) [] LC := by
  obtain ⟨a, b⟩ := mark_spec (fl := fl) (L := L)
  refine ⟨by rw [a]; exact hr.sl, hr.sc, fun j hj => ?_⟩
  rw [hr.get j hj, b j (by rw [hr.sl]; exact hj)]
  simp only [List.not_mem_nil, or_false]
  exact ⟨fun h => h.imp id (h1 j), fun h => h.imp id (h2 j)⟩
theorem Rel.ready1 (hr : Rel ops L D LC) {i : Nat} (hi : i ∈ Region.ready .any ops L) (hD : i ∉ D) : i ∈ Region.ready .any ops LC := by
  obtain ⟨h0, o, ho, hall⟩ := mem_ready.1 hi
  have hil : i < ops.size := by have := getD_lt h0; rw [hr.sl] at this; exact this
  refine mem_ready.2 ⟨?_, o, ho, fun e he hb => ?_⟩
  · rw [getD_tf (by rw [hr.sc]; exact hil)]
    cases hg : LC.getD i false with
    | false => rfl
    | true =>
      rcases (hr.get i hil).1 hg with h | h
      · rw [getD_tf (by rw [hr.sl]; exact hil)] at h0; rw [h] at h0; cases h0
      · exact absurd h hD
  · have hl := hall e he hb
    have hel : e.on < ops.size := by have := getD_lt' hl; rw [hr.sl] at this; exact this
    exact (hr.get e.on hel).2 (.inl hl)
theorem Rel.notD (hr : Rel ops L D LC) {j : Nat} (hj : j ∈ Region.ready .any ops LC) : j < ops.size ∧ j ∉ D ∧ L.getD j true = false := by
  obtain ⟨h0, _⟩ := mem_ready.1 hj
  have hjl : j < ops.size := by have := getD_lt h0; rw [hr.sc] at this; exact this
  rw [getD_tf (by rw [hr.sc]; exact hjl)] at h0
  refine ⟨hjl, fun hD => ?_, ?_⟩
  · rw [(hr.get j hjl).2 (.inr hD)] at h0; cases h0
  · rw [getD_tf (by rw [hr.sl]; exact hjl)]
    cases hg : L.getD j false with
    | false => rfl
    | true => rw [(hr.get j hjl).2 (.inl hg)] at h0; cases h0
theorem Rel.ready2 (hr : Rel ops L D LC) {fl : List Nat} (h1 : ∀ i ∈ D, i ∈ fl) {j : Nat} (hj : j ∈ Region.ready .any ops LC) (hjf : j ∉ fl) : j ∈ Region.ready .any ops (mark L fl) := by
  obtain ⟨hjl, _, hju⟩ := hr.notD hj
  obtain ⟨_, o, ho, hall⟩ := mem_ready.1 hj
  obtain ⟨a, b⟩ := mark_spec (fl := fl) (L := L)
  refine mem_ready.2 ⟨?_, o, ho, fun e he hb => ?_⟩
  · rw [getD_tf (by rw [a, hr.sl]; exact hjl)]
    rw [getD_tf (by rw [hr.sl]; exact hjl)] at hju
    cases hg : (mark L fl).getD j false with
    | false => rfl
    | true =>
      rcases (b j (by rw [hr.sl]; exact hjl)).1 hg with h | h
      · rw [h] at hju; cases hju
      · exact absurd h hjf
  · have hl := hall e he hb
    have hel : e.on < ops.size := by have := getD_lt' hl; rw [hr.sc] at this; exact this
    exact (b e.on (by rw [hr.sl]; exact hel)).2 (((hr.get e.on hel).1 hl).imp id (h1 _))
theorem Rel.ready0 (hr : Rel ops L [] LC) {j : Nat} (hj : j ∈ Region.ready .any ops LC) : j ∈ Region.ready .any ops L := by
  have := hr.ready2 (fl := []) (fun i hi => by cases hi) hj (by simp)
  exact this
end
theorem eval_tmps {a b : Act} (h : a.tmps = b.tmps) : a.eval = b.eval := by
  funext x; cases x <;> simp [Act.eval, h]
structure XD (P : Program) (ops : Array Oper) (base : Bs) (ws : World) (θ : Th) (h : AH) (a : Act) (w : World) (D : List Nat) (β : Nat → Nat) : Prop where
  each : ∀ i ∈ D, ∃ (o : Oper) (obj : Obj) (f : Nat → Value), ops[i]? = some o ∧ (∀ w', (execOp a.eval o).run P w' = .ok (.value (f w'.heap.size)) (w'.alloc obj)) ∧ (∀ d, o.dst = some d → a.tmps[d]? = some (f (β i))) ∧
    w.heap[β i]? = some obj ∧ base ≤ β i ∧ ws.heap.size ≤ β i ∧ NU θ h (β i)
  apart : ∀ i ∈ D, ∀ j ∈ D, i ≠ j → β i ≠ β j
section
variable {ops : Array Oper} {ws : World} {a a' : Act} {w' : World} {D : List Nat} {β : Nat → Nat} {θ' : Th} {h' : AH}
theorem XD.nil : XD P ops base ws θ h a w [] β := ⟨(fun i hi => by cases hi), (fun i hi => by cases hi)⟩
theorem XD.act (hX : XD P ops base ws θ h a w D β) (hsel : Region.noSelect ops = true) {dst : Option Tmp} (ht : ∃ v, a'.tmps = (a.put dst v).tmps) (hap : ∀ i ∈ D, ∀ o, ops[i]? = some o → (∀ d, dst = some d → d ∉ o.looksAt ops) ∧ ∀ d, dst = some d → o.dst ≠ some d) : XD P ops base ws θ h a' w D β := by
  obtain ⟨v, ht⟩ := ht
  refine ⟨fun i hi => ?_, hX.apart⟩
  obtain ⟨o, obj, f, ho, hrun, hd, rest⟩ := hX.each i hi
  obtain ⟨h1, h2⟩ := hap i hi o ho
  refine ⟨o, obj, f, ho, fun w' => ?_, fun d hdd => ?_, rest⟩
  · rw [eval_tmps ht, execOp_put o (fun cs b => Region.noSelect_spec hsel i o cs b ho) a dst v h1]; exact hrun w'
  · rw [ht]
    cases dst with
    | none => exact hd d hdd
    | some e =>
      have : e ≠ d := fun he => h2 e rfl (by rw [he]; exact hdd)
      simp only [Act.put, Array.getElem?_setIfInBounds_ne this]
      exact hd d hdd
theorem XD.post (hX : XD P ops base ws θ h a w D β) (hP : Post base θ h w θ' h' w') : XD P ops base ws θ' h' a w' D β := by
  refine ⟨fun i hi => ?_, hX.apart⟩
  obtain ⟨o, obj, f, ho, hrun, hd, hw, hb, hs, hu⟩ := hX.each i hi
  have hlt : β i < w.heap.size := (Array.getElem?_eq_some_iff.1 hw).1
  exact ⟨o, obj, f, ho, hrun, hd, by rw [hP.frame _ hlt hu.1]; exact hw, hb, hs, hu.post hP hlt⟩
theorem XD.same (hX : XD P ops base ws θ h a w D β) (e1 : h'.m = h.m) (e3 : h'.ro = h.ro) : XD P ops base ws θ h' a w D β := by
  refine ⟨fun i hi => ?_, hX.apart⟩
  obtain ⟨o, obj, f, ho, hrun, hd, hw, hb, hs, hu⟩ := hX.each i hi
  exact ⟨o, obj, f, ho, hrun, hd, hw, hb, hs, by unfold NU at hu ⊢; rw [e1, e3]; exact hu⟩
end
theorem xmem_fok (hB : TabOK P tb base) {ev : Operand → Option AV} {ρ : Operand → Value} (hE : EvOK θ h.next ev ρ) {o : Oper} (ha : isAlloc o.op = true) : FOK P base θ h (execOp ρ o) (xmem tb h ev o) := by
  unfold isAlloc at ha
  split at ha <;> try (cases ha; done)
  all_goals (rename_i ho; unfold xmem execOp; simp only [ho])
  · exact xAlloc_ok hB.ty
  · exact xBox_ok hE
  · exact xBuildSlice_ok hB.ty hE
  · exact xMakeMap_ok
theorem allocAt_ok {ops : Array Oper} {i : Nat} (hx : allocAt ops i = true) : ∃ o, ops[i]? = some o ∧ isAlloc o.op = true ∧ o.guard = none ∧ ∀ d, o.dst = some d → d ∉ o.looksAt ops := by
  unfold allocAt at hx
  split at hx
  · rename_i o ho
    simp only [Bool.and_eq_true, Option.isNone_iff_eq_none] at hx
    refine ⟨o, ho, hx.1.1, hx.1.2, fun d hd => ?_⟩
    have := hx.2
    rw [hd] at this
    simpa using this
  · cases hx
theorem isAlloc_defer {o : Oper} (hk : isAlloc o.op = true) (c : Call) : o.op ≠ .defer c := fun hc => by rw [hc] at hk; cases hk
theorem floatsOK_ok {A : AA} {ops : Array Oper} : ∀ {fl : List Nat}, floatsOK tb h A ops fl = true → ∀ j ∈ fl, ∃ o v h1, ops[j]? = some o ∧ (∀ d, o.dst = some d → A.t.get d = none ∧ d < A.n) ∧ xmem tb h A.ev o = .val v h1
  | [], _, j, hj => by cases hj
  | i :: is, hx, j, hj => by
    simp only [floatsOK, Bool.and_eq_true] at hx
    obtain ⟨h1, h2⟩ := hx
    rcases List.mem_cons.1 hj with rfl | hj
    · split at h1
      · rename_i o ho
        simp only [Bool.and_eq_true] at h1
        obtain ⟨hu, hv⟩ := h1
        unfold isVal at hv
        split at hv
        · rename_i v h1 hm
          refine ⟨o, v, h1, ho, fun d hd => ?_, hm⟩
          rw [hd] at hu
          simp only [unset, Bool.and_eq_true, Option.isNone_iff_eq_none] at hu
          exact ⟨hu.1, Nat.le_of_ble_eq_true hu.2⟩
        · cases hv
      · cases h1
    · exact floatsOK_ok h2 j hj
theorem pairs_ok {ops : Array Oper} {fl : List Nat} (hx : pairs ops fl = true) {i j : Nat} (hi : i ∈ fl) (hj : j ∈ fl) (hne : i ≠ j) {oi oj : Oper} (hoi : ops[i]? = some oi) (hoj : ops[j]? = some oj) : oi.apart ops oj = true := by
  simp only [pairs, List.all_eq_true] at hx
  have := hx i hi j hj
  simp only [Bool.or_eq_true, beq_iff_eq, hne, false_or] at this
  simpa [apartAt, hoi, hoj] using this
theorem float_ok (hB : TabOK P tb base) {ops : Array Oper} (hsel : Region.noSelect ops = true) {ws : World} {A : AA} {a : Act} {D : List Nat} {β : Nat → Nat} {fl : List Nat} (hR : R base θ h w) (hA : AOK θ h.next A a) (hX : XD P ops base ws θ h a w D β)
    (hsz : ws.heap.size ≤ w.heap.size) (hfl : ∀ i ∈ fl, allocAt ops i = true) (hDf : ∀ i ∈ D, i ∈ fl) (hpr : pairs ops fl = true) (hok : floatsOK tb h A ops fl = true) {j : Nat} (hj : j ∈ fl) (hjD : j ∉ D) {Q : Exit → Act → World → Prop} {ro : Option Nat} {K : Act → World → Prop}
    (hK : ∀ a' w' β', AOK θ h.next A a' → Below w.heap.size w w' → XD P ops base ws θ h a' w' (j :: D) β' → K a' w') : wpOpIn (FW ro) 0 P ops Q j K a w := by
  obtain ⟨o, v, h1, ho, hun, hm⟩ := floatsOK_ok hok j hj
  obtain ⟨o', ho', hal, hg, hself⟩ := allocAt_ok (hfl j hj)
  rw [ho] at ho'; cases ho'
  have hF := xmem_fok (P := P) (base := base) hB hA.ev hal (h := h) (θ := θ)
  rw [hm] at hF
  obtain ⟨_, _, obj, c, f, hrun, _⟩ := hF
  have hbel : Below w.heap.size w (w.alloc obj) := (Below.refl _ w).alloc (Nat.le_refl _) obj
  unfold wpOpIn
  simp only [ho]
  have hw : Region.wanted o (yielded ops a.tmps) = true := by simp [Region.wanted, hg]
  rw [hw]
  simp only [if_true]
  refine wpIn_val (isAlloc_defer hal) (hrun w) (hK _ _ (fun i => if i = j then w.heap.size else β i) ?_ hbel ?_)
  · refine ⟨?_, fun t u hu => ?_, ?_, hA.bds⟩
    · cases hd : o.dst <;> simp [Act.put, hA.size]
    · obtain ⟨p, q⟩ := hA.kt t u hu
      refine ⟨p, ?_⟩
      cases hd : o.dst with
      | none => exact q
      | some d =>
        have : d ≠ t := fun e => by rw [← e, (hun d hd).1] at hu; cases hu
        simp only [Act.put, Array.getElem?_setIfInBounds_ne this]; exact q
    · cases hd : o.dst <;> exact hA.ds
  · have hP : Post base θ h w θ h (w.alloc obj) := Post.more hR hbel
    have hap : ∀ i ∈ D, ∀ oi, ops[i]? = some oi → (∀ d, o.dst = some d → d ∉ oi.looksAt ops) ∧ ∀ d, o.dst = some d → oi.dst ≠ some d := fun i hi oi hoi => by
      have := Oper.apart_spec (pairs_ok hpr hj (hDf i hi) (fun e => hjD (e ▸ hi)) ho hoi)
      exact ⟨this.1, this.2.1⟩
    have hX' := (hX.act hsel ⟨f w.heap.size, rfl⟩ hap).post hP
    refine ⟨fun i hi => ?_, fun i hi i' hi' hne => ?_⟩
    · rcases List.mem_cons.1 hi with rfl | hi
      · simp only [if_true]
        refine ⟨o, obj, f, ho, fun w' => ?_, fun d hd => ?_, heap_alloc_new w obj, hR.size, hsz, ⟨fun id o' hg => Nat.ne_of_lt (hR.obj id o' hg).2.2.lt, fun id r hg h0 => Nat.ne_of_lt ((hR.rom id r hg).2.1.lt h0)⟩⟩
        · rw [execOp_put o (fun cs b => Region.noSelect_spec hsel i o cs b ho) a o.dst _ hself]
          exact hrun w'
        · simp only [hd, Act.put]; simp [hA.size, (hun d hd).2]
      · have : i ≠ j := fun e => hjD (e ▸ hi)
        simp only [this, if_false]
        exact hX'.each i hi
    · by_cases h1 : i = j <;> by_cases h2 : i' = j
      · exact absurd (h1.trans h2.symm) hne
      · subst h1
        simp only [if_true, h2, if_false]
        have hi'' := (List.mem_cons.1 hi').resolve_left h2
        obtain ⟨_, _, _, _, _, _, hw', _⟩ := hX.each i' hi''
        have := (Array.getElem?_eq_some_iff.1 hw').1
        omega
      · subst h2
        simp only [if_true, h1, if_false]
        have hi'' := (List.mem_cons.1 hi).resolve_left h1
        obtain ⟨_, _, _, _, _, _, hw', _⟩ := hX.each i hi''
        have := (Array.getElem?_eq_some_iff.1 hw').1
        omega
      · simp only [h1, h2, if_false]
        exact hX.apart i ((List.mem_cons.1 hi).resolve_left h1) i' ((List.mem_cons.1 hi').resolve_left h2) hne
theorem xfloats_ok (hB : TabOK P tb base) {ops : Array Oper} {ws : World} {θs : Th} {hs : AH} : ∀ {fl : List Nat} {θ : Th} {h h' : AH} {A A' : AA} {a : Act} {β : Nat → Nat}, xfloats tb ops fl A h = some (A', h') → Post base θs hs ws θ h w → AOK θ h.next A a → (∀ i ∈ fl, allocAt ops i = true) → fl.Nodup →
    XD P ops base ws θ h a w fl β → ∃ θ', Post base θs hs ws θ' h' w ∧ AOK θ' h'.next A' a ∧ Ext θ θ' h.next ∧ h.next ≤ h'.next ∧
      h'.ro = h.ro ∧ ∀ id o, h'.m.get id = some o → (∃ o', h.m.get id = some o' ∧ id < h.next) ∨ ∃ i ∈ fl, (θ' id).b = β i
  | [], θ, h, h', A, A', a, β, hx, hP, hA, hal, hnd, hX => by cases hx; exact ⟨θ, hP, hA, Ext.refl _ _, Nat.le_refl _, rfl, fun id o hg => .inl ⟨o, hg, (hP.r.obj id o hg).1⟩⟩
  | j :: js, θ, h, h', A, A', a, β, hx, hP, hA, hal, hnd, hX => by
    simp only [xfloats] at hx
    split at hx <;> try (cases hx; done)
    rename_i o ho
    split at hx <;> try (cases hx; done)
    rename_i v h1 hm
    split at hx <;> try (cases hx; done)
    rename_i A1 hput
    obtain ⟨o', ho', hall, hg, hself⟩ := allocAt_ok (hal j (by simp))
    rw [ho] at ho'; cases ho'
    have hF := xmem_fok (P := P) (base := base) hB hA.ev hall (h := h) (θ := θ)
    rw [hm] at hF
    obtain ⟨⟨hn1, hro1, hsc1⟩, hm1, obj, c, f, hrun, hall1⟩ := hF
    obtain ⟨o2, obj2, f2, ho2, hrun2, hd2, hw2, hb2, hs2, hu2⟩ := hX.each j (by simp)
    rw [ho] at ho2; cases ho2
    have hobj : obj2 = obj ∧ ∀ n, f2 n = f n := by
      have key : ∀ w' : World, f2 w'.heap.size = f w'.heap.size ∧ w'.alloc obj2 = w'.alloc obj := fun w' => by
        have := (hrun2 w').symm.trans (hrun w')
        simp only [Result.ok.injEq, Next.value.injEq] at this
        exact this
      refine ⟨?_, fun n => ?_⟩
      · have h2 := (key w).2
        have h3 := heap_alloc_new w obj2
        rw [h2, heap_alloc_new w obj] at h3
        exact (Option.some.inj h3).symm
      · have h2 := (key { w with heap := Array.replicate n default }).1
        simpa using h2
    obtain ⟨rfl, hff⟩ := hobj
    obtain ⟨r1, r2, r3⟩ := hall1 w (β j) hP.r hw2 hb2 hu2
    have hE := upd_ext θ h.next ⟨β j, c, some ⟨β j, 0, none⟩⟩
    have hP1 : Post base θs hs ws (upd θ h.next ⟨β j, c, some ⟨β j, 0, none⟩⟩) h1 w := by
      refine ⟨hP.ext.trans hE hP.next, by have := hP.next; omega, r1, hP.below, hP.frame, fun id o hg => ?_, fun id r hg h0 => by
        rw [hro1] at hg
        rw [hE id (hP.r.rom id r hg).1]
        exact hP.own2 id r hg h0⟩
      by_cases hid : id = h.next
      · subst hid; right; rw [upd_same]; exact hs2
      · rw [hm1 id hid] at hg
        rw [hE id (hP.r.obj id o hg).1]
        exact hP.own id o hg
    have hA1 : AOK (upd θ h.next ⟨β j, c, some ⟨β j, 0, none⟩⟩) h1.next A1 a := by
      have h0 := (hA.ext hE (show h.next ≤ h1.next by omega)).put hput r2
      have : a.put o.dst (conc (upd θ h.next ⟨β j, c, some ⟨β j, 0, none⟩⟩) v) = a := by
        cases hd : o.dst with
        | none => rfl
        | some d =>
          have := hd2 d hd
          rw [r3, ← hff]
          simp only [Act.put]
          congr 1
          apply Array.ext_getElem?
          intro t
          by_cases ht : d = t
          · subst ht
            have hlt := (Array.getElem?_eq_some_iff.1 this).1
            rw [this]
            simp [hlt]
          · rw [Array.getElem?_setIfInBounds_ne ht]
      rwa [this] at h0
    have hX1 : XD P ops base ws (upd θ h.next ⟨β j, c, some ⟨β j, 0, none⟩⟩) h1 a w js β := by
      refine ⟨fun i hi => ?_, fun i hi i' hi' => hX.apart i (by simp [hi]) i' (by simp [hi'])⟩
      obtain ⟨o3, obj3, f3, ho3, hr3, hd3, hw3, hb3, hs3, hu3⟩ := hX.each i (by simp [hi])
      refine ⟨o3, obj3, f3, ho3, hr3, hd3, hw3, hb3, hs3, fun id o hg => ?_, fun id r hg h0 => ?_⟩
      · by_cases hid : id = h.next
        · subst hid
          rw [upd_same]
          exact hX.apart j (by simp) i (by simp [hi]) (fun e => by subst e; exact (List.nodup_cons.1 hnd).1 hi)
        · rw [hm1 id hid] at hg
          rw [hE id (hP.r.obj id o hg).1]
          exact hu3.1 id o hg
      · rw [hro1] at hg
        rw [hE id (hP.r.rom id r hg).1]
        exact hu3.2 id r hg h0
    obtain ⟨θ', p1, p2, p3, p4, p6, p5⟩ := xfloats_ok hB hx hP1 hA1 (fun i hi => hal i (by simp [hi])) (List.nodup_cons.1 hnd).2 hX1
    refine ⟨θ', p1, p2, hE.trans p3 (by omega), by omega, p6.trans hro1, fun id o hg => ?_⟩
    rcases p5 id o hg with ⟨o', h', hlt⟩ | ⟨i, hi, e⟩
    · by_cases hid : id = h.next
      · subst hid
        exact .inr ⟨j, by simp, by rw [p3 h.next (by omega), upd_same]⟩
      · rw [hm1 id hid] at h'
        exact .inl ⟨o', h', by omega⟩
    · exact .inr ⟨i, by simp [hi], e⟩
theorem ready_nodup {ops : Array Oper} {L : Array Bool} : (Region.ready .any ops L).Nodup := by
  unfold Region.ready; exact List.Pairwise.filter _ List.nodup_range
theorem firstKind_alloc {op : Op} (h : firstKind op = true) : isAlloc op = false := by
  cases op <;> simp_all [firstKind, isAlloc]
theorem wpHeld_none {ops : Array Oper} {Q : Exit → Act → World → Prop} {S : World → Prop} {ro : Option Nat} {LC : Array Bool} {a : Act} (hr : Region.ready .any ops LC = []) (hq : Q .normal a w) : ∀ k, wpHeld P ops Q S ro k LC a w
  | 0 => ⟨hr, hq⟩
  | _ + 1 => ⟨fun _ => hq, fun i hi => absurd hi (by rw [hr]; simp)⟩
theorem alloc_not {o : Oper} {ev : Operand → Option AV} (hal : isAlloc o.op = true) : xpure tb ev o = none ∧ xload tb h ev o = none ∧ asDefer o.op = none := by
  unfold isAlloc at hal
  split at hal <;> first | (cases hal; done) | (rename_i ho; refine ⟨?_, ?_, ?_⟩ <;> simp only [xpure, xload, asDefer, ho])
theorem xop_alloc (hB : TabOK P tb base) {A A1 : AA} {a : Act} (hA : AOK θ h.next A a) {ops : Array Oper} {e1 : Nat} {o : Oper} (ho : ops[e1]? = some o) (hal : isAlloc o.op = true) (hgd : o.guard = none) {rd : Option Nat} {h1 : AH} (hop : xop tb rec ops.toList o rd A h = some (A1, h1)) :
    xfloats tb ops [e1] A h = some (A1, h1) := by
  obtain ⟨hpn, hln, hdn⟩ := alloc_not (tb := tb) (h := h) (ev := A.ev) hal
  unfold xop at hop
  have haw : awanted ops.toList A h o = some (true, A, h) := by simp [awanted, hgd]
  rw [haw] at hop
  simp only at hop
  unfold xop1 at hop
  rw [hpn, hln, hdn] at hop
  simp only at hop
  have hF := xmem_fok (P := P) (base := base) hB hA.ev hal (h := h) (θ := θ)
  simp only [xfloats, ho]
  generalize xmem tb h A.ev o = X at hop hF ⊢
  cases X with
  | val v h2 =>
    obtain ⟨hp, rfl⟩ := putH_ok hop
    simp only [hp]
  | skip h2 => exact hF.elim
  | enter f args => exact hF.elim
  | round id args => exact hF.elim
  | no => cases hop
theorem xdraw_sc (hB : TabOK P tb base) (hS : Sound P base rec) {rd : Option Nat} {ops : Array Oper} {hs : AH} : ∀ (l : List Step) {L : Held} {A A' : AA} {h h' : AH} {e : AExit}, xdraw tb rec rd ops hs l L A h = .ok e A' h' → (∀ i b r, l = .fst i b :: r → ∀ o, ops[i]? = some o → ∀ c, o.op ≠ .defer c) → (∀ i b, Step.fst i b ∈ l → ∀ o, ops[i]? = some o → ∀ c, o.op ≠ .defer c) → All h'.sc → All h.sc
  | [], L, A, A', h, h', e, hx, _, _, hs => by cases hx; exact hs
  | .fst i only :: l, L, A, A', h, h', e, hx, hd0, hd, hs => by
    simp only [xdraw] at hx
    split at hx
    · cases hx
    · rename_i o ho
      have hd2 : ∀ i b, Step.fst i b ∈ l → ∀ o, ops[i]? = some o → ∀ c, o.op ≠ .defer c := fun i b hm => hd i b (List.mem_cons_of_mem _ hm)
      have hd1 : ∀ i b r, l = .fst i b :: r → ∀ o, ops[i]? = some o → ∀ c, o.op ≠ .defer c := fun i b r he => hd2 i b (by rw [he]; simp)
      split at hx
      · rename_i v A1 h1 hf
        split at hx
        · exact (xfirst_ok hB hf (hd0 i only l rfl o ho)).2.1 (xdraw_sc hB hS l hx hd1 hd2 hs)
        · cases hx
      · split at hx
        · split at hx
          · rename_i A1 h1 hop
            have := xdraw_sc hB hS l hx hd1 hd2 hs
            exact (xop_ok hB hS hop).1 (also_all.1 this).2
          · cases hx
        · cases hx
  | .only i fl :: l, L, A, A', h, h', e, hx, hd0, hd, hs => by
    have hd2 : ∀ i b, Step.fst i b ∈ l → ∀ o, ops[i]? = some o → ∀ c, o.op ≠ .defer c := fun i b hm => hd i b (List.mem_cons_of_mem _ hm)
    have hd1 : ∀ i b r, l = .fst i b :: r → ∀ o, ops[i]? = some o → ∀ c, o.op ≠ .defer c := fun i b r he => hd2 i b (by rw [he]; simp)
    simp only [xdraw] at hx
    split at hx
    · cases hx
    · split at hx
      · split at hx
        · rename_i A1 h1 hop
          split at hx
          · exact (xop_ok hB hS hop).1 (xdraw_sc hB hS l hx hd1 hd2 hs)
          · exact (xop_ok hB hS hop).1 (also_all.1 (xdraw_sc hB hS l hx hd1 hd2 hs)).2
        · cases hx
      · cases hx
  | .bar fl :: l, L, A, A', h, h', e, hx, _, _, hs => by simp only [xdraw] at hx; cases hx
theorem plan_fst {ops : Array Oper} : ∀ (k : Nat) (listed : Array Bool) (steps : List Step), plan ops k listed = some steps → ∀ i b, Step.fst i b ∈ steps → ∀ o, ops[i]? = some o → ∀ c, o.op ≠ .defer c
  | 0, listed, steps, hp, i, b, hm => by
    simp only [plan] at hp
    split at hp
    · cases hp; cases hm
    · cases hp
  | k + 1, listed, steps, hp, i, b, hm => by
    simp only [plan] at hp
    split at hp
    · cases hp; cases hm
    · split at hp
      · rename_i i' hpf
        split at hp <;> try (cases hp; done)
        rename_i r hpl
        cases hp
        rcases List.mem_cons.1 hm with he | hm
        · cases he
          obtain ⟨_, o', ho', hfk, _⟩ := pickFirst_ok hpf
          intro o ho
          rw [ho'] at ho; cases ho
          exact firstKind_defer hfk
        · exact plan_fst k _ r hpl i b hm
      · have key : ∀ e1 fl, planOne ops listed (plan ops k) e1 fl = some steps → ∀ o, ops[i]? = some o → ∀ c, o.op ≠ .defer c := fun e1 fl hp1 => by
          unfold planOne at hp1
          split at hp1 <;> try (cases hp1; done)
          split at hp1 <;> try (cases hp1; done)
          rename_i r hpl
          cases hp1
          rcases List.mem_cons.1 hm with he | hm
          · cases he
          · exact plan_fst k _ r hpl i b hm
        unfold planEnd at hp
        split at hp
        · exact key _ _ hp
        · split at hp <;> try (cases hp; done)
          exact key _ _ hp
        · cases hp
set_option maxHeartbeats 1000000 in
theorem xdraw_ok (hB : TabOK P tb base) (hS : Sound P base rec) {ops : Array Oper} (hsel : Region.noSelect ops = true) {rd : Option Nat} {θs : Th} {hs : AH} {ws : World} {L : Held} (hRs : R base θs hs ws) (hb0 : SB θs hs.next L) (hrd0 : ∀ l, rd = some l → l < hs.next) {Q : Exit → Act → World → Prop} (hQp : ∀ c a w, ¬ Q (.panic c) a w) {A' : AA} {h' : AH} {e : AExit} (hsc : All h'.sc)
    (hQ : ∀ θ' a' w', Post base θs hs ws θ' h' w' → AOK θ' h'.next A' a' → Q .normal a' w') :
    ∀ (k : Nat) (listed : Array Bool) (steps : List Step), plan ops k listed = some steps → ∀ (kc : Nat) {θ : Th} {h : AH} {w : World} {A : AA} {a : Act} {D : List Nat} {LC : Array Bool} {β : Nat → Nat}, ∀ {L' : Held}, (L' = L ∨ L' = [] ∧ ∃ f, fullAt ops f = true ∧ listed.getD f false = true) → Post base θs hs ws θ h w → AOK θ h.next A a →
      G ops (SS θs hs L) LC w → Closed ops LC → xdraw tb rec rd ops hs steps L' A h = .ok e A' h' → Rel ops listed D LC → D.Nodup → (∀ i ∈ D, i ∈ Region.ready .any ops listed ∧ allocAt ops i = true) → XD P ops base ws θ h a w D β → U ops LC ≤ kc →
      wpHeld P ops Q (SS θs hs L) (rdB θs rd) kc LC a w := by
  intro k
  have fin : ∀ (listed : Array Bool) (kc : Nat) {θ : Th} {h : AH} {w : World} {A : AA} {a : Act} {D : List Nat} {LC : Array Bool} {L' : Held}, Region.ready .any ops listed = [] → Post base θs hs ws θ h w → AOK θ h.next A a → xdraw tb rec rd ops hs [] L' A h = .ok e A' h' → Rel ops listed D LC → (∀ i ∈ D, i ∈ Region.ready .any ops listed ∧ allocAt ops i = true) →
      wpHeld P ops Q (SS θs hs L) (rdB θs rd) kc LC a w := by
    intro listed kc θ h w A a D LC L' hr hP hA hx hrel hD
    cases hx
    have : D = [] := by
      cases D with
      | nil => rfl
      | cons i is => have := (hD i (by simp)).1; rw [hr] at this; cases this
    subst this
    refine wpHeld_none ?_ (hQ θ a w hP hA) kc
    cases hrc : Region.ready .any ops LC with
    | nil => rfl
    | cons j js => have := hrel.ready0 (j := j) (by rw [hrc]; simp); rw [hr] at this; cases this
  induction k with
  | zero =>
    intro listed steps hp kc θ h w A a D LC β L' hL hP hA hG hcl hx hrel hnd hD hX hU
    simp only [plan] at hp
    split at hp
    · rename_i hr; cases hp; exact fin listed kc hr hP hA hx hrel hD
    · cases hp
  | succ k ih =>
    intro listed steps hp kc θ h w A a D LC β L' hL hP hA hG hcl hx hrel hnd hD hX hU
    simp only [plan] at hp
    have hrdn : ∀ l, rd = some l → l < h.next := fun l hl => Nat.lt_of_lt_of_le (hrd0 l hl) hP.next
    have hLset : ∀ i, L' = L ∨ L' = [] ∧ ∃ f, fullAt ops f = true ∧ (listed.setIfInBounds i true).getD f false = true := fun i => hL.imp id fun ⟨e, f, hf, hfl⟩ => ⟨e, f, hf, getD_set_true hfl⟩
    have hgk : ∀ {LC : Array Bool} {D : List Nat} {h1 : AH} {θ' : Th} {w' : World} (j : Nat), Rel ops listed D LC → All (keeps h1 hs L') → Post base θs hs ws θ' h1 w' → G ops (SS θs hs L) (LC.setIfInBounds j true) w' := fun {LC D h1 θ' w'} j hrel hke hPP => by
      rcases hL with rfl | ⟨_, f, hf, hfl⟩
      · exact .inr ⟨(SW.ext hb0 hPP.ext).1 (keeps_ok hke hPP.r), SR.of hRs hPP, keepsO_ok hPP.ext hb0 (fun id hi => rowHeld_lt hb0 hi) hke hPP.r⟩
      · have hfs : f < ops.size := by have := getD_lt' hfl; rw [hrel.sl] at this; exact this
        exact .inl ⟨f, hf, getD_set_true ((hrel.get f hfs).2 (.inl hfl))⟩
    have hgf : ∀ {LC : Array Bool} {w w' : World} (j : Nat), Below w.heap.size w w' → G ops (SS θs hs L) LC w → G ops (SS θs hs L) (LC.setIfInBounds j true) w' := fun j hbel hg => hg.imp (fun ⟨f, hf, hfl⟩ => ⟨f, hf, getD_set_true hfl⟩) fun hSS => ⟨fun id off vs hm q u hq => by
      have := hSS.1 id off vs hm q u hq
      rw [hbel.cell (World.block_lt_of_cell? _ _ this)]; exact this, fun id r hg k j hk hj => by
      have := hSS.2.1 id r hg k j hk hj
      rw [hbel.cell (World.block_lt_of_cell? _ _ this)]; exact this, fun id hi sz n f hr k j hk hj => by
      have := hSS.2.2 id hi sz n f hr k j hk hj
      rw [hbel.cell (World.block_lt_of_cell? _ _ this)]; exact this⟩
    split at hp
    · rename_i hr; cases hp; exact fin listed kc hr hP hA hx hrel hD
    · rename_i i0 is hr
      split at hp
      · rename_i i hpf
        split at hp <;> try (cases hp; done)
        rename_i r hpl
        cases hp
        obtain ⟨hmem, o, ho, hfk, hfree⟩ := pickFirst_ok hpf
        have hiD : i ∉ D := fun hi => by
          obtain ⟨o', ho', hal, _⟩ := allocAt_ok (hD i hi).2
          rw [ho] at ho'; cases ho'
          rw [firstKind_alloc hfk] at hal; cases hal
        have hil : i ∈ Region.ready .any ops listed := by rw [hr]; exact hmem
        simp only [xdraw, ho] at hx
        have hpd := plan_fst k _ r hpl
        have hpd0 : ∀ i b r', r = .fst i b :: r' → ∀ o, ops[i]? = some o → ∀ c, o.op ≠ .defer c := fun i b r' he => hpd i b (by rw [he]; simp)
        split at hx
        · rename_i v Aw hw1 hv
          split at hx <;> try (cases hx; done)
          rename_i A1 hput
          have hbL : SB θs hs.next L' := by
            rcases hL with rfl | ⟨rfl, _⟩
            · exact hb0
            · exact fun id off vs hm => by cases hm
          have hbn : SB θ h.next L' := fun id off vs hm => ⟨Nat.lt_of_lt_of_le (hbL id off vs hm).1 hP.next, bdl_ext hP.ext hP.next (hbL id off vs hm).2⟩
          obtain ⟨⟨e1, e2, e3⟩, _, hxf⟩ := xfirst_ok hB hv (firstKind_defer hfk)
          have hscw : All hw1.sc := xdraw_sc hB hS r hx hpd0 hpd hsc
          obtain ⟨hbv, hAw, hy⟩ := hxf hscw θ θs a ws hRs hP.ext hP.next hbn hA
          have hLw : ∀ w, SW θs L w → SW θs L' w := fun w hs => by
            rcases hL with rfl | ⟨rfl, _⟩
            · exact hs
            · exact fun id off vs hm => by cases hm
          have hLo : ∀ w, SO θs hs L w → SO θs hs L' w := fun w hs => by
            rcases hL with rfl | ⟨rfl, _⟩
            · exact hs
            · exact fun id hi => by cases hi
          have hy' : YieldsH P ops (fun w => isLoad o.op = true → SS θs hs L w) o (conc θ v) a := ⟨hy.1, hy.2.imp (fun ⟨p, q⟩ => ⟨p, fun w hs => q w fun hl => ⟨(SW.ext hbL hP.ext).2 (hLw w (hs hl).1), (hs hl).2.1, hLo w (hs hl).2.2⟩⟩) id⟩
          have hSi : isLoad o.op = true ∧ (∀ w, SS θs hs L w → (isLoad o.op = true → SS θs hs L w)) ∨ ∀ w, (isLoad o.op = true → SS θs hs L w) := by
            cases hl : isLoad o.op with
            | true => exact .inl ⟨rfl, fun w hs _ => hs⟩
            | false => exact .inr fun w h => by cases h
          have hir := hrel.ready1 hil hiD
          obtain ⟨hisz, _, hiu⟩ := hrel.notD hir
          have hiu' : LC.getD i true = false := (mem_ready.1 hir).1
          have hUlt := U_set (ops := ops) hisz hiu'
          obtain ⟨kc', rfl⟩ : ∃ kc', kc = kc' + 1 := ⟨kc - 1, by omega⟩
          have hfs := Region.free_spec ho hfree
          refine wpHeld_first ho hfk hsel (fun c a w hq => (hQp c _ w hq).elim) hSi kc' LC a w hcl (fun j oj hj hne hun hno => hfs j oj hj hne ?_ hno) hir hy' hG ?_
          · have hjs : j < ops.size := (Array.getElem?_eq_some_iff.1 hj).1
            rw [getD_tf (by rw [hrel.sc]; exact hjs)] at hun
            rw [getD_tf (by rw [hrel.sl]; exact hjs)]
            cases hg : listed.getD j false with
            | false => rfl
            | true => rw [(hrel.get j hjs).2 (.inl hg)] at hun; cases hun
          · refine ih _ _ hpl kc' (hLset i) (hP.same e1 e2 e3) (by rw [e2]; exact hAw.put hput hbv) (hG.imp (fun ⟨f, hf, hfl⟩ => ⟨f, hf, getD_set_true hfl⟩) id) (hcl.set hir) hx (hrel.set i) hnd (fun d hd => ⟨ready_mono (hD d hd).1 (fun e => hiD (e ▸ hd)), (hD d hd).2⟩) ((hX.act hsel ⟨_, rfl⟩ fun d hd od hod => ?_).same e1 e3) (by omega)
            have hdr := mem_ready.1 (hD d hd).1
            have hap := hfs d od hod (fun e => hiD (e ▸ hd)) hdr.1 (fun e he hb heq => by
              obtain ⟨od', hod', hall⟩ := hdr.2
              rw [hod] at hod'; cases hod'
              have h1 := hall e he hb
              rw [heq] at h1
              rw [getD_tf (by rw [hrel.sl]; exact hisz)] at hiu
              rw [h1] at hiu; cases hiu)
            have := Oper.apart_spec hap
            exact ⟨this.1, this.2.1⟩
        · split at hx
          · rename_i hemp
            split at hx
            · rename_i A1 h1 hop
              · have hsk := xdraw_sc hB hS r hx hpd0 hpd hsc
                obtain ⟨hke, hsk1⟩ := also_all.1 hsk
                have hise : is = [] := by simpa using hemp
                subst hise
                obtain rfl := List.mem_singleton.1 hmem
                have hDn : D = [] := by
                  cases D with
                  | nil => rfl
                  | cons d ds =>
                    have := (hD d (by simp)).1
                    rw [hr] at this
                    exact absurd (by rw [List.mem_singleton.1 this]; simp) hiD
                subst hDn
                have hir := hrel.ready1 hil hiD
                have hUlt := U_set (ops := ops) (hrel.notD hir).1 (mem_ready.1 hir).1
                obtain ⟨kc', rfl⟩ : ∃ kc', kc = kc' + 1 := ⟨kc - 1, by omega⟩
                refine ⟨fun h0 => absurd h0 (fun h0 => by rw [h0] at hir; cases hir), fun j hj => ?_⟩
                have hj' := hrel.ready0 hj
                rw [hr] at hj'
                obtain rfl := List.mem_singleton.1 hj'
                unfold wpOpIn
                simp only [ho]
                have := (xop_ok hB hS hop).2 hsk1 hP.r hA (K := fun a' w' => G ops (SS θs hs L) (LC.setIfInBounds j true) w' ∧ wpHeld P ops Q (SS θs hs L) (rdB θs rd) kc' (LC.setIfInBounds j true) a' w') (Q := Q) fun θ' a' w' hP' hA' _ => by
                  have hPP := (hP.trans hP').also (ps := keeps h1 hs L')
                  have hg' := hgk j hrel hke (hP.trans hP')
                  exact ⟨hg', ih _ _ hpl kc' (hLset j) hPP hA' hg' (hcl.set hj) hx (hrel.set j) List.nodup_nil (fun d hd => by cases hd) (XD.nil (β := β)) (by omega)⟩
                rwa [rdB_ext hP.ext hrd0] at this
            · cases hx
          · cases hx
      · rename_i hpf
        have hfl0 : ∀ {D : List Nat}, (∀ i ∈ D, i ∈ Region.ready .any ops listed ∧ allocAt ops i = true) → ∀ i ∈ D, i ∈ (i0 :: is).filter (allocAt ops) := fun hD i hi => List.mem_filter.2 ⟨by rw [← hr]; exact (hD i hi).1, (hD i hi).2⟩
        have hflm : ∀ i ∈ (i0 :: is).filter (allocAt ops), i ∈ Region.ready .any ops listed ∧ allocAt ops i = true := fun i hi => by
          obtain ⟨a, b⟩ := List.mem_filter.1 hi; exact ⟨by rw [hr]; exact a, b⟩
        obtain ⟨e1, fl, hp1, he1r, hflr, hDfl⟩ : ∃ e1 fl, planOne ops listed (plan ops k) e1 fl = some steps ∧ e1 ∈ Region.ready .any ops listed ∧ (∀ i ∈ fl, i ∈ Region.ready .any ops listed ∧ allocAt ops i = true) ∧
            (∀ {D : List Nat}, (∀ i ∈ D, i ∈ Region.ready .any ops listed ∧ allocAt ops i = true) → ∀ i ∈ D, i = e1 ∨ i ∈ fl) := by
          generalize hES : (i0 :: is).filter (fun i => !allocAt ops i) = es at hp
          unfold planEnd at hp
          split at hp
          · rename_i e1
            refine ⟨e1, _, hp, ?_, hflm, fun hD i hi => .inr (hfl0 hD i hi)⟩
            have : e1 ∈ (i0 :: is).filter (fun i => !allocAt ops i) := by rw [hES]; simp
            rw [hr]; exact (List.mem_filter.1 this).1
          · split at hp <;> try (cases hp; done)
            rename_i e1 hpo
            have hmem : ∀ {l : List Nat}, pickOne ops listed ((i0 :: is).filter (allocAt ops)) l = some e1 → e1 ∈ l := by
              intro l
              induction l with
              | nil => intro h; cases h
              | cons j js ihj =>
                intro h
                simp only [pickOne] at h
                split at h
                · cases h; simp
                · exact List.mem_cons_of_mem _ (ihj h)
            refine ⟨e1, _, hp, (hflm e1 (hmem hpo)).1, fun i hi => hflm i (List.mem_filter.1 hi).1, fun hD i hi => ?_⟩
            by_cases hie : i = e1
            · exact .inl hie
            · exact .inr (List.mem_filter.2 ⟨hfl0 hD i hi, by simpa using hie⟩)
          · cases hp
        unfold planOne at hp1
        split at hp1 <;> try (cases hp1; done)
        rename_i hcok
        simp only [onlyOK, Bool.and_eq_true, decide_eq_true_eq] at hcok
        obtain ⟨⟨hc1, hc2⟩, hc3⟩ := hcok
        split at hp1 <;> try (cases hp1; done)
        rename_i r hpl
        cases hp1
        simp only [xdraw] at hx
        split at hx <;> try (cases hx; done)
        rename_i o ho
        split at hx <;> try (cases hx; done)
        rename_i hfo
        split at hx <;> try (cases hx; done)
        rename_i A1 h1 hop
        have hpd := plan_fst k _ r hpl
        have hpd0 : ∀ i b r', r = .fst i b :: r' → ∀ o, ops[i]? = some o → ∀ c, o.op ≠ .defer c := fun i b r' he => hpd i b (by rw [he]; simp)
        obtain ⟨L1, h1k, hL1, hx1, hs1, ⟨f1, f2, f3⟩, hg1⟩ : ∃ L1 h1k, (L1 = L ∨ L1 = [] ∧ ∃ f, fullAt ops f = true ∧ (listed.setIfInBounds e1 true).getD f false = true) ∧ xdraw tb rec rd ops hs r L1 A1 h1k = .ok e A' h' ∧ All h1.sc ∧ (h1k.m = h1.m ∧ h1k.next = h1.next ∧ h1k.ro = h1.ro) ∧
            ∀ {LC : Array Bool} {D : List Nat} {θ' : Th} {w' : World}, Rel ops listed D LC → e1 < ops.size → Post base θs hs ws θ' h1 w' → G ops (SS θs hs L) (LC.setIfInBounds e1 true) w' := by
          split at hx
          · rename_i hfull
            refine ⟨[], h1, ?_, hx, xdraw_sc hB hS r hx hpd0 hpd hsc, ⟨rfl, rfl, rfl⟩, fun {LC D θ' w'} hrel hsz hPP => .inl ⟨e1, hfull, by simp [hrel.sc, hsz]⟩⟩
            have hsz : e1 < ops.size := (Array.getElem?_eq_some_iff.1 ho).1
            exact .inr ⟨rfl, e1, hfull, by simp [hrel.sl, hsz]⟩
          · obtain ⟨hke, hsk1⟩ := also_all.1 (xdraw_sc hB hS r hx hpd0 hpd hsc)
            exact ⟨L', _, hLset e1, hx, hsk1, ⟨rfl, rfl, rfl⟩, fun {LC D θ' w'} hrel _ hPP => hgk e1 hrel hke hPP⟩
        have he1s : e1 < ops.size := (Array.getElem?_eq_some_iff.1 ho).1
        have inner : ∀ (kc : Nat) {w : World} {a : Act} {D : List Nat} {LC : Array Bool} {β : Nat → Nat}, Post base θs hs ws θ h w → AOK θ h.next A a → G ops (SS θs hs L) LC w → Closed ops LC → Rel ops listed D LC → D.Nodup → (∀ i ∈ D, i ∈ Region.ready .any ops listed ∧ allocAt ops i = true) → XD P ops base ws θ h a w D β → U ops LC ≤ kc →
            wpHeld P ops Q (SS θs hs L) (rdB θs rd) kc LC a w := by
          intro kc
          have there : ∀ {kc : Nat} {w : World} {a : Act} {D : List Nat} {LC : Array Bool} {β : Nat → Nat}, e1 ∈ D → Post base θs hs ws θ h w → AOK θ h.next A a → G ops (SS θs hs L) LC w → Closed ops LC → Rel ops listed D LC → D.Nodup → (∀ i ∈ D, i ∈ Region.ready .any ops listed ∧ allocAt ops i = true) → XD P ops base ws θ h a w D β → U ops LC ≤ kc →
              wpHeld P ops Q (SS θs hs L) (rdB θs rd) kc LC a w := by
            intro kc w a D LC β he1D hP hA hG hcl hrel hnd hD hX hU
            have hal1 := (hD e1 he1D).2
            obtain ⟨o', ho', hal, hgd, hself⟩ := allocAt_ok hal1
            rw [ho] at ho'; cases ho'
            have hxf : xfloats tb ops [e1] A h = some (A1, h1) := xop_alloc (P := P) hB hA ho hal hgd hop
            have hX1 : XD P ops base ws θ h a w [e1] β := ⟨fun i hi => by rw [List.mem_singleton.1 hi]; exact hX.each e1 he1D, fun i hi j hj hne => absurd ((List.mem_singleton.1 hi).trans (List.mem_singleton.1 hj).symm) hne⟩
            obtain ⟨θ', hP', hA', hE', hn', hro', hown'⟩ := xfloats_ok hB hxf hP hA (fun i hi => by rw [List.mem_singleton.1 hi]; exact hal1) (by simp) hX1
            have hsub : ∀ i ∈ without D e1, i ∈ D ∧ i ≠ e1 := fun i hi => by
              obtain ⟨p, q⟩ := List.mem_filter.1 hi; exact ⟨p, by simpa using q⟩
            have hrel' : Rel ops (listed.setIfInBounds e1 true) (without D e1) LC := by
              refine ⟨by simp [hrel.sl], hrel.sc, fun j hj => ?_⟩
              rw [hrel.get j hj]
              by_cases hje : e1 = j
              · subst hje; simp [hrel.sl, hj, he1D]
              · rw [getD_set_ne false hje]
                constructor
                · rintro (h | h)
                  · exact .inl h
                  · exact .inr (List.mem_filter.2 ⟨h, by simpa using Ne.symm hje⟩)
                · rintro (h | h)
                  · exact .inl h
                  · exact .inr (hsub j h).1
            have hX2 : XD P ops base ws θ' h1 a w (without D e1) β := by
              refine ⟨fun i hi => ?_, fun i hi j hj => hX.apart i (hsub i hi).1 j (hsub j hj).1⟩
              obtain ⟨o4, obj4, f4, ho4, hr4, hd4, hw4, hb4, hs4, hu4⟩ := hX.each i (hsub i hi).1
              refine ⟨o4, obj4, f4, ho4, hr4, hd4, hw4, hb4, hs4, fun id o' hg => ?_, fun id r hg h0 => by rw [hro'] at hg; rw [hE' id (hP.r.rom id r hg).1]; exact hu4.2 id r hg h0⟩
              rcases hown' id o' hg with ⟨o'', h'', hlt⟩ | ⟨i', hi', e⟩
              · rw [hE' id hlt]; exact hu4.1 id o'' h''
              · rw [e, List.mem_singleton.1 hi']
                exact hX.apart e1 he1D i (hsub i hi).1 (fun e => (hsub i hi).2 e.symm)
            have hG1 : G ops (SS θs hs L) (LC.setIfInBounds e1 true) w := hG.imp (fun ⟨f, hf, hfl⟩ => ⟨f, hf, getD_set_true hfl⟩) id
            exact ih _ _ hpl kc hL1 (hP'.same f1 f2 f3) (by rw [f2]; exact hA') hG hcl hx1 hrel' (List.Pairwise.filter _ hnd) (fun i hi => ⟨ready_mono (hD i (hsub i hi).1).1 (hsub i hi).2, (hD i (hsub i hi).1).2⟩) (hX2.same f1 f3) hU
          induction kc with
          | zero =>
            intro w a D LC β hP hA hG hcl hrel hnd hD hX hU
            by_cases heD : e1 ∈ D
            · exact there heD hP hA hG hcl hrel hnd hD hX hU
            · have hir := hrel.ready1 he1r heD
              have := U_set (ops := ops) (hrel.notD hir).1 (mem_ready.1 hir).1
              omega
          | succ kc ihk =>
            intro w a D LC β hP hA hG hcl hrel hnd hD hX hU
            by_cases heD : e1 ∈ D
            · exact there heD hP hA hG hcl hrel hnd hD hX hU
            have hDf : ∀ i ∈ D, i ∈ fl := fun i hi => (hDfl hD i hi).resolve_left (fun e => heD (e ▸ hi))
            have hir := hrel.ready1 he1r heD
            refine ⟨fun h0 => absurd h0 (fun h0 => by rw [h0] at hir; cases hir), fun j hj => ?_⟩
            obtain ⟨hjs, hjD, hju⟩ := hrel.notD hj
            have hUlt := U_set (ops := ops) hjs (mem_ready.1 hj).1
            by_cases hjf : j ∈ fl
            · refine float_ok hB hsel hP.r hA hX hP.below.size (fun i hi => (hflr i hi).2) hDf hc3 hfo hjf hjD fun a' w' β' hA' hbel hX' => ?_
              have hP' := hP.trans (Post.more hP.r hbel)
              have hs' := hgf j hbel hG
              exact ⟨hs', ihk hP' hA' hs' (hcl.set hj) (hrel.more j) (List.nodup_cons.2 ⟨hjD, hnd⟩) (fun i hi => by
                rcases List.mem_cons.1 hi with rfl | hi
                · exact hflr i hjf
                · exact hD i hi) hX' (by omega)⟩
            · have hj2 := hrel.ready2 hDf hj hjf
              rw [hc1] at hj2
              obtain rfl := List.mem_singleton.1 hj2
              unfold wpOpIn
              simp only [ho]
              have := (xop_ok hB hS hop).2 hs1 hP.r hA (K := fun a' w' => G ops (SS θs hs L) (LC.setIfInBounds j true) w' ∧ wpHeld P ops Q (SS θs hs L) (rdB θs rd) kc (LC.setIfInBounds j true) a' w') (Q := Q) fun θ' a' w' hP' hA' ht => by
                have hPP := hP.trans hP'
                have hg' := hg1 hrel hjs hPP
                refine ⟨hg', ih _ _ hpl kc hL1 (hPP.same f1 f2 f3) (by rw [f2]; exact hA') hg' (hcl.set hj) hx1 (hrel.set j) hnd (fun d hd => ⟨ready_mono (hD d hd).1 (fun e => heD (e ▸ hd)), (hD d hd).2⟩) (((hX.act hsel ht fun d hd od hod => ?_).post hP').same f1 f3) (by omega)⟩
                have hap := List.all_eq_true.1 hc2 d (hDf d hd)
                simp only [apartAt, ho, hod] at hap
                have := Oper.apart_spec hap
                exact ⟨this.1, this.2.1⟩
              rwa [rdB_ext hP.ext hrd0] at this
        exact inner kc hP hA hG hcl hrel hnd hD hX hU
theorem norm_of_xdraw {rd : Option Nat} {ops : Array Oper} {hs : AH} : ∀ (l : List Step) {L : Held} {A A' : AA} {h h' : AH} {e : AExit}, xdraw tb rec rd ops hs l L A h = .ok e A' h' → e = .norm
  | [], L, A, A', h, h', e, hx => by cases hx; rfl
  | .fst i only :: l, L, A, A', h, h', e, hx => by
    simp only [xdraw] at hx
    split at hx
    · cases hx
    · split at hx
      · split at hx
        · exact norm_of_xdraw l hx
        · cases hx
      · split at hx
        · split at hx
          · exact norm_of_xdraw l hx
          · cases hx
        · cases hx
  | .only i fl :: l, L, A, A', h, h', e, hx => by
    simp only [xdraw] at hx
    split at hx
    · cases hx
    · split at hx
      · split at hx
        · split at hx
          · exact norm_of_xdraw l hx
          · exact norm_of_xdraw l hx
        · cases hx
      · cases hx
  | .bar fl :: l, L, A, A', h, h', e, hx => by simp only [xdraw] at hx; cases hx
theorem erase_ok {n : Nat} : ∀ (l : List Oper) {A : AA} {a : Act}, AOK θ n A a → AOK θ n (erase l A) a
  | [], A, a, hA => hA
  | o :: os, ⟨t, m, ds⟩, a, hA => by
    unfold erase
    split
    · rename_i d t' m' ds' _ _ heq
      cases heq
      split
      · rename_i hd
        refine erase_ok os ⟨hA.size, fun i v hv => ?_, hA.ds, hA.bds⟩
        by_cases hi : i = d
        · subst hi
          rw [T.get_set_same _ 11 _ _ (Nat.lt_of_le_of_lt (Nat.succ_le_succ (Nat.le_of_lt hd)) (by decide))] at hv; cases hv
        · rw [T.get_set_other _ _ _ _ _ hi] at hv; exact hA.kt i v hv
      · exact erase_ok os hA
    · exact erase_ok os hA
theorem xdrawn_ok (hB : TabOK P tb base) (hS : Sound P base rec) {A A' : AA} {rd : Option Nat} {id : Nat} {ops : Array Oper} {e : AExit} {h' : AH} (hx : xdrawn tb rec rd ops A h = .ok e A' h') :
    (All h'.sc → All h.sc) ∧ (All h'.sc → ∀ (θ : Th) (a : Act) (w : World), R base θ h w → AOK θ h.next A a → (∀ l, rd = some l → l < h.next) → (Code.region id ops true).wpIn (FW (rdB θ rd)) 0 P (Behind base θ h w e A' h') a w) := by
  unfold xdrawn at hx
  split at hx <;> try (cases hx; done)
  rename_i steps hpl
  unfold planOf at hpl
  split at hpl <;> try (cases hpl; done)
  rename_i hsel
  have hpd := plan_fst _ _ steps hpl
  refine ⟨xdraw_sc hB hS steps hx (fun i b r' he => hpd i b (by rw [he]; simp)) hpd, fun hsc θ a w hR hA hrd => ?_⟩
  have hne := norm_of_xdraw steps hx
  subst hne
  have hA0 := erase_ok ops.toList hA
  have hbel : Below w.heap.size w { w with drawn := w.drawn + 1 } := ⟨rfl, rfl, rfl, Nat.le_refl _, fun _ _ => rfl⟩
  have hP0 := Post.more hR hbel
  obtain ⟨g1, g2⟩ := gather_ok (tb := tb) hP0.r (ops := ops) steps (erase ops.toList A)
  refine wpIn_region_any hB.mixed (wpAny_of_wpHeld (S := SS θ h (gather tb h ops steps (erase ops.toList A))) _ _ _ _ ?_)
  refine xdraw_ok hB hS hsel hR g2 hrd (fun c a w hq => absurd hq.1 (by simp [concE])) hsc (fun θ' a' w' hP hA' => ⟨rfl, θ', hP, hA'⟩) ops.size _ steps hpl ops.size (D := []) (LC := Array.replicate ops.size false) (β := fun _ => 0) (.inl rfl) hP0 hA0 (.inr ⟨g1, SR.of hR hP0, SO.of hP0.r _⟩) (fun f o ho hf => by simp [(Array.getElem?_eq_some_iff.1 ho).1] at hf) hx ⟨by simp, by simp, fun j hj => by simp⟩ List.nodup_nil (fun d hd => by cases hd) XD.nil ?_
  have := List.countP_le_length (p := fun i => !(Array.replicate ops.size false).getD i true) (l := List.range ops.size)
  simpa [U] using this
theorem least_of {p : Nat → Prop} : ∀ n, p n → ∃ k, p k ∧ ∀ j, p j → k ≤ j := fun n => by
  induction n using Nat.strongRecOn with
  | _ n ih =>
    intro hn
    by_cases hx : ∃ j, j < n ∧ p j
    · obtain ⟨j, hj, hp⟩ := hx; exact ih j hj hp
    · exact ⟨n, hn, fun j hj => by
        by_cases h : n ≤ j
        · exact h
        · exact absurd ⟨j, by omega, hj⟩ hx⟩
theorem wpIn_loop_iter {F : Fence} {n : Nat} {Q : Exit → Act → World → Prop} {a : Act} {w : World} {c : Code} (J : Nat → Act → World → Prop) {k : Nat} (h0 : J k a w)
    (round : ∀ k a w, J k a w → c.wpIn F n P (Exit.then (fun a' w' => ∃ k', k' < k ∧ J k' a' w') Q) a w) : (Code.loop c).wpIn F n P Q a w := by
  classical
  have hl : ∀ a w, (∃ k, J k a w) → ∃ k, J k a w ∧ ∀ j, J j a w → k ≤ j := fun a w ⟨k, hk⟩ => least_of k hk
  refine wpIn_loop (fun a w => ∃ k, J k a w) (fun a w => if hx : ∃ k, J k a w then Classical.choose (hl a w hx) else 0) ⟨k, h0⟩ fun a w hI => ?_
  obtain ⟨hmin, _⟩ := Classical.choose_spec (hl a w hI)
  refine wpIn_mono (round _ a w hmin) fun e a' w' he => ?_
  cases e with
  | normal =>
    obtain ⟨k', hk', hJ⟩ := he
    refine ⟨⟨k', hJ⟩, ?_⟩
    have hex : ∃ k, J k a' w' := ⟨k', hJ⟩
    rw [dif_pos hex, dif_pos hI]
    exact Nat.lt_of_le_of_lt ((Classical.choose_spec (hl a' w' hex)).2 k' hJ) hk'
  | _ => exact he
theorem xloop_sc (hS : Sound P base rec) {c : Code} {rd : Option Nat} : ∀ {k : Nat} {h : AH} {A A' : AA} {h' : AH} {e : AExit}, xloop rec c rd k A h = .ok e A' h' → All h'.sc → All h.sc
  | 0, h, A, A', h', e, hx, _ => by cases hx
  | k + 1, h, A, A', h', e, hx, hs => by
    change (match rec c rd A h with | .ok .norm A' h' => xloop rec c rd k A' h' | .ok e A' h' => .ok e A' h' | .no => .no) = .ok e A' h' at hx
    split at hx
    · rename_i A1 h1 hr; exact (hS _ _ _ _ _ _ _ hr).1 (xloop_sc hS hx hs)
    · rename_i e1 A1 h1 hne hr; cases hx; exact (hS _ _ _ _ _ _ _ hr).1 hs
    · cases hx
theorem xloop_ok (hS : Sound P base rec) {c : Code} {rd : Option Nat} : ∀ {k : Nat} {θ : Th} {h : AH} {w : World} {A A' : AA} {a : Act} {h' : AH} {e : AExit}, R base θ h w → AOK θ h.next A a → (∀ l, rd = some l → l < h.next) →
    xloop rec c rd k A h = .ok e A' h' → All h'.sc → (Code.loop c).wpIn (FW (rdB θ rd)) 0 P (Behind base θ h w e A' h') a w := by
  intro k θ0 h0 w0 A0 A' a0 h' e hR0 hA0 hrd0 hx0 hsc
  refine wpIn_loop_iter (fun k a w => ∃ θ h A, Post base θ0 h0 w0 θ h w ∧ AOK θ h.next A a ∧ xloop rec c rd k A h = .ok e A' h') (k := k) ⟨θ0, h0, A0, Post.refl hR0, hA0, hx0⟩ ?_
  rintro k a w ⟨θ, h, A, hP, hA, hx⟩
  cases k with
  | zero => cases hx
  | succ k =>
    change (match rec c rd A h with | .ok .norm A' h' => xloop rec c rd k A' h' | .ok e A' h' => .ok e A' h' | .no => .no) = .ok e A' h' at hx
    have hrd : ∀ l, rd = some l → l < h.next := fun l hl => Nat.lt_of_lt_of_le (hrd0 l hl) hP.next
    split at hx
    · rename_i A1 h1 hr
      have hb := (hS _ _ _ _ _ _ _ hr).2 (xloop_sc hS hx hsc) θ a w hP.r hA hrd
      rw [rdB_ext hP.ext hrd0] at hb
      refine wpIn_mono hb fun ex a' w' he => ?_
      obtain ⟨rfl, θ', hP', hA'⟩ := he
      exact ⟨k, Nat.lt_succ_self _, θ', h1, A1, hP.trans hP', hA', hx⟩
    · rename_i e1 A1 h1 hne hr
      cases hx
      have hb := (hS _ _ _ _ _ _ _ hr).2 hsc θ a w hP.r hA hrd
      rw [rdB_ext hP.ext hrd0] at hb
      refine wpIn_mono hb fun ex a' w' he => ?_
      obtain ⟨rfl, θ', hP', hA'⟩ := he
      cases e with
      | norm => first | exact (hne rfl).elim | exact (hne _ _ rfl).elim | exact (hne _ _ hr).elim
      | _ => exact ⟨rfl, θ', hP.trans hP', hA'⟩
    · cases hx
theorem xrange_ok (hB : TabOK P tb base) (hS : Sound P base rec) {A A' : AA} {rd : Option Nat} {g : Operand} {ps : Array Tmp} {assign body : Code} {e : AExit} {h' : AH}
    (hx : xrange tb rec g ps assign body rd A h = .ok e A' h') : (All h'.sc → All h.sc) ∧ (All h'.sc → ∀ (θ : Th) (a : Act) (w : World), R base θ h w → AOK θ h.next A a → (∀ l, rd = some l → l < h.next) → (Code.rangeFunc g ps assign body).wpIn (FW (rdB θ rd)) 0 P (Behind base θ h w e A' h') a w) := by
  unfold xrange at hx
  split at hx <;> try (cases hx; done)
  rename_i dfr mark h0 hd
  split at hx <;> try (cases hx; done)
  rename_i h1 hadd
  split at hx <;> try (cases hx; done)
  rename_i f first cap hg
  split at hx <;> try (cases hx; done)
  rename_i v h2 hc
  split at hx <;> try (cases hx; done)
  rename_i r hm
  split at hx <;> try (cases hx; done)
  rename_i hbusy
  split at hx <;> try (cases hx; done)
  rename_i h3 hset
  have e0 : h0.sc = h.sc := by
    cases rd with
    | none =>
      simp only at hd
      split at hd <;> try (cases hd; done)
      rename_i h0' ha
      cases hd
      exact (AH.add_spec ha).2.2.2.2
    | some l =>
      simp only at hd
      split at hd <;> try (cases hd; done)
      cases hd; rfl
  have e1 : h1.sc = h0.sc := (AH.add_spec hadd).2.2.2.2
  have e3 : h3.sc = h2.sc := (AH.put_spec hset).2.2.2.2
  have hcall0 := xcall_ok hB hS hc
  have hup : All h'.sc → All h3.sc := by
    split at hx
    · cases hx; exact fun hs => hs
    · exact (hS _ _ _ _ _ _ _ hx).1
  have hall : All h'.sc → All h2.sc := fun hs => by rw [← e3]; exact hup hs
  refine ⟨fun hs => by rw [← e0, ← e1]; exact hcall0.1 (hall hs), fun hsc θ a w hR hA hrd => ?_⟩
  refine wpIn_rangeFunc fun fn _ => ?_
  obtain ⟨θ0, w0, hP0, hdfr, hbm, henter⟩ : ∃ θ0 w0, Post base θ h w θ0 h0 w0 ∧ dfr < h0.next ∧ (∀ d ∈ mark, bdD θ0 h0.next d) ∧
      (Instr.enterLoop fn a.tmps ps assign body (rdB θ rd)).run P w = .ok (w0.heap.size, mark.map (concD θ0)) (w0.alloc (.loop { state := .ready, pending := none, fn, tmps := a.tmps, params := ps, assign, body, defers := (θ0 dfr).b })) := by
    cases rd with
    | none =>
      simp only at hd
      split at hd <;> try (cases hd; done)
      rename_i h0' ha
      cases hd
      have hsame := upd_same θ h.next ⟨w.heap.size, 0, none⟩
      have hsp := AH.add_spec ha
      refine ⟨upd θ h.next ⟨w.heap.size, 0, none⟩, w.alloc (.deferred (some [])), ?_, by omega, ?_, ?_⟩
      · exact Post.add hR ha (Nat.le_refl _) (fun k hk => Below.heap_alloc w _ k hk) ((Below.refl base w).alloc hR.size _) (show (w.alloc _).heap[(upd θ h.next ⟨w.heap.size, 0, none⟩ h.next).b]? = _ by rw [hsame]; exact heap_alloc_new w _)
      · intro d hd; obtain rfl := List.mem_singleton.1 hd; show h.next < _; omega
      · rw [show rdB θ none = none from rfl, run_enterLoop_outer]
        simp [concD, hsame]
    | some l =>
      simp only at hd
      split at hd <;> try (cases hd; done)
      rename_i r' hl
      cases hd
      obtain ⟨hln, _, hlo⟩ := hR.obj l _ hl
      obtain ⟨hdn, L, hL, _, _, _, _, _, _, _, _, hdef⟩ := hlo
      refine ⟨θ, w, Post.refl hR, hdn, (fun d hd => by cases hd), ?_⟩
      unfold Instr.enterLoop
      simp only [rdB, Option.map_some, Sem.run_bind, run_getLoop hL, Result.andThen, Sem.run_pure, run_newObj_alloc, hdef, List.map_nil]
  have hA0 := hA.ext hP0.ext hP0.next
  have hsp1 := AH.add_spec hadd
  have hsame := upd_same θ0 h0.next ⟨w0.heap.size, 0, none⟩
  have hE1 := upd_ext θ0 h0.next ⟨w0.heap.size, 0, none⟩
  have hP1 : Post base θ0 h0 w0 (upd θ0 h0.next ⟨w0.heap.size, 0, none⟩) h1 (w0.alloc (.loop { state := .ready, pending := none, fn, tmps := a.tmps, params := ps, assign, body, defers := (θ0 dfr).b })) := by
    refine Post.add hP0.r hadd (Nat.le_refl _) (fun k hk => Below.heap_alloc w0 _ k hk) ((Below.refl base w0).alloc hP0.r.size _) ⟨by show dfr < h0.next + 1; omega, _, by rw [hsame]; exact heap_alloc_new w0 _, fun _ => rfl, fun _ => by simp, rfl, rfl, rfl, rfl, hA0.kt.ext hE1 (Nat.le_succ _), hA0.size, by rw [hE1 dfr hdfr]⟩
  have hA1 := hA0.ext hP1.ext hP1.next
  obtain ⟨hbf, hf'⟩ := hA1.ev g _ hg
  simp only [bd] at hbf
  have hba : bdl (upd θ0 h0.next ⟨w0.heap.size, 0, none⟩) h1.next (first ++ [AV.yld h0.next] ++ cap) := fun y hy => by
    rcases List.mem_append.1 hy with hy | hy
    · rcases List.mem_append.1 hy with hy | hy
      · exact hbf.1 y hy
      · obtain rfl := List.mem_singleton.1 hy; simp only [bd]; omega
    · exact hbf.2 y hy
  obtain ⟨hent, hcall⟩ := hcall0.2 (hall hsc) _ _ hP1.r hba
  refine ⟨w0.heap.size, mark.map (concD θ0), (w0.alloc (.loop { state := .ready, pending := none, fn, tmps := a.tmps, params := ps, assign, body, defers := (θ0 dfr).b })), { target := .fn (.func f) (cap.map (conc (upd θ0 h0.next ⟨w0.heap.size, 0, none⟩))).toArray, args := (first.map (conc (upd θ0 h0.next ⟨w0.heap.size, 0, none⟩))).toArray ++ #[.func (.yield w0.heap.size) #[] #[]] }, (w0.alloc (.loop { state := .ready, pending := none, fn, tmps := a.tmps, params := ps, assign, body, defers := (θ0 dfr).b })), f, ((first ++ [AV.yld h0.next] ++ cap).map (conc (upd θ0 h0.next ⟨w0.heap.size, 0, none⟩))).toArray, (w0.alloc (.loop { state := .ready, pending := none, fn, tmps := a.tmps, params := ps, assign, body, defers := (θ0 dfr).b })), henter, ?_, fun _ _ => trivial, ?_, by simp [FW, Fence.wide], ?_⟩
  · simp only [resolve, rangeCall, hf', conc, Deferred.ofValue]
    simp [Act.eval]
  · have e1 : (first.map (conc (upd θ0 h0.next ⟨w0.heap.size, 0, none⟩))).toArray ++ #[.func (.yield w0.heap.size) #[] #[]] ++ (cap.map (conc (upd θ0 h0.next ⟨w0.heap.size, 0, none⟩))).toArray = ((first ++ [AV.yld h0.next] ++ cap).map (conc (upd θ0 h0.next ⟨w0.heap.size, 0, none⟩))).toArray := by
      simp [conc, hsame]
    simp only [invoke, e1]
    exact hent _ _
  · refine (FW_calls hcall).mono fun ex w' he => ?_
    obtain ⟨θ2, rfl, hbv, hP2⟩ := he
    obtain ⟨hidn, hbase, hok⟩ := hP2.r.obj h0.next _ hm
    obtain ⟨hdn, L, hL, hst, hst', hpend, hps, has, hbo, hkt, hnt, hdef⟩ := hok
    have hbeq : (θ2 h0.next).b = w0.heap.size := by rw [hP2.ext h0.next (by omega), hsame]
    rw [hbeq] at hL hbase
    have hlt : w0.heap.size < w'.heap.size := (Array.getElem?_eq_some_iff.1 hL).1
    have hbf' : r.busy = false := by cases hb : r.busy <;> simp_all
    have hsp3 := AH.put_spec hset
    have hP3 : Post base θ2 h2 w' θ2 h3 (w'.putObj w0.heap.size (.loop { L with state := .exhausted })) := by
      refine Post.put hP2.r hm hset (fun k hk => World.putObj_heap_other (by rw [← hbeq]; exact hk)) (by simp) (putObj_below hbase) ?_
      refine ⟨hdn, { L with state := .exhausted }, by rw [hbeq]; exact World.putObj_heap_same hlt, ?_, fun _ => by simp, hpend, hps, has, hbo, hkt, hnt, hdef⟩
      intro hx
      rcases hx with hx | hx
      · simp at hx
      · rw [hbf'] at hx; cases hx
    have hPall := (hP0.trans hP1).trans (hP2.trans hP3)
    have hA3 : AOK θ2 h3.next { A with ds := mark ++ A.ds } { a with defers := mark.map (concD θ0) ++ a.defers } := by
      have hA2 := hA.ext hPall.ext hPall.next
      refine ⟨hA2.size, hA2.kt, ?_, fun d hd => ?_⟩
      · have : mark.map (concD θ2) = mark.map (concD θ0) := List.map_congr_left fun d hd => concD_ext ((hP1.trans (hP2.trans hP3)).ext) (hbm d hd)
        simp only [List.map_append, this, hA2.ds]
      · rcases List.mem_append.1 hd with hd | hd
        · exact bdD_ext (hP1.trans (hP2.trans hP3)).ext (hP1.trans (hP2.trans hP3)).next (hbm d hd)
        · exact hA2.bds d hd
    refine ⟨r.pending, w'.putObj w0.heap.size (.loop { L with state := .exhausted }), by rw [← hpend]; exact run_endLoop (P := P) hL (hst' hbf'), ?_⟩
    split at hx
    · rename_i hpn
      cases hx
      rw [hpn]
      exact ⟨rfl, θ2, hPall, hA3⟩
    · rename_i c hpn
      rw [hpn]
      have hb := (hS _ _ _ _ _ _ _ hx).2 hsc θ2 _ _ hP3.r hA3 (fun l hl => Nat.lt_of_lt_of_le (hrd l hl) hPall.next)
      rw [rdB_ext hPall.ext hrd] at hb
      refine wpIn_mono hb fun ex a' w'' he => ?_
      obtain ⟨hex, θ', hP', hA'⟩ := he
      exact ⟨hex, θ', hPall.trans hP', hA'⟩
theorem wpIn_scope {F : Fence} {n : Nat} {Q : Exit → Act → World → Prop} {a : Act} {w : World} {c : Code} (hq : ∀ l a w, ¬ Q (.goto l) a w) (hx : c.wpIn F n P Q a w) : (Code.scope c).wpIn F n P Q a w := by
  intro b k cs hro hb hr
  have h0 : (lone (b.atR a (.code (.scope c) :: k)) cs w).fenced P F := fenced_calm hb hr rfl
  have s0 : step P (lone (b.atR a (.code (.scope c) :: k)) cs w) = .next (lone (b.atR a (.code c :: .inScope c :: k)) cs w) := step_lone_go (by simp [stepG, stepG.exec, Frame.atR])
  have s1 : ∀ a w, step P (lone (b.atR a (.inScope c :: k)) cs w) = .next (lone (b.atR a k) cs w) := fun a w => step_lone_go (by simp [stepG, stepG.exec, Frame.atR])
  obtain ⟨e, a₁, w₁, hQ, harr⟩ := hx b (.inScope c :: k) cs hro hb hr
  cases e with
  | normal => exact ⟨.normal, a₁, w₁, hQ, .head h0 s0 (StepsIn.trans harr (.one (fenced_calm hb hr rfl) (s1 _ _)))⟩
  | exit id =>
    have hx : exitTo id (.inScope c :: k) = exitTo id k := by simp [exitTo]
    exact ⟨_, a₁, w₁, hQ, fun k' hk => .head h0 s0 (harr.1 k' (by rw [hx]; exact hk)), fun hr' hk => let ⟨k₁, h1, h2⟩ := harr.2 hr' (by rw [hx]; exact hk); ⟨k₁, h1, .head h0 s0 h2⟩⟩
  | goto l => exact (hq _ _ _ hQ).elim
  | ret => exact ⟨_, a₁, w₁, hQ, .of_steps (.one h0 s0) harr⟩
  | panic ch => exact ⟨_, a₁, w₁, hQ, .of_steps (.one h0 s0) harr⟩
  | outgrown => exact ⟨_, a₁, w₁, hQ, .of_steps (.one h0 s0) harr⟩
theorem stepE_ok (hB : TabOK P tb base) (hS : Sound P base rec) : Sound P base (stepE tb rec) := by
  intro c rd A h e A' h' hx
  unfold stepE at hx
  split at hx
  · cases hx; exact ⟨fun hs => hs, fun hs θ a w hR hA hrd => wpIn_skip ⟨rfl, θ, Post.refl hR, hA⟩⟩
  · cases hx; exact ⟨fun hs => hs, fun hs θ a w hR hA hrd => wpIn_label ⟨rfl, θ, Post.refl hR, hA⟩⟩
  · rename_i id ops draw
    cases draw with
    | true => exact xdrawn_ok hB hS hx
    | false =>
      simp only [Bool.false_eq_true, if_false] at hx
      have he := norm_of_xops _ hx
      subst he
      obtain ⟨k1, k2⟩ := xops_ok hB hS ops.toList 0 (by simp) hx
      refine ⟨k1, fun hs θ a w hR hA hrd => wpIn_region ?_⟩
      have := k2 hs hR hA hrd (Q := Behind base θ h w .norm A' h') fun θ' a' w' _ hP hA' => ⟨rfl, θ', hP, hA'⟩
      rw [List.range_eq_range', ← Array.length_toList]
      exact this
  · rename_i x y
    split at hx
    · rename_i A1 h1 hr
      have h1S := hS _ _ _ _ _ _ _ hr
      have h2S := hS _ _ _ _ _ _ _ hx
      refine ⟨fun hs => h1S.1 (h2S.1 hs), fun hs θ a w hR hA hrd => wpIn_seq ?_⟩
      refine wpIn_mono (h1S.2 (h2S.1 hs) θ a w hR hA hrd) fun ex a' w' he => ?_
      obtain ⟨rfl, θ', hP, hA1⟩ := he
      have hb := h2S.2 hs θ' a' w' hP.r hA1 (fun l hl => Nat.lt_of_lt_of_le (hrd l hl) hP.next)
      rw [rdB_ext hP.ext hrd] at hb
      refine wpIn_mono hb fun ex a'' w'' he => ?_
      obtain ⟨hex, θ'', hP', hA'⟩ := he
      exact ⟨hex, θ'', hP.trans hP', hA'⟩
    · rename_i e1 A1 h1 hne hr
      cases hx
      have h1S := hS _ _ _ _ _ _ _ hr
      refine ⟨h1S.1, fun hs θ a w hR hA hrd => wpIn_seq ?_⟩
      refine wpIn_mono (h1S.2 hs θ a w hR hA hrd) fun ex a' w' he => ?_
      obtain ⟨rfl, θ', hP, hA1⟩ := he
      cases e with
      | norm => first | exact (hne rfl).elim | exact (hne _ _ rfl).elim | exact (hne _ _ hr).elim
      | _ => exact ⟨rfl, θ', hP, hA1⟩
    · cases hx
  · rename_i cnd x y
    split at hx
    · rename_i t ht
      have hS1 := hS _ _ _ _ _ _ _ hx
      refine ⟨hS1.1, fun hs θ a w hR hA hrd => ?_⟩
      have hc := (hA.ev cnd _ ht).2
      rw [conc_lit] at hc
      exact wpIn_cond hc (hS1.2 hs θ a w hR hA hrd)
    · rename_i b hb
      split at hx <;> try (cases hx; done)
      rename_i t h1 hask
      obtain ⟨e1, e2, e3, e4⟩ := ask_ok hask
      have hS1 := hS _ _ _ _ _ _ _ hx
      refine ⟨fun hs => (e4.1 (hS1.1 hs)).2, fun hs θ a w hR hA hrd => ?_⟩
      have hbt := (e4.1 (hS1.1 hs)).1
      have hc := (hA.ev cnd _ hb).2
      simp only [conc, hbt] at hc
      refine wpIn_cond hc (wpIn_mono (hS1.2 hs θ a w (hR.same e1 e2 e3) (by rw [e2]; exact hA) (by rw [e2]; exact hrd)) fun ex a' w' he => ?_)
      obtain ⟨hex, θ', hP, hA'⟩ := he
      exact ⟨hex, θ', ((Post.refl hR).same e1 e2 e3).trans hP, hA'⟩
    · cases hx
  · rename_i id cc
    split at hx
    · rename_i e1 A1 h1 hr
      cases hx
      have hS1 := hS _ _ _ _ _ _ _ hr
      refine ⟨hS1.1, fun hs θ a w hR hA hrd => ?_⟩
      refine wpIn_block (wpIn_mono (hS1.2 hs θ a w hR hA hrd) fun ex a' w' he => ?_)
      obtain ⟨rfl, θ', hP, hA1⟩ := he
      cases e1 with
      | norm => exact ⟨rfl, θ', hP, hA1⟩
      | exit i =>
        show if i = id then _ else _
        by_cases hi : i = id
        · rw [if_pos hi]; exact ⟨by simp [hi, concE], θ', hP, hA1⟩
        · rw [if_neg hi]; exact ⟨by simp [hi, concE], θ', hP, hA1⟩
      | goto l => exact ⟨rfl, θ', hP, hA1⟩
      | ret => exact ⟨rfl, θ', hP, hA1⟩
    · cases hx
  · exact ⟨xloop_sc hS hx, fun hs θ a w hR hA hrd => xloop_ok hS hR hA hrd hx hs⟩
  · cases hx; exact ⟨fun hs => hs, fun hs θ a w hR hA hrd => wpIn_exit ⟨rfl, θ, Post.refl hR, hA⟩⟩
  · cases hx; exact ⟨fun hs => hs, fun hs θ a w hR hA hrd => wpIn_goto ⟨rfl, θ, Post.refl hR, hA⟩⟩
  · cases hx; exact ⟨fun hs => hs, fun hs θ a w hR hA hrd => wpIn_ret ⟨rfl, θ, Post.refl hR, hA⟩⟩
  · exact xrange_ok hB hS hx
  · split at hx
    · cases hx
    · rename_i hne
      have hS1 := hS _ _ _ _ _ _ _ hx
      refine ⟨hS1.1, fun hs θ a w hR hA hrd => ?_⟩
      refine wpIn_scope (fun l a' w' hq => ?_) (hS1.2 hs θ a w hR hA hrd)
      have := hq.1
      cases e with
      | goto l' => first | exact hne _ _ _ hx | exact hne _ _ _ rfl
      | norm => cases this
      | exit i => cases this
      | ret => cases this
  · cases hx
theorem exec_sound (hB : TabOK P tb base) : ∀ n, Sound P base (exec tb n)
  | 0 => fun c rd A h e A' h' hx => by cases hx
  | n + 1 => stepE_ok hB (exec_sound hB n)
end
end PartOfUl
section PartOfUm
open Go Go.RowKit
structure Ent where
  θ : Th
  h : AH
  w : World
abbrev Post3 := AExit → AA → AH → Prop
def Tri (P : Program) (base : Bs) (E : Ent) (c : Code) (A : AA) (h : AH) (Q : Post3) : Prop :=
  ∀ θ a w, Post base E.θ E.h E.w θ h w → AOK θ h.next A a →
    c.wpIn (FW none) 0 P (fun ex a' w' => ∃ e A' h' θ', ex = concE e ∧ Q e A' h' ∧ Post base E.θ E.h E.w θ' h' w' ∧ AOK θ' h'.next A' a') a w
def AH.start (h : AH) (o : List Bool) : AH := match h with
  | ⟨m, next, ro, _, _⟩ => ⟨m, next, ro, [], o⟩
def pathP (r : Res) (Q : Post3) : Prop := match r with
  | .ok e A h => All h.sc ∧ Q e A h
  | .no => False
section
variable {P : Program} {tb : Tab} {base : Bs} {E : Ent}
theorem Tri.mono {c : Code} {A : AA} {h : AH} {Q Q' : Post3} (hx : Tri P base E c A h Q) (hq : ∀ e A h, Q e A h → Q' e A h) : Tri P base E c A h Q' :=
  fun θ a w hP hA => wpIn_mono (hx θ a w hP hA) fun ex a' w' ⟨e, A', h', θ', h1, h2, h3⟩ => ⟨e, A', h', θ', h1, hq _ _ _ h2, h3⟩
theorem Tri.path (hB : TabOK P tb base) (n : Nat) (o : List Bool) {c : Code} {A : AA} {h : AH} {Q : Post3} (hp : pathP (exec tb n c none A (h.start o)) Q) : Tri P base E c A h Q := by
  intro θ a w hP hA
  unfold pathP at hp
  split at hp
  · rename_i e A' h' hx
    obtain ⟨hs, hq⟩ := hp
    have hst : (h.start o).m = h.m ∧ (h.start o).next = h.next ∧ (h.start o).ro = h.ro := by cases h; exact ⟨rfl, rfl, rfl⟩
    obtain ⟨e1, e2, e3⟩ := hst
    have := (exec_sound hB n _ _ _ _ _ _ _ hx).2 hs θ a w (hP.r.same e1 e2 e3) (by rw [e2]; exact hA) (by simp)
    refine wpIn_mono this fun ex a' w' hbe => ?_
    obtain ⟨hex, θ', hP', hA'⟩ := hbe
    exact ⟨e, A', h', θ', hex, hq, (hP.same e1 e2 e3).trans hP', hA'⟩
  · exact hp.elim
theorem Tri.seq {x y : Code} {A : AA} {h : AH} {Q : Post3} (hx : Tri P base E x A h (fun e A' h' => (e = .norm → Tri P base E y A' h' Q) ∧ (e ≠ .norm → Q e A' h'))) : Tri P base E (.seq x y) A h Q := by
  intro θ a w hP hA
  refine wpIn_seq (wpIn_mono (hx θ a w hP hA) fun ex a' w' ⟨e, A', h', θ', h1, h2, h3, h4⟩ => ?_)
  subst h1
  cases e with
  | norm => exact h2.1 rfl θ' a' w' h3 h4
  | _ => exact ⟨_, A', h', θ', rfl, h2.2 (by simp), h3, h4⟩
theorem Tri.block {id : Nat} {c : Code} {A : AA} {h : AH} {Q : Post3} (hx : Tri P base E c A h (fun e A' h' => Q (if e = .exit id then .norm else e) A' h')) : Tri P base E (.block id c) A h Q := by
  intro θ a w hP hA
  refine wpIn_block (wpIn_mono (hx θ a w hP hA) fun ex a' w' ⟨e, A', h', θ', h1, h2, h3, h4⟩ => ?_)
  subst h1
  cases e with
  | norm => exact ⟨_, A', h', θ', rfl, h2, h3, h4⟩
  | exit i =>
    show if i = id then _ else _
    by_cases hi : i = id
    · rw [if_pos hi]; exact ⟨.norm, A', h', θ', rfl, by simpa [hi] using h2, h3, h4⟩
    · rw [if_neg hi]; exact ⟨.exit i, A', h', θ', rfl, by simpa [hi] using h2, h3, h4⟩
  | goto l => exact ⟨_, A', h', θ', rfl, h2, h3, h4⟩
  | ret => exact ⟨_, A', h', θ', rfl, h2, h3, h4⟩
theorem Tri.cond {c : Operand} {x y : Code} {A : AA} {h : AH} {Q : Post3} {b : Bool} (hc : A.ev c = some (.sb b)) (h1 : b = true → Tri P base E x A h Q) (h2 : b = false → Tri P base E y A h Q) : Tri P base E (.cond c x y) A h Q := by
  intro θ a w hP hA
  have := (hA.ev c _ hc).2
  simp only [conc] at this
  cases b with
  | true => exact wpIn_cond this (h1 rfl θ a w hP hA)
  | false => exact wpIn_cond this (h2 rfl θ a w hP hA)
def SLe (base : Bs) (E : Ent) (A : AA) (h : AH) (A' : AA) (h' : AH) : Prop :=
  ∀ θ a w, Post base E.θ E.h E.w θ h w → AOK θ h.next A a → ∃ θ', Post base E.θ E.h E.w θ' h' w ∧ AOK θ' h'.next A' a
theorem Tri.weaken {c : Code} {A A' : AA} {h h' : AH} {Q : Post3} (hl : SLe base E A h A' h') (hx : Tri P base E c A' h' Q) : Tri P base E c A h Q := fun θ a w hP hA => by
  obtain ⟨θ', p, q⟩ := hl θ a w hP hA
  exact hx θ' a w p q
theorem Tri.loop {ι : Type} (J : ι → AA × AH) (μ : ι → Nat) {c : Code} {Q : Post3} (i0 : ι)
    (step : ∀ i, Tri P base E c (J i).1 (J i).2 (fun e A' h' => (e = .norm ∧ ∃ i', μ i' < μ i ∧ SLe base E A' h' (J i').1 (J i').2) ∨ (e ≠ .norm ∧ Q e A' h'))) :
    Tri P base E (.loop c) (J i0).1 (J i0).2 Q := by
  intro θ a w hP hA
  refine wpIn_loop_iter (fun k a w => ∃ i θ, μ i = k ∧ Post base E.θ E.h E.w θ (J i).2 w ∧ AOK θ (J i).2.next (J i).1 a) (k := μ i0) ⟨i0, θ, rfl, hP, hA⟩ ?_
  rintro k a w ⟨i, θ, rfl, hP, hA⟩
  refine wpIn_mono (step i θ a w hP hA) fun ex a' w' ⟨e, A', h', θ', h1, h2, h3, h4⟩ => ?_
  subst h1
  rcases h2 with ⟨rfl, i', hlt, hk⟩ | ⟨hne, hq⟩
  · obtain ⟨θ'', p, q⟩ := hk θ' a' w' h3 h4
    exact ⟨μ i', hlt, i', θ'', rfl, p, q⟩
  · cases e with
    | norm => exact absurd rfl hne
    | _ => exact ⟨_, A', h', θ', rfl, hq, h3, h4⟩
end
structure JS where
  n : Nat
  sl : List (Nat × AV)
  ms : List (Nat × AO)
  ros : List (Nat × RO)
  next : Nat
noncomputable def ofL {α : Type} (k : Nat) : List (Nat × α) → T α
  | [] => .e
  | (i, v) :: r => if Nat.blt i 1000 then T.set (some v) k (ofL k r) i else ofL k r
noncomputable def JS.A (J : JS) : AA := match J with
  | ⟨n, sl, _, _, _⟩ => ⟨ofL 11 sl, n, []⟩
noncomputable def JS.h (J : JS) : AH := match J with
  | ⟨_, _, ms, ros, next⟩ => ⟨ofL 41 ms, next, ofL 41 ros, [], []⟩
theorem ofL_mem {α : Type} {k : Nat} (hk : 11 ≤ k) : ∀ {l : List (Nat × α)} {i : Nat} {v : α}, (ofL k l).get i = some v → (i, v) ∈ l
  | [], i, v, h => by simp [ofL] at h
  | (j, u) :: r, i, v, h => by
    simp only [ofL] at h
    split at h
    · rename_i hj
      have hj : j < 1000 := Nat.le_of_ble_eq_true hj
      by_cases hi : i = j
      · subst hi
        rw [T.get_set_same _ k _ _ (Nat.lt_of_lt_of_le (show i + 1 < 2 ^ 11 by have : (2 : Nat) ^ 11 = 2048 := rfl; omega) (Nat.pow_le_pow_right (by decide) hk))] at h
        cases h; simp
      · rw [T.get_set_other _ _ _ _ _ hi] at h
        exact List.mem_cons_of_mem _ (ofL_mem hk h)
    · exact List.mem_cons_of_mem _ (ofL_mem hk h)
structure EqN (a b : Nat) : Prop where
  p : a = b
structure EqV (a b : Value) : Prop where
  p : a = b
structure RowEq (n sz : Nat) (f g : Nat → Nat → Int) : Prop where
  p : ∀ k j, k < n → j < sz → f k j = g k j
noncomputable def nq (a b : Nat) : List Prop := match Nat.beq a b with
  | true => []
  | false => [False]
theorem nq_ok {a b : Nat} (h : All (nq a b)) : a = b := by
  unfold nq at h
  split at h
  · rename_i hb; exact Nat.eq_of_beq_eq_true hb
  · exact h.1.elim
noncomputable def ltq (a b : Nat) : List Prop := match Nat.blt a b with
  | true => []
  | false => [False]
theorem ltq_ok {a b : Nat} (h : All (ltq a b)) : a < b := by
  unfold ltq at h
  split at h
  · rename_i hb; exact Nat.le_of_ble_eq_true hb
  · exact h.1.elim
noncomputable def lq (u u' : Value) : List Prop := match u, u' with
  | .int k a, .int k' b => if k = k' then [EqI a b] else [False]
  | .bool a, .bool b => [EqB a b]
  | u, u' => [EqV u u']
theorem lq_ok {u u' : Value} (h : All (lq u u')) : u = u' := by
  unfold lq at h
  split at h
  · split at h
    · rename_i hk; subst hk; rw [h.1.p]
    · exact h.1.elim
  · rw [h.1.p]
  · exact h.1.p
noncomputable def veq1 (σ : Nat → Nat) (n : Nat) (v v' : AV) : List Prop := match v, v' with
  | .lit u, .lit u' => lq u u'
  | .sb b, .sb b' => [EqB b b']
  | .lit (.bool b), .sb b' => [EqB b b']
  | .sb b, .lit (.bool b') => [EqB b b']
  | .isl id m, .isl id' m' => nq id (σ id') ++ (ltq id' n ++ [EqN m m'])
  | .rp id sz k j, .rp id' sz' k' j' => nq id (σ id') ++ (ltq id' n ++ (nq sz sz' ++ [EqN k k', EqN j j']))
  | .ptr id off, .ptr id' off' => nq id (σ id') ++ (ltq id' n ++ [EqN off off'])
  | .slc id off len sub, .slc id' off' len' sub' => nq id (σ id') ++ (ltq id' n ++ [EqN off off', EqN len len', EqN sub sub'])
  | .mp id, .mp id' => nq id (σ id') ++ ltq id' n
  | _, _ => [False]
noncomputable def veql (σ : Nat → Nat) (n : Nat) : List AV → List AV → List Prop
  | [], [] => []
  | v :: l, v' :: l' => veq1 σ n v v' ++ veql σ n l l'
  | _, _ => [False]
noncomputable def veq (σ : Nat → Nat) (n : Nat) (v v' : AV) : List Prop := match v, v' with
  | .agg l, .agg l' => veql σ n l l'
  | .fn f a c, .fn f' a' c' => nq f f' ++ (veql σ n a a' ++ veql σ n c c')
  | v, v' => veq1 σ n v v'
noncomputable def slotsL (σ : Nat → Nat) (n : Nat) (A : AA) : List (Nat × AV) → List Prop
  | [] => []
  | (i, v') :: r => (match A.t.get i with
    | some v => veq σ n v v'
    | none => [False]) ++ slotsL σ n A r
noncomputable def objL1 (σ : Nat → Nat) (n : Nat) (o : Option AO) (o' : AO) : List Prop := match o, o' with
  | some (.irow el sz m f), .irow el' sz' m' f' => nq el el' ++ (nq sz sz' ++ [EqN m m', RowEq m' sz' f f'])
  | some (.cells cs el none), .cells cs' el' none => nq el el' ++ veql σ n cs cs'
  | some (.dfr b), .dfr b' => [EqB b b']
  | _, _ => [False]
noncomputable def objsL (σ : Nat → Nat) (n : Nat) (h : AH) : List (Nat × AO) → List Prop
  | [] => []
  | (id, o') :: r => ltq id n ++ (objL1 σ n (h.m.get (σ id)) o' ++ objsL σ n h r)
noncomputable def roL1 (r r' : RO) : List Prop := match r, r' with
  | ⟨fr, el, sz, m, f⟩, ⟨fr', el', sz', m', f'⟩ => nq sz sz' ++ [EqB fr fr', EqN m m', RowEq m' sz' f f']
noncomputable def rosL (σ : Nat → Nat) (n : Nat) (h : AH) : List (Nat × RO) → List Prop
  | [] => []
  | (id, r') :: r => ltq id n ++ ((match h.ro.get (σ id) with
    | some r => roL1 r r'
    | none => [False]) ++ rosL σ n h r)
noncomputable def notIn (σ : Nat → Nat) (i : Nat) : List (Nat × AO) → Bool
  | [] => true
  | (j, _) :: r => !Nat.beq (σ i) (σ j) && notIn σ i r
noncomputable def apartL (σ : Nat → Nat) : List (Nat × AO) → Bool
  | [] => true
  | (i, _) :: r => notIn σ i r && apartL σ r
noncomputable def fixed (σ : Nat → Nat) : Nat → Bool
  | 0 => true
  | k + 1 => Nat.beq (σ k) k && fixed σ k
noncomputable def bq (b : Bool) : List Prop := match b with
  | true => []
  | false => [False]
theorem bq_ok {b : Bool} (h : All (bq b)) : b = true := by
  cases b
  · exact h.1.elim
  · rfl
noncomputable def dsNil : List AD → Bool
  | [] => true
  | _ => false
noncomputable def wk (σ : Nat → Nat) (N : Nat) (A : AA) (h : AH) (J : JS) : List Prop := match J with
  | ⟨n, sl, ms, ros, next⟩ => nq A.n n ++ (bq (dsNil A.ds) ++ (bq (Nat.ble N next) ++ (bq (fixed σ N) ++ (bq (apartL σ ms) ++ (slotsL σ next A sl ++ (objsL σ next h ms ++ rosL σ next h ros))))))
section
variable {P : Program} {tb : Tab} {base : Bs} {E : Ent} {θ : Th} {σ : Nat → Nat} {n m : Nat}
theorem conc_litS (θ : Th) (u : Value) : conc θ (.lit u) = u := by simp [conc]
theorem veq1_ok {v v' : AV} (hb : bd θ m v) (h : All (veq1 σ n v v')) : conc (fun id => θ (σ id)) v' = conc θ v ∧ bd (fun id => θ (σ id)) n v' := by
  unfold veq1 at h
  split at h
  · rw [lq_ok h]; exact ⟨by simp [conc], by simp [bd]⟩
  · rw [h.1.p]; exact ⟨by simp [conc], by simp [bd]⟩
  · rw [← h.1.p]; exact ⟨by simp [conc], by simp [bd]⟩
  · rw [← h.1.p]; exact ⟨by simp [conc], by simp [bd]⟩
  · obtain ⟨h1, h2⟩ := All.append.1 h
    obtain ⟨h2, ⟨h3⟩, _⟩ := All.append.1 h2
    have h4 := ltq_ok h2
    subst h3
    simp only [bd] at hb ⊢
    refine ⟨by simp [conc, nq_ok h1], h4, ?_⟩
    rw [← nq_ok h1]; exact hb.2
  · obtain ⟨h1, h2⟩ := All.append.1 h
    obtain ⟨h2, h3⟩ := All.append.1 h2
    obtain ⟨h6, ⟨h4⟩, ⟨h5⟩, _⟩ := All.append.1 h3
    have h7 := ltq_ok h2
    subst h4; subst h5
    simp only [bd] at hb ⊢
    exact ⟨by simp [conc, nq_ok h1, nq_ok h6], h7⟩
  · obtain ⟨h1, h2⟩ := All.append.1 h
    obtain ⟨h2, ⟨h3⟩, _⟩ := All.append.1 h2
    have h7 := ltq_ok h2
    subst h3
    simp only [bd] at hb ⊢
    exact ⟨by simp [conc, nq_ok h1], h7⟩
  · obtain ⟨h1, h2⟩ := All.append.1 h
    obtain ⟨h2, ⟨h3⟩, ⟨h4⟩, ⟨h5⟩, _⟩ := All.append.1 h2
    have := ltq_ok h2
    subst h3; subst h4; subst h5
    simp only [bd] at hb ⊢
    refine ⟨by simp [conc, nq_ok h1], by omega, ?_⟩
    rw [← nq_ok h1]; exact hb.2
  · obtain ⟨h1, h2⟩ := All.append.1 h
    have := ltq_ok h2
    simp only [bd] at hb ⊢
    exact ⟨by simp [conc, nq_ok h1], by omega⟩
  · exact h.1.elim
theorem veql_ok : ∀ {l l' : List AV}, bdl θ m l → All (veql σ n l l') → l'.map (conc fun id => θ (σ id)) = l.map (conc θ) ∧ bdl (fun id => θ (σ id)) n l'
  | [], [], hb, h => ⟨rfl, fun x hx => by cases hx⟩
  | v :: l, v' :: l', hb, h => by
    obtain ⟨h1, h2⟩ := All.append.1 h
    obtain ⟨a, b⟩ := veq1_ok (hb v (by simp)) h1
    obtain ⟨c, d⟩ := veql_ok (fun y hy => hb y (by simp [hy])) h2
    refine ⟨by simp only [List.map_cons, a, c], fun y hy => ?_⟩
    rcases List.mem_cons.1 hy with rfl | hy
    · exact b
    · exact d y hy
  | [], _ :: _, hb, h => h.1.elim
  | _ :: _, [], hb, h => h.1.elim
theorem veq_ok {v v' : AV} (hb : bd θ m v) (h : All (veq σ n v v')) : conc (fun id => θ (σ id)) v' = conc θ v ∧ bd (fun id => θ (σ id)) n v' := by
  unfold veq at h
  split at h
  · simp only [bd] at hb ⊢
    obtain ⟨a, b⟩ := veql_ok hb h
    exact ⟨by simp only [conc, a], b⟩
  · obtain ⟨h1, h2⟩ := All.append.1 h
    obtain ⟨h2, h3⟩ := All.append.1 h2
    simp only [bd] at hb ⊢
    obtain ⟨a, b⟩ := veql_ok hb.1 h2
    obtain ⟨c, d⟩ := veql_ok hb.2 h3
    exact ⟨by simp only [conc, a, c, nq_ok h1], b, d⟩
  · exact veq1_ok hb h
theorem slotsL_ok {A : AA} {a : Act} (hA : AOK θ m A a) : ∀ {l : List (Nat × AV)}, All (slotsL σ n A l) → ∀ i v', (i, v') ∈ l → bd (fun id => θ (σ id)) n v' ∧ a.tmps[i]? = some (conc (fun id => θ (σ id)) v')
  | [], h, i, v', hm => by cases hm
  | (j, u) :: r, h, i, v', hm => by
    obtain ⟨h1, h2⟩ := All.append.1 h
    rcases List.mem_cons.1 hm with he | hm
    · cases he
      split at h1
      · rename_i v hv
        obtain ⟨hb, ht⟩ := hA.kt _ _ hv
        obtain ⟨p, q⟩ := veq_ok hb h1
        exact ⟨q, by rw [p]; exact ht⟩
      · exact h1.1.elim
    · exact slotsL_ok hA h2 i v' hm
theorem objsL_ok {h : AH} : ∀ {l : List (Nat × AO)}, All (objsL σ n h l) → ∀ id o', (id, o') ∈ l → id < n ∧ All (objL1 σ n (h.m.get (σ id)) o')
  | [], hx, i, v', hm => by cases hm
  | (j, u) :: r, hx, i, v', hm => by
    obtain ⟨h1, h2⟩ := All.append.1 hx
    obtain ⟨h2, h3⟩ := All.append.1 h2
    rcases List.mem_cons.1 hm with he | hm
    · cases he; exact ⟨ltq_ok h1, h2⟩
    · exact objsL_ok h3 i v' hm
theorem rosL_ok {h : AH} : ∀ {l : List (Nat × RO)}, All (rosL σ n h l) → ∀ id r', (id, r') ∈ l → id < n ∧ ∃ r, h.ro.get (σ id) = some r ∧ All (roL1 r r')
  | [], hx, i, v', hm => by cases hm
  | (j, u) :: r, hx, i, v', hm => by
    obtain ⟨h1, h2⟩ := All.append.1 hx
    obtain ⟨h2, h3⟩ := All.append.1 h2
    rcases List.mem_cons.1 hm with he | hm
    · cases he
      refine ⟨ltq_ok h1, ?_⟩
      split at h2
      · rename_i q hq; exact ⟨q, hq, h2⟩
      · exact h2.1.elim
    · exact rosL_ok h3 i v' hm
theorem notIn_ok {i : Nat} : ∀ {l : List (Nat × AO)}, notIn σ i l = true → ∀ j o, (j, o) ∈ l → σ i ≠ σ j
  | [], h, j, o, hm => by cases hm
  | (k, u) :: r, h, j, o, hm => by
    simp only [notIn, Bool.and_eq_true, Bool.not_eq_true'] at h
    rcases List.mem_cons.1 hm with he | hm
    · cases he; exact fun e => by rw [e] at h; simp at h
    · exact notIn_ok h.2 j o hm
theorem apartL_ok : ∀ {l : List (Nat × AO)}, apartL σ l = true → ∀ i o j o', (i, o) ∈ l → (j, o') ∈ l → i ≠ j → σ i ≠ σ j
  | [], h, i, o, j, o', h1, h2, hne => by cases h1
  | (k, u) :: r, h, i, o, j, o', h1, h2, hne => by
    simp only [apartL, Bool.and_eq_true] at h
    rcases List.mem_cons.1 h1 with e1 | h1
    · cases e1
      rcases List.mem_cons.1 h2 with e2 | h2
      · cases e2; exact absurd rfl hne
      · exact notIn_ok h.1 j o' h2
    · rcases List.mem_cons.1 h2 with e2 | h2
      · cases e2; exact (notIn_ok h.1 i o h1).symm
      · exact apartL_ok h.2 i o j o' h1 h2 hne
theorem fixed_ok : ∀ {k : Nat}, fixed σ k = true → ∀ i, i < k → σ i = i
  | 0, h, i, hi => by omega
  | k + 1, h, i, hi => by
    simp only [fixed, Bool.and_eq_true] at h
    by_cases he : i = k
    · subst he; exact Nat.eq_of_beq_eq_true h.1
    · exact fixed_ok h.2 i (by omega)
theorem objL1_ok {id : Nat} {o : AO} {o' : AO} {w : World} (hok : OOK θ m (σ id) o w) (h : All (objL1 σ n (some o) o')) : OOK (fun id => θ (σ id)) n id o' w := by
  unfold objL1 at h
  split at h
  · rename_i el sz k f el' sz' k' f' heq
    cases heq
    obtain ⟨h1, h2⟩ := All.append.1 h
    obtain ⟨h2, ⟨h3⟩, ⟨h4⟩, _⟩ := All.append.1 h2
    have e1 := nq_ok h1; have e2 := nq_ok h2
    subst e1; subst e2; subst h3
    obtain ⟨cur, a, b, c, d, e, g⟩ := hok
    exact ⟨cur, a, b, c, d, e, fun q j hq hj => by rw [g q j hq hj, h4 q j hq hj]⟩
  · rename_i cs el cs' el' heq
    cases heq
    obtain ⟨h1, h2⟩ := All.append.1 h
    have e1 := nq_ok h1
    subst e1
    obtain ⟨hb, cur, a, b, c⟩ := hok
    obtain ⟨p, q⟩ := veql_ok hb h2
    have hl : cs'.length = cs.length := by have := congrArg List.length p; simpa using this
    exact ⟨q, cur, a, by rw [p, hl]; exact b, by simp only at c ⊢; rw [hl]; exact c⟩
  · rename_i b b' heq
    cases heq
    rw [← h.1.p]
    exact hok
  · exact h.1.elim
theorem wk_ok {N : Nat} (hN : E.h.next = N) {A : AA} {h : AH} {J : JS} (hx : All (wk σ N A h J)) : SLe base E A h J.A J.h := by
  obtain ⟨jn, sl, ms, ros, next⟩ := J
  unfold wk at hx
  obtain ⟨x1, hx⟩ := All.append.1 hx
  obtain ⟨x2, hx⟩ := All.append.1 hx
  obtain ⟨x3, hx⟩ := All.append.1 hx
  obtain ⟨x4, hx⟩ := All.append.1 hx
  obtain ⟨x5, hx⟩ := All.append.1 hx
  obtain ⟨x6, hx⟩ := All.append.1 hx
  obtain ⟨x7, x8⟩ := All.append.1 hx
  have x1 := nq_ok x1
  have x2 := bq_ok x2
  have x3 := Nat.le_of_ble_eq_true (bq_ok x3)
  have x4 := fixed_ok (bq_ok x4)
  have x5 := apartL_ok (bq_ok x5)
  intro θ a w hP hA
  have hms : ∀ id o', (ofL 41 ms).get id = some o' → id < next ∧ ∃ o, h.m.get (σ id) = some o ∧ All (objL1 σ next (some o) o') := fun id o' hg => by
    obtain ⟨p, q⟩ := objsL_ok x7 id o' (ofL_mem (by decide) hg)
    cases hm : h.m.get (σ id) with
    | none => rw [hm] at q; unfold objL1 at q; split at q <;> first | (exact q.1.elim) | (rename_i heq; cases heq)
    | some o => exact ⟨p, o, rfl, by rw [hm] at q; exact q⟩
  have hro : ∀ id r', (ofL 41 ros).get id = some r' → id < next ∧ ∃ r, h.ro.get (σ id) = some r ∧ All (roL1 r r') := fun id r' hg => rosL_ok x8 id r' (ofL_mem (by decide) hg)
  have hroq : ∀ {r r' : RO}, All (roL1 r r') → r.fr = r'.fr ∧ r.sz = r'.sz ∧ r.n = r'.n ∧ ∀ k j, k < r'.n → j < r'.sz → r.f k j = r'.f k j := fun {r r'} hq => by
    obtain ⟨a1, a2, a3, a4, a5⟩ := r
    obtain ⟨b1, b2, b3, b4, b5⟩ := r'
    unfold roL1 at hq
    obtain ⟨h1, ⟨h2⟩, ⟨h3⟩, ⟨h4⟩, _⟩ := All.append.1 hq
    exact ⟨h2, nq_ok h1, h3, h4⟩
  refine ⟨fun id => θ (σ id), ⟨fun id hid => ?_, by show E.h.next ≤ next; omega, ⟨fun id o' hg => ?_, fun id id' o o' g1 g2 hne => ?_, hP.r.size, hP.r.b0, fun id r' hg => ?_⟩, hP.below, hP.frame, fun id o' hg => ?_, fun id r' hg h0 => ?_⟩, ⟨by rw [hA.size]; exact x1, fun i v' hi => ?_, ?_, fun d hd => by cases hd⟩⟩
  · show θ (σ id) = E.θ id
    rw [x4 id (by omega)]; exact hP.ext id hid
  · obtain ⟨p, o, q, r⟩ := hms id o' hg
    obtain ⟨u1, u2, u3⟩ := hP.r.obj _ _ q
    exact ⟨p, u2, objL1_ok u3 r⟩
  · obtain ⟨_, o1, q1, _⟩ := hms id o g1
    obtain ⟨_, o2, q2, _⟩ := hms id' o' g2
    exact hP.r.inj _ _ _ _ q1 q2 (x5 id o id' o' (ofL_mem (by decide) g1) (ofL_mem (by decide) g2) hne)
  · obtain ⟨p, r, q, u⟩ := hro id r' hg
    obtain ⟨e1, e2, e3, e4⟩ := hroq u
    obtain ⟨u1, u2, u3⟩ := hP.r.rom _ _ q
    refine ⟨p, ⟨by rw [← e3]; exact u2.le, u2.cap, by rw [← e3]; exact u2.a, fun k j hk hj => ?_, by rw [← e3, ← e1]; exact u2.fr, by rw [← e3]; exact u2.lt⟩, fun h0 id' o hg' => ?_⟩
    · rw [← e4 k j hk hj, ← e2]; exact u2.cell k j (by omega) (by omega)
    · obtain ⟨_, o1, q1, _⟩ := hms id' o hg'
      exact u3 (by omega) _ _ q1
  · obtain ⟨_, o1, q1, _⟩ := hms id o' hg
    exact hP.own _ _ q1
  · obtain ⟨p, r, q, u⟩ := hro id r' hg
    exact hP.own2 _ _ q (by rw [(hroq u).2.2.1]; exact h0)
  · exact slotsL_ok hA x6 i v' (ofL_mem (Nat.le_refl _) hi)
  · rw [hA.ds]
    cases hd : A.ds with
    | nil => rfl
    | cons d ds => rw [hd] at x2; cases x2
end
end PartOfUm
section PartOfUn
open Go Go.RowKit
noncomputable def rq1 (h : AH) (v : AV) (g : GV) : List Prop := match v, g with
  | .lit (.slice none 0 0), .rows _ _ n _ => [EqN n 0]
  | .lit u, .lit u' => lq u u'
  | .sb b, .sb b' => [EqB b b']
  | .lit (.bool b), .sb b' => [EqB b b']
  | .sb b, .lit (.bool b') => [EqB b b']
  | .isl id n, .rows _ sz n' f' => match h.m.get id with
    | some (.irow _ sz' m f) => nq sz' sz ++ [EqN n n', LeN n m, RowEq n' sz f f']
    | some _ => [False]
    | none => match h.ro.get id with
      | some ⟨fr, _, sz', m, f⟩ => bq fr ++ (nq sz' sz ++ [EqN n n', LeN n m, RowEq n' sz f f'])
      | none => [False]
  | _, _ => [False]
noncomputable def rql (rq : AV → GV → List Prop) : List AV → List GV → List Prop
  | [], [] => []
  | v :: vs, g :: gs => rq v g ++ rql rq vs gs
  | _, _ => [False]
noncomputable def rqA (h : AH) (v : AV) (g : GV) : List Prop := match v, g with
  | .agg cs, .agg gs => rql (rq1 h) cs gs
  | v, g => rq1 h v g
noncomputable def rq (h : AH) (v : AV) (g : GV) : List Prop := match v, g with
  | .tup cs, .tup gs => rql (rqA h) cs gs
  | v, g => rqA h v g
noncomputable def one : List AV → AV
  | [v] => v
  | vs => .tup vs
noncomputable def retP (tb : Tab) (fn : Func) (g : GV) (A : AA) (h : AH) : Prop := match leaves tb A.ds (h.start []) with
  | some h2 => match aresults h2 A tb fn.results.toList with
    | some vs => All (rq h2 (one vs) g) ∧ All h2.sc
    | none => False
  | none => False
noncomputable def finP (tb : Tab) (fn : Func) (g : GV) : Post3 := fun e A h => match e with
  | .norm => retP tb fn g A h
  | .ret => retP tb fn g A h
  | _ => False
noncomputable def H0 : AH := ⟨.e, 0, .e, [], []⟩
section
variable {P : Program} {tb : Tab} {base : Bs} {θ : Th} {h : AH} {w : World}
theorem rq1_ok (hR : R base θ h w) {v : AV} {g : GV} (hx : All (rq1 h v g)) : Reads1 w base.n (conc θ v) g := by
  unfold rq1 at hx
  split at hx
  · obtain ⟨⟨rfl⟩, _⟩ := hx
    exact ⟨none, 0, by simp [conc], Nat.le_refl _, Nat.zero_le _, fun h => absurd h (by omega)⟩
  · rw [lq_ok hx]; simp [conc, Reads1]
  · rw [hx.1.p]; simp [conc, Reads1]
  · rw [hx.1.p]; simp [conc, Reads1]
  · rw [hx.1.p]; simp [conc, Reads1]
  · rename_i id n el sz n' f'
    split at hx
    · rename_i el2 sz' m f hm
      obtain ⟨h1, ⟨h2⟩, ⟨h3⟩, ⟨h4⟩, _⟩ := All.append.1 hx
      have h1 := nq_ok h1
      subst h1; subst h2
      obtain ⟨_, hb, hok⟩ := hR.obj id _ hm
      obtain ⟨a, b, c, d, e⟩ := rowAt_ok (f := f) (sz := sz') (n := m) hR (by unfold rowAt; rw [hm])
      refine ⟨(θ id).a, (θ id).c, by simp [conc], by omega, d, fun h0 => ⟨(θ id).b, (θ id).o, e (by omega), hb, hok.lt, fun k j hk hj => ?_⟩⟩
      rw [← h4 k j hk hj]; exact b k j (by omega) hj
    · exact hx.1.elim
    · rename_i hmn
      split at hx
      · rename_i fr el2 sz' m f hm
        obtain ⟨h0, hx⟩ := All.append.1 hx
        obtain ⟨h1, ⟨h2⟩, ⟨h3⟩, ⟨h4⟩, _⟩ := All.append.1 hx
        have h1 := nq_ok h1
        have h0 := bq_ok h0
        subst h1; subst h2
        obtain ⟨_, hrok, _⟩ := hR.rom id _ hm
        obtain ⟨a, b, c, d, e⟩ := rowAt_ok (f := f) (sz := sz') (n := m) hR (by unfold rowAt; rw [hmn]; simp only [hm])
        refine ⟨(θ id).a, (θ id).c, by simp [conc], by omega, d, fun hn => ⟨(θ id).b, (θ id).o, e (by omega), hrok.fr (by simp only; omega) h0, hrok.lt (by simp only; omega), fun k j hk hj => ?_⟩⟩
        rw [← h4 k j hk hj]; exact b k j (by omega) hj
      · exact hx.1.elim
  · exact hx.1.elim
theorem rql_ok {rq : AV → GV → List Prop} {r : Value → GV → Prop} (hr : ∀ v g, All (rq v g) → r (conc θ v) g) : ∀ {l : List AV} {gs : List GV}, All (rql rq l gs) → All2 r (l.map (conc θ)) gs
  | [], [], _ => trivial
  | v :: vs, g :: gs, h => by
    obtain ⟨h1, h2⟩ := All.append.1 h
    exact ⟨hr v g h1, rql_ok hr h2⟩
  | [], _ :: _, h => h.1.elim
  | _ :: _, [], h => h.1.elim
theorem rqA_ok (hR : R base θ h w) {v : AV} {g : GV} (hx : All (rqA h v g)) : ReadsA w base.n (conc θ v) g := by
  unfold rqA at hx
  split at hx
  · rename_i cs gs
    exact ⟨cs.map (conc θ), by simp only [conc], rql_ok (fun v g h => rq1_ok hR h) hx⟩
  · have := rq1_ok hR hx
    cases g <;> first | exact this | exact False.elim this
theorem rq_ok (hR : R base θ h w) {v : AV} {g : GV} (hx : All (rq h v g)) : Reads w base.n (conc θ v) g := by
  unfold rq at hx
  split at hx
  · rename_i cs gs
    exact ⟨cs.map (conc θ), by simp only [conc], rql_ok (fun v g h => rqA_ok hR h) hx⟩
  · have key := rqA_ok hR hx
    cases g <;> first | exact key | exact False.elim key
theorem spec_intro (hB : ∀ base, TabOK P tb base) {f : FuncId} {fn : Func} {c : Code} {F : List GV → Option (GV × List Prop)} (hf : P.funcs[f]? = some fn) (hent : EnterOK P f) (hc : fn.body = some c)
    (H : ∀ gs g ps, F gs = some (g, ps) → All ps → ∃ args h0, lds false gs H0 = some (args, h0) ∧ (args.length ≤ fn.ntmps ∧ args.length < 1024) ∧
      ∀ base E, E.h = h0 → Tri P base E c ⟨args0 args 0 .e, fn.ntmps, []⟩ h0 (finP tb fn g)) : FnSpec P f F := by
  refine ⟨hent, fun w vs gs g ps hv hF hps => ?_⟩
  obtain ⟨args, h0, hld, ⟨hl1, hl2⟩, hT⟩ := H gs g ps hF hps
  let base : Bs := ⟨w.heap.size, w⟩
  have hR0 : R base (fun _ => ⟨0, 0, none⟩) H0 w := ⟨fun id o h => by simp [H0] at h, fun id id' o o' h => by simp [H0] at h, Nat.le_refl _, fun _ _ => rfl, fun id r h => by simp [H0] at h⟩
  have hL : LoOK base 0 false (fun _ => ⟨0, 0, none⟩) H0 := ⟨(fun h => by cases h), (fun id o h => by simp [H0] at h), (fun _ id o h => by simp [H0] at h)⟩
  obtain ⟨θ, hld', hb, hconc⟩ := lds_ok hL hR0 hv hld
  refine (callsIn_wide (n := 0)).1 (callsIn_of_wp_marks (F := FW none) hf hc trivial ?_)
  have hA0 : AOK θ h0.next { t := args0 args 0 .e, n := fn.ntmps, ds := [] } { tmps := vs.toArray ++ Array.replicate (fn.ntmps - vs.toArray.size) undef, defers := [] } := by
    rw [← hconc]
    refine ⟨by simp; omega, fun i u hu => ?_, rfl, fun d hd => by cases hd⟩
    rw [args0_get args 0 .e i (by omega)] at hu
    split at hu
    · rename_i hi
      simp only [Nat.sub_zero] at hu
      refine ⟨hb u (List.mem_of_getElem? hu), ?_⟩
      simp only [Array.getElem?_append]
      rw [if_pos (by simp; omega)]
      simp [hu]
    · cases hu
  refine wpIn_mono (hT base ⟨θ, h0, w⟩ rfl θ _ w (Post.refl hld'.r) hA0) fun ex a' w' ⟨e, A, h, θ', hex, hq, hP, hA⟩ => ?_
  have fin : retP tb fn g A h → LeavesInM (FW none) 0 P fn a'.tmps (fun e w' => ∃ v, e = .returned v ∧ Reads w' w.heap.size v g ∧ Below w.heap.size w w') a'.defers .returning w' := by
    intro hr
    unfold retP at hr
    split at hr <;> try exact hr.elim
    rename_i h2 hlv
    split at hr <;> try exact hr.elim
    rename_i vs' har
    obtain ⟨hq1, hs2⟩ := hr
    have hst : (h.start []).m = h.m ∧ (h.start []).next = h.next ∧ (h.start []).ro = h.ro := by cases h; exact ⟨rfl, rfl, rfl⟩
    obtain ⟨e1, e2, e3⟩ := hst
    rw [hA.ds]
    refine leaves_ok (hB base) hlv hs2 (hP.r.same e1 e2 e3) (by rw [e2]; exact hA.bds) fun θ'' w'' hP' => ?_
    have hA' := hA.ext (θ' := θ'') (by rw [← e2]; exact hP'.ext) (by rw [← e2]; exact hP'.next)
    obtain ⟨hbv, hrun⟩ := aresults_ok (hB base).ty hP'.r hA'.kt har
    have em : (fn.results.mapM (resv a'.tmps)).run P w'' = .ok (vs'.map (conc θ'')).toArray w'' := by simp [Array.mapM_eq_mapM_toList, hrun]
    have hres : (results fn a'.tmps).run P w'' = .ok (if h : (vs'.map (conc θ'')).toArray.size = 1 then (vs'.map (conc θ'')).toArray[0] else .tuple (vs'.map (conc θ'')).toArray) w'' := by
      rw [results_eq, Sem.run_bind, em]
      rfl
    have hbel : Below w.heap.size w w'' := hP.below.trans hP'.below
    refine ⟨_, hres, _, rfl, ?_, hbel⟩
    have hrd := rq_ok hP'.r hq1
    match vs', hrd with
    | [], hrd => simpa [one, conc] using hrd
    | [u], hrd => simpa [one] using hrd
    | u :: u' :: us, hrd => simpa [one, conc] using hrd
  subst hex
  cases e with
  | norm => exact fin hq
  | ret => exact fin hq
  | exit i => exact hq.elim
  | goto l => exact hq.elim
noncomputable def zeroFits (agg : Bool) (z : Value) : Bool := match z with
  | .agg _ => agg
  | _ => !agg
noncomputable def tyOf (P : Program) (t : TypeId) : Option TyI := match P.info? t, P.underlying t with
  | some inf, some d => match inf.zero with
    | some z => if zeroFits (descAgg d) z = true ∧ z.cells.toList.length = inf.size then some { desc := d, size := inf.size, bytes := inf.bytes, agg := descAgg d, zero := z.cells.toList } else none
    | none => none
  | _, _ => none
theorem tyOf_ok {t : TypeId} {i : TyI} (h : tyOf P t = some i) : TyOK P t i := by
  unfold tyOf at h
  split at h <;> try (cases h; done)
  rename_i inf d hi hd
  split at h <;> try (cases h; done)
  rename_i z hz
  split at h <;> try (cases h; done)
  rename_i hc
  cases h
  refine ⟨hd, ⟨inf, z, hi, rfl, rfl, hz, rfl⟩, rfl, hc.2, fun inf' hinf' => ?_⟩
  rw [hi] at hinf'
  cases hinf'
  rw [hz]
  congr 1
  have h1 := hc.1
  cases z <;> simp only [zeroFits] at h1 <;> simp_all [Value.cells]
noncomputable def fnOf (P : Program) (f : FuncId) : Option Func := match P.funcs[f]? with
  | some fn => if (fn.name == "runtime.NumGoroutine") = false ∧ fn.body.isSome = true then some fn else none
  | none => none
theorem enter_of {f : FuncId} {fn : Func} (hf : P.funcs[f]? = some fn) (hn : (fn.name == "runtime.NumGoroutine") = false) (hb : fn.body.isSome = true) : EnterOK P f := fun args w => by
  have hb' : fn.body.isNone = false := by cases h : fn.body <;> simp_all
  unfold callFunc
  simp only [Sem.run_bind, program, Sem.run, Result.andThen, hf, hn, hb', Bool.false_eq_true, if_false, Sem.run_pure]
theorem fnOf_ok {f : FuncId} {fn : Func} (h : fnOf P f = some fn) : P.funcs[f]? = some fn ∧ EnterOK P f := by
  unfold fnOf at h
  split at h <;> try (cases h; done)
  rename_i fn' hf
  split at h <;> try (cases h; done)
  rename_i hc
  cases h
  exact ⟨hf, enter_of hf hc.1 hc.2⟩
noncomputable def offTab {α : Type} (r : Nat → Option α) : List Nat → T α
  | [] => .e
  | t :: ts => match r t with
    | some i => if t < 1000 then T.set (some i) 11 (offTab r ts) t else offTab r ts
    | none => offTab r ts
theorem offTab_ok {α : Type} {r : Nat → Option α} : ∀ (l : List Nat) (t : Nat) (i : α), (offTab r l).get t = some i → r t = some i
  | [], t, i, h => by cases h
  | u :: us, t, i, h => by
    simp only [offTab] at h
    split at h
    · rename_i j hj
      split at h
      · rename_i hu
        by_cases ht : t = u
        · subst ht
          rw [T.get_set_same _ 11 _ _ (Nat.lt_of_le_of_lt (Nat.succ_le_succ (Nat.le_of_lt hu)) (by decide))] at h
          cases h
          exact hj
        · rw [T.get_set_other _ 11 _ _ _ ht] at h
          exact offTab_ok us t i h
      · exact offTab_ok us t i h
    · exact offTab_ok us t i h
abbrev GSpec := List GV → Option (GV × List Prop)
noncomputable def mkTab (ty : T TyI) (P : Program) (fns : List FuncId) (sps : List (FuncId × GSpec)) (eqs : List (TypeId × Nat)) : Tab where
  ty := ty
  fn := offTab (fnOf P) fns
  sp := ofL 11 sps
  dnat := .e
  eqs := ofL 11 eqs
  keyEq := .e
theorem mkTab_ok {ty : T TyI} {fns : List FuncId} {sps : List (FuncId × GSpec)} {eqs : List (TypeId × Nat)} (hm : P.follows .mixedOrders = true) (ht : ∀ t i, ty.get t = some i → TyOK P t i) (hs : ∀ p ∈ sps, FnSpec P p.1 p.2) (he : ∀ p ∈ eqs, PairOK P p.1 p.2) : ∀ base, TabOK P (mkTab ty P fns sps eqs) base := fun base =>
  { mixed := hm
    ty := ht
    key := fun t n h => by simp [mkTab] at h
    pair := fun t n h => he (t, n) (ofL_mem (Nat.le_refl _) h)
    fn := fun f fn h => fnOf_ok (offTab_ok _ _ _ h)
    sp := fun f F h => hs (f, F) (ofL_mem (Nat.le_refl _) h)
    dnat := fun f g h => by simp [mkTab] at h }
theorem inR64 {n : Int} (h1 : -9223372036854775808 ≤ n) (h2 : n ≤ 9223372036854775807) : InR .i64 n := ⟨⟨h1, h2⟩⟩
theorem of_skel {p q : Prop} (h : p = q) (hq : q) : p := by rw [h]; exact hq
noncomputable def bodyC (f : Func) : Code := match f.body with
  | some c => c
  | none => .skip
noncomputable def start (f : Func) (args : List AV) : AA := ⟨args0 args 0 .e, f.ntmps, []⟩
theorem spec_body (hB : ∀ base, TabOK P tb base) {f : FuncId} {fn : Func} {F : List GV → Option (GV × List Prop)} (hf : P.funcs[f]? = some fn) (hn : (fn.name == "runtime.NumGoroutine") = false) (hc : fn.body.isSome = true)
    (H : ∀ gs g ps, F gs = some (g, ps) → All ps → ∃ args h0, lds false gs H0 = some (args, h0) ∧ (args.length ≤ fn.ntmps ∧ args.length < 1024) ∧
      ∀ base E, E.h = h0 → Tri P base E (bodyC fn) (start fn args) h0 (finP tb fn g)) : FnSpec P f F :=
  spec_intro hB hf (enter_of hf hn hc) (c := bodyC fn) (by unfold bodyC; cases h : fn.body with | none => rw [h] at hc; cases hc | some c => rfl) H
noncomputable def xr (tb : Tab) (f : Func) (args : List AV) (h0 : AH) (o : List Bool) : Res := exec tb 200 (bodyC f) none (start f args) (h0.start o)
theorem Tri.run (hB : ∀ base, TabOK P tb base) {E : Ent} {fn : Func} {args : List AV} {h0 : AH} {Q : Post3} (o : List Bool) (hp : pathP (xr tb fn args h0 o) Q) : Tri P base E (bodyC fn) (start fn args) h0 Q := Tri.path (hB base) 200 o hp
end
end PartOfUn
section PartOfUo
open Go Go.RowKit
def flat : Code → List Code
  | .seq a b => flat a ++ flat b
  | c => [c]
noncomputable def execL (tb : Tab) (n : Nat) : List Code → AA → AH → Res
  | [], A, h => .ok .norm A h
  | c :: l, A, h => match exec tb n c none A h with
    | .ok .norm A' h' => execL tb n l A' h'
    | r => r
def loopAt (l : List Code) (k : Nat) : Code := match l[k]? with
  | some (.block _ (.loop c)) => c
  | _ => .skip
def loopId (l : List Code) (k : Nat) : Nat := match l[k]? with
  | some (.block id (.loop _)) => id
  | _ => 0
def isLoop (l : List Code) (k : Nat) : Bool := match l[k]? with
  | some (.block _ (.loop _)) => true
  | _ => false
def sg : List (Nat × Nat) → Nat → Nat
  | [], x => x
  | (a, b) :: r, x => match Nat.beq x a with
    | true => b
    | false => sg r x
section
variable {P : Program} {tb : Tab} {base : Bs} {E : Ent}
def TriL (P : Program) (base : Bs) (E : Ent) : List Code → AA → AH → Post3 → Prop
  | [], A, h, Q => Q .norm A h
  | c :: l, A, h, Q => Tri P base E c A h (fun e A' h' => (e = .norm → TriL P base E l A' h' Q) ∧ (e ≠ .norm → Q e A' h'))
theorem TriL.mono : ∀ {l : List Code} {A : AA} {h : AH} {Q Q' : Post3}, TriL P base E l A h Q → (∀ e A h, Q e A h → Q' e A h) → TriL P base E l A h Q'
  | [], A, h, Q, Q', hx, hq => hq _ _ _ hx
  | c :: l, A, h, Q, Q', hx, hq => Tri.mono hx fun e A' h' hh => ⟨fun he => TriL.mono (hh.1 he) hq, fun he => hq _ _ _ (hh.2 he)⟩
theorem TriL.append : ∀ {l m : List Code} {A : AA} {h : AH} {Q : Post3}, TriL P base E l A h (fun e A' h' => (e = .norm → TriL P base E m A' h' Q) ∧ (e ≠ .norm → Q e A' h')) → TriL P base E (l ++ m) A h Q
  | [], m, A, h, Q, hx => hx.1 rfl
  | c :: l, m, A, h, Q, hx => Tri.mono hx fun e A' h' hh => ⟨fun he => TriL.append (hh.1 he), fun he => (hh.2 he).2 he⟩
theorem TriL.split : ∀ {l m : List Code} {A : AA} {h : AH} {Q : Post3}, TriL P base E (l ++ m) A h Q → TriL P base E l A h (fun e A' h' => (e = .norm → TriL P base E m A' h' Q) ∧ (e ≠ .norm → Q e A' h'))
  | [], m, A, h, Q, hx => ⟨fun _ => hx, fun he => absurd rfl he⟩
  | c :: l, m, A, h, Q, hx => Tri.mono hx fun e A' h' hh => ⟨fun he => TriL.split (hh.1 he), fun he => ⟨fun he' => absurd he' he, fun _ => hh.2 he⟩⟩
theorem Tri.one {c : Code} {A : AA} {h : AH} {Q : Post3} (hx : TriL P base E [c] A h Q) : Tri P base E c A h Q := Tri.mono hx fun e A' h' hh => by
  by_cases he : e = .norm
  · subst he; exact hh.1 rfl
  · exact hh.2 he
theorem Tri.flat : ∀ {c : Code} {A : AA} {h : AH} {Q : Post3}, TriL P base E (flat c) A h Q → Tri P base E c A h Q
  | .seq a b, A, h, Q, hx => by
    refine Tri.seq (Tri.mono (Tri.flat (TriL.split hx)) fun e A' h' hh => ⟨fun he => Tri.flat (hh.1 he), hh.2⟩)
  | .skip, A, h, Q, hx => Tri.one hx
  | .region _ _ _, A, h, Q, hx => Tri.one hx
  | .cond _ _ _, A, h, Q, hx => Tri.one hx
  | .block _ _, A, h, Q, hx => Tri.one hx
  | .loop _, A, h, Q, hx => Tri.one hx
  | .rangeFunc _ _ _ _, A, h, Q, hx => Tri.one hx
  | .exit _, A, h, Q, hx => Tri.one hx
  | .scope _, A, h, Q, hx => Tri.one hx
  | .label _, A, h, Q, hx => Tri.one hx
  | .goto _, A, h, Q, hx => Tri.one hx
  | .ret, A, h, Q, hx => Tri.one hx
  | .refuse _, A, h, Q, hx => Tri.one hx
theorem Tri.runs (hB : TabOK P tb base) {n : Nat} {c : Code} {A A' : AA} {h h' : AH} {e : AExit} (hx : exec tb n c none A h = .ok e A' h') (hs : All h'.sc) {Q : Post3} (hq : Q e A' h') : Tri P base E c A h Q := fun θ a w hP hA => by
  refine wpIn_mono ((exec_sound hB n _ _ _ _ _ _ _ hx).2 hs θ a w hP.r hA (by simp)) fun ex a' w' hbe => ?_
  obtain ⟨hex, θ', hP', hA'⟩ := hbe
  exact ⟨e, A', h', θ', hex, hq, hP.trans hP', hA'⟩
theorem execL_sc (hB : TabOK P tb base) {n : Nat} : ∀ {l : List Code} {A A' : AA} {h h' : AH} {e : AExit}, execL tb n l A h = .ok e A' h' → All h'.sc → All h.sc
  | [], A, A', h, h', e, hx, hs => by cases hx; exact hs
  | c :: l, A, A', h, h', e, hx, hs => by
    simp only [execL] at hx
    split at hx
    · rename_i A1 h1 hr; exact (exec_sound hB n _ _ _ _ _ _ _ hr).1 (execL_sc hB hx hs)
    · exact (exec_sound hB n _ _ _ _ _ _ _ hx).1 hs
theorem TriL.runs (hB : TabOK P tb base) {n : Nat} : ∀ {l : List Code} {A A' : AA} {h h' : AH} {e : AExit}, execL tb n l A h = .ok e A' h' → All h'.sc → ∀ {Q : Post3}, Q e A' h' → TriL P base E l A h Q
  | [], A, A', h, h', e, hx, hs, Q, hq => by cases hx; exact hq
  | c :: l, A, A', h, h', e, hx, hs, Q, hq => by
    simp only [execL] at hx
    split at hx
    · rename_i A1 h1 hr
      exact Tri.runs hB hr (execL_sc hB hx hs) ⟨fun _ => TriL.runs hB hx hs hq, fun he => absurd rfl he⟩
    · rename_i hne
      refine Tri.runs hB hx hs ⟨fun he => ?_, fun _ => hq⟩
      subst he
      exact absurd hx (hne _ _)
theorem Tri.start {c : Code} {A : AA} {h : AH} {o : List Bool} {Q : Post3} (hc : Tri P base E c A (h.start o) Q) : Tri P base E c A h Q := fun θ a w hP hA => by
  have hst : (h.start o).m = h.m ∧ (h.start o).next = h.next ∧ (h.start o).ro = h.ro := by cases h; exact ⟨rfl, rfl, rfl⟩
  obtain ⟨e1, e2, e3⟩ := hst
  exact hc θ a w (hP.same e1 e2 e3) (by rw [e2]; exact hA)
theorem TriL.path (hB : ∀ base, TabOK P tb base) (o : List Bool) {l : List Code} (hl : l.isEmpty = false) {A : AA} {h : AH} {Q : Post3} (hp : pathP (execL tb 200 l A (h.start o)) Q) : TriL P base E l A h Q := by
  unfold pathP at hp
  split at hp
  · rename_i e A' h' hx
    have := TriL.runs (E := E) (hB base) hx hp.1 hp.2
    cases l with
    | nil => cases hl
    | cons c l => exact Tri.start (h := h) (o := o) this
  · exact hp.elim
noncomputable def preQ (σ : Nat → Nat) (N : Nat) (J0 : JS) (Q : Post3) : Post3 := fun e A h => match e with
  | .norm => All (wk σ N A h J0)
  | e => Q e A h
def RoundR (P : Program) (base : Bs) (E : Ent) {ι : Type} (J : ι → JS) (μ : ι → Nat) (id : Nat) (post : List Code) (Q : Post3) (i : ι) : Post3 := fun e A h =>
  (e = .norm ∧ ∃ i', μ i' < μ i ∧ SLe base E A h (J i').A (J i').h) ∨ (e = .exit id ∧ TriL P base E post A h Q) ∨ (e ≠ .norm ∧ e ≠ .exit id ∧ Q e A h)
noncomputable def roundQ (σ : Nat → Nat) (N : Nat) (Jn : JS) (id : Nat) (X : AA → AH → Prop) (Q : Post3) : Post3 := fun e A h => match e with
  | .norm => All (wk σ N A h Jn)
  | .exit j => match Nat.beq j id with
    | true => X A h
    | false => Q (.exit j) A h
  | .ret => Q .ret A h
  | .goto l => Q (.goto l) A h
theorem roundQ_R {ι : Type} {J : ι → JS} {μ : ι → Nat} {id : Nat} {post : List Code} {Q : Post3} {i : ι} (i' : ι) (hμ : μ i' < μ i) {σ : Nat → Nat} {N : Nat} (hN : E.h.next = N) {X : AA → AH → Prop} (hX : ∀ A h, X A h → TriL P base E post A h Q) :
    ∀ e A h, roundQ σ N (J i') id X Q e A h → RoundR P base E J μ id post Q i e A h := fun e A h hh => by
  cases e with
  | norm => exact .inl ⟨rfl, i', hμ, wk_ok hN hh⟩
  | exit j =>
    unfold roundQ at hh
    simp only at hh
    split at hh
    · rename_i hj; obtain rfl := Nat.eq_of_beq_eq_true hj; exact .inr (.inl ⟨rfl, hX _ _ hh⟩)
    · rename_i hj; exact .inr (.inr ⟨by simp, by intro he; cases he; simp at hj, hh⟩)
  | ret => exact .inr (.inr ⟨by simp, by simp, hh⟩)
  | goto l => exact .inr (.inr ⟨by simp, by simp, hh⟩)
noncomputable def lastQ (id : Nat) (X : AA → AH → Prop) (Q : Post3) : Post3 := fun e A h => match e with
  | .norm => False
  | .exit j => match Nat.beq j id with
    | true => X A h
    | false => Q (.exit j) A h
  | .ret => Q .ret A h
  | .goto l => Q (.goto l) A h
theorem lastQ_R {ι : Type} {J : ι → JS} {μ : ι → Nat} {id : Nat} {post : List Code} {Q : Post3} {i : ι} {X : AA → AH → Prop} (hX : ∀ A h, X A h → TriL P base E post A h Q) :
    ∀ e A h, lastQ id X Q e A h → RoundR P base E J μ id post Q i e A h := fun e A h hh => by
  cases e with
  | norm => exact hh.elim
  | exit j =>
    unfold lastQ at hh
    simp only at hh
    split at hh
    · rename_i hj; obtain rfl := Nat.eq_of_beq_eq_true hj; exact .inr (.inl ⟨rfl, hX _ _ hh⟩)
    · rename_i hj; exact .inr (.inr ⟨by simp, by intro he; cases he; simp at hj, hh⟩)
  | ret => exact .inr (.inr ⟨by simp, by simp, hh⟩)
  | goto l => exact .inr (.inr ⟨by simp, by simp, hh⟩)
noncomputable def restX (tb : Tab) (post : List Code) (o : List Bool) (Q : Post3) : AA → AH → Prop := fun A h => pathP (execL tb 200 post A (h.start o)) Q
theorem restX_ok (hB : ∀ base, TabOK P tb base) {post : List Code} (hl : post.isEmpty = false) {o : List Bool} {Q : Post3} : ∀ A h, restX tb post o Q A h → TriL P base E post A h Q := fun A h hh => TriL.path hB o hl hh
noncomputable def toX (σ : Nat → Nat) (N : Nat) (K : JS) : AA → AH → Prop := fun A h => All (wk σ N A h K)
theorem TriL.weaken {l : List Code} (hl : l.isEmpty = false) {A A' : AA} {h h' : AH} {Q : Post3} (hs : SLe base E A h A' h') (hx : TriL P base E l A' h' Q) : TriL P base E l A h Q := by
  cases l with
  | nil => cases hl
  | cons c l => exact Tri.weaken hs hx
theorem toX_ok {σ : Nat → Nat} {N : Nat} (hN : E.h.next = N) {K : JS} {post : List Code} (hl : post.isEmpty = false) {Q : Post3} (hK : TriL P base E post K.A K.h Q) : ∀ A h, toX σ N K A h → TriL P base E post A h Q := fun A h hh => TriL.weaken hl (wk_ok hN hh) hK
theorem flat_loop {l : List Code} {k : Nat} (hc : isLoop l k = true) : l = l.take k ++ (.block (loopId l k) (.loop (loopAt l k)) :: l.drop (k + 1)) := by
  unfold isLoop at hc
  unfold loopId loopAt
  split at hc <;> try (cases hc; done)
  rename_i id c hk
  have hlt := (List.getElem?_eq_some_iff.1 hk).1
  conv => lhs; rw [← List.take_append_drop k l]
  rw [List.drop_eq_getElem_cons hlt]
  have := (List.getElem?_eq_some_iff.1 hk).2
  rw [this]
theorem TriL.rounds {l : List Code} (k : Nat) (hc : isLoop l k = true) {ι : Type} (J : ι → JS) (μ : ι → Nat) (i0 : ι) {A : AA} {h : AH} {Q : Post3}
    (pre : TriL P base E (l.take k) A h (fun e A' h' => (e = .norm → SLe base E A' h' (J i0).A (J i0).h) ∧ (e ≠ .norm → Q e A' h')))
    (round : ∀ i, Tri P base E (loopAt l k) (J i).A (J i).h (RoundR P base E J μ (loopId l k) (l.drop (k + 1)) Q i)) : TriL P base E l A h Q := by
  rw [flat_loop hc]
  refine TriL.append (TriL.mono pre fun e A' h' hh => ⟨fun he => ?_, hh.2⟩)
  refine Tri.weaken (hh.1 he) ?_
  refine Tri.block ?_
  refine Tri.loop (fun i => ((J i).A, (J i).h)) μ i0 fun i => (round i).mono fun e A1 h1 hr => ?_
  rcases hr with ⟨he1, i', hμ, hs⟩ | ⟨he1, hx⟩ | ⟨h1', h2', hq⟩
  · exact .inl ⟨he1, i', hμ, hs⟩
  · subst he1
    exact .inr ⟨by simp, by simp; exact hx⟩
  · refine .inr ⟨h1', ?_⟩
    rw [if_neg h2']
    exact ⟨fun he => absurd he h1', fun _ => hq⟩
theorem preQ_ok {σ : Nat → Nat} {N : Nat} (hN : E.h.next = N) {J0 : JS} {Q : Post3} : ∀ e A h, preQ σ N J0 Q e A h → (e = .norm → SLe base E A h J0.A J0.h) ∧ (e ≠ .norm → Q e A h) := fun e A h hh => by
  cases e with
  | norm => exact ⟨fun _ => wk_ok hN hh, fun he => absurd rfl he⟩
  | exit j => exact ⟨(fun he => by cases he), fun _ => hh⟩
  | ret => exact ⟨(fun he => by cases he), fun _ => hh⟩
  | goto l => exact ⟨(fun he => by cases he), fun _ => hh⟩
end
end PartOfUo
end Go.Proofs.YtbjffjnmjkogkaaGreat.GY
