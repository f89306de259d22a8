/- A run worked out: operations on memory. -/
import Derived.Test.YtknplcpjmpmblaaDoorZxe
set_option linter.unusedVariables false
set_option linter.unusedSimpArgs false
namespace Go.Proofs.YtknplcpjmpmblaaDoor.GX
open Go Go.RowKit

theorem one_conc {θ : Th} {v : AV} (h : isOne v = true) : (conc θ v).oneCell' = true := by
  cases v <;> simp_all [isOne, conc, Value.oneCell']
theorem ones_conc {θ : Th} : ∀ {l : List AV}, ones l = true → ∀ u ∈ l.map (conc θ), u.oneCell' = true
  | [], _, u, hu => by cases hu
  | v :: vs, h, u, hu => by
    simp only [ones, Bool.and_eq_true] at h
    rcases List.mem_cons.1 hu with rfl | hu
    · exact one_conc h.1
    · exact ones_conc h.2 u hu

/-- What an operation is and does, of the run and of the world. -/
def XOK (P : Program) (base : Bs) (θ : Th) (h : AH) (w : World) (s : Sem Next) : XR → Prop
  | .val v h' => ∃ θ' w', s.run P w = .ok (.value (conc θ' v)) w' ∧ bd θ' h'.next v ∧ Post base θ h w θ' h' w'
  | .skip h' => ∃ θ' w', s.run P w = .ok .skip w' ∧ Post base θ h w θ' h' w'
  | .enter f args => bdl θ h.next args ∧ s.run P w = (callFunc f (args.map (conc θ)).toArray).run P w
  | .round id args => bdl θ h.next args ∧ id < h.next ∧ s.run P w = (Instr.yield (θ id).b (args.map (conc θ)).toArray).run P w
  | .no => True

section
variable {P : Program} {tb : Tab} {θ : Th} {base : Bs} {h : AH} {ev : Operand → Option AV} {ρ : Operand → Value} {w : World}
theorem OOK.cell {n id : Nat} {cs : List AV} {el : TypeId} {row : Option Nat} (ho : OOK θ n id (.cells cs el row) w) {j : Nat} {v : AV} (hv : cs[j]? = some v) : w.cell? ⟨(θ id).b, j, none⟩ = some (conc θ v) := by
  obtain ⟨hb, cur, hc, ht, _⟩ := ho
  rw [cell_of_row w _ j cur el (0, 0) hc, ← Array.getElem?_toList]
  have hj : j < cs.length := (List.getElem?_eq_some_iff.1 hv).1
  have := congrArg (·[j]?) ht
  simp only [List.getElem?_take, hj, if_true, List.getElem?_map, hv, Option.map_some] at this
  exact this
theorem add_plain' (b o i : Nat) : (⟨b, o, none⟩ : Addr).add i = ⟨b, o + i, none⟩ := by
  unfold Addr.add; split <;> simp_all
theorem xload_ok (hT : ∀ t i, tb.ty.get t = some i → TyOK P t i) (hR : R base θ h w) (hE : EvOK θ h.next ev ρ) {o : Oper} {v : AV} (hx : xload tb h ev o = some v) :
    bd θ h.next v ∧ (execOp ρ o).run P w = .ok (.value (conc θ v)) w := by
  unfold xload at hx
  unfold execOp
  split at hx <;> rename_i ho <;> simp only [ho] <;> try (cases hx; done)
  rename_i t a
  unfold xLoad2 at hx
  split at hx <;> try (cases hx; done)
  rename_i id off hid
  split at hx <;> try (cases hx; done)
  rename_i cs el row hm
  split at hx <;> try (cases hx; done)
  rename_i i hi
  obtain ⟨_, _, hok⟩ := hR.obj id _ hm
  have hb : bdl θ h.next cs := hok.1
  have hTi := hT t i hi
  have hal := (hE a _ hid).2
  suffices hs : bd θ h.next v ∧ (loadVar t ⟨(θ id).b, off, none⟩).run P w = .ok (conc θ v) w by
    refine ⟨hs.1, run_val ?_⟩
    simp only [Instr.loadAt, hal, conc, Instr.sureAddr, Sem.run_bind, Sem.run_pure, Result.andThen, hs.2]
  unfold apart at hx
  unfold loadVar
  rw [Sem.run_bind, run_isAgg' hTi w]
  cases ha : i.agg with
  | true =>
    rw [ha] at hx
    simp only [if_true] at hx
    split at hx
    · rename_i hle
      cases hx
      refine ⟨?_, ?_⟩
      · simp only [bd]; exact fun x hx => hb x (List.mem_of_mem_drop (List.mem_of_mem_take hx))
      · have hl : (loadCells ⟨(θ id).b, off, none⟩ (((cs.drop off).take i.size).map (conc θ)).length).run P w = .ok (((cs.drop off).take i.size).map (conc θ)).toArray w :=
          run_loadCells_list (P := P) w _ _ fun j u hu => by
            rw [List.getElem?_map] at hu
            obtain ⟨x, hx, rfl⟩ := map_some hu
            rw [List.getElem?_take] at hx
            split at hx
            · rw [List.getElem?_drop] at hx
              rw [add_plain']
              exact hok.cell hx
            · cases hx
        have hlen : (((cs.drop off).take i.size).map (conc θ)).length = i.size := by simp; omega
        rw [hlen] at hl
        simp [Result.andThen, Sem.run_bind, run_size hTi w, hl, conc]
    · cases hx
  | false =>
    rw [ha] at hx
    simp only [Bool.false_eq_true, if_false] at hx
    refine ⟨hb v (List.mem_of_getElem? hx), ?_⟩
    have := hok.cell hx
    simp [Result.andThen, load, Sem.run, this]

theorem OOK.fresh {o : Obj} {id n : Nat} {cs : List AV} {el : TypeId} {cur : Array Value} {θ' : Th} (hb : bdl θ' n cs) (hw : w.heap[(θ' id).b]? = some (.cells cur el (0, 0))) (hc : cur.toList = cs.map (conc θ')) : OOK θ' n id (.cells cs el none) w :=
  ⟨hb, cur, hw, by rw [hc, ← List.length_map (f := conc θ'), List.take_length], by rw [← Array.length_toList, hc, List.length_map]⟩
/-- A new block, wherever it comes to lie. -/
def Fresh (P : Program) (base : Bs) (θ : Th) (h : AH) (s : Sem Next) (v : AV) (h' : AH) : Prop :=
  h'.next = h.next + 1 ∧ (∀ id, id ≠ h.next → h'.m.get id = h.m.get id) ∧ ∃ (obj : Obj) (c : Nat) (f : Nat → Value), (∀ w, s.run P w = .ok (.value (f w.heap.size)) (w.alloc obj)) ∧
    ∀ w b, R base θ h w → w.heap[b]? = some obj → base.n ≤ b → (∀ id o, h.m.get id = some o → (θ id).b ≠ b) →
      R base (upd θ h.next ⟨b, c, none⟩) h' w ∧ bd (upd θ h.next ⟨b, c, none⟩) h'.next v ∧ conc (upd θ h.next ⟨b, c, none⟩) v = f b
def FOK (P : Program) (base : Bs) (θ : Th) (h : AH) (s : Sem Next) : XR → Prop
  | .val v h' => Fresh P base θ h s v h'
  | .no => True
  | _ => False
theorem Fresh.post {s : Sem Next} {v : AV} {h' : AH} (hF : Fresh P base θ h s v h') (hR : R base θ h w) : ∃ θ' w', s.run P w = .ok (.value (conc θ' v)) w' ∧ bd θ' h'.next v ∧ Post base θ h w θ' h' w' := by
  obtain ⟨hn, hm, obj, c, f, hrun, hall⟩ := hF
  have hbel : Below w.heap.size w (w.alloc obj) := (Below.refl _ w).alloc (Nat.le_refl _) obj
  have hun : ∀ id o, h.m.get id = some o → (θ id).b ≠ w.heap.size := fun id o hg => Nat.ne_of_lt (hR.obj id o hg).2.2.lt
  obtain ⟨r1, r2, r3⟩ := hall (w.alloc obj) w.heap.size (hR.more hbel) (heap_alloc_new w obj) hR.size hun
  refine ⟨_, _, by rw [r3]; exact hrun w, r2, upd_ext _ _ _, by omega, r1, hbel.mono hR.size, fun k hk _ => hbel.block k hk, fun id o hg => ?_⟩
  by_cases hid : id = h.next
  · subst hid; right; rw [upd_same]; exact Nat.le_refl _
  · rw [hm id hid] at hg; exact .inl ⟨id, o, hg, by rw [upd_ext θ h.next _ id (hR.obj id o hg).1]⟩
theorem FOK.xok {s : Sem Next} {X : XR} (hF : FOK P base θ h s X) (hR : R base θ h w) : XOK P base θ h w s X := by
  cases X with
  | val v h' => exact Fresh.post hF hR
  | no => trivial
  | skip h' => exact hF.elim
  | enter f args => exact hF.elim
  | round id args => exact hF.elim
/-- A new row of cells. -/
theorem added_ok {cs : List AV} {el : TypeId} {row : Option Nat} {c : Nat} {cur : Array Value} (hb : bdl θ h.next cs) (hc : cur.toList = cs.map (conc θ))
    (hrow : match row with | none => True | some sz => ∃ k, cs.length = k * sz ∧ k = c ∧ c ≤ maxLen)
    {s : Sem Next} {f : Nat → Value} {mk : Nat → AV} (hs : ∀ w, s.run P w = .ok (.value (f w.heap.size)) (w.alloc (.cells cur el)))
    (hf : ∀ (θ' : Th) (b : Nat), θ' h.next = ⟨b, c, none⟩ → bd θ' (h.next + 1) (mk h.next) ∧ conc θ' (mk h.next) = f b) : FOK P base θ h s (added h (.cells cs el row) (mk h.next)) := by
  unfold added
  split
  · rename_i h' ha
    obtain ⟨_, hm, hn⟩ := AH.add_spec ha
    refine ⟨hn, fun id hid => by rw [hm, T.get_set_other _ _ _ _ _ hid], .cells cur el, c, f, hs, fun w b hR hw hbase hu => ?_⟩
    have hE := upd_ext θ h.next ⟨b, c, none⟩
    have hsame := upd_same θ h.next ⟨b, c, none⟩
    obtain ⟨hf1, hf2⟩ := hf _ b hsame
    have hc' : cur.toList = cs.map (conc (upd θ h.next ⟨b, c, none⟩)) := by rw [hc, concl_ext hE hb]
    refine ⟨hR.adopt ha hbase hu ⟨bdl_ext hE (Nat.le_succ _) hb, cur, by rw [hsame]; exact hw, by rw [hc', ← List.length_map (f := conc (upd θ h.next ⟨b, c, none⟩)), List.take_length], ?_⟩, by rw [hn]; exact hf1, hf2⟩
    have hlen : cur.size = cs.length := by rw [← Array.length_toList, hc, List.length_map]
    cases row with
    | none => exact hlen
    | some sz =>
      obtain ⟨k, h1, rfl, h3⟩ := hrow
      rw [hsame]
      exact ⟨k, h1, Nat.le_refl _, h3, by rw [hlen, h1]⟩
  · trivial
theorem xAlloc_ok (hT : ∀ t i, tb.ty.get t = some i → TyOK P t i) {t : TypeId} : FOK P base θ h (do pure (Next.value (← Instr.alloc t true (.tuple #[])))) (xAlloc tb h t) := by
  unfold xAlloc
  split
  · rename_i i hi
    obtain ⟨z, hz, hzc⟩ := run_zero (hT t i hi)
    refine added_ok (c := 0) (cur := z.cells) (f := fun k => .pointer (some ⟨k, 0, none⟩)) (mk := fun k => .ptr k 0) (bd_lits _) (by rw [conc_lits, hzc]) trivial (fun w => ?_) fun θ' b h' => ⟨by simp [bd], by simp [conc, h']⟩
    exact run_val (by simp [Instr.alloc, Sem.run_bind, hz, Result.andThen, newVar, newRow, run_newObj_alloc])
  · trivial
theorem xBox_ok (hE : EvOK θ h.next ev ρ) {t : TypeId} {x : Operand} : FOK P base θ h (do pure (Next.value (← Instr.box t (ρ x)))) (xBox h t (ev x)) := by
  unfold xBox
  split
  · rename_i v hv
    obtain ⟨hb, hx⟩ := hE x _ hv
    refine added_ok (c := 0) (cur := (conc θ v).cells) (f := fun k => .pointer (some ⟨k, 0, none⟩)) (mk := fun k => .ptr k 0) (bd_cells hb) (conc_cells θ v) trivial (fun w => ?_) fun θ' b h' => ⟨by simp [bd], by simp [conc, h']⟩
    exact run_val (by simp [Instr.box, hx, Sem.run_bind, Result.andThen, newVar, newRow, run_newObj_alloc])
  · trivial
/-- A row of which some cells are changed. -/
theorem splice {α : Type} (C r news : List α) (off : Nat) (h : off + news.length ≤ C.length) :
    ((C ++ r).take off ++ news ++ (C ++ r).drop (off + news.length)) = (C.take off ++ news ++ C.drop (off + news.length)) ++ r := by
  rw [List.take_append_of_le_length (by omega), List.drop_append_of_le_length h]
  simp
theorem OOK.split {n id : Nat} {cs : List AV} {cur : Array Value} (ht : cur.toList.take cs.length = cs.map (conc θ)) : cur.toList = cs.map (conc θ) ++ cur.toList.drop cs.length := by
  rw [← ht, List.take_append_drop]
theorem xStore_ok (hT : ∀ t i, tb.ty.get t = some i → TyOK P t i) (hR : R base θ h w) (hE : EvOK θ h.next ev ρ) {t : TypeId} {a x : Operand} : XOK P base θ h w (do Instr.storeAt t (ρ a) (ρ x); pure .skip) (xStore tb h ev t a x) := by
  unfold xStore
  split
  · rename_i id off ha
    unfold xStore2
    split
    · rename_i v hv
      split
      · rename_i i cs el row hi hm
        unfold xStore3
        split
        · rename_i hc
          obtain ⟨hc1, hc2, hc3⟩ := hc
          unfold stored
          split
          · rename_i h' hp
            obtain ⟨hidn, hbase, hok⟩ := hR.obj id _ hm
            obtain ⟨hb, cur, hcur, ht, hrow⟩ := hok
            obtain ⟨hbv, hx⟩ := hE x _ hv
            have ha' := (hE a _ ha).2
            have hnews : (conc θ v).cells.toList = (acells v).map (conc θ) := conc_cells θ v
            have hlen : (conc θ v).cells.toList.length = i.size := by rw [hnews, List.length_map, hc1]
            have hcl : cs.length ≤ cur.size := by
              have := congrArg List.length ht
              simp at this; omega
            have hst := run_storeCells_at P (θ id).b off el (conc θ v).cells.toList 0 cur w hcur (by rw [hlen]; omega) (by rw [hnews]; exact ones_conc hc3)
            simp only [Nat.add_zero] at hst
            refine ⟨θ, w.setRow (θ id).b (cur.toList.take off ++ (conc θ v).cells.toList ++ cur.toList.drop (off + (conc θ v).cells.toList.length)).toArray, ?_, Post.put hR hm hp (fun k hk => setRow_other w _ k _ hk) (by simp) ⟨rfl, rfl, rfl, by simp, fun k hk => setRow_other w _ k _ (by omega)⟩ ?_⟩
            · rw [ha', hx]
              simp only [Instr.storeAt, conc, Instr.sureAddr, storeVar, Sem.run_bind, Sem.run_pure, Result.andThen, run_size (hT t i hi) w]
              rw [if_neg (by rw [← Array.length_toList, hlen]; simp)]
              simp only [hst]
            · refine ⟨?_, _, setRow_heap w _ cur _ el _ hcur, ?_, ?_⟩
              · intro y hy
                rcases List.mem_append.1 hy with hy | hy
                · rcases List.mem_append.1 hy with hy | hy
                  · exact hb y (List.mem_of_mem_take hy)
                  · exact bd_cells hbv y hy
                · exact hb y (List.mem_of_mem_drop hy)
              · have hsp := splice (cs.map (conc θ)) (cur.toList.drop cs.length) ((acells v).map (conc θ)) off (by simp; omega)
                rw [← OOK.split (n := h.next) (id := id) ht] at hsp
                rw [hnews, hsp]
                simp only [List.length_map, hc1]
                have e2 : ((cs.take off ++ acells v ++ cs.drop (off + i.size)).map (conc θ)) = (cs.map (conc θ)).take off ++ (acells v).map (conc θ) ++ (cs.map (conc θ)).drop (off + i.size) := by simp [List.map_take, List.map_drop]
                rw [e2, List.take_append_of_le_length (by simp; try omega)]
                exact List.take_of_length_le (by simp; try omega)
              · have hs1 : (cur.toList.take off ++ (conc θ v).cells.toList ++ cur.toList.drop (off + (conc θ v).cells.toList.length)).toArray.size = cur.size := by simp [hlen] at *; omega
                have hs2 : (cs.take off ++ acells v ++ cs.drop (off + i.size)).length = cs.length := by simp; omega
                rw [hs1, hs2]
                exact hrow
          · trivial
        · trivial
      · trivial
    · trivial
  · trivial
end
end Go.Proofs.YtknplcpjmpmblaaDoor.GX
