/- A run worked out: operations on memory. -/
import Derived.Test.YtknplcpjmpmblaaDoorUe
set_option linter.unusedVariables false
set_option linter.unusedSimpArgs false
namespace Go.Proofs.YtknplcpjmpmblaaDoor.GY
open Go Go.RowKit

theorem one_conc {θ : Th} {v : AV} (h : isOne v = true) : (conc θ v).oneCell' = true := by
  cases v <;> simp_all [isOne, conc, Value.oneCell']
theorem ones_conc {θ : Th} : ∀ {l : List AV}, ones l = true → ∀ u ∈ l.map (conc θ), u.oneCell' = true
  | [], _, u, hu => by cases hu
  | v :: vs, h, u, hu => by
    simp only [ones, Bool.and_eq_true] at h
    rcases List.mem_cons.1 hu with rfl | hu
    · exact one_conc h.1
    · exact ones_conc h.2 u hu

theorem ai64_ok {v : AV} {n : Int} (h : ai64 v = some n) : v = .lit (.int .i64 n) := by
  unfold ai64 at h
  split at h
  · cases h; rfl
  · cases h
theorem ai64s_ok : ∀ {l : List AV} {ns : List Int}, ai64s l = some ns → l = ns.map fun n => .lit (.int .i64 n)
  | [], ns, h => by cases h; rfl
  | v :: vs, ns, h => by
    simp only [ai64s] at h
    split at h
    · rename_i n ms h1 h2
      cases h
      rw [ai64_ok h1, ai64s_ok h2]
      rfl
    · cases h
/-- What an operation is and does, of the run and of the world. -/
def XOK (P : Program) (base : Bs) (θ : Th) (h : AH) (w : World) (s : Sem Next) : XR → Prop
  | .val v h' => (All h'.sc → All h.sc) ∧ (All h'.sc → ∃ θ' w', s.run P w = .ok (.value (conc θ' v)) w' ∧ bd θ' h'.next v ∧ Post base θ h w θ' h' w')
  | .skip h' => (All h'.sc → All h.sc) ∧ (All h'.sc → ∃ θ' w', s.run P w = .ok .skip w' ∧ Post base θ h w θ' h' w')
  | .enter f args => bdl θ h.next args ∧ s.run P w = (callFunc f (args.map (conc θ)).toArray).run P w
  | .round id args => bdl θ h.next args ∧ id < h.next ∧ s.run P w = (Instr.yield (θ id).b (args.map (conc θ)).toArray).run P w
  | .no => True

section
variable {P : Program} {tb : Tab} {θ : Th} {base : Bs} {h : AH} {ev : Operand → Option AV} {ρ : Operand → Value} {w : World}
theorem OOK.cell {n id : Nat} {cs : List AV} {el : TypeId} {row : Option Nat} (ho : OOK θ n id (.cells cs el row) w) {j : Nat} {v : AV} (hv : cs[j]? = some v) : w.cell? ⟨(θ id).b, j, none⟩ = some (conc θ v) := by
  obtain ⟨hb, cur, hc, ht, _⟩ := ho
  rw [cell_of_row w _ j cur el (0, 0) hc, ← Array.getElem?_toList]
  have hj : j < cs.length := (List.getElem?_eq_some_iff.1 hv).1
  have := congrArg (·[j]?) ht
  simp only [List.getElem?_take, hj, if_true, List.getElem?_map, hv, Option.map_some] at this
  exact this
theorem add_plain' (b o i : Nat) : (⟨b, o, none⟩ : Addr).add i = ⟨b, o + i, none⟩ := by
  unfold Addr.add; split <;> simp_all
/-- A row of numbers that is known, the run's own or not. -/
theorem rowAt_ok (hR : R base θ h w) {id sz n : Nat} {f : Nat → Nat → Int} (hx : rowAt h id = some (sz, n, f)) : id < h.next ∧ (∀ k j, k < n → j < sz → w.cell? ⟨(θ id).b, (θ id).o + (k * sz + j), none⟩ = some (.int .i64 (f k j))) ∧ n ≤ (θ id).c ∧ (θ id).c ≤ maxLen ∧ (0 < n → (θ id).a = some ⟨(θ id).b, (θ id).o, none⟩) := by
  unfold rowAt at hx
  split at hx <;> try (cases hx; done)
  · rename_i el sz' n' f' hm
    cases hx
    obtain ⟨a, b, cur, hc, ha, h1, h2, h3, hcell⟩ := hR.obj id _ hm
    refine ⟨a, fun k j hk hj => ?_, h1, h2, fun _ => by rw [ha]; simp [Ref.o, ha]⟩
    have ho : (θ id).o = 0 := by simp [Ref.o, ha]
    rw [ho, Nat.zero_add, cell_of_row w _ _ cur el (0, 0) hc]
    exact hcell k j hk hj
  · split at hx <;> try (cases hx; done)
    rename_i r hr
    cases hx
    obtain ⟨a, b, _⟩ := hR.rom id _ hr
    refine ⟨a, b.cell, b.le, b.cap, fun h0 => ?_⟩
    obtain ⟨o, ho⟩ := b.a h0
    rw [ho]; simp [Ref.o, ho]
theorem icells_get {f : Nat → Nat → Int} {k : Nat} : ∀ (s j i : Nat) (v : AV), (icells f k j s)[i]? = some v → i < s ∧ v = .lit (.int .i64 (f k (j + i)))
  | 0, j, i, v, h => by simp [icells] at h
  | s + 1, j, 0, v, h => by simp [icells] at h; exact ⟨by omega, h.symm⟩
  | s + 1, j, i + 1, v, h => by
    simp only [icells, List.getElem?_cons_succ] at h
    obtain ⟨a, b⟩ := icells_get s (j + 1) i v h
    exact ⟨by omega, by rw [b, show j + 1 + i = j + (i + 1) by omega]⟩
theorem icells_len {f : Nat → Nat → Int} {k : Nat} : ∀ (s j : Nat), (icells f k j s).length = s
  | 0, j => rfl
  | s + 1, j => by simp [icells, icells_len s]
theorem icells_bd {n k : Nat} {f : Nat → Nat → Int} (s j : Nat) : bdl θ n (icells f k j s) := fun x hx => by
  obtain ⟨i, hi⟩ := List.mem_iff_getElem?.1 hx
  obtain ⟨_, rfl⟩ := icells_get s j i x hi
  simp [bd]
/-- What a load of known cells gives. -/
theorem apart_cells {t : TypeId} {i : TyI} (hTi : TyOK P t i) {n b off : Nat} {vs : List AV} {v : AV} (hbv : bdl θ n vs) (hl : vs.length = i.size) (hcell : ∀ j u, vs[j]? = some u → w.cell? ⟨b, off + j, none⟩ = some (conc θ u)) (hx : apart i.agg vs 0 i.size = some v) :
    bd θ n v ∧ (loadVar t ⟨b, off, none⟩).run P w = .ok (conc θ v) w := by
  unfold apart at hx
  unfold loadVar
  rw [Sem.run_bind, run_isAgg' hTi w]
  cases ha : i.agg with
  | true =>
    rw [ha] at hx
    simp only [if_true, Nat.zero_add, List.drop_zero] at hx
    split at hx
    · cases hx
      refine ⟨?_, ?_⟩
      · simp only [bd]; exact fun x hx => hbv x (List.mem_of_mem_take hx)
      · rw [List.take_of_length_le (by omega)]
        have hlc : (loadCells ⟨b, off, none⟩ (vs.map (conc θ)).length).run P w = .ok (vs.map (conc θ)).toArray w :=
          run_loadCells_list (P := P) w _ _ fun j u hu => by
            rw [List.getElem?_map] at hu
            obtain ⟨x, hx, rfl⟩ := map_some hu
            have : (⟨b, off, none⟩ : Addr).add j = ⟨b, off + j, none⟩ := by unfold Addr.add; split <;> simp_all
            rw [this]
            exact hcell j x hx
        rw [List.length_map, hl] at hlc
        simp [Result.andThen, Sem.run_bind, run_size hTi w, hlc, conc]
    · cases hx
  | false =>
    rw [ha] at hx
    simp only [Bool.false_eq_true, if_false] at hx
    refine ⟨hbv v (List.mem_of_getElem? hx), ?_⟩
    have := hcell 0 v hx
    simp only [Nat.add_zero] at this
    simp [Result.andThen, load, Sem.run, this]
theorem xLoadR_ok (hT : ∀ t i, tb.ty.get t = some i → TyOK P t i) (hR : R base θ h w) {t : TypeId} {id sz k j sz' n : Nat} {f : Nat → Nat → Int} {v : AV} (hr : rowAt h id = some (sz', n, f)) (hk : k < n) (hx : xLoadR tb t sz k j (some (sz', n, f)) = some v) :
    bd θ h.next v ∧ (loadVar t ⟨(θ id).b, (θ id).o + (k * sz + j), none⟩).run P w = .ok (conc θ v) w := by
  unfold xLoadR at hx
  split at hx <;> try (cases hx; done)
  rename_i a b c heq
  cases heq
  split at hx <;> try (cases hx; done)
  rename_i hsz
  obtain rfl := Nat.eq_of_beq_eq_true hsz
  split at hx <;> try (cases hx; done)
  rename_i i hi
  split at hx <;> try (cases hx; done)
  rename_i hle
  have hle := Nat.le_of_ble_eq_true hle
  obtain ⟨hid, hcell, _⟩ := rowAt_ok hR hr
  refine apart_cells (hT t i hi) (icells_bd _ _) (icells_len _ _) (fun q u hu => ?_) hx
  obtain ⟨hq, rfl⟩ := icells_get _ _ _ _ hu
  have := hcell k (j + q) hk (by omega)
  rw [conc_lit, Nat.add_assoc, Nat.add_assoc]
  exact this
theorem xload_ok (hT : ∀ t i, tb.ty.get t = some i → TyOK P t i) (hR : R base θ h w) (hE : EvOK θ h.next ev ρ) {o : Oper} {v : AV} (hx : xload tb h ev o = some v) (hs : All (lside h ev o)) :
    bd θ h.next v ∧ (execOp ρ o).run P w = .ok (.value (conc θ v)) w := by
  unfold xload at hx
  unfold execOp
  split at hx <;> rename_i ho <;> simp only [ho] <;> try (cases hx; done)
  rename_i t a
  unfold xLoad2 at hx
  split at hx <;> try (cases hx; done)
  case h_2 =>
    rename_i id sz k j hid
    unfold lside at hs
    simp only [ho, lside2, hid] at hs
    cases hr : rowAt h id with
    | none => rw [hr] at hx; cases hx
    | some q =>
      obtain ⟨sz', n, f⟩ := q
      rw [hr] at hx hs
      have hs := xLoadR_ok hT hR hr hs.1.p hx
      have hal := (hE a _ hid).2
      refine ⟨hs.1, run_val ?_⟩
      simp only [Instr.loadAt, hal, conc, Instr.sureAddr, Sem.run_bind, Sem.run_pure, Result.andThen, hs.2]
  rename_i id off hid
  split at hx <;> try (cases hx; done)
  rename_i cs el row hm
  split at hx <;> try (cases hx; done)
  rename_i i hi
  obtain ⟨_, _, hok⟩ := hR.obj id _ hm
  have hb : bdl θ h.next cs := hok.1
  have hTi := hT t i hi
  have hal := (hE a _ hid).2
  suffices hs : bd θ h.next v ∧ (loadVar t ⟨(θ id).b, off, none⟩).run P w = .ok (conc θ v) w by
    refine ⟨hs.1, run_val ?_⟩
    simp only [Instr.loadAt, hal, conc, Instr.sureAddr, Sem.run_bind, Sem.run_pure, Result.andThen, hs.2]
  unfold apart at hx
  unfold loadVar
  rw [Sem.run_bind, run_isAgg' hTi w]
  cases ha : i.agg with
  | true =>
    rw [ha] at hx
    simp only [if_true] at hx
    split at hx
    · rename_i hle
      cases hx
      refine ⟨?_, ?_⟩
      · simp only [bd]; exact fun x hx => hb x (List.mem_of_mem_drop (List.mem_of_mem_take hx))
      · have hl : (loadCells ⟨(θ id).b, off, none⟩ (((cs.drop off).take i.size).map (conc θ)).length).run P w = .ok (((cs.drop off).take i.size).map (conc θ)).toArray w :=
          run_loadCells_list (P := P) w _ _ fun j u hu => by
            rw [List.getElem?_map] at hu
            obtain ⟨x, hx, rfl⟩ := map_some hu
            rw [List.getElem?_take] at hx
            split at hx
            · rw [List.getElem?_drop] at hx
              rw [add_plain']
              exact hok.cell hx
            · cases hx
        have hlen : (((cs.drop off).take i.size).map (conc θ)).length = i.size := by simp; omega
        rw [hlen] at hl
        simp [Result.andThen, Sem.run_bind, run_size hTi w, hl, conc]
    · cases hx
  | false =>
    rw [ha] at hx
    simp only [Bool.false_eq_true, if_false] at hx
    refine ⟨hb v (List.mem_of_getElem? hx), ?_⟩
    have := hok.cell hx
    simp [Result.andThen, load, Sem.run, this]

theorem OOK.fresh {o : Obj} {id n : Nat} {cs : List AV} {el : TypeId} {cur : Array Value} {θ' : Th} (hb : bdl θ' n cs) (hw : w.heap[(θ' id).b]? = some (.cells cur el (0, 0))) (hc : cur.toList = cs.map (conc θ')) : OOK θ' n id (.cells cs el none) w :=
  ⟨hb, cur, hw, by rw [hc, ← List.length_map (f := conc θ'), List.take_length], by rw [← Array.length_toList, hc, List.length_map]⟩
/-- A new block, wherever it comes to lie. -/
def Fresh (P : Program) (base : Bs) (θ : Th) (h : AH) (s : Sem Next) (v : AV) (h' : AH) : Prop :=
  (h'.next = h.next + 1 ∧ h'.ro = h.ro ∧ h'.sc = h.sc) ∧ (∀ id, id ≠ h.next → h'.m.get id = h.m.get id) ∧ ∃ (obj : Obj) (c : Nat) (f : Nat → Value), (∀ w, s.run P w = .ok (.value (f w.heap.size)) (w.alloc obj)) ∧
    ∀ w b, R base θ h w → w.heap[b]? = some obj → base.n ≤ b → NU θ h b →
      R base (upd θ h.next ⟨b, c, some ⟨b, 0, none⟩⟩) h' w ∧ bd (upd θ h.next ⟨b, c, some ⟨b, 0, none⟩⟩) h'.next v ∧ conc (upd θ h.next ⟨b, c, some ⟨b, 0, none⟩⟩) v = f b
def FOK (P : Program) (base : Bs) (θ : Th) (h : AH) (s : Sem Next) : XR → Prop
  | .val v h' => Fresh P base θ h s v h'
  | .no => True
  | _ => False
theorem Fresh.post {s : Sem Next} {v : AV} {h' : AH} (hF : Fresh P base θ h s v h') (hR : R base θ h w) : ∃ θ' w', s.run P w = .ok (.value (conc θ' v)) w' ∧ bd θ' h'.next v ∧ Post base θ h w θ' h' w' := by
  obtain ⟨⟨hn, hro, hsc⟩, hm, obj, c, f, hrun, hall⟩ := hF
  have hbel : Below w.heap.size w (w.alloc obj) := (Below.refl _ w).alloc (Nat.le_refl _) obj
  have hun : NU θ h w.heap.size := ⟨fun id o hg => Nat.ne_of_lt (hR.obj id o hg).2.2.lt, fun id r hg h0 => Nat.ne_of_lt ((hR.rom id r hg).2.1.lt h0)⟩
  obtain ⟨r1, r2, r3⟩ := hall (w.alloc obj) w.heap.size (hR.more hbel) (heap_alloc_new w obj) hR.size hun
  refine ⟨_, _, by rw [r3]; exact hrun w, r2, upd_ext _ _ _, by omega, r1, hbel.mono hR.size, fun k hk _ => hbel.block k hk, fun id o hg => ?_, fun id r hg h0 => .inl ⟨id, r, by rw [← hro]; exact hg, h0, by rw [upd_ext θ h.next _ id (hR.rom id r (by rw [← hro]; exact hg)).1]⟩⟩
  by_cases hid : id = h.next
  · subst hid; right; rw [upd_same]; exact Nat.le_refl _
  · rw [hm id hid] at hg; exact .inl ⟨id, o, hg, by rw [upd_ext θ h.next _ id (hR.obj id o hg).1]⟩
theorem FOK.xok {s : Sem Next} {X : XR} (hF : FOK P base θ h s X) (hR : R base θ h w) : XOK P base θ h w s X := by
  cases X with
  | val v h' => exact ⟨fun hs => by rw [← hF.1.2.2]; exact hs, fun _ => Fresh.post hF hR⟩
  | no => trivial
  | skip h' => exact hF.elim
  | enter f args => exact hF.elim
  | round id args => exact hF.elim
/-- A new row of cells. -/
theorem added_ok {cs : List AV} {el : TypeId} {row : Option Nat} {c : Nat} {cur : Array Value} (hb : bdl θ h.next cs) (hc : cur.toList = cs.map (conc θ))
    (hrow : match row with | none => True | some sz => ∃ k, cs.length = k * sz ∧ k = c ∧ c ≤ maxLen)
    {s : Sem Next} {f : Nat → Value} {mk : Nat → AV} (hs : ∀ w, s.run P w = .ok (.value (f w.heap.size)) (w.alloc (.cells cur el)))
    (hf : ∀ (θ' : Th) (b : Nat), θ' h.next = ⟨b, c, some ⟨b, 0, none⟩⟩ → bd θ' (h.next + 1) (mk h.next) ∧ conc θ' (mk h.next) = f b) : FOK P base θ h s (added h (.cells cs el row) (mk h.next)) := by
  unfold added
  split
  · rename_i h' ha
    obtain ⟨_, hm, hn, hro, hsc⟩ := AH.add_spec ha
    refine ⟨⟨hn, hro, hsc⟩, fun id hid => by rw [hm, T.get_set_other _ _ _ _ _ hid], .cells cur el, c, f, hs, fun w b hR hw hbase hu => ?_⟩
    have hE := upd_ext θ h.next ⟨b, c, some ⟨b, 0, none⟩⟩
    have hsame := upd_same θ h.next ⟨b, c, some ⟨b, 0, none⟩⟩
    obtain ⟨hf1, hf2⟩ := hf _ b hsame
    have hc' : cur.toList = cs.map (conc (upd θ h.next ⟨b, c, some ⟨b, 0, none⟩⟩)) := by rw [hc, concl_ext hE hb]
    refine ⟨hR.adopt ha hbase hu ⟨bdl_ext hE (Nat.le_succ _) hb, cur, by rw [hsame]; exact hw, by rw [hc', ← List.length_map (f := conc (upd θ h.next ⟨b, c, some ⟨b, 0, none⟩⟩)), List.take_length], ?_⟩, by rw [hn]; exact hf1, hf2⟩
    have hlen : cur.size = cs.length := by rw [← Array.length_toList, hc, List.length_map]
    cases row with
    | none => exact hlen
    | some sz =>
      obtain ⟨k, h1, rfl, h3⟩ := hrow
      rw [hsame]
      exact ⟨k, h1, Nat.le_refl _, h3, by rw [hlen, h1]⟩
  · trivial
/-- A new row of numbers. -/
theorem addedR_ok {el : TypeId} {sz n : Nat} {f : Nat → Nat → Int} {cur : Array Value} (hn : n ≤ maxLen) (hc : cur.size = n * sz) (hcell : ∀ k j, k < n → j < sz → cur[k * sz + j]? = some (.int .i64 (f k j)))
    {s : Sem Next} (hs : ∀ w, s.run P w = .ok (.value (.slice (some ⟨w.heap.size, 0, none⟩) n n)) (w.alloc (.cells cur el))) : FOK P base θ h s (added h (.irow el sz n f) (.isl h.next n)) := by
  unfold added
  split
  · rename_i h' ha
    obtain ⟨_, hm, hn', hro, hsc⟩ := AH.add_spec ha
    refine ⟨⟨hn', hro, hsc⟩, fun id hid => by rw [hm, T.get_set_other _ _ _ _ _ hid], .cells cur el, n, fun k => .slice (some ⟨k, 0, none⟩) n n, hs, fun w b hR hw hbase hu => ?_⟩
    have hE := upd_ext θ h.next ⟨b, n, some ⟨b, 0, none⟩⟩
    have hsame := upd_same θ h.next ⟨b, n, some ⟨b, 0, none⟩⟩
    refine ⟨hR.adopt ha hbase hu ⟨cur, by rw [hsame]; exact hw, by rw [hsame], by rw [hsame]; exact Nat.le_refl _, by rw [hsame]; exact hn, by rw [hsame]; exact hc, hcell⟩, ?_, ?_⟩
    · simp only [bd, hn', hsame]; exact ⟨by omega, fun _ => by simp [Ref.o]⟩
    · simp only [conc, hsame]
  · trivial
theorem xAlloc_ok (hT : ∀ t i, tb.ty.get t = some i → TyOK P t i) {t : TypeId} : FOK P base θ h (do pure (Next.value (← Instr.alloc t true (.tuple #[])))) (xAlloc tb h t) := by
  unfold xAlloc
  split
  · rename_i i hi
    obtain ⟨z, hz, hzc⟩ := run_zero (hT t i hi)
    refine added_ok (c := 0) (cur := z.cells) (f := fun k => .pointer (some ⟨k, 0, none⟩)) (mk := fun k => .ptr k 0) (bd_lits _) (by rw [conc_lits, hzc]) trivial (fun w => ?_) fun θ' b h' => ⟨by simp [bd], by simp [conc, h']⟩
    exact run_val (by simp [Instr.alloc, Sem.run_bind, hz, Result.andThen, newVar, newRow, run_newObj_alloc])
  · trivial
theorem xBox_ok (hE : EvOK θ h.next ev ρ) {t : TypeId} {x : Operand} : FOK P base θ h (do pure (Next.value (← Instr.box t (ρ x)))) (xBox h t (ev x)) := by
  unfold xBox
  split
  · rename_i v hv
    obtain ⟨hb, hx⟩ := hE x _ hv
    refine added_ok (c := 0) (cur := (conc θ v).cells) (f := fun k => .pointer (some ⟨k, 0, none⟩)) (mk := fun k => .ptr k 0) (bd_cells hb) (conc_cells θ v) trivial (fun w => ?_) fun θ' b h' => ⟨by simp [bd], by simp [conc, h']⟩
    exact run_val (by simp [Instr.box, hx, Sem.run_bind, Result.andThen, newVar, newRow, run_newObj_alloc])
  · trivial
/-- A row of which some cells are changed. -/
theorem splice {α : Type} (C r news : List α) (off : Nat) (h : off + news.length ≤ C.length) :
    ((C ++ r).take off ++ news ++ (C ++ r).drop (off + news.length)) = (C.take off ++ news ++ C.drop (off + news.length)) ++ r := by
  rw [List.take_append_of_le_length (by omega), List.drop_append_of_le_length h]
  simp
theorem OOK.split {n id : Nat} {cs : List AV} {cur : Array Value} (ht : cur.toList.take cs.length = cs.map (conc θ)) : cur.toList = cs.map (conc θ) ++ cur.toList.drop cs.length := by
  rw [← ht, List.take_append_drop]
theorem xStoreR_ok (hT : ∀ t i, tb.ty.get t = some i → TyOK P t i) (hR : R base θ h w) (hE : EvOK θ h.next ev ρ) {t : TypeId} {a x : Operand} {id sz k j : Nat} (ha : ev a = some (.rp id sz k j)) : XOK P base θ h w (do Instr.storeAt t (ρ a) (ρ x); pure .skip) (xStoreR tb h t id sz k j (ev x)) := by
  unfold xStoreR
  split
  · rename_i v hv
    split
    · rename_i i el sz' n f ns hi hm hns
      split
      · rename_i hc
        simp only [Bool.and_eq_true] at hc
        obtain ⟨⟨hc1, hc2⟩, hc3⟩ := hc
        obtain rfl := Nat.eq_of_beq_eq_true hc1
        have hc2 := Nat.le_of_ble_eq_true hc2
        have hc3 := Nat.eq_of_beq_eq_true hc3
        unfold stored
        split
        · rename_i h' hp
          have hps := AH.put_spec hp
          refine ⟨fun hs => (also_all.1 (by rw [← hps.2.2.2.2]; exact hs)).2, fun hs => ?_⟩
          have hk0 : All [LtN k n] ∧ All h.sc := also_all.1 (by rw [← hps.2.2.2.2]; exact hs)
          have hk : k < n := hk0.1.1.p
          obtain ⟨hidn, hbase, cur, hcur, hA, h1, h2, h3, hcell⟩ := hR.obj id _ hm
          obtain ⟨hbv, hx⟩ := hE x _ hv
          have ha' := (hE a _ ha).2
          have hac : acells v = ns.map fun n => .lit (.int .i64 n) := ai64s_ok hns
          have hnews : (conc θ v).cells.toList = ns.map (Value.int .i64) := by rw [conc_cells, hac, List.map_map]; apply List.map_congr_left; intro y _; simp [conc]
          have hlen : (conc θ v).cells.toList.length = i.size := by rw [hnews, List.length_map, hc3]
          have hle : k * sz + j + i.size ≤ cur.size := by
            rw [h3]
            have : (k + 1) * sz ≤ (θ id).c * sz := Nat.mul_le_mul_right _ (by omega)
            rw [Nat.succ_mul] at this
            omega
          have ho : (θ id).o = 0 := by simp [Ref.o, hA]
          have hst := run_storeCells_at P (θ id).b (k * sz + j) el (conc θ v).cells.toList 0 cur w hcur (by rw [hlen]; omega) (by rw [hnews]; intro u hu; obtain ⟨q, _, rfl⟩ := List.mem_map.1 hu; rfl)
          simp only [Nat.add_zero] at hst
          refine ⟨θ, w.setRow (θ id).b (cur.toList.take (k * sz + j) ++ (conc θ v).cells.toList ++ cur.toList.drop (k * sz + j + (conc θ v).cells.toList.length)).toArray, ?_, Post.of_also (ps := [LtN k n]) (Post.put (h := h.also [LtN k n]) (hR.same rfl rfl rfl) hm hp (fun k hk => setRow_other w _ k _ hk) (by simp) ⟨rfl, rfl, rfl, by simp, fun k hk => setRow_other w _ k _ (by omega)⟩ ⟨_, setRow_heap w _ cur _ el _ hcur, hA, h1, h2, ?_, fun k' j' hk' hj' => ?_⟩)⟩
          · rw [ha', hx]
            simp only [Instr.storeAt, conc, ho, Nat.zero_add, Instr.sureAddr, storeVar, Sem.run_bind, Sem.run_pure, Result.andThen, run_size (hT t i hi) w]
            rw [if_neg (by rw [← Array.length_toList, hlen]; simp)]
            simp only [hst]
          · simp [hlen] at *; omega
          · have hold := hcell k' j' hk' hj'
            have hlt : k' * sz + j' < cur.size := (Array.getElem?_eq_some_iff.1 hold).1
            rw [List.getElem?_toArray]
            by_cases hin : k' = k ∧ j ≤ j' ∧ j' < j + i.size
            · obtain ⟨rfl, h4, h5⟩ := hin
              have hq : j' - j < ns.length := by omega
              rw [List.append_assoc, List.getElem?_append_right (by simp; omega), hnews]
              have e1 : k' * sz + j' - (List.take (k' * sz + j) cur.toList).length = j' - j := by simp; omega
              rw [e1, List.getElem?_append_left (by simp; omega)]
              have hs3 : supd f k' j ns k' j' = ns[j' - j] := by unfold supd; simp only [h4, and_self, if_true, List.getElem?_eq_getElem hq]
              rw [hs3, List.getElem?_map, List.getElem?_eq_getElem hq]
              rfl
            · have hne : k' * sz + j' < k * sz + j ∨ k * sz + j + i.size ≤ k' * sz + j' := by
                by_cases hkk : k' = k
                · subst hkk
                  rcases Nat.lt_or_ge j' j with h | h
                  · left; omega
                  · right; have : ¬ j' < j + i.size := fun h' => hin ⟨rfl, h, h'⟩; omega
                · rcases Nat.lt_or_ge k' k with h | h
                  · left
                    have : (k' + 1) * sz ≤ k * sz := Nat.mul_le_mul_right _ h
                    rw [Nat.succ_mul] at this; omega
                  · right
                    have : (k + 1) * sz ≤ k' * sz := Nat.mul_le_mul_right _ (by omega)
                    rw [Nat.succ_mul] at this; omega
              have hs2 : supd f k j ns k' j' = f k' j' := by
                unfold supd
                split
                · rename_i hh
                  obtain ⟨rfl, hh⟩ := hh
                  have : ns.length ≤ j' - j := by omega
                  rw [List.getElem?_eq_none this]
                · rfl
              rw [hs2, ← hold, ← Array.getElem?_toList]
              rcases hne with h | h
              · rw [List.append_assoc, List.getElem?_append_left (by simp; omega), List.getElem?_take, if_pos h]
              · rw [List.getElem?_append_right (by simp [hlen] at *; omega), List.getElem?_drop]
                congr 1
                simp [hlen] at *; omega
        · trivial
      · trivial
    · trivial
  · trivial
theorem xStore_ok (hT : ∀ t i, tb.ty.get t = some i → TyOK P t i) (hR : R base θ h w) (hE : EvOK θ h.next ev ρ) {t : TypeId} {a x : Operand} : XOK P base θ h w (do Instr.storeAt t (ρ a) (ρ x); pure .skip) (xStore tb h ev t a x) := by
  unfold xStore
  split
  case h_2 => exact xStoreR_ok hT hR hE ‹_›
  · rename_i id off ha
    unfold xStore2
    split
    · rename_i v hv
      split
      · rename_i i cs el row hi hm
        unfold xStore3
        split
        · rename_i hc
          obtain ⟨hc1, hc2, hc3⟩ := hc
          unfold stored
          split
          · rename_i h' hp
            obtain ⟨hidn, hbase, hok⟩ := hR.obj id _ hm
            obtain ⟨hb, cur, hcur, ht, hrow⟩ := hok
            obtain ⟨hbv, hx⟩ := hE x _ hv
            have ha' := (hE a _ ha).2
            have hnews : (conc θ v).cells.toList = (acells v).map (conc θ) := conc_cells θ v
            have hlen : (conc θ v).cells.toList.length = i.size := by rw [hnews, List.length_map, hc1]
            have hcl : cs.length ≤ cur.size := by
              have := congrArg List.length ht
              simp at this; omega
            have hst := run_storeCells_at P (θ id).b off el (conc θ v).cells.toList 0 cur w hcur (by rw [hlen]; omega) (by rw [hnews]; exact ones_conc hc3)
            simp only [Nat.add_zero] at hst
            refine ⟨fun hs => by rw [← (AH.put_spec hp).2.2.2.2]; exact hs, fun _ => ⟨θ, w.setRow (θ id).b (cur.toList.take off ++ (conc θ v).cells.toList ++ cur.toList.drop (off + (conc θ v).cells.toList.length)).toArray, ?_, Post.put hR hm hp (fun k hk => setRow_other w _ k _ hk) (by simp) ⟨rfl, rfl, rfl, by simp, fun k hk => setRow_other w _ k _ (by omega)⟩ ?_⟩⟩
            · rw [ha', hx]
              simp only [Instr.storeAt, conc, Instr.sureAddr, storeVar, Sem.run_bind, Sem.run_pure, Result.andThen, run_size (hT t i hi) w]
              rw [if_neg (by rw [← Array.length_toList, hlen]; simp)]
              simp only [hst]
            · refine ⟨?_, _, setRow_heap w _ cur _ el _ hcur, ?_, ?_⟩
              · intro y hy
                rcases List.mem_append.1 hy with hy | hy
                · rcases List.mem_append.1 hy with hy | hy
                  · exact hb y (List.mem_of_mem_take hy)
                  · exact bd_cells hbv y hy
                · exact hb y (List.mem_of_mem_drop hy)
              · have hsp := splice (cs.map (conc θ)) (cur.toList.drop cs.length) ((acells v).map (conc θ)) off (by simp; omega)
                rw [← OOK.split (n := h.next) (id := id) ht] at hsp
                rw [hnews, hsp]
                simp only [List.length_map, hc1]
                have e2 : ((cs.take off ++ acells v ++ cs.drop (off + i.size)).map (conc θ)) = (cs.map (conc θ)).take off ++ (acells v).map (conc θ) ++ (cs.map (conc θ)).drop (off + i.size) := by simp [List.map_take, List.map_drop]
                rw [e2, List.take_append_of_le_length (by simp; try omega)]
                exact List.take_of_length_le (by simp; try omega)
              · have hs1 : (cur.toList.take off ++ (conc θ v).cells.toList ++ cur.toList.drop (off + (conc θ v).cells.toList.length)).toArray.size = cur.size := by simp [hlen] at *; omega
                have hs2 : (cs.take off ++ acells v ++ cs.drop (off + i.size)).length = cs.length := by simp; omega
                rw [hs1, hs2]
                exact hrow
          · trivial
        · trivial
      · trivial
    · trivial
  · trivial
end
end Go.Proofs.YtknplcpjmpmblaaDoor.GY
