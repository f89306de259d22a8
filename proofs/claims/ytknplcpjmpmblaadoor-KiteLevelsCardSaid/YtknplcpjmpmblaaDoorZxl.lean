/- A run worked out: statements. -/
import Derived.Test.YtknplcpjmpmblaaDoorZxk
set_option linter.unusedVariables false
set_option linter.unusedSimpArgs false
namespace Go.Proofs.YtknplcpjmpmblaaDoor.GX
open Go Go.RowKit

section
variable {P : Program} {tb : Tab} {rec : Rec} {θ : Th} {base : Bs} {h : AH} {w : World}
theorem bytes_eq {a b : ByteArray} (h : a.data.toList = b.data.toList) : a = b := by
  obtain ⟨x⟩ := a
  obtain ⟨y⟩ := b
  have : x = y := Array.toList_inj.1 h
  rw [this]
theorem sameV_eq {a b : Value} (hx : sameV a b = true) : a = b := by
  unfold sameV at hx
  split at hx <;> first
    | (simp_all; done)
    | (rename_i a b; rw [bytes_eq (of_decide_eq_true hx)])
theorem same0_eq {a b : AV} (hx : same0 a b = true) : a = b := by
  unfold same0 at hx
  split at hx <;> simp_all
  exact sameV_eq hx
theorem sames0_eq : ∀ {l m : List AV}, sames0 l m = true → l = m
  | [], [], _ => rfl
  | a :: l, b :: m, hx => by
    simp only [sames0, Bool.and_eq_true] at hx
    rw [same0_eq hx.1, sames0_eq hx.2]
  | [], _ :: _, hx => by simp [sames0] at hx
  | _ :: _, [], hx => by simp [sames0] at hx
theorem same1_eq {a b : AV} (hx : same1 a b = true) : a = b := by
  unfold same1 at hx
  split at hx
  · rw [sames0_eq hx]
  · exact same0_eq hx
theorem sames1_eq : ∀ {l m : List AV}, sames1 l m = true → l = m
  | [], [], _ => rfl
  | a :: l, b :: m, hx => by
    simp only [sames1, Bool.and_eq_true] at hx
    rw [same1_eq hx.1, sames1_eq hx.2]
  | [], _ :: _, hx => by simp [sames1] at hx
  | _ :: _, [], hx => by simp [sames1] at hx
theorem same_eq {a b : AV} (hx : same a b = true) : a = b := by
  unfold same at hx
  split at hx
  · simp only [Bool.and_eq_true, decide_eq_true_eq] at hx
    rw [hx.1.1, sames1_eq hx.1.2, sames1_eq hx.2]
  · exact same1_eq hx
theorem sames_eq : ∀ {l m : List AV}, sames l m = true → l = m
  | [], [], _ => rfl
  | a :: l, b :: m, hx => by
    simp only [sames, Bool.and_eq_true] at hx
    rw [same_eq hx.1, sames_eq hx.2]
  | [], _ :: _, hx => by simp [sames] at hx
  | _ :: _, [], hx => by simp [sames] at hx
theorem cellsAt_ok {id off size : Nat} {vs : List AV} (hx : cellsAt h id off size = some vs) : ∃ cs el row, h.m.get id = some (.cells cs el row) ∧ off + size ≤ cs.length ∧ vs = (cs.drop off).take size := by
  unfold cellsAt at hx
  split at hx
  · rename_i cs el row hm
    split at hx
    · rename_i hc; cases hx; exact ⟨cs, el, row, hm, hc, rfl⟩
    · cases hx
  · cases hx
/-- What is held of the memory, in a world. -/
def SW (θ : Th) (L : Held) (w : World) : Prop := ∀ id off vs, (id, off, vs) ∈ L → ∀ j v, vs[j]? = some v → w.cell? ⟨(θ id).b, off + j, none⟩ = some (conc θ v)
def SB (θ : Th) (n : Nat) (L : Held) : Prop := ∀ id off vs, (id, off, vs) ∈ L → id < n ∧ bdl θ n vs
theorem SW.of_cells (hR : R base θ h w) {id off size : Nat} {vs : List AV} (hx : cellsAt h id off size = some vs) : id < h.next ∧ bdl θ h.next vs ∧ ∀ j v, vs[j]? = some v → w.cell? ⟨(θ id).b, off + j, none⟩ = some (conc θ v) := by
  obtain ⟨cs, el, row, hm, hc, rfl⟩ := cellsAt_ok hx
  obtain ⟨hidn, _, hok⟩ := hR.obj id _ hm
  refine ⟨hidn, fun y hy => hok.1 y (List.mem_of_mem_drop (List.mem_of_mem_take hy)), fun j v hv => ?_⟩
  rw [List.getElem?_take] at hv
  split at hv
  · rw [List.getElem?_drop] at hv; exact hok.cell hv
  · cases hv
theorem keeps_ok : ∀ {L : Held} {h : AH} {θ : Th} {w : World}, keeps h L = true → R base θ h w → SW θ L w
  | [], h, θ, w, hk, hR => fun id off vs hm => by cases hm
  | (id, off, vs) :: L, h, θ, w, hk, hR => by
    simp only [keeps, Bool.and_eq_true] at hk
    obtain ⟨h1, h2⟩ := hk
    split at h1 <;> try (cases h1; done)
    rename_i us hus
    have := sames_eq h1
    subst this
    have hc := (SW.of_cells hR hus).2.2
    intro id' off' vs' hm
    rcases List.mem_cons.1 hm with he | hm
    · cases he; exact hc
    · exact keeps_ok h2 hR id' off' vs' hm
theorem gather_ok (hR : R base θ h w) {ops : Array Oper} : ∀ (steps : List Step) (A : AA), SW θ (gather tb h ops steps A) w ∧ SB θ h.next (gather tb h ops steps A)
  | [], A => ⟨fun id off vs hm => (by cases hm), fun id off vs hm => (by cases hm)⟩
  | .only _ _ :: r, A => gather_ok hR r A
  | .bar _ :: r, A => gather_ok hR r A
  | .fst i _ :: r, A => by
    have nil : SW θ [] w ∧ SB θ h.next [] := ⟨fun id off vs hm => (by cases hm), fun id off vs hm => (by cases hm)⟩
    unfold gather
    split
    · exact gather_ok hR r A
    · split
      · split
        · exact gather_ok hR r _
        · exact nil
      · split
        · split
          · split
            · rename_i vs hvs
              split
              · split
                · obtain ⟨c1, c2⟩ := gather_ok hR (ops := ops) r ‹AA›
                  have hc := SW.of_cells hR hvs
                  refine ⟨fun id off vs hm => ?_, fun id off vs hm => ?_⟩
                  · rcases List.mem_cons.1 hm with he | hm
                    · cases he; exact hc.2.2
                    · exact c1 id off vs hm
                  · rcases List.mem_cons.1 hm with he | hm
                    · cases he; exact ⟨hc.1, hc.2.1⟩
                    · exact c2 id off vs hm
                · exact nil
              · exact nil
            · exact gather_ok hR r A
          · exact gather_ok hR r A
        · exact gather_ok hR r A
theorem SW.ext {θ θ' : Th} {n : Nat} {L : Held} (hb : SB θ n L) (he : Ext θ θ' n) : SW θ' L w ↔ SW θ L w := by
  constructor
  · intro hs id off vs hm j v hv
    have := hs id off vs hm j v hv
    rwa [he id (hb id off vs hm).1, conc_ext he v ((hb id off vs hm).2 v (List.mem_of_getElem? hv))] at this
  · intro hs id off vs hm j v hv
    have := hs id off vs hm j v hv
    rwa [← he id (hb id off vs hm).1, ← conc_ext he v ((hb id off vs hm).2 v (List.mem_of_getElem? hv))] at this
theorem heldIn_ok : ∀ {L : Held} {id off size : Nat} {vs : List AV}, heldIn L id off size = some vs → (id, off, vs) ∈ L ∧ vs.length = size
  | [], id, off, size, vs, hx => by cases hx
  | (id', off', us) :: L, id, off, size, vs, hx => by
    simp only [heldIn] at hx
    split at hx
    · rename_i hc; obtain ⟨rfl, rfl, hl⟩ := hc; cases hx; exact ⟨by simp, hl⟩
    · obtain ⟨a, b⟩ := heldIn_ok hx; exact ⟨List.mem_cons_of_mem _ a, b⟩
/-- What is taken first. -/
theorem xfirst_ok (hB : TabOK P tb base) {n : Nat} {L : Held} (hb : SB θ n L) {A : AA} {a : Act} (hA : AOK θ n A a) {ops : Array Oper} {o : Oper} {v : AV} (hx : xfirst tb L ops.toList A o = some v) (hdf : ∀ c, o.op ≠ .defer c) :
    bd θ n v ∧ YieldsH P ops (fun w => isLoad o.op = true → SW θ L w) o (conc θ v) a := by
  unfold xfirst at hx
  split at hx
  · cases hx
  · rename_i hw
    cases hx
    exact ⟨by simp [bd], hdf, .inr ⟨wanted_ok hA hw, by simp [conc]⟩⟩
  · rename_i hw
    split at hx
    · rename_i u hu
      cases hx
      exact ⟨(xpure_ok hB.ty hB.pair hA.ev hu default).1, hdf, .inl ⟨wanted_ok hA hw, fun w _ => (xpure_ok hB.ty hB.pair hA.ev hu w).2⟩⟩
    · unfold xheld at hx
      split at hx <;> try (cases hx; done)
      rename_i t ad hop
      split at hx <;> try (cases hx; done)
      rename_i id off i had hi
      split at hx <;> try (cases hx; done)
      rename_i vs hvs
      obtain ⟨hm, hl⟩ := heldIn_ok hvs
      obtain ⟨hidn, hbv⟩ := hb _ _ _ hm
      have hTi := hB.ty t i hi
      have hal := (hA.ev ad _ had).2
      have key : ∀ w, SW θ L w → bd θ n v ∧ (loadVar t ⟨(θ id).b, off, none⟩).run P w = .ok (conc θ v) w := fun w hs => by
        have hcell := hs _ _ _ hm
        unfold apart at hx
        unfold loadVar
        rw [Sem.run_bind, run_isAgg' hTi w]
        cases ha : i.agg with
        | true =>
          rw [ha] at hx
          simp only [if_true, Nat.zero_add, List.drop_zero] at hx
          split at hx
          · cases hx
            refine ⟨?_, ?_⟩
            · simp only [bd]; exact fun x hx => hbv x (List.mem_of_mem_take hx)
            · rw [List.take_of_length_le (by omega)]
              have hlc : (loadCells ⟨(θ id).b, off, none⟩ (vs.map (conc θ)).length).run P w = .ok (vs.map (conc θ)).toArray w :=
                run_loadCells_list (P := P) w _ _ fun j u hu => by
                  rw [List.getElem?_map] at hu
                  obtain ⟨x, hx, rfl⟩ := map_some hu
                  rw [add_plain']
                  exact hcell j x hx
              rw [List.length_map, hl] at hlc
              simp [Result.andThen, Sem.run_bind, run_size hTi w, hlc, conc]
          · cases hx
        | false =>
          rw [ha] at hx
          simp only [Bool.false_eq_true, if_false] at hx
          refine ⟨hbv v (List.mem_of_getElem? hx), ?_⟩
          have := hcell 0 v hx
          simp only [Nat.add_zero] at this
          simp [Result.andThen, load, Sem.run, this]
      refine ⟨?_, hdf, .inl ⟨wanted_ok hA hw, fun w hs0 => ?_⟩⟩
      · unfold apart at hx
        split at hx
        · split at hx
          · cases hx; simp only [bd]; exact fun x hx => hbv x (List.mem_of_mem_drop (List.mem_of_mem_take hx))
          · cases hx
        · exact hbv v (List.mem_of_getElem? hx)
      · have hs : SW θ L w := hs0 (by rw [hop]; rfl)
        unfold execOp
        simp only [hop]
        refine run_val ?_
        simp only [Instr.loadAt, hal, conc, Instr.sureAddr, Sem.run_bind, Sem.run_pure, Result.andThen, (key w hs).2]
theorem pickFirst_ok {ops : Array Oper} {listed : Array Bool} : ∀ {l : List Nat} {i : Nat}, pickFirst ops listed l = some i → i ∈ l ∧ ∃ o, ops[i]? = some o ∧ firstKind o.op = true ∧ Region.free .any ops listed i = true
  | [], i, hx => by cases hx
  | k :: ks, i, hx => by
    simp only [pickFirst] at hx
    split at hx
    · rename_i o ho
      split at hx
      · rename_i hc
        cases hx
        simp only [Bool.and_eq_true] at hc
        exact ⟨by simp, o, ho, hc.1, hc.2⟩
      · obtain ⟨a, b⟩ := pickFirst_ok hx; exact ⟨List.mem_cons_of_mem _ a, b⟩
    · obtain ⟨a, b⟩ := pickFirst_ok hx; exact ⟨List.mem_cons_of_mem _ a, b⟩
theorem firstKind_defer {o : Oper} (hk : firstKind o.op = true) (c : Call) : o.op ≠ .defer c := fun hc => by rw [hc] at hk; cases hk
/-- How many operations have not come up. -/
def U (ops : Array Oper) (LC : Array Bool) : Nat := (List.range ops.size).countP fun i => !LC.getD i true
theorem countP_le' {p q : Nat → Bool} (hpq : ∀ x, q x = true → p x = true) : ∀ l : List Nat, l.countP q ≤ l.countP p
  | [] => Nat.le_refl _
  | x :: xs => by
    have := countP_le' hpq xs
    rw [List.countP_cons, List.countP_cons]
    cases hq : q x with
    | false => simp; omega
    | true => simp [hpq x hq]; omega
theorem countP_lt' {p q : Nat → Bool} (hpq : ∀ x, q x = true → p x = true) {i : Nat} (hp : p i = true) (hq : q i = false) : ∀ l : List Nat, i ∈ l → l.countP q < l.countP p
  | [], h => by cases h
  | x :: xs, h => by
    rw [List.countP_cons, List.countP_cons]
    by_cases hx : i = x
    · subst hx
      have := countP_le' hpq xs
      simp [hp, hq]; omega
    · have := countP_lt' hpq hp hq xs ((List.mem_cons.1 h).resolve_left hx)
      cases hqx : q x with
      | false => simp; omega
      | true => simp [hpq x hqx]; omega
theorem U_set {ops : Array Oper} {LC : Array Bool} {i : Nat} (hi : i < ops.size) (hu : LC.getD i true = false) : U ops (LC.setIfInBounds i true) < U ops LC := by
  refine countP_lt' (fun x hx => ?_) (i := i) (by simpa using hu) ?_ _ (List.mem_range.2 hi)
  · by_cases hxi : i = x
    · subst hxi; simpa using hu
    · rw [getD_set_ne true hxi] at hx; exact hx
  · have hlt : i < LC.size := by
      rcases Nat.lt_or_ge i LC.size with h | h
      · exact h
      · simp [Array.getElem?_eq_none h] at hu
    simp [hlt]
/-- What has come up in the world: what has come up in the run, and blocks besides. -/
structure Rel (ops : Array Oper) (L : Array Bool) (D : List Nat) (LC : Array Bool) : Prop where
  sl : L.size = ops.size
  sc : LC.size = ops.size
  get : ∀ j, j < ops.size → (LC.getD j false = true ↔ L.getD j false = true ∨ j ∈ D)
theorem getD_tf {L : Array Bool} {j : Nat} (hj : j < L.size) : L.getD j true = L.getD j false := by simp [hj]
theorem getD_lt {L : Array Bool} {j : Nat} (h : L.getD j true = false) : j < L.size := by
  rcases Nat.lt_or_ge j L.size with h' | h'
  · exact h'
  · simp [Array.getElem?_eq_none h'] at h
theorem getD_lt' {L : Array Bool} {j : Nat} (h : L.getD j false = true) : j < L.size := by
  rcases Nat.lt_or_ge j L.size with h' | h'
  · exact h'
  · simp [Array.getElem?_eq_none h'] at h
section
variable {ops : Array Oper} {L LC : Array Bool} {D : List Nat}
theorem Rel.set (hr : Rel ops L D LC) (i : Nat) : Rel ops (L.setIfInBounds i true) D (LC.setIfInBounds i true) := by
  refine ⟨by simp [hr.sl], by simp [hr.sc], fun j hj => ?_⟩
  by_cases hij : i = j
  · subst hij; simp [hr.sl, hr.sc, hj]
  · rw [getD_set_ne false hij, getD_set_ne false hij]; exact hr.get j hj
theorem Rel.more (hr : Rel ops L D LC) (i : Nat) : Rel ops L (i :: D) (LC.setIfInBounds i true) := by
  refine ⟨hr.sl, by simp [hr.sc], fun j hj => ?_⟩
  by_cases hij : i = j
  · subst hij; simp [hr.sc, hj]
  · rw [getD_set_ne false hij, hr.get j hj]
    simp [Ne.symm hij]
theorem mark_spec : ∀ {fl : List Nat} {L : Array Bool}, (mark L fl).size = L.size ∧ ∀ j, j < L.size → ((mark L fl).getD j false = true ↔ L.getD j false = true ∨ j ∈ fl)
  | [], L => ⟨rfl, fun j hj => by simp [mark]⟩
  | i :: is, L => by
    obtain ⟨a, b⟩ := mark_spec (fl := is) (L := L.setIfInBounds i true)
    refine ⟨by simp only [mark, a]; simp, fun j hj => ?_⟩
    simp only [mark]
    rw [b j (by simpa using hj)]
    by_cases hij : i = j
    · subst hij; simp [hj]
    · rw [getD_set_ne false hij]; simp [Ne.symm hij]
theorem Rel.all (hr : Rel ops L D LC) {fl : List Nat} (h1 : ∀ i ∈ D, i ∈ fl) (h2 : ∀ i ∈ fl, i ∈ D) : Rel ops (mark L fl) [] LC := by
  obtain ⟨a, b⟩ := mark_spec (fl := fl) (L := L)
  refine ⟨by rw [a]; exact hr.sl, hr.sc, fun j hj => ?_⟩
  rw [hr.get j hj, b j (by rw [hr.sl]; exact hj)]
  simp only [List.not_mem_nil, or_false]
  exact ⟨fun h => h.imp id (h1 j), fun h => h.imp id (h2 j)⟩
theorem Rel.ready1 (hr : Rel ops L D LC) {i : Nat} (hi : i ∈ Region.ready .any ops L) (hD : i ∉ D) : i ∈ Region.ready .any ops LC := by
  obtain ⟨h0, o, ho, hall⟩ := mem_ready.1 hi
  have hil : i < ops.size := by have := getD_lt h0; rw [hr.sl] at this; exact this
  refine mem_ready.2 ⟨?_, o, ho, fun e he hb => ?_⟩
  · rw [getD_tf (by rw [hr.sc]; exact hil)]
    cases hg : LC.getD i false with
    | false => rfl
    | true =>
      rcases (hr.get i hil).1 hg with h | h
      · rw [getD_tf (by rw [hr.sl]; exact hil)] at h0; rw [h] at h0; cases h0
      · exact absurd h hD
  · have hl := hall e he hb
    have hel : e.on < ops.size := by have := getD_lt' hl; rw [hr.sl] at this; exact this
    exact (hr.get e.on hel).2 (.inl hl)
theorem Rel.notD (hr : Rel ops L D LC) {j : Nat} (hj : j ∈ Region.ready .any ops LC) : j < ops.size ∧ j ∉ D ∧ L.getD j true = false := by
  obtain ⟨h0, _⟩ := mem_ready.1 hj
  have hjl : j < ops.size := by have := getD_lt h0; rw [hr.sc] at this; exact this
  rw [getD_tf (by rw [hr.sc]; exact hjl)] at h0
  refine ⟨hjl, fun hD => ?_, ?_⟩
  · rw [(hr.get j hjl).2 (.inr hD)] at h0; cases h0
  · rw [getD_tf (by rw [hr.sl]; exact hjl)]
    cases hg : L.getD j false with
    | false => rfl
    | true => rw [(hr.get j hjl).2 (.inl hg)] at h0; cases h0
theorem Rel.ready2 (hr : Rel ops L D LC) {fl : List Nat} (h1 : ∀ i ∈ D, i ∈ fl) {j : Nat} (hj : j ∈ Region.ready .any ops LC) (hjf : j ∉ fl) : j ∈ Region.ready .any ops (mark L fl) := by
  obtain ⟨hjl, _, hju⟩ := hr.notD hj
  obtain ⟨_, o, ho, hall⟩ := mem_ready.1 hj
  obtain ⟨a, b⟩ := mark_spec (fl := fl) (L := L)
  refine mem_ready.2 ⟨?_, o, ho, fun e he hb => ?_⟩
  · rw [getD_tf (by rw [a, hr.sl]; exact hjl)]
    rw [getD_tf (by rw [hr.sl]; exact hjl)] at hju
    cases hg : (mark L fl).getD j false with
    | false => rfl
    | true =>
      rcases (b j (by rw [hr.sl]; exact hjl)).1 hg with h | h
      · rw [h] at hju; cases hju
      · exact absurd h hjf
  · have hl := hall e he hb
    have hel : e.on < ops.size := by have := getD_lt' hl; rw [hr.sc] at this; exact this
    exact (b e.on (by rw [hr.sl]; exact hel)).2 (((hr.get e.on hel).1 hl).imp id (h1 _))
theorem Rel.ready0 (hr : Rel ops L [] LC) {j : Nat} (hj : j ∈ Region.ready .any ops LC) : j ∈ Region.ready .any ops L := by
  have := hr.ready2 (fl := []) (fun i hi => by cases hi) hj (by simp)
  exact this
end
theorem eval_tmps {a b : Act} (h : a.tmps = b.tmps) : a.eval = b.eval := by
  funext x; cases x <;> simp [Act.eval, h]
/-- The blocks that have been made in the world, and not yet in the run. -/
noncomputable def blockAt (tb : Tab) (ops : Array Oper) (i : Nat) : Bool := match ops[i]? with
  | some o => !isPurOp tb o
  | none => false
/-- What has come up ahead of the run: blocks that were made, calls that were done. -/
structure XD (P : Program) (tb : Tab) (ops : Array Oper) (base : Bs) (ws : World) (θ : Th) (h : AH) (a : Act) (w : World) (D : List Nat) (β : Nat → Nat) : Prop where
  each : ∀ i ∈ D, ∃ o : Oper, ops[i]? = some o ∧ Region.wanted o (yielded ops a.tmps) = true ∧
    ((isPurOp tb o = true ∧ ∃ (c : Call) (f : FuncId) (g : List Value → Option AV) (vs : List Value) (v : AV), o.op = .call c ∧ c.callee = .value (.func f) ∧ tb.pur.get f = some g ∧ c.args.toList.map a.eval = vs ∧ g vs = some v ∧ ∀ d, o.dst = some d → a.tmps[d]? = some (conc (fun _ => ⟨0, 0, none⟩) v)) ∨
     (isPurOp tb o = false ∧ ∃ (obj : Obj) (f : Nat → Value), (∀ w', (execOp a.eval o).run P w' = .ok (.value (f w'.heap.size)) (w'.alloc obj)) ∧ (∀ d, o.dst = some d → a.tmps[d]? = some (f (β i))) ∧
      w.heap[β i]? = some obj ∧ base ≤ β i ∧ ws.heap.size ≤ β i ∧ ∀ id o, h.m.get id = some o → (θ id).b ≠ β i))
  apart : ∀ i ∈ D, ∀ j ∈ D, i ≠ j → blockAt tb ops i = true → blockAt tb ops j = true → β i ≠ β j
section
variable {ops : Array Oper} {ws : World} {a a' : Act} {w' : World} {D : List Nat} {β : Nat → Nat} {θ' : Th} {h' : AH}
theorem XD.nil : XD P tb ops base ws θ h a w [] β := ⟨(fun i hi => by cases hi), (fun i hi => by cases hi)⟩
theorem args_put {o : Oper} {c : Call} (ho : o.op = .call c) {dst : Option Tmp} {v : Value} {a : Act} (hd : ∀ d, dst = some d → d ∉ o.looksAt ops) : c.args.toList.map (a.put dst v).eval = c.args.toList.map a.eval :=
  List.map_congr_left fun x hx => Act.eval_put fun d hdd hxd => hd d hdd (by
    subst hxd
    exact List.mem_append_left _ (List.mem_filterMap.2 ⟨.tmp d, by rw [ho]; simp only [Op.operands]; simp [Call.operands] <;> first | exact .inr (by simpa using hx) | (simpa using hx), rfl⟩))
theorem XD.act (hX : XD P tb ops base ws θ h a w D β) (hsel : Region.noSelect ops = true) {dst : Option Tmp} (ht : ∃ v, a'.tmps = (a.put dst v).tmps) (hap : ∀ i ∈ D, ∀ o, ops[i]? = some o → (∀ d, dst = some d → d ∉ o.looksAt ops) ∧ ∀ d, dst = some d → o.dst ≠ some d) : XD P tb ops base ws θ h a' w D β := by
  obtain ⟨v, ht⟩ := ht
  refine ⟨fun i hi => ?_, hX.apart⟩
  obtain ⟨o, ho, hwt, hc⟩ := hX.each i hi
  obtain ⟨h1, h2⟩ := hap i hi o ho
  have hslot : ∀ {u : Value} {d : Nat}, o.dst = some d → a.tmps[d]? = some u → a'.tmps[d]? = some u := fun {u d} hdd hu => by
    rw [ht]
    cases dst with
    | none => exact hu
    | some e =>
      have : e ≠ d := fun he => h2 e rfl (by rw [he]; exact hdd)
      simp only [Act.put, Array.getElem?_setIfInBounds_ne this]
      exact hu
  refine ⟨o, ho, by rw [ht, wanted_put o a dst v h1]; exact hwt, ?_⟩
  rcases hc with ⟨hp, c, f, g, vs, u, hop, hcal, hg, hargs, hgv, hd⟩ | ⟨hp, obj, f, hrun, hd, rest⟩
  · exact .inl ⟨hp, c, f, g, vs, u, hop, hcal, hg, by rw [eval_tmps ht, args_put hop h1]; exact hargs, hgv, fun d hdd => hslot hdd (hd d hdd)⟩
  · refine .inr ⟨hp, obj, f, fun w' => ?_, fun d hdd => hslot hdd (hd d hdd), rest⟩
    rw [eval_tmps ht, execOp_put o (fun cs b => Region.noSelect_spec hsel i o cs b ho) a dst v h1]; exact hrun w'
theorem XD.post (hX : XD P tb ops base ws θ h a w D β) (hP : Post base θ h w θ' h' w') : XD P tb ops base ws θ' h' a w' D β := by
  refine ⟨fun i hi => ?_, hX.apart⟩
  obtain ⟨o, ho, hwt, hc⟩ := hX.each i hi
  refine ⟨o, ho, hwt, hc.imp id fun ⟨hp, obj, f, hrun, hd, hw, hb, hs, hu⟩ => ?_⟩
  have hlt : β i < w.heap.size := (Array.getElem?_eq_some_iff.1 hw).1
  refine ⟨hp, obj, f, hrun, hd, by rw [hP.frame _ hlt hu]; exact hw, hb, hs, fun id o' hg => ?_⟩
  rcases hP.own id o' hg with ⟨id0, o0, h0, e⟩ | e
  · rw [← e]; exact hu id0 o0 h0
  · omega
end
theorem xmem_fok (hB : TabOK P tb base) {ev : Operand → Option AV} {ρ : Operand → Value} (hE : EvOK θ h.next ev ρ) {o : Oper} (ha : isAlloc o.op = true) : FOK P base θ h (execOp ρ o) (xmem tb h ev o) := by
  unfold isAlloc at ha
  split at ha <;> try (cases ha; done)
  all_goals (rename_i ho; unfold xmem execOp; simp only [ho])
  · exact xAlloc_ok hB.ty
  · exact xBox_ok hE
  · exact xBuildSlice_ok hB.ty hE
  · exact xMakeSlice_ok hB.ty hE
  · exact xMakeMap_ok
theorem allocAt_ok {ops : Array Oper} {i : Nat} (hx : allocAt tb ops i = true) : ∃ o, ops[i]? = some o ∧ floatOp tb o = true ∧ ∀ d, o.dst = some d → d ∉ o.looksAt ops := by
  unfold allocAt at hx
  split at hx
  · rename_i o ho
    simp only [Bool.and_eq_true] at hx
    refine ⟨o, ho, hx.1, fun d hd => ?_⟩
    have := hx.2
    rw [hd] at this
    simpa using this
  · cases hx
theorem isAlloc_defer {o : Oper} (hk : isAlloc o.op = true) (c : Call) : o.op ≠ .defer c := fun hc => by rw [hc] at hk; cases hk
theorem floatsOK_ok {A : AA} {ops : Array Oper} : ∀ {fl : List Nat}, floatsOK tb h A ops fl = true → ∀ j ∈ fl, ∃ o, ops[j]? = some o ∧ (∀ d, o.dst = some d → A.t.get d = none ∧ d < A.n) ∧ awanted ops.toList A o = some true ∧ ((isPurOp tb o = true ∧ ∃ v, purOf tb A.ev o = some v) ∨ (isPurOp tb o = false ∧ ∃ v h1, xmem tb h A.ev o = .val v h1))
  | [], _, j, hj => by cases hj
  | i :: is, hx, j, hj => by
    simp only [floatsOK, Bool.and_eq_true] at hx
    obtain ⟨h1, h2⟩ := hx
    rcases List.mem_cons.1 hj with rfl | hj
    · split at h1
      · rename_i o ho
        simp only [Bool.and_eq_true] at h1
        obtain ⟨⟨hu, hw⟩, hv⟩ := h1
        refine ⟨o, ho, fun d hd => ?_, ?_, ?_⟩
        · rw [hd] at hu
          simp only [unset, Bool.and_eq_true, Option.isNone_iff_eq_none] at hu
          exact ⟨hu.1, Nat.le_of_ble_eq_true hu.2⟩
        · unfold isT at hw
          split at hw
          · assumption
          · cases hw
        · cases hp : isPurOp tb o with
          | true =>
            rw [hp] at hv
            simp only [cond_true] at hv
            exact .inl ⟨rfl, Option.isSome_iff_exists.1 hv⟩
          | false =>
            rw [hp] at hv
            simp only [cond_false] at hv
            unfold isVal at hv
            split at hv
            · rename_i v h1 hm; exact .inr ⟨rfl, v, h1, hm⟩
            · cases hv
      · cases h1
    · exact floatsOK_ok h2 j hj
theorem pairs_ok {ops : Array Oper} {fl : List Nat} (hx : pairs ops fl = true) {i j : Nat} (hi : i ∈ fl) (hj : j ∈ fl) (hne : i ≠ j) {oi oj : Oper} (hoi : ops[i]? = some oi) (hoj : ops[j]? = some oj) : oi.apart ops oj = true := by
  simp only [pairs, List.all_eq_true] at hx
  have := hx i hi j hj
  simp only [Bool.or_eq_true, beq_iff_eq, hne, false_or] at this
  simpa [apartAt, hoi, hoj] using this
theorem purOf_ok {ev : Operand → Option AV} {ρ : Operand → Value} {n : Nat} (hE : EvOK θ n ev ρ) {o : Oper} {v : AV} (hx : purOf tb ev o = some v) : ∃ c f g vs, o.op = .call c ∧ c.callee = .value (.func f) ∧ tb.pur.get f = some g ∧ c.args.toList.map ρ = vs ∧ g vs = some v ∧ evs ev c.args.toList = some (vs.map .lit) := by
  unfold purOf at hx
  split at hx <;> try (cases hx; done)
  rename_i c hop
  split at hx <;> try (cases hx; done)
  rename_i f hc
  split at hx <;> try (cases hx; done)
  rename_i g hg
  split at hx <;> try (cases hx; done)
  rename_i xs hxs
  split at hx <;> try (cases hx; done)
  rename_i vs hvs
  have hxl : xs = vs.map .lit := by
    clear hx hxs
    induction xs generalizing vs with
    | nil => cases hvs; rfl
    | cons x xs ih =>
      simp only [lits] at hvs
      split at hvs <;> try (cases hvs; done)
      split at hvs <;> try (cases hvs; done)
      rename_i us hu
      cases hvs
      simp only [List.map_cons, ih _ hu]
  refine ⟨c, f, g, vs, hop, hc, hg, ?_, hx, by rw [hxs, hxl]⟩
  have := (evs_ok hE hxs).2
  rw [this, lits_ok hvs]
/-- A block is made in the world, or a call is done, ahead of the run. -/
theorem float_ok (hB : TabOK P tb base) {ops : Array Oper} (hsel : Region.noSelect ops = true) {ws : World} {A : AA} {a : Act} {D : List Nat} {β : Nat → Nat} {fl : List Nat} (hR : R base θ h w) (hA : AOK θ h.next A a) (hX : XD P tb ops base ws θ h a w D β)
    (hsz : ws.heap.size ≤ w.heap.size) (hfl : ∀ i ∈ fl, allocAt tb ops i = true) (hDf : ∀ i ∈ D, i ∈ fl) (hpr : pairs ops fl = true) (hok : floatsOK tb h A ops fl = true) {j : Nat} (hj : j ∈ fl) (hjD : j ∉ D) {Q : Exit → Act → World → Prop} {ro : Option Nat} {K : Act → World → Prop}
    (hK : ∀ a' w' β', AOK θ h.next A a' → Below w.heap.size w w' → XD P tb ops base ws θ h a' w' (j :: D) β' → K a' w') : wpOpIn (FW ro) 0 P ops Q j K a w := by
  obtain ⟨o, ho, hun, haw, hcase⟩ := floatsOK_ok hok j hj
  obtain ⟨o', ho', hal, hself⟩ := allocAt_ok (hfl j hj)
  rw [ho] at ho'; cases ho'
  have hw := wanted_ok hA haw
  have hAput : ∀ u : Value, AOK θ h.next A (a.put o.dst u) := fun u => by
    refine ⟨?_, fun t x hx => ?_, ?_, hA.bds⟩
    · cases hd : o.dst <;> simp [Act.put, hA.size]
    · obtain ⟨p, q⟩ := hA.kt t x hx
      refine ⟨p, ?_⟩
      cases hd : o.dst with
      | none => exact q
      | some d =>
        have : d ≠ t := fun e => by rw [← e, (hun d hd).1] at hx; cases hx
        simp only [Act.put, Array.getElem?_setIfInBounds_ne this]; exact q
    · cases hd : o.dst <;> exact hA.ds
  have hslot : ∀ (u : Value) d, o.dst = some d → (a.put o.dst u).tmps[d]? = some u := fun u d hd => by
    simp only [hd, Act.put]; simp [hA.size, (hun d hd).2]
  have hap : ∀ i ∈ D, ∀ oi, ops[i]? = some oi → (∀ d, o.dst = some d → d ∉ oi.looksAt ops) ∧ ∀ d, o.dst = some d → oi.dst ≠ some d := fun i hi oi hoi => by
    have := Oper.apart_spec (pairs_ok hpr hj (hDf i hi) (fun e => hjD (e ▸ hi)) ho hoi)
    exact ⟨this.1, this.2.1⟩
  unfold wpOpIn
  simp only [ho]
  rw [hw]
  simp only [if_true]
  rcases hcase with ⟨hp, v, hv⟩ | ⟨hp, v, h1, hm⟩
  · obtain ⟨c, f, g, vs, hop, hcal, hg, hargs, hgv, hevs⟩ := purOf_ok hA.ev hv
    obtain ⟨hent, hpc⟩ := hB.pur f g hg
    obtain ⟨hbv, hcalls⟩ := hpc vs v hgv
    have hrun : (execOp a.eval o).run P w = .ok (.enter f vs.toArray) w := by
      have hm : XOK P base θ h w (execOp a.eval o) (xmem tb h A.ev o) := xmem_ok hB.ty hB.key hR hA.ev o
      have hx : xmem tb h A.ev o = .enter f (vs.map .lit) := by
        unfold xmem xCall xEnter
        simp only [hop, hcal, hevs, AA.ev, List.nil_append, List.append_nil]
      rw [hx] at hm
      have e := hm.2
      rw [e, hent]
      congr 3
      simp [conc_lit, Function.comp_def]
    have hd : ∀ c, o.op ≠ .defer c := fun c' hc => by rw [hop] at hc; cases hc
    refine ⟨fun _ _ => trivial, ?_⟩
    rw [Oper.semAt_eq _ _ _ hd, hrun, Oper.uponIn_enter]
    refine ⟨by simp [FW, Fence.wide], (FW_calls (callsIn_wide.2 (hcalls θ w))).mono fun e w' he => ?_⟩
    obtain ⟨rfl, hbel⟩ := he
    refine hK _ _ β (hAput _) hbel ?_
    have hX' := (hX.act (a' := a.put o.dst (conc θ v)) hsel ⟨_, rfl⟩ hap).post (Post.more hR hbel)
    refine ⟨fun i hi => ?_, fun i hi i' hi' hne b1 b2 => ?_⟩
    · rcases List.mem_cons.1 hi with rfl | hi
      · refine ⟨o, ho, by rw [wanted_put o a o.dst _ hself]; exact hw, .inl ⟨hp, c, f, g, vs, v, hop, hcal, hg, by rw [args_put hop hself]; exact hargs, hgv, fun d hd => ?_⟩⟩
        rw [hslot _ d hd, conc_ext (n := 0) (θ := θ) (θ' := fun _ => ⟨0, 0, none⟩) (fun k hk => absurd hk (Nat.not_lt_zero k)) v (hbv _ _)]
      · exact hX'.each i hi
    · have nb : ∀ k, k = j → blockAt tb ops k = true → False := fun k e hb => by subst e; simp [blockAt, ho, hp] at hb
      rcases List.mem_cons.1 hi with e | hi
      · exact (nb i e b1).elim
      rcases List.mem_cons.1 hi' with e | hi'
      · exact (nb i' e b2).elim
      exact hX.apart i hi i' hi' hne b1 b2
  · have hia : isAlloc o.op = true := by simpa [floatOp, hp] using hal
    have hF := xmem_fok (P := P) (base := base) hB hA.ev hia (h := h) (θ := θ)
    rw [hm] at hF
    obtain ⟨_, _, obj, c, f, hrun, _⟩ := hF
    have hbel : Below w.heap.size w (w.alloc obj) := (Below.refl _ w).alloc (Nat.le_refl _) obj
    refine wpIn_val (isAlloc_defer hia) (hrun w) (hK _ _ (fun i => if i = j then w.heap.size else β i) (hAput _) hbel ?_)
    have hP : Post base θ h w θ h (w.alloc obj) := Post.more hR hbel
    have hX' := (hX.act hsel ⟨f w.heap.size, rfl⟩ hap).post hP
    refine ⟨fun i hi => ?_, fun i hi i' hi' hne b1 b2 => ?_⟩
    · rcases List.mem_cons.1 hi with rfl | hi
      · simp only [if_true]
        refine ⟨o, ho, by rw [wanted_put o a o.dst _ hself]; exact hw, .inr ⟨hp, obj, f, fun w' => ?_, fun d hd => hslot _ d hd, heap_alloc_new w obj, hR.size, hsz, fun id o' hg => Nat.ne_of_lt (hR.obj id o' hg).2.2.lt⟩⟩
        rw [execOp_put o (fun cs b => Region.noSelect_spec hsel i o cs b ho) a o.dst _ hself]
        exact hrun w'
      · have : i ≠ j := fun e => hjD (e ▸ hi)
        simp only [this, if_false]
        exact hX'.each i hi
    · have old : ∀ k ∈ D, blockAt tb ops k = true → β k < w.heap.size := fun k hk hb => by
        obtain ⟨o4, ho4, _, hc4⟩ := hX.each k hk
        rcases hc4 with ⟨hp4, _⟩ | ⟨_, _, _, _, _, hw', _⟩
        · simp [blockAt, ho4, hp4] at hb
        · exact (Array.getElem?_eq_some_iff.1 hw').1
      by_cases h1 : i = j <;> by_cases h2 : i' = j
      · exact absurd (h1.trans h2.symm) hne
      · subst h1
        simp only [if_true, h2, if_false]
        have := old i' ((List.mem_cons.1 hi').resolve_left h2) b2
        omega
      · subst h2
        simp only [if_true, h1, if_false]
        have := old i ((List.mem_cons.1 hi).resolve_left h1) b1
        omega
      · simp only [h1, h2, if_false]
        exact hX.apart i ((List.mem_cons.1 hi).resolve_left h1) i' ((List.mem_cons.1 hi').resolve_left h2) hne b1 b2
/-- What has come up ahead of the run is taken over. -/
theorem xfloats_ok (hB : TabOK P tb base) {ops : Array Oper} {ws : World} {θs : Th} {hs : AH} : ∀ {fl : List Nat} {θ : Th} {h h' : AH} {A A' : AA} {a : Act} {β : Nat → Nat}, xfloats tb ops fl A h = some (A', h') → Post base θs hs ws θ h w → AOK θ h.next A a → (∀ i ∈ fl, allocAt tb ops i = true) → fl.Nodup →
    XD P tb ops base ws θ h a w fl β → ∃ θ', Post base θs hs ws θ' h' w ∧ AOK θ' h'.next A' a ∧ Ext θ θ' h.next ∧ h.next ≤ h'.next ∧
      ∀ id o, h'.m.get id = some o → (∃ o', h.m.get id = some o' ∧ id < h.next) ∨ ∃ i ∈ fl, blockAt tb ops i = true ∧ (θ' id).b = β i
  | [], θ, h, h', A, A', a, β, hx, hP, hA, hal, hnd, hX => by cases hx; exact ⟨θ, hP, hA, Ext.refl _ _, Nat.le_refl _, fun id o hg => .inl ⟨o, hg, (hP.r.obj id o hg).1⟩⟩
  | j :: js, θ, h, h', A, A', a, β, hx, hP, hA, hal, hnd, hX => by
    simp only [xfloats] at hx
    split at hx <;> try (cases hx; done)
    rename_i o ho
    obtain ⟨o', ho', hall, hself⟩ := allocAt_ok (hal j (by simp))
    rw [ho] at ho'; cases ho'
    obtain ⟨o2, ho2, hwt2, hc2⟩ := hX.each j (by simp)
    rw [ho] at ho2; cases ho2
    have hsame : ∀ (A1 : AA) (v : AV) (θ1 : Th), (∀ d, o.dst = some d → a.tmps[d]? = some (conc θ1 v)) → a.put o.dst (conc θ1 v) = a := fun A1 v θ1 hs => by
      cases hd : o.dst with
      | none => rfl
      | some d =>
        have := hs d hd
        simp only [Act.put]
        congr 1
        apply Array.ext_getElem?
        intro t
        by_cases ht : d = t
        · subst ht
          have hlt := (Array.getElem?_eq_some_iff.1 this).1
          rw [this]
          simp [hlt]
        · rw [Array.getElem?_setIfInBounds_ne ht]
    have hXr : ∀ {θ1 : Th} {h1 : AH}, XD P tb ops base ws θ1 h1 a w (j :: js) β → XD P tb ops base ws θ1 h1 a w js β := fun hX => ⟨fun i hi => hX.each i (by simp [hi]), fun i hi i' hi' => hX.apart i (by simp [hi]) i' (by simp [hi'])⟩
    split at hx
    · rename_i hp
      split at hx <;> try (cases hx; done)
      rename_i v hv
      split at hx <;> try (cases hx; done)
      rename_i A1 hput
      obtain ⟨c, f, g, vs, hop, hcal, hg, hargs, hgv, hevs⟩ := purOf_ok hA.ev hv
      rcases hc2 with ⟨_, c2, f2, g2, vs2, v2, hop2, hcal2, hg2, hargs2, hgv2, hd2⟩ | ⟨hp2, _⟩
      · rw [hop] at hop2; cases hop2
        rw [hcal] at hcal2; cases hcal2
        rw [hg] at hg2; cases hg2
        rw [hargs] at hargs2; subst hargs2
        rw [hgv] at hgv2; cases hgv2
        have hbv := ((hB.pur f g hg).2 vs v hgv).1
        have hA1 : AOK θ h.next A1 a := by
          have h0 := hA.put hput (hbv _ _)
          rwa [hsame A1 v θ fun d hd => by rw [hd2 d hd, conc_ext (n := 0) (θ := θ) (θ' := fun _ => ⟨0, 0, none⟩) (fun k hk => absurd hk (Nat.not_lt_zero k)) v (hbv _ _)]] at h0
        obtain ⟨θ', p1, p2, p3, p4, p5⟩ := xfloats_ok hB hx hP hA1 (fun i hi => hal i (by simp [hi])) (List.nodup_cons.1 hnd).2 (hXr hX)
        exact ⟨θ', p1, p2, p3, p4, fun id o hg => (p5 id o hg).imp (fun h => h) fun ⟨i, hi, hb, e⟩ => ⟨i, by simp [hi], hb, e⟩⟩
      · rw [hp] at hp2; cases hp2
    · rename_i hp
      rcases hc2 with ⟨hp2, _⟩ | ⟨_, obj2, f2, hrun2, hd2, hw2, hb2, hs2, hu2⟩
      · rw [hp] at hp2; cases hp2
      split at hx <;> try (cases hx; done)
      rename_i v h1 hm
      split at hx <;> try (cases hx; done)
      rename_i A1 hput
      have hia : isAlloc o.op = true := by simpa [floatOp, hp] using hall
      have hjb : blockAt tb ops j = true := by simp [blockAt, ho, hp]
      have hF := xmem_fok (P := P) (base := base) hB hA.ev hia (h := h) (θ := θ)
      rw [hm] at hF
      obtain ⟨hn1, hm1, obj, c, f, hrun, hall1⟩ := hF
      have hobj : obj2 = obj ∧ ∀ n, f2 n = f n := by
        have key : ∀ w' : World, f2 w'.heap.size = f w'.heap.size ∧ w'.alloc obj2 = w'.alloc obj := fun w' => by
          have := (hrun2 w').symm.trans (hrun w')
          simp only [Result.ok.injEq, Next.value.injEq] at this
          exact this
        refine ⟨?_, fun n => ?_⟩
        · have h2 := (key w).2
          have h3 := heap_alloc_new w obj2
          rw [h2, heap_alloc_new w obj] at h3
          exact (Option.some.inj h3).symm
        · have h2 := (key { w with heap := Array.replicate n default }).1
          simpa using h2
      obtain ⟨rfl, hff⟩ := hobj
      obtain ⟨r1, r2, r3⟩ := hall1 w (β j) hP.r hw2 hb2 hu2
      have hE := upd_ext θ h.next ⟨β j, c, none⟩
      have hP1 : Post base θs hs ws (upd θ h.next ⟨β j, c, none⟩) h1 w := by
        refine ⟨hP.ext.trans hE hP.next, by have := hP.next; omega, r1, hP.below, hP.frame, fun id o hg => ?_⟩
        by_cases hid : id = h.next
        · subst hid; right; rw [upd_same]; exact hs2
        · rw [hm1 id hid] at hg
          rw [hE id (hP.r.obj id o hg).1]
          exact hP.own id o hg
      have hA1 : AOK (upd θ h.next ⟨β j, c, none⟩) h1.next A1 a := by
        have h0 := (hA.ext hE (show h.next ≤ h1.next by omega)).put hput r2
        rwa [hsame A1 v _ fun d hd => by rw [hd2 d hd, r3, hff]] at h0
      have hX1 : XD P tb ops base ws (upd θ h.next ⟨β j, c, none⟩) h1 a w js β := by
        refine ⟨fun i hi => ?_, fun i hi i' hi' => hX.apart i (by simp [hi]) i' (by simp [hi'])⟩
        obtain ⟨o3, ho3, hwt3, hc3⟩ := hX.each i (by simp [hi])
        refine ⟨o3, ho3, hwt3, hc3.imp (fun h => h) fun ⟨hp3, obj3, f3, hr3, hd3, hw3, hb3, hs3, hu3⟩ => ⟨hp3, obj3, f3, hr3, hd3, hw3, hb3, hs3, fun id o hg => ?_⟩⟩
        by_cases hid : id = h.next
        · subst hid
          rw [upd_same]
          exact hX.apart j (by simp) i (by simp [hi]) (fun e => by subst e; exact (List.nodup_cons.1 hnd).1 hi) hjb (by simp [blockAt, ho3, hp3])
        · rw [hm1 id hid] at hg
          rw [hE id (hP.r.obj id o hg).1]
          exact hu3 id o hg
      obtain ⟨θ', p1, p2, p3, p4, p5⟩ := xfloats_ok hB hx hP1 hA1 (fun i hi => hal i (by simp [hi])) (List.nodup_cons.1 hnd).2 hX1
      refine ⟨θ', p1, p2, hE.trans p3 (by omega), by omega, fun id o hg => ?_⟩
      rcases p5 id o hg with ⟨o', h', hlt⟩ | ⟨i, hi, hb, e⟩
      · by_cases hid : id = h.next
        · subst hid
          exact .inr ⟨j, by simp, hjb, by rw [p3 h.next (by omega), upd_same]⟩
        · rw [hm1 id hid] at h'
          exact .inl ⟨o', h', by omega⟩
      · exact .inr ⟨i, by simp [hi], hb, e⟩
theorem ready_nodup {ops : Array Oper} {L : Array Bool} : (Region.ready .any ops L).Nodup := by
  unfold Region.ready; exact List.Pairwise.filter _ List.nodup_range
theorem firstKind_alloc {o : Oper} (h : firstKind o.op = true) : floatOp tb o = false := by
  unfold floatOp isPurOp
  cases ho : o.op <;> simp_all [firstKind, isAlloc]
  rename_i c
  split at h <;> simp_all
theorem wpHeld_none {ops : Array Oper} {Q : Exit → Act → World → Prop} {S : World → Prop} {ro : Option Nat} {LC : Array Bool} {a : Act} (hr : Region.ready .any ops LC = []) (hq : Q .normal a w) : ∀ k, wpHeld P ops Q S ro k LC a w
  | 0 => ⟨hr, hq⟩
  | _ + 1 => ⟨fun _ => hq, fun i hi => absurd hi (by rw [hr]; simp)⟩
theorem alloc_not {o : Oper} {ev : Operand → Option AV} (hal : isAlloc o.op = true) : xpure tb ev o = none ∧ xload tb h ev o = none ∧ asDefer o.op = none := by
  unfold isAlloc at hal
  split at hal <;> first | (cases hal; done) | (rename_i ho; refine ⟨?_, ?_, ?_⟩ <;> simp only [xpure, xload, asDefer, ho])
theorem xop_alloc (hB : TabOK P tb base) (hR : R base θ h w) {A A1 : AA} {a : Act} (hA : AOK θ h.next A a) {ops : Array Oper} {e1 : Nat} {o : Oper} (ho : ops[e1]? = some o) (hal : floatOp tb o = true) (hwt : Region.wanted o (yielded ops a.tmps) = true) {rd : Option Nat} {h1 : AH} (hop : xop tb rec ops.toList o rd A h = some (A1, h1)) :
    xfloats tb ops [e1] A h = some (A1, h1) := by
  unfold xop at hop
  have haw : awanted ops.toList A o = some true := by
    cases hw : awanted ops.toList A o with
    | none => rw [hw] at hop; cases hop
    | some b =>
      have := wanted_ok hA hw
      rw [hwt] at this
      rw [← this]
  rw [haw] at hop
  simp only at hop
  unfold xop1 at hop
  cases hp : isPurOp tb o with
  | false =>
    have hia : isAlloc o.op = true := by simpa [floatOp, hp] using hal
    obtain ⟨hpn, hln, hdn⟩ := alloc_not (tb := tb) (h := h) (ev := A.ev) hia
    rw [hpn, hln, hdn] at hop
    simp only at hop
    have hF := xmem_fok (P := P) (base := base) hB hA.ev hia (h := h) (θ := θ)
    simp only [xfloats, ho, hp]
    generalize xmem tb h A.ev o = X at hop hF ⊢
    cases X with
    | val v h2 =>
      obtain ⟨hp, rfl⟩ := putH_ok (a := a) hop
      simp only [hp]
    | skip h2 => exact hF.elim
    | enter f args => exact hF.elim
    | round id args => exact hF.elim
    | no => cases hop
  | true =>
    have hp' := hp
    unfold isPurOp at hp'
    split at hp' <;> try (cases hp'; done)
    rename_i c hopc
    split at hp' <;> try (cases hp'; done)
    rename_i f hcal
    obtain ⟨g, hg⟩ := Option.isSome_iff_exists.1 hp'
    have hpn : xpure tb A.ev o = none := by simp only [xpure, hopc, xpureCall, hcal]
    have hln : xload tb h A.ev o = none := by simp only [xload, hopc]
    have hdn : asDefer o.op = none := by simp only [asDefer, hopc]
    rw [hpn, hln, hdn] at hop
    simp only at hop
    simp only [xfloats, ho, hp]
    unfold purOf
    simp only [hopc, hcal, hg]
    unfold xmem xCall xEnter at hop
    simp only [hopc, hcal, AA.ev] at hop
    cases hevs : evs A.ev c.args.toList with
    | none => rw [hevs] at hop; simp [xmemPut] at hop
    | some xs =>
      rw [hevs] at hop
      simp only [xmemPut, List.nil_append, List.append_nil, xcall, hg] at hop
      cases hl : lits xs with
      | none => rw [hl] at hop; simp [putO] at hop
      | some vs =>
        rw [hl] at hop
        simp only at hop
        cases hgv : g vs with
        | none => rw [hgv] at hop; simp [putO] at hop
        | some v =>
          rw [hgv] at hop
          simp only [Option.map_some, putO] at hop
          obtain ⟨hput, rfl⟩ := putH_ok (a := a) hop
          simp only [hl, hgv, hput]
set_option maxHeartbeats 1000000 in
theorem xdraw_ok (hB : TabOK P tb base) (hS : Sound P base rec) {ops : Array Oper} (hsel : Region.noSelect ops = true) {rd : Option Nat} {θs : Th} {hs : AH} {ws : World} {L : Held} (hb0 : SB θs hs.next L) (hrd0 : ∀ l, rd = some l → l < hs.next) {Q : Exit → Act → World → Prop} (hQp : ∀ c a w, ¬ Q (.panic c) a w) {A' : AA} {h' : AH} {e : AExit}
    (hQ : ∀ θ' a' w', Post base θs hs ws θ' h' w' → AOK θ' h'.next A' a' → Q .normal a' w') :
    ∀ (k : Nat) (listed : Array Bool) (steps : List Step), plan tb ops k listed = some steps → ∀ (kc : Nat) {θ : Th} {h : AH} {w : World} {A : AA} {a : Act} {D : List Nat} {LC : Array Bool} {β : Nat → Nat}, ∀ {L' : Held}, (L' = L ∨ L' = [] ∧ ∃ f, fullAt ops f = true ∧ listed.getD f false = true) → Post base θs hs ws θ h w → AOK θ h.next A a →
      G ops (SW θs L) LC w → Closed ops LC → xdraw tb rec rd ops steps L' A h = .ok e A' h' → Rel ops listed D LC → D.Nodup → (∀ i ∈ D, i ∈ Region.ready .any ops listed ∧ allocAt tb ops i = true) → XD P tb ops base ws θ h a w D β → U ops LC ≤ kc →
      wpHeld P ops Q (SW θs L) (rdB θs rd) kc LC a w := by
  intro k
  have fin : ∀ (listed : Array Bool) (kc : Nat) {θ : Th} {h : AH} {w : World} {A : AA} {a : Act} {D : List Nat} {LC : Array Bool} {L' : Held}, Region.ready .any ops listed = [] → Post base θs hs ws θ h w → AOK θ h.next A a → xdraw tb rec rd ops [] L' A h = .ok e A' h' → Rel ops listed D LC → (∀ i ∈ D, i ∈ Region.ready .any ops listed ∧ allocAt tb ops i = true) →
      wpHeld P ops Q (SW θs L) (rdB θs rd) kc LC a w := by
    intro listed kc θ h w A a D LC L' hr hP hA hx hrel hD
    cases hx
    have : D = [] := by
      cases D with
      | nil => rfl
      | cons i is => have := (hD i (by simp)).1; rw [hr] at this; cases this
    subst this
    refine wpHeld_none ?_ (hQ θ a w hP hA) kc
    cases hrc : Region.ready .any ops LC with
    | nil => rfl
    | cons j js => have := hrel.ready0 (j := j) (by rw [hrc]; simp); rw [hr] at this; cases this
  induction k with
  | zero =>
    intro listed steps hp kc θ h w A a D LC β L' hL hP hA hG hcl hx hrel hnd hD hX hU
    simp only [plan] at hp
    split at hp
    · rename_i hr; cases hp; exact fin listed kc hr hP hA hx hrel hD
    · cases hp
  | succ k ih =>
    intro listed steps hp kc θ h w A a D LC β L' hL hP hA hG hcl hx hrel hnd hD hX hU
    simp only [plan] at hp
    have hrdn : ∀ l, rd = some l → l < h.next := fun l hl => Nat.lt_of_lt_of_le (hrd0 l hl) hP.next
    have hLset : ∀ i, L' = L ∨ L' = [] ∧ ∃ f, fullAt ops f = true ∧ (listed.setIfInBounds i true).getD f false = true := fun i => hL.imp id fun ⟨e, f, hf, hfl⟩ => ⟨e, f, hf, getD_set_true hfl⟩
    have hgk : ∀ {LC : Array Bool} {D : List Nat} {h1 : AH} {θ' : Th} {w' : World} (j : Nat), Rel ops listed D LC → keeps h1 L' = true → Post base θs hs ws θ' h1 w' → G ops (SW θs L) (LC.setIfInBounds j true) w' := fun {LC D h1 θ' w'} j hrel hke hPP => by
      rcases hL with rfl | ⟨_, f, hf, hfl⟩
      · exact .inr ((SW.ext hb0 hPP.ext).1 (keeps_ok hke hPP.r))
      · have hfs : f < ops.size := by have := getD_lt' hfl; rw [hrel.sl] at this; exact this
        exact .inl ⟨f, hf, getD_set_true ((hrel.get f hfs).2 (.inl hfl))⟩
    have hgf : ∀ {LC : Array Bool} {w w' : World} (j : Nat), Below w.heap.size w w' → G ops (SW θs L) LC w → G ops (SW θs L) (LC.setIfInBounds j true) w' := fun j hbel hg => hg.imp (fun ⟨f, hf, hfl⟩ => ⟨f, hf, getD_set_true hfl⟩) fun hSW id off vs hm q u hq => by
      have := hSW id off vs hm q u hq
      rw [hbel.cell (World.block_lt_of_cell? _ _ this)]; exact this
    split at hp
    · rename_i hr; cases hp; exact fin listed kc hr hP hA hx hrel hD
    · rename_i i0 is hr
      split at hp
      · rename_i i hpf
        split at hp <;> try (cases hp; done)
        rename_i r hpl
        cases hp
        obtain ⟨hmem, o, ho, hfk, hfree⟩ := pickFirst_ok hpf
        have hiD : i ∉ D := fun hi => by
          obtain ⟨o', ho', hal, _⟩ := allocAt_ok (hD i hi).2
          rw [ho] at ho'; cases ho'
          rw [firstKind_alloc (tb := tb) hfk] at hal; cases hal
        have hil : i ∈ Region.ready .any ops listed := by rw [hr]; exact hmem
        simp only [xdraw, ho] at hx
        split at hx
        · rename_i v hv
          split at hx <;> try (cases hx; done)
          rename_i A1 hput
          have hbL : SB θs hs.next L' := by
            rcases hL with rfl | ⟨rfl, _⟩
            · exact hb0
            · exact fun id off vs hm => by cases hm
          have hbn : SB θ h.next L' := fun id off vs hm => ⟨Nat.lt_of_lt_of_le (hbL id off vs hm).1 hP.next, bdl_ext hP.ext hP.next (hbL id off vs hm).2⟩
          obtain ⟨hbv, hy⟩ := xfirst_ok hB hbn hA hv (firstKind_defer hfk)
          have hLw : ∀ w, SW θs L w → SW θs L' w := fun w hs => by
            rcases hL with rfl | ⟨rfl, _⟩
            · exact hs
            · exact fun id off vs hm => by cases hm
          have hy' : YieldsH P ops (fun w => isLoad o.op = true → SW θs L w) o (conc θ v) a := ⟨hy.1, hy.2.imp (fun ⟨p, q⟩ => ⟨p, fun w hs => q w fun hl => (SW.ext hbL hP.ext).2 (hLw w (hs hl))⟩) id⟩
          have hSi : isLoad o.op = true ∧ (∀ w, SW θs L w → (isLoad o.op = true → SW θs L w)) ∨ ∀ w, (isLoad o.op = true → SW θs L w) := by
            cases hl : isLoad o.op with
            | true => exact .inl ⟨rfl, fun w hs _ => hs⟩
            | false => exact .inr fun w h => by cases h
          have hir := hrel.ready1 hil hiD
          obtain ⟨hisz, _, hiu⟩ := hrel.notD hir
          have hiu' : LC.getD i true = false := (mem_ready.1 hir).1
          have hUlt := U_set (ops := ops) hisz hiu'
          obtain ⟨kc', rfl⟩ : ∃ kc', kc = kc' + 1 := ⟨kc - 1, by omega⟩
          have hfs := Region.free_spec ho hfree
          refine wpHeld_first ho hfk hsel (fun c a w hq => (hQp c _ w hq).elim) hSi kc' LC a w hcl (fun j oj hj hne hun hno => hfs j oj hj hne ?_ hno) hir hy' hG ?_
          · have hjs : j < ops.size := (Array.getElem?_eq_some_iff.1 hj).1
            rw [getD_tf (by rw [hrel.sc]; exact hjs)] at hun
            rw [getD_tf (by rw [hrel.sl]; exact hjs)]
            cases hg : listed.getD j false with
            | false => rfl
            | true => rw [(hrel.get j hjs).2 (.inl hg)] at hun; cases hun
          · refine ih _ _ hpl kc' (hLset i) hP (hA.put hput hbv) (hG.imp (fun ⟨f, hf, hfl⟩ => ⟨f, hf, getD_set_true hfl⟩) id) (hcl.set hir) hx (hrel.set i) hnd (fun d hd => ⟨ready_mono (hD d hd).1 (fun e => hiD (e ▸ hd)), (hD d hd).2⟩) (hX.act hsel ⟨_, rfl⟩ fun d hd od hod => ?_) (by omega)
            have hdr := mem_ready.1 (hD d hd).1
            have hap := hfs d od hod (fun e => hiD (e ▸ hd)) hdr.1 (fun e he hb heq => by
              obtain ⟨od', hod', hall⟩ := hdr.2
              rw [hod] at hod'; cases hod'
              have h1 := hall e he hb
              rw [heq] at h1
              rw [getD_tf (by rw [hrel.sl]; exact hisz)] at hiu
              rw [h1] at hiu; cases hiu)
            have := Oper.apart_spec hap
            exact ⟨this.1, this.2.1⟩
        · split at hx
          · rename_i hemp
            split at hx
            · rename_i A1 h1 hop
              split at hx
              · rename_i hke
                have hise : is = [] := by simpa using hemp
                subst hise
                obtain rfl := List.mem_singleton.1 hmem
                have hDn : D = [] := by
                  cases D with
                  | nil => rfl
                  | cons d ds =>
                    have := (hD d (by simp)).1
                    rw [hr] at this
                    exact absurd (by rw [List.mem_singleton.1 this]; simp) hiD
                subst hDn
                have hir := hrel.ready1 hil hiD
                have hUlt := U_set (ops := ops) (hrel.notD hir).1 (mem_ready.1 hir).1
                obtain ⟨kc', rfl⟩ : ∃ kc', kc = kc' + 1 := ⟨kc - 1, by omega⟩
                refine ⟨fun h0 => absurd h0 (fun h0 => by rw [h0] at hir; cases hir), fun j hj => ?_⟩
                have hj' := hrel.ready0 hj
                rw [hr] at hj'
                obtain rfl := List.mem_singleton.1 hj'
                unfold wpOpIn
                simp only [ho]
                have := xop_ok hB hS hP.r hA (K := fun a' w' => G ops (SW θs L) (LC.setIfInBounds j true) w' ∧ wpHeld P ops Q (SW θs L) (rdB θs rd) kc' (LC.setIfInBounds j true) a' w') (Q := Q) hop fun θ' a' w' hP' hA' _ => by
                  have hPP := hP.trans hP'
                  have hg' := hgk j hrel hke hPP
                  exact ⟨hg', ih _ _ hpl kc' (hLset j) hPP hA' hg' (hcl.set hj) hx (hrel.set j) List.nodup_nil (fun d hd => by cases hd) (XD.nil (β := β)) (by omega)⟩
                rwa [rdB_ext hP.ext hrd0] at this
              · cases hx
            · cases hx
          · cases hx
      · rename_i hpf
        have hfl0 : ∀ {D : List Nat}, (∀ i ∈ D, i ∈ Region.ready .any ops listed ∧ allocAt tb ops i = true) → ∀ i ∈ D, i ∈ (i0 :: is).filter (allocAt tb ops) := fun hD i hi => List.mem_filter.2 ⟨by rw [← hr]; exact (hD i hi).1, (hD i hi).2⟩
        have hflm : ∀ i ∈ (i0 :: is).filter (allocAt tb ops), i ∈ Region.ready .any ops listed ∧ allocAt tb ops i = true := fun i hi => by
          obtain ⟨a, b⟩ := List.mem_filter.1 hi; exact ⟨by rw [hr]; exact a, b⟩
        -- which one comes, and what floats
        obtain ⟨e1, fl, hp1, he1r, hflr, hDfl⟩ : ∃ e1 fl, planOne ops listed (plan tb ops k) e1 fl = some steps ∧ e1 ∈ Region.ready .any ops listed ∧ (∀ i ∈ fl, i ∈ Region.ready .any ops listed ∧ allocAt tb ops i = true) ∧
            (∀ {D : List Nat}, (∀ i ∈ D, i ∈ Region.ready .any ops listed ∧ allocAt tb ops i = true) → ∀ i ∈ D, i = e1 ∨ i ∈ fl) := by
          generalize hES : (i0 :: is).filter (fun i => !allocAt tb ops i) = es at hp
          unfold planEnd at hp
          split at hp
          · rename_i e1
            refine ⟨e1, _, hp, ?_, hflm, fun hD i hi => .inr (hfl0 hD i hi)⟩
            have : e1 ∈ (i0 :: is).filter (fun i => !allocAt tb ops i) := by rw [hES]; simp
            rw [hr]; exact (List.mem_filter.1 this).1
          · split at hp <;> try (cases hp; done)
            rename_i e1 hpo
            have hmem : ∀ {l : List Nat}, pickOne ops listed ((i0 :: is).filter (allocAt tb ops)) l = some e1 → e1 ∈ l := by
              intro l
              induction l with
              | nil => intro h; cases h
              | cons j js ihj =>
                intro h
                simp only [pickOne] at h
                split at h
                · cases h; simp
                · exact List.mem_cons_of_mem _ (ihj h)
            refine ⟨e1, _, hp, (hflm e1 (hmem hpo)).1, fun i hi => hflm i (List.mem_filter.1 hi).1, fun hD i hi => ?_⟩
            by_cases hie : i = e1
            · exact .inl hie
            · exact .inr (List.mem_filter.2 ⟨hfl0 hD i hi, by simpa using hie⟩)
          · cases hp
        unfold planOne at hp1
        split at hp1 <;> try (cases hp1; done)
        rename_i hcok
        simp only [onlyOK, Bool.and_eq_true, decide_eq_true_eq] at hcok
        obtain ⟨⟨hc1, hc2⟩, hc3⟩ := hcok
        split at hp1 <;> try (cases hp1; done)
        rename_i r hpl
        cases hp1
        simp only [xdraw] at hx
        split at hx <;> try (cases hx; done)
        rename_i o ho
        split at hx <;> try (cases hx; done)
        rename_i hfo
        split at hx <;> try (cases hx; done)
        rename_i A1 h1 hop
        obtain ⟨L1, hL1, hx1, hg1⟩ : ∃ L1, (L1 = L ∨ L1 = [] ∧ ∃ f, fullAt ops f = true ∧ (listed.setIfInBounds e1 true).getD f false = true) ∧ xdraw tb rec rd ops r L1 A1 h1 = .ok e A' h' ∧
            ∀ {LC : Array Bool} {D : List Nat} {θ' : Th} {w' : World}, Rel ops listed D LC → e1 < ops.size → Post base θs hs ws θ' h1 w' → G ops (SW θs L) (LC.setIfInBounds e1 true) w' := by
          split at hx
          · rename_i hfull
            refine ⟨[], ?_, hx, fun {LC D θ' w'} hrel hsz hPP => .inl ⟨e1, hfull, by simp [hrel.sc, hsz]⟩⟩
            have hsz : e1 < ops.size := (Array.getElem?_eq_some_iff.1 ho).1
            exact .inr ⟨rfl, e1, hfull, by simp [hrel.sl, hsz]⟩
          · split at hx
            · rename_i hke; exact ⟨L', hLset e1, hx, fun {LC D θ' w'} hrel _ hPP => hgk e1 hrel hke hPP⟩
            · cases hx
        have he1s : e1 < ops.size := (Array.getElem?_eq_some_iff.1 ho).1
        -- floats may come up first
        have inner : ∀ (kc : Nat) {w : World} {a : Act} {D : List Nat} {LC : Array Bool} {β : Nat → Nat}, Post base θs hs ws θ h w → AOK θ h.next A a → G ops (SW θs L) LC w → Closed ops LC → Rel ops listed D LC → D.Nodup → (∀ i ∈ D, i ∈ Region.ready .any ops listed ∧ allocAt tb ops i = true) → XD P tb ops base ws θ h a w D β → U ops LC ≤ kc →
            wpHeld P ops Q (SW θs L) (rdB θs rd) kc LC a w := by
          intro kc
          -- it is there: it is taken over
          have there : ∀ {kc : Nat} {w : World} {a : Act} {D : List Nat} {LC : Array Bool} {β : Nat → Nat}, e1 ∈ D → Post base θs hs ws θ h w → AOK θ h.next A a → G ops (SW θs L) LC w → Closed ops LC → Rel ops listed D LC → D.Nodup → (∀ i ∈ D, i ∈ Region.ready .any ops listed ∧ allocAt tb ops i = true) → XD P tb ops base ws θ h a w D β → U ops LC ≤ kc →
              wpHeld P ops Q (SW θs L) (rdB θs rd) kc LC a w := by
            intro kc w a D LC β he1D hP hA hG hcl hrel hnd hD hX hU
            have hal1 := (hD e1 he1D).2
            have hR1 := hP.r
            obtain ⟨o', ho', hal, hself⟩ := allocAt_ok hal1
            rw [ho] at ho'; cases ho'
            have hwe : Region.wanted o (yielded ops a.tmps) = true := by
              obtain ⟨o4, ho4, hw4, _⟩ := hX.each e1 he1D
              rw [ho] at ho4; cases ho4; exact hw4
            have hxf : xfloats tb ops [e1] A h = some (A1, h1) := xop_alloc (P := P) hB hR1 hA ho hal hwe hop
            have hX1 : XD P tb ops base ws θ h a w [e1] β := ⟨fun i hi => by rw [List.mem_singleton.1 hi]; exact hX.each e1 he1D, fun i hi j hj hne _ _ => absurd ((List.mem_singleton.1 hi).trans (List.mem_singleton.1 hj).symm) hne⟩
            obtain ⟨θ', hP', hA', hE', hn', hown'⟩ := xfloats_ok hB hxf hP hA (fun i hi => by rw [List.mem_singleton.1 hi]; exact hal1) (by simp) hX1
            have hsub : ∀ i ∈ without D e1, i ∈ D ∧ i ≠ e1 := fun i hi => by
              obtain ⟨p, q⟩ := List.mem_filter.1 hi; exact ⟨p, by simpa using q⟩
            have hrel' : Rel ops (listed.setIfInBounds e1 true) (without D e1) LC := by
              refine ⟨by simp [hrel.sl], hrel.sc, fun j hj => ?_⟩
              rw [hrel.get j hj]
              by_cases hje : e1 = j
              · subst hje; simp [hrel.sl, hj, he1D]
              · rw [getD_set_ne false hje]
                constructor
                · rintro (h | h)
                  · exact .inl h
                  · exact .inr (List.mem_filter.2 ⟨h, by simpa using Ne.symm hje⟩)
                · rintro (h | h)
                  · exact .inl h
                  · exact .inr (hsub j h).1
            have hX2 : XD P tb ops base ws θ' h1 a w (without D e1) β := by
              refine ⟨fun i hi => ?_, fun i hi j hj => hX.apart i (hsub i hi).1 j (hsub j hj).1⟩
              obtain ⟨o4, ho4, hwt4, hc4⟩ := hX.each i (hsub i hi).1
              refine ⟨o4, ho4, hwt4, hc4.imp (fun ⟨hp, c, f, g, vs, v, x1, x2, x3, x4, x5, x6⟩ => ⟨hp, c, f, g, vs, v, x1, x2, x3, x4, x5, x6⟩) fun ⟨hnp, obj4, f4, hr4, hd4, hw4, hb4, hs4, hu4⟩ => ⟨hnp, obj4, f4, hr4, hd4, hw4, hb4, hs4, fun id o' hg => ?_⟩⟩
              rcases hown' id o' hg with ⟨o'', h'', hlt⟩ | ⟨i', hi', hb', e⟩
              · rw [hE' id hlt]; exact hu4 id o'' h''
              · rw [e, List.mem_singleton.1 hi']
                refine hX.apart e1 he1D i (hsub i hi).1 (fun e => (hsub i hi).2 e.symm) (by rw [← List.mem_singleton.1 hi']; exact hb') ?_
                simp only [blockAt, ho4, hnp, Bool.not_false]
            have hG1 : G ops (SW θs L) (LC.setIfInBounds e1 true) w := hG.imp (fun ⟨f, hf, hfl⟩ => ⟨f, hf, getD_set_true hfl⟩) id
            exact ih _ _ hpl kc hL1 hP' hA' hG hcl hx1 hrel' (List.Pairwise.filter _ hnd) (fun i hi => ⟨ready_mono (hD i (hsub i hi).1).1 (hsub i hi).2, (hD i (hsub i hi).1).2⟩) hX2 hU
          induction kc with
          | zero =>
            intro w a D LC β hP hA hG hcl hrel hnd hD hX hU
            by_cases heD : e1 ∈ D
            · exact there heD hP hA hG hcl hrel hnd hD hX hU
            · have hir := hrel.ready1 he1r heD
              have := U_set (ops := ops) (hrel.notD hir).1 (mem_ready.1 hir).1
              omega
          | succ kc ihk =>
            intro w a D LC β hP hA hG hcl hrel hnd hD hX hU
            by_cases heD : e1 ∈ D
            · exact there heD hP hA hG hcl hrel hnd hD hX hU
            have hDf : ∀ i ∈ D, i ∈ fl := fun i hi => (hDfl hD i hi).resolve_left (fun e => heD (e ▸ hi))
            have hir := hrel.ready1 he1r heD
            refine ⟨fun h0 => absurd h0 (fun h0 => by rw [h0] at hir; cases hir), fun j hj => ?_⟩
            obtain ⟨hjs, hjD, hju⟩ := hrel.notD hj
            have hUlt := U_set (ops := ops) hjs (mem_ready.1 hj).1
            by_cases hjf : j ∈ fl
            · refine float_ok hB hsel hP.r hA hX hP.below.size (fun i hi => (hflr i hi).2) hDf hc3 hfo hjf hjD fun a' w' β' hA' hbel hX' => ?_
              have hP' := hP.trans (Post.more hP.r hbel)
              have hs' := hgf j hbel hG
              exact ⟨hs', ihk hP' hA' hs' (hcl.set hj) (hrel.more j) (List.nodup_cons.2 ⟨hjD, hnd⟩) (fun i hi => by
                rcases List.mem_cons.1 hi with rfl | hi
                · exact hflr i hjf
                · exact hD i hi) hX' (by omega)⟩
            · have hj2 := hrel.ready2 hDf hj hjf
              rw [hc1] at hj2
              obtain rfl := List.mem_singleton.1 hj2
              unfold wpOpIn
              simp only [ho]
              have := xop_ok hB hS hP.r hA (K := fun a' w' => G ops (SW θs L) (LC.setIfInBounds j true) w' ∧ wpHeld P ops Q (SW θs L) (rdB θs rd) kc (LC.setIfInBounds j true) a' w') (Q := Q) hop fun θ' a' w' hP' hA' ht => by
                have hPP := hP.trans hP'
                have hg' := hg1 hrel hjs hPP
                refine ⟨hg', ih _ _ hpl kc hL1 hPP hA' hg' (hcl.set hj) hx1 (hrel.set j) hnd (fun d hd => ⟨ready_mono (hD d hd).1 (fun e => heD (e ▸ hd)), (hD d hd).2⟩) ((hX.act hsel ht fun d hd od hod => ?_).post hP') (by omega)⟩
                have hap := List.all_eq_true.1 hc2 d (hDf d hd)
                simp only [apartAt, ho, hod] at hap
                have := Oper.apart_spec hap
                exact ⟨this.1, this.2.1⟩
              rwa [rdB_ext hP.ext hrd0] at this
        exact inner kc hP hA hG hcl hrel hnd hD hX hU
theorem norm_of_xdraw {rd : Option Nat} {ops : Array Oper} : ∀ (l : List Step) {L : Held} {A A' : AA} {h h' : AH} {e : AExit}, xdraw tb rec rd ops l L A h = .ok e A' h' → e = .norm
  | [], L, A, A', h, h', e, hx => by cases hx; rfl
  | .fst i only :: l, L, A, A', h, h', e, hx => by
    simp only [xdraw] at hx
    split at hx
    · cases hx
    · split at hx
      · split at hx
        · exact norm_of_xdraw l hx
        · cases hx
      · split at hx
        · split at hx
          · split at hx
            · exact norm_of_xdraw l hx
            · cases hx
          · cases hx
        · cases hx
  | .only i fl :: l, L, A, A', h, h', e, hx => by
    simp only [xdraw] at hx
    split at hx
    · cases hx
    · split at hx
      · split at hx
        · split at hx
          · exact norm_of_xdraw l hx
          · split at hx
            · exact norm_of_xdraw l hx
            · cases hx
        · cases hx
      · cases hx
  | .bar fl :: l, L, A, A', h, h', e, hx => by
    simp only [xdraw] at hx
    split at hx
    · split at hx
      · exact norm_of_xdraw l hx
      · cases hx
    · cases hx
theorem erase_ok {n : Nat} : ∀ (l : List Oper) {A : AA} {a : Act}, AOK θ n A a → AOK θ n (erase tb l A) a
  | [], A, a, hA => hA
  | o :: os, ⟨t, m, ds⟩, a, hA => by
    unfold erase
    split
    · rename_i d t' m' ds' _ _ heq
      cases heq
      split
      · rename_i hd
        refine erase_ok os ⟨hA.size, fun i v hv => ?_, hA.ds, hA.bds⟩
        by_cases hi : i = d
        · subst hi
          rw [T.get_set_same _ 11 _ _ (Nat.lt_of_le_of_lt (Nat.succ_le_succ (Nat.le_of_lt hd)) (by decide))] at hv; cases hv
        · rw [T.get_set_other _ _ _ _ _ hi] at hv; exact hA.kt i v hv
      · exact erase_ok os hA
    · exact erase_ok os hA
theorem xdrawn_ok (hB : TabOK P tb base) (hS : Sound P base rec) (hR : R base θ h w) {A A' : AA} {a : Act} (hA : AOK θ h.next A a) {rd : Option Nat} (hrd : ∀ l, rd = some l → l < h.next) {id : Nat} {ops : Array Oper} {e : AExit} {h' : AH} (hx : xdrawn tb rec rd ops A h = .ok e A' h') :
    (Code.region id ops true).wpIn (FW (rdB θ rd)) 0 P (Behind base θ h w e A' h') a w := by
  unfold xdrawn at hx
  split at hx <;> try (cases hx; done)
  rename_i steps hpl
  unfold planOf at hpl
  split at hpl <;> try (cases hpl; done)
  rename_i hsel
  have hne := norm_of_xdraw steps hx
  subst hne
  have hA0 := erase_ok (tb := tb) ops.toList hA
  have hbel : Below w.heap.size w { w with drawn := w.drawn + 1 } := ⟨rfl, rfl, rfl, Nat.le_refl _, fun _ _ => rfl⟩
  have hP0 := Post.more hR hbel
  obtain ⟨g1, g2⟩ := gather_ok (tb := tb) hP0.r (ops := ops) steps (erase tb ops.toList A)
  refine wpIn_region_any hB.mixed (wpAny_of_wpHeld (S := SW θ (gather tb h ops steps (erase tb ops.toList A))) _ _ _ _ ?_)
  refine xdraw_ok hB hS hsel g2 hrd (fun c a w hq => absurd hq.1 (by simp [concE])) (fun θ' a' w' hP hA' => ⟨rfl, θ', hP, hA'⟩) ops.size _ steps hpl ops.size (D := []) (LC := Array.replicate ops.size false) (β := fun _ => 0) (.inl rfl) hP0 hA0 (.inr g1) (fun f o ho hf => by simp [(Array.getElem?_eq_some_iff.1 ho).1] at hf) hx ⟨by simp, by simp, fun j hj => by simp⟩ List.nodup_nil (fun d hd => by cases hd) XD.nil ?_
  have := List.countP_le_length (p := fun i => !(Array.replicate ops.size false).getD i true) (l := List.range ops.size)
  simpa [U] using this
theorem least_of {p : Nat → Prop} : ∀ n, p n → ∃ k, p k ∧ ∀ j, p j → k ≤ j := fun n => by
  induction n using Nat.strongRecOn with
  | _ n ih =>
    intro hn
    by_cases hx : ∃ j, j < n ∧ p j
    · obtain ⟨j, hj, hp⟩ := hx; exact ih j hj hp
    · exact ⟨n, hn, fun j hj => by
        by_cases h : n ≤ j
        · exact h
        · exact absurd ⟨j, by omega, hj⟩ hx⟩
/-- A loop, round by round. -/
theorem wpIn_loop_iter {F : Fence} {n : Nat} {Q : Exit → Act → World → Prop} {a : Act} {w : World} {c : Code} (J : Nat → Act → World → Prop) {k : Nat} (h0 : J k a w)
    (round : ∀ k a w, J k a w → c.wpIn F n P (Exit.then (fun a' w' => ∃ k', k' < k ∧ J k' a' w') Q) a w) : (Code.loop c).wpIn F n P Q a w := by
  classical
  have hl : ∀ a w, (∃ k, J k a w) → ∃ k, J k a w ∧ ∀ j, J j a w → k ≤ j := fun a w ⟨k, hk⟩ => least_of k hk
  refine wpIn_loop (fun a w => ∃ k, J k a w) (fun a w => if hx : ∃ k, J k a w then Classical.choose (hl a w hx) else 0) ⟨k, h0⟩ fun a w hI => ?_
  obtain ⟨hmin, _⟩ := Classical.choose_spec (hl a w hI)
  refine wpIn_mono (round _ a w hmin) fun e a' w' he => ?_
  cases e with
  | normal =>
    obtain ⟨k', hk', hJ⟩ := he
    refine ⟨⟨k', hJ⟩, ?_⟩
    have hex : ∃ k, J k a' w' := ⟨k', hJ⟩
    rw [dif_pos hex, dif_pos hI]
    exact Nat.lt_of_le_of_lt ((Classical.choose_spec (hl a' w' hex)).2 k' hJ) hk'
  | _ => exact he
theorem xloop_ok (hS : Sound P base rec) {c : Code} {rd : Option Nat} : ∀ {k : Nat} {θ : Th} {h : AH} {w : World} {A A' : AA} {a : Act} {h' : AH} {e : AExit}, R base θ h w → AOK θ h.next A a → (∀ l, rd = some l → l < h.next) →
    xloop rec c rd k A h = .ok e A' h' → (Code.loop c).wpIn (FW (rdB θ rd)) 0 P (Behind base θ h w e A' h') a w := by
  intro k θ0 h0 w0 A0 A' a0 h' e hR0 hA0 hrd0 hx0
  refine wpIn_loop_iter (fun k a w => ∃ θ h A, Post base θ0 h0 w0 θ h w ∧ AOK θ h.next A a ∧ xloop rec c rd k A h = .ok e A' h') (k := k) ⟨θ0, h0, A0, Post.refl hR0, hA0, hx0⟩ ?_
  rintro k a w ⟨θ, h, A, hP, hA, hx⟩
  cases k with
  | zero => cases hx
  | succ k =>
    change (match rec c rd A h with | .ok .norm A' h' => xloop rec c rd k A' h' | .ok e A' h' => .ok e A' h' | .no => .no) = .ok e A' h' at hx
    have hrd : ∀ l, rd = some l → l < h.next := fun l hl => Nat.lt_of_lt_of_le (hrd0 l hl) hP.next
    split at hx
    · rename_i A1 h1 hr
      have hb := hS _ _ _ _ _ _ _ hr θ a w hP.r hA hrd
      rw [rdB_ext hP.ext hrd0] at hb
      refine wpIn_mono hb fun ex a' w' he => ?_
      obtain ⟨rfl, θ', hP', hA'⟩ := he
      exact ⟨k, Nat.lt_succ_self _, θ', h1, A1, hP.trans hP', hA', hx⟩
    · rename_i e1 A1 h1 hne hr
      cases hx
      have hb := hS _ _ _ _ _ _ _ hr θ a w hP.r hA hrd
      rw [rdB_ext hP.ext hrd0] at hb
      refine wpIn_mono hb fun ex a' w' he => ?_
      obtain ⟨rfl, θ', hP', hA'⟩ := he
      cases e with
      | norm => first | exact (hne rfl).elim | exact (hne _ _ rfl).elim | exact (hne _ _ hr).elim
      | _ => exact ⟨rfl, θ', hP.trans hP', hA'⟩
    · cases hx
/-- The range over a function. -/
theorem xrange_ok (hB : TabOK P tb base) (hS : Sound P base rec) (hR : R base θ h w) {A A' : AA} {a : Act} (hA : AOK θ h.next A a) {rd : Option Nat} (hrd : ∀ l, rd = some l → l < h.next) {g : Operand} {ps : Array Tmp} {assign body : Code} {e : AExit} {h' : AH}
    (hx : xrange tb rec g ps assign body rd A h = .ok e A' h') : (Code.rangeFunc g ps assign body).wpIn (FW (rdB θ rd)) 0 P (Behind base θ h w e A' h') a w := by
  unfold xrange at hx
  split at hx <;> try (cases hx; done)
  rename_i dfr mark h0 hd
  split at hx <;> try (cases hx; done)
  rename_i h1 hadd
  split at hx <;> try (cases hx; done)
  rename_i f first cap hg
  split at hx <;> try (cases hx; done)
  rename_i v h2 hc
  split at hx <;> try (cases hx; done)
  rename_i r hm
  split at hx <;> try (cases hx; done)
  rename_i hbusy
  split at hx <;> try (cases hx; done)
  rename_i h3 hset
  refine wpIn_rangeFunc fun fn _ => ?_
  obtain ⟨θ0, w0, hP0, hdfr, hbm, henter⟩ : ∃ θ0 w0, Post base θ h w θ0 h0 w0 ∧ dfr < h0.next ∧ (∀ d ∈ mark, bdD θ0 h0.next d) ∧
      (Instr.enterLoop fn a.tmps ps assign body (rdB θ rd)).run P w = .ok (w0.heap.size, mark.map (concD θ0)) (w0.alloc (.loop { state := .ready, pending := none, fn, tmps := a.tmps, params := ps, assign, body, defers := (θ0 dfr).b })) := by
    cases rd with
    | none =>
      simp only at hd
      split at hd <;> try (cases hd; done)
      rename_i h0' ha
      cases hd
      have hsame := upd_same θ h.next ⟨w.heap.size, 0, none⟩
      have hsp := AH.add_spec ha
      refine ⟨upd θ h.next ⟨w.heap.size, 0, none⟩, w.alloc (.deferred (some [])), ?_, by omega, ?_, ?_⟩
      · exact Post.add hR ha (Nat.le_refl _) (fun k hk => Below.heap_alloc w _ k hk) ((Below.refl base w).alloc hR.size _) (show (w.alloc _).heap[(upd θ h.next ⟨w.heap.size, 0, none⟩ h.next).b]? = _ by rw [hsame]; exact heap_alloc_new w _)
      · intro d hd; obtain rfl := List.mem_singleton.1 hd; show h.next < _; omega
      · rw [show rdB θ none = none from rfl, run_enterLoop_outer]
        simp [concD, hsame]
    | some l =>
      simp only at hd
      split at hd <;> try (cases hd; done)
      rename_i r' hl
      cases hd
      obtain ⟨hln, _, hlo⟩ := hR.obj l _ hl
      obtain ⟨hdn, L, hL, _, _, _, _, _, _, _, _, hdef⟩ := hlo
      refine ⟨θ, w, Post.refl hR, hdn, (fun d hd => by cases hd), ?_⟩
      unfold Instr.enterLoop
      simp only [rdB, Option.map_some, Sem.run_bind, run_getLoop hL, Result.andThen, Sem.run_pure, run_newObj_alloc, hdef.1, List.map_nil]
  have hA0 := hA.ext hP0.ext hP0.next
  have hsp1 := AH.add_spec hadd
  have hsame := upd_same θ0 h0.next ⟨w0.heap.size, fn, none⟩
  have hE1 := upd_ext θ0 h0.next ⟨w0.heap.size, fn, none⟩
  have hP1 : Post base θ0 h0 w0 (upd θ0 h0.next ⟨w0.heap.size, fn, none⟩) h1 (w0.alloc (.loop { state := .ready, pending := none, fn, tmps := a.tmps, params := ps, assign, body, defers := (θ0 dfr).b })) := by
    refine Post.add hP0.r hadd (Nat.le_refl _) (fun k hk => Below.heap_alloc w0 _ k hk) ((Below.refl base w0).alloc hP0.r.size _) ⟨by show dfr < h0.next + 1; omega, _, by rw [hsame]; exact heap_alloc_new w0 _, fun _ => rfl, fun _ => by simp, rfl, rfl, rfl, rfl, hA0.kt.ext hE1 (Nat.le_succ _), hA0.size, by rw [hE1 dfr hdfr], by rw [hsame]⟩
  have hA1 := hA0.ext hP1.ext hP1.next
  obtain ⟨hbf, hf'⟩ := hA1.ev g _ hg
  simp only [bd] at hbf
  have hba : bdl (upd θ0 h0.next ⟨w0.heap.size, fn, none⟩) h1.next (first ++ [AV.yld h0.next] ++ cap) := fun y hy => by
    rcases List.mem_append.1 hy with hy | hy
    · rcases List.mem_append.1 hy with hy | hy
      · exact hbf.1 y hy
      · obtain rfl := List.mem_singleton.1 hy; simp only [bd]; omega
    · exact hbf.2 y hy
  obtain ⟨hent, hcall⟩ := xcall_ok hB hS hP1.r hba hc
  refine ⟨w0.heap.size, mark.map (concD θ0), (w0.alloc (.loop { state := .ready, pending := none, fn, tmps := a.tmps, params := ps, assign, body, defers := (θ0 dfr).b })), { target := .fn (.func f) (cap.map (conc (upd θ0 h0.next ⟨w0.heap.size, fn, none⟩))).toArray, args := (first.map (conc (upd θ0 h0.next ⟨w0.heap.size, fn, none⟩))).toArray ++ #[.func (.yield w0.heap.size) #[] #[]] }, (w0.alloc (.loop { state := .ready, pending := none, fn, tmps := a.tmps, params := ps, assign, body, defers := (θ0 dfr).b })), f, ((first ++ [AV.yld h0.next] ++ cap).map (conc (upd θ0 h0.next ⟨w0.heap.size, fn, none⟩))).toArray, (w0.alloc (.loop { state := .ready, pending := none, fn, tmps := a.tmps, params := ps, assign, body, defers := (θ0 dfr).b })), henter, ?_, fun _ _ => trivial, ?_, by simp [FW, Fence.wide], ?_⟩
  · simp only [resolve, rangeCall, hf', conc, Deferred.ofValue]
    simp [Act.eval]
  · have e1 : (first.map (conc (upd θ0 h0.next ⟨w0.heap.size, fn, none⟩))).toArray ++ #[.func (.yield w0.heap.size) #[] #[]] ++ (cap.map (conc (upd θ0 h0.next ⟨w0.heap.size, fn, none⟩))).toArray = ((first ++ [AV.yld h0.next] ++ cap).map (conc (upd θ0 h0.next ⟨w0.heap.size, fn, none⟩))).toArray := by
      simp [conc, hsame]
    simp only [invoke, e1]
    exact hent _ _
  · refine (FW_calls hcall).mono fun ex w' he => ?_
    obtain ⟨θ2, rfl, hbv, hP2⟩ := he
    obtain ⟨hidn, hbase, hok⟩ := hP2.r.obj h0.next _ hm
    obtain ⟨hdn, L, hL, hst, hst', hpend, hps, has, hbo, hkt, hnt, hdef⟩ := hok
    have hbeq : (θ2 h0.next).b = w0.heap.size := by rw [hP2.ext h0.next (by omega), hsame]
    rw [hbeq] at hL hbase
    have hlt : w0.heap.size < w'.heap.size := (Array.getElem?_eq_some_iff.1 hL).1
    have hbf' : r.busy = false := by cases hb : r.busy <;> simp_all
    have hsp3 := AH.put_spec hset
    have hP3 : Post base θ2 h2 w' θ2 h3 (w'.putObj w0.heap.size (.loop { L with state := .exhausted })) := by
      refine Post.put hP2.r hm hset (fun k hk => World.putObj_heap_other (by rw [← hbeq]; exact hk)) (by simp) (putObj_below hbase) ?_
      refine ⟨hdn, { L with state := .exhausted }, by rw [hbeq]; exact World.putObj_heap_same hlt, ?_, fun _ => by simp, hpend, hps, has, hbo, hkt, hnt, hdef⟩
      intro hx
      rcases hx with hx | hx
      · simp at hx
      · rw [hbf'] at hx; cases hx
    have hPall := (hP0.trans hP1).trans (hP2.trans hP3)
    have hA3 : AOK θ2 h3.next { A with ds := mark ++ A.ds } { a with defers := mark.map (concD θ0) ++ a.defers } := by
      have hA2 := hA.ext hPall.ext hPall.next
      refine ⟨hA2.size, hA2.kt, ?_, fun d hd => ?_⟩
      · have : mark.map (concD θ2) = mark.map (concD θ0) := List.map_congr_left fun d hd => concD_ext ((hP1.trans (hP2.trans hP3)).ext) (hbm d hd)
        simp only [List.map_append, this, hA2.ds]
      · rcases List.mem_append.1 hd with hd | hd
        · exact bdD_ext (hP1.trans (hP2.trans hP3)).ext (hP1.trans (hP2.trans hP3)).next (hbm d hd)
        · exact hA2.bds d hd
    refine ⟨r.pending, w'.putObj w0.heap.size (.loop { L with state := .exhausted }), by rw [← hpend]; exact run_endLoop (P := P) hL (hst' hbf'), ?_⟩
    split at hx
    · rename_i hpn
      cases hx
      rw [hpn]
      exact ⟨rfl, θ2, hPall, hA3⟩
    · rename_i c hpn
      rw [hpn]
      have hb := hS _ _ _ _ _ _ _ hx θ2 _ _ hP3.r hA3 (fun l hl => Nat.lt_of_lt_of_le (hrd l hl) hPall.next)
      rw [rdB_ext hPall.ext hrd] at hb
      refine wpIn_mono hb fun ex a' w'' he => ?_
      obtain ⟨hex, θ', hP', hA'⟩ := he
      exact ⟨hex, θ', hPall.trans hP', hA'⟩
theorem wpIn_scope {F : Fence} {n : Nat} {Q : Exit → Act → World → Prop} {a : Act} {w : World} {c : Code} (hq : ∀ l a w, ¬ Q (.goto l) a w) (hx : c.wpIn F n P Q a w) : (Code.scope c).wpIn F n P Q a w := by
  intro b k cs hro hb hr
  have h0 : (lone (b.atR a (.code (.scope c) :: k)) cs w).fenced P F := fenced_calm hb hr rfl
  have s0 : step P (lone (b.atR a (.code (.scope c) :: k)) cs w) = .next (lone (b.atR a (.code c :: .inScope c :: k)) cs w) := step_lone_go (by simp [stepG, stepG.exec, Frame.atR])
  have s1 : ∀ a w, step P (lone (b.atR a (.inScope c :: k)) cs w) = .next (lone (b.atR a k) cs w) := fun a w => step_lone_go (by simp [stepG, stepG.exec, Frame.atR])
  obtain ⟨e, a₁, w₁, hQ, harr⟩ := hx b (.inScope c :: k) cs hro hb hr
  cases e with
  | normal => exact ⟨.normal, a₁, w₁, hQ, .head h0 s0 (StepsIn.trans harr (.one (fenced_calm hb hr rfl) (s1 _ _)))⟩
  | exit id =>
    have hx : exitTo id (.inScope c :: k) = exitTo id k := by simp [exitTo]
    exact ⟨_, a₁, w₁, hQ, fun k' hk => .head h0 s0 (harr.1 k' (by rw [hx]; exact hk)), fun hr' hk => let ⟨k₁, h1, h2⟩ := harr.2 hr' (by rw [hx]; exact hk); ⟨k₁, h1, .head h0 s0 h2⟩⟩
  | goto l => exact (hq _ _ _ hQ).elim
  | ret => exact ⟨_, a₁, w₁, hQ, .of_steps (.one h0 s0) harr⟩
  | panic ch => exact ⟨_, a₁, w₁, hQ, .of_steps (.one h0 s0) harr⟩
  | outgrown => exact ⟨_, a₁, w₁, hQ, .of_steps (.one h0 s0) harr⟩
/-- Statements, a step. -/
theorem stepE_ok (hB : TabOK P tb base) (hS : Sound P base rec) : Sound P base (stepE tb rec) := by
  intro c rd A h e A' h' hx θ a w hR hA hrd
  unfold stepE at hx
  split at hx
  · cases hx; exact wpIn_skip ⟨rfl, θ, Post.refl hR, hA⟩
  · cases hx; exact wpIn_label ⟨rfl, θ, Post.refl hR, hA⟩
  · rename_i id ops draw
    cases draw with
    | true => exact xdrawn_ok hB hS hR hA hrd hx
    | false =>
      simp only [Bool.false_eq_true, if_false] at hx
      have he := norm_of_xops _ hx
      subst he
      refine wpIn_region ?_
      have := xops_ok hB hS ops.toList 0 (by simp) hR hA hrd hx (Q := Behind base θ h w .norm A' h') fun θ' a' w' _ hP hA' => ⟨rfl, θ', hP, hA'⟩
      rw [List.range_eq_range', ← Array.length_toList]
      exact this
  · rename_i x y
    refine wpIn_seq ?_
    split at hx
    · rename_i A1 h1 hr
      refine wpIn_mono (hS _ _ _ _ _ _ _ hr θ a w hR hA hrd) fun ex a' w' he => ?_
      obtain ⟨rfl, θ', hP, hA1⟩ := he
      have hb := hS _ _ _ _ _ _ _ hx θ' a' w' hP.r hA1 (fun l hl => Nat.lt_of_lt_of_le (hrd l hl) hP.next)
      rw [rdB_ext hP.ext hrd] at hb
      refine wpIn_mono hb fun ex a'' w'' he => ?_
      obtain ⟨hex, θ'', hP', hA'⟩ := he
      exact ⟨hex, θ'', hP.trans hP', hA'⟩
    · rename_i e1 A1 h1 hne hr
      cases hx
      refine wpIn_mono (hS _ _ _ _ _ _ _ hr θ a w hR hA hrd) fun ex a' w' he => ?_
      obtain ⟨rfl, θ', hP, hA1⟩ := he
      cases e with
      | norm => first | exact (hne rfl).elim | exact (hne _ _ rfl).elim | exact (hne _ _ hr).elim
      | _ => exact ⟨rfl, θ', hP, hA1⟩
    · cases hx
  · rename_i cnd x y
    split at hx
    · rename_i t ht
      have hc := (hA.ev cnd _ ht).2
      rw [conc_lit] at hc
      refine wpIn_cond hc ?_
      exact hS _ _ _ _ _ _ _ hx θ a w hR hA hrd
    · cases hx
  · rename_i id cc
    split at hx
    · rename_i e1 A1 h1 hr
      cases hx
      refine wpIn_block (wpIn_mono (hS _ _ _ _ _ _ _ hr θ a w hR hA hrd) fun ex a' w' he => ?_)
      obtain ⟨rfl, θ', hP, hA1⟩ := he
      cases e1 with
      | norm => exact ⟨rfl, θ', hP, hA1⟩
      | exit i =>
        show if i = id then _ else _
        by_cases hi : i = id
        · rw [if_pos hi]; exact ⟨by simp [hi, concE], θ', hP, hA1⟩
        · rw [if_neg hi]; exact ⟨by simp [hi, concE], θ', hP, hA1⟩
      | goto l => exact ⟨rfl, θ', hP, hA1⟩
      | ret => exact ⟨rfl, θ', hP, hA1⟩
    · cases hx
  · exact xloop_ok hS hR hA hrd hx
  · cases hx; exact wpIn_exit ⟨rfl, θ, Post.refl hR, hA⟩
  · cases hx; exact wpIn_goto ⟨rfl, θ, Post.refl hR, hA⟩
  · cases hx; exact wpIn_ret ⟨rfl, θ, Post.refl hR, hA⟩
  · exact xrange_ok hB hS hR hA hrd hx
  · split at hx
    · cases hx
    · rename_i hne
      refine wpIn_scope (fun l a' w' hq => ?_) (hS _ _ _ _ _ _ _ hx θ a w hR hA hrd)
      have := hq.1
      cases e with
      | goto l' => first | exact hne _ _ _ hx | exact hne _ _ _ rfl
      | norm => cases this
      | exit i => cases this
      | ret => cases this
  · cases hx
theorem exec_sound (hB : TabOK P tb base) : ∀ n, Sound P base (exec tb n)
  | 0 => fun c rd A h e A' h' hx => by cases hx
  | n + 1 => stepE_ok hB (exec_sound hB n)
end
end Go.Proofs.YtknplcpjmpmblaaDoor.GX
