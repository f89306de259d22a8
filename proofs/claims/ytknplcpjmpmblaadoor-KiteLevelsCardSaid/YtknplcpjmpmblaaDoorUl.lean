/- A run worked out: statements. -/
import Derived.Test.YtknplcpjmpmblaaDoorUk
set_option linter.unusedVariables false
set_option linter.unusedSimpArgs false
namespace Go.Proofs.YtknplcpjmpmblaaDoor.GY
open Go Go.RowKit

section
variable {P : Program} {tb : Tab} {rec : Rec} {θ : Th} {base : Bs} {h : AH} {w : World}
theorem cellsAt_ok {id off size : Nat} {vs : List AV} (hx : cellsAt h id off size = some vs) : ∃ cs el row, h.m.get id = some (.cells cs el row) ∧ off + size ≤ cs.length ∧ vs = (cs.drop off).take size := by
  unfold cellsAt at hx
  split at hx
  · rename_i cs el row hm
    split at hx
    · rename_i hc; cases hx; exact ⟨cs, el, row, hm, hc, rfl⟩
    · cases hx
  · cases hx
/-- What is held of the memory, in a world. -/
def SW (θ : Th) (L : Held) (w : World) : Prop := ∀ id off vs, (id, off, vs) ∈ L → ∀ j v, vs[j]? = some v → w.cell? ⟨(θ id).b, off + j, none⟩ = some (conc θ v)
def SB (θ : Th) (n : Nat) (L : Held) : Prop := ∀ id off vs, (id, off, vs) ∈ L → id < n ∧ bdl θ n vs
theorem SW.of_cells (hR : R base θ h w) {id off size : Nat} {vs : List AV} (hx : cellsAt h id off size = some vs) : id < h.next ∧ bdl θ h.next vs ∧ ∀ j v, vs[j]? = some v → w.cell? ⟨(θ id).b, off + j, none⟩ = some (conc θ v) := by
  obtain ⟨cs, el, row, hm, hc, rfl⟩ := cellsAt_ok hx
  obtain ⟨hidn, _, hok⟩ := hR.obj id _ hm
  refine ⟨hidn, fun y hy => hok.1 y (List.mem_of_mem_drop (List.mem_of_mem_take hy)), fun j v hv => ?_⟩
  rw [List.getElem?_take] at hv
  split at hv
  · rw [List.getElem?_drop] at hv; exact hok.cell hv
  · cases hv
theorem keeps_ok : ∀ {L : Held} {h hs : AH} {θ : Th} {w : World}, All (keeps h hs L) → R base θ h w → SW θ L w
  | [], h, hs, θ, w, hk, hR => fun id off vs hm => by cases hm
  | (id, off, vs) :: L, h, hs, θ, w, hk, hR => by
    obtain ⟨h1, h2⟩ := hk
    intro id' off' vs' hm
    rcases List.mem_cons.1 hm with he | hm
    · cases he
      cases vs with
      | nil => intro j v hv; simp at hv
      | cons v vs => exact (SW.of_cells hR h1.p).2.2
    · exact keeps_ok h2 hR id' off' vs' hm
/-- The rows that are read alone, in a world. -/
def SR (θ : Th) (h : AH) (w : World) : Prop := ∀ id r, h.ro.get id = some r → ∀ k j, k < r.n → j < r.sz → w.cell? ⟨(θ id).b, (θ id).o + (k * r.sz + j), none⟩ = some (.int .i64 (r.f k j))
/-- The rows that are held, in a world. -/
def SO (θ : Th) (h : AH) (L : Held) (w : World) : Prop := ∀ id, rowHeld id L = true → ∀ sz n f, rowAt h id = some (sz, n, f) → ∀ k j, k < n → j < sz → w.cell? ⟨(θ id).b, (θ id).o + (k * sz + j), none⟩ = some (.int .i64 (f k j))
def SS (θ : Th) (h : AH) (L : Held) (w : World) : Prop := SW θ L w ∧ SR θ h w ∧ SO θ h L w
theorem rowHeld_lt {θ : Th} {n : Nat} {id : Nat} : ∀ {L : Held}, SB θ n L → rowHeld id L = true → id < n
  | [], hb, h => by cases h
  | (id', off, vs) :: L, hb, h => by
    have hb2 : SB θ n L := fun i o v hm => hb i o v (List.mem_cons_of_mem _ hm)
    cases vs with
    | nil =>
      simp only [rowHeld, Bool.or_eq_true] at h
      rcases h with h | h
      · rw [Nat.eq_of_beq_eq_true h]; exact (hb id' off [] (by simp)).1
      · exact rowHeld_lt hb2 h
    | cons v vs => exact rowHeld_lt hb2 h
theorem SO.of (hR : R base θ h w) (L : Held) : SO θ h L w := fun id _ sz n f hr => (rowAt_ok hR hr).2.1
theorem keepsO_ok {θs θ : Th} {hs : AH} (hE : Ext θs θ hs.next) {L' : Held} (hb : SB θs hs.next L') : ∀ {L : Held}, (∀ id, rowHeld id L = true → id < hs.next) → All (keeps h hs L) → R base θ h w → SO θs hs L w
  | [], hl, hk, hR => fun id hr => by cases hr
  | (id', off, vs) :: L, hl, hk, hR => fun id hr sz n f hrow => by
    obtain ⟨h1, h2⟩ := hk
    have hlt := hl id hr
    have hl2 : ∀ id, rowHeld id L = true → id < hs.next := fun i hi => hl i (by
      cases vs with
      | nil => simp [rowHeld, hi]
      | cons v vs => exact hi)
    cases vs with
    | cons v vs => exact keepsO_ok hE hb hl2 h2 hR id hr sz n f hrow
    | nil =>
      simp only [rowHeld, Bool.or_eq_true] at hr
      rcases hr with hr | hr
      · have := Nat.eq_of_beq_eq_true hr
        subst this
        have h1 := h1.p
        rw [hrow] at h1
        have := (rowAt_ok hR h1).2.1
        rw [hE id hlt] at this
        exact this
      · exact keepsO_ok hE hb hl2 h2 hR id hr sz n f hrow
theorem SR.of (hR : R base θ h w) {θ' : Th} {h' : AH} {w' : World} (hP : Post base θ h w θ' h' w') : SR θ h w' := fun id r hg k j hk hj => by
  obtain ⟨a, b, c⟩ := hR.rom id r hg
  have h0 : 0 < r.n := by omega
  rw [World.cell?_of_block (w := w) (hP.frame _ (b.lt h0) (c h0))]
  exact b.cell k j hk hj
theorem gather_ok (hR : R base θ h w) {ops : Array Oper} : ∀ (steps : List Step) (A : AA), SW θ (gather tb h ops steps A) w ∧ SB θ h.next (gather tb h ops steps A)
  | [], A => ⟨fun id off vs hm => (by cases hm), fun id off vs hm => (by cases hm)⟩
  | .only _ _ :: r, A => gather_ok hR r A
  | .bar _ :: r, A => gather_ok hR r A
  | .fst i _ :: r, A => by
    have nil : SW θ [] w ∧ SB θ h.next [] := ⟨fun id off vs hm => (by cases hm), fun id off vs hm => (by cases hm)⟩
    unfold gather
    split
    · exact gather_ok hR r A
    · split
      · split
        · exact gather_ok hR r _
        · exact nil
      · split
        · split
          · split
            · rename_i rid rsz rk rj _ _ _ _ v hv
              have hrow : ∃ q, rowAt h rid = some q := by
                cases hrr : rowAt h rid with
                | none => rw [hrr] at hv; cases hv
                | some q => exact ⟨q, rfl⟩
              obtain ⟨⟨sz', n', f⟩, hrow⟩ := hrow
              have hid := (rowAt_ok hR hrow).1
              split
              · obtain ⟨c1, c2⟩ := gather_ok hR (ops := ops) r ‹AA›
                split
                · exact ⟨c1, c2⟩
                · refine ⟨fun id off vs hm => ?_, fun id off vs hm => ?_⟩
                  · rcases List.mem_cons.1 hm with he | hm
                    · cases he; intro j v hv; simp at hv
                    · exact c1 id off vs hm
                  · rcases List.mem_cons.1 hm with he | hm
                    · cases he; exact ⟨hid, fun x hx => by cases hx⟩
                    · exact c2 id off vs hm
              · exact nil
            · exact gather_ok hR r A
          · split
            · rename_i vs hvs
              split
              · split
                · obtain ⟨c1, c2⟩ := gather_ok hR (ops := ops) r ‹AA›
                  have hc := SW.of_cells hR hvs
                  refine ⟨fun id off vs hm => ?_, fun id off vs hm => ?_⟩
                  · rcases List.mem_cons.1 hm with he | hm
                    · cases he; exact hc.2.2
                    · exact c1 id off vs hm
                  · rcases List.mem_cons.1 hm with he | hm
                    · cases he; exact ⟨hc.1, hc.2.1⟩
                    · exact c2 id off vs hm
                · exact nil
              · exact nil
            · exact gather_ok hR r A
          · exact gather_ok hR r A
        · exact gather_ok hR r A
theorem SW.ext {θ θ' : Th} {n : Nat} {L : Held} (hb : SB θ n L) (he : Ext θ θ' n) : SW θ' L w ↔ SW θ L w := by
  constructor
  · intro hs id off vs hm j v hv
    have := hs id off vs hm j v hv
    rwa [he id (hb id off vs hm).1, conc_ext he v ((hb id off vs hm).2 v (List.mem_of_getElem? hv))] at this
  · intro hs id off vs hm j v hv
    have := hs id off vs hm j v hv
    rwa [← he id (hb id off vs hm).1, ← conc_ext he v ((hb id off vs hm).2 v (List.mem_of_getElem? hv))] at this
theorem heldIn_ok : ∀ {L : Held} {id off size : Nat} {vs : List AV}, heldIn L id off size = some vs → (id, off, vs) ∈ L ∧ vs.length = size
  | [], id, off, size, vs, hx => by cases hx
  | (id', off', us) :: L, id, off, size, vs, hx => by
    simp only [heldIn] at hx
    split at hx
    · rename_i hc; obtain ⟨rfl, rfl, hl⟩ := hc; cases hx; exact ⟨by simp, hl⟩
    · obtain ⟨a, b⟩ := heldIn_ok hx; exact ⟨List.mem_cons_of_mem _ a, b⟩
/-- What is taken first. -/
theorem xfirst_ok (hB : TabOK P tb base) {L : Held} {hs : AH} {A A1 : AA} {h1 : AH} {ops : Array Oper} {o : Oper} {v : AV} (hx : xfirst tb hs L ops.toList A h o = some (v, A1, h1)) (hdf : ∀ c, o.op ≠ .defer c) :
    (h1.m = h.m ∧ h1.next = h.next ∧ h1.ro = h.ro) ∧ (All h1.sc → All h.sc) ∧ (All h1.sc → ∀ (θ θs : Th) (a : Act) (ws : World), R base θs hs ws → Ext θs θ hs.next → hs.next ≤ h.next → SB θ h.next L → AOK θ h.next A a →
      bd θ h.next v ∧ AOK θ h.next A1 a ∧ YieldsH P ops (fun w => isLoad o.op = true → SW θ L w ∧ SR θs hs w ∧ SO θs hs L w) o (conc θ v) a) := by
  unfold xfirst at hx
  split at hx
  · cases hx
  · rename_i b A2 h2 hw
    obtain ⟨⟨e1, e2, e3⟩, hm, hw'⟩ := wanted_ok hw
    split at hx
    · cases hx
      refine ⟨⟨e1, e2, e3⟩, hm, fun hsc θ θs a ws hRs hes hns hb hA => ?_⟩
      obtain ⟨hwa, hA1⟩ := hw' hsc θ h.next a hA
      exact ⟨by simp [bd], hA1, hdf, .inr ⟨hwa, by simp [conc]⟩⟩
    · split at hx
      · rename_i u hu
        cases hx
        refine ⟨⟨e1, e2, e3⟩, fun hs => hm (also_all.1 hs).2, fun hsc θ θs a ws hRs hes hns hb hA => ?_⟩
        obtain ⟨hsd, hs2⟩ := also_all.1 hsc
        obtain ⟨hwa, hA1⟩ := hw' hs2 θ h.next a hA
        exact ⟨(xpure_ok hB.ty hB.pair hA1.ev hu hsd default).1, hA1, hdf, .inl ⟨hwa, fun w _ => (xpure_ok hB.ty hB.pair hA1.ev hu hsd w).2⟩⟩
      · split at hx <;> try (cases hx; done)
        rename_i u hu
        cases hx
        refine ⟨⟨e1, e2, e3⟩, fun hs => hm (also_all.1 hs).2, fun hsc θ θs a ws hRs hes hns hb hA => ?_⟩
        obtain ⟨hsd, hs2⟩ := also_all.1 hsc
        obtain ⟨hwa, hA1⟩ := hw' hs2 θ h.next a hA
        unfold xheld at hu
        split at hu <;> try (cases hu; done)
        rename_i t ad hop
        split at hu <;> try (cases hu; done)
        · rename_i id off had
          split at hu <;> try (cases hu; done)
          rename_i i hi
          split at hu <;> try (cases hu; done)
          rename_i vs hvs
          obtain ⟨hmm, hl⟩ := heldIn_ok hvs
          obtain ⟨hidn, hbv⟩ := hb _ _ _ hmm
          have hTi := hB.ty t i hi
          have hal := (hA1.ev ad _ had).2
          have key : ∀ w, SW θ L w → bd θ h.next v ∧ (loadVar t ⟨(θ id).b, off, none⟩).run P w = .ok (conc θ v) w := fun w hsw => apart_cells hTi hbv hl (hsw _ _ _ hmm) hu
          refine ⟨?_, hA1, hdf, .inl ⟨hwa, fun w hs0 => ?_⟩⟩
          · unfold apart at hu
            split at hu
            · split at hu
              · cases hu; simp only [bd]; exact fun x hx => hbv x (List.mem_of_mem_drop (List.mem_of_mem_take hx))
              · cases hu
            · exact hbv v (List.mem_of_getElem? hu)
          · have hsw : SW θ L w := (hs0 (by rw [hop]; rfl)).1
            unfold execOp
            simp only [hop]
            refine run_val ?_
            simp only [Instr.loadAt, hal, conc, Instr.sureAddr, Sem.run_bind, Sem.run_pure, Result.andThen, (key w hsw).2]
        · rename_i id sz k j had
          split at hu <;> try (cases hu; done)
          rename_i hro
          have hal := (hA1.ev ad _ had).2
          obtain ⟨sz', n', f, hrow⟩ : ∃ sz' n' f, rowAt hs id = some (sz', n', f) := by
            cases hrr : rowAt hs id with
            | none => rw [hrr] at hu; cases hu
            | some q => exact ⟨q.1, q.2.1, q.2.2, rfl⟩
          have hid := (rowAt_ok hRs hrow).1
          have hth : θ id = θs id := hes id hid
          rw [hrow] at hu
          have hk : k < n' := by
            unfold lside at hsd
            simp only [hop, lside2, had, hrow] at hsd
            exact hsd.1.p
          have key : ∀ w, SR θs hs w ∧ SO θs hs L w → bd θ h.next v ∧ (loadVar t ⟨(θ id).b, (θ id).o + (k * sz + j), none⟩).run P w = .ok (conc θ v) w := fun w hsr => by
            have hx := hu
            unfold xLoadR at hx
            split at hx <;> try (cases hx; done)
            rename_i p q c heq
            cases heq
            split at hx <;> try (cases hx; done)
            rename_i hsz
            obtain rfl := Nat.eq_of_beq_eq_true hsz
            split at hx <;> try (cases hx; done)
            rename_i i hi
            split at hx <;> try (cases hx; done)
            rename_i hle
            have hle := Nat.le_of_ble_eq_true hle
            refine apart_cells (hB.ty t i hi) (icells_bd _ _) (icells_len _ _) (fun q u hu => ?_) hx
            obtain ⟨hq, rfl⟩ := icells_get _ _ _ _ hu
            have hcell : w.cell? ⟨(θs id).b, (θs id).o + (k * sz + (j + q)), none⟩ = some (.int .i64 (f k (j + q))) := by
              simp only [Bool.or_eq_true] at hro
              rcases hro with hro | hro
              · have hr2 := hrow
                unfold isRO at hro
                unfold rowAt at hr2
                split at hro <;> try (cases hro; done)
                rename_i hmn
                rw [hmn] at hr2
                simp only at hr2
                cases hr : hs.ro.get id with
                | none => rw [hr] at hr2; cases hr2
                | some r =>
                  rw [hr] at hr2
                  cases hr2
                  exact hsr.1 id r hr k (j + q) hk (by omega)
              · exact hsr.2 id hro _ _ _ hrow k (j + q) hk (by omega)
            rw [conc_lit, Nat.add_assoc, Nat.add_assoc, hth]
            exact hcell
          have hb0 : bd θ h.next v := by
            have hx := hu
            unfold xLoadR at hx
            split at hx <;> try (cases hx; done)
            rename_i p q c heq
            cases heq
            split at hx <;> try (cases hx; done)
            split at hx <;> try (cases hx; done)
            split at hx <;> try (cases hx; done)
            unfold apart at hx
            split at hx
            · split at hx
              · cases hx; simp only [bd]; exact fun x hx => icells_bd _ _ x (List.mem_of_mem_drop (List.mem_of_mem_take hx))
              · cases hx
            · exact icells_bd _ _ v (List.mem_of_getElem? hx)
          refine ⟨hb0, hA1, hdf, .inl ⟨hwa, fun w hs0 => ?_⟩⟩
          have hsr : SR θs hs w ∧ SO θs hs L w := (hs0 (by rw [hop]; rfl)).2
          unfold execOp
          simp only [hop]
          refine run_val ?_
          simp only [Instr.loadAt, hal, conc, Instr.sureAddr, Sem.run_bind, Sem.run_pure, Result.andThen, (key w hsr).2]
theorem pickFirst_ok {ops : Array Oper} {listed : Array Bool} : ∀ {l : List Nat} {i : Nat}, pickFirst ops listed l = some i → i ∈ l ∧ ∃ o, ops[i]? = some o ∧ firstKind o.op = true ∧ Region.free .any ops listed i = true
  | [], i, hx => by cases hx
  | k :: ks, i, hx => by
    simp only [pickFirst] at hx
    split at hx
    · rename_i o ho
      split at hx
      · rename_i hc
        cases hx
        simp only [Bool.and_eq_true] at hc
        exact ⟨by simp, o, ho, hc.1, hc.2⟩
      · obtain ⟨a, b⟩ := pickFirst_ok hx; exact ⟨List.mem_cons_of_mem _ a, b⟩
    · obtain ⟨a, b⟩ := pickFirst_ok hx; exact ⟨List.mem_cons_of_mem _ a, b⟩
theorem firstKind_defer {o : Oper} (hk : firstKind o.op = true) (c : Call) : o.op ≠ .defer c := fun hc => by rw [hc] at hk; cases hk
/-- How many operations have not come up. -/
def U (ops : Array Oper) (LC : Array Bool) : Nat := (List.range ops.size).countP fun i => !LC.getD i true
theorem countP_le' {p q : Nat → Bool} (hpq : ∀ x, q x = true → p x = true) : ∀ l : List Nat, l.countP q ≤ l.countP p
  | [] => Nat.le_refl _
  | x :: xs => by
    have := countP_le' hpq xs
    rw [List.countP_cons, List.countP_cons]
    cases hq : q x with
    | false => simp; omega
    | true => simp [hpq x hq]; omega
theorem countP_lt' {p q : Nat → Bool} (hpq : ∀ x, q x = true → p x = true) {i : Nat} (hp : p i = true) (hq : q i = false) : ∀ l : List Nat, i ∈ l → l.countP q < l.countP p
  | [], h => by cases h
  | x :: xs, h => by
    rw [List.countP_cons, List.countP_cons]
    by_cases hx : i = x
    · subst hx
      have := countP_le' hpq xs
      simp [hp, hq]; omega
    · have := countP_lt' hpq hp hq xs ((List.mem_cons.1 h).resolve_left hx)
      cases hqx : q x with
      | false => simp; omega
      | true => simp [hpq x hqx]; omega
theorem U_set {ops : Array Oper} {LC : Array Bool} {i : Nat} (hi : i < ops.size) (hu : LC.getD i true = false) : U ops (LC.setIfInBounds i true) < U ops LC := by
  refine countP_lt' (fun x hx => ?_) (i := i) (by simpa using hu) ?_ _ (List.mem_range.2 hi)
  · by_cases hxi : i = x
    · subst hxi; simpa using hu
    · rw [getD_set_ne true hxi] at hx; exact hx
  · have hlt : i < LC.size := by
      rcases Nat.lt_or_ge i LC.size with h | h
      · exact h
      · simp [Array.getElem?_eq_none h] at hu
    simp [hlt]
/-- What has come up in the world: what has come up in the run, and blocks besides. -/
structure Rel (ops : Array Oper) (L : Array Bool) (D : List Nat) (LC : Array Bool) : Prop where
  sl : L.size = ops.size
  sc : LC.size = ops.size
  get : ∀ j, j < ops.size → (LC.getD j false = true ↔ L.getD j false = true ∨ j ∈ D)
theorem getD_tf {L : Array Bool} {j : Nat} (hj : j < L.size) : L.getD j true = L.getD j false := by simp [hj]
theorem getD_lt {L : Array Bool} {j : Nat} (h : L.getD j true = false) : j < L.size := by
  rcases Nat.lt_or_ge j L.size with h' | h'
  · exact h'
  · simp [Array.getElem?_eq_none h'] at h
theorem getD_lt' {L : Array Bool} {j : Nat} (h : L.getD j false = true) : j < L.size := by
  rcases Nat.lt_or_ge j L.size with h' | h'
  · exact h'
  · simp [Array.getElem?_eq_none h'] at h
section
variable {ops : Array Oper} {L LC : Array Bool} {D : List Nat}
theorem Rel.set (hr : Rel ops L D LC) (i : Nat) : Rel ops (L.setIfInBounds i true) D (LC.setIfInBounds i true) := by
  refine ⟨by simp [hr.sl], by simp [hr.sc], fun j hj => ?_⟩
  by_cases hij : i = j
  · subst hij; simp [hr.sl, hr.sc, hj]
  · rw [getD_set_ne false hij, getD_set_ne false hij]; exact hr.get j hj
theorem Rel.more (hr : Rel ops L D LC) (i : Nat) : Rel ops L (i :: D) (LC.setIfInBounds i true) := by
  refine ⟨hr.sl, by simp [hr.sc], fun j hj => ?_⟩
  by_cases hij : i = j
  · subst hij; simp [hr.sc, hj]
  · rw [getD_set_ne false hij, hr.get j hj]
    simp [Ne.symm hij]
theorem mark_spec : ∀ {fl : List Nat} {L : Array Bool}, (mark L fl).size = L.size ∧ ∀ j, j < L.size → ((mark L fl).getD j false = true ↔ L.getD j false = true ∨ j ∈ fl)
  | [], L => ⟨rfl, fun j hj => by simp [mark]⟩
  | i :: is, L => by
    obtain ⟨a, b⟩ := mark_spec (fl := is) (L := L.setIfInBounds i true)
    refine ⟨by simp only [mark, a]; simp, fun j hj => ?_⟩
    simp only [mark]
    rw [b j (by simpa using hj)]
    by_cases hij : i = j
    · subst hij; simp [hj]
    · rw [getD_set_ne false hij]; simp [Ne.symm hij]
theorem Rel.all (hr : Rel ops L D LC) {fl : List Nat} (h1 : ∀ i ∈ D, i ∈ fl) (h2 : ∀ i ∈ fl, i ∈ D) : Rel ops (mark L fl) [] LC := by
  obtain ⟨a, b⟩ := mark_spec (fl := fl) (L := L)
  refine ⟨by rw [a]; exact hr.sl, hr.sc, fun j hj => ?_⟩
  rw [hr.get j hj, b j (by rw [hr.sl]; exact hj)]
  simp only [List.not_mem_nil, or_false]
  exact ⟨fun h => h.imp id (h1 j), fun h => h.imp id (h2 j)⟩
theorem Rel.ready1 (hr : Rel ops L D LC) {i : Nat} (hi : i ∈ Region.ready .any ops L) (hD : i ∉ D) : i ∈ Region.ready .any ops LC := by
  obtain ⟨h0, o, ho, hall⟩ := mem_ready.1 hi
  have hil : i < ops.size := by have := getD_lt h0; rw [hr.sl] at this; exact this
  refine mem_ready.2 ⟨?_, o, ho, fun e he hb => ?_⟩
  · rw [getD_tf (by rw [hr.sc]; exact hil)]
    cases hg : LC.getD i false with
    | false => rfl
    | true =>
      rcases (hr.get i hil).1 hg with h | h
      · rw [getD_tf (by rw [hr.sl]; exact hil)] at h0; rw [h] at h0; cases h0
      · exact absurd h hD
  · have hl := hall e he hb
    have hel : e.on < ops.size := by have := getD_lt' hl; rw [hr.sl] at this; exact this
    exact (hr.get e.on hel).2 (.inl hl)
theorem Rel.notD (hr : Rel ops L D LC) {j : Nat} (hj : j ∈ Region.ready .any ops LC) : j < ops.size ∧ j ∉ D ∧ L.getD j true = false := by
  obtain ⟨h0, _⟩ := mem_ready.1 hj
  have hjl : j < ops.size := by have := getD_lt h0; rw [hr.sc] at this; exact this
  rw [getD_tf (by rw [hr.sc]; exact hjl)] at h0
  refine ⟨hjl, fun hD => ?_, ?_⟩
  · rw [(hr.get j hjl).2 (.inr hD)] at h0; cases h0
  · rw [getD_tf (by rw [hr.sl]; exact hjl)]
    cases hg : L.getD j false with
    | false => rfl
    | true => rw [(hr.get j hjl).2 (.inl hg)] at h0; cases h0
theorem Rel.ready2 (hr : Rel ops L D LC) {fl : List Nat} (h1 : ∀ i ∈ D, i ∈ fl) {j : Nat} (hj : j ∈ Region.ready .any ops LC) (hjf : j ∉ fl) : j ∈ Region.ready .any ops (mark L fl) := by
  obtain ⟨hjl, _, hju⟩ := hr.notD hj
  obtain ⟨_, o, ho, hall⟩ := mem_ready.1 hj
  obtain ⟨a, b⟩ := mark_spec (fl := fl) (L := L)
  refine mem_ready.2 ⟨?_, o, ho, fun e he hb => ?_⟩
  · rw [getD_tf (by rw [a, hr.sl]; exact hjl)]
    rw [getD_tf (by rw [hr.sl]; exact hjl)] at hju
    cases hg : (mark L fl).getD j false with
    | false => rfl
    | true =>
      rcases (b j (by rw [hr.sl]; exact hjl)).1 hg with h | h
      · rw [h] at hju; cases hju
      · exact absurd h hjf
  · have hl := hall e he hb
    have hel : e.on < ops.size := by have := getD_lt' hl; rw [hr.sc] at this; exact this
    exact (b e.on (by rw [hr.sl]; exact hel)).2 (((hr.get e.on hel).1 hl).imp id (h1 _))
theorem Rel.ready0 (hr : Rel ops L [] LC) {j : Nat} (hj : j ∈ Region.ready .any ops LC) : j ∈ Region.ready .any ops L := by
  have := hr.ready2 (fl := []) (fun i hi => by cases hi) hj (by simp)
  exact this
end
theorem eval_tmps {a b : Act} (h : a.tmps = b.tmps) : a.eval = b.eval := by
  funext x; cases x <;> simp [Act.eval, h]
/-- The blocks that have been made in the world, and not yet in the run. -/
structure XD (P : Program) (ops : Array Oper) (base : Bs) (ws : World) (θ : Th) (h : AH) (a : Act) (w : World) (D : List Nat) (β : Nat → Nat) : Prop where
  each : ∀ i ∈ D, ∃ (o : Oper) (obj : Obj) (f : Nat → Value), ops[i]? = some o ∧ (∀ w', (execOp a.eval o).run P w' = .ok (.value (f w'.heap.size)) (w'.alloc obj)) ∧ (∀ d, o.dst = some d → a.tmps[d]? = some (f (β i))) ∧
    w.heap[β i]? = some obj ∧ base ≤ β i ∧ ws.heap.size ≤ β i ∧ NU θ h (β i)
  apart : ∀ i ∈ D, ∀ j ∈ D, i ≠ j → β i ≠ β j
section
variable {ops : Array Oper} {ws : World} {a a' : Act} {w' : World} {D : List Nat} {β : Nat → Nat} {θ' : Th} {h' : AH}
theorem XD.nil : XD P ops base ws θ h a w [] β := ⟨(fun i hi => by cases hi), (fun i hi => by cases hi)⟩
theorem XD.act (hX : XD P ops base ws θ h a w D β) (hsel : Region.noSelect ops = true) {dst : Option Tmp} (ht : ∃ v, a'.tmps = (a.put dst v).tmps) (hap : ∀ i ∈ D, ∀ o, ops[i]? = some o → (∀ d, dst = some d → d ∉ o.looksAt ops) ∧ ∀ d, dst = some d → o.dst ≠ some d) : XD P ops base ws θ h a' w D β := by
  obtain ⟨v, ht⟩ := ht
  refine ⟨fun i hi => ?_, hX.apart⟩
  obtain ⟨o, obj, f, ho, hrun, hd, rest⟩ := hX.each i hi
  obtain ⟨h1, h2⟩ := hap i hi o ho
  refine ⟨o, obj, f, ho, fun w' => ?_, fun d hdd => ?_, rest⟩
  · rw [eval_tmps ht, execOp_put o (fun cs b => Region.noSelect_spec hsel i o cs b ho) a dst v h1]; exact hrun w'
  · rw [ht]
    cases dst with
    | none => exact hd d hdd
    | some e =>
      have : e ≠ d := fun he => h2 e rfl (by rw [he]; exact hdd)
      simp only [Act.put, Array.getElem?_setIfInBounds_ne this]
      exact hd d hdd
theorem XD.post (hX : XD P ops base ws θ h a w D β) (hP : Post base θ h w θ' h' w') : XD P ops base ws θ' h' a w' D β := by
  refine ⟨fun i hi => ?_, hX.apart⟩
  obtain ⟨o, obj, f, ho, hrun, hd, hw, hb, hs, hu⟩ := hX.each i hi
  have hlt : β i < w.heap.size := (Array.getElem?_eq_some_iff.1 hw).1
  exact ⟨o, obj, f, ho, hrun, hd, by rw [hP.frame _ hlt hu.1]; exact hw, hb, hs, hu.post hP hlt⟩
theorem XD.same (hX : XD P ops base ws θ h a w D β) (e1 : h'.m = h.m) (e3 : h'.ro = h.ro) : XD P ops base ws θ h' a w D β := by
  refine ⟨fun i hi => ?_, hX.apart⟩
  obtain ⟨o, obj, f, ho, hrun, hd, hw, hb, hs, hu⟩ := hX.each i hi
  exact ⟨o, obj, f, ho, hrun, hd, hw, hb, hs, by unfold NU at hu ⊢; rw [e1, e3]; exact hu⟩
end
theorem xmem_fok (hB : TabOK P tb base) {ev : Operand → Option AV} {ρ : Operand → Value} (hE : EvOK θ h.next ev ρ) {o : Oper} (ha : isAlloc o.op = true) : FOK P base θ h (execOp ρ o) (xmem tb h ev o) := by
  unfold isAlloc at ha
  split at ha <;> try (cases ha; done)
  all_goals (rename_i ho; unfold xmem execOp; simp only [ho])
  · exact xAlloc_ok hB.ty
  · exact xBox_ok hE
  · exact xBuildSlice_ok hB.ty hE
  · exact xMakeMap_ok
theorem allocAt_ok {ops : Array Oper} {i : Nat} (hx : allocAt ops i = true) : ∃ o, ops[i]? = some o ∧ isAlloc o.op = true ∧ o.guard = none ∧ ∀ d, o.dst = some d → d ∉ o.looksAt ops := by
  unfold allocAt at hx
  split at hx
  · rename_i o ho
    simp only [Bool.and_eq_true, Option.isNone_iff_eq_none] at hx
    refine ⟨o, ho, hx.1.1, hx.1.2, fun d hd => ?_⟩
    have := hx.2
    rw [hd] at this
    simpa using this
  · cases hx
theorem isAlloc_defer {o : Oper} (hk : isAlloc o.op = true) (c : Call) : o.op ≠ .defer c := fun hc => by rw [hc] at hk; cases hk
theorem floatsOK_ok {A : AA} {ops : Array Oper} : ∀ {fl : List Nat}, floatsOK tb h A ops fl = true → ∀ j ∈ fl, ∃ o v h1, ops[j]? = some o ∧ (∀ d, o.dst = some d → A.t.get d = none ∧ d < A.n) ∧ xmem tb h A.ev o = .val v h1
  | [], _, j, hj => by cases hj
  | i :: is, hx, j, hj => by
    simp only [floatsOK, Bool.and_eq_true] at hx
    obtain ⟨h1, h2⟩ := hx
    rcases List.mem_cons.1 hj with rfl | hj
    · split at h1
      · rename_i o ho
        simp only [Bool.and_eq_true] at h1
        obtain ⟨hu, hv⟩ := h1
        unfold isVal at hv
        split at hv
        · rename_i v h1 hm
          refine ⟨o, v, h1, ho, fun d hd => ?_, hm⟩
          rw [hd] at hu
          simp only [unset, Bool.and_eq_true, Option.isNone_iff_eq_none] at hu
          exact ⟨hu.1, Nat.le_of_ble_eq_true hu.2⟩
        · cases hv
      · cases h1
    · exact floatsOK_ok h2 j hj
theorem pairs_ok {ops : Array Oper} {fl : List Nat} (hx : pairs ops fl = true) {i j : Nat} (hi : i ∈ fl) (hj : j ∈ fl) (hne : i ≠ j) {oi oj : Oper} (hoi : ops[i]? = some oi) (hoj : ops[j]? = some oj) : oi.apart ops oj = true := by
  simp only [pairs, List.all_eq_true] at hx
  have := hx i hi j hj
  simp only [Bool.or_eq_true, beq_iff_eq, hne, false_or] at this
  simpa [apartAt, hoi, hoj] using this
/-- A block is made in the world, ahead of the run. -/
theorem float_ok (hB : TabOK P tb base) {ops : Array Oper} (hsel : Region.noSelect ops = true) {ws : World} {A : AA} {a : Act} {D : List Nat} {β : Nat → Nat} {fl : List Nat} (hR : R base θ h w) (hA : AOK θ h.next A a) (hX : XD P ops base ws θ h a w D β)
    (hsz : ws.heap.size ≤ w.heap.size) (hfl : ∀ i ∈ fl, allocAt ops i = true) (hDf : ∀ i ∈ D, i ∈ fl) (hpr : pairs ops fl = true) (hok : floatsOK tb h A ops fl = true) {j : Nat} (hj : j ∈ fl) (hjD : j ∉ D) {Q : Exit → Act → World → Prop} {ro : Option Nat} {K : Act → World → Prop}
    (hK : ∀ a' w' β', AOK θ h.next A a' → Below w.heap.size w w' → XD P ops base ws θ h a' w' (j :: D) β' → K a' w') : wpOpIn (FW ro) 0 P ops Q j K a w := by
  obtain ⟨o, v, h1, ho, hun, hm⟩ := floatsOK_ok hok j hj
  obtain ⟨o', ho', hal, hg, hself⟩ := allocAt_ok (hfl j hj)
  rw [ho] at ho'; cases ho'
  have hF := xmem_fok (P := P) (base := base) hB hA.ev hal (h := h) (θ := θ)
  rw [hm] at hF
  obtain ⟨_, _, obj, c, f, hrun, _⟩ := hF
  have hbel : Below w.heap.size w (w.alloc obj) := (Below.refl _ w).alloc (Nat.le_refl _) obj
  unfold wpOpIn
  simp only [ho]
  have hw : Region.wanted o (yielded ops a.tmps) = true := by simp [Region.wanted, hg]
  rw [hw]
  simp only [if_true]
  refine wpIn_val (isAlloc_defer hal) (hrun w) (hK _ _ (fun i => if i = j then w.heap.size else β i) ?_ hbel ?_)
  · refine ⟨?_, fun t u hu => ?_, ?_, hA.bds⟩
    · cases hd : o.dst <;> simp [Act.put, hA.size]
    · obtain ⟨p, q⟩ := hA.kt t u hu
      refine ⟨p, ?_⟩
      cases hd : o.dst with
      | none => exact q
      | some d =>
        have : d ≠ t := fun e => by rw [← e, (hun d hd).1] at hu; cases hu
        simp only [Act.put, Array.getElem?_setIfInBounds_ne this]; exact q
    · cases hd : o.dst <;> exact hA.ds
  · have hP : Post base θ h w θ h (w.alloc obj) := Post.more hR hbel
    have hap : ∀ i ∈ D, ∀ oi, ops[i]? = some oi → (∀ d, o.dst = some d → d ∉ oi.looksAt ops) ∧ ∀ d, o.dst = some d → oi.dst ≠ some d := fun i hi oi hoi => by
      have := Oper.apart_spec (pairs_ok hpr hj (hDf i hi) (fun e => hjD (e ▸ hi)) ho hoi)
      exact ⟨this.1, this.2.1⟩
    have hX' := (hX.act hsel ⟨f w.heap.size, rfl⟩ hap).post hP
    refine ⟨fun i hi => ?_, fun i hi i' hi' hne => ?_⟩
    · rcases List.mem_cons.1 hi with rfl | hi
      · simp only [if_true]
        refine ⟨o, obj, f, ho, fun w' => ?_, fun d hd => ?_, heap_alloc_new w obj, hR.size, hsz, ⟨fun id o' hg => Nat.ne_of_lt (hR.obj id o' hg).2.2.lt, fun id r hg h0 => Nat.ne_of_lt ((hR.rom id r hg).2.1.lt h0)⟩⟩
        · rw [execOp_put o (fun cs b => Region.noSelect_spec hsel i o cs b ho) a o.dst _ hself]
          exact hrun w'
        · simp only [hd, Act.put]; simp [hA.size, (hun d hd).2]
      · have : i ≠ j := fun e => hjD (e ▸ hi)
        simp only [this, if_false]
        exact hX'.each i hi
    · by_cases h1 : i = j <;> by_cases h2 : i' = j
      · exact absurd (h1.trans h2.symm) hne
      · subst h1
        simp only [if_true, h2, if_false]
        have hi'' := (List.mem_cons.1 hi').resolve_left h2
        obtain ⟨_, _, _, _, _, _, hw', _⟩ := hX.each i' hi''
        have := (Array.getElem?_eq_some_iff.1 hw').1
        omega
      · subst h2
        simp only [if_true, h1, if_false]
        have hi'' := (List.mem_cons.1 hi).resolve_left h1
        obtain ⟨_, _, _, _, _, _, hw', _⟩ := hX.each i hi''
        have := (Array.getElem?_eq_some_iff.1 hw').1
        omega
      · simp only [h1, h2, if_false]
        exact hX.apart i ((List.mem_cons.1 hi).resolve_left h1) i' ((List.mem_cons.1 hi').resolve_left h2) hne
/-- The blocks that the world has are taken over. -/
theorem xfloats_ok (hB : TabOK P tb base) {ops : Array Oper} {ws : World} {θs : Th} {hs : AH} : ∀ {fl : List Nat} {θ : Th} {h h' : AH} {A A' : AA} {a : Act} {β : Nat → Nat}, xfloats tb ops fl A h = some (A', h') → Post base θs hs ws θ h w → AOK θ h.next A a → (∀ i ∈ fl, allocAt ops i = true) → fl.Nodup →
    XD P ops base ws θ h a w fl β → ∃ θ', Post base θs hs ws θ' h' w ∧ AOK θ' h'.next A' a ∧ Ext θ θ' h.next ∧ h.next ≤ h'.next ∧
      h'.ro = h.ro ∧ ∀ id o, h'.m.get id = some o → (∃ o', h.m.get id = some o' ∧ id < h.next) ∨ ∃ i ∈ fl, (θ' id).b = β i
  | [], θ, h, h', A, A', a, β, hx, hP, hA, hal, hnd, hX => by cases hx; exact ⟨θ, hP, hA, Ext.refl _ _, Nat.le_refl _, rfl, fun id o hg => .inl ⟨o, hg, (hP.r.obj id o hg).1⟩⟩
  | j :: js, θ, h, h', A, A', a, β, hx, hP, hA, hal, hnd, hX => by
    simp only [xfloats] at hx
    split at hx <;> try (cases hx; done)
    rename_i o ho
    split at hx <;> try (cases hx; done)
    rename_i v h1 hm
    split at hx <;> try (cases hx; done)
    rename_i A1 hput
    obtain ⟨o', ho', hall, hg, hself⟩ := allocAt_ok (hal j (by simp))
    rw [ho] at ho'; cases ho'
    have hF := xmem_fok (P := P) (base := base) hB hA.ev hall (h := h) (θ := θ)
    rw [hm] at hF
    obtain ⟨⟨hn1, hro1, hsc1⟩, hm1, obj, c, f, hrun, hall1⟩ := hF
    obtain ⟨o2, obj2, f2, ho2, hrun2, hd2, hw2, hb2, hs2, hu2⟩ := hX.each j (by simp)
    rw [ho] at ho2; cases ho2
    have hobj : obj2 = obj ∧ ∀ n, f2 n = f n := by
      have key : ∀ w' : World, f2 w'.heap.size = f w'.heap.size ∧ w'.alloc obj2 = w'.alloc obj := fun w' => by
        have := (hrun2 w').symm.trans (hrun w')
        simp only [Result.ok.injEq, Next.value.injEq] at this
        exact this
      refine ⟨?_, fun n => ?_⟩
      · have h2 := (key w).2
        have h3 := heap_alloc_new w obj2
        rw [h2, heap_alloc_new w obj] at h3
        exact (Option.some.inj h3).symm
      · have h2 := (key { w with heap := Array.replicate n default }).1
        simpa using h2
    obtain ⟨rfl, hff⟩ := hobj
    obtain ⟨r1, r2, r3⟩ := hall1 w (β j) hP.r hw2 hb2 hu2
    have hE := upd_ext θ h.next ⟨β j, c, some ⟨β j, 0, none⟩⟩
    have hP1 : Post base θs hs ws (upd θ h.next ⟨β j, c, some ⟨β j, 0, none⟩⟩) h1 w := by
      refine ⟨hP.ext.trans hE hP.next, by have := hP.next; omega, r1, hP.below, hP.frame, fun id o hg => ?_, fun id r hg h0 => by
        rw [hro1] at hg
        rw [hE id (hP.r.rom id r hg).1]
        exact hP.own2 id r hg h0⟩
      by_cases hid : id = h.next
      · subst hid; right; rw [upd_same]; exact hs2
      · rw [hm1 id hid] at hg
        rw [hE id (hP.r.obj id o hg).1]
        exact hP.own id o hg
    have hA1 : AOK (upd θ h.next ⟨β j, c, some ⟨β j, 0, none⟩⟩) h1.next A1 a := by
      have h0 := (hA.ext hE (show h.next ≤ h1.next by omega)).put hput r2
      have : a.put o.dst (conc (upd θ h.next ⟨β j, c, some ⟨β j, 0, none⟩⟩) v) = a := by
        cases hd : o.dst with
        | none => rfl
        | some d =>
          have := hd2 d hd
          rw [r3, ← hff]
          simp only [Act.put]
          congr 1
          apply Array.ext_getElem?
          intro t
          by_cases ht : d = t
          · subst ht
            have hlt := (Array.getElem?_eq_some_iff.1 this).1
            rw [this]
            simp [hlt]
          · rw [Array.getElem?_setIfInBounds_ne ht]
      rwa [this] at h0
    have hX1 : XD P ops base ws (upd θ h.next ⟨β j, c, some ⟨β j, 0, none⟩⟩) h1 a w js β := by
      refine ⟨fun i hi => ?_, fun i hi i' hi' => hX.apart i (by simp [hi]) i' (by simp [hi'])⟩
      obtain ⟨o3, obj3, f3, ho3, hr3, hd3, hw3, hb3, hs3, hu3⟩ := hX.each i (by simp [hi])
      refine ⟨o3, obj3, f3, ho3, hr3, hd3, hw3, hb3, hs3, fun id o hg => ?_, fun id r hg h0 => ?_⟩
      · by_cases hid : id = h.next
        · subst hid
          rw [upd_same]
          exact hX.apart j (by simp) i (by simp [hi]) (fun e => by subst e; exact (List.nodup_cons.1 hnd).1 hi)
        · rw [hm1 id hid] at hg
          rw [hE id (hP.r.obj id o hg).1]
          exact hu3.1 id o hg
      · rw [hro1] at hg
        rw [hE id (hP.r.rom id r hg).1]
        exact hu3.2 id r hg h0
    obtain ⟨θ', p1, p2, p3, p4, p6, p5⟩ := xfloats_ok hB hx hP1 hA1 (fun i hi => hal i (by simp [hi])) (List.nodup_cons.1 hnd).2 hX1
    refine ⟨θ', p1, p2, hE.trans p3 (by omega), by omega, p6.trans hro1, fun id o hg => ?_⟩
    rcases p5 id o hg with ⟨o', h', hlt⟩ | ⟨i, hi, e⟩
    · by_cases hid : id = h.next
      · subst hid
        exact .inr ⟨j, by simp, by rw [p3 h.next (by omega), upd_same]⟩
      · rw [hm1 id hid] at h'
        exact .inl ⟨o', h', by omega⟩
    · exact .inr ⟨i, by simp [hi], e⟩
theorem ready_nodup {ops : Array Oper} {L : Array Bool} : (Region.ready .any ops L).Nodup := by
  unfold Region.ready; exact List.Pairwise.filter _ List.nodup_range
theorem firstKind_alloc {op : Op} (h : firstKind op = true) : isAlloc op = false := by
  cases op <;> simp_all [firstKind, isAlloc]
theorem wpHeld_none {ops : Array Oper} {Q : Exit → Act → World → Prop} {S : World → Prop} {ro : Option Nat} {LC : Array Bool} {a : Act} (hr : Region.ready .any ops LC = []) (hq : Q .normal a w) : ∀ k, wpHeld P ops Q S ro k LC a w
  | 0 => ⟨hr, hq⟩
  | _ + 1 => ⟨fun _ => hq, fun i hi => absurd hi (by rw [hr]; simp)⟩
theorem alloc_not {o : Oper} {ev : Operand → Option AV} (hal : isAlloc o.op = true) : xpure tb ev o = none ∧ xload tb h ev o = none ∧ asDefer o.op = none := by
  unfold isAlloc at hal
  split at hal <;> first | (cases hal; done) | (rename_i ho; refine ⟨?_, ?_, ?_⟩ <;> simp only [xpure, xload, asDefer, ho])
theorem xop_alloc (hB : TabOK P tb base) {A A1 : AA} {a : Act} (hA : AOK θ h.next A a) {ops : Array Oper} {e1 : Nat} {o : Oper} (ho : ops[e1]? = some o) (hal : isAlloc o.op = true) (hgd : o.guard = none) {rd : Option Nat} {h1 : AH} (hop : xop tb rec ops.toList o rd A h = some (A1, h1)) :
    xfloats tb ops [e1] A h = some (A1, h1) := by
  obtain ⟨hpn, hln, hdn⟩ := alloc_not (tb := tb) (h := h) (ev := A.ev) hal
  unfold xop at hop
  have haw : awanted ops.toList A h o = some (true, A, h) := by simp [awanted, hgd]
  rw [haw] at hop
  simp only at hop
  unfold xop1 at hop
  rw [hpn, hln, hdn] at hop
  simp only at hop
  have hF := xmem_fok (P := P) (base := base) hB hA.ev hal (h := h) (θ := θ)
  simp only [xfloats, ho]
  generalize xmem tb h A.ev o = X at hop hF ⊢
  cases X with
  | val v h2 =>
    obtain ⟨hp, rfl⟩ := putH_ok hop
    simp only [hp]
  | skip h2 => exact hF.elim
  | enter f args => exact hF.elim
  | round id args => exact hF.elim
  | no => cases hop
theorem xdraw_sc (hB : TabOK P tb base) (hS : Sound P base rec) {rd : Option Nat} {ops : Array Oper} {hs : AH} : ∀ (l : List Step) {L : Held} {A A' : AA} {h h' : AH} {e : AExit}, xdraw tb rec rd ops hs l L A h = .ok e A' h' → (∀ i b r, l = .fst i b :: r → ∀ o, ops[i]? = some o → ∀ c, o.op ≠ .defer c) → (∀ i b, Step.fst i b ∈ l → ∀ o, ops[i]? = some o → ∀ c, o.op ≠ .defer c) → All h'.sc → All h.sc
  | [], L, A, A', h, h', e, hx, _, _, hs => by cases hx; exact hs
  | .fst i only :: l, L, A, A', h, h', e, hx, hd0, hd, hs => by
    simp only [xdraw] at hx
    split at hx
    · cases hx
    · rename_i o ho
      have hd2 : ∀ i b, Step.fst i b ∈ l → ∀ o, ops[i]? = some o → ∀ c, o.op ≠ .defer c := fun i b hm => hd i b (List.mem_cons_of_mem _ hm)
      have hd1 : ∀ i b r, l = .fst i b :: r → ∀ o, ops[i]? = some o → ∀ c, o.op ≠ .defer c := fun i b r he => hd2 i b (by rw [he]; simp)
      split at hx
      · rename_i v A1 h1 hf
        split at hx
        · exact (xfirst_ok hB hf (hd0 i only l rfl o ho)).2.1 (xdraw_sc hB hS l hx hd1 hd2 hs)
        · cases hx
      · split at hx
        · split at hx
          · rename_i A1 h1 hop
            have := xdraw_sc hB hS l hx hd1 hd2 hs
            exact (xop_ok hB hS hop).1 (also_all.1 this).2
          · cases hx
        · cases hx
  | .only i fl :: l, L, A, A', h, h', e, hx, hd0, hd, hs => by
    have hd2 : ∀ i b, Step.fst i b ∈ l → ∀ o, ops[i]? = some o → ∀ c, o.op ≠ .defer c := fun i b hm => hd i b (List.mem_cons_of_mem _ hm)
    have hd1 : ∀ i b r, l = .fst i b :: r → ∀ o, ops[i]? = some o → ∀ c, o.op ≠ .defer c := fun i b r he => hd2 i b (by rw [he]; simp)
    simp only [xdraw] at hx
    split at hx
    · cases hx
    · split at hx
      · split at hx
        · rename_i A1 h1 hop
          split at hx
          · exact (xop_ok hB hS hop).1 (xdraw_sc hB hS l hx hd1 hd2 hs)
          · exact (xop_ok hB hS hop).1 (also_all.1 (xdraw_sc hB hS l hx hd1 hd2 hs)).2
        · cases hx
      · cases hx
  | .bar fl :: l, L, A, A', h, h', e, hx, _, _, hs => by simp only [xdraw] at hx; cases hx
/-- What comes first in a plan puts nothing off. -/
theorem plan_fst {ops : Array Oper} : ∀ (k : Nat) (listed : Array Bool) (steps : List Step), plan ops k listed = some steps → ∀ i b, Step.fst i b ∈ steps → ∀ o, ops[i]? = some o → ∀ c, o.op ≠ .defer c
  | 0, listed, steps, hp, i, b, hm => by
    simp only [plan] at hp
    split at hp
    · cases hp; cases hm
    · cases hp
  | k + 1, listed, steps, hp, i, b, hm => by
    simp only [plan] at hp
    split at hp
    · cases hp; cases hm
    · split at hp
      · rename_i i' hpf
        split at hp <;> try (cases hp; done)
        rename_i r hpl
        cases hp
        rcases List.mem_cons.1 hm with he | hm
        · cases he
          obtain ⟨_, o', ho', hfk, _⟩ := pickFirst_ok hpf
          intro o ho
          rw [ho'] at ho; cases ho
          exact firstKind_defer hfk
        · exact plan_fst k _ r hpl i b hm
      · have key : ∀ e1 fl, planOne ops listed (plan ops k) e1 fl = some steps → ∀ o, ops[i]? = some o → ∀ c, o.op ≠ .defer c := fun e1 fl hp1 => by
          unfold planOne at hp1
          split at hp1 <;> try (cases hp1; done)
          split at hp1 <;> try (cases hp1; done)
          rename_i r hpl
          cases hp1
          rcases List.mem_cons.1 hm with he | hm
          · cases he
          · exact plan_fst k _ r hpl i b hm
        unfold planEnd at hp
        split at hp
        · exact key _ _ hp
        · split at hp <;> try (cases hp; done)
          exact key _ _ hp
        · cases hp
set_option maxHeartbeats 1000000 in
theorem xdraw_ok (hB : TabOK P tb base) (hS : Sound P base rec) {ops : Array Oper} (hsel : Region.noSelect ops = true) {rd : Option Nat} {θs : Th} {hs : AH} {ws : World} {L : Held} (hRs : R base θs hs ws) (hb0 : SB θs hs.next L) (hrd0 : ∀ l, rd = some l → l < hs.next) {Q : Exit → Act → World → Prop} (hQp : ∀ c a w, ¬ Q (.panic c) a w) {A' : AA} {h' : AH} {e : AExit} (hsc : All h'.sc)
    (hQ : ∀ θ' a' w', Post base θs hs ws θ' h' w' → AOK θ' h'.next A' a' → Q .normal a' w') :
    ∀ (k : Nat) (listed : Array Bool) (steps : List Step), plan ops k listed = some steps → ∀ (kc : Nat) {θ : Th} {h : AH} {w : World} {A : AA} {a : Act} {D : List Nat} {LC : Array Bool} {β : Nat → Nat}, ∀ {L' : Held}, (L' = L ∨ L' = [] ∧ ∃ f, fullAt ops f = true ∧ listed.getD f false = true) → Post base θs hs ws θ h w → AOK θ h.next A a →
      G ops (SS θs hs L) LC w → Closed ops LC → xdraw tb rec rd ops hs steps L' A h = .ok e A' h' → Rel ops listed D LC → D.Nodup → (∀ i ∈ D, i ∈ Region.ready .any ops listed ∧ allocAt ops i = true) → XD P ops base ws θ h a w D β → U ops LC ≤ kc →
      wpHeld P ops Q (SS θs hs L) (rdB θs rd) kc LC a w := by
  intro k
  have fin : ∀ (listed : Array Bool) (kc : Nat) {θ : Th} {h : AH} {w : World} {A : AA} {a : Act} {D : List Nat} {LC : Array Bool} {L' : Held}, Region.ready .any ops listed = [] → Post base θs hs ws θ h w → AOK θ h.next A a → xdraw tb rec rd ops hs [] L' A h = .ok e A' h' → Rel ops listed D LC → (∀ i ∈ D, i ∈ Region.ready .any ops listed ∧ allocAt ops i = true) →
      wpHeld P ops Q (SS θs hs L) (rdB θs rd) kc LC a w := by
    intro listed kc θ h w A a D LC L' hr hP hA hx hrel hD
    cases hx
    have : D = [] := by
      cases D with
      | nil => rfl
      | cons i is => have := (hD i (by simp)).1; rw [hr] at this; cases this
    subst this
    refine wpHeld_none ?_ (hQ θ a w hP hA) kc
    cases hrc : Region.ready .any ops LC with
    | nil => rfl
    | cons j js => have := hrel.ready0 (j := j) (by rw [hrc]; simp); rw [hr] at this; cases this
  induction k with
  | zero =>
    intro listed steps hp kc θ h w A a D LC β L' hL hP hA hG hcl hx hrel hnd hD hX hU
    simp only [plan] at hp
    split at hp
    · rename_i hr; cases hp; exact fin listed kc hr hP hA hx hrel hD
    · cases hp
  | succ k ih =>
    intro listed steps hp kc θ h w A a D LC β L' hL hP hA hG hcl hx hrel hnd hD hX hU
    simp only [plan] at hp
    have hrdn : ∀ l, rd = some l → l < h.next := fun l hl => Nat.lt_of_lt_of_le (hrd0 l hl) hP.next
    have hLset : ∀ i, L' = L ∨ L' = [] ∧ ∃ f, fullAt ops f = true ∧ (listed.setIfInBounds i true).getD f false = true := fun i => hL.imp id fun ⟨e, f, hf, hfl⟩ => ⟨e, f, hf, getD_set_true hfl⟩
    have hgk : ∀ {LC : Array Bool} {D : List Nat} {h1 : AH} {θ' : Th} {w' : World} (j : Nat), Rel ops listed D LC → All (keeps h1 hs L') → Post base θs hs ws θ' h1 w' → G ops (SS θs hs L) (LC.setIfInBounds j true) w' := fun {LC D h1 θ' w'} j hrel hke hPP => by
      rcases hL with rfl | ⟨_, f, hf, hfl⟩
      · exact .inr ⟨(SW.ext hb0 hPP.ext).1 (keeps_ok hke hPP.r), SR.of hRs hPP, keepsO_ok hPP.ext hb0 (fun id hi => rowHeld_lt hb0 hi) hke hPP.r⟩
      · have hfs : f < ops.size := by have := getD_lt' hfl; rw [hrel.sl] at this; exact this
        exact .inl ⟨f, hf, getD_set_true ((hrel.get f hfs).2 (.inl hfl))⟩
    have hgf : ∀ {LC : Array Bool} {w w' : World} (j : Nat), Below w.heap.size w w' → G ops (SS θs hs L) LC w → G ops (SS θs hs L) (LC.setIfInBounds j true) w' := fun j hbel hg => hg.imp (fun ⟨f, hf, hfl⟩ => ⟨f, hf, getD_set_true hfl⟩) fun hSS => ⟨fun id off vs hm q u hq => by
      have := hSS.1 id off vs hm q u hq
      rw [hbel.cell (World.block_lt_of_cell? _ _ this)]; exact this, fun id r hg k j hk hj => by
      have := hSS.2.1 id r hg k j hk hj
      rw [hbel.cell (World.block_lt_of_cell? _ _ this)]; exact this, fun id hi sz n f hr k j hk hj => by
      have := hSS.2.2 id hi sz n f hr k j hk hj
      rw [hbel.cell (World.block_lt_of_cell? _ _ this)]; exact this⟩
    split at hp
    · rename_i hr; cases hp; exact fin listed kc hr hP hA hx hrel hD
    · rename_i i0 is hr
      split at hp
      · rename_i i hpf
        split at hp <;> try (cases hp; done)
        rename_i r hpl
        cases hp
        obtain ⟨hmem, o, ho, hfk, hfree⟩ := pickFirst_ok hpf
        have hiD : i ∉ D := fun hi => by
          obtain ⟨o', ho', hal, _⟩ := allocAt_ok (hD i hi).2
          rw [ho] at ho'; cases ho'
          rw [firstKind_alloc hfk] at hal; cases hal
        have hil : i ∈ Region.ready .any ops listed := by rw [hr]; exact hmem
        simp only [xdraw, ho] at hx
        have hpd := plan_fst k _ r hpl
        have hpd0 : ∀ i b r', r = .fst i b :: r' → ∀ o, ops[i]? = some o → ∀ c, o.op ≠ .defer c := fun i b r' he => hpd i b (by rw [he]; simp)
        split at hx
        · rename_i v Aw hw1 hv
          split at hx <;> try (cases hx; done)
          rename_i A1 hput
          have hbL : SB θs hs.next L' := by
            rcases hL with rfl | ⟨rfl, _⟩
            · exact hb0
            · exact fun id off vs hm => by cases hm
          have hbn : SB θ h.next L' := fun id off vs hm => ⟨Nat.lt_of_lt_of_le (hbL id off vs hm).1 hP.next, bdl_ext hP.ext hP.next (hbL id off vs hm).2⟩
          obtain ⟨⟨e1, e2, e3⟩, _, hxf⟩ := xfirst_ok hB hv (firstKind_defer hfk)
          have hscw : All hw1.sc := xdraw_sc hB hS r hx hpd0 hpd hsc
          obtain ⟨hbv, hAw, hy⟩ := hxf hscw θ θs a ws hRs hP.ext hP.next hbn hA
          have hLw : ∀ w, SW θs L w → SW θs L' w := fun w hs => by
            rcases hL with rfl | ⟨rfl, _⟩
            · exact hs
            · exact fun id off vs hm => by cases hm
          have hLo : ∀ w, SO θs hs L w → SO θs hs L' w := fun w hs => by
            rcases hL with rfl | ⟨rfl, _⟩
            · exact hs
            · exact fun id hi => by cases hi
          have hy' : YieldsH P ops (fun w => isLoad o.op = true → SS θs hs L w) o (conc θ v) a := ⟨hy.1, hy.2.imp (fun ⟨p, q⟩ => ⟨p, fun w hs => q w fun hl => ⟨(SW.ext hbL hP.ext).2 (hLw w (hs hl).1), (hs hl).2.1, hLo w (hs hl).2.2⟩⟩) id⟩
          have hSi : isLoad o.op = true ∧ (∀ w, SS θs hs L w → (isLoad o.op = true → SS θs hs L w)) ∨ ∀ w, (isLoad o.op = true → SS θs hs L w) := by
            cases hl : isLoad o.op with
            | true => exact .inl ⟨rfl, fun w hs _ => hs⟩
            | false => exact .inr fun w h => by cases h
          have hir := hrel.ready1 hil hiD
          obtain ⟨hisz, _, hiu⟩ := hrel.notD hir
          have hiu' : LC.getD i true = false := (mem_ready.1 hir).1
          have hUlt := U_set (ops := ops) hisz hiu'
          obtain ⟨kc', rfl⟩ : ∃ kc', kc = kc' + 1 := ⟨kc - 1, by omega⟩
          have hfs := Region.free_spec ho hfree
          refine wpHeld_first ho hfk hsel (fun c a w hq => (hQp c _ w hq).elim) hSi kc' LC a w hcl (fun j oj hj hne hun hno => hfs j oj hj hne ?_ hno) hir hy' hG ?_
          · have hjs : j < ops.size := (Array.getElem?_eq_some_iff.1 hj).1
            rw [getD_tf (by rw [hrel.sc]; exact hjs)] at hun
            rw [getD_tf (by rw [hrel.sl]; exact hjs)]
            cases hg : listed.getD j false with
            | false => rfl
            | true => rw [(hrel.get j hjs).2 (.inl hg)] at hun; cases hun
          · refine ih _ _ hpl kc' (hLset i) (hP.same e1 e2 e3) (by rw [e2]; exact hAw.put hput hbv) (hG.imp (fun ⟨f, hf, hfl⟩ => ⟨f, hf, getD_set_true hfl⟩) id) (hcl.set hir) hx (hrel.set i) hnd (fun d hd => ⟨ready_mono (hD d hd).1 (fun e => hiD (e ▸ hd)), (hD d hd).2⟩) ((hX.act hsel ⟨_, rfl⟩ fun d hd od hod => ?_).same e1 e3) (by omega)
            have hdr := mem_ready.1 (hD d hd).1
            have hap := hfs d od hod (fun e => hiD (e ▸ hd)) hdr.1 (fun e he hb heq => by
              obtain ⟨od', hod', hall⟩ := hdr.2
              rw [hod] at hod'; cases hod'
              have h1 := hall e he hb
              rw [heq] at h1
              rw [getD_tf (by rw [hrel.sl]; exact hisz)] at hiu
              rw [h1] at hiu; cases hiu)
            have := Oper.apart_spec hap
            exact ⟨this.1, this.2.1⟩
        · split at hx
          · rename_i hemp
            split at hx
            · rename_i A1 h1 hop
              · have hsk := xdraw_sc hB hS r hx hpd0 hpd hsc
                obtain ⟨hke, hsk1⟩ := also_all.1 hsk
                have hise : is = [] := by simpa using hemp
                subst hise
                obtain rfl := List.mem_singleton.1 hmem
                have hDn : D = [] := by
                  cases D with
                  | nil => rfl
                  | cons d ds =>
                    have := (hD d (by simp)).1
                    rw [hr] at this
                    exact absurd (by rw [List.mem_singleton.1 this]; simp) hiD
                subst hDn
                have hir := hrel.ready1 hil hiD
                have hUlt := U_set (ops := ops) (hrel.notD hir).1 (mem_ready.1 hir).1
                obtain ⟨kc', rfl⟩ : ∃ kc', kc = kc' + 1 := ⟨kc - 1, by omega⟩
                refine ⟨fun h0 => absurd h0 (fun h0 => by rw [h0] at hir; cases hir), fun j hj => ?_⟩
                have hj' := hrel.ready0 hj
                rw [hr] at hj'
                obtain rfl := List.mem_singleton.1 hj'
                unfold wpOpIn
                simp only [ho]
                have := (xop_ok hB hS hop).2 hsk1 hP.r hA (K := fun a' w' => G ops (SS θs hs L) (LC.setIfInBounds j true) w' ∧ wpHeld P ops Q (SS θs hs L) (rdB θs rd) kc' (LC.setIfInBounds j true) a' w') (Q := Q) fun θ' a' w' hP' hA' _ => by
                  have hPP := (hP.trans hP').also (ps := keeps h1 hs L')
                  have hg' := hgk j hrel hke (hP.trans hP')
                  exact ⟨hg', ih _ _ hpl kc' (hLset j) hPP hA' hg' (hcl.set hj) hx (hrel.set j) List.nodup_nil (fun d hd => by cases hd) (XD.nil (β := β)) (by omega)⟩
                rwa [rdB_ext hP.ext hrd0] at this
            · cases hx
          · cases hx
      · rename_i hpf
        have hfl0 : ∀ {D : List Nat}, (∀ i ∈ D, i ∈ Region.ready .any ops listed ∧ allocAt ops i = true) → ∀ i ∈ D, i ∈ (i0 :: is).filter (allocAt ops) := fun hD i hi => List.mem_filter.2 ⟨by rw [← hr]; exact (hD i hi).1, (hD i hi).2⟩
        have hflm : ∀ i ∈ (i0 :: is).filter (allocAt ops), i ∈ Region.ready .any ops listed ∧ allocAt ops i = true := fun i hi => by
          obtain ⟨a, b⟩ := List.mem_filter.1 hi; exact ⟨by rw [hr]; exact a, b⟩
        -- which one comes, and what floats
        obtain ⟨e1, fl, hp1, he1r, hflr, hDfl⟩ : ∃ e1 fl, planOne ops listed (plan ops k) e1 fl = some steps ∧ e1 ∈ Region.ready .any ops listed ∧ (∀ i ∈ fl, i ∈ Region.ready .any ops listed ∧ allocAt ops i = true) ∧
            (∀ {D : List Nat}, (∀ i ∈ D, i ∈ Region.ready .any ops listed ∧ allocAt ops i = true) → ∀ i ∈ D, i = e1 ∨ i ∈ fl) := by
          generalize hES : (i0 :: is).filter (fun i => !allocAt ops i) = es at hp
          unfold planEnd at hp
          split at hp
          · rename_i e1
            refine ⟨e1, _, hp, ?_, hflm, fun hD i hi => .inr (hfl0 hD i hi)⟩
            have : e1 ∈ (i0 :: is).filter (fun i => !allocAt ops i) := by rw [hES]; simp
            rw [hr]; exact (List.mem_filter.1 this).1
          · split at hp <;> try (cases hp; done)
            rename_i e1 hpo
            have hmem : ∀ {l : List Nat}, pickOne ops listed ((i0 :: is).filter (allocAt ops)) l = some e1 → e1 ∈ l := by
              intro l
              induction l with
              | nil => intro h; cases h
              | cons j js ihj =>
                intro h
                simp only [pickOne] at h
                split at h
                · cases h; simp
                · exact List.mem_cons_of_mem _ (ihj h)
            refine ⟨e1, _, hp, (hflm e1 (hmem hpo)).1, fun i hi => hflm i (List.mem_filter.1 hi).1, fun hD i hi => ?_⟩
            by_cases hie : i = e1
            · exact .inl hie
            · exact .inr (List.mem_filter.2 ⟨hfl0 hD i hi, by simpa using hie⟩)
          · cases hp
        unfold planOne at hp1
        split at hp1 <;> try (cases hp1; done)
        rename_i hcok
        simp only [onlyOK, Bool.and_eq_true, decide_eq_true_eq] at hcok
        obtain ⟨⟨hc1, hc2⟩, hc3⟩ := hcok
        split at hp1 <;> try (cases hp1; done)
        rename_i r hpl
        cases hp1
        simp only [xdraw] at hx
        split at hx <;> try (cases hx; done)
        rename_i o ho
        split at hx <;> try (cases hx; done)
        rename_i hfo
        split at hx <;> try (cases hx; done)
        rename_i A1 h1 hop
        have hpd := plan_fst k _ r hpl
        have hpd0 : ∀ i b r', r = .fst i b :: r' → ∀ o, ops[i]? = some o → ∀ c, o.op ≠ .defer c := fun i b r' he => hpd i b (by rw [he]; simp)
        obtain ⟨L1, h1k, hL1, hx1, hs1, ⟨f1, f2, f3⟩, hg1⟩ : ∃ L1 h1k, (L1 = L ∨ L1 = [] ∧ ∃ f, fullAt ops f = true ∧ (listed.setIfInBounds e1 true).getD f false = true) ∧ xdraw tb rec rd ops hs r L1 A1 h1k = .ok e A' h' ∧ All h1.sc ∧ (h1k.m = h1.m ∧ h1k.next = h1.next ∧ h1k.ro = h1.ro) ∧
            ∀ {LC : Array Bool} {D : List Nat} {θ' : Th} {w' : World}, Rel ops listed D LC → e1 < ops.size → Post base θs hs ws θ' h1 w' → G ops (SS θs hs L) (LC.setIfInBounds e1 true) w' := by
          split at hx
          · rename_i hfull
            refine ⟨[], h1, ?_, hx, xdraw_sc hB hS r hx hpd0 hpd hsc, ⟨rfl, rfl, rfl⟩, fun {LC D θ' w'} hrel hsz hPP => .inl ⟨e1, hfull, by simp [hrel.sc, hsz]⟩⟩
            have hsz : e1 < ops.size := (Array.getElem?_eq_some_iff.1 ho).1
            exact .inr ⟨rfl, e1, hfull, by simp [hrel.sl, hsz]⟩
          · obtain ⟨hke, hsk1⟩ := also_all.1 (xdraw_sc hB hS r hx hpd0 hpd hsc)
            exact ⟨L', _, hLset e1, hx, hsk1, ⟨rfl, rfl, rfl⟩, fun {LC D θ' w'} hrel _ hPP => hgk e1 hrel hke hPP⟩
        have he1s : e1 < ops.size := (Array.getElem?_eq_some_iff.1 ho).1
        -- floats may come up first
        have inner : ∀ (kc : Nat) {w : World} {a : Act} {D : List Nat} {LC : Array Bool} {β : Nat → Nat}, Post base θs hs ws θ h w → AOK θ h.next A a → G ops (SS θs hs L) LC w → Closed ops LC → Rel ops listed D LC → D.Nodup → (∀ i ∈ D, i ∈ Region.ready .any ops listed ∧ allocAt ops i = true) → XD P ops base ws θ h a w D β → U ops LC ≤ kc →
            wpHeld P ops Q (SS θs hs L) (rdB θs rd) kc LC a w := by
          intro kc
          -- it is there: it is taken over
          have there : ∀ {kc : Nat} {w : World} {a : Act} {D : List Nat} {LC : Array Bool} {β : Nat → Nat}, e1 ∈ D → Post base θs hs ws θ h w → AOK θ h.next A a → G ops (SS θs hs L) LC w → Closed ops LC → Rel ops listed D LC → D.Nodup → (∀ i ∈ D, i ∈ Region.ready .any ops listed ∧ allocAt ops i = true) → XD P ops base ws θ h a w D β → U ops LC ≤ kc →
              wpHeld P ops Q (SS θs hs L) (rdB θs rd) kc LC a w := by
            intro kc w a D LC β he1D hP hA hG hcl hrel hnd hD hX hU
            have hal1 := (hD e1 he1D).2
            obtain ⟨o', ho', hal, hgd, hself⟩ := allocAt_ok hal1
            rw [ho] at ho'; cases ho'
            have hxf : xfloats tb ops [e1] A h = some (A1, h1) := xop_alloc (P := P) hB hA ho hal hgd hop
            have hX1 : XD P ops base ws θ h a w [e1] β := ⟨fun i hi => by rw [List.mem_singleton.1 hi]; exact hX.each e1 he1D, fun i hi j hj hne => absurd ((List.mem_singleton.1 hi).trans (List.mem_singleton.1 hj).symm) hne⟩
            obtain ⟨θ', hP', hA', hE', hn', hro', hown'⟩ := xfloats_ok hB hxf hP hA (fun i hi => by rw [List.mem_singleton.1 hi]; exact hal1) (by simp) hX1
            have hsub : ∀ i ∈ without D e1, i ∈ D ∧ i ≠ e1 := fun i hi => by
              obtain ⟨p, q⟩ := List.mem_filter.1 hi; exact ⟨p, by simpa using q⟩
            have hrel' : Rel ops (listed.setIfInBounds e1 true) (without D e1) LC := by
              refine ⟨by simp [hrel.sl], hrel.sc, fun j hj => ?_⟩
              rw [hrel.get j hj]
              by_cases hje : e1 = j
              · subst hje; simp [hrel.sl, hj, he1D]
              · rw [getD_set_ne false hje]
                constructor
                · rintro (h | h)
                  · exact .inl h
                  · exact .inr (List.mem_filter.2 ⟨h, by simpa using Ne.symm hje⟩)
                · rintro (h | h)
                  · exact .inl h
                  · exact .inr (hsub j h).1
            have hX2 : XD P ops base ws θ' h1 a w (without D e1) β := by
              refine ⟨fun i hi => ?_, fun i hi j hj => hX.apart i (hsub i hi).1 j (hsub j hj).1⟩
              obtain ⟨o4, obj4, f4, ho4, hr4, hd4, hw4, hb4, hs4, hu4⟩ := hX.each i (hsub i hi).1
              refine ⟨o4, obj4, f4, ho4, hr4, hd4, hw4, hb4, hs4, fun id o' hg => ?_, fun id r hg h0 => by rw [hro'] at hg; rw [hE' id (hP.r.rom id r hg).1]; exact hu4.2 id r hg h0⟩
              rcases hown' id o' hg with ⟨o'', h'', hlt⟩ | ⟨i', hi', e⟩
              · rw [hE' id hlt]; exact hu4.1 id o'' h''
              · rw [e, List.mem_singleton.1 hi']
                exact hX.apart e1 he1D i (hsub i hi).1 (fun e => (hsub i hi).2 e.symm)
            have hG1 : G ops (SS θs hs L) (LC.setIfInBounds e1 true) w := hG.imp (fun ⟨f, hf, hfl⟩ => ⟨f, hf, getD_set_true hfl⟩) id
            exact ih _ _ hpl kc hL1 (hP'.same f1 f2 f3) (by rw [f2]; exact hA') hG hcl hx1 hrel' (List.Pairwise.filter _ hnd) (fun i hi => ⟨ready_mono (hD i (hsub i hi).1).1 (hsub i hi).2, (hD i (hsub i hi).1).2⟩) (hX2.same f1 f3) hU
          induction kc with
          | zero =>
            intro w a D LC β hP hA hG hcl hrel hnd hD hX hU
            by_cases heD : e1 ∈ D
            · exact there heD hP hA hG hcl hrel hnd hD hX hU
            · have hir := hrel.ready1 he1r heD
              have := U_set (ops := ops) (hrel.notD hir).1 (mem_ready.1 hir).1
              omega
          | succ kc ihk =>
            intro w a D LC β hP hA hG hcl hrel hnd hD hX hU
            by_cases heD : e1 ∈ D
            · exact there heD hP hA hG hcl hrel hnd hD hX hU
            have hDf : ∀ i ∈ D, i ∈ fl := fun i hi => (hDfl hD i hi).resolve_left (fun e => heD (e ▸ hi))
            have hir := hrel.ready1 he1r heD
            refine ⟨fun h0 => absurd h0 (fun h0 => by rw [h0] at hir; cases hir), fun j hj => ?_⟩
            obtain ⟨hjs, hjD, hju⟩ := hrel.notD hj
            have hUlt := U_set (ops := ops) hjs (mem_ready.1 hj).1
            by_cases hjf : j ∈ fl
            · refine float_ok hB hsel hP.r hA hX hP.below.size (fun i hi => (hflr i hi).2) hDf hc3 hfo hjf hjD fun a' w' β' hA' hbel hX' => ?_
              have hP' := hP.trans (Post.more hP.r hbel)
              have hs' := hgf j hbel hG
              exact ⟨hs', ihk hP' hA' hs' (hcl.set hj) (hrel.more j) (List.nodup_cons.2 ⟨hjD, hnd⟩) (fun i hi => by
                rcases List.mem_cons.1 hi with rfl | hi
                · exact hflr i hjf
                · exact hD i hi) hX' (by omega)⟩
            · have hj2 := hrel.ready2 hDf hj hjf
              rw [hc1] at hj2
              obtain rfl := List.mem_singleton.1 hj2
              unfold wpOpIn
              simp only [ho]
              have := (xop_ok hB hS hop).2 hs1 hP.r hA (K := fun a' w' => G ops (SS θs hs L) (LC.setIfInBounds j true) w' ∧ wpHeld P ops Q (SS θs hs L) (rdB θs rd) kc (LC.setIfInBounds j true) a' w') (Q := Q) fun θ' a' w' hP' hA' ht => by
                have hPP := hP.trans hP'
                have hg' := hg1 hrel hjs hPP
                refine ⟨hg', ih _ _ hpl kc hL1 (hPP.same f1 f2 f3) (by rw [f2]; exact hA') hg' (hcl.set hj) hx1 (hrel.set j) hnd (fun d hd => ⟨ready_mono (hD d hd).1 (fun e => heD (e ▸ hd)), (hD d hd).2⟩) (((hX.act hsel ht fun d hd od hod => ?_).post hP').same f1 f3) (by omega)⟩
                have hap := List.all_eq_true.1 hc2 d (hDf d hd)
                simp only [apartAt, ho, hod] at hap
                have := Oper.apart_spec hap
                exact ⟨this.1, this.2.1⟩
              rwa [rdB_ext hP.ext hrd0] at this
        exact inner kc hP hA hG hcl hrel hnd hD hX hU
theorem norm_of_xdraw {rd : Option Nat} {ops : Array Oper} {hs : AH} : ∀ (l : List Step) {L : Held} {A A' : AA} {h h' : AH} {e : AExit}, xdraw tb rec rd ops hs l L A h = .ok e A' h' → e = .norm
  | [], L, A, A', h, h', e, hx => by cases hx; rfl
  | .fst i only :: l, L, A, A', h, h', e, hx => by
    simp only [xdraw] at hx
    split at hx
    · cases hx
    · split at hx
      · split at hx
        · exact norm_of_xdraw l hx
        · cases hx
      · split at hx
        · split at hx
          · exact norm_of_xdraw l hx
          · cases hx
        · cases hx
  | .only i fl :: l, L, A, A', h, h', e, hx => by
    simp only [xdraw] at hx
    split at hx
    · cases hx
    · split at hx
      · split at hx
        · split at hx
          · exact norm_of_xdraw l hx
          · exact norm_of_xdraw l hx
        · cases hx
      · cases hx
  | .bar fl :: l, L, A, A', h, h', e, hx => by simp only [xdraw] at hx; cases hx
theorem erase_ok {n : Nat} : ∀ (l : List Oper) {A : AA} {a : Act}, AOK θ n A a → AOK θ n (erase l A) a
  | [], A, a, hA => hA
  | o :: os, ⟨t, m, ds⟩, a, hA => by
    unfold erase
    split
    · rename_i d t' m' ds' _ _ heq
      cases heq
      split
      · rename_i hd
        refine erase_ok os ⟨hA.size, fun i v hv => ?_, hA.ds, hA.bds⟩
        by_cases hi : i = d
        · subst hi
          rw [T.get_set_same _ 11 _ _ (Nat.lt_of_le_of_lt (Nat.succ_le_succ (Nat.le_of_lt hd)) (by decide))] at hv; cases hv
        · rw [T.get_set_other _ _ _ _ _ hi] at hv; exact hA.kt i v hv
      · exact erase_ok os hA
    · exact erase_ok os hA
theorem xdrawn_ok (hB : TabOK P tb base) (hS : Sound P base rec) {A A' : AA} {rd : Option Nat} {id : Nat} {ops : Array Oper} {e : AExit} {h' : AH} (hx : xdrawn tb rec rd ops A h = .ok e A' h') :
    (All h'.sc → All h.sc) ∧ (All h'.sc → ∀ (θ : Th) (a : Act) (w : World), R base θ h w → AOK θ h.next A a → (∀ l, rd = some l → l < h.next) → (Code.region id ops true).wpIn (FW (rdB θ rd)) 0 P (Behind base θ h w e A' h') a w) := by
  unfold xdrawn at hx
  split at hx <;> try (cases hx; done)
  rename_i steps hpl
  unfold planOf at hpl
  split at hpl <;> try (cases hpl; done)
  rename_i hsel
  have hpd := plan_fst _ _ steps hpl
  refine ⟨xdraw_sc hB hS steps hx (fun i b r' he => hpd i b (by rw [he]; simp)) hpd, fun hsc θ a w hR hA hrd => ?_⟩
  have hne := norm_of_xdraw steps hx
  subst hne
  have hA0 := erase_ok ops.toList hA
  have hbel : Below w.heap.size w { w with drawn := w.drawn + 1 } := ⟨rfl, rfl, rfl, Nat.le_refl _, fun _ _ => rfl⟩
  have hP0 := Post.more hR hbel
  obtain ⟨g1, g2⟩ := gather_ok (tb := tb) hP0.r (ops := ops) steps (erase ops.toList A)
  refine wpIn_region_any hB.mixed (wpAny_of_wpHeld (S := SS θ h (gather tb h ops steps (erase ops.toList A))) _ _ _ _ ?_)
  refine xdraw_ok hB hS hsel hR g2 hrd (fun c a w hq => absurd hq.1 (by simp [concE])) hsc (fun θ' a' w' hP hA' => ⟨rfl, θ', hP, hA'⟩) ops.size _ steps hpl ops.size (D := []) (LC := Array.replicate ops.size false) (β := fun _ => 0) (.inl rfl) hP0 hA0 (.inr ⟨g1, SR.of hR hP0, SO.of hP0.r _⟩) (fun f o ho hf => by simp [(Array.getElem?_eq_some_iff.1 ho).1] at hf) hx ⟨by simp, by simp, fun j hj => by simp⟩ List.nodup_nil (fun d hd => by cases hd) XD.nil ?_
  have := List.countP_le_length (p := fun i => !(Array.replicate ops.size false).getD i true) (l := List.range ops.size)
  simpa [U] using this
theorem least_of {p : Nat → Prop} : ∀ n, p n → ∃ k, p k ∧ ∀ j, p j → k ≤ j := fun n => by
  induction n using Nat.strongRecOn with
  | _ n ih =>
    intro hn
    by_cases hx : ∃ j, j < n ∧ p j
    · obtain ⟨j, hj, hp⟩ := hx; exact ih j hj hp
    · exact ⟨n, hn, fun j hj => by
        by_cases h : n ≤ j
        · exact h
        · exact absurd ⟨j, by omega, hj⟩ hx⟩
/-- A loop, round by round. -/
theorem wpIn_loop_iter {F : Fence} {n : Nat} {Q : Exit → Act → World → Prop} {a : Act} {w : World} {c : Code} (J : Nat → Act → World → Prop) {k : Nat} (h0 : J k a w)
    (round : ∀ k a w, J k a w → c.wpIn F n P (Exit.then (fun a' w' => ∃ k', k' < k ∧ J k' a' w') Q) a w) : (Code.loop c).wpIn F n P Q a w := by
  classical
  have hl : ∀ a w, (∃ k, J k a w) → ∃ k, J k a w ∧ ∀ j, J j a w → k ≤ j := fun a w ⟨k, hk⟩ => least_of k hk
  refine wpIn_loop (fun a w => ∃ k, J k a w) (fun a w => if hx : ∃ k, J k a w then Classical.choose (hl a w hx) else 0) ⟨k, h0⟩ fun a w hI => ?_
  obtain ⟨hmin, _⟩ := Classical.choose_spec (hl a w hI)
  refine wpIn_mono (round _ a w hmin) fun e a' w' he => ?_
  cases e with
  | normal =>
    obtain ⟨k', hk', hJ⟩ := he
    refine ⟨⟨k', hJ⟩, ?_⟩
    have hex : ∃ k, J k a' w' := ⟨k', hJ⟩
    rw [dif_pos hex, dif_pos hI]
    exact Nat.lt_of_le_of_lt ((Classical.choose_spec (hl a' w' hex)).2 k' hJ) hk'
  | _ => exact he
theorem xloop_sc (hS : Sound P base rec) {c : Code} {rd : Option Nat} : ∀ {k : Nat} {h : AH} {A A' : AA} {h' : AH} {e : AExit}, xloop rec c rd k A h = .ok e A' h' → All h'.sc → All h.sc
  | 0, h, A, A', h', e, hx, _ => by cases hx
  | k + 1, h, A, A', h', e, hx, hs => by
    change (match rec c rd A h with | .ok .norm A' h' => xloop rec c rd k A' h' | .ok e A' h' => .ok e A' h' | .no => .no) = .ok e A' h' at hx
    split at hx
    · rename_i A1 h1 hr; exact (hS _ _ _ _ _ _ _ hr).1 (xloop_sc hS hx hs)
    · rename_i e1 A1 h1 hne hr; cases hx; exact (hS _ _ _ _ _ _ _ hr).1 hs
    · cases hx
theorem xloop_ok (hS : Sound P base rec) {c : Code} {rd : Option Nat} : ∀ {k : Nat} {θ : Th} {h : AH} {w : World} {A A' : AA} {a : Act} {h' : AH} {e : AExit}, R base θ h w → AOK θ h.next A a → (∀ l, rd = some l → l < h.next) →
    xloop rec c rd k A h = .ok e A' h' → All h'.sc → (Code.loop c).wpIn (FW (rdB θ rd)) 0 P (Behind base θ h w e A' h') a w := by
  intro k θ0 h0 w0 A0 A' a0 h' e hR0 hA0 hrd0 hx0 hsc
  refine wpIn_loop_iter (fun k a w => ∃ θ h A, Post base θ0 h0 w0 θ h w ∧ AOK θ h.next A a ∧ xloop rec c rd k A h = .ok e A' h') (k := k) ⟨θ0, h0, A0, Post.refl hR0, hA0, hx0⟩ ?_
  rintro k a w ⟨θ, h, A, hP, hA, hx⟩
  cases k with
  | zero => cases hx
  | succ k =>
    change (match rec c rd A h with | .ok .norm A' h' => xloop rec c rd k A' h' | .ok e A' h' => .ok e A' h' | .no => .no) = .ok e A' h' at hx
    have hrd : ∀ l, rd = some l → l < h.next := fun l hl => Nat.lt_of_lt_of_le (hrd0 l hl) hP.next
    split at hx
    · rename_i A1 h1 hr
      have hb := (hS _ _ _ _ _ _ _ hr).2 (xloop_sc hS hx hsc) θ a w hP.r hA hrd
      rw [rdB_ext hP.ext hrd0] at hb
      refine wpIn_mono hb fun ex a' w' he => ?_
      obtain ⟨rfl, θ', hP', hA'⟩ := he
      exact ⟨k, Nat.lt_succ_self _, θ', h1, A1, hP.trans hP', hA', hx⟩
    · rename_i e1 A1 h1 hne hr
      cases hx
      have hb := (hS _ _ _ _ _ _ _ hr).2 hsc θ a w hP.r hA hrd
      rw [rdB_ext hP.ext hrd0] at hb
      refine wpIn_mono hb fun ex a' w' he => ?_
      obtain ⟨rfl, θ', hP', hA'⟩ := he
      cases e with
      | norm => first | exact (hne rfl).elim | exact (hne _ _ rfl).elim | exact (hne _ _ hr).elim
      | _ => exact ⟨rfl, θ', hP.trans hP', hA'⟩
    · cases hx
/-- The range over a function. -/
theorem xrange_ok (hB : TabOK P tb base) (hS : Sound P base rec) {A A' : AA} {rd : Option Nat} {g : Operand} {ps : Array Tmp} {assign body : Code} {e : AExit} {h' : AH}
    (hx : xrange tb rec g ps assign body rd A h = .ok e A' h') : (All h'.sc → All h.sc) ∧ (All h'.sc → ∀ (θ : Th) (a : Act) (w : World), R base θ h w → AOK θ h.next A a → (∀ l, rd = some l → l < h.next) → (Code.rangeFunc g ps assign body).wpIn (FW (rdB θ rd)) 0 P (Behind base θ h w e A' h') a w) := by
  unfold xrange at hx
  split at hx <;> try (cases hx; done)
  rename_i dfr mark h0 hd
  split at hx <;> try (cases hx; done)
  rename_i h1 hadd
  split at hx <;> try (cases hx; done)
  rename_i f first cap hg
  split at hx <;> try (cases hx; done)
  rename_i v h2 hc
  split at hx <;> try (cases hx; done)
  rename_i r hm
  split at hx <;> try (cases hx; done)
  rename_i hbusy
  split at hx <;> try (cases hx; done)
  rename_i h3 hset
  have e0 : h0.sc = h.sc := by
    cases rd with
    | none =>
      simp only at hd
      split at hd <;> try (cases hd; done)
      rename_i h0' ha
      cases hd
      exact (AH.add_spec ha).2.2.2.2
    | some l =>
      simp only at hd
      split at hd <;> try (cases hd; done)
      cases hd; rfl
  have e1 : h1.sc = h0.sc := (AH.add_spec hadd).2.2.2.2
  have e3 : h3.sc = h2.sc := (AH.put_spec hset).2.2.2.2
  have hcall0 := xcall_ok hB hS hc
  have hup : All h'.sc → All h3.sc := by
    split at hx
    · cases hx; exact fun hs => hs
    · exact (hS _ _ _ _ _ _ _ hx).1
  have hall : All h'.sc → All h2.sc := fun hs => by rw [← e3]; exact hup hs
  refine ⟨fun hs => by rw [← e0, ← e1]; exact hcall0.1 (hall hs), fun hsc θ a w hR hA hrd => ?_⟩
  refine wpIn_rangeFunc fun fn _ => ?_
  obtain ⟨θ0, w0, hP0, hdfr, hbm, henter⟩ : ∃ θ0 w0, Post base θ h w θ0 h0 w0 ∧ dfr < h0.next ∧ (∀ d ∈ mark, bdD θ0 h0.next d) ∧
      (Instr.enterLoop fn a.tmps ps assign body (rdB θ rd)).run P w = .ok (w0.heap.size, mark.map (concD θ0)) (w0.alloc (.loop { state := .ready, pending := none, fn, tmps := a.tmps, params := ps, assign, body, defers := (θ0 dfr).b })) := by
    cases rd with
    | none =>
      simp only at hd
      split at hd <;> try (cases hd; done)
      rename_i h0' ha
      cases hd
      have hsame := upd_same θ h.next ⟨w.heap.size, 0, none⟩
      have hsp := AH.add_spec ha
      refine ⟨upd θ h.next ⟨w.heap.size, 0, none⟩, w.alloc (.deferred (some [])), ?_, by omega, ?_, ?_⟩
      · exact Post.add hR ha (Nat.le_refl _) (fun k hk => Below.heap_alloc w _ k hk) ((Below.refl base w).alloc hR.size _) (show (w.alloc _).heap[(upd θ h.next ⟨w.heap.size, 0, none⟩ h.next).b]? = _ by rw [hsame]; exact heap_alloc_new w _)
      · intro d hd; obtain rfl := List.mem_singleton.1 hd; show h.next < _; omega
      · rw [show rdB θ none = none from rfl, run_enterLoop_outer]
        simp [concD, hsame]
    | some l =>
      simp only at hd
      split at hd <;> try (cases hd; done)
      rename_i r' hl
      cases hd
      obtain ⟨hln, _, hlo⟩ := hR.obj l _ hl
      obtain ⟨hdn, L, hL, _, _, _, _, _, _, _, _, hdef⟩ := hlo
      refine ⟨θ, w, Post.refl hR, hdn, (fun d hd => by cases hd), ?_⟩
      unfold Instr.enterLoop
      simp only [rdB, Option.map_some, Sem.run_bind, run_getLoop hL, Result.andThen, Sem.run_pure, run_newObj_alloc, hdef.1, List.map_nil]
  have hA0 := hA.ext hP0.ext hP0.next
  have hsp1 := AH.add_spec hadd
  have hsame := upd_same θ0 h0.next ⟨w0.heap.size, fn, none⟩
  have hE1 := upd_ext θ0 h0.next ⟨w0.heap.size, fn, none⟩
  have hP1 : Post base θ0 h0 w0 (upd θ0 h0.next ⟨w0.heap.size, fn, none⟩) h1 (w0.alloc (.loop { state := .ready, pending := none, fn, tmps := a.tmps, params := ps, assign, body, defers := (θ0 dfr).b })) := by
    refine Post.add hP0.r hadd (Nat.le_refl _) (fun k hk => Below.heap_alloc w0 _ k hk) ((Below.refl base w0).alloc hP0.r.size _) ⟨by show dfr < h0.next + 1; omega, _, by rw [hsame]; exact heap_alloc_new w0 _, fun _ => rfl, fun _ => by simp, rfl, rfl, rfl, rfl, hA0.kt.ext hE1 (Nat.le_succ _), hA0.size, by rw [hE1 dfr hdfr], by rw [hsame]⟩
  have hA1 := hA0.ext hP1.ext hP1.next
  obtain ⟨hbf, hf'⟩ := hA1.ev g _ hg
  simp only [bd] at hbf
  have hba : bdl (upd θ0 h0.next ⟨w0.heap.size, fn, none⟩) h1.next (first ++ [AV.yld h0.next] ++ cap) := fun y hy => by
    rcases List.mem_append.1 hy with hy | hy
    · rcases List.mem_append.1 hy with hy | hy
      · exact hbf.1 y hy
      · obtain rfl := List.mem_singleton.1 hy; simp only [bd]; omega
    · exact hbf.2 y hy
  obtain ⟨hent, hcall⟩ := hcall0.2 (hall hsc) _ _ hP1.r hba
  refine ⟨w0.heap.size, mark.map (concD θ0), (w0.alloc (.loop { state := .ready, pending := none, fn, tmps := a.tmps, params := ps, assign, body, defers := (θ0 dfr).b })), { target := .fn (.func f) (cap.map (conc (upd θ0 h0.next ⟨w0.heap.size, fn, none⟩))).toArray, args := (first.map (conc (upd θ0 h0.next ⟨w0.heap.size, fn, none⟩))).toArray ++ #[.func (.yield w0.heap.size) #[] #[]] }, (w0.alloc (.loop { state := .ready, pending := none, fn, tmps := a.tmps, params := ps, assign, body, defers := (θ0 dfr).b })), f, ((first ++ [AV.yld h0.next] ++ cap).map (conc (upd θ0 h0.next ⟨w0.heap.size, fn, none⟩))).toArray, (w0.alloc (.loop { state := .ready, pending := none, fn, tmps := a.tmps, params := ps, assign, body, defers := (θ0 dfr).b })), henter, ?_, fun _ _ => trivial, ?_, by simp [FW, Fence.wide], ?_⟩
  · simp only [resolve, rangeCall, hf', conc, Deferred.ofValue]
    simp [Act.eval]
  · have e1 : (first.map (conc (upd θ0 h0.next ⟨w0.heap.size, fn, none⟩))).toArray ++ #[.func (.yield w0.heap.size) #[] #[]] ++ (cap.map (conc (upd θ0 h0.next ⟨w0.heap.size, fn, none⟩))).toArray = ((first ++ [AV.yld h0.next] ++ cap).map (conc (upd θ0 h0.next ⟨w0.heap.size, fn, none⟩))).toArray := by
      simp [conc, hsame]
    simp only [invoke, e1]
    exact hent _ _
  · refine (FW_calls hcall).mono fun ex w' he => ?_
    obtain ⟨θ2, rfl, hbv, hP2⟩ := he
    obtain ⟨hidn, hbase, hok⟩ := hP2.r.obj h0.next _ hm
    obtain ⟨hdn, L, hL, hst, hst', hpend, hps, has, hbo, hkt, hnt, hdef⟩ := hok
    have hbeq : (θ2 h0.next).b = w0.heap.size := by rw [hP2.ext h0.next (by omega), hsame]
    rw [hbeq] at hL hbase
    have hlt : w0.heap.size < w'.heap.size := (Array.getElem?_eq_some_iff.1 hL).1
    have hbf' : r.busy = false := by cases hb : r.busy <;> simp_all
    have hsp3 := AH.put_spec hset
    have hP3 : Post base θ2 h2 w' θ2 h3 (w'.putObj w0.heap.size (.loop { L with state := .exhausted })) := by
      refine Post.put hP2.r hm hset (fun k hk => World.putObj_heap_other (by rw [← hbeq]; exact hk)) (by simp) (putObj_below hbase) ?_
      refine ⟨hdn, { L with state := .exhausted }, by rw [hbeq]; exact World.putObj_heap_same hlt, ?_, fun _ => by simp, hpend, hps, has, hbo, hkt, hnt, hdef⟩
      intro hx
      rcases hx with hx | hx
      · simp at hx
      · rw [hbf'] at hx; cases hx
    have hPall := (hP0.trans hP1).trans (hP2.trans hP3)
    have hA3 : AOK θ2 h3.next { A with ds := mark ++ A.ds } { a with defers := mark.map (concD θ0) ++ a.defers } := by
      have hA2 := hA.ext hPall.ext hPall.next
      refine ⟨hA2.size, hA2.kt, ?_, fun d hd => ?_⟩
      · have : mark.map (concD θ2) = mark.map (concD θ0) := List.map_congr_left fun d hd => concD_ext ((hP1.trans (hP2.trans hP3)).ext) (hbm d hd)
        simp only [List.map_append, this, hA2.ds]
      · rcases List.mem_append.1 hd with hd | hd
        · exact bdD_ext (hP1.trans (hP2.trans hP3)).ext (hP1.trans (hP2.trans hP3)).next (hbm d hd)
        · exact hA2.bds d hd
    refine ⟨r.pending, w'.putObj w0.heap.size (.loop { L with state := .exhausted }), by rw [← hpend]; exact run_endLoop (P := P) hL (hst' hbf'), ?_⟩
    split at hx
    · rename_i hpn
      cases hx
      rw [hpn]
      exact ⟨rfl, θ2, hPall, hA3⟩
    · rename_i c hpn
      rw [hpn]
      have hb := (hS _ _ _ _ _ _ _ hx).2 hsc θ2 _ _ hP3.r hA3 (fun l hl => Nat.lt_of_lt_of_le (hrd l hl) hPall.next)
      rw [rdB_ext hPall.ext hrd] at hb
      refine wpIn_mono hb fun ex a' w'' he => ?_
      obtain ⟨hex, θ', hP', hA'⟩ := he
      exact ⟨hex, θ', hPall.trans hP', hA'⟩
theorem wpIn_scope {F : Fence} {n : Nat} {Q : Exit → Act → World → Prop} {a : Act} {w : World} {c : Code} (hq : ∀ l a w, ¬ Q (.goto l) a w) (hx : c.wpIn F n P Q a w) : (Code.scope c).wpIn F n P Q a w := by
  intro b k cs hro hb hr
  have h0 : (lone (b.atR a (.code (.scope c) :: k)) cs w).fenced P F := fenced_calm hb hr rfl
  have s0 : step P (lone (b.atR a (.code (.scope c) :: k)) cs w) = .next (lone (b.atR a (.code c :: .inScope c :: k)) cs w) := step_lone_go (by simp [stepG, stepG.exec, Frame.atR])
  have s1 : ∀ a w, step P (lone (b.atR a (.inScope c :: k)) cs w) = .next (lone (b.atR a k) cs w) := fun a w => step_lone_go (by simp [stepG, stepG.exec, Frame.atR])
  obtain ⟨e, a₁, w₁, hQ, harr⟩ := hx b (.inScope c :: k) cs hro hb hr
  cases e with
  | normal => exact ⟨.normal, a₁, w₁, hQ, .head h0 s0 (StepsIn.trans harr (.one (fenced_calm hb hr rfl) (s1 _ _)))⟩
  | exit id =>
    have hx : exitTo id (.inScope c :: k) = exitTo id k := by simp [exitTo]
    exact ⟨_, a₁, w₁, hQ, fun k' hk => .head h0 s0 (harr.1 k' (by rw [hx]; exact hk)), fun hr' hk => let ⟨k₁, h1, h2⟩ := harr.2 hr' (by rw [hx]; exact hk); ⟨k₁, h1, .head h0 s0 h2⟩⟩
  | goto l => exact (hq _ _ _ hQ).elim
  | ret => exact ⟨_, a₁, w₁, hQ, .of_steps (.one h0 s0) harr⟩
  | panic ch => exact ⟨_, a₁, w₁, hQ, .of_steps (.one h0 s0) harr⟩
  | outgrown => exact ⟨_, a₁, w₁, hQ, .of_steps (.one h0 s0) harr⟩
/-- Statements, a step. -/
theorem stepE_ok (hB : TabOK P tb base) (hS : Sound P base rec) : Sound P base (stepE tb rec) := by
  intro c rd A h e A' h' hx
  unfold stepE at hx
  split at hx
  · cases hx; exact ⟨fun hs => hs, fun hs θ a w hR hA hrd => wpIn_skip ⟨rfl, θ, Post.refl hR, hA⟩⟩
  · cases hx; exact ⟨fun hs => hs, fun hs θ a w hR hA hrd => wpIn_label ⟨rfl, θ, Post.refl hR, hA⟩⟩
  · rename_i id ops draw
    cases draw with
    | true => exact xdrawn_ok hB hS hx
    | false =>
      simp only [Bool.false_eq_true, if_false] at hx
      have he := norm_of_xops _ hx
      subst he
      obtain ⟨k1, k2⟩ := xops_ok hB hS ops.toList 0 (by simp) hx
      refine ⟨k1, fun hs θ a w hR hA hrd => wpIn_region ?_⟩
      have := k2 hs hR hA hrd (Q := Behind base θ h w .norm A' h') fun θ' a' w' _ hP hA' => ⟨rfl, θ', hP, hA'⟩
      rw [List.range_eq_range', ← Array.length_toList]
      exact this
  · rename_i x y
    split at hx
    · rename_i A1 h1 hr
      have h1S := hS _ _ _ _ _ _ _ hr
      have h2S := hS _ _ _ _ _ _ _ hx
      refine ⟨fun hs => h1S.1 (h2S.1 hs), fun hs θ a w hR hA hrd => wpIn_seq ?_⟩
      refine wpIn_mono (h1S.2 (h2S.1 hs) θ a w hR hA hrd) fun ex a' w' he => ?_
      obtain ⟨rfl, θ', hP, hA1⟩ := he
      have hb := h2S.2 hs θ' a' w' hP.r hA1 (fun l hl => Nat.lt_of_lt_of_le (hrd l hl) hP.next)
      rw [rdB_ext hP.ext hrd] at hb
      refine wpIn_mono hb fun ex a'' w'' he => ?_
      obtain ⟨hex, θ'', hP', hA'⟩ := he
      exact ⟨hex, θ'', hP.trans hP', hA'⟩
    · rename_i e1 A1 h1 hne hr
      cases hx
      have h1S := hS _ _ _ _ _ _ _ hr
      refine ⟨h1S.1, fun hs θ a w hR hA hrd => wpIn_seq ?_⟩
      refine wpIn_mono (h1S.2 hs θ a w hR hA hrd) fun ex a' w' he => ?_
      obtain ⟨rfl, θ', hP, hA1⟩ := he
      cases e with
      | norm => first | exact (hne rfl).elim | exact (hne _ _ rfl).elim | exact (hne _ _ hr).elim
      | _ => exact ⟨rfl, θ', hP, hA1⟩
    · cases hx
  · rename_i cnd x y
    split at hx
    · rename_i t ht
      have hS1 := hS _ _ _ _ _ _ _ hx
      refine ⟨hS1.1, fun hs θ a w hR hA hrd => ?_⟩
      have hc := (hA.ev cnd _ ht).2
      rw [conc_lit] at hc
      exact wpIn_cond hc (hS1.2 hs θ a w hR hA hrd)
    · rename_i b hb
      split at hx <;> try (cases hx; done)
      rename_i t h1 hask
      obtain ⟨e1, e2, e3, e4⟩ := ask_ok hask
      have hS1 := hS _ _ _ _ _ _ _ hx
      refine ⟨fun hs => (e4.1 (hS1.1 hs)).2, fun hs θ a w hR hA hrd => ?_⟩
      have hbt := (e4.1 (hS1.1 hs)).1
      have hc := (hA.ev cnd _ hb).2
      simp only [conc, hbt] at hc
      refine wpIn_cond hc (wpIn_mono (hS1.2 hs θ a w (hR.same e1 e2 e3) (by rw [e2]; exact hA) (by rw [e2]; exact hrd)) fun ex a' w' he => ?_)
      obtain ⟨hex, θ', hP, hA'⟩ := he
      exact ⟨hex, θ', ((Post.refl hR).same e1 e2 e3).trans hP, hA'⟩
    · cases hx
  · rename_i id cc
    split at hx
    · rename_i e1 A1 h1 hr
      cases hx
      have hS1 := hS _ _ _ _ _ _ _ hr
      refine ⟨hS1.1, fun hs θ a w hR hA hrd => ?_⟩
      refine wpIn_block (wpIn_mono (hS1.2 hs θ a w hR hA hrd) fun ex a' w' he => ?_)
      obtain ⟨rfl, θ', hP, hA1⟩ := he
      cases e1 with
      | norm => exact ⟨rfl, θ', hP, hA1⟩
      | exit i =>
        show if i = id then _ else _
        by_cases hi : i = id
        · rw [if_pos hi]; exact ⟨by simp [hi, concE], θ', hP, hA1⟩
        · rw [if_neg hi]; exact ⟨by simp [hi, concE], θ', hP, hA1⟩
      | goto l => exact ⟨rfl, θ', hP, hA1⟩
      | ret => exact ⟨rfl, θ', hP, hA1⟩
    · cases hx
  · exact ⟨xloop_sc hS hx, fun hs θ a w hR hA hrd => xloop_ok hS hR hA hrd hx hs⟩
  · cases hx; exact ⟨fun hs => hs, fun hs θ a w hR hA hrd => wpIn_exit ⟨rfl, θ, Post.refl hR, hA⟩⟩
  · cases hx; exact ⟨fun hs => hs, fun hs θ a w hR hA hrd => wpIn_goto ⟨rfl, θ, Post.refl hR, hA⟩⟩
  · cases hx; exact ⟨fun hs => hs, fun hs θ a w hR hA hrd => wpIn_ret ⟨rfl, θ, Post.refl hR, hA⟩⟩
  · exact xrange_ok hB hS hx
  · split at hx
    · cases hx
    · rename_i hne
      have hS1 := hS _ _ _ _ _ _ _ hx
      refine ⟨hS1.1, fun hs θ a w hR hA hrd => ?_⟩
      refine wpIn_scope (fun l a' w' hq => ?_) (hS1.2 hs θ a w hR hA hrd)
      have := hq.1
      cases e with
      | goto l' => first | exact hne _ _ _ hx | exact hne _ _ _ rfl
      | norm => cases this
      | exit i => cases this
      | ret => cases this
  · cases hx
theorem exec_sound (hB : TabOK P tb base) : ∀ n, Sound P base (exec tb n)
  | 0 => fun c rd A h e A' h' hx => by cases hx
  | n + 1 => stepE_ok hB (exec_sound hB n)
end
end Go.Proofs.YtknplcpjmpmblaaDoor.GY
