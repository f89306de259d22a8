/- A run worked out: how its memory lies in a world. -/
import Derived.Test.YtknplcpjmpmblaaDoorUb
import Derived.Below
import Derived.Laws.Rows
import Derived.Laws.CopyRow
import Derived.Laws.AppendOwn
import Derived.Deep.AppendLies
import Derived.RangeFuncRecord
import Derived.RangeFuncCalls
set_option linter.unusedVariables false
set_option linter.unusedSimpArgs false
namespace Go.Proofs.YtknplcpjmpmblaaDoor.GY
open Go Go.RowKit

/-- What is known of temporaries. -/
def KT (θ : Th) (n : Nat) (t : T AV) (tmps : Array Value) : Prop := ∀ i v, t.get i = some v → bd θ n v ∧ tmps[i]? = some (conc θ v)
theorem KT.ext {θ θ' : Th} {n m : Nat} {t : T AV} {tmps : Array Value} (h : KT θ n t tmps) (he : Ext θ θ' n) (hn : n ≤ m) : KT θ' m t tmps := fun i v hv => by
  obtain ⟨a, b⟩ := h i v hv
  exact ⟨bd_ext he hn _ a, by rw [conc_ext he _ a]; exact b⟩
theorem KT.set {θ : Th} {n : Nat} {t : T AV} {tmps : Array Value} (h : KT θ n t tmps) {d : Nat} {v : AV} (hv : bd θ n v) (hd : d < 1024) (hs : d < tmps.size) : KT θ n (T.set (some v) 11 t d) (tmps.setIfInBounds d (conc θ v)) := fun i u hu => by
  by_cases hi : i = d
  · subst hi
    rw [T.get_set_same _ 11 t i (by omega)] at hu
    cases hu
    exact ⟨hv, by simp [hs]⟩
  · rw [T.get_set_other _ 11 t d i hi] at hu
    obtain ⟨a, b⟩ := h i u hu
    exact ⟨a, by rw [Array.getElem?_setIfInBounds_ne (Ne.symm hi)]; exact b⟩

noncomputable def entryC (θ : Th) (e : AV × AV × Nat) : MapEntry := { key := conc θ e.1, val := conc θ e.2.1, born := e.2.2 }
def lstate (r : ALoop) : LoopState := if r.busy then .busy else if r.done then .done else .ready
def OOK (θ : Th) (n : Nat) (id : Nat) (o : AO) (w : World) : Prop :=
  match o with
  | .cells cs el row => bdl θ n cs ∧ ∃ cur, w.heap[(θ id).b]? = some (.cells cur el (0, 0)) ∧ cur.toList.take cs.length = cs.map (conc θ) ∧
      (match row with
       | none => cur.size = cs.length
       | some sz => ∃ k, cs.length = k * sz ∧ k ≤ (θ id).c ∧ (θ id).c ≤ maxLen ∧ cur.size = (θ id).c * sz)
  | .map es clock => (∀ e ∈ es, bd θ n e.1 ∧ bd θ n e.2.1) ∧ w.heap[(θ id).b]? = some (.map (es.map (entryC θ)).toArray clock)
  | .loop r => r.dfr < n ∧ ∃ L : Loop, w.heap[(θ id).b]? = some (.loop L) ∧ (r.done = false ∨ r.busy = true → L.state = lstate r) ∧ (r.busy = false → L.state ≠ .busy) ∧ L.pending = r.pending ∧ L.params = r.params ∧ L.assign = r.assign ∧ L.body = r.body ∧
      KT θ n r.t L.tmps ∧ L.tmps.size = r.nt ∧ L.defers = (θ r.dfr).b ∧ L.fn = (θ id).c
  | .dfr shut => w.heap[(θ id).b]? = some (.deferred (if shut then none else some []))
  | .irow el sz n' f => ∃ cur, w.heap[(θ id).b]? = some (.cells cur el (0, 0)) ∧ (θ id).a = some ⟨(θ id).b, 0, none⟩ ∧ n' ≤ (θ id).c ∧ (θ id).c ≤ maxLen ∧ cur.size = (θ id).c * sz ∧ ∀ k j, k < n' → j < sz → cur[k * sz + j]? = some (.int .i64 (f k j))

theorem OOK.ext {θ θ' : Th} {n m id : Nat} {o : AO} {w w' : World} (h : OOK θ n id o w) (he : Ext θ θ' n) (hn : n ≤ m) (hid : id < n) (hw : w'.heap[(θ id).b]? = w.heap[(θ id).b]?) : OOK θ' m id o w' := by
  have hi := he id hid
  cases o with
  | cells cs el row =>
    obtain ⟨hb, cur, hc, ht, hr⟩ := h
    refine ⟨bdl_ext he hn hb, cur, by rw [hi, hw]; exact hc, by rw [concl_ext he hb]; exact ht, ?_⟩
    cases row with
    | none => exact hr
    | some sz => rw [hi]; exact hr
  | map es clock =>
    obtain ⟨hb, hc⟩ := h
    refine ⟨fun e hx => ⟨bd_ext he hn _ (hb e hx).1, bd_ext he hn _ (hb e hx).2⟩, ?_⟩
    have e1 : es.map (entryC θ') = es.map (entryC θ) := List.map_congr_left fun x hx => by simp only [entryC, conc_ext he _ (hb x hx).1, conc_ext he _ (hb x hx).2]
    rw [hi, hw, e1]; exact hc
  | loop r =>
    obtain ⟨hd, L, hL, a, a', b, c, d, e, f, g, i⟩ := h
    exact ⟨Nat.lt_of_lt_of_le hd hn, L, by rw [hi, hw]; exact hL, a, a', b, c, d, e, f.ext he hn, g, by rw [he _ hd, hi]; exact i⟩
  | dfr shut => show w'.heap[(θ' id).b]? = _; rw [hi, hw]; exact h
  | irow el sz n' f =>
    obtain ⟨cur, a⟩ := h
    exact ⟨cur, by rw [hi, hw]; exact a⟩
theorem OOK.lt {θ : Th} {n id : Nat} {o : AO} {w : World} (h : OOK θ n id o w) : (θ id).b < w.heap.size := by
  have : ∃ x, w.heap[(θ id).b]? = some x := by
    cases o with
    | cells cs el row => obtain ⟨_, cur, hc, _⟩ := h; exact ⟨_, hc⟩
    | map es clock => exact ⟨_, h.2⟩
    | loop r => obtain ⟨_, L, hL, _⟩ := h; exact ⟨_, hL⟩
    | dfr shut => exact ⟨_, h⟩
    | irow el sz n' f => obtain ⟨cur, hc, _⟩ := h; exact ⟨_, hc⟩
  obtain ⟨x, hx⟩ := this
  exact (Array.getElem?_eq_some_iff.1 hx).1

/-- Where the run's memory begins, and a world whose blocks below that stay as they are. -/
structure Bs where
  n : Nat
  w : World
instance : Coe Bs Nat := ⟨Bs.n⟩
/-- A row that is read alone lies in the world. -/
structure ROK (base : Bs) (θ : Th) (id : Nat) (r : RO) (w : World) : Prop where
  le : r.n ≤ (θ id).c
  cap : (θ id).c ≤ maxLen
  a : 0 < r.n → ∃ o, (θ id).a = some ⟨(θ id).b, o, none⟩
  cell : ∀ k j, k < r.n → j < r.sz → w.cell? ⟨(θ id).b, (θ id).o + (k * r.sz + j), none⟩ = some (.int .i64 (r.f k j))
  fr : 0 < r.n → r.fr = true → base ≤ (θ id).b
  lt : 0 < r.n → (θ id).b < w.heap.size
/-- No block of the run is this one. -/
def NU (θ : Th) (h : AH) (b : Nat) : Prop := (∀ id o, h.m.get id = some o → (θ id).b ≠ b) ∧ ∀ id r, h.ro.get id = some r → 0 < r.n → (θ id).b ≠ b
structure R (base : Bs) (θ : Th) (h : AH) (w : World) : Prop where
  obj : ∀ id o, h.m.get id = some o → id < h.next ∧ base ≤ (θ id).b ∧ OOK θ h.next id o w
  inj : ∀ id id' o o', h.m.get id = some o → h.m.get id' = some o' → id ≠ id' → (θ id).b ≠ (θ id').b
  size : base ≤ w.heap.size
  b0 : ∀ k, k < base.n → w.heap[k]? = base.w.heap[k]?
  rom : ∀ id r, h.ro.get id = some r → id < h.next ∧ ROK base θ id r w ∧ (0 < r.n → ∀ id' o, h.m.get id' = some o → (θ id').b ≠ (θ id).b)
theorem R.same {base : Bs} {θ : Th} {h h' : AH} {w : World} (hR : R base θ h w) (e1 : h'.m = h.m) (e2 : h'.next = h.next) (e3 : h'.ro = h.ro) : R base θ h' w := by
  obtain ⟨m, next, ro, sc, orc⟩ := h
  obtain ⟨m', next', ro', sc', orc'⟩ := h'
  cases e1; cases e2; cases e3
  exact ⟨hR.obj, hR.inj, hR.size, hR.b0, hR.rom⟩
theorem ROK.keep {base : Bs} {θ θ' : Th} {id : Nat} {r : RO} {w w' : World} (hk : ROK base θ id r w) (he : θ' id = θ id) (hb : 0 < r.n → w'.heap[(θ id).b]? = w.heap[(θ id).b]?) (hs : w.heap.size ≤ w'.heap.size) : ROK base θ' id r w' := by
  refine ⟨by rw [he]; exact hk.le, by rw [he]; exact hk.cap, by rw [he]; exact hk.a, fun k j hkn hj => ?_, by rw [he]; exact hk.fr, fun h0 => by rw [he]; exact Nat.lt_of_lt_of_le (hk.lt h0) hs⟩
  rw [he, World.cell?_of_block (w := w) (hb (by omega))]
  exact hk.cell k j hkn hj
structure Post (base : Bs) (θ : Th) (h : AH) (w : World) (θ' : Th) (h' : AH) (w' : World) : Prop where
  ext : Ext θ θ' h.next
  next : h.next ≤ h'.next
  r : R base θ' h' w'
  below : Below base w w'
  frame : ∀ k, k < w.heap.size → (∀ id o, h.m.get id = some o → (θ id).b ≠ k) → w'.heap[k]? = w.heap[k]?
  own : ∀ id o, h'.m.get id = some o → (∃ id0 o0, h.m.get id0 = some o0 ∧ (θ id0).b = (θ' id).b) ∨ w.heap.size ≤ (θ' id).b
  own2 : ∀ id r, h'.ro.get id = some r → 0 < r.n → (∃ id0 r0, h.ro.get id0 = some r0 ∧ 0 < r0.n ∧ (θ id0).b = (θ' id).b) ∨ w.heap.size ≤ (θ' id).b
theorem Post.trans {base : Bs} {θ θ' θ'' : Th} {h h' h'' : AH} {w w' w'' : World} (p : Post base θ h w θ' h' w') (q : Post base θ' h' w' θ'' h'' w'') : Post base θ h w θ'' h'' w'' := by
  refine ⟨p.ext.trans q.ext p.next, Nat.le_trans p.next q.next, q.r, p.below.trans q.below, fun k hk hu => ?_, fun id o hg => ?_, fun id o hg h0 => ?_⟩
  · rw [q.frame k (Nat.lt_of_lt_of_le hk p.below.size) (fun id o hg => ?_), p.frame k hk hu]
    rcases p.own id o hg with ⟨id0, o0, h0, e⟩ | e
    · rw [← e]; exact hu id0 o0 h0
    · omega
  · rcases q.own id o hg with ⟨id1, o1, h1, e⟩ | e
    · rcases p.own id1 o1 h1 with ⟨id0, o0, h0, e'⟩ | e'
      · exact .inl ⟨id0, o0, h0, e'.trans e⟩
      · right; rw [← e]; exact e'
    · right; have := p.below.size; omega
  · rcases q.own2 id o hg h0 with ⟨id1, o1, h1, h1n, e⟩ | e
    · rcases p.own2 id1 o1 h1 h1n with ⟨id0, o0, h0, h0n, e'⟩ | e'
      · exact .inl ⟨id0, o0, h0, h0n, e'.trans e⟩
      · right; rw [← e]; exact e'
    · right; have := p.below.size; omega
theorem NU.post {base : Bs} {θ θ' : Th} {h h' : AH} {w w' : World} {b : Nat} (hu : NU θ h b) (hP : Post base θ h w θ' h' w') (hb : b < w.heap.size) : NU θ' h' b := by
  refine ⟨fun id o hg => ?_, fun id r hg h0 => ?_⟩
  · rcases hP.own id o hg with ⟨id0, o0, h1, e⟩ | e
    · rw [← e]; exact hu.1 id0 o0 h1
    · omega
  · rcases hP.own2 id r hg h0 with ⟨id0, o0, h1, h2, e⟩ | e
    · rw [← e]; exact hu.2 id0 o0 h1 h2
    · omega
theorem Post.refl {base : Bs} {θ : Th} {h : AH} {w : World} (r : R base θ h w) : Post base θ h w θ h w := ⟨Ext.refl _ _, Nat.le_refl _, r, Below.refl _ _, fun _ _ _ => rfl, fun id o hg => .inl ⟨id, o, hg, rfl⟩, fun id r hg h0 => .inl ⟨id, r, hg, h0, rfl⟩⟩
theorem Post.same {base : Bs} {θ θ' : Th} {h h' h'' : AH} {w w' : World} (p : Post base θ h w θ' h' w') (e1 : h''.m = h'.m) (e2 : h''.next = h'.next) (e3 : h''.ro = h'.ro) : Post base θ h w θ' h'' w' := by
  refine ⟨p.ext, by rw [e2]; exact p.next, p.r.same e1 e2 e3, p.below, p.frame, by rw [e1]; exact p.own, by rw [e3]; exact p.own2⟩
theorem Post.of_also {base : Bs} {θ θ' : Th} {h h' : AH} {w w' : World} {ps : List Prop} (p : Post base θ (h.also ps) w θ' h' w') : Post base θ h w θ' h' w' := ⟨p.ext, p.next, p.r, p.below, p.frame, p.own, p.own2⟩
theorem also_m {h : AH} {ps : List Prop} : (h.also ps).m = h.m := rfl
theorem also_next {h : AH} {ps : List Prop} : (h.also ps).next = h.next := rfl
theorem also_ro {h : AH} {ps : List Prop} : (h.also ps).ro = h.ro := rfl
theorem Post.also {base : Bs} {θ θ' : Th} {h h' : AH} {w w' : World} (p : Post base θ h w θ' h' w') {ps : List Prop} : Post base θ h w θ' (h'.also ps) w' := p.same rfl rfl rfl

def upd (θ : Th) (n : Nat) (r : Ref) : Th := fun id => if id = n then r else θ id
theorem upd_same (θ : Th) (n : Nat) (r : Ref) : upd θ n r n = r := if_pos rfl
theorem upd_ext (θ : Th) (n : Nat) (r : Ref) : Ext θ (upd θ n r) n := fun id hid => if_neg (by omega)

theorem AH.add_spec {h h' : AH} {o : AO} (ha : h.add o = some h') : h.next < 1099511627776 ∧ h'.m = T.set (some o) 41 h.m h.next ∧ h'.next = h.next + 1 ∧ h'.ro = h.ro ∧ h'.sc = h.sc := by
  obtain ⟨m, next, ro, sc, orc⟩ := h
  simp only [AH.add, forceN_eq] at ha
  cases hb : Nat.blt next 1099511627776 with
  | false => rw [hb] at ha; cases ha
  | true =>
    rw [hb] at ha
    simp only [cond_true, Option.some.injEq] at ha
    subst ha
    exact ⟨Nat.le_of_ble_eq_true hb, rfl, rfl, rfl, rfl⟩
theorem AH.addRO_spec {h h' : AH} {r : RO} (ha : h.addRO r = some h') : h.next < 1099511627776 ∧ h'.m = h.m ∧ h'.next = h.next + 1 ∧ h'.ro = T.set (some r) 41 h.ro h.next ∧ h'.sc = h.sc := by
  obtain ⟨m, next, ro, sc, orc⟩ := h
  simp only [AH.addRO, forceN_eq] at ha
  cases hb : Nat.blt next 1099511627776 with
  | false => rw [hb] at ha; cases ha
  | true =>
    rw [hb] at ha
    simp only [cond_true, Option.some.injEq] at ha
    subst ha
    exact ⟨Nat.le_of_ble_eq_true hb, rfl, rfl, rfl, rfl⟩
theorem AH.put_spec {h h' : AH} {id : Nat} {o : AO} (ha : h.put id o = some h') : id < 1099511627776 ∧ h'.m = T.set (some o) 41 h.m id ∧ h'.next = h.next ∧ h'.ro = h.ro ∧ h'.sc = h.sc := by
  obtain ⟨m, next, ro, sc, orc⟩ := h
  simp only [AH.put] at ha
  cases hb : Nat.blt id 1099511627776 with
  | false => rw [hb] at ha; cases ha
  | true =>
    rw [hb] at ha
    simp only [cond_true, Option.some.injEq] at ha
    subst ha
    exact ⟨Nat.le_of_ble_eq_true hb, rfl, rfl, rfl, rfl⟩

section
variable {base : Bs} {θ θ' : Th} {h h' : AH} {w w' : World}
/-- A new block. -/
theorem R.add (hR : R base θ h w) {o : AO} (ha : h.add o = some h') {r : Ref} (hr : w.heap.size ≤ r.b) (hw : ∀ k, k < w.heap.size → w'.heap[k]? = w.heap[k]?) (hs : w.heap.size ≤ w'.heap.size)
    (ho : OOK (upd θ h.next r) (h.next + 1) h.next o w') : R base (upd θ h.next r) h' w' := by
  obtain ⟨h1, hm, hn, hro, hsc⟩ := AH.add_spec ha
  have hE := upd_ext θ h.next r
  have old : ∀ id o', id ≠ h.next → h'.m.get id = some o' → h.m.get id = some o' := fun id o' hne hg => by rw [hm, T.get_set_other _ _ _ _ _ hne] at hg; exact hg
  have new : h'.m.get h.next = some o := by rw [hm]; exact T.get_set_same _ 41 _ _ (by omega)
  have bne : ∀ id o', h.m.get id = some o' → (θ id).b ≠ r.b := fun id o' hg => by
    have := (hR.obj id o' hg).2.2.lt; omega
  have eqo : ∀ id o', h.m.get id = some o' → upd θ h.next r id = θ id := fun id o' hg => hE id (hR.obj id o' hg).1
  refine ⟨fun id o' hg => ?_, fun id id' o1 o2 hg1 hg2 hne => ?_, Nat.le_trans hR.size hs, fun k hk => (hw k (Nat.lt_of_lt_of_le hk hR.size)).trans (hR.b0 k hk), fun id q hg => ?_⟩
  · by_cases hid : id = h.next
    · subst hid
      rw [new] at hg; cases hg
      exact ⟨by omega, by rw [upd_same]; exact Nat.le_trans hR.size hr, by rw [hn]; exact ho⟩
    · have hg' := old id o' hid hg
      obtain ⟨a, b, c⟩ := hR.obj id o' hg'
      exact ⟨by omega, by rw [eqo id o' hg']; exact b, by rw [hn]; exact c.ext hE (by omega) a (hw _ c.lt)⟩
  · by_cases h1' : id = h.next
    · subst h1'
      have hg' := old id' o2 (Ne.symm hne) hg2
      rw [upd_same, eqo id' o2 hg']
      exact (bne id' o2 hg').symm
    · have hg1' := old id o1 h1' hg1
      by_cases h2' : id' = h.next
      · subst h2'
        rw [upd_same, eqo id o1 hg1']
        exact bne id o1 hg1'
      · have hg2' := old id' o2 h2' hg2
        rw [eqo id o1 hg1', eqo id' o2 hg2']
        exact hR.inj id id' o1 o2 hg1' hg2' hne
  · rw [hro] at hg
    obtain ⟨a, b, c⟩ := hR.rom id q hg
    refine ⟨by omega, b.keep (hE id a) (fun h0 => hw _ (b.lt h0)) hs, fun h0 id' o' hg' => ?_⟩
    rw [hE id a]
    by_cases hid : id' = h.next
    · subst hid; rw [upd_same]; have := b.lt h0; omega
    · have hg2 := old id' o' hid hg'
      rw [eqo id' o' hg2]; exact c h0 id' o' hg2
/-- A number more. -/
theorem Post.bump (hR : R base θ h w) (r : Ref) : Post base θ h w (upd θ h.next r) ⟨h.m, Nat.succ h.next, h.ro, h.sc, h.orc⟩ w := by
  have hE := upd_ext θ h.next r
  refine ⟨hE, Nat.le_succ _, ⟨fun id o hg => ?_, fun id id' o o' h1 h2 hne => ?_, hR.size, hR.b0, fun id q hg => ?_⟩, Below.refl _ _, fun _ _ _ => rfl, fun id o hg => .inl ⟨id, o, hg, by rw [hE id (hR.obj id o hg).1]⟩, fun id q hg h0 => .inl ⟨id, q, hg, h0, by rw [hE id (hR.rom id q hg).1]⟩⟩
  · obtain ⟨a, b, c⟩ := hR.obj id o hg
    exact ⟨Nat.lt_succ_of_lt a, by rw [hE id a]; exact b, c.ext hE (Nat.le_succ _) a rfl⟩
  · rw [hE id (hR.obj id o h1).1, hE id' (hR.obj id' o' h2).1]
    exact hR.inj id id' o o' h1 h2 hne
  · obtain ⟨a, b, c⟩ := hR.rom id q hg
    refine ⟨Nat.lt_succ_of_lt a, b.keep (hE id a) (fun _ => rfl) (Nat.le_refl _), fun h0 id' o' hg' => ?_⟩
    rw [hE id a, hE id' (hR.obj id' o' hg').1]; exact c h0 id' o' hg'
/-- A block that lies there already. -/
theorem R.adopt (hR : R base θ h w) {o : AO} (ha : h.add o = some h') {r : Ref} (hb : base ≤ r.b) (hu : NU θ h r.b) (ho : OOK (upd θ h.next r) (h.next + 1) h.next o w) : R base (upd θ h.next r) h' w := by
  obtain ⟨h1, hm, hn, hro, hsc⟩ := AH.add_spec ha
  have hE := upd_ext θ h.next r
  have old : ∀ id o', id ≠ h.next → h'.m.get id = some o' → h.m.get id = some o' := fun id o' hne hg => by rw [hm, T.get_set_other _ _ _ _ _ hne] at hg; exact hg
  have new : h'.m.get h.next = some o := by rw [hm]; exact T.get_set_same _ 41 _ _ (by omega)
  have eqo : ∀ id o', h.m.get id = some o' → upd θ h.next r id = θ id := fun id o' hg => hE id (hR.obj id o' hg).1
  refine ⟨fun id o' hg => ?_, fun id id' o1 o2 hg1 hg2 hne => ?_, hR.size, hR.b0, fun id q hg => ?_⟩
  · by_cases hid : id = h.next
    · subst hid
      rw [new] at hg; cases hg
      exact ⟨by omega, by rw [upd_same]; exact hb, by rw [hn]; exact ho⟩
    · have hg' := old id o' hid hg
      obtain ⟨a, b, c⟩ := hR.obj id o' hg'
      exact ⟨by omega, by rw [eqo id o' hg']; exact b, by rw [hn]; exact c.ext hE (by omega) a rfl⟩
  · by_cases h1' : id = h.next
    · subst h1'
      have hg' := old id' o2 (Ne.symm hne) hg2
      rw [upd_same, eqo id' o2 hg']
      exact (hu.1 id' o2 hg').symm
    · have hg1' := old id o1 h1' hg1
      by_cases h2' : id' = h.next
      · subst h2'
        rw [upd_same, eqo id o1 hg1']
        exact hu.1 id o1 hg1'
      · have hg2' := old id' o2 h2' hg2
        rw [eqo id o1 hg1', eqo id' o2 hg2']
        exact hR.inj id id' o1 o2 hg1' hg2' hne
  · rw [hro] at hg
    obtain ⟨a, b, c⟩ := hR.rom id q hg
    refine ⟨by omega, b.keep (hE id a) (fun _ => rfl) (Nat.le_refl _), fun h0 id' o' hg' => ?_⟩
    rw [hE id a]
    by_cases hid : id' = h.next
    · subst hid; rw [upd_same]; exact (hu.2 id q hg h0).symm
    · have hg2 := old id' o' hid hg'
      rw [eqo id' o' hg2]; exact c h0 id' o' hg2
/-- A block changed. -/
theorem R.put (hR : R base θ h w) {id : Nat} {o0 o : AO} (h0 : h.m.get id = some o0) (ha : h.put id o = some h') (hw : ∀ k, k ≠ (θ id).b → w'.heap[k]? = w.heap[k]?) (hs : w'.heap.size = w.heap.size)
    (ho : OOK θ h.next id o w') : R base θ h' w' := by
  obtain ⟨h1, hm, hn, hro, hsc⟩ := AH.put_spec ha
  have old : ∀ i o', i ≠ id → h'.m.get i = some o' → h.m.get i = some o' := fun i o' hne hg => by rw [hm, T.get_set_other _ _ _ _ _ hne] at hg; exact hg
  have new : h'.m.get id = some o := by rw [hm]; exact T.get_set_same _ 41 _ _ (by omega)
  have ex : ∀ i o', h'.m.get i = some o' → ∃ o'', h.m.get i = some o'' := fun i o' hg => by
    by_cases hi : i = id
    · subst hi; exact ⟨_, h0⟩
    · exact ⟨_, old i o' hi hg⟩
  refine ⟨fun i o' hg => ?_, fun i i' o1 o2 hg1 hg2 hne => ?_, by rw [hs]; exact hR.size, fun k hk => (hw k (Nat.ne_of_lt (Nat.lt_of_lt_of_le hk (hR.obj _ _ h0).2.1))).trans (hR.b0 k hk), fun i q hg => ?_⟩
  · by_cases hi : i = id
    · subst hi
      rw [new] at hg; cases hg
      obtain ⟨a, b, _⟩ := hR.obj i o0 h0
      exact ⟨by omega, b, by rw [hn]; exact ho⟩
    · have hg' := old i o' hi hg
      obtain ⟨a, b, c⟩ := hR.obj i o' hg'
      exact ⟨by omega, b, by rw [hn]; exact c.ext (Ext.refl _ _) (Nat.le_refl _) a (hw _ (hR.inj i id o' o0 hg' h0 hi))⟩
  · obtain ⟨_, g1⟩ := ex i o1 hg1
    obtain ⟨_, g2⟩ := ex i' o2 hg2
    exact hR.inj i i' _ _ g1 g2 hne
  · rw [hro] at hg
    obtain ⟨a, b, c⟩ := hR.rom i q hg
    refine ⟨by omega, b.keep rfl (fun hq => hw _ (c hq id o0 h0).symm) (by omega), fun hq i' o' hg' => ?_⟩
    obtain ⟨_, g1⟩ := ex i' o' hg'
    exact c hq i' _ g1
/-- A block given up for a new one, which may lie where it lay. -/
theorem R.swap (hR : R base θ h w) {id : Nat} {o0 o : AO} (h0 : h.m.get id = some o0) {sc : List Prop} {orc : List Bool} (ha : AH.add ⟨T.set none 41 h.m id, h.next, h.ro, sc, orc⟩ o = some h') {r : Ref} (hr : r.b = (θ id).b ∨ r.b = w.heap.size)
    (hw : ∀ k, k < w.heap.size → k ≠ (θ id).b → w'.heap[k]? = w.heap[k]?) (hs : w.heap.size ≤ w'.heap.size) (ho : OOK (upd θ h.next r) (h.next + 1) h.next o w') : R base (upd θ h.next r) h' w' := by
  obtain ⟨h1, hm, hn, hro, hsc⟩ := AH.add_spec ha
  simp only at h1 hm hn hro
  obtain ⟨i0, b0, c0⟩ := hR.obj id o0 h0
  have hE := upd_ext θ h.next r
  have hidx : id ≠ h.next := by omega
  have old : ∀ i o', i ≠ h.next → h'.m.get i = some o' → i ≠ id ∧ h.m.get i = some o' := fun i o' hne hg => by
    rw [hm, T.get_set_other _ _ _ _ _ hne] at hg
    by_cases hi : i = id
    · subst hi; rw [T.get_set_same _ 41 _ _ (by omega)] at hg; cases hg
    · rw [T.get_set_other _ _ _ _ _ hi] at hg; exact ⟨hi, hg⟩
  have new : h'.m.get h.next = some o := by rw [hm]; exact T.get_set_same _ 41 _ _ (by omega)
  have bne : ∀ i o', i ≠ id → h.m.get i = some o' → (θ i).b ≠ r.b := fun i o' hi hg => by
    rcases hr with e | e
    · rw [e]; exact hR.inj i id o' o0 hg h0 hi
    · have := (hR.obj i o' hg).2.2.lt; omega
  have eqo : ∀ i o', h.m.get i = some o' → upd θ h.next r i = θ i := fun i o' hg => hE i (hR.obj i o' hg).1
  refine ⟨fun i o' hg => ?_, fun i i' o1 o2 hg1 hg2 hne => ?_, Nat.le_trans hR.size hs, fun k hk => (hw k (Nat.lt_of_lt_of_le hk hR.size) (Nat.ne_of_lt (Nat.lt_of_lt_of_le hk b0))).trans (hR.b0 k hk), fun i q hg => ?_⟩
  · by_cases hi : i = h.next
    · subst hi
      rw [new] at hg; cases hg
      refine ⟨by omega, ?_, by rw [hn]; exact ho⟩
      rw [upd_same]
      rcases hr with e | e <;> rw [e]
      · exact b0
      · exact hR.size
    · obtain ⟨hne, hg'⟩ := old i o' hi hg
      obtain ⟨a, b, c⟩ := hR.obj i o' hg'
      exact ⟨by omega, by rw [eqo i o' hg']; exact b, by rw [hn]; exact c.ext hE (by omega) a (hw _ c.lt (hR.inj i id o' o0 hg' h0 hne))⟩
  · by_cases h1' : i = h.next
    · subst h1'
      obtain ⟨hx, hg'⟩ := old i' o2 (Ne.symm hne) hg2
      rw [upd_same, eqo i' o2 hg']
      exact (bne i' o2 hx hg').symm
    · obtain ⟨hx1, hg1'⟩ := old i o1 h1' hg1
      by_cases h2' : i' = h.next
      · subst h2'
        rw [upd_same, eqo i o1 hg1']
        exact bne i o1 hx1 hg1'
      · obtain ⟨hx2, hg2'⟩ := old i' o2 h2' hg2
        rw [eqo i o1 hg1', eqo i' o2 hg2']
        exact hR.inj i i' o1 o2 hg1' hg2' hne
  · rw [hro] at hg
    obtain ⟨a, b, c⟩ := hR.rom i q hg
    refine ⟨by omega, b.keep (hE i a) (fun hq => hw _ (b.lt hq) (c hq id o0 h0).symm) hs, fun hq i' o' hg' => ?_⟩
    rw [hE i a]
    by_cases hi : i' = h.next
    · subst hi
      rw [upd_same]
      rcases hr with e | e
      · rw [e]; exact c hq id o0 h0
      · have := b.lt hq; omega
    · obtain ⟨_, hg2⟩ := old i' o' hi hg'
      rw [eqo i' o' hg2]; exact c hq i' o' hg2
/-- What the world has more does no harm. -/
theorem R.more (hR : R base θ h w) (hb : Below w.heap.size w w') : R base θ h w' :=
  ⟨fun id o hg => by
    obtain ⟨a, b, c⟩ := hR.obj id o hg
    exact ⟨a, b, c.ext (Ext.refl _ _) (Nat.le_refl _) a (hb.block _ c.lt)⟩, hR.inj, Nat.le_trans hR.size hb.size, fun k hk => (hb.block k (Nat.lt_of_lt_of_le hk hR.size)).trans (hR.b0 k hk), fun id q hg => by
    obtain ⟨a, b, c⟩ := hR.rom id q hg
    exact ⟨a, b.keep rfl (fun hq => hb.block _ (b.lt hq)) hb.size, c⟩⟩
theorem Post.more (hR : R base θ h w) (hb : Below w.heap.size w w') : Post base θ h w θ h w' := ⟨Ext.refl _ _, Nat.le_refl _, hR.more hb, hb.mono hR.size, fun k hk _ => hb.block k hk, fun id o hg => .inl ⟨id, o, hg, rfl⟩, fun id r hg h0 => .inl ⟨id, r, hg, h0, rfl⟩⟩
theorem Post.add (hR : R base θ h w) {o : AO} (ha : h.add o = some h') {r : Ref} (hr : w.heap.size ≤ r.b) (hw : ∀ k, k < w.heap.size → w'.heap[k]? = w.heap[k]?) (hbel : Below base w w')
    (ho : OOK (upd θ h.next r) (h.next + 1) h.next o w') : Post base θ h w (upd θ h.next r) h' w' := by
  obtain ⟨_, hm, hn, hro, hsc⟩ := AH.add_spec ha
  refine ⟨upd_ext _ _ _, by omega, hR.add ha hr hw hbel.size ho, hbel, fun k hk _ => hw k hk, fun id o' hg => ?_, fun id q hg h0 => .inl ⟨id, q, by rw [← hro]; exact hg, h0, by rw [upd_ext θ h.next r id (hR.rom id q (by rw [← hro]; exact hg)).1]⟩⟩
  by_cases hid : id = h.next
  · subst hid; right; rw [upd_same]; exact hr
  · rw [hm, T.get_set_other _ _ _ _ _ hid] at hg
    exact .inl ⟨id, o', hg, by rw [upd_ext θ h.next r id (hR.obj id o' hg).1]⟩
theorem Post.put (hR : R base θ h w) {id : Nat} {o0 o : AO} (h0 : h.m.get id = some o0) (ha : h.put id o = some h') (hw : ∀ k, k ≠ (θ id).b → w'.heap[k]? = w.heap[k]?) (hs : w'.heap.size = w.heap.size)
    (hbel : Below base w w') (ho : OOK θ h.next id o w') : Post base θ h w θ h' w' := by
  obtain ⟨_, hm, hn, hro, hsc⟩ := AH.put_spec ha
  refine ⟨Ext.refl _ _, by omega, hR.put h0 ha hw hs ho, hbel, fun k _ hu => hw k (hu id o0 h0).symm, fun i o' hg => ?_, fun i q hg hq => .inl ⟨i, q, by rw [← hro]; exact hg, hq, rfl⟩⟩
  by_cases hi : i = id
  · subst hi; exact .inl ⟨i, o0, h0, rfl⟩
  · rw [hm, T.get_set_other _ _ _ _ _ hi] at hg; exact .inl ⟨i, o', hg, rfl⟩
theorem Post.swap (hR : R base θ h w) {id : Nat} {o0 o : AO} (h0 : h.m.get id = some o0) {sc : List Prop} {orc : List Bool} (ha : AH.add ⟨T.set none 41 h.m id, h.next, h.ro, sc, orc⟩ o = some h') {r : Ref} (hr : r.b = (θ id).b ∨ r.b = w.heap.size)
    (hw : ∀ k, k < w.heap.size → k ≠ (θ id).b → w'.heap[k]? = w.heap[k]?) (hbel : Below base w w') (ho : OOK (upd θ h.next r) (h.next + 1) h.next o w') : Post base θ h w (upd θ h.next r) h' w' := by
  obtain ⟨_, hm, hn, hro, hsc⟩ := AH.add_spec ha
  simp only at hm hn hro
  have hid := (hR.obj id o0 h0).1
  refine ⟨upd_ext _ _ _, by omega, hR.swap h0 ha hr hw hbel.size ho, hbel, fun k hk hu => hw k hk (hu id o0 h0).symm, fun i o' hg => ?_, fun i q hg hq => .inl ⟨i, q, by rw [← hro]; exact hg, hq, by rw [upd_ext θ h.next r i (hR.rom i q (by rw [← hro]; exact hg)).1]⟩⟩
  by_cases hi : i = h.next
  · subst hi
    rw [upd_same]
    rcases hr with e | e
    · exact .inl ⟨id, o0, h0, e.symm⟩
    · right; omega
  · rw [hm, T.get_set_other _ _ _ _ _ hi] at hg
    by_cases hi' : i = id
    · subst hi'
      exact .inl ⟨i, o0, h0, by rw [upd_ext θ h.next r i hid]⟩
    · rw [T.get_set_other _ _ _ _ _ hi'] at hg
      exact .inl ⟨i, o', hg, by rw [upd_ext θ h.next r i (hR.obj i o' hg).1]⟩
end
end Go.Proofs.YtknplcpjmpmblaaDoor.GY
