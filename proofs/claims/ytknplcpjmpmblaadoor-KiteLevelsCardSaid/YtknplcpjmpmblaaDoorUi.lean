/- A run worked out: one operation, calls and rounds, where statements are worked out rightly. -/
import Derived.Test.YtknplcpjmpmblaaDoorUh
import Derived.RangeFuncLeaves
set_option linter.unusedVariables false
set_option linter.unusedSimpArgs false
namespace Go.Proofs.YtknplcpjmpmblaaDoor.GY
open Go Go.RowKit

abbrev FW (rd : Option Nat) : Fence := { Fence.wide with round := rd }
theorem FW_fn (rd : Option Nat) (f : FuncId) : (FW rd).fn f := trivial
theorem FW_depth (rd : Option Nat) : (FW rd).depth = none := rfl
theorem FW_calls {rd : Option Nat} {n : Nat} {P : Program} {f : FuncId} {args : Array Value} {w : World} {R : Ending → World → Prop} (h : CallsIn (FW none) n P f args w R) : CallsIn (FW rd) n P f args w R := h

noncomputable def concD (θ : Th) : AD → Deferred
  | .col id => { target := .collected (θ id).b, args := #[] }
  | .call f cap args => { target := .fn (.func f) (cap.map (conc θ)).toArray, args := (args.map (conc θ)).toArray }
def bdD (θ : Th) (n : Nat) : AD → Prop
  | .col id => id < n
  | .call _ cap args => bdl θ n cap ∧ bdl θ n args
theorem bdD_ext {θ θ' : Th} {n m : Nat} (he : Ext θ θ' n) (hn : n ≤ m) {d : AD} (h : bdD θ n d) : bdD θ' m d := by
  cases d with
  | col id => exact Nat.lt_of_lt_of_le h hn
  | call f cap args => exact ⟨bdl_ext he hn h.1, bdl_ext he hn h.2⟩
theorem concD_ext {θ θ' : Th} {n : Nat} (he : Ext θ θ' n) {d : AD} (h : bdD θ n d) : concD θ' d = concD θ d := by
  cases d with
  | col id => simp only [concD, he id h]
  | call f cap args => simp only [concD, concl_ext he h.1, concl_ext he h.2]
structure AOK (θ : Th) (n : Nat) (A : AA) (a : Act) : Prop where
  size : a.tmps.size = A.n
  kt : KT θ n A.t a.tmps
  ds : a.defers = A.ds.map (concD θ)
  bds : ∀ d ∈ A.ds, bdD θ n d
theorem AOK.ext {θ θ' : Th} {n m : Nat} {A : AA} {a : Act} (h : AOK θ n A a) (he : Ext θ θ' n) (hn : n ≤ m) : AOK θ' m A a :=
  ⟨h.size, h.kt.ext he hn, by rw [h.ds]; exact (List.map_congr_left fun d hd => concD_ext he (h.bds d hd)).symm, fun d hd => bdD_ext he hn (h.bds d hd)⟩
theorem AOK.ev {θ : Th} {n : Nat} {A : AA} {a : Act} (h : AOK θ n A a) : EvOK θ n A.ev a.eval := fun x v hv => by
  cases x with
  | tmp t =>
    obtain ⟨b, e⟩ := h.kt t v hv
    exact ⟨b, by simp [Act.eval, e]⟩
  | const v' => simp only [AA.ev, Option.some.injEq] at hv; subst hv; exact ⟨by simp [bd], by simp [Act.eval, conc]⟩
  | global g => simp [AA.ev] at hv
  | func f => simp only [AA.ev, Option.some.injEq] at hv; subst hv; exact ⟨by simp [bd], by simp [Act.eval, conc]⟩
theorem AOK.put {θ : Th} {n : Nat} {A A' : AA} {a : Act} (h : AOK θ n A a) {dst : Option Tmp} {v : AV} (hp : A.put dst v = some A') (hv : bd θ n v) : AOK θ n A' (a.put dst (conc θ v)) := by
  cases dst with
  | none => simp only [AA.put, Option.some.injEq] at hp; subst hp; exact h
  | some d =>
    obtain ⟨t, m, ds⟩ := A
    simp only [AA.put] at hp
    cases hb : (Nat.blt d 1024 && Nat.blt d m) with
    | false => rw [hb] at hp; cases hp
    | true =>
      rw [hb] at hp
      simp only [cond_true, Option.some.injEq] at hp
      subst hp
      simp only [Bool.and_eq_true] at hb
      have h1 : d < 1024 := Nat.le_of_ble_eq_true hb.1
      have h2 : d < m := Nat.le_of_ble_eq_true hb.2
      exact ⟨by simp [Act.put]; exact h.size, h.kt.set hv h1 (by rw [h.size]; exact h2), h.ds, h.bds⟩

noncomputable def concE : AExit → Exit
  | .norm => .normal
  | .exit id => .exit id
  | .goto l => .goto l
  | .ret => .ret
def rdB (θ : Th) (rd : Option Nat) : Option Nat := rd.map fun l => (θ l).b
/-- What is so behind a statement. -/
def Behind (base : Bs) (θ : Th) (h : AH) (w : World) (e : AExit) (A' : AA) (h' : AH) : Exit → Act → World → Prop :=
  fun ex a' w' => ex = concE e ∧ ∃ θ', Post base θ h w θ' h' w' ∧ AOK θ' h'.next A' a'
/-- Statements are worked out rightly. -/
def Sound (P : Program) (base : Bs) (rec : Rec) : Prop :=
  ∀ c rd A h e A' h', rec c rd A h = .ok e A' h' → (All h'.sc → All h.sc) ∧ (All h'.sc → ∀ θ a w, R base θ h w → AOK θ h.next A a → (∀ l, rd = some l → l < h.next) →
    c.wpIn (FW (rdB θ rd)) 0 P (Behind base θ h w e A' h') a w)
def EnterOK (P : Program) (f : FuncId) : Prop := ∀ args w, (callFunc f args).run P w = .ok (.enter f args) w
def All2 {α β : Type} (r : α → β → Prop) : List α → List β → Prop
  | [], [] => True
  | a :: l, b :: m => r a b ∧ All2 r l m
  | _, _ => False
theorem All2.mono {α β : Type} {r r' : α → β → Prop} (hr : ∀ a b, r a b → r' a b) : ∀ {l : List α} {m : List β}, All2 r l m → All2 r' l m
  | [], [], _ => trivial
  | a :: l, b :: m, h => ⟨hr a b h.1, All2.mono hr h.2⟩
  | [], _ :: _, h => h.elim
  | _ :: _, [], h => h.elim
/-- A value holds this; its rows lie in blocks from lo on. -/
def Reads1 (w : World) (lo : Nat) (v : Value) : GV → Prop
  | .lit u => v = u
  | .sb b => v = .bool b
  | .rows _ sz n f => ∃ A c, v = .slice A n c ∧ n ≤ c ∧ c ≤ maxLen ∧ (0 < n → ∃ b o, A = some ⟨b, o, none⟩ ∧ lo ≤ b ∧ b < w.heap.size ∧ ∀ k j, k < n → j < sz → w.cell? ⟨b, o + (k * sz + j), none⟩ = some (.int .i64 (f k j)))
  | _ => False
def ReadsA (w : World) (lo : Nat) (v : Value) : GV → Prop
  | .agg gs => ∃ vs : List Value, v = .agg vs.toArray ∧ All2 (Reads1 w lo) vs gs
  | g => Reads1 w lo v g
def Reads (w : World) (lo : Nat) (v : Value) : GV → Prop
  | .tup gs => ∃ vs : List Value, v = .tuple vs.toArray ∧ All2 (ReadsA w lo) vs gs
  | g => ReadsA w lo v g
/-- What a function gives, whatever its arguments hold. -/
def FnSpec (P : Program) (f : FuncId) (F : List GV → Option (GV × List Prop)) : Prop :=
  EnterOK P f ∧ ∀ (w : World) (vs : List Value) (gs : List GV) (g : GV) (ps : List Prop), All2 (ReadsA w 0) vs gs → F gs = some (g, ps) → All ps →
    Calls P f vs.toArray w fun e w' => ∃ v, e = .returned v ∧ Reads w' w.heap.size v g ∧ Below w.heap.size w w'
/-- What a call of a function is. -/
def CallOK (P : Program) (base : Bs) (θ : Th) (h : AH) (w : World) (v : AV) (h' : AH) : Ending → World → Prop :=
  fun e w' => ∃ θ', e = .returned (conc θ' v) ∧ bd θ' h'.next v ∧ Post base θ h w θ' h' w'

/-- A function of abstract values does what it is said to do. -/
def NatOK (P : Program) (base : Bs) (f : FuncId) (g : AH → List AV → Option (AV × AH)) : Prop :=
  EnterOK P f ∧ ∀ h args v h', g h args = some (v, h') → (All h'.sc → All h.sc) ∧ (All h'.sc → ∀ θ w, R base θ h w → bdl θ h.next args → CallsIn (FW none) 0 P f (args.map (conc θ)).toArray w (CallOK P base θ h w v h'))
/-- The tables tell the truth. -/
structure TabOK (P : Program) (tb : Tab) (base : Bs) : Prop where
  mixed : P.follows .mixedOrders = true
  ty : ∀ t i, tb.ty.get t = some i → TyOK P t i
  key : ∀ t n, tb.keyEq.get t = some n → KeyOK P t n
  pair : ∀ t n, tb.eqs.get t = some n → PairOK P t n
  fn : ∀ f fn, tb.fn.get f = some fn → P.funcs[f]? = some fn ∧ EnterOK P f
  sp : ∀ f F, tb.sp.get f = some F → FnSpec P f F
  nat : ∀ f g, tb.nat.get f = some g → NatOK P base f g
  dnat : ∀ f g, tb.dnat.get f = some g → EnterOK P f ∧ ∀ h args h', g h args = some h' → (All h'.sc → All h.sc) ∧ (All h'.sc → ∀ θ w, R base θ h w → bdl θ h.next args →
    CallsDIn (FW none) 0 P f (args.map (conc θ)).toArray .returning w fun e u' w' => (∃ v, e = .returned v) ∧ settle u' = .returning ∧ ∃ θ', Post base θ h w θ' h' w')
section
variable {P : Program} {tb : Tab} {rec : Rec} {θ : Th} {base : Bs} {h : AH} {w : World}
theorem args0_get : ∀ (l : List AV) (i : Nat) (t : T AV) (j : Nat), i + l.length ≤ 1024 → (args0 l i t).get j = if i ≤ j ∧ j < i + l.length then l[j - i]? else t.get j
  | [], i, t, j, h => by simp [args0]; omega
  | v :: vs, i, t, j, h => by
    simp only [args0, List.length_cons] at h ⊢
    rw [args0_get vs (i + 1) _ j (by omega)]
    by_cases hj : j = i
    · subst hj
      rw [if_neg (by omega), if_pos (by omega), T.get_set_same _ 11 t j (by omega)]
      simp
    · rw [T.get_set_other _ 11 t i j hj]
      by_cases hc : i + 1 ≤ j ∧ j < i + 1 + vs.length
      · rw [if_pos hc, if_pos (by omega), show j - i = (j - (i + 1)) + 1 by omega]
        simp
      · rw [if_neg hc, if_neg (by omega)]
theorem apart_load {t : TypeId} {i : TyI} (hTi : TyOK P t i) {n id off : Nat} {cs : List AV} {el : TypeId} {row : Option Nat} (hok : OOK θ n id (.cells cs el row) w) {v : AV} (hx : apart i.agg cs off i.size = some v) :
    bd θ n v ∧ (loadVar t ⟨(θ id).b, off, none⟩).run P w = .ok (conc θ v) w := by
  have hb : bdl θ n cs := hok.1
  unfold apart at hx
  unfold loadVar
  rw [Sem.run_bind, run_isAgg' hTi w]
  cases ha : i.agg with
  | true =>
    rw [ha] at hx
    simp only [if_true] at hx
    split at hx
    · rename_i hle
      cases hx
      refine ⟨?_, ?_⟩
      · simp only [bd]; exact fun x hx => hb x (List.mem_of_mem_drop (List.mem_of_mem_take hx))
      · have hl : (loadCells ⟨(θ id).b, off, none⟩ (((cs.drop off).take i.size).map (conc θ)).length).run P w = .ok (((cs.drop off).take i.size).map (conc θ)).toArray w :=
          run_loadCells_list (P := P) w _ _ fun j u hu => by
            rw [List.getElem?_map] at hu
            obtain ⟨x, hx, rfl⟩ := map_some hu
            rw [List.getElem?_take] at hx
            split at hx
            · rw [List.getElem?_drop] at hx
              rw [add_plain']
              exact hok.cell hx
            · cases hx
        have hlen : (((cs.drop off).take i.size).map (conc θ)).length = i.size := by simp; omega
        rw [hlen] at hl
        simp [Result.andThen, Sem.run_bind, run_size hTi w, hl, conc]
    · cases hx
  | false =>
    rw [ha] at hx
    simp only [Bool.false_eq_true, if_false] at hx
    refine ⟨hb v (List.mem_of_getElem? hx), ?_⟩
    have := hok.cell hx
    simp [Result.andThen, load, Sem.run, this]
def resv (tmps : Array Value) : ResultVar → Sem Value
  | .tmp t => pure (tmps.getD t undef)
  | .cell a t => do loadVar t (← asAddr (tmps.getD a undef))
theorem results_eq (fn : Func) (tmps : Array Value) : results fn tmps = (do let vs ← fn.results.mapM (resv tmps); pure (if h : vs.size = 1 then vs[0] else .tuple vs)) := by
  unfold results
  rfl
theorem aresults_ok (hT : ∀ t i, tb.ty.get t = some i → TyOK P t i) (hR : R base θ h w) {A : AA} {tmps : Array Value} (hk : KT θ h.next A.t tmps) : ∀ {rs : List ResultVar} {vs : List AV}, aresults h A tb rs = some vs →
    bdl θ h.next vs ∧ (rs.mapM (resv tmps)).run P w = .ok (vs.map (conc θ)) w
  | [], vs, hx => by cases hx; exact ⟨fun x hx => (by cases hx), rfl⟩
  | r :: rs, vs, hx => by
    simp only [aresults] at hx
    cases h1 : aresult h A tb r with
    | none => rw [h1] at hx; cases hx
    | some v =>
      cases h2 : aresults h A tb rs with
      | none => rw [h1, h2] at hx; cases hx
      | some us =>
        rw [h1, h2] at hx
        cases hx
        obtain ⟨c, d⟩ := aresults_ok hT hR hk h2
        have hv : bd θ h.next v ∧ (resv tmps r).run P w = .ok (conc θ v) w := by
          cases r with
          | tmp t =>
            obtain ⟨a, b⟩ := hk t v h1
            exact ⟨a, by simp [resv, b]⟩
          | cell a t =>
            simp only [aresult] at h1
            split at h1
            · rename_i i id off hi ha
              split at h1
              · rename_i cs el row hm
                obtain ⟨_, e⟩ := hk a _ ha
                obtain ⟨p, q⟩ := apart_load (hT t i hi) (hR.obj id _ hm).2.2 h1
                exact ⟨p, by simp [resv, e, conc, asAddr, Sem.run_bind, Result.andThen, q]⟩
              · cases h1
            · cases h1
        refine ⟨fun y hy => ?_, ?_⟩
        · rcases List.mem_cons.1 hy with rfl | hy
          · exact hv.1
          · exact c y hy
        · rw [List.mapM_cons, Sem.run_bind, hv.2]
          simp only [Result.andThen, Sem.run_bind, d, Sem.run_pure, List.map_cons]
/-- What values hold, of the run, they hold in the world. -/
theorem gv1_ok (hR : R base θ h w) {v : AV} {g : GV} {ps : List Prop} (hb : bd θ h.next v) (hx : gv1 h v = some (g, ps)) (hs : All ps) : Reads1 w 0 (conc θ v) g := by
  unfold gv1 at hx
  split at hx
  · split at hx
    · cases hx; exact ⟨none, 0, by simp [conc], Nat.le_refl _, Nat.zero_le _, fun h => absurd h (by omega)⟩
    · cases hx; simp [conc, Reads1]
  · cases hx; simp [conc, Reads1]
  · rename_i id n
    have key : ∀ {sz n' : Nat} {f : Nat → Nat → Int} {el : TypeId}, rowAt h id = some (sz, n', f) → n ≤ n' → Reads1 w 0 (conc θ (.isl id n)) (.rows el sz n f) := fun {sz n' f el} hr hle => by
      obtain ⟨a, b, c, d, e⟩ := rowAt_ok hR hr
      refine ⟨(θ id).a, (θ id).c, by simp [conc], by omega, d, fun h0 => ⟨(θ id).b, (θ id).o, e (by omega), Nat.zero_le _, ?_, fun k j hk hj => b k j (by omega) hj⟩⟩
      unfold rowAt at hr
      split at hr <;> try (cases hr; done)
      · rename_i hm; exact (hR.obj id _ hm).2.2.lt
      · split at hr <;> try (cases hr; done)
        rename_i r hm; cases hr; exact (hR.rom id _ hm).2.1.lt (by omega)
    split at hx
    · rename_i el sz n' f hm
      cases hx
      exact key (by unfold rowAt; rw [hm]) hs.1.p
    · cases hx
    · rename_i hm
      split at hx
      · rename_i r hr
        cases hx
        exact key (by unfold rowAt; rw [hm]; simp only [hr]) hs.1.p
      · cases hx
  · cases hx
theorem gvl_ok {gv : AV → Option (GV × List Prop)} {r : Value → GV → Prop} (hg : ∀ v g ps, bd θ h.next v → gv v = some (g, ps) → All ps → r (conc θ v) g) : ∀ {l : List AV} {gs : List GV} {ps : List Prop}, gvl gv l = some (gs, ps) → bdl θ h.next l → All ps → All2 r (l.map (conc θ)) gs
  | [], gs, ps, hx, _, _ => by cases hx; trivial
  | v :: vs, gs, ps, hx, hb, hs => by
    simp only [gvl] at hx
    split at hx <;> try (cases hx; done)
    rename_i x qs h1
    split at hx <;> try (cases hx; done)
    rename_i xs rs h2
    cases hx
    have hs' := All.append.1 hs
    exact ⟨hg v x qs (hb v (by simp)) h1 hs'.1, gvl_ok hg h2 (fun y hy => hb y (by simp [hy])) hs'.2⟩
theorem gvA_ok (hR : R base θ h w) {v : AV} {g : GV} {ps : List Prop} (hb : bd θ h.next v) (hx : gvA h v = some (g, ps)) (hs : All ps) : ReadsA w 0 (conc θ v) g := by
  unfold gvA at hx
  split at hx
  · split at hx <;> try (cases hx; done)
    rename_i cs _ xs qs h1
    cases hx
    simp only [bd] at hb
    exact ⟨cs.map (conc θ), by simp only [conc], gvl_ok (fun v g ps hb hx hs => gv1_ok hR hb hx hs) h1 hb hs⟩
  · have := gv1_ok hR hb hx hs
    cases g <;> first | exact this | exact this.elim
theorem gvs_ok (hR : R base θ h w) {l : List AV} {gs : List GV} {ps : List Prop} (hb : bdl θ h.next l) (hx : gvs h l = some (gs, ps)) (hs : All ps) : All2 (ReadsA w 0) (l.map (conc θ)) gs :=
  gvl_ok (fun v g ps hb hx hs => gvA_ok hR hb hx hs) hx hb hs
/-- Laid: what a value holds. -/
structure LdOK (base : Bs) (lo : Nat) (θ : Th) (h : AH) (w : World) (θ' : Th) (h' : AH) : Prop where
  ext : Ext θ θ' h.next
  next : h.next ≤ h'.next
  r : R base θ' h' w
  m : h'.m = h.m
  sc : h'.sc = h.sc
  own : ∀ id r, h'.ro.get id = some r → 0 < r.n → (∃ id0 r0, h.ro.get id0 = some r0 ∧ 0 < r0.n ∧ (θ id0).b = (θ' id).b) ∨ lo ≤ (θ' id).b
theorem LdOK.refl {lo : Nat} (hR : R base θ h w) : LdOK base lo θ h w θ h := ⟨Ext.refl _ _, Nat.le_refl _, hR, rfl, rfl, fun id r hg h0 => .inl ⟨id, r, hg, h0, rfl⟩⟩
theorem LdOK.trans {lo : Nat} {θ' θ'' : Th} {h' h'' : AH} (p : LdOK base lo θ h w θ' h') (q : LdOK base lo θ' h' w θ'' h'') : LdOK base lo θ h w θ'' h'' := by
  refine ⟨p.ext.trans q.ext p.next, Nat.le_trans p.next q.next, q.r, q.m.trans p.m, q.sc.trans p.sc, fun id r hg h0 => ?_⟩
  rcases q.own id r hg h0 with ⟨id1, r1, h1, h1n, e⟩ | e
  · rcases p.own id1 r1 h1 h1n with ⟨id0, r0, h2, h2n, e'⟩ | e'
    · exact .inl ⟨id0, r0, h2, h2n, e'.trans e⟩
    · right; rw [← e]; exact e'
  · exact .inr e
theorem ldRow_ok {lo : Nat} {fr : Bool} (hfr : fr = true → base ≤ lo) (hR : R base θ h w) (hlo : ∀ id o, h.m.get id = some o → (θ id).b < lo ∨ lo = 0) (hlo0 : lo = 0 → ∀ id o, h.m.get id ≠ some o) {el : TypeId} {sz n : Nat} {f : Nat → Nat → Int} {v : Value} (hv : Reads1 w lo v (.rows el sz n f)) {a : AV} {h' : AH} (hx : ldRow fr el sz n f h = some (a, h')) :
    ∃ θ', LdOK base lo θ h w θ' h' ∧ bd θ' h'.next a ∧ conc θ' a = v := by
  unfold ldRow at hx
  split at hx <;> try (cases hx; done)
  rename_i h1 ha
  obtain ⟨m, next, ro, sc, orc⟩ := h
  cases hx
  obtain ⟨q0, q1, q2, q3, q4⟩ := AH.addRO_spec ha
  simp only at q0 q1 q2 q3 q4
  obtain ⟨A, c, rfl, hle, hcap, hcell⟩ := hv
  obtain ⟨b, hb⟩ : ∃ b, 0 < n → ∃ o, A = some ⟨b, o, none⟩ ∧ lo ≤ b ∧ b < w.heap.size ∧ ∀ k j, k < n → j < sz → w.cell? ⟨b, o + (k * sz + j), none⟩ = some (.int .i64 (f k j)) := by
    rcases Nat.eq_zero_or_pos n with h | h
    · exact ⟨0, fun h' => by omega⟩
    · obtain ⟨b, o, hh⟩ := hcell h; exact ⟨b, fun _ => ⟨o, hh⟩⟩
  have hE := upd_ext θ next ⟨b, c, A⟩
  have hsame := upd_same θ next ⟨b, c, A⟩
  have hrow : ROK base (upd θ next ⟨b, c, A⟩) next ⟨fr, el, sz, n, f⟩ w := by
    refine ⟨by rw [hsame]; exact hle, by rw [hsame]; exact hcap, fun h0 => ?_, fun k j hk hj => ?_, fun h0 hf => ?_, fun h0 => ?_⟩
    · obtain ⟨o, h1, _⟩ := hb h0; rw [hsame]; exact ⟨o, h1⟩
    · obtain ⟨o, h1, _, _, h4⟩ := hb (by simp only at hk; omega)
      rw [hsame]; simp only [Ref.o, h1]; exact h4 k j hk hj
    · obtain ⟨o, h1, h2, _⟩ := hb h0; rw [hsame]; exact Nat.le_trans (hfr hf) h2
    · obtain ⟨o, h1, _, h3, _⟩ := hb h0; rw [hsame]; exact h3
  refine ⟨upd θ next ⟨b, c, A⟩, ⟨hE, by simp only [q2]; omega, ?_, q1, q4, fun id r hg h0 => ?_⟩, by simp only [bd, q2, hsame]; exact ⟨by omega, fun h0 => by obtain ⟨o, h1, _⟩ := hb h0; simp [Ref.o, h1]⟩, by simp only [conc, hsame]⟩
  · refine ⟨fun id o hg => ?_, fun id id' o o' g1 g2 hne => ?_, hR.size, hR.b0, fun id r hg => ?_⟩
    · rw [q1] at hg
      obtain ⟨x, y, z⟩ := hR.obj id o hg
      simp only at x
      exact ⟨by omega, by rw [hE id x]; exact y, by rw [q2]; exact z.ext hE (Nat.le_succ _) x rfl⟩
    · rw [q1] at g1 g2
      rw [hE id (hR.obj id o g1).1, hE id' (hR.obj id' o' g2).1]
      exact hR.inj id id' o o' g1 g2 hne
    · rw [q3] at hg
      by_cases hid : id = next
      · subst hid
        rw [T.get_set_same _ 41 _ _ (by omega)] at hg
        cases hg
        refine ⟨by omega, hrow, fun h0 id' o hg' => ?_⟩
        rw [q1] at hg'
        rw [hsame, hE id' (hR.obj id' o hg').1]
        obtain ⟨o2, h1, h2, _⟩ := hb h0
        rcases hlo id' o hg' with hl | hl
        · simp only; omega
        · exact absurd hg' (hlo0 hl id' o)
      · rw [T.get_set_other _ 41 _ _ _ hid] at hg
        obtain ⟨x, y, z⟩ := hR.rom id r hg
        simp only at x
        refine ⟨by omega, y.keep (hE id x) (fun _ => rfl) (Nat.le_refl _), fun h0 id' o hg' => ?_⟩
        rw [q1] at hg'
        rw [hE id x, hE id' (hR.obj id' o hg').1]
        exact z h0 id' o hg'
  · rw [q3] at hg
    by_cases hid : id = next
    · subst hid
      rw [T.get_set_same _ 41 _ _ (by omega)] at hg
      cases hg
      obtain ⟨o, h1, h2, _⟩ := hb h0
      right; rw [hsame]; exact h2
    · rw [T.get_set_other _ 41 _ _ _ hid] at hg
      exact .inl ⟨id, r, hg, h0, by rw [hE id (hR.rom id r hg).1]⟩
/-- What must be so that something can be laid. -/
structure LoOK (base : Bs) (lo : Nat) (fr : Bool) (θ : Th) (h : AH) : Prop where
  p1 : fr = true → base ≤ lo
  p2 : ∀ id o, h.m.get id = some o → (θ id).b < lo ∨ lo = 0
  p3 : lo = 0 → ∀ id o, h.m.get id ≠ some o
theorem LoOK.ld {lo : Nat} {fr : Bool} {θ' : Th} {h' : AH} (p : LoOK base lo fr θ h) (hR : R base θ h w) (q : LdOK base lo θ h w θ' h') : LoOK base lo fr θ' h' :=
  ⟨p.p1, fun id o hg => by rw [q.m] at hg; rw [q.ext id (hR.obj id o hg).1]; exact p.p2 id o hg, fun h0 id o => by rw [q.m]; exact p.p3 h0 id o⟩
theorem ld1_ok {lo : Nat} {fr : Bool} (hL : LoOK base lo fr θ h) (hR : R base θ h w) {g : GV} {v : Value} (hv : Reads1 w lo v g) {a : AV} {h' : AH} (hx : ld1 fr g h = some (a, h')) : ∃ θ', LdOK base lo θ h w θ' h' ∧ bd θ' h'.next a ∧ conc θ' a = v := by
  unfold ld1 at hx
  split at hx
  · cases hx; exact ⟨θ, LdOK.refl hR, by simp [bd], by simp only [conc]; exact hv.symm⟩
  · cases hx; exact ⟨θ, LdOK.refl hR, by simp [bd], by simp only [conc]; exact hv.symm⟩
  · exact ldRow_ok hL.p1 hR hL.p2 hL.p3 hv hx
  · cases hx
theorem ldl_ok {lo : Nat} {fr : Bool} {ld : GV → AH → Option (AV × AH)} {r : Value → GV → Prop} (hl : ∀ {θ : Th} {h : AH}, LoOK base lo fr θ h → R base θ h w → ∀ {g : GV} {v : Value}, r v g → ∀ {a : AV} {h' : AH}, ld g h = some (a, h') → ∃ θ', LdOK base lo θ h w θ' h' ∧ bd θ' h'.next a ∧ conc θ' a = v) :
    ∀ {gs : List GV} {vs : List Value} {θ : Th} {h : AH}, LoOK base lo fr θ h → R base θ h w → All2 r vs gs → ∀ {l : List AV} {h' : AH}, ldl ld gs h = some (l, h') → ∃ θ', LdOK base lo θ h w θ' h' ∧ bdl θ' h'.next l ∧ l.map (conc θ') = vs
  | [], [], θ, h, hL, hR, hv, l, h', hx => by cases hx; exact ⟨θ, LdOK.refl hR, (fun x hx => by cases hx), rfl⟩
  | [], _ :: _, θ, h, hL, hR, hv, l, h', hx => hv.elim
  | _ :: _, [], θ, h, hL, hR, hv, l, h', hx => hv.elim
  | g :: gs, v :: vs, θ, h, hL, hR, hv, l, h', hx => by
    simp only [ldl] at hx
    split at hx <;> try (cases hx; done)
    rename_i a h1 hx1
    split at hx <;> try (cases hx; done)
    rename_i as' h2 hx2
    cases hx
    obtain ⟨θ1, p1, p2, p3⟩ := hl hL hR hv.1 hx1
    obtain ⟨θ2, q1, q2, q3⟩ := ldl_ok hl (hL.ld hR p1) p1.r hv.2 hx2
    refine ⟨θ2, p1.trans q1, fun y hy => ?_, ?_⟩
    · rcases List.mem_cons.1 hy with rfl | hy
      · exact bd_ext q1.ext q1.next _ p2
      · exact q2 y hy
    · simp only [List.map_cons, q3, conc_ext q1.ext _ p2, p3]
theorem ldA_ok {lo : Nat} {fr : Bool} (hL : LoOK base lo fr θ h) (hR : R base θ h w) {g : GV} {v : Value} (hv : ReadsA w lo v g) {a : AV} {h' : AH} (hx : ldA fr g h = some (a, h')) : ∃ θ', LdOK base lo θ h w θ' h' ∧ bd θ' h'.next a ∧ conc θ' a = v := by
  unfold ldA at hx
  split at hx
  · split at hx <;> try (cases hx; done)
    rename_i gs xs h1 hx1
    cases hx
    obtain ⟨vs, rfl, h2⟩ := hv
    obtain ⟨θ', p1, p2, p3⟩ := ldl_ok (ld := ld1 fr) (r := Reads1 w lo) (fun {_ _} hL hR {_ _} hv {_ _} hx => ld1_ok hL hR hv hx) hL hR h2 hx1
    exact ⟨θ', p1, by simp only [bd]; exact p2, by simp only [conc, p3]⟩
  · rename_i hne
    refine ld1_ok hL hR ?_ hx
    cases g <;> first | exact hv | exact absurd rfl (hne _)
theorem lds_ok {lo : Nat} {fr : Bool} (hL : LoOK base lo fr θ h) (hR : R base θ h w) {gs : List GV} {vs : List Value} (hv : All2 (ReadsA w lo) vs gs) {l : List AV} {h' : AH} (hx : lds fr gs h = some (l, h')) : ∃ θ', LdOK base lo θ h w θ' h' ∧ bdl θ' h'.next l ∧ l.map (conc θ') = vs :=
  ldl_ok (ld := ldA fr) (r := ReadsA w lo) (fun {_ _} hL hR {_ _} hv {_ _} hx => ldA_ok hL hR hv hx) hL hR hv hx
theorem ld_ok {lo : Nat} {fr : Bool} (hL : LoOK base lo fr θ h) (hR : R base θ h w) {g : GV} {v : Value} (hv : Reads w lo v g) {a : AV} {h' : AH} (hx : ld fr g h = some (a, h')) : ∃ θ', LdOK base lo θ h w θ' h' ∧ bd θ' h'.next a ∧ conc θ' a = v := by
  unfold ld at hx
  split at hx
  · split at hx <;> try (cases hx; done)
    rename_i gs xs h1 hx1
    cases hx
    obtain ⟨vs, rfl, h2⟩ := hv
    obtain ⟨θ', p1, p2, p3⟩ := lds_ok hL hR h2 hx1
    exact ⟨θ', p1, by simp only [bd]; exact p2, by simp only [conc, p3]⟩
  · rename_i hne
    refine ldA_ok hL hR ?_ hx
    cases g <;> first | exact hv | exact absurd rfl (hne _)
theorem ldl_sc {ld : GV → AH → Option (AV × AH)} (hl : ∀ g h a h', ld g h = some (a, h') → h'.sc = h.sc) : ∀ {gs : List GV} {h h' : AH} {l : List AV}, ldl ld gs h = some (l, h') → h'.sc = h.sc
  | [], h, h', l, hx => by cases hx; rfl
  | g :: gs, h, h', l, hx => by
    simp only [ldl] at hx
    split at hx <;> try (cases hx; done)
    rename_i a h1 hx1
    split at hx <;> try (cases hx; done)
    rename_i as' h2 hx2
    cases hx
    exact (ldl_sc hl hx2).trans (hl _ _ _ _ hx1)
theorem ld1_sc {fr : Bool} {g : GV} {h h' : AH} {a : AV} (hx : ld1 fr g h = some (a, h')) : h'.sc = h.sc := by
  unfold ld1 at hx
  split at hx
  · cases hx; rfl
  · cases hx; rfl
  · unfold ldRow at hx
    split at hx <;> try (cases hx; done)
    rename_i h1 ha
    have := (AH.addRO_spec ha).2.2.2.2
    obtain ⟨m, next, ro, sc, orc⟩ := h
    cases hx; exact this
  · cases hx
theorem ldA_sc {fr : Bool} {g : GV} {h h' : AH} {a : AV} (hx : ldA fr g h = some (a, h')) : h'.sc = h.sc := by
  unfold ldA at hx
  split at hx
  · split at hx <;> try (cases hx; done)
    rename_i gs xs h1 hx1
    cases hx
    exact ldl_sc (fun _ _ _ _ h => ld1_sc h) hx1
  · exact ld1_sc hx
theorem ld_sc {fr : Bool} {g : GV} {h h' : AH} {a : AV} (hx : ld fr g h = some (a, h')) : h'.sc = h.sc := by
  unfold ld at hx
  split at hx
  · split at hx <;> try (cases hx; done)
    rename_i gs xs h1 hx1
    cases hx
    exact ldl_sc (fun _ _ _ _ h => ldA_sc h) hx1
  · exact ldA_sc hx
theorem leaves_sc (hB : TabOK P tb base) : ∀ {ds : List AD} {h h' : AH}, leaves tb ds h = some h' → All h'.sc → All h.sc
  | [], h, h', hl, hs => by cases hl; exact hs
  | .col id :: ds, h, h', hl, hs => by
    simp only [leaves] at hl
    split at hl <;> try (cases hl; done)
    split at hl <;> try (cases hl; done)
    rename_i h1 hp
    have := leaves_sc hB hl hs
    rw [(AH.put_spec hp).2.2.2.2] at this; exact this
  | .call f cap args :: ds, h, h', hl, hs => by
    simp only [leaves] at hl
    split at hl <;> try (cases hl; done)
    rename_i g hg
    split at hl <;> try (cases hl; done)
    rename_i h1 hgr
    exact ((hB.dnat f g hg).2 h _ h1 hgr).1 (leaves_sc hB hl hs)
theorem leaves_ok (hB : TabOK P tb base) {fn : Func} {tmps : Array Value} {R' : Ending → World → Prop} : ∀ {ds : List AD} {h h' : AH} {θ : Th} {w : World}, leaves tb ds h = some h' → All h'.sc → R base θ h w → (∀ d ∈ ds, bdD θ h.next d) →
    (∀ θ' w', Post base θ h w θ' h' w' → ∃ v, (results fn tmps).run P w' = .ok v w' ∧ R' (.returned v) w') → LeavesInM (FW none) 0 P fn tmps R' (ds.map (concD θ)) .returning w
  | [], h, h', θ, w, hl, hs, hR, hb, hk => by
    cases hl
    exact hk θ w (Post.refl hR)
  | .col id :: ds, h, h', θ, w, hl, hs, hR, hb, hk => by
    simp only [leaves] at hl
    split at hl
    · rename_i hm
      split at hl
      · rename_i h1 hp
        obtain ⟨hidn, hbase, hok⟩ := hR.obj id _ hm
        have hheap : w.heap[(θ id).b]? = some (.deferred (some [])) := hok
        have hP : Post base θ h w θ h1 (w.putObj (θ id).b (.deferred none)) :=
          Post.put hR hm hp (fun k hk => World.putObj_heap_other hk) (by simp) (putObj_below hbase) (World.putObj_heap_same hok.lt)
        refine ⟨by simp, .inl ⟨(θ id).b, _, rfl, run_takeDeferred hheap, ?_⟩⟩
        exact leaves_ok hB hl hs hP.r (fun d hd => by have := hb d (by simp [hd]); rw [(AH.put_spec hp).2.2.1]; exact this) fun θ' w' hP' => hk θ' w' (hP.trans hP')
      · cases hl
    · cases hl
  | .call f cap args :: ds, h, h', θ, w, hl, hs, hR, hb, hk => by
    simp only [leaves] at hl
    split at hl
    · rename_i g hg
      split at hl
      · rename_i h1 hgr
        obtain ⟨hent, hc⟩ := hB.dnat f g hg
        have hbd : bdD θ h.next (.call f cap args) := hb _ (by simp)
        have hba : bdl θ h.next (args ++ cap) := fun y hy => by
          rcases List.mem_append.1 hy with hy | hy
          · exact hbd.2 y hy
          · exact hbd.1 y hy
        have hcall := (hc h (args ++ cap) h1 hgr).2 (leaves_sc hB hl hs) θ w hR hba
        have eargs : (args.map (conc θ)).toArray ++ (cap.map (conc θ)).toArray = ((args ++ cap).map (conc θ)).toArray := by simp
        refine ⟨by simp, .inr ⟨by simp [FW, Fence.wide], .func f, (cap.map (conc θ)).toArray, f, ((args ++ cap).map (conc θ)).toArray, rfl, ?_, fun _ _ => trivial, ?_⟩⟩
        · simp only [concD, invoke, eargs]
          exact hent _ _
        · refine CallsDIn.mono hcall fun e u' w' he => ?_
          obtain ⟨⟨v, rfl⟩, hu, θ', hP⟩ := he
          simp only [hu]
          have hrest := leaves_ok hB (θ := θ') (R' := R') (fn := fn) (tmps := tmps) hl hs hP.r (fun d hd => bdD_ext hP.ext hP.next (hb d (by simp [hd]))) fun θ'' w'' hP' => hk θ'' w'' (hP.trans hP')
          rw [List.map_congr_left fun d hd => concD_ext hP.ext (hb d (by simp [hd]))] at hrest
          exact hrest
      · cases hl
    · cases hl
/-- A call. -/
theorem xcall_ok (hB : TabOK P tb base) (hS : Sound P base rec) {f : FuncId} {args : List AV} {v : AV} {h' : AH} (hx : xcall tb rec f args h = some (v, h')) :
    (All h'.sc → All h.sc) ∧ (All h'.sc → ∀ θ w, R base θ h w → bdl θ h.next args → EnterOK P f ∧ CallsIn (FW none) 0 P f (args.map (conc θ)).toArray w (CallOK P base θ h w v h')) := by
  unfold xcall at hx
  split at hx
  · rename_i g hg
    obtain ⟨hent, hn⟩ := hB.nat f g hg
    obtain ⟨n1, n2⟩ := hn h args v h' hx
    exact ⟨n1, fun hs θ w hR hb => ⟨hent, n2 hs θ w hR hb⟩⟩
  split at hx
  · rename_i F hF
    split at hx <;> try (cases hx; done)
    rename_i gs ps hg
    split at hx <;> try (cases hx; done)
    rename_i g qs hFg
    have hsc := ld_sc hx
    refine ⟨fun hs => (also_all.1 (by rw [← hsc]; exact hs)).2, fun hs θ w hR hb => ?_⟩
    have hs1 := (also_all.1 (show All (h.also (ps ++ qs)).sc by rw [← hsc]; exact hs)).1
    obtain ⟨hps, hqs⟩ := All.append.1 hs1
    obtain ⟨hent, hc⟩ := hB.sp f F hF
    refine ⟨hent, callsIn_wide.2 ((hc w _ gs g qs (gvs_ok hR hb hg hps) hFg hqs).mono fun e w' he => ?_)⟩
    obtain ⟨u, rfl, hu, hbel⟩ := he
    have hR' : R base θ (h.also (ps ++ qs)) w' := (hR.more hbel).same rfl rfl rfl
    have hL : LoOK base w.heap.size true θ (h.also (ps ++ qs)) := ⟨fun _ => hR.size, fun id o hg => .inl (hR.obj id o hg).2.2.lt, fun h0 id o hg => by have := (hR.obj id o hg).2.2.lt; omega⟩
    obtain ⟨θ', hld, hbv, hcv⟩ := ld_ok hL hR' hu hx
    refine ⟨θ', by rw [hcv], hbv, hld.ext, hld.next, hld.r, hbel.mono hR.size, fun k hk _ => hbel.block k hk, fun id o hg => ?_, fun id r hg h0 => hld.own id r hg h0⟩
    have hg' : h.m.get id = some o := by rw [hld.m] at hg; exact hg
    exact .inl ⟨id, o, hg', by rw [hld.ext id (hR.obj id o hg').1]⟩
  · split at hx <;> try (cases hx; done)
    rename_i fn hfn
    split at hx <;> try (cases hx; done)
    rename_i c hc
    split at hx <;> try (cases hx; done)
    rename_i hlen
    obtain ⟨hl1, hl2⟩ := hlen
    split at hx <;> try (cases hx; done)
    rename_i e A h1 hrec
    split at hx <;> try (cases hx; done)
    rename_i he
    split at hx <;> try (cases hx; done)
    rename_i h2 hlv
    have hh : h2 = h' := by
      split at hx <;> first | (cases hx; rfl) | (cases hx; done)
    have hS1 := hS c none _ h e A h1 hrec
    refine ⟨fun hs => hS1.1 (leaves_sc hB hlv (by rw [hh]; exact hs)), fun hs θ w hR hb => ?_⟩
    have hs2 : All h2.sc := by rw [hh]; exact hs
    have hs1 := leaves_sc hB hlv hs2
    obtain ⟨hpf, hent⟩ := hB.fn f fn hfn
    refine ⟨hent, callsIn_of_wp_marks hpf hc trivial ?_⟩
    have hA0 : AOK θ h.next { t := args0 args 0 .e, n := fn.ntmps, ds := [] } { tmps := (args.map (conc θ)).toArray ++ Array.replicate (fn.ntmps - (args.map (conc θ)).toArray.size) undef, defers := [] } := by
      refine ⟨by simp; omega, fun i u hu => ?_, rfl, fun d hd => by cases hd⟩
      rw [args0_get args 0 .e i (by omega)] at hu
      split at hu
      · rename_i hi
        simp only [Nat.sub_zero] at hu
        refine ⟨hb u (List.mem_of_getElem? hu), ?_⟩
        simp only [Array.getElem?_append]
        rw [if_pos (by simp; omega)]
        simp [hu]
      · cases hu
    refine wpIn_mono (hS1.2 hs1 θ _ w hR hA0 (by simp)) fun ex a' w' hbe => ?_
    obtain ⟨hex, θ1, hP, hA⟩ := hbe
    have key : LeavesInM (FW none) 0 P fn a'.tmps (CallOK P base θ h w v h') a'.defers .returning w' := by
      rw [hA.ds]
      refine leaves_ok hB hlv hs2 hP.r hA.bds fun θ' w'' hP' => ?_
      have hA' := hA.ext hP'.ext hP'.next
      cases hr : aresults h2 A tb fn.results.toList with
      | none => rw [hr] at hx; cases hx
      | some vs =>
        rw [hr] at hx
        obtain ⟨hbv, hrun⟩ := aresults_ok hB.ty hP'.r hA'.kt hr
        have hres : (results fn a'.tmps).run P w'' = .ok (if h : (vs.map (conc θ')).toArray.size = 1 then (vs.map (conc θ')).toArray[0] else .tuple (vs.map (conc θ')).toArray) w'' := by
          have em : (fn.results.mapM (resv a'.tmps)).run P w'' = .ok (vs.map (conc θ')).toArray w'' := by simp [Array.mapM_eq_mapM_toList, hrun]
          rw [results_eq, Sem.run_bind, em]
          rfl
        refine ⟨_, hres, θ', ?_⟩
        have hP2 := hP.trans hP'
        match vs, hx, hbv with
        | [], hx, hbv => cases hx; exact ⟨by simp [conc], by simp only [bd]; exact hbv, hP2⟩
        | [u], hx, hbv => cases hx; exact ⟨by simp, hbv _ (by simp), hP2⟩
        | u :: u' :: us, hx, hbv => cases hx; exact ⟨by simp [conc], by simp only [bd]; exact hbv, hP2⟩
    rcases he with rfl | rfl <;> (subst hex; exact key)
theorem params0_ok {n : Nat} : ∀ {l : List (Tmp × AV)} {t t' : T AV} {m : Nat} {tmps : Array Value}, params0 l t m = some t' → KT θ n t tmps → tmps.size = m → (∀ p ∈ l, bd θ n p.2) →
    KT θ n t' ((l.map fun p => (p.1, conc θ p.2)).foldl (fun tmps (t, a) => tmps.setIfInBounds t a) tmps) ∧ ((l.map fun p => (p.1, conc θ p.2)).foldl (fun tmps (t, a) => tmps.setIfInBounds t a) tmps).size = m
  | [], t, t', m, tmps, hp, hk, hm, hb => by cases hp; exact ⟨hk, hm⟩
  | (d, v) :: r, t, t', m, tmps, hp, hk, hm, hb => by
    simp only [params0] at hp
    split at hp
    · rename_i hc
      simp only [List.map_cons, List.foldl_cons]
      exact params0_ok hp (hk.set (hb (d, v) (by simp)) hc.1 (by rw [hm]; exact hc.2)) (by simp [hm]) fun p hp' => hb p (by simp [hp'])
    · cases hp
theorem codeOf_none {e : AExit} : (codeOf e).isNone = (codeOf e).isSome.not := by cases e <;> rfl
/-- A round. -/
theorem xround_ok (hB : TabOK P tb base) (hS : Sound P base rec) {id : Nat} {args : List AV} {v : AV} {h' : AH} (hx : xround rec id args h = some (v, h')) (rd : Option Nat) :
    (All h'.sc → All h.sc) ∧ (All h'.sc → ∀ θ w, R base θ h w → bdl θ h.next args → ∃ f tmps assign body, (Instr.yield (θ id).b (args.map (conc θ)).toArray).run P w = .ok (.round (θ id).b f tmps assign body) w ∧ RoundIn (FW rd) 0 P (θ id).b f tmps assign body w (CallOK P base θ h w v h')) := by
  unfold xround at hx
  split at hx <;> try (cases hx; done)
  rename_i r hm
  split at hx <;> try (cases hx; done)
  rename_i hc
  obtain ⟨hc1, hc2, hc3⟩ := hc
  split at hx <;> try (cases hx; done)
  rename_i t hpar
  split at hx <;> try (cases hx; done)
  rename_i A h1 hrec1
  split at hx <;> try (cases hx; done)
  rename_i r1 hm1
  split at hx <;> try (cases hx; done)
  rename_i hc1'
  split at hx <;> try (cases hx; done)
  rename_i h2 hset1
  split at hx <;> try (cases hx; done)
  rename_i e A' h3 hrec2
  split at hx <;> try (cases hx; done)
  rename_i r3 hm3
  split at hx <;> try (cases hx; done)
  rename_i h4 hset2
  cases hx
  have e4 : h'.sc = h3.sc := (AH.put_spec hset2).2.2.2.2
  have e2 : h2.sc = h1.sc := (AH.put_spec hset1).2.2.2.2
  have hS1 := hS _ _ _ _ _ _ _ hrec1
  have hS2 := hS _ _ _ _ _ _ _ hrec2
  refine ⟨fun hs => hS1.1 (by rw [← e2]; exact hS2.1 (by rw [← e4]; exact hs)), fun hs θ w hR hb => ?_⟩
  have hs3 : All h3.sc := by rw [← e4]; exact hs
  have hs1 : All h1.sc := by rw [← e2]; exact hS2.1 hs3
  obtain ⟨hidn, hbase, hok⟩ := hR.obj id _ hm
  obtain ⟨hdfr, L, hL, hst, hst', hpend, hps, has, hbo, hkt, hnt, hdef⟩ := hok
  have hyield := run_yield (P := P) (args := (args.map (conc θ)).toArray) hL (by simp [hps, hc3])
  refine ⟨L.fn, _, L.assign, L.body, hyield, ?_⟩
  have hzip : ((L.params.zip (args.map (conc θ)).toArray).toList) = (r.params.toList.zip args).map fun p => (p.1, conc θ p.2) := by
    rw [Array.toList_zip, hps, List.toList_toArray, List.zip_map_right]; rfl
  have hpk := params0_ok (θ := θ) (n := h.next) hpar hkt hnt (fun p hp => hb p.2 (List.of_mem_zip hp).2)
  rw [← hzip, Array.foldl_toList] at hpk
  have hA0 : AOK θ h.next { t := t, n := r.nt, ds := [] } { tmps := (L.params.zip (args.map (conc θ)).toArray).foldl (fun tmps (t, a) => tmps.setIfInBounds t a) L.tmps, defers := [] } :=
    ⟨hpk.2, hpk.1, rfl, fun d hd => by cases hd⟩
  refine roundIn_of_wpIn trivial ?_
  have h1' := hS1.2 hs1 θ _ w hR hA0 (fun l hl => by cases hl; exact hidn)
  rw [has]
  refine wpIn_mono h1' fun ex a1 w1 hbe => ?_
  obtain ⟨hex, θ1, hP1, hA1⟩ := hbe
  subst hex
  show ∃ w₂, _
  obtain ⟨hidn1, hbase1, hok1⟩ := hP1.r.obj id _ hm1
  obtain ⟨hdfr1, L1, hL1, hst1, hst1', hpend1, hps1, has1, hbo1, hkt1, hnt1, hdef1⟩ := hok1
  have hbeq : (θ1 id).b = (θ id).b := by rw [hP1.ext id hidn]
  rw [hbeq] at hL1 hbase1
  have hready : L1.state = .ready := by rw [hst1 (.inl hc1'.2)]; simp [lstate, hc1'.1, hc1'.2]
  refine ⟨_, run_beginRound (P := P) hL1 hready, ?_⟩
  have hlt1 : (θ id).b < w1.heap.size := (Array.getElem?_eq_some_iff.1 hL1).1
  have hsp1 := AH.put_spec hset1
  have hP2 : Post base θ1 h1 w1 θ1 h2 (w1.putObj (θ id).b (.loop { L1 with state := .busy })) := by
    refine Post.put hP1.r hm1 hset1 (fun k hk => World.putObj_heap_other (by rw [← hbeq]; exact hk)) (by simp) (putObj_below hbase1) ?_
    refine ⟨hdfr1, { L1 with state := .busy }, by rw [hbeq]; exact World.putObj_heap_same hlt1, fun _ => by simp [lstate], fun h => by simp at h, hpend1, hps1, has1, hbo1, hkt1, hnt1, hdef1⟩
  have hbody : L1.body = L.body ∨ True := .inr trivial
  have hA1' : AOK θ1 h2.next A a1 := hA1.ext (Ext.refl _ _) (by rw [hsp1.2.2.1]; exact Nat.le_refl _)
  have h2' := hS2.2 hs3 θ1 a1 _ hP2.r hA1' (fun l hl => by cases hl; rw [hsp1.2.2.1]; exact hidn1)
  simp only [rdB, Option.map_some, hbeq] at h2'
  rw [hbo]
  refine wpIn_mono h2' fun ex a2 w2 hbe => ?_
  obtain ⟨hex, θ2, hP3, hA2⟩ := hbe
  obtain ⟨hidn3, hbase3, hok3⟩ := hP3.r.obj id _ hm3
  obtain ⟨hdfr3, L3, hL3, hst3, hst3', hpend3, hps3, has3, hbo3, hkt3, hnt3, hdef3⟩ := hok3
  have hbeq3 : (θ2 id).b = (θ id).b := by rw [hP3.ext id (by rw [hsp1.2.2.1]; exact hidn1), hbeq]
  rw [hbeq3] at hL3 hbase3
  have hlt3 : (θ id).b < w2.heap.size := (Array.getElem?_eq_some_iff.1 hL3).1
  have hsp2 := AH.put_spec hset2
  have hfin : ∃ v' w', (Instr.endRound (θ id).b (codeOf e)).run P w2 = .ok v' w' ∧ CallOK P base θ h w (.lit (.bool (codeOf e).isNone)) h' (.returned v') w' := by
    refine ⟨_, _, run_endRound (P := P) (codeOf e) hL3, θ2, by simp [conc], by simp [bd], ?_⟩
    refine (hP1.trans (hP2.trans hP3)).trans (Post.put hP3.r hm3 hset2 (fun k hk => World.putObj_heap_other (by rw [← hbeq3]; exact hk)) (by simp) (putObj_below hbase3) ?_)
    refine ⟨hdfr3, { L3 with state := if (codeOf e).isNone then .ready else .done, pending := codeOf e }, by rw [hbeq3]; exact World.putObj_heap_same hlt3, ?_, ?_, rfl, hps3, has3, hbo3, hkt3, hnt3, hdef3⟩
    · intro _; cases e <;> rfl
    · intro _; cases e <;> simp [codeOf]
  subst hex
  cases e <;> exact hfin
end
end Go.Proofs.YtknplcpjmpmblaaDoor.GY
