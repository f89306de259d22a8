/- Statements of unknown numbers: rules for what comes one behind the other, loops, what is forgotten; functions by what they give. -/
import Derived.Test.YtknplcpjmpmblaaDoorUl
set_option linter.unusedVariables false
set_option linter.unusedSimpArgs false
namespace Go.Proofs.YtknplcpjmpmblaaDoor.GY
open Go Go.RowKit

/-- Where a function was entered. -/
structure Ent where
  θ : Th
  h : AH
  w : World
abbrev Post3 := AExit → AA → AH → Prop
/-- From this state on the statement ends so. -/
def Tri (P : Program) (base : Bs) (E : Ent) (c : Code) (A : AA) (h : AH) (Q : Post3) : Prop :=
  ∀ θ a w, Post base E.θ E.h E.w θ h w → AOK θ h.next A a →
    c.wpIn (FW none) 0 P (fun ex a' w' => ∃ e A' h' θ', ex = concE e ∧ Q e A' h' ∧ Post base E.θ E.h E.w θ' h' w' ∧ AOK θ' h'.next A' a') a w
def AH.start (h : AH) (o : List Bool) : AH := match h with
  | ⟨m, next, ro, _, _⟩ => ⟨m, next, ro, [], o⟩
def pathP (r : Res) (Q : Post3) : Prop := match r with
  | .ok e A h => All h.sc ∧ Q e A h
  | .no => False

section
variable {P : Program} {tb : Tab} {base : Bs} {E : Ent}
theorem Tri.mono {c : Code} {A : AA} {h : AH} {Q Q' : Post3} (hx : Tri P base E c A h Q) (hq : ∀ e A h, Q e A h → Q' e A h) : Tri P base E c A h Q' :=
  fun θ a w hP hA => wpIn_mono (hx θ a w hP hA) fun ex a' w' ⟨e, A', h', θ', h1, h2, h3⟩ => ⟨e, A', h', θ', h1, hq _ _ _ h2, h3⟩
/-- A statement whose run is worked out. -/
theorem Tri.path (hB : TabOK P tb base) (n : Nat) (o : List Bool) {c : Code} {A : AA} {h : AH} {Q : Post3} (hp : pathP (exec tb n c none A (h.start o)) Q) : Tri P base E c A h Q := by
  intro θ a w hP hA
  unfold pathP at hp
  split at hp
  · rename_i e A' h' hx
    obtain ⟨hs, hq⟩ := hp
    have hst : (h.start o).m = h.m ∧ (h.start o).next = h.next ∧ (h.start o).ro = h.ro := by cases h; exact ⟨rfl, rfl, rfl⟩
    obtain ⟨e1, e2, e3⟩ := hst
    have := (exec_sound hB n _ _ _ _ _ _ _ hx).2 hs θ a w (hP.r.same e1 e2 e3) (by rw [e2]; exact hA) (by simp)
    refine wpIn_mono this fun ex a' w' hbe => ?_
    obtain ⟨hex, θ', hP', hA'⟩ := hbe
    exact ⟨e, A', h', θ', hex, hq, (hP.same e1 e2 e3).trans hP', hA'⟩
  · exact hp.elim
theorem Tri.seq {x y : Code} {A : AA} {h : AH} {Q : Post3} (hx : Tri P base E x A h (fun e A' h' => (e = .norm → Tri P base E y A' h' Q) ∧ (e ≠ .norm → Q e A' h'))) : Tri P base E (.seq x y) A h Q := by
  intro θ a w hP hA
  refine wpIn_seq (wpIn_mono (hx θ a w hP hA) fun ex a' w' ⟨e, A', h', θ', h1, h2, h3, h4⟩ => ?_)
  subst h1
  cases e with
  | norm => exact h2.1 rfl θ' a' w' h3 h4
  | _ => exact ⟨_, A', h', θ', rfl, h2.2 (by simp), h3, h4⟩
theorem Tri.block {id : Nat} {c : Code} {A : AA} {h : AH} {Q : Post3} (hx : Tri P base E c A h (fun e A' h' => Q (if e = .exit id then .norm else e) A' h')) : Tri P base E (.block id c) A h Q := by
  intro θ a w hP hA
  refine wpIn_block (wpIn_mono (hx θ a w hP hA) fun ex a' w' ⟨e, A', h', θ', h1, h2, h3, h4⟩ => ?_)
  subst h1
  cases e with
  | norm => exact ⟨_, A', h', θ', rfl, h2, h3, h4⟩
  | exit i =>
    show if i = id then _ else _
    by_cases hi : i = id
    · rw [if_pos hi]; exact ⟨.norm, A', h', θ', rfl, by simpa [hi] using h2, h3, h4⟩
    · rw [if_neg hi]; exact ⟨.exit i, A', h', θ', rfl, by simpa [hi] using h2, h3, h4⟩
  | goto l => exact ⟨_, A', h', θ', rfl, h2, h3, h4⟩
  | ret => exact ⟨_, A', h', θ', rfl, h2, h3, h4⟩
theorem Tri.cond {c : Operand} {x y : Code} {A : AA} {h : AH} {Q : Post3} {b : Bool} (hc : A.ev c = some (.sb b)) (h1 : b = true → Tri P base E x A h Q) (h2 : b = false → Tri P base E y A h Q) : Tri P base E (.cond c x y) A h Q := by
  intro θ a w hP hA
  have := (hA.ev c _ hc).2
  simp only [conc] at this
  cases b with
  | true => exact wpIn_cond this (h1 rfl θ a w hP hA)
  | false => exact wpIn_cond this (h2 rfl θ a w hP hA)
/-- A state that says less. -/
def SLe (base : Bs) (E : Ent) (A : AA) (h : AH) (A' : AA) (h' : AH) : Prop :=
  ∀ θ a w, Post base E.θ E.h E.w θ h w → AOK θ h.next A a → ∃ θ', Post base E.θ E.h E.w θ' h' w ∧ AOK θ' h'.next A' a
theorem Tri.weaken {c : Code} {A A' : AA} {h h' : AH} {Q : Post3} (hl : SLe base E A h A' h') (hx : Tri P base E c A' h' Q) : Tri P base E c A h Q := fun θ a w hP hA => by
  obtain ⟨θ', p, q⟩ := hl θ a w hP hA
  exact hx θ' a w p q
/-- A loop: what is so ahead of each round. -/
theorem Tri.loop {ι : Type} (J : ι → AA × AH) (μ : ι → Nat) {c : Code} {Q : Post3} (i0 : ι)
    (step : ∀ i, Tri P base E c (J i).1 (J i).2 (fun e A' h' => (e = .norm ∧ ∃ i', μ i' < μ i ∧ SLe base E A' h' (J i').1 (J i').2) ∨ (e ≠ .norm ∧ Q e A' h'))) :
    Tri P base E (.loop c) (J i0).1 (J i0).2 Q := by
  intro θ a w hP hA
  refine wpIn_loop_iter (fun k a w => ∃ i θ, μ i = k ∧ Post base E.θ E.h E.w θ (J i).2 w ∧ AOK θ (J i).2.next (J i).1 a) (k := μ i0) ⟨i0, θ, rfl, hP, hA⟩ ?_
  rintro k a w ⟨i, θ, rfl, hP, hA⟩
  refine wpIn_mono (step i θ a w hP hA) fun ex a' w' ⟨e, A', h', θ', h1, h2, h3, h4⟩ => ?_
  subst h1
  rcases h2 with ⟨rfl, i', hlt, hk⟩ | ⟨hne, hq⟩
  · obtain ⟨θ'', p, q⟩ := hk θ' a' w' h3 h4
    exact ⟨μ i', hlt, i', θ'', rfl, p, q⟩
  · cases e with
    | norm => exact absurd rfl hne
    | _ => exact ⟨_, A', h', θ', rfl, hq, h3, h4⟩
end

/-- A state written out: slots, blocks, rows that are read alone. -/
structure JS where
  n : Nat
  sl : List (Nat × AV)
  ms : List (Nat × AO)
  ros : List (Nat × RO)
  next : Nat
noncomputable def ofL {α : Type} (k : Nat) : List (Nat × α) → T α
  | [] => .e
  | (i, v) :: r => if Nat.blt i 1000 then T.set (some v) k (ofL k r) i else ofL k r
noncomputable def JS.A (J : JS) : AA := match J with
  | ⟨n, sl, _, _, _⟩ => ⟨ofL 11 sl, n, []⟩
noncomputable def JS.h (J : JS) : AH := match J with
  | ⟨_, _, ms, ros, next⟩ => ⟨ofL 41 ms, next, ofL 41 ros, [], []⟩
theorem ofL_mem {α : Type} {k : Nat} (hk : 11 ≤ k) : ∀ {l : List (Nat × α)} {i : Nat} {v : α}, (ofL k l).get i = some v → (i, v) ∈ l
  | [], i, v, h => by simp [ofL] at h
  | (j, u) :: r, i, v, h => by
    simp only [ofL] at h
    split at h
    · rename_i hj
      have hj : j < 1000 := Nat.le_of_ble_eq_true hj
      by_cases hi : i = j
      · subst hi
        rw [T.get_set_same _ k _ _ (Nat.lt_of_lt_of_le (show i + 1 < 2 ^ 11 by have : (2 : Nat) ^ 11 = 2048 := rfl; omega) (Nat.pow_le_pow_right (by decide) hk))] at h
        cases h; simp
      · rw [T.get_set_other _ _ _ _ _ hi] at h
        exact List.mem_cons_of_mem _ (ofL_mem hk h)
    · exact List.mem_cons_of_mem _ (ofL_mem hk h)
structure EqN (a b : Nat) : Prop where
  p : a = b
structure EqV (a b : Value) : Prop where
  p : a = b
structure RowEq (n sz : Nat) (f g : Nat → Nat → Int) : Prop where
  p : ∀ k j, k < n → j < sz → f k j = g k j
noncomputable def nq (a b : Nat) : List Prop := match Nat.beq a b with
  | true => []
  | false => [False]
theorem nq_ok {a b : Nat} (h : All (nq a b)) : a = b := by
  unfold nq at h
  split at h
  · rename_i hb; exact Nat.eq_of_beq_eq_true hb
  · exact h.1.elim
noncomputable def ltq (a b : Nat) : List Prop := match Nat.blt a b with
  | true => []
  | false => [False]
theorem ltq_ok {a b : Nat} (h : All (ltq a b)) : a < b := by
  unfold ltq at h
  split at h
  · rename_i hb; exact Nat.le_of_ble_eq_true hb
  · exact h.1.elim
noncomputable def lq (u u' : Value) : List Prop := match u, u' with
  | .int k a, .int k' b => if k = k' then [EqI a b] else [False]
  | .bool a, .bool b => [EqB a b]
  | u, u' => [EqV u u']
theorem lq_ok {u u' : Value} (h : All (lq u u')) : u = u' := by
  unfold lq at h
  split at h
  · split at h
    · rename_i hk; subst hk; rw [h.1.p]
    · exact h.1.elim
  · rw [h.1.p]
  · exact h.1.p
/-- A value, and what a state that says less has in its place. -/
noncomputable def veq1 (σ : Nat → Nat) (n : Nat) (v v' : AV) : List Prop := match v, v' with
  | .lit u, .lit u' => lq u u'
  | .sb b, .sb b' => [EqB b b']
  | .lit (.bool b), .sb b' => [EqB b b']
  | .sb b, .lit (.bool b') => [EqB b b']
  | .isl id m, .isl id' m' => nq id (σ id') ++ (ltq id' n ++ [EqN m m'])
  | .rp id sz k j, .rp id' sz' k' j' => nq id (σ id') ++ (ltq id' n ++ (nq sz sz' ++ [EqN k k', EqN j j']))
  | .ptr id off, .ptr id' off' => nq id (σ id') ++ (ltq id' n ++ [EqN off off'])
  | .slc id off len sub, .slc id' off' len' sub' => nq id (σ id') ++ (ltq id' n ++ [EqN off off', EqN len len', EqN sub sub'])
  | .mp id, .mp id' => nq id (σ id') ++ ltq id' n
  | .yld id, .yld id' => nq id (σ id') ++ ltq id' n
  | _, _ => [False]
noncomputable def veql (σ : Nat → Nat) (n : Nat) : List AV → List AV → List Prop
  | [], [] => []
  | v :: l, v' :: l' => veq1 σ n v v' ++ veql σ n l l'
  | _, _ => [False]
noncomputable def veq (σ : Nat → Nat) (n : Nat) (v v' : AV) : List Prop := match v, v' with
  | .agg l, .agg l' => veql σ n l l'
  | .fn f a c, .fn f' a' c' => nq f f' ++ (veql σ n a a' ++ veql σ n c c')
  | v, v' => veq1 σ n v v'
noncomputable def veqm (σ : Nat → Nat) (n : Nat) : List AV → List AV → List Prop
  | [], [] => []
  | v :: l, v' :: l' => veq σ n v v' ++ veqm σ n l l'
  | _, _ => [False]
noncomputable def slotsL (σ : Nat → Nat) (n : Nat) (A : AA) : List (Nat × AV) → List Prop
  | [] => []
  | (i, v') :: r => (match A.t.get i with
    | some v => veq σ n v v'
    | none => [False]) ++ slotsL σ n A r
noncomputable def bq (b : Bool) : List Prop := match b with
  | true => []
  | false => [False]
theorem bq_ok {b : Bool} (h : All (bq b)) : b = true := by
  cases b
  · exact h.1.elim
  · rfl
structure EqLp (a b : ALoop) : Prop where
  p : a = b
noncomputable def fid (σ : Nat → Nat) (n id : Nat) : Bool := Nat.beq (σ id) id && Nat.blt id n
/-- Blocks that a value names and that are what they were. -/
noncomputable def fx1 (σ : Nat → Nat) (n : Nat) (v : AV) : Bool := match v with
  | .lit _ => true
  | .sb _ => true
  | .ptr id _ => fid σ n id
  | .slc id _ _ _ => fid σ n id
  | .slx id _ _ _ => fid σ n id
  | .slo id => fid σ n id
  | .mp id => fid σ n id
  | .yld id => fid σ n id
  | .isl id _ => fid σ n id
  | .rp id _ _ _ => fid σ n id
  | _ => false
noncomputable def fxl (σ : Nat → Nat) (n : Nat) : List AV → Bool
  | [] => true
  | v :: l => fx1 σ n v && fxl σ n l
noncomputable def fxV (σ : Nat → Nat) (n : Nat) (v : AV) : Bool := match v with
  | .agg l => fxl σ n l
  | .tup l => fxl σ n l
  | .fn _ a c => fxl σ n a && fxl σ n c
  | v => fx1 σ n v
noncomputable def fxO (σ : Nat → Nat) (n : Nat) (v : Option AV) : Bool := match v with
  | none => true
  | some v => fxV σ n v
noncomputable def fxT (σ : Nat → Nat) (n : Nat) : T AV → Bool
  | .e => true
  | .n l v r => fxT σ n l && (fxO σ n v && fxT σ n r)
noncomputable def objL1 (σ : Nat → Nat) (n : Nat) (o : Option AO) (o' : AO) : List Prop := match o, o' with
  | some (.irow el sz m f), .irow el' sz' m' f' => nq el el' ++ (nq sz sz' ++ [EqN m m', RowEq m' sz' f f'])
  | some (.cells cs el none), .cells cs' el' none => nq el el' ++ veqm σ n cs cs'
  | some (.dfr b), .dfr b' => [EqB b b']
  | some (.loop r), .loop r' => EqLp r r' :: (nq (σ r'.dfr) r'.dfr ++ (ltq r'.dfr n ++ bq (fxT σ n r'.t)))
  | _, _ => [False]
noncomputable def objsL (σ : Nat → Nat) (n : Nat) (h : AH) : List (Nat × AO) → List Prop
  | [] => []
  | (id, o') :: r => ltq id n ++ (objL1 σ n (h.m.get (σ id)) o' ++ objsL σ n h r)
noncomputable def roL1 (r r' : RO) : List Prop := match r, r' with
  | ⟨fr, el, sz, m, f⟩, ⟨fr', el', sz', m', f'⟩ => nq sz sz' ++ [EqB fr fr', EqN m m', RowEq m' sz' f f']
noncomputable def rosL (σ : Nat → Nat) (n : Nat) (h : AH) : List (Nat × RO) → List Prop
  | [] => []
  | (id, r') :: r => ltq id n ++ ((match h.ro.get (σ id) with
    | some r => roL1 r r'
    | none => [False]) ++ rosL σ n h r)
noncomputable def notIn (σ : Nat → Nat) (i : Nat) : List (Nat × AO) → Bool
  | [] => true
  | (j, _) :: r => !Nat.beq (σ i) (σ j) && notIn σ i r
noncomputable def apartL (σ : Nat → Nat) : List (Nat × AO) → Bool
  | [] => true
  | (i, _) :: r => notIn σ i r && apartL σ r
noncomputable def fixed (σ : Nat → Nat) : Nat → Bool
  | 0 => true
  | k + 1 => Nat.beq (σ k) k && fixed σ k
noncomputable def dsNil : List AD → Bool
  | [] => true
  | _ => false
/-- That a state says less than this one; σ: which block each of its blocks is. -/
noncomputable def wk (σ : Nat → Nat) (N : Nat) (A : AA) (h : AH) (J : JS) : List Prop := match J with
  | ⟨n, sl, ms, ros, next⟩ => nq A.n n ++ (bq (dsNil A.ds) ++ (bq (Nat.ble N next) ++ (bq (fixed σ N) ++ (bq (apartL σ ms) ++ (slotsL σ next A sl ++ (objsL σ next h ms ++ rosL σ next h ros))))))

section
variable {P : Program} {tb : Tab} {base : Bs} {E : Ent} {θ : Th} {σ : Nat → Nat} {n m : Nat}
theorem conc_litS (θ : Th) (u : Value) : conc θ (.lit u) = u := by simp [conc]
theorem veq1_ok {v v' : AV} (hb : bd θ m v) (h : All (veq1 σ n v v')) : conc (fun id => θ (σ id)) v' = conc θ v ∧ bd (fun id => θ (σ id)) n v' := by
  unfold veq1 at h
  split at h
  · rw [lq_ok h]; exact ⟨by simp [conc], by simp [bd]⟩
  · rw [h.1.p]; exact ⟨by simp [conc], by simp [bd]⟩
  · rw [← h.1.p]; exact ⟨by simp [conc], by simp [bd]⟩
  · rw [← h.1.p]; exact ⟨by simp [conc], by simp [bd]⟩
  · obtain ⟨h1, h2⟩ := All.append.1 h
    obtain ⟨h2, ⟨h3⟩, _⟩ := All.append.1 h2
    have h4 := ltq_ok h2
    subst h3
    simp only [bd] at hb ⊢
    refine ⟨by simp [conc, nq_ok h1], h4, ?_⟩
    rw [← nq_ok h1]; exact hb.2
  · obtain ⟨h1, h2⟩ := All.append.1 h
    obtain ⟨h2, h3⟩ := All.append.1 h2
    obtain ⟨h6, ⟨h4⟩, ⟨h5⟩, _⟩ := All.append.1 h3
    have h7 := ltq_ok h2
    subst h4; subst h5
    simp only [bd] at hb ⊢
    exact ⟨by simp [conc, nq_ok h1, nq_ok h6], h7⟩
  · obtain ⟨h1, h2⟩ := All.append.1 h
    obtain ⟨h2, ⟨h3⟩, _⟩ := All.append.1 h2
    have h7 := ltq_ok h2
    subst h3
    simp only [bd] at hb ⊢
    exact ⟨by simp [conc, nq_ok h1], h7⟩
  · obtain ⟨h1, h2⟩ := All.append.1 h
    obtain ⟨h2, ⟨h3⟩, ⟨h4⟩, ⟨h5⟩, _⟩ := All.append.1 h2
    have := ltq_ok h2
    subst h3; subst h4; subst h5
    simp only [bd] at hb ⊢
    refine ⟨by simp [conc, nq_ok h1], by omega, ?_⟩
    rw [← nq_ok h1]; exact hb.2
  · obtain ⟨h1, h2⟩ := All.append.1 h
    have := ltq_ok h2
    simp only [bd] at hb ⊢
    exact ⟨by simp [conc, nq_ok h1], by omega⟩
  · obtain ⟨h1, h2⟩ := All.append.1 h
    have := ltq_ok h2
    simp only [bd] at hb ⊢
    exact ⟨by simp [conc, nq_ok h1], by omega⟩
  · exact h.1.elim
theorem veql_ok : ∀ {l l' : List AV}, bdl θ m l → All (veql σ n l l') → l'.map (conc fun id => θ (σ id)) = l.map (conc θ) ∧ bdl (fun id => θ (σ id)) n l'
  | [], [], hb, h => ⟨rfl, fun x hx => by cases hx⟩
  | v :: l, v' :: l', hb, h => by
    obtain ⟨h1, h2⟩ := All.append.1 h
    obtain ⟨a, b⟩ := veq1_ok (hb v (by simp)) h1
    obtain ⟨c, d⟩ := veql_ok (fun y hy => hb y (by simp [hy])) h2
    refine ⟨by simp only [List.map_cons, a, c], fun y hy => ?_⟩
    rcases List.mem_cons.1 hy with rfl | hy
    · exact b
    · exact d y hy
  | [], _ :: _, hb, h => h.1.elim
  | _ :: _, [], hb, h => h.1.elim
theorem veq_ok {v v' : AV} (hb : bd θ m v) (h : All (veq σ n v v')) : conc (fun id => θ (σ id)) v' = conc θ v ∧ bd (fun id => θ (σ id)) n v' := by
  unfold veq at h
  split at h
  · simp only [bd] at hb ⊢
    obtain ⟨a, b⟩ := veql_ok hb h
    exact ⟨by simp only [conc, a], b⟩
  · obtain ⟨h1, h2⟩ := All.append.1 h
    obtain ⟨h2, h3⟩ := All.append.1 h2
    simp only [bd] at hb ⊢
    obtain ⟨a, b⟩ := veql_ok hb.1 h2
    obtain ⟨c, d⟩ := veql_ok hb.2 h3
    exact ⟨by simp only [conc, a, c, nq_ok h1], b, d⟩
  · exact veq1_ok hb h
theorem veqm_ok : ∀ {l l' : List AV}, bdl θ m l → All (veqm σ n l l') → l'.map (conc fun id => θ (σ id)) = l.map (conc θ) ∧ bdl (fun id => θ (σ id)) n l'
  | [], [], hb, h => ⟨rfl, fun x hx => by cases hx⟩
  | v :: l, v' :: l', hb, h => by
    obtain ⟨h1, h2⟩ := All.append.1 h
    obtain ⟨a, b⟩ := veq_ok (hb v (by simp)) h1
    obtain ⟨c, d⟩ := veqm_ok (fun y hy => hb y (by simp [hy])) h2
    refine ⟨by simp only [List.map_cons, a, c], fun y hy => ?_⟩
    rcases List.mem_cons.1 hy with rfl | hy
    · exact b
    · exact d y hy
  | [], _ :: _, hb, h => h.1.elim
  | _ :: _, [], hb, h => h.1.elim
theorem slotsL_ok {A : AA} {a : Act} (hA : AOK θ m A a) : ∀ {l : List (Nat × AV)}, All (slotsL σ n A l) → ∀ i v', (i, v') ∈ l → bd (fun id => θ (σ id)) n v' ∧ a.tmps[i]? = some (conc (fun id => θ (σ id)) v')
  | [], h, i, v', hm => by cases hm
  | (j, u) :: r, h, i, v', hm => by
    obtain ⟨h1, h2⟩ := All.append.1 h
    rcases List.mem_cons.1 hm with he | hm
    · cases he
      split at h1
      · rename_i v hv
        obtain ⟨hb, ht⟩ := hA.kt _ _ hv
        obtain ⟨p, q⟩ := veq_ok hb h1
        exact ⟨q, by rw [p]; exact ht⟩
      · exact h1.1.elim
    · exact slotsL_ok hA h2 i v' hm
theorem objsL_ok {h : AH} : ∀ {l : List (Nat × AO)}, All (objsL σ n h l) → ∀ id o', (id, o') ∈ l → id < n ∧ All (objL1 σ n (h.m.get (σ id)) o')
  | [], hx, i, v', hm => by cases hm
  | (j, u) :: r, hx, i, v', hm => by
    obtain ⟨h1, h2⟩ := All.append.1 hx
    obtain ⟨h2, h3⟩ := All.append.1 h2
    rcases List.mem_cons.1 hm with he | hm
    · cases he; exact ⟨ltq_ok h1, h2⟩
    · exact objsL_ok h3 i v' hm
theorem rosL_ok {h : AH} : ∀ {l : List (Nat × RO)}, All (rosL σ n h l) → ∀ id r', (id, r') ∈ l → id < n ∧ ∃ r, h.ro.get (σ id) = some r ∧ All (roL1 r r')
  | [], hx, i, v', hm => by cases hm
  | (j, u) :: r, hx, i, v', hm => by
    obtain ⟨h1, h2⟩ := All.append.1 hx
    obtain ⟨h2, h3⟩ := All.append.1 h2
    rcases List.mem_cons.1 hm with he | hm
    · cases he
      refine ⟨ltq_ok h1, ?_⟩
      split at h2
      · rename_i q hq; exact ⟨q, hq, h2⟩
      · exact h2.1.elim
    · exact rosL_ok h3 i v' hm
theorem notIn_ok {i : Nat} : ∀ {l : List (Nat × AO)}, notIn σ i l = true → ∀ j o, (j, o) ∈ l → σ i ≠ σ j
  | [], h, j, o, hm => by cases hm
  | (k, u) :: r, h, j, o, hm => by
    simp only [notIn, Bool.and_eq_true, Bool.not_eq_true'] at h
    rcases List.mem_cons.1 hm with he | hm
    · cases he; exact fun e => by rw [e] at h; simp at h
    · exact notIn_ok h.2 j o hm
theorem apartL_ok : ∀ {l : List (Nat × AO)}, apartL σ l = true → ∀ i o j o', (i, o) ∈ l → (j, o') ∈ l → i ≠ j → σ i ≠ σ j
  | [], h, i, o, j, o', h1, h2, hne => by cases h1
  | (k, u) :: r, h, i, o, j, o', h1, h2, hne => by
    simp only [apartL, Bool.and_eq_true] at h
    rcases List.mem_cons.1 h1 with e1 | h1
    · cases e1
      rcases List.mem_cons.1 h2 with e2 | h2
      · cases e2; exact absurd rfl hne
      · exact notIn_ok h.1 j o' h2
    · rcases List.mem_cons.1 h2 with e2 | h2
      · cases e2; exact (notIn_ok h.1 i o h1).symm
      · exact apartL_ok h.2 i o j o' h1 h2 hne
theorem fixed_ok : ∀ {k : Nat}, fixed σ k = true → ∀ i, i < k → σ i = i
  | 0, h, i, hi => by omega
  | k + 1, h, i, hi => by
    simp only [fixed, Bool.and_eq_true] at h
    by_cases he : i = k
    · subst he; exact Nat.eq_of_beq_eq_true h.1
    · exact fixed_ok h.2 i (by omega)
theorem fid_ok {id : Nat} (h : fid σ n id = true) : σ id = id ∧ id < n := by
  unfold fid at h
  rw [Bool.and_eq_true] at h
  exact ⟨Nat.eq_of_beq_eq_true h.1, Nat.le_of_ble_eq_true h.2⟩
theorem fx1_ok {v : AV} (h : fx1 σ n v = true) (hb : bd θ m v) : conc (fun id => θ (σ id)) v = conc θ v ∧ bd (fun id => θ (σ id)) n v := by
  cases v with
  | lit u => exact ⟨by simp [conc], by simp [bd]⟩
  | sb b => exact ⟨by simp [conc], by simp [bd]⟩
  | fn f a c => simp [fx1] at h
  | ifc t v => simp [fx1] at h
  | agg cs => simp [fx1] at h
  | tup cs => simp [fx1] at h
  | _ =>
    obtain ⟨h1, h2⟩ := fid_ok (show fid σ n _ = true from h)
    simp only [bd] at hb ⊢
    refine ⟨by simp only [conc, h1], ?_⟩
    first | exact h2 | (rw [h1]; exact ⟨h2, hb.2⟩)
theorem fxl_ok : ∀ {l : List AV}, fxl σ n l = true → bdl θ m l → l.map (conc fun id => θ (σ id)) = l.map (conc θ) ∧ bdl (fun id => θ (σ id)) n l
  | [], _, _ => ⟨rfl, fun x hx => by cases hx⟩
  | v :: l, h, hb => by
    unfold fxl at h
    rw [Bool.and_eq_true] at h
    obtain ⟨a, b⟩ := fx1_ok h.1 (hb v (by simp))
    obtain ⟨c, d⟩ := fxl_ok h.2 (fun y hy => hb y (by simp [hy]))
    refine ⟨by simp only [List.map_cons, a, c], fun y hy => ?_⟩
    rcases List.mem_cons.1 hy with rfl | hy
    · exact b
    · exact d y hy
theorem fxV_ok {v : AV} (h : fxV σ n v = true) (hb : bd θ m v) : conc (fun id => θ (σ id)) v = conc θ v ∧ bd (fun id => θ (σ id)) n v := by
  unfold fxV at h
  split at h
  · simp only [bd] at hb ⊢
    obtain ⟨a, b⟩ := fxl_ok h hb
    exact ⟨by simp only [conc, a], b⟩
  · simp only [bd] at hb ⊢
    obtain ⟨a, b⟩ := fxl_ok h hb
    exact ⟨by simp only [conc, a], b⟩
  · rw [Bool.and_eq_true] at h
    simp only [bd] at hb ⊢
    obtain ⟨a, b⟩ := fxl_ok h.1 hb.1
    obtain ⟨c, d⟩ := fxl_ok h.2 hb.2
    exact ⟨by simp only [conc, a, c], b, d⟩
  · exact fx1_ok h hb
theorem fxT_get : ∀ {t : T AV}, fxT σ n t = true → ∀ {i : Nat} {v : AV}, t.get i = some v → fxV σ n v = true
  | .e, _, i, v, hv => by simp at hv
  | .n l u r, h, i, v, hv => by
    unfold fxT at h
    rw [Bool.and_eq_true, Bool.and_eq_true] at h
    cases i with
    | zero =>
      rw [T.get_n0] at hv
      subst hv
      exact h.2.1
    | succ j =>
      rw [T.get_nS] at hv
      split at hv
      · exact fxT_get h.1 hv
      · exact fxT_get h.2.2 hv
theorem objL1_ok {id : Nat} {o : AO} {o' : AO} {w : World} (hok : OOK θ m (σ id) o w) (h : All (objL1 σ n (some o) o')) : OOK (fun id => θ (σ id)) n id o' w := by
  unfold objL1 at h
  split at h
  · rename_i el sz k f el' sz' k' f' heq
    cases heq
    obtain ⟨h1, h2⟩ := All.append.1 h
    obtain ⟨h2, ⟨h3⟩, ⟨h4⟩, _⟩ := All.append.1 h2
    have e1 := nq_ok h1; have e2 := nq_ok h2
    subst e1; subst e2; subst h3
    obtain ⟨cur, a, b, c, d, e, g⟩ := hok
    exact ⟨cur, a, b, c, d, e, fun q j hq hj => by rw [g q j hq hj, h4 q j hq hj]⟩
  · rename_i cs el cs' el' heq
    cases heq
    obtain ⟨h1, h2⟩ := All.append.1 h
    have e1 := nq_ok h1
    subst e1
    obtain ⟨hb, cur, a, b, c⟩ := hok
    obtain ⟨p, q⟩ := veqm_ok hb h2
    have hl : cs'.length = cs.length := by have := congrArg List.length p; simpa using this
    exact ⟨q, cur, a, by rw [p, hl]; exact b, by simp only at c ⊢; rw [hl]; exact c⟩
  · rename_i b b' heq
    cases heq
    rw [← h.1.p]
    exact hok
  · rename_i r r' heq
    cases heq
    obtain ⟨⟨h1⟩, h2⟩ := h
    obtain ⟨h2, h3⟩ := All.append.1 h2
    obtain ⟨h3, h4⟩ := All.append.1 h3
    have h2 := nq_ok h2; have h3 := ltq_ok h3; have h4 := bq_ok h4
    subst h1
    obtain ⟨hd, L, hL, a, a', b, c, d, e, f, g, i⟩ := hok
    refine ⟨h3, L, hL, a, a', b, c, d, e, fun k v hv => ?_, g, by show L.defers = (θ (σ r.dfr)).b ∧ L.fn = (θ (σ _)).c; rw [h2]; exact i⟩
    obtain ⟨f1, f2⟩ := f k v hv
    obtain ⟨g1, g2⟩ := fxV_ok (fxT_get h4 hv) f1
    exact ⟨g2, by rw [g1]; exact f2⟩
  · exact h.1.elim
/-- What a state that says less says. -/
theorem wk_ok {N : Nat} (hN : E.h.next = N) {A : AA} {h : AH} {J : JS} (hx : All (wk σ N A h J)) : SLe base E A h J.A J.h := by
  obtain ⟨jn, sl, ms, ros, next⟩ := J
  unfold wk at hx
  obtain ⟨x1, hx⟩ := All.append.1 hx
  obtain ⟨x2, hx⟩ := All.append.1 hx
  obtain ⟨x3, hx⟩ := All.append.1 hx
  obtain ⟨x4, hx⟩ := All.append.1 hx
  obtain ⟨x5, hx⟩ := All.append.1 hx
  obtain ⟨x6, hx⟩ := All.append.1 hx
  obtain ⟨x7, x8⟩ := All.append.1 hx
  have x1 := nq_ok x1
  have x2 := bq_ok x2
  have x3 := Nat.le_of_ble_eq_true (bq_ok x3)
  have x4 := fixed_ok (bq_ok x4)
  have x5 := apartL_ok (bq_ok x5)
  intro θ a w hP hA
  have hms : ∀ id o', (ofL 41 ms).get id = some o' → id < next ∧ ∃ o, h.m.get (σ id) = some o ∧ All (objL1 σ next (some o) o') := fun id o' hg => by
    obtain ⟨p, q⟩ := objsL_ok x7 id o' (ofL_mem (by decide) hg)
    cases hm : h.m.get (σ id) with
    | none => rw [hm] at q; unfold objL1 at q; split at q <;> first | (exact q.1.elim) | (rename_i heq; cases heq)
    | some o => exact ⟨p, o, rfl, by rw [hm] at q; exact q⟩
  have hro : ∀ id r', (ofL 41 ros).get id = some r' → id < next ∧ ∃ r, h.ro.get (σ id) = some r ∧ All (roL1 r r') := fun id r' hg => rosL_ok x8 id r' (ofL_mem (by decide) hg)
  have hroq : ∀ {r r' : RO}, All (roL1 r r') → r.fr = r'.fr ∧ r.sz = r'.sz ∧ r.n = r'.n ∧ ∀ k j, k < r'.n → j < r'.sz → r.f k j = r'.f k j := fun {r r'} hq => by
    obtain ⟨a1, a2, a3, a4, a5⟩ := r
    obtain ⟨b1, b2, b3, b4, b5⟩ := r'
    unfold roL1 at hq
    obtain ⟨h1, ⟨h2⟩, ⟨h3⟩, ⟨h4⟩, _⟩ := All.append.1 hq
    exact ⟨h2, nq_ok h1, h3, h4⟩
  refine ⟨fun id => θ (σ id), ⟨fun id hid => ?_, by show E.h.next ≤ next; omega, ⟨fun id o' hg => ?_, fun id id' o o' g1 g2 hne => ?_, hP.r.size, hP.r.b0, fun id r' hg => ?_⟩, hP.below, hP.frame, fun id o' hg => ?_, fun id r' hg h0 => ?_⟩, ⟨by rw [hA.size]; exact x1, fun i v' hi => ?_, ?_, fun d hd => by cases hd⟩⟩
  · show θ (σ id) = E.θ id
    rw [x4 id (by omega)]; exact hP.ext id hid
  · obtain ⟨p, o, q, r⟩ := hms id o' hg
    obtain ⟨u1, u2, u3⟩ := hP.r.obj _ _ q
    exact ⟨p, u2, objL1_ok u3 r⟩
  · obtain ⟨_, o1, q1, _⟩ := hms id o g1
    obtain ⟨_, o2, q2, _⟩ := hms id' o' g2
    exact hP.r.inj _ _ _ _ q1 q2 (x5 id o id' o' (ofL_mem (by decide) g1) (ofL_mem (by decide) g2) hne)
  · obtain ⟨p, r, q, u⟩ := hro id r' hg
    obtain ⟨e1, e2, e3, e4⟩ := hroq u
    obtain ⟨u1, u2, u3⟩ := hP.r.rom _ _ q
    refine ⟨p, ⟨by rw [← e3]; exact u2.le, u2.cap, by rw [← e3]; exact u2.a, fun k j hk hj => ?_, by rw [← e3, ← e1]; exact u2.fr, by rw [← e3]; exact u2.lt⟩, fun h0 id' o hg' => ?_⟩
    · rw [← e4 k j hk hj, ← e2]; exact u2.cell k j (by omega) (by omega)
    · obtain ⟨_, o1, q1, _⟩ := hms id' o hg'
      exact u3 (by omega) _ _ q1
  · obtain ⟨_, o1, q1, _⟩ := hms id o' hg
    exact hP.own _ _ q1
  · obtain ⟨p, r, q, u⟩ := hro id r' hg
    exact hP.own2 _ _ q (by rw [(hroq u).2.2.1]; exact h0)
  · exact slotsL_ok hA x6 i v' (ofL_mem (Nat.le_refl _) hi)
  · rw [hA.ds]
    cases hd : A.ds with
    | nil => rfl
    | cons d ds => rw [hd] at x2; cases x2
end
end Go.Proofs.YtknplcpjmpmblaaDoor.GY
