/- A run worked out: the trees, and what a value of the run is in a world. -/
import Derived.Test.YtknplcpjmpmblaaDoorZxa
set_option linter.unusedVariables false
set_option linter.unusedSimpArgs false
namespace Go.Proofs.YtknplcpjmpmblaaDoor.GX
open Go

section
variable {α : Type}
@[simp] theorem T.get_e (i : Nat) : (T.e : T α).get i = none := rfl
theorem T.get_n0 (l r : T α) (v : Option α) : (T.n l v r).get 0 = v := rfl
theorem T.get_nS (l r : T α) (v : Option α) (j : Nat) : (T.n l v r).get (j + 1) = if j % 2 = 0 then l.get (j / 2) else r.get (j / 2) := by
  show Bool.casesOn (motive := fun _ => Option α) (Nat.beq (j % 2) 0) (r.get (j / 2)) (l.get (j / 2)) = _
  by_cases h : j % 2 = 0
  · simp [h]
  · have : Nat.beq (j % 2) 0 = false := by
      cases hb : Nat.beq (j % 2) 0 with
      | false => rfl
      | true => exact absurd (Nat.eq_of_beq_eq_true hb) h
    simp [h, this]
theorem T.set_0 (v : Option α) (t : T α) (i : Nat) : T.set v 0 t i = t := rfl
theorem T.set_e0 (v : Option α) (k : Nat) : T.set v (k + 1) .e 0 = .n .e v .e := rfl
theorem beq0 (j : Nat) : (Nat.beq (j % 2) 0 = true ∧ j % 2 = 0) ∨ (Nat.beq (j % 2) 0 = false ∧ ¬ j % 2 = 0) := by
  cases hb : Nat.beq (j % 2) 0 with
  | false => exact .inr ⟨rfl, fun h => by rw [h] at hb; cases hb⟩
  | true => exact .inl ⟨rfl, Nat.eq_of_beq_eq_true hb⟩
theorem T.set_eS (v : Option α) (k j : Nat) : T.set v (k + 1) .e (j + 1) = if j % 2 = 0 then .n (T.set v k .e (j / 2)) none .e else .n .e none (T.set v k .e (j / 2)) := by
  show Bool.casesOn (motive := fun _ => T α) (Nat.beq (j % 2) 0) (.n .e none (T.set v k .e (j / 2))) (.n (T.set v k .e (j / 2)) none .e) = _
  rcases beq0 j with ⟨h, h'⟩ | ⟨h, h'⟩ <;> simp [h, h']
theorem T.set_n0 (v u : Option α) (k : Nat) (l r : T α) : T.set v (k + 1) (.n l u r) 0 = .n l v r := rfl
theorem T.set_nS (v u : Option α) (k j : Nat) (l r : T α) : T.set v (k + 1) (.n l u r) (j + 1) = if j % 2 = 0 then .n (T.set v k l (j / 2)) u r else .n l u (T.set v k r (j / 2)) := by
  show Bool.casesOn (motive := fun _ => T α) (Nat.beq (j % 2) 0) (.n l u (T.set v k r (j / 2))) (.n (T.set v k l (j / 2)) u r) = _
  rcases beq0 j with ⟨h, h'⟩ | ⟨h, h'⟩ <;> simp [h, h']
theorem T.get_set_same (v : Option α) : ∀ (k : Nat) (t : T α) (i : Nat), i + 1 < 2 ^ k → (T.set v k t i).get i = v
  | 0, t, i, h => by simp at h
  | k + 1, t, 0, h => by cases t <;> rfl
  | k + 1, t, j + 1, h => by
    have h' : j / 2 + 1 < 2 ^ k := by rw [Nat.pow_succ] at h; omega
    cases t with
    | e =>
      rw [T.set_eS]
      by_cases hj : j % 2 = 0
      · rw [if_pos hj, T.get_nS, if_pos hj]; exact T.get_set_same v k _ _ h'
      · rw [if_neg hj, T.get_nS, if_neg hj]; exact T.get_set_same v k _ _ h'
    | n l u r =>
      rw [T.set_nS]
      by_cases hj : j % 2 = 0
      · rw [if_pos hj, T.get_nS, if_pos hj]; exact T.get_set_same v k _ _ h'
      · rw [if_neg hj, T.get_nS, if_neg hj]; exact T.get_set_same v k _ _ h'
theorem T.get_set_other (v : Option α) : ∀ (k : Nat) (t : T α) (i j : Nat), j ≠ i → (T.set v k t i).get j = t.get j
  | 0, t, i, j, h => rfl
  | k + 1, t, 0, 0, h => absurd rfl h
  | k + 1, t, 0, j + 1, h => by
    cases t with
    | e => rw [T.set_e0, T.get_nS]; split <;> rfl
    | n l u r => rw [T.set_n0, T.get_nS, T.get_nS]
  | k + 1, t, i + 1, 0, h => by
    cases t with
    | e => rw [T.set_eS]; split <;> rfl
    | n l u r => rw [T.set_nS]; split <;> rfl
  | k + 1, t, i + 1, j + 1, h => by
    have hne : i % 2 = j % 2 → j / 2 ≠ i / 2 := fun e e' => h (by omega)
    cases t with
    | e =>
      rw [T.set_eS]
      by_cases hi : i % 2 = 0 <;> by_cases hj : j % 2 = 0
      · rw [if_pos hi, T.get_nS, if_pos hj, T.get_set_other v k _ _ _ (hne (by omega))]; rfl
      · rw [if_pos hi, T.get_nS, if_neg hj]; rfl
      · rw [if_neg hi, T.get_nS, if_pos hj]; rfl
      · rw [if_neg hi, T.get_nS, if_neg hj, T.get_set_other v k _ _ _ (hne (by omega))]; rfl
    | n l u r =>
      rw [T.set_nS, T.get_nS]
      by_cases hi : i % 2 = 0 <;> by_cases hj : j % 2 = 0
      · rw [if_pos hi, T.get_nS, if_pos hj, if_pos hj, T.get_set_other v k _ _ _ (hne (by omega))]
      · rw [if_pos hi, T.get_nS, if_neg hj, if_neg hj]
      · rw [if_neg hi, T.get_nS, if_pos hj, if_pos hj]
      · rw [if_neg hi, T.get_nS, if_neg hj, if_neg hj, T.get_set_other v k _ _ _ (hne (by omega))]
end
theorem forceN_eq {α : Type} (n : Nat) (k : Nat → α) : forceN n k = k n := by cases n <;> rfl
theorem forceI_eq {α : Type} (n : Int) (k : Int → α) : forceI n k = k n := by
  cases n with
  | ofNat m => exact forceN_eq m fun m => k (.ofNat m)
  | negSucc m => exact forceN_eq m fun m => k (.negSucc m)

/-- What a value of the run is. -/
noncomputable def conc (θ : Th) : AV → Value
  | .lit v => v
  | .ptr id off => .pointer (some ⟨(θ id).b, off, none⟩)
  | .slc id off len sub => .slice (some ⟨(θ id).b, off, none⟩) len ((θ id).c - sub)
  | .slx id off len cap => .slice (some ⟨(θ id).b, off, none⟩) len cap
  | .slo id => .slice (θ id).a 0 (θ id).c
  | .mp id => .map (some (θ id).b)
  | .yld id => .func (.yield (θ id).b) #[] #[]
  | .fn f a b => .func (.func f) (a.map (conc θ)).toArray (b.map (conc θ)).toArray
  | .ifc t v => .iface t (conc θ v)
  | .agg cs => .agg (cs.map (conc θ)).toArray
  | .tup cs => .tuple (cs.map (conc θ)).toArray
/-- It names blocks below n alone, and slices are no longer than their capacities. -/
def bd (θ : Th) (n : Nat) : AV → Prop
  | .lit _ => True
  | .ptr id _ => id < n
  | .slc id _ len sub => id < n ∧ len + sub ≤ (θ id).c
  | .slx id _ _ _ => id < n
  | .slo id => id < n
  | .mp id => id < n
  | .yld id => id < n
  | .fn _ a b => (∀ x ∈ a, bd θ n x) ∧ ∀ x ∈ b, bd θ n x
  | .ifc _ v => bd θ n v
  | .agg cs => ∀ x ∈ cs, bd θ n x
  | .tup cs => ∀ x ∈ cs, bd θ n x
def Ext (θ θ' : Th) (n : Nat) : Prop := ∀ id, id < n → θ' id = θ id
theorem Ext.refl (θ : Th) (n : Nat) : Ext θ θ n := fun _ _ => rfl
theorem Ext.trans {θ θ' θ'' : Th} {n m : Nat} (h : Ext θ θ' n) (h' : Ext θ' θ'' m) (hnm : n ≤ m) : Ext θ θ'' n := fun id hid => (h' id (Nat.lt_of_lt_of_le hid hnm)).trans (h id hid)
theorem bd_ext {θ θ' : Th} {n m : Nat} (he : Ext θ θ' n) (hnm : n ≤ m) : ∀ v, bd θ n v → bd θ' m v
  | .lit _, _ => by simp [bd]
  | .ptr id _, h => by simp only [bd] at h ⊢; omega
  | .slc id _ _ _, h => by simp only [bd] at h ⊢; rw [he id h.1]; exact ⟨by omega, h.2⟩
  | .slx id _ _ _, h => by simp only [bd] at h ⊢; omega
  | .slo id, h => by simp only [bd] at h ⊢; omega
  | .mp id, h => by simp only [bd] at h ⊢; omega
  | .yld id, h => by simp only [bd] at h ⊢; omega
  | .fn _ a b, h => by
    simp only [bd] at h ⊢
    exact ⟨fun x hx => bd_ext he hnm x (h.1 x hx), fun x hx => bd_ext he hnm x (h.2 x hx)⟩
  | .ifc _ v, h => by simp only [bd] at h ⊢; exact bd_ext he hnm v h
  | .agg cs, h => by simp only [bd] at h ⊢; exact fun x hx => bd_ext he hnm x (h x hx)
  | .tup cs, h => by simp only [bd] at h ⊢; exact fun x hx => bd_ext he hnm x (h x hx)
theorem conc_ext {θ θ' : Th} {n : Nat} (he : Ext θ θ' n) : ∀ v, bd θ n v → conc θ' v = conc θ v
  | .lit _, _ => by simp [conc]
  | .ptr id _, h => by simp only [bd] at h; simp only [conc, he id h]
  | .slc id _ _ _, h => by simp only [bd] at h; simp only [conc, he id h.1]
  | .slx id _ _ _, h => by simp only [bd] at h; simp only [conc, he id h]
  | .slo id, h => by simp only [bd] at h; simp only [conc, he id h]
  | .mp id, h => by simp only [bd] at h; simp only [conc, he id h]
  | .yld id, h => by simp only [bd] at h; simp only [conc, he id h]
  | .fn _ a b, h => by
    simp only [bd] at h
    have e1 : a.map (conc θ') = a.map (conc θ) := List.map_congr_left fun x hx => conc_ext he x (h.1 x hx)
    have e2 : b.map (conc θ') = b.map (conc θ) := List.map_congr_left fun x hx => conc_ext he x (h.2 x hx)
    simp only [conc, e1, e2]
  | .ifc _ v, h => by simp only [bd] at h; simp only [conc, conc_ext he v h]
  | .agg cs, h => by
    simp only [bd] at h
    have e1 : cs.map (conc θ') = cs.map (conc θ) := List.map_congr_left fun x hx => conc_ext he x (h x hx)
    simp only [conc, e1]
  | .tup cs, h => by
    simp only [bd] at h
    have e1 : cs.map (conc θ') = cs.map (conc θ) := List.map_congr_left fun x hx => conc_ext he x (h x hx)
    simp only [conc, e1]
/-- All of a list. -/
def bdl (θ : Th) (n : Nat) (l : List AV) : Prop := ∀ x ∈ l, bd θ n x
theorem bdl_ext {θ θ' : Th} {n m : Nat} (he : Ext θ θ' n) (hnm : n ≤ m) {l : List AV} (h : bdl θ n l) : bdl θ' m l := fun x hx => bd_ext he hnm x (h x hx)
theorem concl_ext {θ θ' : Th} {n : Nat} (he : Ext θ θ' n) {l : List AV} (h : bdl θ n l) : l.map (conc θ') = l.map (conc θ) := List.map_congr_left fun x hx => conc_ext he x (h x hx)
theorem conc_cells (θ : Th) (v : AV) : (conc θ v).cells.toList = (acells v).map (conc θ) := by
  cases v <;> simp [conc, acells, Value.cells, Function.comp_def]
theorem bd_cells {θ : Th} {n : Nat} {v : AV} (h : bd θ n v) : bdl θ n (acells v) := by
  cases v <;> simp only [acells, bd] at h ⊢
  case agg cs => exact h
  case lit v => intro x hx; obtain ⟨u, _, rfl⟩ := List.mem_map.1 hx; simp [bd]
  all_goals (intro x hx; obtain rfl := List.mem_singleton.1 hx; simpa [bd] using h)
theorem bd_lits {θ : Th} {n : Nat} (l : List Value) : bdl θ n (l.map .lit) := fun x hx => by obtain ⟨u, _, rfl⟩ := List.mem_map.1 hx; simp [bd]
theorem conc_lits (θ : Th) (l : List Value) : (l.map AV.lit).map (conc θ) = l := by simp [Function.comp_def, conc]
end Go.Proofs.YtknplcpjmpmblaaDoor.GX
