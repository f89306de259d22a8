/- A run worked out: operations that touch no memory. -/
import Derived.Test.YtknplcpjmpmblaaDoorZxc
set_option linter.unusedVariables false
set_option linter.unusedSimpArgs false
namespace Go.Proofs.YtknplcpjmpmblaaDoor.GX
open Go Go.RowKit

def descAgg : TypeDesc → Bool
  | .struct _ | .array _ _ => true
  | _ => false
structure TyOK (P : Program) (t : TypeId) (i : TyI) : Prop where
  und : P.underlying t = some i.desc
  info : ∃ inf z, P.info? t = some inf ∧ inf.size = i.size ∧ inf.bytes = i.bytes ∧ inf.zero = some z ∧ z.cells.toList = i.zero
  agg : i.agg = descAgg i.desc
  len : i.zero.length = i.size
  zv : ∀ inf, P.info? t = some inf → inf.zero = some (if i.agg then .agg i.zero.toArray else i.zero.headD undef)
/-- Values of a type are pairs of numbers, and are compared as such. -/
def ints (l : List Int) : Value := .agg (l.map (Value.int .i64)).toArray
/-- Values of a type are so many numbers, and are compared as such. -/
def PairN (P : Program) (t : TypeId) (n : Nat) : Prop := P.eqGuardType P.depth t = false ∧
  ∀ (al bl : List Int), al.length = n → bl.length = n → ∀ w : World, (Op.equal t (ints al) (ints bl)).run P w = .ok (isEq al bl) w
def PairOK (P : Program) (t : TypeId) (n : Nat) : Prop := n = 2 → P.eqGuardType P.depth t = false ∧
  ∀ (a b c d : Int) (w : World), (Op.equal t (.agg #[.int .i64 a, .int .i64 b]) (.agg #[.int .i64 c, .int .i64 d])).run P w = .ok (decide ([a, b] = [c, d])) w
def PairsOK (P : Program) (tb : Tab) : Prop := (∀ t n, tb.keyEq.get t = some n → PairOK P t n) ∧ (∀ t n, tb.eqs.get t = some n → PairN P t n)
def EvOK (θ : Th) (n : Nat) (ev : Operand → Option AV) (ρ : Operand → Value) : Prop := ∀ x v, ev x = some v → bd θ n v ∧ ρ x = conc θ v

section
variable {P : Program} {tb : Tab} {θ : Th} {n : Nat} {ev : Operand → Option AV} {ρ : Operand → Value} {w : World}
theorem run_val {s : Sem Value} {x : Value} {w' : World} (h : s.run P w = .ok x w') : (do pure (Next.value (← s)) : Sem Next).run P w = .ok (.value x) w' := by
  simp [Sem.run_bind, h, Result.andThen]
theorem run_und {t : TypeId} {i : TyI} (h : TyOK P t i) (w : World) : (underlying t).run P w = .ok i.desc w := run_underlying h.und w
theorem run_isAgg' {t : TypeId} {i : TyI} (h : TyOK P t i) (w : World) : (isAgg t).run P w = .ok i.agg w := by
  unfold isAgg
  rw [Sem.run_bind, run_und h w, h.agg]
  cases i.desc <;> rfl
theorem run_size {t : TypeId} {i : TyI} (h : TyOK P t i) (w : World) : (sizeOf t).run P w = .ok i.size w := by
  obtain ⟨inf, z, h1, h2, _⟩ := h.info
  simp [sizeOf, typeInfo, Sem.run_bind, h1, h2, Result.andThen]
theorem run_zero {t : TypeId} {i : TyI} (h : TyOK P t i) : ∃ z, (∀ w, (zeroValue t).run P w = .ok z w) ∧ z.cells.toList = i.zero := by
  obtain ⟨inf, z, h1, h2, h3, h4, h5⟩ := h.info
  exact ⟨z, fun w => by simp [zeroValue, typeInfo, Sem.run_bind, h1, h4, Result.andThen], h5⟩
theorem apart_ok {t : TypeId} {i : TyI} (h : TyOK P t i) {cs : List AV} {off : Nat} {v : AV} (hv : apart i.agg cs off i.size = some v) (hb : bdl θ n cs) (w : World) :
    bd θ n v ∧ (part t (cs.map (conc θ)).toArray off).run P w = .ok (conc θ v) w := by
  unfold part
  rw [Sem.run_bind, run_isAgg' h w]
  unfold apart at hv
  cases ha : i.agg with
  | true =>
    rw [ha] at hv
    simp only [if_true] at hv
    split at hv
    · rename_i hle
      cases hv
      refine ⟨?_, ?_⟩
      · simp only [bd]; exact fun x hx => hb x (List.mem_of_mem_drop (List.mem_of_mem_take hx))
      · simp [Result.andThen, Sem.run_bind, run_size h w, conc, List.map_take, List.map_drop]
    · cases hv
  | false =>
    rw [ha] at hv
    simp only [Bool.false_eq_true, if_false] at hv
    exact ⟨hb v (List.mem_of_getElem? hv), by simp [Result.andThen, hv]⟩
theorem evs_ok (hE : EvOK θ n ev ρ) : ∀ {l : List Operand} {vs : List AV}, evs ev l = some vs → bdl θ n vs ∧ l.map ρ = vs.map (conc θ)
  | [], vs, h => by cases h; exact ⟨fun x hx => (by cases hx), rfl⟩
  | x :: xs, vs, h => by
    simp only [evs] at h
    cases h1 : ev x with
    | none => rw [h1] at h; cases h
    | some v =>
      rw [h1] at h
      cases h2 : evs ev xs with
      | none => rw [h2] at h; cases h
      | some us =>
        rw [h2] at h
        cases h
        obtain ⟨a, b⟩ := hE x v h1
        obtain ⟨c, d⟩ := evs_ok hE h2
        refine ⟨fun y hy => ?_, by simp [b, d]⟩
        rcases List.mem_cons.1 hy with rfl | hy
        · exact a
        · exact c y hy
theorem evps_ok (hE : EvOK θ n ev ρ) : ∀ {l : List (Nat × Operand)} {vs : List (Nat × AV)}, evps ev l = some vs → (∀ p ∈ vs, bd θ n p.2) ∧ (l.map fun (i, x) => (i, ρ x)) = vs.map fun p => (p.1, conc θ p.2)
  | [], vs, h => by cases h; exact ⟨fun x hx => (by cases hx), rfl⟩
  | (i, x) :: xs, vs, h => by
    simp only [evps] at h
    cases h1 : ev x with
    | none => rw [h1] at h; cases h
    | some v =>
      rw [h1] at h
      cases h2 : evps ev xs with
      | none => rw [h2] at h; cases h
      | some us =>
        rw [h2] at h
        cases h
        obtain ⟨a, b⟩ := hE x v h1
        obtain ⟨c, d⟩ := evps_ok hE h2
        refine ⟨fun y hy => ?_, by simp [b]; exact d⟩
        rcases List.mem_cons.1 hy with rfl | hy
        · exact a
        · exact c y hy
/-- Parts put into cells, one after another. -/
theorem foldl_set (off : Nat) : ∀ (vs : List Value) (cs : Array Value) (k : Nat), off + k + vs.length ≤ cs.size →
    (vs.zipIdx k).foldl (fun cs (c, j) => cs.setIfInBounds (off + j) c) cs = (cs.toList.take (off + k) ++ vs ++ cs.toList.drop (off + k + vs.length)).toArray
  | [], cs, k, h => by simp
  | v :: vs, cs, k, h => by
    simp only [List.length_cons] at h
    rw [List.zipIdx_cons, List.foldl_cons, foldl_set off vs _ (k + 1) (by simp; omega)]
    have hk : off + k < cs.toList.length := by simp; omega
    congr 1
    simp only [Array.toList_setIfInBounds, List.length_cons]
    rw [List.take_set, List.drop_set_of_lt (by omega)]
    have e1 : (List.take (off + (k + 1)) cs.toList).set (off + k) v = List.take (off + k) cs.toList ++ [v] := by
      have hm : min (off + k) cs.size = off + k := by simp at hk; omega
      rw [show off + (k + 1) = (off + k) + 1 by omega, List.take_succ_eq_append_getElem hk, List.set_append_right _ _ (by simp; omega)]
      simp [hm]
    rw [e1, show off + (k + 1) + vs.length = off + k + (vs.length + 1) by omega]
    simp
theorem afill_ok {place : Nat → Option (Nat × Nat)} : ∀ {ps : List (Nat × AV)} {cells out : List AV}, afill place cells ps = some out → bdl θ n cells → (∀ p ∈ ps, bd θ n p.2) →
    bdl θ n out ∧ out.length = cells.length ∧ Instr.fill place (cells.map (conc θ)).toArray (ps.map fun p => (p.1, conc θ p.2)) = some (out.map (conc θ)).toArray
  | [], cells, out, h, hb, hp => by cases h; exact ⟨hb, rfl, rfl⟩
  | (i, v) :: rest, cells, out, h, hb, hp => by
    simp only [afill] at h
    cases h1 : place i with
    | none => rw [h1] at h; cases h
    | some os =>
      obtain ⟨off, size⟩ := os
      rw [h1] at h
      simp only at h
      split at h
      · rename_i hc
        obtain ⟨hc1, hc2⟩ := hc
        have hbv : bd θ n v := hp (i, v) (by simp)
        have hb' : bdl θ n (cells.take off ++ acells v ++ cells.drop (off + size)) := fun x hx => by
          rcases List.mem_append.1 hx with hx | hx
          · rcases List.mem_append.1 hx with hx | hx
            · exact hb x (List.mem_of_mem_take hx)
            · exact bd_cells hbv x hx
          · exact hb x (List.mem_of_mem_drop hx)
        obtain ⟨a, b, c⟩ := afill_ok h hb' (fun p hp' => hp p (by simp [hp']))
        refine ⟨a, ?_, ?_⟩
        · rw [b]; simp; omega
        · have hcl := conc_cells θ v
          have hsz : (conc θ v).cells.size = size := by
            have := congrArg List.length hcl
            simp at this
            rw [this, hc1]
          simp only [List.map_cons, Instr.fill, h1]
          rw [if_neg (by simp [hsz]; omega), ← c]
          congr 1
          rw [← Array.foldl_toList, Array.toList_zipIdx, foldl_set off _ _ 0 (by simp [hsz]; omega)]
          simp only [Nat.add_zero, hcl, List.map_append, List.map_take, List.map_drop, List.length_map, hc1]
      · cases h
theorem rep_len {l : List AV} : ∀ k, (rep l k).length = k * l.length
  | 0 => by simp [rep]
  | k + 1 => by simp only [rep, List.length_append, rep_len k]; rw [Nat.succ_mul]; omega
theorem rep_bd {l : List AV} (h : bdl θ n l) : ∀ k, bdl θ n (rep l k)
  | 0 => fun x hx => by cases hx
  | k + 1 => fun x hx => by
    rcases List.mem_append.1 hx with hx | hx
    · exact h x hx
    · exact rep_bd h k x hx
theorem rep_get {l : List AV} (hl : 0 < l.length) : ∀ (k j : Nat), j < k * l.length → (rep l k)[j]? = l[j % l.length]?
  | 0, j, h => by simp at h
  | k + 1, j, h => by
    simp only [rep]
    by_cases hj : j < l.length
    · rw [List.getElem?_append_left hj, Nat.mod_eq_of_lt hj]
    · rw [List.getElem?_append_right (by omega), rep_get hl k (j - l.length) (by rw [Nat.succ_mul] at h; omega)]
      congr 1
      rw [show j = (j - l.length) + l.length by omega]
      simp
end
end Go.Proofs.YtknplcpjmpmblaaDoor.GX
