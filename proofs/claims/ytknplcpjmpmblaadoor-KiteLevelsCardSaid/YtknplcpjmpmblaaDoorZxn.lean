/- A run worked out: keys that are pairs of numbers. -/
import Derived.Test.YtknplcpjmpmblaaDoorZxm
import Derived.Laws.StructEq
import Derived.WideKeyRuns
set_option linter.unusedVariables false
set_option linter.unusedSimpArgs false
namespace Go.Proofs.YtknplcpjmpmblaaDoor.GX
open Go Go.RowKit

theorem ai64_ok {v : AV} {n : Int} (h : ai64 v = some n) : v = .lit (.int .i64 n) := by
  unfold ai64 at h
  split at h
  · cases h; rfl
  · cases h
theorem akey_pair {k : AV} {ks : List Int} (h : akey k = some ks) (hl : ks.length = 2) : ∃ a b, k = .agg [.lit (.int .i64 a), .lit (.int .i64 b)] ∧ ks = [a, b] := by
  unfold akey at h
  split at h <;> try (cases h; done)
  rename_i cs
  match cs, h with
  | [], h => cases h; cases hl
  | [v], h =>
    simp only [ai64s] at h
    split at h <;> try (cases h; done)
    rename_i n ns h1 h2; cases h2; cases h; cases hl
  | [v, u], h =>
    simp only [ai64s] at h
    cases h1 : ai64 v with
    | none => rw [h1] at h; cases h
    | some a =>
      cases h2 : ai64 u with
      | none => rw [h1, h2] at h; cases h
      | some b =>
        rw [h1, h2] at h
        cases h
        exact ⟨a, b, by rw [ai64_ok h1, ai64_ok h2], rfl⟩
  | v :: u :: t :: r, h =>
    simp only [ai64s] at h
    split at h <;> try (cases h; done)
    rename_i n ns h1 h2
    split at h2 <;> try (cases h2; done)
    rename_i n' ns' h3 h4
    split at h4 <;> try (cases h4; done)
    cases h4; cases h2; cases h; simp at hl
section
variable {P : Program} {kt : TypeId} {f0 f1 : Field}
theorem part_pair {t : TypeId} {k : IntKind} (hu : P.underlying t = some (.int k)) {xs : Array Value} {off : Nat} {v : Value} (hx : xs[off]? = some v) (w : World) : (part t xs off).run P w = .ok v w := by
  have ha : (isAgg t).run P w = .ok false w := by
    unfold isAgg
    rw [Sem.run_bind, run_underlying hu w]
    rfl
  unfold part
  rw [Sem.run_bind, ha]
  simp [Result.andThen, hx]
theorem equal_pair (hu : P.underlying kt = some (.struct #[f0, f1])) (hs : P.stoodInHeld kt = false) (n0 : f0.name ≠ "_") (n1 : f1.name ≠ "_") (o0 : f0.offset = 0) (o1 : f1.offset = 1)
    (u0 : P.underlying f0.type = some (.int .i64)) (u1 : P.underlying f1.type = some (.int .i64)) (a b c d : Int) (w : World) :
    (Op.equal kt (.agg #[.int .i64 a, .int .i64 b]) (.agg #[.int .i64 c, .int .i64 d])).run P w = .ok (decide ([a, b] = [c, d])) w := by
  have hf : P.fieldsOf kt = #[f0, f1] := by unfold Program.fieldsOf; rw [hu]
  have e : Op.equal kt (.agg #[.int .i64 a, .int .i64 b]) (.agg #[.int .i64 c, .int .i64 d]) = Op.equalIn (9999 + 1) kt (.agg #[.int .i64 a, .int .i64 b]) (.agg #[.int .i64 c, .int .i64 d]) := rfl
  rw [e, run_equalIn_struct (P := P) w 9999 kt _ _ (by rw [hf]; exact hu) hs, hf]
  have q : ∀ (t : TypeId) (x y : Int), P.underlying t = some (.int .i64) → (Op.equalIn 9999 t (.int .i64 x) (.int .i64 y)).run P w = .ok (x == y) w := fun t x y ht => by
    have e : Op.equalIn 9999 t (.int .i64 x) (.int .i64 y) = Op.equalIn (9998 + 1) t (.int .i64 x) (.int .i64 y) := rfl
    rw [e, Op.equalIn, Sem.run_bind, run_underlying ht w]
    simp [Result.andThen]
  simp only [Op.eqFields, n0, n1, o0, o1, ne_eq, not_false_eq_true, if_true, Sem.run_bind]
  rw [part_pair u0 (xs := #[.int .i64 a, .int .i64 b]) (off := 0) (v := .int .i64 a) rfl w]
  simp only [Result.andThen]
  rw [part_pair u0 (xs := #[.int .i64 c, .int .i64 d]) (off := 0) (v := .int .i64 c) rfl w]
  simp only [Result.andThen]
  rw [q _ a c u0]
  simp only [Result.andThen]
  by_cases hac : a = c
  · subst hac
    simp only [beq_self_eq_true, Bool.not_true, Bool.false_eq_true, if_false, Sem.run_bind]
    rw [part_pair u1 (xs := #[.int .i64 a, .int .i64 b]) (off := 1) (v := .int .i64 b) rfl w]
    simp only [Result.andThen]
    rw [part_pair u1 (xs := #[.int .i64 a, .int .i64 d]) (off := 1) (v := .int .i64 d) rfl w]
    simp only [Result.andThen]
    rw [q _ b d u1]
    simp only [Result.andThen]
    by_cases hbd : b = d
    · subst hbd; simp
    · simp [hbd]
  · simp [hac]
theorem find_pair (hu : P.underlying kt = some (.struct #[f0, f1])) (hs : P.stoodInHeld kt = false) (n0 : f0.name ≠ "_") (n1 : f1.name ≠ "_") (o0 : f0.offset = 0) (o1 : f1.offset = 1)
    (u0 : P.underlying f0.type = some (.int .i64)) (u1 : P.underlying f1.type = some (.int .i64)) (θ : Th) (a b : Int) (w : World) :
    ∀ (es : List (AV × AV × Nat)) (i : Nat) (r : Option (Nat × AV)), afind [a, b] es i = some r →
      (Instr.findAsking kt (.agg #[.int .i64 a, .int .i64 b]) (es.map (entryC θ)) i).run P w = .ok (r.map fun p => (p.1, conc θ p.2)) w ∧
        ∀ p v, r = some (p, v) → i ≤ p ∧ ∃ e, es[p - i]? = some e ∧ e.2.1 = v ∧ e.1 = .agg [.lit (.int .i64 a), .lit (.int .i64 b)]
  | [], i, r, h => by cases h; exact ⟨rfl, fun p v hr => by cases hr⟩
  | (k', v', n) :: es, i, r, h => by
    simp only [afind] at h
    split at h <;> try (cases h; done)
    rename_i ks hk
    split at h <;> try (cases h; done)
    rename_i hl
    obtain ⟨c, d, rfl, rfl⟩ := akey_pair hk hl
    have hq := equal_pair hu hs n0 n1 o0 o1 u0 u1 a b c d w
    simp only [List.map_cons, Instr.findAsking, Sem.run_bind]
    have hkc : (entryC θ (.agg [.lit (.int .i64 c), .lit (.int .i64 d)], v', n)).key = .agg #[.int .i64 c, .int .i64 d] := by simp [entryC, conc]
    rw [hkc, hq]
    simp only [Result.andThen]
    split at h
    · rename_i he
      cases h
      simp only [he, decide_true, if_true]
      refine ⟨by simp [entryC], fun p v hr => ?_⟩
      cases hr
      obtain ⟨rfl, rfl⟩ : a = c ∧ b = d := by simpa using he
      exact ⟨Nat.le_refl _, (.agg [.lit (.int .i64 a), .lit (.int .i64 b)], v', n), by simp, rfl, rfl⟩
    · rename_i he
      simp only [he, decide_false, Bool.false_eq_true, if_false]
      obtain ⟨x, y⟩ := find_pair hu hs n0 n1 o0 o1 u0 u1 θ a b w es (i + 1) r h
      refine ⟨x, fun p v hr => ?_⟩
      obtain ⟨h1, e, h2, h3⟩ := y p v hr
      refine ⟨by omega, e, ?_, h3⟩
      rw [show p - i = (p - (i + 1)) + 1 by omega]
      simpa using h2
/-- Keys that are pairs of numbers. -/
theorem keyPair (hu : P.underlying kt = some (.struct #[f0, f1])) (hs : P.stoodInHeld kt = false) (n0 : f0.name ≠ "_") (n1 : f1.name ≠ "_") (o0 : f0.offset = 0) (o1 : f1.offset = 1)
    (u0 : P.underlying f0.type = some (.int .i64)) (u1 : P.underlying f1.type = some (.int .i64)) : KeyOK P kt 2 := by
  intro θ k es r hf w b0
  unfold afindIn at hf
  split at hf <;> try (cases hf; done)
  rename_i ks hk
  split at hf <;> try (cases hf; done)
  rename_i hl
  obtain ⟨a, b, rfl, rfl⟩ := akey_pair hk hl
  have hc : conc θ (.agg [.lit (.int .i64 a), .lit (.int .i64 b)]) = .agg #[.int .i64 a, .int .i64 b] := by simp [conc]
  obtain ⟨hfa, hst⟩ := find_pair hu hs n0 n1 o0 o1 u0 u1 θ a b w es 0 r hf
  rw [hc]
  refine ⟨?_, ?_, fun p v hr => ?_⟩
  · have q : ∀ (t : TypeId) (x : Int), P.underlying t = some (.int .i64) → (Instr.checkKey b0 9999 t (.int .i64 x)).run P w = .ok () w := fun t x ht => by
      have e : Instr.checkKey b0 9999 t (.int .i64 x) = Instr.checkKey b0 (9998 + 1) t (.int .i64 x) := rfl
      rw [e, Instr.checkKey, Sem.run_bind, run_underlying ht w]
      simp [Result.andThen]
    have e : Instr.checkKey b0 10000 kt (.agg #[.int .i64 a, .int .i64 b]) = Instr.checkKey b0 (9999 + 1) kt (.agg #[.int .i64 a, .int .i64 b]) := rfl
    rw [e, Instr.checkKey, Sem.run_bind, run_underlying hu w]
    simp only [Result.andThen]
    rw [← Array.forIn_toList]
    simp only [List.forIn_cons, List.forIn_nil, n0, n1, o0, o1, ne_eq, not_false_eq_true, if_true, Sem.run_bind]
    rw [part_pair u0 (xs := #[.int .i64 a, .int .i64 b]) (off := 0) (v := .int .i64 a) rfl w]
    simp only [Result.andThen, q _ a u0, Sem.run_pure, Sem.run_bind]
    rw [part_pair u1 (xs := #[.int .i64 a, .int .i64 b]) (off := 1) (v := .int .i64 b) rfl w]
    simp [Result.andThen, q _ b u1]
  · unfold Instr.findKey
    rw [Sem.run_bind, run_underlying hu w]
    simp only [Result.andThen]
    cases es with
    | nil => cases hf; rfl
    | cons e es =>
      have : Instr.findNow (.struct #[f0, f1]) (.agg #[.int .i64 a, .int .i64 b]) ((e :: es).map (entryC θ)) 0 = none := by
        simp only [List.map_cons, Instr.findNow, Instr.sameNow]
      rw [this]
      exact hfa
  · obtain ⟨_, e, h1, h2, h3⟩ := hst p v hr
    refine ⟨e, by simpa using h1, h2, ?_⟩
    rw [h3, hc]
    unfold Instr.keyThatStays
    have : Instr.sameBits 10000 (.agg #[.int .i64 a, .int .i64 b]) (.agg #[.int .i64 a, .int .i64 b]) = true := by
      simp [Instr.sameBits]
    rw [this]
    rfl
end
end Go.Proofs.YtknplcpjmpmblaaDoor.GX
