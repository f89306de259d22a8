/- A run worked out: the kite's tables tell the truth; what recovers is worked out, too. -/
import Derived.Test.YtknplcpjmpmblaaDoorZka
import Derived.Test.YtknplcpjmpmblaaDoorZxs
import Derived.Test.YtknplcpjmpmblaaDoorZxn
import Derived.RangeFuncCalls
set_option linter.unusedVariables false
set_option linter.unusedSimpArgs false
namespace Go.Proofs.YtknplcpjmpmblaaDoor.GX
open Go Go.RowKit
theorem set_one {α : Type} {v u : α} {i j : Nat} {t : T α} (hi : i < 1000) (h : (T.set (some v) 11 t i).get j = some u) : (j = i ∧ u = v) ∨ t.get j = some u := by
  by_cases hj : j = i
  · subst hj
    rw [T.get_set_same _ 11 _ _ (Nat.lt_of_le_of_lt (Nat.succ_le_succ (Nat.le_of_lt hi)) (by decide))] at h
    cases h; exact .inl ⟨rfl, rfl⟩
  · rw [T.get_set_other _ 11 _ _ _ hj] at h; exact .inr h
/-- The table of sines lies where it was laid, and nothing is written there. -/
def SinB (b : Bs) : Prop := 0 < b.n ∧ SinAt b.w
theorem SinB.at {b : Bs} {θ : Th} {h : AH} {w : World} (hb : SinB b) (hR : R b θ h w) : SinAt w := by
  have he := hR.b0 _ hb.1
  refine ⟨Nat.lt_of_lt_of_le hb.1 hR.size, fun i hi => ?_⟩
  rw [World.cell?_of_block (w := b.w) he]
  exact hb.2.2 i hi
section
variable {P : Program}
/-- Two pairs of numbers, at any depth. -/
theorem equalIn_pair {kt : TypeId} {f0 f1 : Field} (hu : P.underlying kt = some (.struct #[f0, f1])) (hs : P.stoodInHeld kt = false) (n0 : f0.name ≠ "_") (n1 : f1.name ≠ "_") (o0 : f0.offset = 0) (o1 : f1.offset = 1)
    (u0 : P.underlying f0.type = some (.int .i64)) (u1 : P.underlying f1.type = some (.int .i64)) (k : Nat) (a b c d : Int) (w : World) :
    (Op.equalIn (k + 2) kt (.agg #[.int .i64 a, .int .i64 b]) (.agg #[.int .i64 c, .int .i64 d])).run P w = .ok (decide (a = c) && decide (b = d)) w := by
  have hf : P.fieldsOf kt = #[f0, f1] := by unfold Program.fieldsOf; rw [hu]
  rw [show k + 2 = (k + 1) + 1 from rfl, run_equalIn_struct (P := P) w (k + 1) kt _ _ (by rw [hf]; exact hu) hs, hf]
  have q : ∀ (t : TypeId) (x y : Int), P.underlying t = some (.int .i64) → (Op.equalIn (k + 1) t (.int .i64 x) (.int .i64 y)).run P w = .ok (x == y) w := fun t x y ht => by
    rw [Op.equalIn, Sem.run_bind, run_underlying ht w]
    simp [Result.andThen]
  simp only [Op.eqFields, n0, n1, o0, o1, ne_eq, not_false_eq_true, if_true, Sem.run_bind]
  rw [part_pair u0 (xs := #[.int .i64 a, .int .i64 b]) (off := 0) (v := .int .i64 a) rfl w]
  simp only [Result.andThen]
  rw [part_pair u0 (xs := #[.int .i64 c, .int .i64 d]) (off := 0) (v := .int .i64 c) rfl w]
  simp only [Result.andThen]
  rw [q _ a c u0]
  simp only [Result.andThen]
  by_cases hac : a = c
  · subst hac
    simp only [beq_self_eq_true, Bool.not_true, Bool.false_eq_true, if_false, Sem.run_bind]
    rw [part_pair u1 (xs := #[.int .i64 a, .int .i64 b]) (off := 1) (v := .int .i64 b) rfl w]
    simp only [Result.andThen]
    rw [part_pair u1 (xs := #[.int .i64 a, .int .i64 d]) (off := 1) (v := .int .i64 d) rfl w]
    simp only [Result.andThen]
    rw [q _ b d u1]
    simp only [Result.andThen]
    by_cases hbd : b = d
    · subst hbd; simp
    · simp [hbd]
  · simp [hac]
/-- A part that is a pair of numbers. -/
theorem part_two {t : TypeId} {fs : Array Field} (hu : P.underlying t = some (.struct fs)) (hz : ∀ w, (sizeOf t).run P w = .ok 2 w) {xs : Array Value} {off : Nat} {w : World} : (part t xs off).run P w = .ok (.agg (xs.extract off (off + 2))) w := by
  have ha : (isAgg t).run P w = .ok true w := by
    unfold isAgg
    rw [Sem.run_bind, run_underlying hu w]
    rfl
  unfold part
  rw [Sem.run_bind, ha]
  simp [Result.andThen, hz]
end
/-- Three pairs of numbers. -/
theorem triple_eq {P : Program} {kt ts : TypeId} {f0 f1 f2 : Field} (hu : P.underlying kt = some (.struct #[f0, f1, f2])) (hs : P.stoodInHeld kt = false) (n0 : f0.name ≠ "_") (n1 : f1.name ≠ "_") (n2 : f2.name ≠ "_") (o0 : f0.offset = 0) (o1 : f1.offset = 2) (o2 : f2.offset = 4)
    (t0 : f0.type = ts) (t1 : f1.type = ts) (t2 : f2.type = ts) {fs : Array Field} (hus : P.underlying ts = some (.struct fs)) (hz : ∀ w, (sizeOf ts).run P w = .ok 2 w)
    (hsp : ∀ (k : Nat) (a b c d : Int) (w : World), (Op.equalIn (k + 2) ts (.agg #[.int .i64 a, .int .i64 b]) (.agg #[.int .i64 c, .int .i64 d])).run P w = .ok (decide (a = c) && decide (b = d)) w)
    (a1 a2 a3 a4 a5 a6 b1 b2 b3 b4 b5 b6 : Int) (w : World) :
    (Op.equal kt (ints [a1, a2, a3, a4, a5, a6]) (ints [b1, b2, b3, b4, b5, b6])).run P w = .ok (isEq [a1, a2, a3, a4, a5, a6] [b1, b2, b3, b4, b5, b6]) w := by
  have hf : P.fieldsOf kt = #[f0, f1, f2] := by unfold Program.fieldsOf; rw [hu]
  have e : Op.equal kt (ints [a1, a2, a3, a4, a5, a6]) (ints [b1, b2, b3, b4, b5, b6]) = Op.equalIn (9999 + 1) kt (.agg #[.int .i64 a1, .int .i64 a2, .int .i64 a3, .int .i64 a4, .int .i64 a5, .int .i64 a6]) (.agg #[.int .i64 b1, .int .i64 b2, .int .i64 b3, .int .i64 b4, .int .i64 b5, .int .i64 b6]) := rfl
  rw [e, run_equalIn_struct (P := P) w 9999 _ _ _ (by rw [hf]; exact hu) hs, hf]
  have x0 : ∀ c1 c2 c3 c4 c5 c6 : Int, (#[Value.int .i64 c1, .int .i64 c2, .int .i64 c3, .int .i64 c4, .int .i64 c5, .int .i64 c6] : Array Value).extract 0 (0 + 2) = #[Value.int .i64 c1, .int .i64 c2] := fun _ _ _ _ _ _ => rfl
  have x1 : ∀ c1 c2 c3 c4 c5 c6 : Int, (#[Value.int .i64 c1, .int .i64 c2, .int .i64 c3, .int .i64 c4, .int .i64 c5, .int .i64 c6] : Array Value).extract 2 (2 + 2) = #[Value.int .i64 c3, .int .i64 c4] := fun _ _ _ _ _ _ => rfl
  have x2 : ∀ c1 c2 c3 c4 c5 c6 : Int, (#[Value.int .i64 c1, .int .i64 c2, .int .i64 c3, .int .i64 c4, .int .i64 c5, .int .i64 c6] : Array Value).extract 4 (4 + 2) = #[Value.int .i64 c5, .int .i64 c6] := fun _ _ _ _ _ _ => rfl
  simp only [Op.eqFields, n0, n1, n2, o0, o1, o2, t0, t1, t2, ne_eq, not_false_eq_true, if_true, Sem.run_bind, part_two hus hz, Result.andThen, x0, x1, x2, hsp 9997]
  by_cases h1 : a1 = b1 <;> by_cases h2 : a2 = b2 <;> by_cases h3 : a3 = b3 <;> by_cases h4 : a4 = b4 <;> by_cases h5 : a5 = b5 <;> by_cases h6 : a6 = b6 <;> simp [h1, h2, h3, h4, h5, h6, isEq, hsp 9997, part_two hus hz, Result.andThen, x1, x2, Sem.run_bind]
theorem landing_eq : PairN Tryd.prog 67 6 := by
  refine ⟨by kernel_rfl, fun al bl ha hb w => ?_⟩
  match al, ha, bl, hb with
  | [a1, a2, a3, a4, a5, a6], _, [b1, b2, b3, b4, b5, b6], _ =>
    exact triple_eq (P := Tryd.prog) (kt := 67) Tryd.underlying67 (by kernel_rfl) (by decide) (by decide) (by decide) rfl rfl rfl rfl rfl rfl Tryd.underlying23 (fun w => by kernel_rfl)
      (fun k a b c d w => equalIn_pair (P := Tryd.prog) (kt := 23) Tryd.underlying23 (by kernel_rfl) (by decide) (by decide) rfl rfl (by kernel_rfl) (by kernel_rfl) k a b c d w) a1 a2 a3 a4 a5 a6 b1 b2 b3 b4 b5 b6 w
theorem kiTab0_ok {base : Bs} (hs : SinB base) : TabOK Tryd.prog kiTab0 base where
  mixed := by kernel_rfl
  ty := fun t i h => by
    simp only [kiTab0] at h
    exact tyTab_ok kiTypes t i h
  fn := fun t i h => by
    simp only [kiTab0] at h
    exact fnTab_ok kiFns t i h
  key := fun t n h => by
    simp only [kiTab0] at h
    rcases set_one (by decide) h with ⟨rfl, rfl⟩ | h
    · exact keyPair (P := Tryd.prog) (kt := 23) Tryd.underlying23 (by kernel_rfl) (by decide) (by decide) rfl rfl (by kernel_rfl) (by kernel_rfl)
    rcases set_one (by decide) h with ⟨rfl, rfl⟩ | h
    · exact keyPair (P := Tryd.prog) (kt := 179) Tryd.underlying179 (by kernel_rfl) (by decide) (by decide) rfl rfl (by kernel_rfl) (by kernel_rfl)
    · cases h
  pair := ⟨fun t n h => (by
    simp only [kiTab0] at h
    rcases set_one (by decide) h with ⟨rfl, rfl⟩ | h
    · exact fun _ => ⟨by kernel_rfl, fun a b c d w => equal_pair (P := Tryd.prog) (kt := 23) Tryd.underlying23 (by kernel_rfl) (by decide) (by decide) rfl rfl (by kernel_rfl) (by kernel_rfl) a b c d w⟩
    rcases set_one (by decide) h with ⟨rfl, rfl⟩ | h
    · exact fun _ => ⟨by kernel_rfl, fun a b c d w => equal_pair (P := Tryd.prog) (kt := 179) Tryd.underlying179 (by kernel_rfl) (by decide) (by decide) rfl rfl (by kernel_rfl) (by kernel_rfl) a b c d w⟩
    · cases h), fun t n h => (by
    simp only [kiTab0] at h
    rcases set_one (by decide) h with ⟨rfl, rfl⟩ | h
    · exact landing_eq
    · cases h)⟩
  nat := fun f g h => by
    simp only [kiTab0] at h
    rcases set_one (by decide) h with ⟨rfl, rfl⟩ | h
    · refine ⟨enter_of Tryd.func104 (by kernel_rfl) (by kernel_rfl), fun θ h w args v hR hb hx => ?_⟩
      unfold natSin at hx
      split at hx <;> try (cases hx; done)
      rename_i a
      split at hx <;> try (cases hx; done)
      rename_i hc
      cases hx
      refine ⟨by simp [bd], ?_⟩
      simp only [List.map_cons, List.map_nil, conc_lit]
      refine (sine_any a w (hs.at hR) hc.1 hc.2).mono fun e w' he => ?_
      obtain ⟨rfl, rfl⟩ := he
      exact ⟨rfl, Below.refl _ _⟩
    · cases h
  nat2 := fun f g h => by simp [kiTab0, T.get] at h
  pur := fun f g h => by
    simp only [kiTab0] at h
    rcases set_one (by decide) h with ⟨rfl, rfl⟩ | h
    · refine ⟨enter_of Tryd.func25 (by kernel_rfl) (by kernel_rfl), fun vs v hx => ?_⟩
      unfold purSpan at hx
      split at hx <;> try (cases hx; done)
      rename_i a b
      cases hx
      refine ⟨fun θ n => by simp [bd], fun θ w => ?_⟩
      refine (span_any a b w).mono fun e w' he => ?_
      obtain ⟨rfl, hb⟩ := he
      exact ⟨by simp [conc], hb⟩
    · cases h
  dnat := fun f g h => by simp [kiTab0, T.get] at h
def kiTA : TA := ⟨20, 162, .lit (.agg #[.int .i64 0, .int .i64 0, .int .i64 0, .slice none 0 0, .slice none 0 0])⟩
theorem kiTA_ok : TAOK Tryd.prog kiTA := ⟨⟨_, rfl, fun w => by kernel_rfl⟩, fun v w => by kernel_rfl⟩
noncomputable def kiRn : RN := T.set (some (rcvD kiTab0 200 kiTA 120)) 11 .e 120
def kiHints : List (List Nat) := [[1,1,0,1,1,1,1,0,1,1,0,1,0,5,1,1,0,1,1,0,1,0,5,1,1,1,1,1,0,1,0,5,0,6,1,1,1,1,1,13]]
noncomputable def kiTab : Tab := { kiTab0 with nat2 := T.set (some (xcallRs kiTab0 (execP kiTab0 400 400) kiRn 96 kiHints)) 11 .e 96 }
theorem kiRn_ok {base : Bs} (hs : SinB base) : RecOK Tryd.prog base kiRn := by
  obtain ⟨fn, hfn⟩ : ∃ fn, kiTab0.fn.get 120 = some fn := ⟨Tryd.f120, by kernel_rfl⟩
  refine recOK_of (kiTab0_ok hs) kiTA_ok (m := 200) hfn fun f' g hg => ?_
  unfold kiRn at hg
  rcases set_one (by decide) hg with ⟨rfl, rfl⟩ | h
  · exact ⟨rfl, rfl⟩
  · cases h
set_option maxRecDepth 1000000 in
theorem kiTab_ok {base : Bs} (hs : SinB base) : TabOK Tryd.prog kiTab base where
  mixed := (kiTab0_ok hs).mixed
  ty := fun t i h => (kiTab0_ok hs).ty t i h
  fn := fun t i h => (kiTab0_ok hs).fn t i h
  key := fun t n h => (kiTab0_ok hs).key t n h
  pair := (kiTab0_ok hs).pair
  nat := fun f g h => (kiTab0_ok hs).nat f g h
  dnat := fun f g h => (kiTab0_ok hs).dnat f g h
  pur := (kiTab0_ok hs).pur
  nat2 := fun f g h => by
      simp only [kiTab] at h
      rcases set_one (by decide) h with ⟨rfl, rfl⟩ | h
      · exact natR (kiTab0_ok hs) (execP_sound (kiTab0_ok hs) 400 400) (kiRn_ok hs) (enter_of Tryd.func96 (by kernel_rfl) (by kernel_rfl)) kiHints
      · cases h
end Go.Proofs.YtknplcpjmpmblaaDoor.GX
