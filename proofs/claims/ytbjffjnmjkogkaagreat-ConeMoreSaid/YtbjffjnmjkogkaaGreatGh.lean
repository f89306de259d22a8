import Derived.Test.YtbjffjnmjkogkaaGreatGj
import Derived.Test.YtbjffjnmjkogkaaGreatZxk
set_option linter.unusedVariables false
set_option linter.unusedSimpArgs false
namespace Go.Proofs.YtbjffjnmjkogkaaGreat
open Go.RowKit
open Go.Maps
section
variable {ops : Array Oper}
def stepM (ops : Array Oper) (i m : Nat) : Nat := if m.testBit i then match ops[i]? with
  | some o => o.after.toList.foldl (fun m e => if Region.binds .any e then m ||| 2 ^ e.on else m) m
  | none => m
  else m
def marksM (ops : Array Oper) : Nat → Nat → Nat
  | 0, m => stepM ops 0 m
  | i + 1, m => marksM ops i (stepM ops (i + 1) m)
noncomputable def covB (ops : Array Oper) (f i : Nat) : Bool := match ops[f]? with
  | some o => !GX.firstKind o.op && (marksM ops f (2 ^ f)).testBit i
  | none => false
noncomputable def coveredB (ops : Array Oper) (listed : Array Bool) (i : Nat) : Bool := (List.range ops.size).any fun f => listed.getD f false && covB ops f i
def Up (LC : Array Bool) (m : Nat) : Prop := ∀ i, m.testBit i = true → LC.getD i false = true
theorem fold_up {LC : Array Bool} : ∀ (l : List Edge) (m : Nat), Up LC m → (∀ e ∈ l, Region.binds .any e = true → LC.getD e.on false = true) → Up LC (l.foldl (fun m e => if Region.binds .any e then m ||| 2 ^ e.on else m) m)
  | [], m, h, _ => h
  | e :: l, m, h, ha => by
    refine fold_up l _ ?_ (fun e' he' => ha e' (List.mem_cons_of_mem _ he'))
    dsimp only
    split
    · rename_i hb
      intro i hi
      rw [Nat.testBit_or, Bool.or_eq_true] at hi
      rcases hi with hi | hi
      · exact h i hi
      · rw [Nat.testBit_two_pow] at hi
        obtain rfl : e.on = i := by simpa using hi
        exact ha e (List.mem_cons_self ..) hb
    · exact h
theorem step_up {LC : Array Bool} (hc : GX.Closed ops LC) {i m : Nat} (h : Up LC m) : Up LC (stepM ops i m) := by
  unfold stepM
  split
  · rename_i hi
    cases ho : ops[i]? with
    | none => exact h
    | some o => exact fold_up _ _ h (fun e he hb => hc i o ho (h i hi) e (by simpa using he) hb)
  · exact h
theorem marks_up {LC : Array Bool} (hc : GX.Closed ops LC) : ∀ (i m : Nat), Up LC m → Up LC (marksM ops i m)
  | 0, _, h => step_up hc h
  | i + 1, _, h => marks_up hc i _ (step_up hc h)
theorem marks_ok {LC : Array Bool} (hc : GX.Closed ops LC) {f i : Nat} (hf : LC.getD f false = true) (h : (marksM ops f (2 ^ f)).testBit i = true) : LC.getD i false = true :=
  marks_up hc f _ (fun j hj => by
    rw [Nat.testBit_two_pow] at hj
    obtain rfl : f = j := by simpa using hj
    exact hf) i h
theorem covB_ok {f i : Nat} (h : covB ops f i = true) : ∃ o, ops[f]? = some o ∧ GX.firstKind o.op = false ∧ (marksM ops f (2 ^ f)).testBit i = true := by
  unfold covB at h
  split at h <;> try (cases h; done)
  rename_i o ho
  simp only [Bool.and_eq_true, Bool.not_eq_true'] at h
  exact ⟨o, ho, h.1, h.2⟩
theorem coveredB_ok {listed : Array Bool} {i : Nat} (h : coveredB ops listed i = true) : ∃ f, covB ops f i = true ∧ listed.getD f false = true := by
  unfold coveredB at h
  rw [List.any_eq_true] at h
  obtain ⟨f, _, h⟩ := h
  rw [Bool.and_eq_true] at h
  exact ⟨f, h.2, h.1⟩
end
section
variable {P : Program} {ops : Array Oper} {Q : Exit → Act → World → Prop} {S : List (Nat × (World → Prop))} {ro : Option Nat}
def GT (ops : Array Oper) (S : List (Nat × (World → Prop))) (LC : Array Bool) (w : World) : Prop := ∀ p ∈ S, (∃ f, covB ops f p.1 = true ∧ LC.getD f false = true) ∨ p.2 w
def wpHeldT (P : Program) (ops : Array Oper) (Q : Exit → Act → World → Prop) (S : List (Nat × (World → Prop))) (ro : Option Nat) : Nat → Array Bool → Act → World → Prop
  | 0, listed, a, w => Region.ready .any ops listed = [] ∧ Q .normal a w
  | k + 1, listed, a, w => (Region.ready .any ops listed = [] → Q .normal a w) ∧ ∀ i ∈ Region.ready .any ops listed, wpOpIn (GX.FW ro) 0 P ops Q i (fun a' w' => GT ops S (listed.setIfInBounds i true) w' ∧ wpHeldT P ops Q S ro k (listed.setIfInBounds i true) a' w') a w
theorem wpAny_of_heldT : ∀ (k : Nat) (listed : Array Bool) (a : Act) (w : World), wpHeldT P ops Q S ro k listed a w → wpAnyIn (GX.FW ro) 0 P .any ops Q k listed a w
  | 0, _, _, _, h => h
  | k + 1, _, _, _, h => ⟨h.1, fun i hi => wpOpIn_mono (fun a' w' h' => wpAny_of_heldT k _ a' w' h'.2) (h.2 i hi)⟩
theorem wpHeldT_first {i : Nat} {oi : Oper} {v : Value} (hi : ops[i]? = some oi) (hfk : GX.firstKind oi.op = true) (hsel : Region.noSelect ops = true) (hQ : ∀ c a w, Q (.panic c) (a.put oi.dst v) w → Q (.panic c) a w) {Si : World → Prop} (hSi : (∃ c, (i, c) ∈ S ∧ ∀ w, c w → Si w) ∨ ∀ w, Si w) :
    ∀ (k : Nat) (listed : Array Bool) (a : Act) (w : World), GX.Closed ops listed →
      (∀ j oj, ops[j]? = some oj → j ≠ i → listed.getD j true = false → (∀ e ∈ oj.after, Region.binds .any e = true → e.on ≠ i) → oi.apart ops oj = true) →
      i ∈ Region.ready .any ops listed → GX.YieldsH P ops Si oi v a → GT ops S listed w →
      wpHeldT P ops Q S ro k (listed.setIfInBounds i true) (a.put oi.dst v) w → wpHeldT P ops Q S ro (k + 1) listed a w := by
  have hno : ∀ {LC : Array Bool}, GX.Closed ops LC → i ∈ Region.ready .any ops LC → ∀ f, covB ops f i = true → LC.getD f false = true → False := by
    intro LC hc hr f hf hfl
    obtain ⟨o, ho, _, hall⟩ := covB_ok hf
    have h1 := marks_ok hc hfl hall
    have h0 := (mem_ready.1 hr).1
    rcases Nat.lt_or_ge i LC.size with h' | h'
    · simp [h'] at h0 h1; rw [h0] at h1; cases h1
    · simp [Array.getElem?_eq_none h'] at h1
  have hSi' : ∀ {LC : Array Bool} {w : World}, GX.Closed ops LC → i ∈ Region.ready .any ops LC → GT ops S LC w → Si w := by
    intro LC w hc hr hg
    rcases hSi with ⟨c, hcm, hs⟩ | hs
    · rcases hg (i, c) hcm with ⟨f, hf, hfl⟩ | hg
      · exact (hno hc hr f hf hfl).elim
      · exact hs w hg
    · exact hs w
  have hup : ∀ {LC : Array Bool} {w : World}, GT ops S LC w → ∀ j, GT ops S (LC.setIfInBounds j true) w := fun hg j p hp => (hg p hp).imp (fun ⟨f, hf, hfl⟩ => ⟨f, hf, getD_set_true hfl⟩) id
  intro k
  induction k with
  | zero =>
    intro listed a w hc _ hr hy hG H
    refine ⟨fun h => absurd h (fun h => by rw [h] at hr; cases hr), fun j hj => ?_⟩
    by_cases hji : j = i
    · subst hji; exact GX.YieldsH.wpOp hi hy (hSi' hc hr hG) ⟨hup hG _, H⟩
    · have := ready_mono hj hji
      rw [H.1] at this
      cases this
  | succ k ih =>
    intro listed a w hc hfree hr hy hG H
    refine ⟨fun h => absurd h (fun h => by rw [h] at hr; cases hr), fun j hj => ?_⟩
    by_cases hji : j = i
    · subst hji; exact GX.YieldsH.wpOp hi hy (hSi' hc hr hG) ⟨hup hG _, H⟩
    · have h1 := H.2 j (ready_mono hj hji)
      obtain ⟨hjun, oj, hoj, hall⟩ := mem_ready.1 hj
      have hnot : ∀ e ∈ oj.after, Region.binds .any e = true → e.on ≠ i := fun e he hb heq => by
        have h1 := hall e he hb
        have h0 := (mem_ready.1 hr).1
        rw [heq] at h1
        rcases Nat.lt_or_ge i listed.size with h' | h'
        · simp [h'] at h0 h1; rw [h0] at h1; cases h1
        · simp [Array.getElem?_eq_none h'] at h1
      have h2 := GX.wpOp_putH hoj (hfree j oj hoj hji hjun hnot) (fun cs b => Region.noSelect_spec hsel i oi cs b hi) (fun cs b => Region.noSelect_spec hsel j oj cs b hoj) hQ hy h1
      have hfree' : ∀ q oq, ops[q]? = some oq → q ≠ i → (listed.setIfInBounds j true).getD q true = false → (∀ e ∈ oq.after, Region.binds .any e = true → e.on ≠ i) → oi.apart ops oq = true := fun q oq hq hqi hun hno => by
        refine hfree q oq hq hqi ?_ hno
        by_cases hjq : j = q
        · subst hjq; exact hjun
        · rw [getD_set_ne true hjq] at hun; exact hun
      have hr' := ready_mono hr (Ne.symm hji)
      have hc' := hc.set hj
      refine wpOpIn_mono (fun a' w' h3 => ?_) h2
      have hG' : GT ops S (listed.setIfInBounds j true) w' := fun p hp => by
        rcases h3.2.1 p hp with ⟨f, hf, hfl⟩ | hs
        · left
          refine ⟨f, hf, ?_⟩
          have hfi : i ≠ f := fun e => by
            obtain ⟨o, ho, hn, _⟩ := covB_ok hf
            rw [← e, hi] at ho
            cases ho
            rw [hfk] at hn
            cases hn
          rw [Array.setIfInBounds_comm _ _ (Ne.symm hji), getD_set_ne false hfi] at hfl
          exact hfl
        · exact .inr hs
      refine ⟨hG', ih (listed.setIfInBounds j true) a' w' hc' hfree' hr' h3.1 hG' ?_⟩
      rw [Array.setIfInBounds_comm _ _ hji]
      exact h3.2.2
end
section
variable {P : Program} {ops : Array Oper} {Q : Exit → Act → World → Prop} {S : List (Nat × (World → Prop))} {k : Nat} {listed : Array Bool} {a : Act} {w : World}
end
end Go.Proofs.YtbjffjnmjkogkaaGreat
