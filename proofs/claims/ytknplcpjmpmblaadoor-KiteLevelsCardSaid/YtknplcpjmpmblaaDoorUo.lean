/- Statements of unknown numbers: functions with loops. -/
import Derived.Test.YtknplcpjmpmblaaDoorUn
set_option linter.unusedVariables false
set_option linter.unusedSimpArgs false
namespace Go.Proofs.YtknplcpjmpmblaaDoor.GY
open Go Go.RowKit

/-- What is held, laid: the arguments, the memory. -/
noncomputable def ldA0 (gs : List GV) : List AV := match lds false gs H0 with
  | some (a, _) => a
  | none => []
noncomputable def ldH0 (gs : List GV) : AH := match lds false gs H0 with
  | some (_, h) => h
  | none => H0
/-- A statement as what comes one behind the other. -/
def flat : Code → List Code
  | .seq a b => flat a ++ flat b
  | c => [c]
noncomputable def execL (tb : Tab) (n : Nat) : List Code → AA → AH → Res
  | [], A, h => .ok .norm A h
  | c :: l, A, h => match exec tb n c none A h with
    | .ok .norm A' h' => execL tb n l A' h'
    | r => r
/-- The loop at a place. -/
def loopAt (l : List Code) (k : Nat) : Code := match l[k]? with
  | some (.block _ (.loop c)) => c
  | _ => .skip
def loopId (l : List Code) (k : Nat) : Nat := match l[k]? with
  | some (.block id (.loop _)) => id
  | _ => 0
def isLoop (l : List Code) (k : Nat) : Bool := match l[k]? with
  | some (.block _ (.loop _)) => true
  | _ => false
/-- Which block is which. -/
def sg : List (Nat × Nat) → Nat → Nat
  | [], x => x
  | (a, b) :: r, x => match Nat.beq x a with
    | true => b
    | false => sg r x
section
variable {P : Program} {tb : Tab} {base : Bs} {E : Ent}
def TriL (P : Program) (base : Bs) (E : Ent) : List Code → AA → AH → Post3 → Prop
  | [], A, h, Q => Q .norm A h
  | c :: l, A, h, Q => Tri P base E c A h (fun e A' h' => (e = .norm → TriL P base E l A' h' Q) ∧ (e ≠ .norm → Q e A' h'))
theorem TriL.mono : ∀ {l : List Code} {A : AA} {h : AH} {Q Q' : Post3}, TriL P base E l A h Q → (∀ e A h, Q e A h → Q' e A h) → TriL P base E l A h Q'
  | [], A, h, Q, Q', hx, hq => hq _ _ _ hx
  | c :: l, A, h, Q, Q', hx, hq => Tri.mono hx fun e A' h' hh => ⟨fun he => TriL.mono (hh.1 he) hq, fun he => hq _ _ _ (hh.2 he)⟩
theorem TriL.append : ∀ {l m : List Code} {A : AA} {h : AH} {Q : Post3}, TriL P base E l A h (fun e A' h' => (e = .norm → TriL P base E m A' h' Q) ∧ (e ≠ .norm → Q e A' h')) → TriL P base E (l ++ m) A h Q
  | [], m, A, h, Q, hx => hx.1 rfl
  | c :: l, m, A, h, Q, hx => Tri.mono hx fun e A' h' hh => ⟨fun he => TriL.append (hh.1 he), fun he => (hh.2 he).2 he⟩
theorem TriL.split : ∀ {l m : List Code} {A : AA} {h : AH} {Q : Post3}, TriL P base E (l ++ m) A h Q → TriL P base E l A h (fun e A' h' => (e = .norm → TriL P base E m A' h' Q) ∧ (e ≠ .norm → Q e A' h'))
  | [], m, A, h, Q, hx => ⟨fun _ => hx, fun he => absurd rfl he⟩
  | c :: l, m, A, h, Q, hx => Tri.mono hx fun e A' h' hh => ⟨fun he => TriL.split (hh.1 he), fun he => ⟨fun he' => absurd he' he, fun _ => hh.2 he⟩⟩
theorem Tri.one {c : Code} {A : AA} {h : AH} {Q : Post3} (hx : TriL P base E [c] A h Q) : Tri P base E c A h Q := Tri.mono hx fun e A' h' hh => by
  by_cases he : e = .norm
  · subst he; exact hh.1 rfl
  · exact hh.2 he
theorem Tri.flat : ∀ {c : Code} {A : AA} {h : AH} {Q : Post3}, TriL P base E (flat c) A h Q → Tri P base E c A h Q
  | .seq a b, A, h, Q, hx => by
    refine Tri.seq (Tri.mono (Tri.flat (TriL.split hx)) fun e A' h' hh => ⟨fun he => Tri.flat (hh.1 he), hh.2⟩)
  | .skip, A, h, Q, hx => Tri.one hx
  | .region _ _ _, A, h, Q, hx => Tri.one hx
  | .cond _ _ _, A, h, Q, hx => Tri.one hx
  | .block _ _, A, h, Q, hx => Tri.one hx
  | .loop _, A, h, Q, hx => Tri.one hx
  | .rangeFunc _ _ _ _, A, h, Q, hx => Tri.one hx
  | .exit _, A, h, Q, hx => Tri.one hx
  | .scope _, A, h, Q, hx => Tri.one hx
  | .label _, A, h, Q, hx => Tri.one hx
  | .goto _, A, h, Q, hx => Tri.one hx
  | .ret, A, h, Q, hx => Tri.one hx
  | .refuse _, A, h, Q, hx => Tri.one hx
theorem Tri.runs (hB : TabOK P tb base) {n : Nat} {c : Code} {A A' : AA} {h h' : AH} {e : AExit} (hx : exec tb n c none A h = .ok e A' h') (hs : All h'.sc) {Q : Post3} (hq : Q e A' h') : Tri P base E c A h Q := fun θ a w hP hA => by
  refine wpIn_mono ((exec_sound hB n _ _ _ _ _ _ _ hx).2 hs θ a w hP.r hA (by simp)) fun ex a' w' hbe => ?_
  obtain ⟨hex, θ', hP', hA'⟩ := hbe
  exact ⟨e, A', h', θ', hex, hq, hP.trans hP', hA'⟩
theorem execL_sc (hB : TabOK P tb base) {n : Nat} : ∀ {l : List Code} {A A' : AA} {h h' : AH} {e : AExit}, execL tb n l A h = .ok e A' h' → All h'.sc → All h.sc
  | [], A, A', h, h', e, hx, hs => by cases hx; exact hs
  | c :: l, A, A', h, h', e, hx, hs => by
    simp only [execL] at hx
    split at hx
    · rename_i A1 h1 hr; exact (exec_sound hB n _ _ _ _ _ _ _ hr).1 (execL_sc hB hx hs)
    · exact (exec_sound hB n _ _ _ _ _ _ _ hx).1 hs
theorem TriL.runs (hB : TabOK P tb base) {n : Nat} : ∀ {l : List Code} {A A' : AA} {h h' : AH} {e : AExit}, execL tb n l A h = .ok e A' h' → All h'.sc → ∀ {Q : Post3}, Q e A' h' → TriL P base E l A h Q
  | [], A, A', h, h', e, hx, hs, Q, hq => by cases hx; exact hq
  | c :: l, A, A', h, h', e, hx, hs, Q, hq => by
    simp only [execL] at hx
    split at hx
    · rename_i A1 h1 hr
      exact Tri.runs hB hr (execL_sc hB hx hs) ⟨fun _ => TriL.runs hB hx hs hq, fun he => absurd rfl he⟩
    · rename_i hne
      refine Tri.runs hB hx hs ⟨fun he => ?_, fun _ => hq⟩
      subst he
      exact absurd hx (hne _ _)
theorem Tri.start {c : Code} {A : AA} {h : AH} {o : List Bool} {Q : Post3} (hc : Tri P base E c A (h.start o) Q) : Tri P base E c A h Q := fun θ a w hP hA => by
  have hst : (h.start o).m = h.m ∧ (h.start o).next = h.next ∧ (h.start o).ro = h.ro := by cases h; exact ⟨rfl, rfl, rfl⟩
  obtain ⟨e1, e2, e3⟩ := hst
  exact hc θ a w (hP.same e1 e2 e3) (by rw [e2]; exact hA)
/-- Statements whose run is worked out. -/
theorem TriL.path (hB : ∀ base, TabOK P tb base) (o : List Bool) {l : List Code} (hl : l.isEmpty = false) {A : AA} {h : AH} {Q : Post3} (hp : pathP (execL tb 200 l A (h.start o)) Q) : TriL P base E l A h Q := by
  unfold pathP at hp
  split at hp
  · rename_i e A' h' hx
    have := TriL.runs (E := E) (hB base) hx hp.1 hp.2
    cases l with
    | nil => cases hl
    | cons c l => exact Tri.start (h := h) (o := o) this
  · exact hp.elim
/-- What is so ahead of a loop, or the end. -/
noncomputable def preQ (σ : Nat → Nat) (N : Nat) (J0 : JS) (Q : Post3) : Post3 := fun e A h => match e with
  | .norm => All (wk σ N A h J0)
  | e => Q e A h
/-- How a round may end. -/
def RoundR (P : Program) (base : Bs) (E : Ent) {ι : Type} (J : ι → JS) (μ : ι → Nat) (id : Nat) (post : List Code) (Q : Post3) (i : ι) : Post3 := fun e A h =>
  (e = .norm ∧ ∃ i', μ i' < μ i ∧ SLe base E A h (J i').A (J i').h) ∨ (e = .exit id ∧ TriL P base E post A h Q) ∨ (e ≠ .norm ∧ e ≠ .exit id ∧ Q e A h)
noncomputable def roundQ (σ : Nat → Nat) (N : Nat) (Jn : JS) (id : Nat) (X : AA → AH → Prop) (Q : Post3) : Post3 := fun e A h => match e with
  | .norm => All (wk σ N A h Jn)
  | .exit j => match Nat.beq j id with
    | true => X A h
    | false => Q (.exit j) A h
  | .ret => Q .ret A h
  | .goto l => Q (.goto l) A h
theorem roundQ_R {ι : Type} {J : ι → JS} {μ : ι → Nat} {id : Nat} {post : List Code} {Q : Post3} {i : ι} (i' : ι) (hμ : μ i' < μ i) {σ : Nat → Nat} {N : Nat} (hN : E.h.next = N) {X : AA → AH → Prop} (hX : ∀ A h, X A h → TriL P base E post A h Q) :
    ∀ e A h, roundQ σ N (J i') id X Q e A h → RoundR P base E J μ id post Q i e A h := fun e A h hh => by
  cases e with
  | norm => exact .inl ⟨rfl, i', hμ, wk_ok hN hh⟩
  | exit j =>
    unfold roundQ at hh
    simp only at hh
    split at hh
    · rename_i hj; obtain rfl := Nat.eq_of_beq_eq_true hj; exact .inr (.inl ⟨rfl, hX _ _ hh⟩)
    · rename_i hj; exact .inr (.inr ⟨by simp, by intro he; cases he; simp at hj, hh⟩)
  | ret => exact .inr (.inr ⟨by simp, by simp, hh⟩)
  | goto l => exact .inr (.inr ⟨by simp, by simp, hh⟩)
/-- A round that does not go on. -/
noncomputable def lastQ (id : Nat) (X : AA → AH → Prop) (Q : Post3) : Post3 := fun e A h => match e with
  | .norm => False
  | .exit j => match Nat.beq j id with
    | true => X A h
    | false => Q (.exit j) A h
  | .ret => Q .ret A h
  | .goto l => Q (.goto l) A h
theorem lastQ_R {ι : Type} {J : ι → JS} {μ : ι → Nat} {id : Nat} {post : List Code} {Q : Post3} {i : ι} {X : AA → AH → Prop} (hX : ∀ A h, X A h → TriL P base E post A h Q) :
    ∀ e A h, lastQ id X Q e A h → RoundR P base E J μ id post Q i e A h := fun e A h hh => by
  cases e with
  | norm => exact hh.elim
  | exit j =>
    unfold lastQ at hh
    simp only at hh
    split at hh
    · rename_i hj; obtain rfl := Nat.eq_of_beq_eq_true hj; exact .inr (.inl ⟨rfl, hX _ _ hh⟩)
    · rename_i hj; exact .inr (.inr ⟨by simp, by intro he; cases he; simp at hj, hh⟩)
  | ret => exact .inr (.inr ⟨by simp, by simp, hh⟩)
  | goto l => exact .inr (.inr ⟨by simp, by simp, hh⟩)
/-- The rest worked out. -/
noncomputable def restX (tb : Tab) (post : List Code) (o : List Bool) (Q : Post3) : AA → AH → Prop := fun A h => pathP (execL tb 200 post A (h.start o)) Q
theorem restX_ok (hB : ∀ base, TabOK P tb base) {post : List Code} (hl : post.isEmpty = false) {o : List Bool} {Q : Post3} : ∀ A h, restX tb post o Q A h → TriL P base E post A h Q := fun A h hh => TriL.path hB o hl hh
noncomputable def toX (σ : Nat → Nat) (N : Nat) (K : JS) : AA → AH → Prop := fun A h => All (wk σ N A h K)
theorem TriL.weaken {l : List Code} (hl : l.isEmpty = false) {A A' : AA} {h h' : AH} {Q : Post3} (hs : SLe base E A h A' h') (hx : TriL P base E l A' h' Q) : TriL P base E l A h Q := by
  cases l with
  | nil => cases hl
  | cons c l => exact Tri.weaken hs hx
theorem toX_ok {σ : Nat → Nat} {N : Nat} (hN : E.h.next = N) {K : JS} {post : List Code} (hl : post.isEmpty = false) {Q : Post3} (hK : TriL P base E post K.A K.h Q) : ∀ A h, toX σ N K A h → TriL P base E post A h Q := fun A h hh => TriL.weaken hl (wk_ok hN hh) hK
theorem flat_loop {l : List Code} {k : Nat} (hc : isLoop l k = true) : l = l.take k ++ (.block (loopId l k) (.loop (loopAt l k)) :: l.drop (k + 1)) := by
  unfold isLoop at hc
  unfold loopId loopAt
  split at hc <;> try (cases hc; done)
  rename_i id c hk
  have hlt := (List.getElem?_eq_some_iff.1 hk).1
  conv => lhs; rw [← List.take_append_drop k l]
  rw [List.drop_eq_getElem_cons hlt]
  have := (List.getElem?_eq_some_iff.1 hk).2
  rw [this]
/-- Statements with a loop among them. -/
theorem TriL.rounds {l : List Code} (k : Nat) (hc : isLoop l k = true) {ι : Type} (J : ι → JS) (μ : ι → Nat) (i0 : ι) {A : AA} {h : AH} {Q : Post3}
    (pre : TriL P base E (l.take k) A h (fun e A' h' => (e = .norm → SLe base E A' h' (J i0).A (J i0).h) ∧ (e ≠ .norm → Q e A' h')))
    (round : ∀ i, Tri P base E (loopAt l k) (J i).A (J i).h (RoundR P base E J μ (loopId l k) (l.drop (k + 1)) Q i)) : TriL P base E l A h Q := by
  rw [flat_loop hc]
  refine TriL.append (TriL.mono pre fun e A' h' hh => ⟨fun he => ?_, hh.2⟩)
  refine Tri.weaken (hh.1 he) ?_
  refine Tri.block ?_
  refine Tri.loop (fun i => ((J i).A, (J i).h)) μ i0 fun i => (round i).mono fun e A1 h1 hr => ?_
  rcases hr with ⟨he1, i', hμ, hs⟩ | ⟨he1, hx⟩ | ⟨h1', h2', hq⟩
  · exact .inl ⟨he1, i', hμ, hs⟩
  · subst he1
    exact .inr ⟨by simp, by simp; exact hx⟩
  · refine .inr ⟨h1', ?_⟩
    rw [if_neg h2']
    exact ⟨fun he => absurd he h1', fun _ => hq⟩
theorem preQ_ok {σ : Nat → Nat} {N : Nat} (hN : E.h.next = N) {J0 : JS} {Q : Post3} : ∀ e A h, preQ σ N J0 Q e A h → (e = .norm → SLe base E A h J0.A J0.h) ∧ (e ≠ .norm → Q e A h) := fun e A h hh => by
  cases e with
  | norm => exact ⟨fun _ => wk_ok hN hh, fun he => absurd rfl he⟩
  | exit j => exact ⟨(fun he => by cases he), fun _ => hh⟩
  | ret => exact ⟨(fun he => by cases he), fun _ => hh⟩
  | goto l => exact ⟨(fun he => by cases he), fun _ => hh⟩
end
end Go.Proofs.YtknplcpjmpmblaaDoor.GY
