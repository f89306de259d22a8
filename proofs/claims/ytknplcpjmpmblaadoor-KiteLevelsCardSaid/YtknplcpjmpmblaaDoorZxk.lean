/- A run worked out: regions that draw their order. -/
import Derived.Test.YtknplcpjmpmblaaDoorZxj0
import Derived.OrdersIn
set_option linter.unusedVariables false
set_option linter.unusedSimpArgs false
namespace Go.Proofs.YtknplcpjmpmblaaDoor.GX
open Go Go.RowKit

section
variable {P : Program} {ops : Array Oper} {Q : Exit → Act → World → Prop} {S : World → Prop} {ro : Option Nat}
/-- In every world that meets S it yields its value, and does nothing else. -/
def YieldsH (P : Program) (ops : Array Oper) (S : World → Prop) (o : Oper) (v : Value) (a : Act) : Prop :=
  (∀ c, o.op ≠ .defer c) ∧ ((Region.wanted o (yielded ops a.tmps) = true ∧ ∀ w, S w → (execOp a.eval o).run P w = .ok (.value v) w) ∨ (Region.wanted o (yielded ops a.tmps) = false ∧ v = undef))
theorem YieldsH.wpOp {i : Nat} {o : Oper} {v : Value} {a : Act} (hi : ops[i]? = some o) (hy : YieldsH P ops S o v a) {K : Act → World → Prop} {w : World} (hS : S w) (hk : K (a.put o.dst v) w) : wpOpIn (FW ro) 0 P ops Q i K a w := by
  unfold wpOpIn
  simp only [hi]
  rcases hy.2 with ⟨hw, hv⟩ | ⟨hw, rfl⟩
  · simp only [hw, if_true]; exact wpIn_val hy.1 (hv w hS) hk
  · simp only [hw, Bool.false_eq_true, if_false]; exact ⟨fun _ _ => trivial, hk⟩
theorem YieldsH.of_same {o : Oper} {v : Value} {a a' : Act} (hy : YieldsH P ops S o v a) (he : execOp a'.eval o = execOp a.eval o) (hw : Region.wanted o (yielded ops a'.tmps) = Region.wanted o (yielded ops a.tmps)) : YieldsH P ops S o v a' := by
  unfold YieldsH at *; rw [he, hw]; exact hy
theorem semAt_put {o : Oper} {a : Act} {dst : Option Tmp} {v : Value} (hs : ∀ cs b, o.op ≠ .select cs b) (hd : ∀ d, dst = some d → d ∉ o.looksAt ops) : o.semAt ro (a.put dst v).eval = o.semAt ro a.eval := by
  cases ro with
  | none => simp only [Oper.semAt_none]; exact execOp_put o hs a dst v hd
  | some l =>
    cases ho : o.op with
    | defer c =>
      have := execOp_put o hs a dst v hd
      unfold Oper.semAt
      simp only [ho]
      have e := resolve_congr (ρ := (a.put dst v).eval) (ρ' := a.eval) c o.type (fun x hx => Act.eval_put fun d hdd hxd => hd d hdd (by
        subst hxd
        exact List.mem_append_left _ (List.mem_filterMap.2 ⟨.tmp d, by rw [ho]; simpa [Op.operands] using hx, rfl⟩)))
      simp only [e]
    | _ => rw [Oper.semAt_eq _ _ _ (by rw [ho]; intro c hc; cases hc), Oper.semAt_eq _ _ _ (by rw [ho]; intro c hc; cases hc)]; exact execOp_put o hs a dst v hd
theorem wpOp_putH {j : Nat} {oi oj : Oper} {v : Value} (hj : ops[j]? = some oj) (hap : oi.apart ops oj = true) (hsi : ∀ cs b, oi.op ≠ .select cs b) (hsj : ∀ cs b, oj.op ≠ .select cs b)
    (hQ : ∀ c a w, Q (.panic c) (a.put oi.dst v) w → Q (.panic c) a w) {K : Act → World → Prop} {a : Act} {w : World} (hy : YieldsH P ops S oi v a) (h : wpOpIn (FW ro) 0 P ops Q j K (a.put oi.dst v) w) :
    wpOpIn (FW ro) 0 P ops Q j (fun a' w' => YieldsH P ops S oi v a' ∧ K (a'.put oi.dst v) w') a w := by
  obtain ⟨h1, h2, h3⟩ := Oper.apart_spec hap
  have keep : ∀ a : Act, YieldsH P ops S oi v a → ∀ u, YieldsH P ops S oi v (a.put oj.dst u) := fun a hy u => hy.of_same (execOp_put oi hsi a oj.dst u h3) (wanted_put oi a oj.dst u h3)
  have keepD : ∀ d, YieldsH P ops S oi v { a with defers := d :: a.defers } := fun d => hy.of_same rfl rfl
  unfold wpOpIn at *
  simp only [hj] at *
  rw [wanted_put oj a oi.dst v h1] at h
  split
  · rename_i hw
    simp only [hw, if_true] at h
    refine ⟨fun _ _ => trivial, ?_⟩
    have h := h.2
    rw [semAt_put hsj h1] at h
    generalize (oj.semAt ro a.eval).run P w = r at *
    cases r with
    | ok x w' =>
      cases x <;> simp only [Oper.uponIn] at h ⊢
      case value u => exact ⟨keep a hy u, by rw [← Act.put_comm a v u h2]; exact h⟩
      case skip => exact ⟨keep a hy _, by rw [← Act.put_comm a v undef h2]; exact h⟩
      case defer d =>
        refine ⟨keep _ (keepD d) _, ?_⟩
        rw [← Act.put_comm _ v undef h2, ← Act.put_defers]
        exact h
      case enter f args =>
        refine ⟨h.1, h.2.mono fun e w'' he => ?_⟩
        cases e with
        | returned u => exact ⟨keep a hy u, by rw [← Act.put_comm a v u h2]; exact he⟩
        | panicked c => exact hQ _ _ _ he
        | outgrown => exact he
      case row row args => exact ⟨h.1, h.2.mono fun u w'' he => ⟨keep a hy u, by rw [← Act.put_comm a v u h2]; exact he⟩⟩
      case round l f tmps assign body =>
        refine ⟨h.1, h.2.mono fun e w'' he => ?_⟩
        cases e with
        | returned u => exact ⟨keep a hy u, by rw [← Act.put_comm a v u h2]; exact he⟩
        | panicked c => exact hQ _ _ _ he
        | outgrown => exact he
    | halt x w' =>
      cases x <;> simp only [Oper.uponIn] at h ⊢
      case panic u => exact hQ _ _ _ h
  · rename_i hw
    simp only [hw] at h
    exact ⟨fun _ _ => trivial, keep a hy _, by rw [← Act.put_comm a v undef h2]; exact h.2⟩
/-- What has come up has come up behind what it waits for. -/
def Closed (ops : Array Oper) (LC : Array Bool) : Prop := ∀ f o, ops[f]? = some o → LC.getD f false = true → ∀ e ∈ o.after, Region.binds .any e = true → LC.getD e.on false = true
/-- S holds, or all loads have come up. -/
def G (ops : Array Oper) (S : World → Prop) (LC : Array Bool) (w : World) : Prop := (∃ f, fullAt ops f = true ∧ LC.getD f false = true) ∨ S w
theorem Closed.set {LC : Array Bool} (hc : Closed ops LC) {i : Nat} (hi : i ∈ Region.ready .any ops LC) : Closed ops (LC.setIfInBounds i true) := by
  intro f o ho hf e he hb
  by_cases hfi : i = f
  · subst hfi
    obtain ⟨_, o', ho', hall⟩ := mem_ready.1 hi
    rw [ho] at ho'; cases ho'
    exact getD_set_true (hall e he hb)
  · rw [getD_set_ne false hfi] at hf
    exact getD_set_true (hc f o ho hf e he hb)
theorem anc_closed {LC : Array Bool} (hc : Closed ops LC) {f : Nat} (hf : LC.getD f false = true) : ∀ i, (anc ops f).getD i false = true → LC.getD i false = true := by
  have set_ok : ∀ (M : Array Bool) (j : Nat), LC.getD j false = true → (∀ i, M.getD i false = true → LC.getD i false = true) → ∀ i, (M.setIfInBounds j true).getD i false = true → LC.getD i false = true := fun M j hj hM i hi => by
    by_cases hij : j = i
    · rw [← hij]; exact hj
    · rw [getD_set_ne false hij] at hi; exact hM i hi
  have step : ∀ (M : Array Bool) (j : Nat), (∀ i, M.getD i false = true → LC.getD i false = true) → ∀ i, (ancStep ops M j).getD i false = true → LC.getD i false = true := fun M j hM => by
    unfold ancStep
    split
    · rename_i hj
      split
      · rename_i o ho
        have hLj := hM j hj
        have hdeps := hc j o ho hLj
        rw [← Array.foldl_toList]
        have fold : ∀ (l : List _), (∀ e ∈ l, e ∈ o.after) → ∀ (M : Array Bool), (∀ i, M.getD i false = true → LC.getD i false = true) → ∀ i, (l.foldl (fun M e => bif Region.binds .any e then M.setIfInBounds e.on true else M) M).getD i false = true → LC.getD i false = true := by
          intro l
          induction l with
          | nil => intro _ M hM; exact hM
          | cons e l ih =>
            intro hl M hM
            refine ih (fun e' he' => hl e' (List.mem_cons_of_mem _ he')) _ ?_
            simp only
            cases hb : Region.binds .any e with
            | false => simp only [cond_false]; exact hM
            | true => simp only [cond_true]; exact set_ok M e.on (hdeps e (hl e (by simp)) hb) hM
        exact fold _ (fun e he => Array.mem_toList_iff.1 he) M hM
      · exact hM
    · exact hM
  have all : ∀ (l : List Nat) (M : Array Bool), (∀ i, M.getD i false = true → LC.getD i false = true) → ∀ i, (l.foldl (ancStep ops) M).getD i false = true → LC.getD i false = true := by
    intro l
    induction l with
    | nil => intro M hM; exact hM
    | cons j l ih => intro M hM; exact ih _ (step M j hM)
  refine all _ _ (set_ok _ f hf fun i hi => ?_)
  simp [Array.getD] at hi
theorem fullAt_ok {f : Nat} (hf : fullAt ops f = true) : ∃ o, ops[f]? = some o ∧ firstKind o.op = false ∧ ∀ i oi, ops[i]? = some oi → isLoad oi.op = true → ∀ LC, Closed ops LC → LC.getD f false = true → LC.getD i false = true := by
  unfold fullAt at hf
  split at hf
  · rename_i o ho
    simp only [Bool.and_eq_true, Bool.not_eq_true'] at hf
    refine ⟨o, ho, hf.1, fun i oi hoi hl LC hc hfl => ?_⟩
    have his : i < ops.size := (Array.getElem?_eq_some_iff.1 hoi).1
    have := List.all_eq_true.1 hf.2 i (List.mem_range.2 his)
    simp only [hoi, hl, Bool.not_true, Bool.false_or, Bool.or_eq_true] at this
    rcases this with this | this
    · unfold depends at this
      rw [ho] at this
      obtain ⟨e, he, hb⟩ := Array.any_eq_true'.1 this
      simp only [Bool.and_eq_true, beq_iff_eq] at hb
      have h1 := hc f o ho hfl e he hb.1
      rw [hb.2] at h1; exact h1
    · exact anc_closed hc hfl i this
  · cases hf
/-- Whatever order comes, and G holds behind each operation. -/
def wpHeld (P : Program) (ops : Array Oper) (Q : Exit → Act → World → Prop) (S : World → Prop) (ro : Option Nat) : Nat → Array Bool → Act → World → Prop
  | 0, listed, a, w => Region.ready .any ops listed = [] ∧ Q .normal a w
  | k + 1, listed, a, w => (Region.ready .any ops listed = [] → Q .normal a w) ∧ ∀ i ∈ Region.ready .any ops listed, wpOpIn (FW ro) 0 P ops Q i (fun a' w' => G ops S (listed.setIfInBounds i true) w' ∧ wpHeld P ops Q S ro k (listed.setIfInBounds i true) a' w') a w
theorem wpAny_of_wpHeld : ∀ (k : Nat) (listed : Array Bool) (a : Act) (w : World), wpHeld P ops Q S ro k listed a w → wpAnyIn (FW ro) 0 P .any ops Q k listed a w
  | 0, _, _, _, h => h
  | k + 1, _, _, _, h => ⟨h.1, fun i hi => wpOpIn_mono (fun a' w' h' => wpAny_of_wpHeld k _ a' w' h'.2) (h.2 i hi)⟩
theorem wpHeld_first {i : Nat} {oi : Oper} {v : Value} (hi : ops[i]? = some oi) (hfk : firstKind oi.op = true) (hsel : Region.noSelect ops = true) (hQ : ∀ c a w, Q (.panic c) (a.put oi.dst v) w → Q (.panic c) a w) {Si : World → Prop} (hSi : isLoad oi.op = true ∧ (∀ w, S w → Si w) ∨ ∀ w, Si w) :
    ∀ (k : Nat) (listed : Array Bool) (a : Act) (w : World), Closed ops listed →
      (∀ j oj, ops[j]? = some oj → j ≠ i → listed.getD j true = false → (∀ e ∈ oj.after, Region.binds .any e = true → e.on ≠ i) → oi.apart ops oj = true) →
      i ∈ Region.ready .any ops listed → YieldsH P ops Si oi v a → G ops S listed w →
      wpHeld P ops Q S ro k (listed.setIfInBounds i true) (a.put oi.dst v) w → wpHeld P ops Q S ro (k + 1) listed a w := by
  have hnfull : fullAt ops i = false := by
    cases hf : fullAt ops i with
    | false => rfl
    | true => obtain ⟨o, ho, hn, _⟩ := fullAt_ok hf; rw [hi] at ho; cases ho; rw [hfk] at hn; cases hn
  -- where i has not come up, and is a load, S holds
  have hno : ∀ {LC : Array Bool}, Closed ops LC → i ∈ Region.ready .any ops LC → isLoad oi.op = true → ∀ f, fullAt ops f = true → LC.getD f false = true → False := by
    intro LC hc hr hl f hf hfl
    obtain ⟨o, ho, _, hall⟩ := fullAt_ok hf
    have h1 := hall i oi hi hl _ hc hfl
    have h0 := (mem_ready.1 hr).1
    rcases Nat.lt_or_ge i LC.size with h' | h'
    · simp [h'] at h0 h1; rw [h0] at h1; cases h1
    · simp [Array.getElem?_eq_none h'] at h1
  have hSi' : ∀ {LC : Array Bool} {w : World}, Closed ops LC → i ∈ Region.ready .any ops LC → G ops S LC w → Si w := by
    intro LC w hc hr hg
    rcases hSi with ⟨hl, hs⟩ | hs
    · rcases hg with ⟨f, hf, hfl⟩ | hg
      · exact (hno hc hr hl f hf hfl).elim
      · exact hs w hg
    · exact hs w
  have hup : ∀ {LC : Array Bool} {w : World}, G ops S LC w → ∀ j, G ops S (LC.setIfInBounds j true) w := fun hg j => hg.imp (fun ⟨f, hf, hfl⟩ => ⟨f, hf, getD_set_true hfl⟩) id
  intro k
  induction k with
  | zero =>
    intro listed a w hc _ hr hy hG H
    refine ⟨fun h => absurd h (fun h => by rw [h] at hr; cases hr), fun j hj => ?_⟩
    by_cases hji : j = i
    · subst hji; exact hy.wpOp hi (hSi' hc hr hG) ⟨hup hG _, H⟩
    · have := ready_mono hj hji
      rw [H.1] at this
      cases this
  | succ k ih =>
    intro listed a w hc hfree hr hy hG H
    refine ⟨fun h => absurd h (fun h => by rw [h] at hr; cases hr), fun j hj => ?_⟩
    by_cases hji : j = i
    · subst hji; exact hy.wpOp hi (hSi' hc hr hG) ⟨hup hG _, H⟩
    · have h1 := H.2 j (ready_mono hj hji)
      obtain ⟨hjun, oj, hoj, hall⟩ := mem_ready.1 hj
      have hnot : ∀ e ∈ oj.after, Region.binds .any e = true → e.on ≠ i := fun e he hb heq => by
        have h1 := hall e he hb
        have h0 := (mem_ready.1 hr).1
        rw [heq] at h1
        rcases Nat.lt_or_ge i listed.size with h' | h'
        · simp [h'] at h0 h1; rw [h0] at h1; cases h1
        · simp [Array.getElem?_eq_none h'] at h1
      have h2 := wpOp_putH hoj (hfree j oj hoj hji hjun hnot) (fun cs b => Region.noSelect_spec hsel i oi cs b hi) (fun cs b => Region.noSelect_spec hsel j oj cs b hoj) hQ hy h1
      have hfree' : ∀ q oq, ops[q]? = some oq → q ≠ i → (listed.setIfInBounds j true).getD q true = false → (∀ e ∈ oq.after, Region.binds .any e = true → e.on ≠ i) → oi.apart ops oq = true := fun q oq hq hqi hun hno => by
        refine hfree q oq hq hqi ?_ hno
        by_cases hjq : j = q
        · subst hjq; exact hjun
        · rw [getD_set_ne true hjq] at hun; exact hun
      have hr' := ready_mono hr (Ne.symm hji)
      have hc' := hc.set hj
      refine wpOpIn_mono (fun a' w' h3 => ?_) h2
      have hG' : G ops S (listed.setIfInBounds j true) w' := by
        rcases h3.2.1 with ⟨f, hf, hfl⟩ | hs
        · left
          refine ⟨f, hf, ?_⟩
          have hfi : i ≠ f := fun e => by rw [← e, hnfull] at hf; cases hf
          rw [Array.setIfInBounds_comm _ _ (Ne.symm hji), getD_set_ne false hfi] at hfl
          exact hfl
        · exact .inr hs
      refine ⟨hG', ih (listed.setIfInBounds j true) a' w' hc' hfree' hr' h3.1 hG' ?_⟩
      rw [Array.setIfInBounds_comm _ _ hji]
      exact h3.2.2
end
end Go.Proofs.YtknplcpjmpmblaaDoor.GX
