/- Part of a claim on cone. -/
import Derived.Test.YtldimlnllmojiaaGreatCf
import Derived.Test.YtldimlnllmojiaaGreatZA
import Derived.RangeFuncNested
import Derived.RangeFuncIn
import Derived.RangeFuncCalls
import Derived.Shelf.Abstract
import Derived.Shelf.RegionOpen
import Derived.Deep.AppendLies
set_option linter.unusedVariables false
set_option linter.unusedSimpArgs false
namespace Go.Proofs.YtldimlnllmojiaaGreat
section PartOfGj
open Go.RowKit
open Go.Maps Go.Shelf
theorem lt_of_blk {W : World} {k : Nat} {o : Obj} (h : W.heap[k]? = some o) : k < W.heap.size := (Array.getElem?_eq_some_iff.1 h).1
theorem wpIn_gen {F : Fence} {n : Nat} {P : Program} {c : Code} {Q : Exit → Act → World → Prop} {a : Act} {w : World} (h : ∀ A, A = a → c.wpIn F n P Q A w) : c.wpIn F n P Q a w := h a rfl
theorem rowsIn_wide' {n l : Nat} {P : Program} {row : String} {args : Array Value} {w : World} {R : Value → World → Prop} (h : Rows P row args w R) : RowsIn (Fence.wide.inRound l) n P row args w R :=
  fun c cs _ => let ⟨v, w', r, s⟩ := h c cs; ⟨v, w', r, stepsIn_wide.2 s⟩

end PartOfGj

section PartOfGh
open Go.RowKit
open Go.Maps
section
variable {ops : Array Oper}
def stepM (ops : Array Oper) (i m : Nat) : Nat := if m.testBit i then match ops[i]? with
  | some o => o.after.toList.foldl (fun m e => if Region.binds .any e then m ||| 2 ^ e.on else m) m
  | none => m
  else m
def marksM (ops : Array Oper) : Nat → Nat → Nat
  | 0, m => stepM ops 0 m
  | i + 1, m => marksM ops i (stepM ops (i + 1) m)
noncomputable def covB (ops : Array Oper) (f i : Nat) : Bool := match ops[f]? with
  | some o => !GX.firstKind o.op && (marksM ops f (2 ^ f)).testBit i
  | none => false
noncomputable def coveredB (ops : Array Oper) (listed : Array Bool) (i : Nat) : Bool := (List.range ops.size).any fun f => listed.getD f false && covB ops f i
def Up (LC : Array Bool) (m : Nat) : Prop := ∀ i, m.testBit i = true → LC.getD i false = true
theorem fold_up {LC : Array Bool} : ∀ (l : List Edge) (m : Nat), Up LC m → (∀ e ∈ l, Region.binds .any e = true → LC.getD e.on false = true) → Up LC (l.foldl (fun m e => if Region.binds .any e then m ||| 2 ^ e.on else m) m)
  | [], m, h, _ => h
  | e :: l, m, h, ha => by
    refine fold_up l _ ?_ (fun e' he' => ha e' (List.mem_cons_of_mem _ he'))
    dsimp only
    split
    · rename_i hb
      intro i hi
      rw [Nat.testBit_or, Bool.or_eq_true] at hi
      rcases hi with hi | hi
      · exact h i hi
      · rw [Nat.testBit_two_pow] at hi
        obtain rfl : e.on = i := by simpa using hi
        exact ha e (List.mem_cons_self ..) hb
    · exact h
theorem step_up {LC : Array Bool} (hc : GX.Closed ops LC) {i m : Nat} (h : Up LC m) : Up LC (stepM ops i m) := by
  unfold stepM
  split
  · rename_i hi
    cases ho : ops[i]? with
    | none => exact h
    | some o => exact fold_up _ _ h (fun e he hb => hc i o ho (h i hi) e (by simpa using he) hb)
  · exact h
theorem marks_up {LC : Array Bool} (hc : GX.Closed ops LC) : ∀ (i m : Nat), Up LC m → Up LC (marksM ops i m)
  | 0, _, h => step_up hc h
  | i + 1, _, h => marks_up hc i _ (step_up hc h)
theorem marks_ok {LC : Array Bool} (hc : GX.Closed ops LC) {f i : Nat} (hf : LC.getD f false = true) (h : (marksM ops f (2 ^ f)).testBit i = true) : LC.getD i false = true :=
  marks_up hc f _ (fun j hj => by
    rw [Nat.testBit_two_pow] at hj
    obtain rfl : f = j := by simpa using hj
    exact hf) i h
theorem covB_ok {f i : Nat} (h : covB ops f i = true) : ∃ o, ops[f]? = some o ∧ GX.firstKind o.op = false ∧ (marksM ops f (2 ^ f)).testBit i = true := by
  unfold covB at h
  split at h <;> try (cases h; done)
  rename_i o ho
  simp only [Bool.and_eq_true, Bool.not_eq_true'] at h
  exact ⟨o, ho, h.1, h.2⟩
theorem coveredB_ok {listed : Array Bool} {i : Nat} (h : coveredB ops listed i = true) : ∃ f, covB ops f i = true ∧ listed.getD f false = true := by
  unfold coveredB at h
  rw [List.any_eq_true] at h
  obtain ⟨f, _, h⟩ := h
  rw [Bool.and_eq_true] at h
  exact ⟨f, h.2, h.1⟩
end
section
variable {P : Program} {ops : Array Oper} {Q : Exit → Act → World → Prop} {S : List (Nat × (World → Prop))} {ro : Option Nat}
def GT (ops : Array Oper) (S : List (Nat × (World → Prop))) (LC : Array Bool) (w : World) : Prop := ∀ p ∈ S, (∃ f, covB ops f p.1 = true ∧ LC.getD f false = true) ∨ p.2 w
def wpHeldT (P : Program) (ops : Array Oper) (Q : Exit → Act → World → Prop) (S : List (Nat × (World → Prop))) (ro : Option Nat) : Nat → Array Bool → Act → World → Prop
  | 0, listed, a, w => Region.ready .any ops listed = [] ∧ Q .normal a w
  | k + 1, listed, a, w => (Region.ready .any ops listed = [] → Q .normal a w) ∧ ∀ i ∈ Region.ready .any ops listed, wpOpIn (GX.FW ro) 0 P ops Q i (fun a' w' => GT ops S (listed.setIfInBounds i true) w' ∧ wpHeldT P ops Q S ro k (listed.setIfInBounds i true) a' w') a w
theorem wpAny_of_heldT : ∀ (k : Nat) (listed : Array Bool) (a : Act) (w : World), wpHeldT P ops Q S ro k listed a w → wpAnyIn (GX.FW ro) 0 P .any ops Q k listed a w
  | 0, _, _, _, h => h
  | k + 1, _, _, _, h => ⟨h.1, fun i hi => wpOpIn_mono (fun a' w' h' => wpAny_of_heldT k _ a' w' h'.2) (h.2 i hi)⟩
theorem wpHeldT_first {i : Nat} {oi : Oper} {v : Value} (hi : ops[i]? = some oi) (hfk : GX.firstKind oi.op = true) (hsel : Region.noSelect ops = true) (hQ : ∀ c a w, Q (.panic c) (a.put oi.dst v) w → Q (.panic c) a w) {Si : World → Prop} (hSi : (∃ c, (i, c) ∈ S ∧ ∀ w, c w → Si w) ∨ ∀ w, Si w) :
    ∀ (k : Nat) (listed : Array Bool) (a : Act) (w : World), GX.Closed ops listed →
      (∀ j oj, ops[j]? = some oj → j ≠ i → listed.getD j true = false → (∀ e ∈ oj.after, Region.binds .any e = true → e.on ≠ i) → oi.apart ops oj = true) →
      i ∈ Region.ready .any ops listed → GX.YieldsH P ops Si oi v a → GT ops S listed w →
      wpHeldT P ops Q S ro k (listed.setIfInBounds i true) (a.put oi.dst v) w → wpHeldT P ops Q S ro (k + 1) listed a w := by
  have hno : ∀ {LC : Array Bool}, GX.Closed ops LC → i ∈ Region.ready .any ops LC → ∀ f, covB ops f i = true → LC.getD f false = true → False := by
    intro LC hc hr f hf hfl
    obtain ⟨o, ho, _, hall⟩ := covB_ok hf
    have h1 := marks_ok hc hfl hall
    have h0 := (mem_ready.1 hr).1
    rcases Nat.lt_or_ge i LC.size with h' | h'
    · simp [h'] at h0 h1; rw [h0] at h1; cases h1
    · simp [Array.getElem?_eq_none h'] at h1
  have hSi' : ∀ {LC : Array Bool} {w : World}, GX.Closed ops LC → i ∈ Region.ready .any ops LC → GT ops S LC w → Si w := by
    intro LC w hc hr hg
    rcases hSi with ⟨c, hcm, hs⟩ | hs
    · rcases hg (i, c) hcm with ⟨f, hf, hfl⟩ | hg
      · exact (hno hc hr f hf hfl).elim
      · exact hs w hg
    · exact hs w
  have hup : ∀ {LC : Array Bool} {w : World}, GT ops S LC w → ∀ j, GT ops S (LC.setIfInBounds j true) w := fun hg j p hp => (hg p hp).imp (fun ⟨f, hf, hfl⟩ => ⟨f, hf, getD_set_true hfl⟩) id
  intro k
  induction k with
  | zero =>
    intro listed a w hc _ hr hy hG H
    refine ⟨fun h => absurd h (fun h => by rw [h] at hr; cases hr), fun j hj => ?_⟩
    by_cases hji : j = i
    · subst hji; exact GX.YieldsH.wpOp hi hy (hSi' hc hr hG) ⟨hup hG _, H⟩
    · have := ready_mono hj hji
      rw [H.1] at this
      cases this
  | succ k ih =>
    intro listed a w hc hfree hr hy hG H
    refine ⟨fun h => absurd h (fun h => by rw [h] at hr; cases hr), fun j hj => ?_⟩
    by_cases hji : j = i
    · subst hji; exact GX.YieldsH.wpOp hi hy (hSi' hc hr hG) ⟨hup hG _, H⟩
    · have h1 := H.2 j (ready_mono hj hji)
      obtain ⟨hjun, oj, hoj, hall⟩ := mem_ready.1 hj
      have hnot : ∀ e ∈ oj.after, Region.binds .any e = true → e.on ≠ i := fun e he hb heq => by
        have h1 := hall e he hb
        have h0 := (mem_ready.1 hr).1
        rw [heq] at h1
        rcases Nat.lt_or_ge i listed.size with h' | h'
        · simp [h'] at h0 h1; rw [h0] at h1; cases h1
        · simp [Array.getElem?_eq_none h'] at h1
      have h2 := GX.wpOp_putH hoj (hfree j oj hoj hji hjun hnot) (fun cs b => Region.noSelect_spec hsel i oi cs b hi) (fun cs b => Region.noSelect_spec hsel j oj cs b hoj) hQ hy h1
      have hfree' : ∀ q oq, ops[q]? = some oq → q ≠ i → (listed.setIfInBounds j true).getD q true = false → (∀ e ∈ oq.after, Region.binds .any e = true → e.on ≠ i) → oi.apart ops oq = true := fun q oq hq hqi hun hno => by
        refine hfree q oq hq hqi ?_ hno
        by_cases hjq : j = q
        · subst hjq; exact hjun
        · rw [getD_set_ne true hjq] at hun; exact hun
      have hr' := ready_mono hr (Ne.symm hji)
      have hc' := hc.set hj
      refine wpOpIn_mono (fun a' w' h3 => ?_) h2
      have hG' : GT ops S (listed.setIfInBounds j true) w' := fun p hp => by
        rcases h3.2.1 p hp with ⟨f, hf, hfl⟩ | hs
        · left
          refine ⟨f, hf, ?_⟩
          have hfi : i ≠ f := fun e => by
            obtain ⟨o, ho, hn, _⟩ := covB_ok hf
            rw [← e, hi] at ho
            cases ho
            rw [hfk] at hn
            cases hn
          rw [Array.setIfInBounds_comm _ _ (Ne.symm hji), getD_set_ne false hfi] at hfl
          exact hfl
        · exact .inr hs
      refine ⟨hG', ih (listed.setIfInBounds j true) a' w' hc' hfree' hr' h3.1 hG' ?_⟩
      rw [Array.setIfInBounds_comm _ _ hji]
      exact h3.2.2
end
section
variable {P : Program} {ops : Array Oper} {Q : Exit → Act → World → Prop} {S : List (Nat × (World → Prop))} {k : Nat} {listed : Array Bool} {a : Act} {w : World}
def HW (P : Program) (ops : Array Oper) (Q : Exit → Act → World → Prop) (S : List (Nat × (World → Prop))) (k : Nat) (listed : Array Bool) (a : Act) (w : World) : Prop := GX.Closed ops listed → GT ops S listed w → wpHeldT P ops Q S none k listed a w
theorem hw_start {id : Nat} (S : List (Nat × (World → Prop))) (hm : P.follows .mixedOrders = true) (hS : ∀ p ∈ S, p.2 w.drew) (h : HW P ops Q S ops.size (Array.replicate ops.size false) a w.drew) : (Code.region id ops true).wp P Q a w := by
  refine (wpIn_wide (n := 0)).1 ?_
  refine wpIn_region_any hm ?_
  refine wpAny_of_heldT (S := S) (ro := none) _ _ _ _ (h (fun f o ho hf => ?_) (fun p hp => .inr (hS p hp)))
  have : (Array.replicate ops.size false).getD f false = false := by
    unfold Array.getD
    split <;> simp
  rw [this] at hf
  cases hf
theorem hw_first {i : Nat} {oi : Oper} {v : Value} {Si : World → Prop} (hi : ops[i]? = some oi) (hfk : GX.firstKind oi.op = true) (hsel : Region.noSelect ops = true) (hf : Region.free .any ops listed i = true) (hr : (Region.ready .any ops listed).contains i = true)
    (hQ : ∀ c a w, Q (.panic c) (a.put oi.dst v) w → Q (.panic c) a w) (hSi : (∃ c, (i, c) ∈ S ∧ ∀ w, c w → Si w) ∨ ∀ w, Si w) (hy : GX.YieldsH P ops Si oi v a)
    (h : HW P ops Q S k (listed.setIfInBounds i true) (a.put oi.dst v) w) : HW P ops Q S (k + 1) listed a w := fun hc hg => by
  have hir : i ∈ Region.ready .any ops listed := by simpa using hr
  exact wpHeldT_first hi hfk hsel hQ hSi k listed a w hc (Region.free_spec hi hf) hir hy hg (h (hc.set hir) (fun p hp => (hg p hp).imp (fun ⟨f, hf, hfl⟩ => ⟨f, hf, getD_set_true hfl⟩) id))
theorem noDef {o : Oper} (h : (match o.op with | .defer _ => false | _ => true) = true) : ∀ c, o.op ≠ .defer c := fun c hc => by rw [hc] at h; cases h
theorem hw_load {i : Nat} {oi : Oper} {v : Value} (c : World → Prop) (hcm : (i, c) ∈ S) (hi : ops[i]? = some oi) (hfk : GX.firstKind oi.op = true) (hsel : Region.noSelect ops = true) (hf : Region.free .any ops listed i = true) (hr : (Region.ready .any ops listed).contains i = true)
    (hQ : ∀ c a w, Q (.panic c) (a.put oi.dst v) w → Q (.panic c) a w) (hd : (match oi.op with | .defer _ => false | _ => true) = true) (hw : Region.wanted oi (yielded ops a.tmps) = true) (hy : ∀ w, c w → (execOp a.eval oi).run P w = .ok (.value v) w)
    (h : HW P ops Q S k (listed.setIfInBounds i true) (a.put oi.dst v) w) : HW P ops Q S (k + 1) listed a w :=
  hw_first hi hfk hsel hf hr hQ (.inl ⟨c, hcm, fun _ h => h⟩) ⟨noDef hd, .inl ⟨hw, hy⟩⟩ h
theorem hw_pure {i : Nat} {oi : Oper} {v : Value} (hi : ops[i]? = some oi) (hfk : GX.firstKind oi.op = true) (hsel : Region.noSelect ops = true) (hf : Region.free .any ops listed i = true) (hr : (Region.ready .any ops listed).contains i = true)
    (hQ : ∀ c a w, Q (.panic c) (a.put oi.dst v) w → Q (.panic c) a w) (hd : (match oi.op with | .defer _ => false | _ => true) = true) (hw : Region.wanted oi (yielded ops a.tmps) = true) (hy : ∀ w, (execOp a.eval oi).run P w = .ok (.value v) w)
    (h : HW P ops Q S k (listed.setIfInBounds i true) (a.put oi.dst v) w) : HW P ops Q S (k + 1) listed a w :=
  hw_first (Si := fun _ => True) hi hfk hsel hf hr hQ (.inr fun _ => trivial) ⟨noDef hd, .inl ⟨hw, fun w _ => hy w⟩⟩ h
def AllHW (P : Program) (ops : Array Oper) (Q : Exit → Act → World → Prop) (S : List (Nat × (World → Prop))) (k : Nat) (listed : Array Bool) (a : Act) (w : World) (rs : List Nat) : Prop :=
  ∀ i ∈ rs, wpOpIn (GX.FW none) 0 P ops Q i (fun a' w' => GT ops S (listed.setIfInBounds i true) w' ∧ HW P ops Q S k (listed.setIfInBounds i true) a' w') a w
theorem hw_ready {rs : List Nat} (hr : Region.ready .any ops listed = rs) (hne : rs ≠ []) (h : AllHW P ops Q S k listed a w rs) : HW P ops Q S (k + 1) listed a w := fun hc hg =>
  ⟨fun h0 => absurd (hr ▸ h0) hne, fun i hi => wpOpIn_mono (fun a' w' h' => ⟨h'.1, h'.2 (hc.set hi) h'.1⟩) (h i (hr ▸ hi))⟩
theorem AllHW.nil : AllHW P ops Q S k listed a w [] := fun _ h => by cases h
theorem wpOpIn_wide_of {i : Nat} {o : Oper} {K : Act → World → Prop} (hi : ops[i]? = some o) (hd : (match o.op with | .defer _ => false | _ => true) = true) (hw : Region.wanted o (yielded ops a.tmps) = true) (h : Oper.wp P o a w K Q) : wpOpIn (GX.FW none) 0 P ops Q i K a w := by
  unfold wpOpIn
  simp only [hi, hw, if_true]
  refine ⟨fun _ _ => trivial, ?_⟩
  rw [Oper.semAt_eq _ _ _ (noDef hd)]
  unfold Oper.wp at h
  generalize (execOp a.eval o).run P w = r at *
  cases r with
  | ok x w' =>
    cases x <;> simp only [Oper.upon, Oper.uponIn] at h ⊢
    case value => exact h
    case skip => exact h
    case defer => exact h
    case enter f args => first | exact callsIn_wide.2 h | exact ⟨by simp [Fence.wide], callsIn_wide.2 h⟩
    case row row args => first | exact rowsIn_wide' (l := 0) h | exact ⟨by simp [Fence.wide], rowsIn_wide' (l := 0) h⟩
  | halt x w' => cases x <;> simp only [Oper.upon, Oper.uponIn] at h ⊢ <;> exact h
theorem AllHW.cons {i : Nat} {o : Oper} {rs : List Nat} (hi : ops[i]? = some o) (hd : (match o.op with | .defer _ => false | _ => true) = true) (hw : Region.wanted o (yielded ops a.tmps) = true)
    (h : ∀ K : Act → World → Prop, Hid (∀ a' w', (∀ p ∈ S, coveredB ops (listed.setIfInBounds i true) p.1 = true ∨ p.2 w') → HW P ops Q S k (listed.setIfInBounds i true) a' w' → K a' w') → Oper.wp P o a w K Q) (hs : AllHW P ops Q S k listed a w rs) : AllHW P ops Q S k listed a w (i :: rs) := fun j hj => by
  rcases List.mem_cons.1 hj with rfl | hj
  · exact wpOpIn_wide_of hi hd hw (h _ (Lib.hid (fun a' w' h1 h2 => ⟨fun p hp => (h1 p hp).imp coveredB_ok id, h2⟩)))
  · exact hs j hj
theorem hw_done (hr : Region.ready .any ops listed = []) (h : Q .normal a w) : HW P ops Q S k listed a w := fun _ _ => by
  cases k with
  | zero => exact ⟨hr, h⟩
  | succ k => exact ⟨fun _ => h, by rw [hr]; simp⟩
end

end PartOfGh

section PartOfGr
open Go.RowKit
open Go.Maps Go.Shelf
section
variable {l : Nat} {P : Program} {ops : Array Oper} {Q : Exit → Act → World → Prop} {S : List (Nat × (World → Prop))} {k : Nat} {listed : Array Bool} {a : Act} {w : World}
def HX (l : Nat) (P : Program) (ops : Array Oper) (Q : Exit → Act → World → Prop) (S : List (Nat × (World → Prop))) (k : Nat) (listed : Array Bool) (a : Act) (w : World) : Prop := GX.Closed ops listed → GT ops S listed w → wpHeldT P ops Q S (some l) k listed a w
theorem hx_start {id : Nat} (S : List (Nat × (World → Prop))) (hm : P.follows .mixedOrders = true) (hS : ∀ p ∈ S, p.2 w.drew) (h : HX l P ops Q S ops.size (Array.replicate ops.size false) a w.drew) : (Code.region id ops true).wpIn (Fence.wide.inRound l) 0 P Q a w := by
  refine wpIn_region_any hm ?_
  refine wpAny_of_heldT (S := S) (ro := some l) _ _ _ _ (h (fun f o ho hf => ?_) (fun p hp => .inr (hS p hp)))
  have : (Array.replicate ops.size false).getD f false = false := by
    unfold Array.getD
    split <;> simp
  rw [this] at hf
  cases hf
theorem hx_first {i : Nat} {oi : Oper} {v : Value} {Si : World → Prop} (hi : ops[i]? = some oi) (hfk : GX.firstKind oi.op = true) (hsel : Region.noSelect ops = true) (hf : Region.free .any ops listed i = true) (hr : (Region.ready .any ops listed).contains i = true)
    (hQ : ∀ c a w, Q (.panic c) (a.put oi.dst v) w → Q (.panic c) a w) (hSi : (∃ c, (i, c) ∈ S ∧ ∀ w, c w → Si w) ∨ ∀ w, Si w) (hy : GX.YieldsH P ops Si oi v a)
    (h : HX l P ops Q S k (listed.setIfInBounds i true) (a.put oi.dst v) w) : HX l P ops Q S (k + 1) listed a w := fun hc hg => by
  have hir : i ∈ Region.ready .any ops listed := by simpa using hr
  exact wpHeldT_first hi hfk hsel hQ hSi k listed a w hc (Region.free_spec hi hf) hir hy hg (h (hc.set hir) (fun p hp => (hg p hp).imp (fun ⟨f, hf, hfl⟩ => ⟨f, hf, getD_set_true hfl⟩) id))
theorem noDefx {o : Oper} (h : (match o.op with | .defer _ => false | _ => true) = true) : ∀ c, o.op ≠ .defer c := fun c hc => by rw [hc] at h; cases h
theorem hx_load {i : Nat} {oi : Oper} {v : Value} (c : World → Prop) (hcm : (i, c) ∈ S) (hi : ops[i]? = some oi) (hfk : GX.firstKind oi.op = true) (hsel : Region.noSelect ops = true) (hf : Region.free .any ops listed i = true) (hr : (Region.ready .any ops listed).contains i = true)
    (hQ : ∀ c a w, Q (.panic c) (a.put oi.dst v) w → Q (.panic c) a w) (hd : (match oi.op with | .defer _ => false | _ => true) = true) (hw : Region.wanted oi (yielded ops a.tmps) = true) (hy : ∀ w, c w → (execOp a.eval oi).run P w = .ok (.value v) w)
    (h : HX l P ops Q S k (listed.setIfInBounds i true) (a.put oi.dst v) w) : HX l P ops Q S (k + 1) listed a w :=
  hx_first hi hfk hsel hf hr hQ (.inl ⟨c, hcm, fun _ h => h⟩) ⟨noDefx hd, .inl ⟨hw, hy⟩⟩ h
theorem hx_pure {i : Nat} {oi : Oper} {v : Value} (hi : ops[i]? = some oi) (hfk : GX.firstKind oi.op = true) (hsel : Region.noSelect ops = true) (hf : Region.free .any ops listed i = true) (hr : (Region.ready .any ops listed).contains i = true)
    (hQ : ∀ c a w, Q (.panic c) (a.put oi.dst v) w → Q (.panic c) a w) (hd : (match oi.op with | .defer _ => false | _ => true) = true) (hw : Region.wanted oi (yielded ops a.tmps) = true) (hy : ∀ w, (execOp a.eval oi).run P w = .ok (.value v) w)
    (h : HX l P ops Q S k (listed.setIfInBounds i true) (a.put oi.dst v) w) : HX l P ops Q S (k + 1) listed a w :=
  hx_first (Si := fun _ => True) hi hfk hsel hf hr hQ (.inr fun _ => trivial) ⟨noDefx hd, .inl ⟨hw, fun w _ => hy w⟩⟩ h
theorem hx_skip {i : Nat} {oi : Oper} (hi : ops[i]? = some oi) (hfk : GX.firstKind oi.op = true) (hsel : Region.noSelect ops = true) (hf : Region.free .any ops listed i = true) (hr : (Region.ready .any ops listed).contains i = true)
    (hQ : ∀ c a w, Q (.panic c) (a.put oi.dst undef) w → Q (.panic c) a w) (hd : (match oi.op with | .defer _ => false | _ => true) = true) (hw : Region.wanted oi (yielded ops a.tmps) = false)
    (h : HX l P ops Q S k (listed.setIfInBounds i true) (a.put oi.dst undef) w) : HX l P ops Q S (k + 1) listed a w :=
  hx_first (Si := fun _ => True) hi hfk hsel hf hr hQ (.inr fun _ => trivial) ⟨noDefx hd, .inr ⟨hw, rfl⟩⟩ h
def AllHX (l : Nat) (P : Program) (ops : Array Oper) (Q : Exit → Act → World → Prop) (S : List (Nat × (World → Prop))) (k : Nat) (listed : Array Bool) (a : Act) (w : World) (rs : List Nat) : Prop :=
  ∀ i ∈ rs, wpOpIn (GX.FW (some l)) 0 P ops Q i (fun a' w' => GT ops S (listed.setIfInBounds i true) w' ∧ HX l P ops Q S k (listed.setIfInBounds i true) a' w') a w
theorem hx_ready {rs : List Nat} (hr : Region.ready .any ops listed = rs) (hne : rs ≠ []) (h : AllHX l P ops Q S k listed a w rs) : HX l P ops Q S (k + 1) listed a w := fun hc hg =>
  ⟨fun h0 => absurd (hr ▸ h0) hne, fun i hi => wpOpIn_mono (fun a' w' h' => ⟨h'.1, h'.2 (hc.set hi) h'.1⟩) (h i (hr ▸ hi))⟩
theorem AllHX.nil : AllHX l P ops Q S k listed a w [] := fun _ h => by cases h
theorem wpOpIn_round_of {i : Nat} {o : Oper} {K : Act → World → Prop} (hi : ops[i]? = some o) (hd : (match o.op with | .defer _ => false | _ => true) = true) (hw : Region.wanted o (yielded ops a.tmps) = true) (h : Oper.wp P o a w K Q) : wpOpIn (GX.FW (some l)) 0 P ops Q i K a w := by
  unfold wpOpIn
  simp only [hi, hw, if_true]
  refine ⟨fun _ _ => trivial, ?_⟩
  rw [Oper.semAt_eq _ _ _ (noDefx hd)]
  unfold Oper.wp at h
  generalize (execOp a.eval o).run P w = r at *
  cases r with
  | ok x w' =>
    cases x <;> simp only [Oper.upon, Oper.uponIn] at h ⊢
    case value => exact h
    case skip => exact h
    case defer => exact h
    case enter f args => first | exact CallsIn.inRound l (callsIn_wide.2 h) | exact ⟨by simp [Fence.wide], CallsIn.inRound l (callsIn_wide.2 h)⟩
    case row row args => first | exact rowsIn_wide' (l := l) h | exact ⟨by simp [Fence.wide], rowsIn_wide' (l := l) h⟩
  | halt x w' => cases x <;> simp only [Oper.upon, Oper.uponIn] at h ⊢ <;> exact h
theorem AllHX.cons {i : Nat} {o : Oper} {rs : List Nat} (hi : ops[i]? = some o) (hd : (match o.op with | .defer _ => false | _ => true) = true) (hw : Region.wanted o (yielded ops a.tmps) = true)
    (h : ∀ K : Act → World → Prop, Hid (∀ a' w', (∀ p ∈ S, coveredB ops (listed.setIfInBounds i true) p.1 = true ∨ p.2 w') → HX l P ops Q S k (listed.setIfInBounds i true) a' w' → K a' w') → Oper.wp P o a w K Q) (hs : AllHX l P ops Q S k listed a w rs) : AllHX l P ops Q S k listed a w (i :: rs) := fun j hj => by
  rcases List.mem_cons.1 hj with rfl | hj
  · exact wpOpIn_round_of hi hd hw (h _ (Lib.hid (fun a' w' h1 h2 => ⟨fun p hp => (h1 p hp).imp coveredB_ok id, h2⟩)))
  · exact hs j hj
theorem hx_done (hr : Region.ready .any ops listed = []) (h : Q .normal a w) : HX l P ops Q S k listed a w := fun _ _ => by
  cases k with
  | zero => exact ⟨hr, h⟩
  | succ k => exact ⟨fun _ => h, by rw [hr]; simp⟩
end

end PartOfGr

section PartOfGw
open Go.RowKit
open Go.Maps Go.Shelf
def vI (zs : List Int) : List Value := zs.map fun z => .int .i64 z
theorem vI_at {zs : List Int} {i : Nat} {z : Int} (h : zs[i]? = some z) : (vI zs)[i]? = some (.int .i64 z) := by simp [vI, h]
theorem vI_add (zs : List Int) (y : Int) : vI (zs ++ [y]) = vI zs ++ [.int .i64 y] := by simp [vI]
theorem Frm.grownR {w W W1 : World} {bs : List (Nat × Obj)} {row : Option Nat} (h : Frm w bs W) (hg : W.grownBy W1 row) (hM : ∀ k, row = some k → w.heap.size ≤ k) (hne : ∀ p ∈ bs, some p.1 ≠ row) : Frm w bs W1 :=
  ⟨h.b.grown hg h.b.size hM, fun p hp => (hg.block p.1 (Array.getElem?_eq_some_iff.1 (h.h p hp)).1 (hne p hp)).trans (h.h p hp)⟩
theorem info_parts {P : Program} {e : TypeId} {z : Value} {s b : Nat} (h : (P.info? e).map (fun i => (i.zero, i.size, i.bytes)) = some (some z, s, b)) : ∃ i, P.info? e = some i ∧ i.zero = some z ∧ i.size = s ∧ i.bytes = b := by
  cases hi : P.info? e with
  | none => rw [hi] at h; cases h
  | some i =>
    rw [hi] at h
    simp only [Option.map_some, Option.some.injEq, Prod.mk.injEq] at h
    exact ⟨i, rfl, h.1, h.2.1, h.2.2⟩
theorem Tryz.infoInt : (Tryz.prog.info? 3).map (fun i => (i.zero, i.size, i.bytes)) = some (some (.int .i64 0), 1, 8) := by kernel_rfl
theorem own_below {w w' : World} {base n sz : Nat} {t : TypeId} {v : Value} {zs : List Value} (h : w.ownsRow base t sz v n zs) (hb : Below w.heap.size w w') : w'.ownsRow base t sz v n zs :=
  h.kept (row := none) ⟨hb.os, hb.tape, hb.output, hb.size, fun k hk _ => hb.block k hk⟩ (by cases v.ownBlock <;> simp)
theorem own_drew {w : World} {base n sz : Nat} {t : TypeId} {v : Value} {zs : List Value} (h : w.ownsRow base t sz v n zs) : w.drew.ownsRow base t sz v n zs := own_below h ((Below.refl _ _).drew)
section
variable {w : World} {o : Oper} {a : Act} {K : Act → World → Prop} {Q : Exit → Act → World → Prop}
theorem wp_int (s x : Operand) (ho : o.op = .call { callee := .builtin .append, args := #[s, x], argTypes := #[36, 36] })
    {base N n : Nat} {v : Value} {zs : List Int} {y : Int} (hn : zs.length = n) (hs : a.eval s = v) (hown : w.ownsRow base 3 1 v n (vI zs)) (hx : a.eval x = .slice (some ⟨N, 0, none⟩) 1 1) (hN : w.heap[N]? = some (.cells #[.int .i64 y] 3)) (hl : n ≤ 1000) (hbase : base ≤ w.heap.size)
    (h : ∀ g cap w', w'.ownsRow base 3 1 (.slice (some ⟨g, 0, none⟩) (n + 1) cap) (n + 1) (vI (zs ++ [y])) → w.grownBy w' v.ownBlock → (v.ownBlock = some g ∨ g = w.heap.size) → g < w'.heap.size → K (a.put o.dst (.slice (some ⟨g, 0, none⟩) (n + 1) cap)) w') : o.wp Tryz.prog a w K Q := by
  subst hn
  obtain ⟨i0, hi0, hz0, hz1, hz2⟩ := info_parts Tryz.infoInt
  obtain ⟨hc, _⟩ := boxCells hN
  refine wp_append_lies w s x _ ho base 3 i0 _ 1 8 Tryz.underlying36 hi0 hz0 hz1 hz2 rfl (by omega) v zs.length (vI zs) hs hown ⟨N, 0, none⟩ 1 1 [.int .i64 y] hx rfl (fun j u hj => ?_) (fun u hu => by simp at hu; subst hu; rfl) (by omega) (by unfold maxLen; omega) (by omega) hbase _ rfl ?_
  · rw [Go.WideShapes.add_plain, Nat.zero_add, hc j]
    simpa using hj
  · intro g cap w1 hown1 hgrow hat hlt
    rw [← vI_add] at hown1
    exact h g cap w1 hown1 hgrow hat hlt
variable {ops : Array Oper} {E : Prop} {rest : List Oper}
end
structure Rw where
  t : TypeId
  sz : Nat
  v : Value
  n : Nat
  vs : List Value
def Rw.off (r s : Rw) : Prop := ∀ k, r.v.ownBlock = some k → s.v.ownBlock ≠ some k
structure RW (w : World) (base : Nat) (bs : List (Nat × Obj)) (rs : List Rw) (W : World) : Prop where
  frm : Frm w bs W
  own : ∀ r ∈ rs, W.ownsRow base r.t r.sz r.v r.n r.vs
  sep : ∀ r ∈ rs, ∀ k, r.v.ownBlock = some k → ∀ p ∈ bs, p.1 ≠ k
  dis : rs.Pairwise Rw.off
  lo : w.heap.size ≤ base
  hi : base ≤ W.heap.size
theorem RW.start {w W : World} {bs : List (Nat × Obj)} (h : Frm w bs W) : RW w W.heap.size bs [] W := ⟨h, by simp, by simp, List.Pairwise.nil, h.size, Nat.le_refl _⟩
theorem RW.below {w W W1 : World} {base : Nat} {bs : List (Nat × Obj)} {rs : List Rw} (h : RW w base bs rs W) (hb : Below W.heap.size W W1) : RW w base bs rs W1 :=
  ⟨h.frm.below hb, fun r hr => own_below (h.own r hr) hb, h.sep, h.dis, h.lo, Nat.le_trans h.hi hb.size⟩
theorem RW.drew {w W : World} {base : Nat} {bs : List (Nat × Obj)} {rs : List Rw} (h : RW w base bs rs W) : RW w base bs rs W.drew := ⟨h.frm.drew, fun r hr => own_drew (h.own r hr), h.sep, h.dis, h.lo, h.hi⟩
theorem RW.add {w W : World} {base : Nat} {bs : List (Nat × Obj)} {rs : List Rw} (h : RW w base bs rs W) {k : Nat} (o : Obj) (hk : k = W.heap.size) : RW w base ((k, o) :: bs) rs (W.alloc o) :=
  ⟨h.frm.add o hk, fun r hr => (h.own r hr).alloc o, fun r hr j hj p hp => by
    rcases List.mem_cons.1 hp with rfl | hp
    · have := ((h.own r hr).lt j hj).2; show k ≠ j; omega
    · exact h.sep r hr j hj p hp, h.dis, h.lo, by have := h.hi; simp; omega⟩
theorem RW.less {w W : World} {base : Nat} {bs bs' : List (Nat × Obj)} {rs : List Rw} (h : RW w base bs rs W) (hs : ∀ p ∈ bs', p ∈ bs) : RW w base bs' rs W :=
  ⟨h.frm.less hs, h.own, fun r hr k hk p hp => h.sep r hr k hk p (hs p hp), h.dis, h.lo, h.hi⟩
theorem RW.put {w W : World} {base : Nat} {bs : List (Nat × Obj)} {rs : List Rw} {k : Nat} {cs : Array Value} {t : TypeId} (h : RW w base ((k, .cells cs t) :: bs) rs W) (hk : w.heap.size ≤ k) (hne : ∀ p ∈ bs, p.1 ≠ k) (o : Nat) (u : Value) :
    RW w base ((k, .cells (cs.setIfInBounds o u) t) :: bs) rs (W.setCell ⟨k, o, none⟩ u) :=
  ⟨h.frm.put hk hne o u, fun r hr => ownsRow_setCell_other (h.own r hr) (fun e => h.sep r hr k e _ (List.mem_cons_self ..) rfl) u, fun r hr j hj p hp => by
    rcases List.mem_cons.1 hp with rfl | hp
    · exact h.sep r hr j hj (k, .cells cs t) (List.mem_cons_self ..)
    · exact h.sep r hr j hj p (List.mem_cons_of_mem _ hp), h.dis, h.lo, by have := h.hi; simpa using this⟩
@[reducible] def rwI (v : Value) (n : Nat) (L : List Int) : Rw := ⟨3, 1, v, n, vI L⟩

end PartOfGw

section PartOfGs
open Go.RowKit
open Go.Maps Go.Shelf
section
variable {l : Nat} {P : Program} {ops : Array Oper} {Q : Exit → Act → World → Prop} {S : List (Nat × (World → Prop))} {k : Nat} {listed : Array Bool} {a : Act} {w : World}
theorem AllHX.skip {i : Nat} {o : Oper} {rs : List Nat} (hi : ops[i]? = some o) (hw : Region.wanted o (yielded ops a.tmps) = false)
    (h : ∀ K : Act → World → Prop, Hid (∀ a' w', (∀ p ∈ S, coveredB ops (listed.setIfInBounds i true) p.1 = true ∨ p.2 w') → HX l P ops Q S k (listed.setIfInBounds i true) a' w' → K a' w') → K (a.put o.dst undef) w) (hs : AllHX l P ops Q S k listed a w rs) : AllHX l P ops Q S k listed a w (i :: rs) := fun j hj => by
  rcases List.mem_cons.1 hj with rfl | hj
  · unfold wpOpIn
    simp only [hi, hw, Bool.false_eq_true, if_false]
    exact ⟨fun _ _ => trivial, h (fun a' w' => GT ops S (listed.setIfInBounds j true) w' ∧ HX l P ops Q S k (listed.setIfInBounds j true) a' w') (Lib.hid (fun a' w' h1 h2 => ⟨fun p hp => (h1 p hp).imp coveredB_ok id, h2⟩))⟩
  · exact hs j hj
end
def onlyN (R : Act → World → Prop) : Exit → Act → World → Prop
  | .normal, a, w => R a w
  | _, _, _ => False
theorem onlyN_is {R : Act → World → Prop} {e : Exit} {a : Act} {w : World} (h : onlyN R e a w) : e = .normal ∧ R a w := by
  cases e <;> first | exact ⟨rfl, h⟩ | exact h.elim
def setAll (k : Nat) : Nat → List Value → World → World
  | _, [], W => W
  | o, v :: vs, W => setAll k (o + 1) vs (W.setCell ⟨k, o, none⟩ v)
theorem setAll_blk {k : Nat} {t : TypeId} : ∀ (vs : List Value) (o : Nat) (W : World) (cs : Array Value), W.heap[k]? = some (.cells cs t) → cs.size = o + vs.length → (setAll k o vs W).heap[k]? = some (.cells (cs.toList.take o ++ vs).toArray t)
  | [], o, W, cs, h, hs => by
    have e : cs.toList.take o = cs.toList := List.take_of_length_le (by simp at hs; simp; omega)
    rw [e, List.append_nil, Array.toArray_toList]
    exact h
  | v :: vs, o, W, cs, h, hs => by
    have hs' : cs.size = o + (vs.length + 1) := hs
    have h1 := setAll_blk vs (o + 1) _ _ (heap_setCell_same (o := o) h v) (by simp; omega)
    rw [show setAll k o (v :: vs) W = setAll k (o + 1) vs (W.setCell ⟨k, o, none⟩ v) from rfl, h1]
    have e : ((cs.setIfInBounds o v).toList.take (o + 1)) = cs.toList.take o ++ [v] := by
      rw [List.take_add_one]
      have h2 : (cs.setIfInBounds o v).toList[o]? = some v := by
        rw [Array.toList_setIfInBounds, List.getElem?_set_self (by simp; omega)]
      have h3 : (cs.setIfInBounds o v).toList.take o = cs.toList.take o := by
        rw [Array.toList_setIfInBounds]
        exact List.take_set_of_le (Nat.le_refl _)
      rw [h2, h3]
      rfl
    rw [e, List.append_assoc]
    rfl
theorem setAll_grown {k : Nat} : ∀ (vs : List Value) (o : Nat) (W : World), W.grownBy (setAll k o vs W) (some k)
  | [], _, W => ⟨rfl, rfl, rfl, Nat.le_refl _, fun _ _ _ => rfl⟩
  | v :: vs, o, W => by
    have h1 : W.grownBy (W.setCell ⟨k, o, none⟩ v) (some k) := ⟨rfl, rfl, rfl, by simp [World.setCell], fun j _ hj => Below.heap_setCell _ _ _ _ (fun e => hj (by rw [show j = k from e]))⟩
    have h2 := setAll_grown (k := k) vs (o + 1) (W.setCell ⟨k, o, none⟩ v)
    exact ⟨h2.os.trans h1.os, h2.tape.trans h1.tape, h2.output.trans h1.output, Nat.le_trans h1.size h2.size, fun j hj hn => (h2.block j (Nat.lt_of_lt_of_le hj h1.size) hn).trans (h1.block j hj hn)⟩
theorem keeps_of_below {B : Nat} {W W' : World} (h : Below W.heap.size W W') : KeepsFrom B W W' := ⟨h.size, fun k o _ hk _ => blk_below hk h⟩

end PartOfGs

section PartOfGt
open Go.RowKit
open Go.Maps Go.Shelf
theorem run_max (P : Program) (ts : Array TypeId) (ty : TypeId) (a b : Int) (w : World) : (Builtin.max_ ts ty #[.int .i64 a, .int .i64 b]).run P w = .ok (.int .i64 (max a b)) w := by
  unfold Builtin.max_
  by_cases h : a < b
  · simp [Builtin.max2, h]; omega
  · simp [Builtin.max2, h]; omega
section
variable {w : World} {o : Oper} {a : Act} {K : Act → World → Prop} {Q : Exit → Act → World → Prop}
set_option maxRecDepth 100000 in
set_option maxHeartbeats 1000000 in
theorem wp_fnval {P : Program} {x y : Operand} {tys : Array TypeId} (ho : o.op = .call { callee := .value y, args := #[x], argTypes := tys }) {f : Nat} {F1 C1 : Array Value} {val : Value} (hy : a.eval y = .func (.func f) F1 C1) (hx : a.eval x = val) (hcf : ∀ args w, (callFunc f args).run P w = .ok (.enter f args) w) {r : Value} {R : World → Prop} (hc : Calls P f (F1 ++ #[val] ++ C1) w fun e w' => e = .returned r ∧ R w')
    (h : ∀ w', R w' → K (a.put o.dst r) w') : o.wp P a w K Q := by
  have e : o.wp P a w K Q = o.upon P a K Q (.ok (.enter f (F1 ++ #[val] ++ C1)) w) := by
    unfold Oper.wp execOp
    simp only [ho, resolve, invoke, Act.eval, Sem.run_bind, Sem.run_pure, Result.andThen_ok, List.map_toArray, List.map_cons, List.map_nil]
    have hx' := hx
    have hy' := hy
    unfold Act.eval at hx' hy'
    rw [hx', hy']
    rw [← hcf]
    rfl
  rw [e, Oper.upon_enter]
  refine hc.mono ?_
  intro e w' hr
  obtain ⟨rfl, hr⟩ := hr
  exact h w' hr
end
theorem oper_round {l n : Nat} {P : Program} {o : Oper} {a : Act} {w : World} {K : Act → World → Prop} {Q : Exit → Act → World → Prop} (hd : (match o.op with | .defer _ => false | _ => true) = true) (h : Oper.wp P o a w K Q) : o.wpIn (Fence.wide.inRound l) n P a w K Q := by
  unfold Oper.wpIn
  refine ⟨fun _ _ => trivial, ?_⟩
  rw [Oper.semAt_eq _ _ _ (noDefx hd)]
  unfold Oper.wp at h
  generalize (execOp a.eval o).run P w = r at *
  cases r with
  | ok x w' =>
    cases x <;> simp only [Oper.upon, Oper.uponIn] at h ⊢
    case value => exact h
    case skip => exact h
    case defer => exact h
    case enter f args => first | exact CallsIn.inRound l (callsIn_wide.2 h) | exact ⟨by simp [Fence.wide], CallsIn.inRound l (callsIn_wide.2 h)⟩
    case row row args => first | exact rowsIn_wide' (l := l) h | exact ⟨by simp [Fence.wide], rowsIn_wide' (l := l) h⟩
  | halt x w' => cases x <;> simp only [Oper.upon, Oper.uponIn] at h ⊢ <;> exact h
theorem wpListIn_of_wp {l n : Nat} {P : Program} {ops : Array Oper} {rest : List Oper} {o : Oper} {a : Act} {w : World} {Q : Exit → Act → World → Prop} (hg : o.guard = none) (hd : (match o.op with | .defer _ => false | _ => true) = true)
    (h : ∀ K : Act → World → Prop, Hid (∀ a w, wpListIn (Fence.wide.inRound l) n P ops Q rest a w → K a w) → Oper.wp P o a w K Q) : wpListIn (Fence.wide.inRound l) n P ops Q (o :: rest) a w :=
  wpListIn_plain hg fun K hK => oper_round hd (h K (Lib.hid hK))
theorem keeps_row {B : Nat} {W W' : World} {row : Option Nat} (hg : W.grownBy W' row) (h : ∀ g, row = some g → ∃ cs t fr, W.heap[g]? = some (.cells cs t fr)) : KeepsFrom B W W' :=
  ⟨hg.size, fun k o _ hk ho => (hg.block k (lt_of_blk hk) (fun e => by
    obtain ⟨cs, t, fr, hc⟩ := h k e.symm
    rw [hc] at hk
    cases hk
    cases ho)).trans hk⟩
theorem own_cells {W : World} {base n sz : Nat} {t : TypeId} {v : Value} {zs : List Value} (h : W.ownsRow base t sz v n zs) : ∀ g, v.ownBlock = some g → ∃ cs t fr, W.heap[g]? = some (.cells cs t fr) := fun g hg => by
  rcases h.2 with ⟨h0, _⟩ | ⟨g', cap, cur, hv, hb0, hgc, h1, h2, h3, h4⟩
  · rw [h0] at hg; cases hg
  · rw [hv] at hg
    cases hg
    exact ⟨_, _, _, hgc⟩

end PartOfGt
end Go.Proofs.YtldimlnllmojiaaGreat
