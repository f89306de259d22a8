import Derived.Test.YtbjffjnmjkogkaaGreatGh
set_option linter.unusedVariables false
set_option linter.unusedSimpArgs false
namespace Go.Proofs.YtbjffjnmjkogkaaGreat
open Go.RowKit
open Go.Maps Go.Shelf
section
variable {l : Nat} {P : Program} {ops : Array Oper} {Q : Exit → Act → World → Prop} {S : List (Nat × (World → Prop))} {k : Nat} {listed : Array Bool} {a : Act} {w : World}
def HX (l : Nat) (P : Program) (ops : Array Oper) (Q : Exit → Act → World → Prop) (S : List (Nat × (World → Prop))) (k : Nat) (listed : Array Bool) (a : Act) (w : World) : Prop := GX.Closed ops listed → GT ops S listed w → wpHeldT P ops Q S (some l) k listed a w
theorem hx_start {id : Nat} (S : List (Nat × (World → Prop))) (hm : P.follows .mixedOrders = true) (hS : ∀ p ∈ S, p.2 w.drew) (h : HX l P ops Q S ops.size (Array.replicate ops.size false) a w.drew) : (Code.region id ops true).wpIn (Fence.wide.inRound l) 0 P Q a w := by
  refine wpIn_region_any hm ?_
  refine wpAny_of_heldT (S := S) (ro := some l) _ _ _ _ (h (fun f o ho hf => ?_) (fun p hp => .inr (hS p hp)))
  have : (Array.replicate ops.size false).getD f false = false := by
    unfold Array.getD
    split <;> simp
  rw [this] at hf
  cases hf
theorem hx_first {i : Nat} {oi : Oper} {v : Value} {Si : World → Prop} (hi : ops[i]? = some oi) (hfk : GX.firstKind oi.op = true) (hsel : Region.noSelect ops = true) (hf : Region.free .any ops listed i = true) (hr : (Region.ready .any ops listed).contains i = true)
    (hQ : ∀ c a w, Q (.panic c) (a.put oi.dst v) w → Q (.panic c) a w) (hSi : (∃ c, (i, c) ∈ S ∧ ∀ w, c w → Si w) ∨ ∀ w, Si w) (hy : GX.YieldsH P ops Si oi v a)
    (h : HX l P ops Q S k (listed.setIfInBounds i true) (a.put oi.dst v) w) : HX l P ops Q S (k + 1) listed a w := fun hc hg => by
  have hir : i ∈ Region.ready .any ops listed := by simpa using hr
  exact wpHeldT_first hi hfk hsel hQ hSi k listed a w hc (Region.free_spec hi hf) hir hy hg (h (hc.set hir) (fun p hp => (hg p hp).imp (fun ⟨f, hf, hfl⟩ => ⟨f, hf, getD_set_true hfl⟩) id))
theorem noDefx {o : Oper} (h : (match o.op with | .defer _ => false | _ => true) = true) : ∀ c, o.op ≠ .defer c := fun c hc => by rw [hc] at h; cases h
theorem hx_load {i : Nat} {oi : Oper} {v : Value} (c : World → Prop) (hcm : (i, c) ∈ S) (hi : ops[i]? = some oi) (hfk : GX.firstKind oi.op = true) (hsel : Region.noSelect ops = true) (hf : Region.free .any ops listed i = true) (hr : (Region.ready .any ops listed).contains i = true)
    (hQ : ∀ c a w, Q (.panic c) (a.put oi.dst v) w → Q (.panic c) a w) (hd : (match oi.op with | .defer _ => false | _ => true) = true) (hw : Region.wanted oi (yielded ops a.tmps) = true) (hy : ∀ w, c w → (execOp a.eval oi).run P w = .ok (.value v) w)
    (h : HX l P ops Q S k (listed.setIfInBounds i true) (a.put oi.dst v) w) : HX l P ops Q S (k + 1) listed a w :=
  hx_first hi hfk hsel hf hr hQ (.inl ⟨c, hcm, fun _ h => h⟩) ⟨noDefx hd, .inl ⟨hw, hy⟩⟩ h
theorem hx_pure {i : Nat} {oi : Oper} {v : Value} (hi : ops[i]? = some oi) (hfk : GX.firstKind oi.op = true) (hsel : Region.noSelect ops = true) (hf : Region.free .any ops listed i = true) (hr : (Region.ready .any ops listed).contains i = true)
    (hQ : ∀ c a w, Q (.panic c) (a.put oi.dst v) w → Q (.panic c) a w) (hd : (match oi.op with | .defer _ => false | _ => true) = true) (hw : Region.wanted oi (yielded ops a.tmps) = true) (hy : ∀ w, (execOp a.eval oi).run P w = .ok (.value v) w)
    (h : HX l P ops Q S k (listed.setIfInBounds i true) (a.put oi.dst v) w) : HX l P ops Q S (k + 1) listed a w :=
  hx_first (Si := fun _ => True) hi hfk hsel hf hr hQ (.inr fun _ => trivial) ⟨noDefx hd, .inl ⟨hw, fun w _ => hy w⟩⟩ h
theorem hx_skip {i : Nat} {oi : Oper} (hi : ops[i]? = some oi) (hfk : GX.firstKind oi.op = true) (hsel : Region.noSelect ops = true) (hf : Region.free .any ops listed i = true) (hr : (Region.ready .any ops listed).contains i = true)
    (hQ : ∀ c a w, Q (.panic c) (a.put oi.dst undef) w → Q (.panic c) a w) (hd : (match oi.op with | .defer _ => false | _ => true) = true) (hw : Region.wanted oi (yielded ops a.tmps) = false)
    (h : HX l P ops Q S k (listed.setIfInBounds i true) (a.put oi.dst undef) w) : HX l P ops Q S (k + 1) listed a w :=
  hx_first (Si := fun _ => True) hi hfk hsel hf hr hQ (.inr fun _ => trivial) ⟨noDefx hd, .inr ⟨hw, rfl⟩⟩ h
def AllHX (l : Nat) (P : Program) (ops : Array Oper) (Q : Exit → Act → World → Prop) (S : List (Nat × (World → Prop))) (k : Nat) (listed : Array Bool) (a : Act) (w : World) (rs : List Nat) : Prop :=
  ∀ i ∈ rs, wpOpIn (GX.FW (some l)) 0 P ops Q i (fun a' w' => GT ops S (listed.setIfInBounds i true) w' ∧ HX l P ops Q S k (listed.setIfInBounds i true) a' w') a w
theorem hx_ready {rs : List Nat} (hr : Region.ready .any ops listed = rs) (hne : rs ≠ []) (h : AllHX l P ops Q S k listed a w rs) : HX l P ops Q S (k + 1) listed a w := fun hc hg =>
  ⟨fun h0 => absurd (hr ▸ h0) hne, fun i hi => wpOpIn_mono (fun a' w' h' => ⟨h'.1, h'.2 (hc.set hi) h'.1⟩) (h i (hr ▸ hi))⟩
theorem AllHX.nil : AllHX l P ops Q S k listed a w [] := fun _ h => by cases h
theorem wpOpIn_round_of {i : Nat} {o : Oper} {K : Act → World → Prop} (hi : ops[i]? = some o) (hd : (match o.op with | .defer _ => false | _ => true) = true) (hw : Region.wanted o (yielded ops a.tmps) = true) (h : Oper.wp P o a w K Q) : wpOpIn (GX.FW (some l)) 0 P ops Q i K a w := by
  unfold wpOpIn
  simp only [hi, hw, if_true]
  refine ⟨fun _ _ => trivial, ?_⟩
  rw [Oper.semAt_eq _ _ _ (noDefx hd)]
  unfold Oper.wp at h
  generalize (execOp a.eval o).run P w = r at *
  cases r with
  | ok x w' =>
    cases x <;> simp only [Oper.upon, Oper.uponIn] at h ⊢
    case value => exact h
    case skip => exact h
    case defer => exact h
    case enter f args => first | exact CallsIn.inRound l (callsIn_wide.2 h) | exact ⟨by simp [Fence.wide], CallsIn.inRound l (callsIn_wide.2 h)⟩
    case row row args => first | exact rowsIn_wide' (l := l) h | exact ⟨by simp [Fence.wide], rowsIn_wide' (l := l) h⟩
  | halt x w' => cases x <;> simp only [Oper.upon, Oper.uponIn] at h ⊢ <;> exact h
theorem AllHX.cons {i : Nat} {o : Oper} {rs : List Nat} (hi : ops[i]? = some o) (hd : (match o.op with | .defer _ => false | _ => true) = true) (hw : Region.wanted o (yielded ops a.tmps) = true)
    (h : ∀ K : Act → World → Prop, Hid (∀ a' w', (∀ p ∈ S, coveredB ops (listed.setIfInBounds i true) p.1 = true ∨ p.2 w') → HX l P ops Q S k (listed.setIfInBounds i true) a' w' → K a' w') → Oper.wp P o a w K Q) (hs : AllHX l P ops Q S k listed a w rs) : AllHX l P ops Q S k listed a w (i :: rs) := fun j hj => by
  rcases List.mem_cons.1 hj with rfl | hj
  · exact wpOpIn_round_of hi hd hw (h _ (Lib.hid (fun a' w' h1 h2 => ⟨fun p hp => (h1 p hp).imp coveredB_ok id, h2⟩)))
  · exact hs j hj
theorem hx_done (hr : Region.ready .any ops listed = []) (h : Q .normal a w) : HX l P ops Q S k listed a w := fun _ _ => by
  cases k with
  | zero => exact ⟨hr, h⟩
  | succ k => exact ⟨fun _ => h, by rw [hr]; simp⟩
end
end Go.Proofs.YtbjffjnmjkogkaaGreat
