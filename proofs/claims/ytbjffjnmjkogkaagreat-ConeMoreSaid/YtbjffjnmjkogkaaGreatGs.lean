import Derived.Test.YtbjffjnmjkogkaaGreatGw
set_option linter.unusedVariables false
set_option linter.unusedSimpArgs false
namespace Go.Proofs.YtbjffjnmjkogkaaGreat
open Go.RowKit
open Go.Maps Go.Shelf
section
variable {l : Nat} {P : Program} {ops : Array Oper} {Q : Exit → Act → World → Prop} {S : List (Nat × (World → Prop))} {k : Nat} {listed : Array Bool} {a : Act} {w : World}
theorem AllHX.skip {i : Nat} {o : Oper} {rs : List Nat} (hi : ops[i]? = some o) (hw : Region.wanted o (yielded ops a.tmps) = false)
    (h : ∀ K : Act → World → Prop, Hid (∀ a' w', (∀ p ∈ S, coveredB ops (listed.setIfInBounds i true) p.1 = true ∨ p.2 w') → HX l P ops Q S k (listed.setIfInBounds i true) a' w' → K a' w') → K (a.put o.dst undef) w) (hs : AllHX l P ops Q S k listed a w rs) : AllHX l P ops Q S k listed a w (i :: rs) := fun j hj => by
  rcases List.mem_cons.1 hj with rfl | hj
  · unfold wpOpIn
    simp only [hi, hw, Bool.false_eq_true, if_false]
    exact ⟨fun _ _ => trivial, h (fun a' w' => GT ops S (listed.setIfInBounds j true) w' ∧ HX l P ops Q S k (listed.setIfInBounds j true) a' w') (Lib.hid (fun a' w' h1 h2 => ⟨fun p hp => (h1 p hp).imp coveredB_ok id, h2⟩))⟩
  · exact hs j hj
end
def onlyN (R : Act → World → Prop) : Exit → Act → World → Prop
  | .normal, a, w => R a w
  | _, _, _ => False
theorem onlyN_is {R : Act → World → Prop} {e : Exit} {a : Act} {w : World} (h : onlyN R e a w) : e = .normal ∧ R a w := by
  cases e <;> first | exact ⟨rfl, h⟩ | exact h.elim
def setAll (k : Nat) : Nat → List Value → World → World
  | _, [], W => W
  | o, v :: vs, W => setAll k (o + 1) vs (W.setCell ⟨k, o, none⟩ v)
theorem setAll_blk {k : Nat} {t : TypeId} : ∀ (vs : List Value) (o : Nat) (W : World) (cs : Array Value), W.heap[k]? = some (.cells cs t) → cs.size = o + vs.length → (setAll k o vs W).heap[k]? = some (.cells (cs.toList.take o ++ vs).toArray t)
  | [], o, W, cs, h, hs => by
    have e : cs.toList.take o = cs.toList := List.take_of_length_le (by simp at hs; simp; omega)
    rw [e, List.append_nil, Array.toArray_toList]
    exact h
  | v :: vs, o, W, cs, h, hs => by
    have hs' : cs.size = o + (vs.length + 1) := hs
    have h1 := setAll_blk vs (o + 1) _ _ (heap_setCell_same (o := o) h v) (by simp; omega)
    rw [show setAll k o (v :: vs) W = setAll k (o + 1) vs (W.setCell ⟨k, o, none⟩ v) from rfl, h1]
    have e : ((cs.setIfInBounds o v).toList.take (o + 1)) = cs.toList.take o ++ [v] := by
      rw [List.take_add_one]
      have h2 : (cs.setIfInBounds o v).toList[o]? = some v := by
        rw [Array.toList_setIfInBounds, List.getElem?_set_self (by simp; omega)]
      have h3 : (cs.setIfInBounds o v).toList.take o = cs.toList.take o := by
        rw [Array.toList_setIfInBounds]
        exact List.take_set_of_le (Nat.le_refl _)
      rw [h2, h3]
      rfl
    rw [e, List.append_assoc]
    rfl
theorem setAll_grown {k : Nat} : ∀ (vs : List Value) (o : Nat) (W : World), W.grownBy (setAll k o vs W) (some k)
  | [], _, W => ⟨rfl, rfl, rfl, Nat.le_refl _, fun _ _ _ => rfl⟩
  | v :: vs, o, W => by
    have h1 : W.grownBy (W.setCell ⟨k, o, none⟩ v) (some k) := ⟨rfl, rfl, rfl, by simp [World.setCell], fun j _ hj => Below.heap_setCell _ _ _ _ (fun e => hj (by rw [show j = k from e]))⟩
    have h2 := setAll_grown (k := k) vs (o + 1) (W.setCell ⟨k, o, none⟩ v)
    exact ⟨h2.os.trans h1.os, h2.tape.trans h1.tape, h2.output.trans h1.output, Nat.le_trans h1.size h2.size, fun j hj hn => (h2.block j (Nat.lt_of_lt_of_le hj h1.size) hn).trans (h1.block j hj hn)⟩
theorem keeps_of_below {B : Nat} {W W' : World} (h : Below W.heap.size W W') : KeepsFrom B W W' := ⟨h.size, fun k o _ hk _ => blk_below hk h⟩
end Go.Proofs.YtbjffjnmjkogkaaGreat
